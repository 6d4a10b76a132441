/-
  A part of the proof.
-/
import Derived.Test.YthfemlhmnjfjiaaC3
import Derived.Test.YthfemlhmnjfjiaaC1
import Derived.Test.YthfemlhmnjfjiaaC2
import Derived.ProofKit
import Derived.OpenShut
import Derived.Lib.SmallJoins
import Derived.ChangeSame
import Derived.WideKeyArgs
import Derived.Deep.Strs
import Derived.LaidEqlPtr
/-
 Join.
-/
namespace Go.Proofs.Ythfemlhmnjfjiaa
open Go.RowKit
def sml (S : Sm) : List Value := [.int .i64 S.r, .int .i64 S.f, .int .i64 S.k, .int .i64 S.d, .int .i64 S.e, .int .u64 (l0 S.tt), .int .u64 (l1 S.tt), .int .u64 (l2 S.tt), .int .u64 (l3 S.tt), .int .u64 (l4 S.tt), .bool S.so, .bool S.mn.b, .int .u64 (l0 S.mn.n), .int .u64 (l1 S.mn.n), .int .u64 (l2 S.mn.n), .int .u64 (l3 S.mn.n), .int .i64 S.mn.s, .bool S.mx.b, .int .u64 (l0 S.mx.n), .int .u64 (l1 S.mx.n), .int .u64 (l2 S.mx.n), .int .u64 (l3 S.mx.n), .int .i64 S.mx.s]
def SS (w : World) (p : Option Addr) (L : List Sm) : Prop := ∀ i S, L[i]? = some S → ∃ b off, p = some ⟨b, off, none⟩ ∧ b < w.heap.size ∧ w.rangeAt b (off + i * 23) (sml S)
theorem SS.mo {w w' : World} {p : Option Addr} {L : List Sm} (h : SS w p L) (m : Mo w w') : SS w' p L := fun i o e => by
 obtain ⟨b, off, h1, h2, h3⟩ := h i o e
 exact ⟨b, off, h1, Nat.lt_of_lt_of_le h2 m.size, fun j v hv => (m.cell b _ h2).trans (h3 j v hv)⟩
theorem SS.load {w : World} {b off i : Nat} {S : Sm} (h : w.rangeAt b (off + i * 23) (sml S)) : (Instr.loadAt 42 (pt b (off + i * 23))).run Try.prog w = .ok (smv S) w :=
 run_loadAt_mid w b (off + i * 23) 42 (sml S) _ h Try.underlying42 rfl sz33
theorem ix36 (b off i n c : Nat) (h : i < n) (w : World) : (Instr.indexAt 47 (.slice (some ⟨b, off, none⟩) n c) (.int .i64 (i : Int))).run Try.prog w = .ok (pt b (off + i * 23)) w := by
 have e : (Instr.indexAt 47 (.slice (some ⟨b, off, none⟩) n c) (.int .i64 (i : Int))).run Try.prog w = .ok (.pointer (some ((⟨b, off, none⟩ : Addr).add (i * 23)))) w := by simp [go_sem, h]
 rw [e, Addr.add_mid]
theorem len36 (ρ : Operand → Value) (x : Operand) (p : Option Addr) (m c : Nat) (hx : ρ x = .slice p m c) (dst : Option Tmp) (type : TypeId) (pos : String) (after : Array Edge) (guard : Option (Nat × Bool)) (w : World) : (execOp ρ { dst, op := .call { callee := .builtin .len, args := #[x], argTypes := #[47] }, type, pos, after, guard }).run Try.prog w = .ok (.value (.int .i64 (m : Int))) w := by
 simp [go_sem, hx]
def jn (S T : Sm) : Sm := str ⟨w64 (S.r + T.r), w64 (S.f + T.f), w64 (S.k + T.k), w64 (S.d + T.d), les S.e T.e, S.tt + T.tt, S.so, S.mn, S.mx⟩ T
theorem str_ok {S T : Sm} (hS : S.ok) (hT : T.ok) : (str S T).ok := by
 unfold str
 split
 ·split
  ·refine ⟨?_, ?_⟩
   ·show D3.ok (if _ then _ else _); split; exact hT.1; exact hS.1
   ·show D3.ok (if _ then _ else _); split; exact hT.2; exact hS.2
  ·exact ⟨hT.1, hT.2⟩
 ·exact hS
theorem jn_ok {S T : Sm} (hS : S.ok) (hT : T.ok) : (jn S T).ok := str_ok (S := ⟨_, _, _, _, _, _, _, S.mn, S.mx⟩) ⟨hS.1, hS.2⟩ hT
theorem sm0_ok : sm0.ok := ⟨⟨Int.le_refl _, by unfold sm0 d0 MM; decide⟩, ⟨Int.le_refl _, by unfold sm0 d0 MM; decide⟩⟩
theorem fold_ok : ∀ (L : List Sm) {S : Sm}, S.ok → (∀ T ∈ L, T.ok) → (L.foldl jn S).ok
 | [], _, h, _ => h
 | T :: L, _, h, hL => fold_ok L (jn_ok h (hL T (by simp))) (fun U hU => hL U (by simp [hU]))
theorem fold_take {L : List Sm} {i : Nat} {T : Sm} (h : L[i]? = some T) (S : Sm) : (L.take (i + 1)).foldl jn S = jn ((L.take i).foldl jn S) T := by
 obtain ⟨hi, e⟩ := List.getElem?_eq_some_iff.1 h
 rw [List.take_add_one, h, Option.toList_some, List.foldl_append]; rfl
section
variable {w : World}
theorem join_n (L : List Sm) (p : Option Addr) (cap : Nat) (hL : ∀ T ∈ L, T.ok) (hSS : SS w p L) (hn : L.length ≤ 900000000000000000) : Calls Try.prog 49 #[.slice p L.length cap] w fun e w' => e = .returned (smv (L.foldl jn sm0)) ∧ Mo w w' := by
 refine w_enter 53 Try.func49 Try.ntmps49 rfl rfl ?_
 have M : Mo w w := Mo.refl _
 refine w_seq (w_reg ?_)
 refine wl_alloc 42 #[.int .i64 0, .int .i64 0, .int .i64 0, .int .i64 0, .int .i64 0, .int .u64 0, .int .u64 0, .int .u64 0, .int .u64 0, .int .u64 0, .bool false, .bool false, .int .u64 0, .int .u64 0, .int .u64 0, .int .u64 0, .int .i64 0, .bool false, .int .u64 0, .int .u64 0, .int .u64 0, .int .u64 0, .int .i64 0] rfl (fun _ => by kernel_rfl) rfl ?_
 intro k1 w1 hk hz hq Q1
 have N_k1 : w.heap.size ≤ k1 := by have := M.size; omega
 replace M := M.trans hq
 clear hk hz hq
 refine w_nil (xn_then (w_seq (w_reg ?_)))
 refine wl_alloc 42 #[.int .i64 0, .int .i64 0, .int .i64 0, .int .i64 0, .int .i64 0, .int .u64 0, .int .u64 0, .int .u64 0, .int .u64 0, .int .u64 0, .bool false, .bool false, .int .u64 0, .int .u64 0, .int .u64 0, .int .u64 0, .int .i64 0, .bool false, .int .u64 0, .int .u64 0, .int .u64 0, .int .u64 0, .int .i64 0] rfl (fun _ => by kernel_rfl) rfl ?_
 intro k2 w2 hk hz hq Q2
 have ne_k1_k2 : k1 ≠ k2 := by have := Q1.lt; omega
 have N_k2 : w.heap.size ≤ k2 := by have := M.size; omega
 replace Q1 := Q1.mo hq
 replace M := M.trans hq
 clear hk hz hq
 refine w_nil (xn_then (w_seq (w_seq (w_reg ?_))))
 refine wl_m (.tmp 0) (.slice p L.length cap) ?_
 refine wl_val (.int .i64 ((L.length : Int))) (len36 _ _ _ _ _ (by exact rfl) _ _ _ _ _ _) rfl ?_
 refine wl_m (.const (.int .i64 (0))) (.int .i64 (0)) ?_
 refine w_nil (xn_then (w_block ?_))
 refine w_loop (fun m l wc => ∃ (i : Nat), m + i = L.length ∧ look l 2 = pt k1 0 ∧ look l 3 = pt k2 0 ∧ look l 6 = .slice p L.length cap ∧ look l 7 = .int .i64 (L.length : Int) ∧ look l 8 = .int .i64 (i : Int) ∧ At wc k1 (sml sm0) ∧ At wc k2 (sml ((L.take i).foldl jn sm0)) ∧ Mo w wc) L.length ⟨0, by omega, rfl, rfl, rfl, rfl, rfl, Q1, Q2, M⟩ ?_
 clear M Q1 Q2
 rintro m l wc ⟨i, hm, e2, e3, e6, e7, e8, Q1, Q2, M⟩
 have hS : ((L.take i).foldl jn sm0).ok := fold_ok _ sm0_ok (fun U hU => hL U (List.mem_of_mem_take hU))
 obtain ⟨S, eS⟩ : ∃ X, (L.take i).foldl jn sm0 = X := ⟨_, rfl⟩
 rw [eS] at Q2 hS
 refine w_seq ?_
 cases hf0 : decide (i < L.length) with
 | true =>
  have hf0p := of_decide_eq_true hf0
  refine w_reg ?_
  refine wl_bin (fun x y => do eqGuard .lss 3 (.tmp 8) (.tmp 7) x y; binOp .lss 3 x y) (.tmp 8) (.tmp 7) (.int .i64 ((i : Nat) : Int)) (.int .i64 ((L.length : Int))) (.bool true) (fun _ => rfl) e8 e7 (ltN hf0 _ _ _) rfl ?_
  refine w_nil (xn_then (w_seq (w_condT rfl (w_skip (xn_then (w_seq (w_block (w_seq (w_reg ?_)))))))))
  obtain ⟨T, hTi⟩ : ∃ T, L[i]? = some T := ⟨L[i]'(by omega), List.getElem?_eq_getElem _⟩
  have hT := hL T (List.mem_of_getElem? hTi)
  obtain ⟨b, off, hpb, hbl, hrg⟩ := (hSS.mo M) _ T hTi
  refine wl_bin (fun x y => Instr.indexAt 47 x y) (.tmp 6) (.tmp 8) (.slice p L.length cap) (.int .i64 ((i : Nat) : Int)) (pt b (off + i * 23)) (fun _ => rfl) e6 e8 (by rw [hpb]; exact ix36 b off i _ _ (by omega) _) rfl ?_
  refine wl_l 42 (.tmp 10) (pt b (off + i * 23)) (.agg #[.int .i64 (T.r), .int .i64 (T.f), .int .i64 (T.k), .int .i64 (T.d), .int .i64 (T.e), .int .u64 (l0 (T.tt)), .int .u64 (l1 (T.tt)), .int .u64 (l2 (T.tt)), .int .u64 (l3 (T.tt)), .int .u64 (l4 (T.tt)), .bool T.so, .bool T.mn.b, .int .u64 (l0 (T.mn.n)), .int .u64 (l1 (T.mn.n)), .int .u64 (l2 (T.mn.n)), .int .u64 (l3 (T.mn.n)), .int .i64 (T.mn.s), .bool T.mx.b, .int .u64 (l0 (T.mx.n)), .int .u64 (l1 (T.mx.n)), .int .u64 (l2 (T.mx.n)), .int .u64 (l3 (T.mx.n)), .int .i64 (T.mx.s)]) (SS.load hrg) ?_
  refine wl_alloc 42 #[.int .i64 0, .int .i64 0, .int .i64 0, .int .i64 0, .int .i64 0, .int .u64 0, .int .u64 0, .int .u64 0, .int .u64 0, .int .u64 0, .bool false, .bool false, .int .u64 0, .int .u64 0, .int .u64 0, .int .u64 0, .int .i64 0, .bool false, .int .u64 0, .int .u64 0, .int .u64 0, .int .u64 0, .int .i64 0] rfl (fun _ => by kernel_rfl) rfl ?_
  intro k6 w11 hk hz hq Q6
  have ne_k1_k6 : k1 ≠ k6 := by have := Q1.lt; omega
  have ne_k2_k6 : k2 ≠ k6 := by have := Q2.lt; omega
  have N_k6 : w.heap.size ≤ k6 := by have := M.size; omega
  replace Q1 := Q1.mo hq
  replace Q2 := Q2.mo hq
  replace M := M.trans hq
  clear hk hz hq
  refine wl_st 42 (.tmp 5) (.tmp 11) k6 0 #[.int .i64 (T.r), .int .i64 (T.f), .int .i64 (T.k), .int .i64 (T.d), .int .i64 (T.e), .int .u64 (l0 (T.tt)), .int .u64 (l1 (T.tt)), .int .u64 (l2 (T.tt)), .int .u64 (l3 (T.tt)), .int .u64 (l4 (T.tt)), .bool T.so, .bool T.mn.b, .int .u64 (l0 (T.mn.n)), .int .u64 (l1 (T.mn.n)), .int .u64 (l2 (T.mn.n)), .int .u64 (l3 (T.mn.n)), .int .i64 (T.mn.s), .bool T.mx.b, .int .u64 (l0 (T.mx.n)), .int .u64 (l1 (T.mx.n)), .int .u64 (l2 (T.mx.n)), .int .u64 (l3 (T.mx.n)), .int .i64 (T.mx.s)] _ [.int .i64 (T.r), .int .i64 (T.f), .int .i64 (T.k), .int .i64 (T.d), .int .i64 (T.e), .int .u64 (l0 (T.tt)), .int .u64 (l1 (T.tt)), .int .u64 (l2 (T.tt)), .int .u64 (l3 (T.tt)), .int .u64 (l4 (T.tt)), .bool T.so, .bool T.mn.b, .int .u64 (l0 (T.mn.n)), .int .u64 (l1 (T.mn.n)), .int .u64 (l2 (T.mn.n)), .int .u64 (l3 (T.mn.n)), .int .i64 (T.mn.s), .bool T.mx.b, .int .u64 (l0 (T.mx.n)), .int .u64 (l1 (T.mx.n)), .int .u64 (l2 (T.mx.n)), .int .u64 (l3 (T.mx.n)), .int .i64 (T.mx.s)] Q6 rfl rfl rfl rfl rfl sz33 rfl rfl rfl ?_
  intro w12 hS Qn
  replace Q6 := Qn
  clear Qn
  replace Q1 := hS.other _ _ ne_k1_k6 Q1
  replace Q2 := hS.other _ _ ne_k2_k6 Q2
  replace M := hS.mo _ N_k6 M
  clear hS
  refine w_nil (xn_then (w_seq (w_reg ?_)))
  refine wl_un (fun v => Instr.fieldAt 42 v 0) (.tmp 3) (pt k2 0) (pt k2 0) (fun _ => rfl) e3 (by kernel_rfl) rfl ?_
  refine wl_l 3 (.tmp 12) (pt k2 0) (.int .i64 (S.r)) (run_one Q2 3 0 rfl Try.underlying3 rfl) ?_
  refine wl_f 42 0 (.tmp 5) (pt k6 0) (pt k6 0) ?_
  refine wl_l 3 (.tmp 14) (pt k6 0) (.int .i64 (T.r)) (run_one Q6 3 0 rfl Try.underlying3 rfl) ?_
  refine wl_b .add 3 (.tmp 13) (.tmp 15) (.int .i64 (S.r)) (.int .i64 (T.r)) (.int .i64 (w64 (S.r + T.r))) (addW _ _ _ _ _) ?_
  refine wl_un (fun v => Instr.fieldAt 42 v 0) (.tmp 3) (pt k2 0) (pt k2 0) (fun _ => rfl) e3 (by kernel_rfl) rfl ?_
  refine wl_st1 3 (.tmp 17) (.tmp 16) k2 0 (.int .i64 (w64 (S.r + T.r))) _ [.int .i64 (w64 (S.r + T.r)), .int .i64 (S.f), .int .i64 (S.k), .int .i64 (S.d), .int .i64 (S.e), .int .u64 (l0 (S.tt)), .int .u64 (l1 (S.tt)), .int .u64 (l2 (S.tt)), .int .u64 (l3 (S.tt)), .int .u64 (l4 (S.tt)), .bool S.so, .bool S.mn.b, .int .u64 (l0 (S.mn.n)), .int .u64 (l1 (S.mn.n)), .int .u64 (l2 (S.mn.n)), .int .u64 (l3 (S.mn.n)), .int .i64 (S.mn.s), .bool S.mx.b, .int .u64 (l0 (S.mx.n)), .int .u64 (l1 (S.mx.n)), .int .u64 (l2 (S.mx.n)), .int .u64 (l3 (S.mx.n)), .int .i64 (S.mx.s)] Q2 rfl rfl rfl rfl rfl sz3 rfl rfl rfl rfl ?_
  intro w13 hS Qn
  replace Q2 := Qn
  clear Qn
  replace Q1 := hS.other _ _ ne_k1_k2 Q1
  replace Q6 := hS.other _ _ ne_k2_k6.symm Q6
  replace M := hS.mo _ N_k2 M
  clear hS
  refine w_nil (xn_then (w_seq (w_reg ?_)))
  refine wl_un (fun v => Instr.fieldAt 42 v 1) (.tmp 3) (pt k2 0) (pt k2 1) (fun _ => rfl) e3 (by kernel_rfl) rfl ?_
  refine wl_l 3 (.tmp 18) (pt k2 1) (.int .i64 (S.f)) (run_one Q2 3 1 rfl Try.underlying3 rfl) ?_
  refine wl_f 42 1 (.tmp 5) (pt k6 0) (pt k6 1) ?_
  refine wl_l 3 (.tmp 20) (pt k6 1) (.int .i64 (T.f)) (run_one Q6 3 1 rfl Try.underlying3 rfl) ?_
  refine wl_b .add 3 (.tmp 19) (.tmp 21) (.int .i64 (S.f)) (.int .i64 (T.f)) (.int .i64 (w64 (S.f + T.f))) (addW _ _ _ _ _) ?_
  refine wl_un (fun v => Instr.fieldAt 42 v 1) (.tmp 3) (pt k2 0) (pt k2 1) (fun _ => rfl) e3 (by kernel_rfl) rfl ?_
  refine wl_st1 3 (.tmp 23) (.tmp 22) k2 1 (.int .i64 (w64 (S.f + T.f))) _ [.int .i64 (w64 (S.r + T.r)), .int .i64 (w64 (S.f + T.f)), .int .i64 (S.k), .int .i64 (S.d), .int .i64 (S.e), .int .u64 (l0 (S.tt)), .int .u64 (l1 (S.tt)), .int .u64 (l2 (S.tt)), .int .u64 (l3 (S.tt)), .int .u64 (l4 (S.tt)), .bool S.so, .bool S.mn.b, .int .u64 (l0 (S.mn.n)), .int .u64 (l1 (S.mn.n)), .int .u64 (l2 (S.mn.n)), .int .u64 (l3 (S.mn.n)), .int .i64 (S.mn.s), .bool S.mx.b, .int .u64 (l0 (S.mx.n)), .int .u64 (l1 (S.mx.n)), .int .u64 (l2 (S.mx.n)), .int .u64 (l3 (S.mx.n)), .int .i64 (S.mx.s)] Q2 rfl rfl rfl rfl rfl sz3 rfl rfl rfl rfl ?_
  intro w14 hS Qn
  replace Q2 := Qn
  clear Qn
  replace Q1 := hS.other _ _ ne_k1_k2 Q1
  replace Q6 := hS.other _ _ ne_k2_k6.symm Q6
  replace M := hS.mo _ N_k2 M
  clear hS
  refine w_nil (xn_then (w_seq (w_reg ?_)))
  refine wl_un (fun v => Instr.fieldAt 42 v 2) (.tmp 3) (pt k2 0) (pt k2 2) (fun _ => rfl) e3 (by kernel_rfl) rfl ?_
  refine wl_l 3 (.tmp 24) (pt k2 2) (.int .i64 (S.k)) (run_one Q2 3 2 rfl Try.underlying3 rfl) ?_
  refine wl_f 42 2 (.tmp 5) (pt k6 0) (pt k6 2) ?_
  refine wl_l 3 (.tmp 26) (pt k6 2) (.int .i64 (T.k)) (run_one Q6 3 2 rfl Try.underlying3 rfl) ?_
  refine wl_b .add 3 (.tmp 25) (.tmp 27) (.int .i64 (S.k)) (.int .i64 (T.k)) (.int .i64 (w64 (S.k + T.k))) (addW _ _ _ _ _) ?_
  refine wl_un (fun v => Instr.fieldAt 42 v 2) (.tmp 3) (pt k2 0) (pt k2 2) (fun _ => rfl) e3 (by kernel_rfl) rfl ?_
  refine wl_st1 3 (.tmp 29) (.tmp 28) k2 2 (.int .i64 (w64 (S.k + T.k))) _ [.int .i64 (w64 (S.r + T.r)), .int .i64 (w64 (S.f + T.f)), .int .i64 (w64 (S.k + T.k)), .int .i64 (S.d), .int .i64 (S.e), .int .u64 (l0 (S.tt)), .int .u64 (l1 (S.tt)), .int .u64 (l2 (S.tt)), .int .u64 (l3 (S.tt)), .int .u64 (l4 (S.tt)), .bool S.so, .bool S.mn.b, .int .u64 (l0 (S.mn.n)), .int .u64 (l1 (S.mn.n)), .int .u64 (l2 (S.mn.n)), .int .u64 (l3 (S.mn.n)), .int .i64 (S.mn.s), .bool S.mx.b, .int .u64 (l0 (S.mx.n)), .int .u64 (l1 (S.mx.n)), .int .u64 (l2 (S.mx.n)), .int .u64 (l3 (S.mx.n)), .int .i64 (S.mx.s)] Q2 rfl rfl rfl rfl rfl sz3 rfl rfl rfl rfl ?_
  intro w15 hS Qn
  replace Q2 := Qn
  clear Qn
  replace Q1 := hS.other _ _ ne_k1_k2 Q1
  replace Q6 := hS.other _ _ ne_k2_k6.symm Q6
  replace M := hS.mo _ N_k2 M
  clear hS
  refine w_nil (xn_then (w_seq (w_reg ?_)))
  refine wl_un (fun v => Instr.fieldAt 42 v 3) (.tmp 3) (pt k2 0) (pt k2 3) (fun _ => rfl) e3 (by kernel_rfl) rfl ?_
  refine wl_l 3 (.tmp 30) (pt k2 3) (.int .i64 (S.d)) (run_one Q2 3 3 rfl Try.underlying3 rfl) ?_
  refine wl_f 42 3 (.tmp 5) (pt k6 0) (pt k6 3) ?_
  refine wl_l 3 (.tmp 32) (pt k6 3) (.int .i64 (T.d)) (run_one Q6 3 3 rfl Try.underlying3 rfl) ?_
  refine wl_b .add 3 (.tmp 31) (.tmp 33) (.int .i64 (S.d)) (.int .i64 (T.d)) (.int .i64 (w64 (S.d + T.d))) (addW _ _ _ _ _) ?_
  refine wl_un (fun v => Instr.fieldAt 42 v 3) (.tmp 3) (pt k2 0) (pt k2 3) (fun _ => rfl) e3 (by kernel_rfl) rfl ?_
  refine wl_st1 3 (.tmp 35) (.tmp 34) k2 3 (.int .i64 (w64 (S.d + T.d))) _ [.int .i64 (w64 (S.r + T.r)), .int .i64 (w64 (S.f + T.f)), .int .i64 (w64 (S.k + T.k)), .int .i64 (w64 (S.d + T.d)), .int .i64 (S.e), .int .u64 (l0 (S.tt)), .int .u64 (l1 (S.tt)), .int .u64 (l2 (S.tt)), .int .u64 (l3 (S.tt)), .int .u64 (l4 (S.tt)), .bool S.so, .bool S.mn.b, .int .u64 (l0 (S.mn.n)), .int .u64 (l1 (S.mn.n)), .int .u64 (l2 (S.mn.n)), .int .u64 (l3 (S.mn.n)), .int .i64 (S.mn.s), .bool S.mx.b, .int .u64 (l0 (S.mx.n)), .int .u64 (l1 (S.mx.n)), .int .u64 (l2 (S.mx.n)), .int .u64 (l3 (S.mx.n)), .int .i64 (S.mx.s)] Q2 rfl rfl rfl rfl rfl sz3 rfl rfl rfl rfl ?_
  intro w16 hS Qn
  replace Q2 := Qn
  clear Qn
  replace Q1 := hS.other _ _ ne_k1_k2 Q1
  replace Q6 := hS.other _ _ ne_k2_k6.symm Q6
  replace M := hS.mo _ N_k2 M
  clear hS
  refine w_nil (xn_then (w_seq (w_reg ?_)))
  refine wl_un (fun v => Instr.fieldAt 42 v 4) (.tmp 3) (pt k2 0) (pt k2 4) (fun _ => rfl) e3 (by kernel_rfl) rfl ?_
  refine wl_l 3 (.tmp 36) (pt k2 4) (.int .i64 (S.e)) (run_one Q2 3 4 rfl Try.underlying3 rfl) ?_
  refine wl_f 42 4 (.tmp 5) (pt k6 0) (pt k6 4) ?_
  refine wl_l 3 (.tmp 38) (pt k6 4) (.int .i64 (T.e)) (run_one Q6 3 4 rfl Try.underlying3 rfl) ?_
  refine wl_call 62 [(.tmp 37), (.tmp 39)] _ [.int .i64 (S.e), .int .i64 (T.e)] (.int .i64 (les S.e T.e)) rfl rfl (fun _ _ => by kernel_rfl) (les_n S.e T.e) rfl ?_
  intro w17 hq
  replace Q1 := Q1.mo hq
  replace Q2 := Q2.mo hq
  replace Q6 := Q6.mo hq
  replace M := M.trans hq
  clear hq
  refine wl_un (fun v => Instr.fieldAt 42 v 4) (.tmp 3) (pt k2 0) (pt k2 4) (fun _ => rfl) e3 (by kernel_rfl) rfl ?_
  refine wl_st1 3 (.tmp 41) (.tmp 40) k2 4 (.int .i64 (les S.e T.e)) _ [.int .i64 (w64 (S.r + T.r)), .int .i64 (w64 (S.f + T.f)), .int .i64 (w64 (S.k + T.k)), .int .i64 (w64 (S.d + T.d)), .int .i64 (les S.e T.e), .int .u64 (l0 (S.tt)), .int .u64 (l1 (S.tt)), .int .u64 (l2 (S.tt)), .int .u64 (l3 (S.tt)), .int .u64 (l4 (S.tt)), .bool S.so, .bool S.mn.b, .int .u64 (l0 (S.mn.n)), .int .u64 (l1 (S.mn.n)), .int .u64 (l2 (S.mn.n)), .int .u64 (l3 (S.mn.n)), .int .i64 (S.mn.s), .bool S.mx.b, .int .u64 (l0 (S.mx.n)), .int .u64 (l1 (S.mx.n)), .int .u64 (l2 (S.mx.n)), .int .u64 (l3 (S.mx.n)), .int .i64 (S.mx.s)] Q2 rfl rfl rfl rfl rfl sz3 rfl rfl rfl rfl ?_
  intro w18 hS Qn
  replace Q2 := Qn
  clear Qn
  replace Q1 := hS.other _ _ ne_k1_k2 Q1
  replace Q6 := hS.other _ _ ne_k2_k6.symm Q6
  replace M := hS.mo _ N_k2 M
  clear hS
  refine w_nil (xn_then (w_seq (w_reg ?_)))
  refine wl_un (fun v => Instr.fieldAt 42 v 5) (.tmp 3) (pt k2 0) (pt k2 5) (fun _ => rfl) e3 (by kernel_rfl) rfl ?_
  refine wl_l 36 (.tmp 42) (pt k2 5) (.agg #[.int .u64 (l0 (S.tt)), .int .u64 (l1 (S.tt)), .int .u64 (l2 (S.tt)), .int .u64 (l3 (S.tt)), .int .u64 (l4 (S.tt))]) (run_row Q2 36 5 5 _ rfl Try.underlying36 rfl sz31) ?_
  refine wl_f 42 5 (.tmp 5) (pt k6 0) (pt k6 5) ?_
  refine wl_l 36 (.tmp 44) (pt k6 5) (.agg #[.int .u64 (l0 (T.tt)), .int .u64 (l1 (T.tt)), .int .u64 (l2 (T.tt)), .int .u64 (l3 (T.tt)), .int .u64 (l4 (T.tt))]) (run_row Q6 36 5 5 _ rfl Try.underlying36 rfl sz31) ?_
  refine wl_call 63 [(.tmp 43), (.tmp 45)] _ [.agg #[.int .u64 (l0 (S.tt)), .int .u64 (l1 (S.tt)), .int .u64 (l2 (S.tt)), .int .u64 (l3 (S.tt)), .int .u64 (l4 (S.tt))], .agg #[.int .u64 (l0 (T.tt)), .int .u64 (l1 (T.tt)), .int .u64 (l2 (T.tt)), .int .u64 (l3 (T.tt)), .int .u64 (l4 (T.tt))]] (.agg #[.int .u64 (l0 (S.tt + T.tt)), .int .u64 (l1 (S.tt + T.tt)), .int .u64 (l2 (S.tt + T.tt)), .int .u64 (l3 (S.tt + T.tt)), .int .u64 (l4 (S.tt + T.tt))]) rfl rfl (fun _ _ => by kernel_rfl) (addw_n S.tt T.tt) rfl ?_
  intro w19 hq
  replace Q1 := Q1.mo hq
  replace Q2 := Q2.mo hq
  replace Q6 := Q6.mo hq
  replace M := M.trans hq
  clear hq
  refine wl_un (fun v => Instr.fieldAt 42 v 5) (.tmp 3) (pt k2 0) (pt k2 5) (fun _ => rfl) e3 (by kernel_rfl) rfl ?_
  refine wl_st 36 (.tmp 47) (.tmp 46) k2 5 #[.int .u64 (l0 (S.tt + T.tt)), .int .u64 (l1 (S.tt + T.tt)), .int .u64 (l2 (S.tt + T.tt)), .int .u64 (l3 (S.tt + T.tt)), .int .u64 (l4 (S.tt + T.tt))] _ [.int .i64 (w64 (S.r + T.r)), .int .i64 (w64 (S.f + T.f)), .int .i64 (w64 (S.k + T.k)), .int .i64 (w64 (S.d + T.d)), .int .i64 (les S.e T.e), .int .u64 (l0 (S.tt + T.tt)), .int .u64 (l1 (S.tt + T.tt)), .int .u64 (l2 (S.tt + T.tt)), .int .u64 (l3 (S.tt + T.tt)), .int .u64 (l4 (S.tt + T.tt)), .bool S.so, .bool S.mn.b, .int .u64 (l0 (S.mn.n)), .int .u64 (l1 (S.mn.n)), .int .u64 (l2 (S.mn.n)), .int .u64 (l3 (S.mn.n)), .int .i64 (S.mn.s), .bool S.mx.b, .int .u64 (l0 (S.mx.n)), .int .u64 (l1 (S.mx.n)), .int .u64 (l2 (S.mx.n)), .int .u64 (l3 (S.mx.n)), .int .i64 (S.mx.s)] Q2 rfl rfl rfl rfl rfl sz31 rfl rfl rfl ?_
  intro w20 hS Qn
  replace Q2 := Qn
  clear Qn
  replace Q1 := hS.other _ _ ne_k1_k2 Q1
  replace Q6 := hS.other _ _ ne_k2_k6.symm Q6
  replace M := hS.mo _ N_k2 M
  clear hS
  refine w_nil (xn_then (w_reg ?_))
  refine wl_load 42 (.tmp 3) (pt k2 0) (.agg #[.int .i64 (w64 (S.r + T.r)), .int .i64 (w64 (S.f + T.f)), .int .i64 (w64 (S.k + T.k)), .int .i64 (w64 (S.d + T.d)), .int .i64 (les S.e T.e), .int .u64 (l0 (S.tt + T.tt)), .int .u64 (l1 (S.tt + T.tt)), .int .u64 (l2 (S.tt + T.tt)), .int .u64 (l3 (S.tt + T.tt)), .int .u64 (l4 (S.tt + T.tt)), .bool S.so, .bool S.mn.b, .int .u64 (l0 (S.mn.n)), .int .u64 (l1 (S.mn.n)), .int .u64 (l2 (S.mn.n)), .int .u64 (l3 (S.mn.n)), .int .i64 (S.mn.s), .bool S.mx.b, .int .u64 (l0 (S.mx.n)), .int .u64 (l1 (S.mx.n)), .int .u64 (l2 (S.mx.n)), .int .u64 (l3 (S.mx.n)), .int .i64 (S.mx.s)]) rfl e3 (run_row Q2 42 0 23 _ rfl Try.underlying42 rfl sz33) rfl ?_
  refine wl_l 42 (.tmp 5) (pt k6 0) (.agg #[.int .i64 (T.r), .int .i64 (T.f), .int .i64 (T.k), .int .i64 (T.d), .int .i64 (T.e), .int .u64 (l0 (T.tt)), .int .u64 (l1 (T.tt)), .int .u64 (l2 (T.tt)), .int .u64 (l3 (T.tt)), .int .u64 (l4 (T.tt)), .bool T.so, .bool T.mn.b, .int .u64 (l0 (T.mn.n)), .int .u64 (l1 (T.mn.n)), .int .u64 (l2 (T.mn.n)), .int .u64 (l3 (T.mn.n)), .int .i64 (T.mn.s), .bool T.mx.b, .int .u64 (l0 (T.mx.n)), .int .u64 (l1 (T.mx.n)), .int .u64 (l2 (T.mx.n)), .int .u64 (l3 (T.mx.n)), .int .i64 (T.mx.s)]) (run_row Q6 42 0 23 _ rfl Try.underlying42 rfl sz33) ?_
  refine wl_call 64 [(.tmp 48), (.tmp 49)] _ [.agg #[.int .i64 (w64 (S.r + T.r)), .int .i64 (w64 (S.f + T.f)), .int .i64 (w64 (S.k + T.k)), .int .i64 (w64 (S.d + T.d)), .int .i64 (les S.e T.e), .int .u64 (l0 (S.tt + T.tt)), .int .u64 (l1 (S.tt + T.tt)), .int .u64 (l2 (S.tt + T.tt)), .int .u64 (l3 (S.tt + T.tt)), .int .u64 (l4 (S.tt + T.tt)), .bool S.so, .bool S.mn.b, .int .u64 (l0 (S.mn.n)), .int .u64 (l1 (S.mn.n)), .int .u64 (l2 (S.mn.n)), .int .u64 (l3 (S.mn.n)), .int .i64 (S.mn.s), .bool S.mx.b, .int .u64 (l0 (S.mx.n)), .int .u64 (l1 (S.mx.n)), .int .u64 (l2 (S.mx.n)), .int .u64 (l3 (S.mx.n)), .int .i64 (S.mx.s)], .agg #[.int .i64 (T.r), .int .i64 (T.f), .int .i64 (T.k), .int .i64 (T.d), .int .i64 (T.e), .int .u64 (l0 (T.tt)), .int .u64 (l1 (T.tt)), .int .u64 (l2 (T.tt)), .int .u64 (l3 (T.tt)), .int .u64 (l4 (T.tt)), .bool T.so, .bool T.mn.b, .int .u64 (l0 (T.mn.n)), .int .u64 (l1 (T.mn.n)), .int .u64 (l2 (T.mn.n)), .int .u64 (l3 (T.mn.n)), .int .i64 (T.mn.s), .bool T.mx.b, .int .u64 (l0 (T.mx.n)), .int .u64 (l1 (T.mx.n)), .int .u64 (l2 (T.mx.n)), .int .u64 (l3 (T.mx.n)), .int .i64 (T.mx.s)]] (.agg #[.int .i64 ((jn S T).r), .int .i64 ((jn S T).f), .int .i64 ((jn S T).k), .int .i64 ((jn S T).d), .int .i64 ((jn S T).e), .int .u64 (l0 ((jn S T).tt)), .int .u64 (l1 ((jn S T).tt)), .int .u64 (l2 ((jn S T).tt)), .int .u64 (l3 ((jn S T).tt)), .int .u64 (l4 ((jn S T).tt)), .bool (jn S T).so, .bool (jn S T).mn.b, .int .u64 (l0 ((jn S T).mn.n)), .int .u64 (l1 ((jn S T).mn.n)), .int .u64 (l2 ((jn S T).mn.n)), .int .u64 (l3 ((jn S T).mn.n)), .int .i64 ((jn S T).mn.s), .bool (jn S T).mx.b, .int .u64 (l0 ((jn S T).mx.n)), .int .u64 (l1 ((jn S T).mx.n)), .int .u64 (l2 ((jn S T).mx.n)), .int .u64 (l3 ((jn S T).mx.n)), .int .i64 ((jn S T).mx.s)]) rfl rfl (fun _ _ => by kernel_rfl) (str_n ⟨w64 (S.r + T.r), w64 (S.f + T.f), w64 (S.k + T.k), w64 (S.d + T.d), les S.e T.e, S.tt + T.tt, S.so, S.mn, S.mx⟩ T ⟨hS.1, hS.2⟩ hT) rfl ?_
  intro w21 hq
  replace Q1 := Q1.mo hq
  replace Q2 := Q2.mo hq
  replace Q6 := Q6.mo hq
  replace M := M.trans hq
  clear hq
  refine wl_st 42 (.tmp 3) (.tmp 50) k2 0 #[.int .i64 ((jn S T).r), .int .i64 ((jn S T).f), .int .i64 ((jn S T).k), .int .i64 ((jn S T).d), .int .i64 ((jn S T).e), .int .u64 (l0 ((jn S T).tt)), .int .u64 (l1 ((jn S T).tt)), .int .u64 (l2 ((jn S T).tt)), .int .u64 (l3 ((jn S T).tt)), .int .u64 (l4 ((jn S T).tt)), .bool (jn S T).so, .bool (jn S T).mn.b, .int .u64 (l0 ((jn S T).mn.n)), .int .u64 (l1 ((jn S T).mn.n)), .int .u64 (l2 ((jn S T).mn.n)), .int .u64 (l3 ((jn S T).mn.n)), .int .i64 ((jn S T).mn.s), .bool (jn S T).mx.b, .int .u64 (l0 ((jn S T).mx.n)), .int .u64 (l1 ((jn S T).mx.n)), .int .u64 (l2 ((jn S T).mx.n)), .int .u64 (l3 ((jn S T).mx.n)), .int .i64 ((jn S T).mx.s)] _ [.int .i64 ((jn S T).r), .int .i64 ((jn S T).f), .int .i64 ((jn S T).k), .int .i64 ((jn S T).d), .int .i64 ((jn S T).e), .int .u64 (l0 ((jn S T).tt)), .int .u64 (l1 ((jn S T).tt)), .int .u64 (l2 ((jn S T).tt)), .int .u64 (l3 ((jn S T).tt)), .int .u64 (l4 ((jn S T).tt)), .bool (jn S T).so, .bool (jn S T).mn.b, .int .u64 (l0 ((jn S T).mn.n)), .int .u64 (l1 ((jn S T).mn.n)), .int .u64 (l2 ((jn S T).mn.n)), .int .u64 (l3 ((jn S T).mn.n)), .int .i64 ((jn S T).mn.s), .bool (jn S T).mx.b, .int .u64 (l0 ((jn S T).mx.n)), .int .u64 (l1 ((jn S T).mx.n)), .int .u64 (l2 ((jn S T).mx.n)), .int .u64 (l3 ((jn S T).mx.n)), .int .i64 ((jn S T).mx.s)] Q2 rfl rfl e3 rfl rfl sz33 rfl rfl rfl ?_
  intro w22 hS Qn
  replace Q2 := Qn
  clear Qn
  replace Q1 := hS.other _ _ ne_k1_k2 Q1
  replace Q6 := hS.other _ _ ne_k2_k6.symm Q6
  replace M := hS.mo _ N_k2 M
  clear hS
  refine w_nil (xn_blk (xn_then (w_reg ?_)))
  refine wl_bin (fun x y => do eqGuard .add 3 (.tmp 8) (.const (.int .i64 (1))) x y; binOp .add 3 x y) (.tmp 8) (.const (.int .i64 (1))) (.int .i64 ((i : Nat) : Int)) (.int .i64 (1)) (.int .i64 ((i + 1 : Nat) : Int)) (fun _ => rfl) e8 rfl (add1N (by omega) _ _ _) rfl ?_
  refine wl_m (.tmp 51) (.int .i64 ((i + 1 : Nat) : Int)) ?_
  refine w_nil ?_
  exact xn_loop (m - 1) (by omega) ⟨i + 1, by omega, e2, e3, e6, e7, rfl, Q1, by rw [fold_take hTi, eS]; exact Q2, M⟩
 | false =>
  have hf0p := of_decide_eq_false hf0
  refine w_reg ?_
  refine wl_bin (fun x y => do eqGuard .lss 3 (.tmp 8) (.tmp 7) x y; binOp .lss 3 x y) (.tmp 8) (.tmp 7) (.int .i64 ((i : Nat) : Int)) (.int .i64 ((L.length : Int))) (.bool false) (fun _ => rfl) e8 e7 (ltN hf0 _ _ _) rfl ?_
  refine w_nil (xn_then (w_seq (w_condF rfl (w_exit (xx_then (xx_then ?_))))))
  have hi3 : i = L.length := by omega
  rw [hi3, List.take_length] at eS
  refine xx_blk (xn_then (w_seq (w_reg ?_)))
  refine wl_load 42 (.tmp 3) (pt k2 0) (.agg #[.int .i64 (S.r), .int .i64 (S.f), .int .i64 (S.k), .int .i64 (S.d), .int .i64 (S.e), .int .u64 (l0 (S.tt)), .int .u64 (l1 (S.tt)), .int .u64 (l2 (S.tt)), .int .u64 (l3 (S.tt)), .int .u64 (l4 (S.tt)), .bool S.so, .bool S.mn.b, .int .u64 (l0 (S.mn.n)), .int .u64 (l1 (S.mn.n)), .int .u64 (l2 (S.mn.n)), .int .u64 (l3 (S.mn.n)), .int .i64 (S.mn.s), .bool S.mx.b, .int .u64 (l0 (S.mx.n)), .int .u64 (l1 (S.mx.n)), .int .u64 (l2 (S.mx.n)), .int .u64 (l3 (S.mx.n)), .int .i64 (S.mx.s)]) rfl e3 (run_row Q2 42 0 23 _ rfl Try.underlying42 rfl sz33) rfl ?_
  refine wl_st 42 (.tmp 2) (.tmp 52) k1 0 #[.int .i64 (S.r), .int .i64 (S.f), .int .i64 (S.k), .int .i64 (S.d), .int .i64 (S.e), .int .u64 (l0 (S.tt)), .int .u64 (l1 (S.tt)), .int .u64 (l2 (S.tt)), .int .u64 (l3 (S.tt)), .int .u64 (l4 (S.tt)), .bool S.so, .bool S.mn.b, .int .u64 (l0 (S.mn.n)), .int .u64 (l1 (S.mn.n)), .int .u64 (l2 (S.mn.n)), .int .u64 (l3 (S.mn.n)), .int .i64 (S.mn.s), .bool S.mx.b, .int .u64 (l0 (S.mx.n)), .int .u64 (l1 (S.mx.n)), .int .u64 (l2 (S.mx.n)), .int .u64 (l3 (S.mx.n)), .int .i64 (S.mx.s)] _ [.int .i64 (S.r), .int .i64 (S.f), .int .i64 (S.k), .int .i64 (S.d), .int .i64 (S.e), .int .u64 (l0 (S.tt)), .int .u64 (l1 (S.tt)), .int .u64 (l2 (S.tt)), .int .u64 (l3 (S.tt)), .int .u64 (l4 (S.tt)), .bool S.so, .bool S.mn.b, .int .u64 (l0 (S.mn.n)), .int .u64 (l1 (S.mn.n)), .int .u64 (l2 (S.mn.n)), .int .u64 (l3 (S.mn.n)), .int .i64 (S.mn.s), .bool S.mx.b, .int .u64 (l0 (S.mx.n)), .int .u64 (l1 (S.mx.n)), .int .u64 (l2 (S.mx.n)), .int .u64 (l3 (S.mx.n)), .int .i64 (S.mx.s)] Q1 rfl rfl e2 rfl rfl sz33 rfl rfl rfl ?_
  intro w11 hS Qn
  replace Q1 := Qn
  clear Qn
  replace Q2 := hS.other _ _ ne_k1_k2.symm Q2
  replace M := hS.mo _ N_k1 M
  clear hS
  refine w_nil (xn_then (w_ret ?_))
  exact w_ret1 _ (.agg #[.int .i64 (S.r), .int .i64 (S.f), .int .i64 (S.k), .int .i64 (S.d), .int .i64 (S.e), .int .u64 (l0 (S.tt)), .int .u64 (l1 (S.tt)), .int .u64 (l2 (S.tt)), .int .u64 (l3 (S.tt)), .int .u64 (l4 (S.tt)), .bool S.so, .bool S.mn.b, .int .u64 (l0 (S.mn.n)), .int .u64 (l1 (S.mn.n)), .int .u64 (l2 (S.mn.n)), .int .u64 (l3 (S.mn.n)), .int .i64 (S.mn.s), .bool S.mx.b, .int .u64 (l0 (S.mx.n)), .int .u64 (l1 (S.mx.n)), .int .u64 (l2 (S.mx.n)), .int .u64 (l3 (S.mx.n)), .int .i64 (S.mx.s)]) rfl ⟨k1, e2, (run_row Q1 42 0 23 _ rfl Try.underlying42 rfl sz33)⟩ ⟨by rw [eS], M⟩
end
end Go.Proofs.Ythfemlhmnjfjiaa

/-
 A region that draws its order, once more: an operation may yield a slice of a new block, too.
-/
namespace Go.Proofs.Ythfemlhmnjfjiaa.X
open Go.RowKit
abbrev Sp := Sum Value (List Value × Option Nat)
def nvv (z : List Value × Option Nat) (k : Nat) : Value := match z.2 with
 | none => pt k 0
 | some n => .slice (some ⟨k, 0, none⟩) n n
theorem nvv_inj {z : List Value × Option Nat} {a b : Nat} (h : nvv z a = nvv z b) : a = b := by
 obtain ⟨cs, o⟩ := z
 cases o with
 | none => simpa [nvv] using h
 | some n => simpa [nvv] using h
def spNew : Sp → Bool
 | .inl _ => false
 | .inr z => z.2.isNone
def spDen (N : Nat) : Sp → Value → World → Prop
 | .inl v, u, _ => u = v
 | .inr zs, u, w => ∃ k, u = nvv zs k ∧ N ≤ k ∧ At w k zs.1
theorem spMo {N : Nat} {s : Sp} {u : Value} {w w' : World} (m : Mo w w') (h : spDen N s u w) : spDen N s u w' := by
 cases s with
 | inl v => exact h
 | inr zs => obtain ⟨k, h1, h2, h3⟩ := h; exact ⟨k, h1, h2, h3.mo m⟩
def spAt (sp : List Sp) (i : Nat) : Sp := (sp[i]?).getD (.inl undef)
def Ds (sp : List Sp) (f : Nat → Value) (w : World) : Prop :=
 (∀ j, spNew (spAt sp j) = true → ∀ k, f j = pt k 0 → k < w.heap.size) ∧ ∀ i j, spNew (spAt sp i) = true → spNew (spAt sp j) = true → i ≠ j → ∀ k, f i = pt k 0 → f j ≠ pt k 0
theorem Ds.other {sp : List Sp} {f : Nat → Value} {w w' : World} {i : Nat} {v : Value} (h : Ds sp f w) (hi : spNew (spAt sp i) = false) (hz : w.heap.size ≤ w'.heap.size) : Ds sp (upd f i v) w' := by
 have e : ∀ j, spNew (spAt sp j) = true → upd f i v j = f j := fun j hj => by
  unfold upd; rw [if_neg]; intro e; subst e; rw [hi] at hj; cases hj
 exact ⟨fun j hj k hk => Nat.lt_of_lt_of_le (h.1 j hj k (by rw [← e j hj]; exact hk)) hz, fun a b ha hb hab k hk => by rw [e b hb]; exact h.2 a b ha hb hab k (by rw [← e a ha]; exact hk)⟩
theorem pt_inj {a b : Nat} (h : pt a 0 = pt b 0) : a = b := by simpa using h
theorem Ds.fresh {sp : List Sp} {f : Nat → Value} {w w' : World} {i k : Nat} (h : Ds sp f w) (hk : w.heap.size = k) (hz : w'.heap.size = k + 1) : Ds sp (upd f i (pt k 0)) w' := by
 refine ⟨fun j hj m hm => ?_, fun a b ha hb hab m hm hn => ?_⟩
 ·unfold upd at hm
  split at hm
  ·have := pt_inj hm; omega
  ·have := h.1 j hj m hm; omega
 ·unfold upd at hm hn
  split at hm
  ·have e := pt_inj hm
   split at hn
   ·omega
   ·have := h.1 b hb m hn; omega
  ·split at hn
   ·have e := pt_inj hn; have := h.1 a ha m hm; omega
   ·exact h.2 a b ha hb hab m hm hn
def tw (ops : List Oper) : Nat → Nat → Nat → Bool
 | 0, _, _ => false
 | f + 1, i, j => match ops[i]? with
  | some o => depb o j || (List.range i).any fun k => depb o k && tw ops f k j
  | none => false
theorem exists_least0 {p : Nat → Prop} (h : ∃ m, p m) : ∃ m, p m ∧ ∀ k, p k → m ≤ k := by
 obtain ⟨m, hm⟩ := h
 induction m using Nat.strongRecOn with
 | ind m ih =>
  by_cases hh : ∃ k, k < m ∧ p k
  ·obtain ⟨k, hk, hp⟩ := hh; exact ih k hk hp
  ·exact ⟨m, hm, fun k hp => Nat.le_of_not_lt (fun hk => hh ⟨k, hk, hp⟩)⟩
def chainB (ops : List Oper) (m : Nat) (fs : List Nat) : Bool := (List.range ops.length).all fun i => Nat.blt i m || (List.range i).all fun j => fs.contains j || tw ops ops.length i j
def Shut (ops : List Oper) (listed : Array Bool) : Prop := ∀ i o, ops[i]? = some o → listed.getD i false = true → ∀ e ∈ o.after, Region.binds .any e = true → listed.getD e.on false = true
theorem tw_spec {ops : List Oper} {listed : Array Bool} (hc : Shut ops listed) : ∀ (f i j : Nat) (o : Oper), ops[i]? = some o → (∀ e ∈ o.after, Region.binds .any e = true → listed.getD e.on false = true) → tw ops f i j = true → listed.getD j false = true := by
 intro f
 induction f with
 | zero => intro i j o _ _ h; cases h
 | succ f ih =>
  intro i j o ho hd h
  have dep : ∀ k, depb o k = true → listed.getD k false = true := fun k hk => by
   obtain ⟨e, he, hb⟩ := List.any_eq_true.1 hk
   simp only [Bool.and_eq_true] at hb
   have := hd e (by simpa using he) hb.1
   rwa [Nat.eq_of_beq_eq_true hb.2] at this
  simp only [tw, ho, Bool.or_eq_true] at h
  rcases h with h | h
  ·exact dep j h
  ·obtain ⟨k, hk, hkk⟩ := List.any_eq_true.1 h
   simp only [Bool.and_eq_true] at hkk
   cases hok : ops[k]? with
   | none => cases f with
    | zero => cases hkk.2
    | succ f => simp [tw, hok] at hkk
   | some ok => exact ih k j ok hok (fun e he hb => hc k ok hok (dep k hkk.1) e he hb) hkk.2
theorem chainB_spec {ops : List Oper} {m : Nat} {fs : List Nat} (h : chainB ops m fs = true) {listed : Array Bool} (hc : Shut ops listed) {i : Nat} {o : Oper} (ho : ops[i]? = some o) (hi : m ≤ i) (hd : ∀ e ∈ o.after, Region.binds .any e = true → listed.getD e.on false = true) : ∀ j, j < i → fs.contains j = false → listed.getD j false = true := by
 intro j hj hfl
 have h1 := List.all_eq_true.1 h i (List.mem_range.2 (List.getElem?_eq_some_iff.1 ho).1)
 simp only [Bool.or_eq_true] at h1
 rcases h1 with h1 | h1
 ·rw [Nat.blt_eq] at h1; omega
 ·have h2 := List.all_eq_true.1 h1 j (List.mem_range.2 hj)
  rw [hfl, Bool.false_or] at h2
  exact tw_spec hc _ i j o ho hd h2
theorem Shut.step {ops : List Oper} {listed : Array Bool} (h : Shut ops listed) {i : Nat} {o : Oper} (ho : ops[i]? = some o) (hd : ∀ e ∈ o.after, Region.binds .any e = true → listed.getD e.on false = true) : Shut ops (listed.setIfInBounds i true) := by
 intro j oj hoj hl e he hb
 by_cases hij : i = j
 ·subst hij
  rw [ho] at hoj; cases hoj
  exact getD_set_true (hd e he hb)
 ·rw [getD_set_ne false hij] at hl
  exact getD_set_true (h j oj hoj hl e he hb)
theorem Shut.start (ops : List Oper) (n : Nat) : Shut ops (Array.replicate n false) := fun i _ _ hl => by
 exfalso
 rcases Nat.lt_or_ge i n with h' | h' <;> simp [h'] at hl
section
variable {P : Program} {ops : List Oper} {Q : Exit → Act → World → Prop} {n : Nat} {l : List (Nat × Value)}
theorem wpAny_chain {m : Nat} {fs : List Nat} (hfs : ∀ j, m ≤ j → fs.contains j = false) (hc : chainB ops m fs = true) (hb : edgesBack .any ops.toArray = true) : ∀ (d q fuel : Nat) (listed : Array Bool) (a : Act) (w : World), q + d = ops.length → m ≤ q → d ≤ fuel → listed.size = ops.length → Shut ops listed →
  (∀ j, j < ops.length → listed.getD j true = decide (j < q)) → wpList P ops.toArray Q (ops.drop q) a w → wpAny P .any ops.toArray Q fuel listed a w := by
 intro d
 induction d with
 | zero =>
  intro q fuel listed a w hq hm hf hz hsh hl h
  have hr : Region.ready .any ops.toArray listed = [] := by
   rw [List.eq_nil_iff_forall_not_mem]
   intro i hi
   obtain ⟨h0, o, ho, _⟩ := mem_ready.1 hi
   have hlt : i < ops.length := by have := (Array.getElem?_eq_some_iff.1 ho).1; simpa using this
   rw [hl i hlt] at h0
   have := of_decide_eq_false h0
   omega
  rw [List.drop_eq_nil_of_le (by omega)] at h
  exact wpAny_done hr h fuel
 | succ d ih =>
  intro q fuel listed a w hq hm hf hz hsh hl h
  have hqlt : q < ops.length := by omega
  cases fuel with
  | zero => omega
  | succ fuel =>
   have hone : ∀ i, i ∈ Region.ready .any ops.toArray listed ↔ i = q := by
    intro i
    constructor
    ·intro hi
     obtain ⟨h0, o, ho, hall⟩ := mem_ready.1 hi
     have hlt : i < ops.length := by have := (Array.getElem?_eq_some_iff.1 ho).1; simpa using this
     rw [hl i hlt] at h0
     have hge := of_decide_eq_false h0
     rcases Nat.lt_or_ge q i with hgt | hle
     ·have h1 := chainB_spec hc hsh (i := i) (o := o) (by simpa using ho) (by omega) hall q hgt (hfs q hm)
      have h2 := hl q hqlt
      have : q < listed.size := by omega
      simp [this] at h1 h2
      rw [h1] at h2; cases h2
     ·omega
    ·rintro rfl
     refine mem_ready.2 ⟨by rw [hl i hqlt]; simp, ops[i], by simp [hqlt], fun e he hbd => ?_⟩
     have hlt := edgesBack_spec hb (i := i) (o := ops[i]) (by simp [hqlt]) e he hbd
     have h2 := hl e.on (by omega)
     have : e.on < listed.size := by omega
     simp [this] at h2 ⊢
     rw [h2]; exact decide_eq_true hlt
   refine ⟨fun h0 => ?_, fun i hi => ?_⟩
   ·have := (hone q).2 rfl; rw [h0] at this; cases this
   ·have := (hone i).1 hi
    subst this
    have hdi : ∀ e ∈ (ops[i]).after, Region.binds .any e = true → listed.getD e.on false = true := by
     obtain ⟨_, o, ho, hall⟩ := mem_ready.1 hi
     have : ops[i] = o := by have := Array.getElem?_eq_some_iff.1 ho; obtain ⟨_, h⟩ := this; simpa using h
     rw [this]; exact hall
    rw [List.drop_eq_getElem_cons hqlt] at h
    have h1 : wpOp P ops.toArray Q i (wpList P ops.toArray Q (ops.drop (i + 1))) a w := by
     unfold wpOp
     have e : ops.toArray[i]? = some ops[i] := by simp [hqlt]
     rw [e]
     unfold wpList at h
     exact h
    refine wpOp_mono (fun a' w' h' => ih (i + 1) fuel _ a' w' (by omega) (by omega) (by omega) (by simpa using hz) (hsh.step (i := i) (o := ops[i]) (by simp [hqlt]) hdi) (fun j hj => ?_) h') h1
    by_cases e : i = j
    ·subst e
     have : i < listed.size := by omega
     simp [this]
    ·rw [getD_set_ne true e, hl j hj]
     congr 1
     rw [eq_iff_iff]; omega
def OgE (P : Program) (ops : List Oper) (Q : Exit → Act → World → Prop) (n : Nat) (l : List (Nat × Value)) (m : Nat) (W : World) (sp : List Sp) (i : Nat) (o : Oper) : Prop :=
 ∀ f w, Mo W w → (∀ j, depb o j = true → spDen W.heap.size (spAt sp j) (f j) w) → ∀ K : Act → World → Prop,
  (match spAt sp i with
   | .inl v => ∀ w', Mo w w' → K (fr n (ext (asg f 0 (ops.take m) l) o.dst v)) w'
   | .inr zs => ∀ k w', w.heap.size = k → w'.heap.size = k + 1 → Mo w w' → At w' k zs.1 → K (fr n (ext (asg f 0 (ops.take m) l) o.dst (nvv zs k))) w') →
  bif wnt n (asg f 0 (ops.take m) l) ops.toArray o then o.wp P (fr n (asg f 0 (ops.take m) l)) w K Q else K (fr n (ext (asg f 0 (ops.take m) l) o.dst undef)) w
def floatB (ops : List Oper) (m : Nat) (fs : List Nat) : Bool := fs.all fun i => Nat.blt i m && match ops[i]? with
 | some o => (List.range ops.length).all fun j => Nat.beq j i || (Nat.blt j m && !fs.contains j) || match ops[j]? with
  | some oj => depb oj i || o.apart ops.toArray oj
  | none => true
 | none => false
def LateO (P : Program) (ops : List Oper) (Q : Exit → Act → World → Prop) (n : Nat) (l : List (Nat × Value)) (m : Nat) (sp : List Sp) (i : Nat) : Prop :=
 ∃ o v, ops[i]? = some o ∧ spAt sp i = .inl v ∧ (∀ u c a w, Q (.panic c) (a.put o.dst u) w → Q (.panic c) a w) ∧
  ∀ f, (∀ j, depb o j = true → ∀ u, spAt sp j = .inl u → f j = u) → wnt n (asg f 0 (ops.take m) l) ops.toArray o = true ∧ ∀ w, (execOp (evl n (asg f 0 (ops.take m) l)) o).run P w = .ok (.value v) w
theorem r_draw {id : Nat} {W : World} (m : Nat) (sp : List Sp) (fs : List Nat) (hm : P.follows .mixedOrders = true)
    (hb : edgesBack .any ops.toArray = true) (hd : dstsApart (ops.take m) = true) (hc : chainB ops m fs = true) (hl : Nat.ble m ops.length = true) (hf : floatB ops m fs = true) (hns : Region.noSelect ops.toArray = true)
    (hlate : ∀ i, i ∈ fs → LateO P ops Q n l m sp i)
    (hD : Ds sp (slots (fr n l) (ops.take m).toArray) W)
    (hs : Each (OgE P ops Q n l m W sp) 0 (ops.take m))
    (hend : ∀ f w, Mo W w → (∀ i, Nat.blt i m = true → spDen W.heap.size (spAt sp i) (f i) w) → Ds sp f w → wpList P ops.toArray Q (ops.drop m) (fr n (asg f 0 (ops.take m) l)) w) :
    (Code.region id ops.toArray true).wp P Q (fr n l) W := by
  have hml : m ≤ ops.length := Nat.le_of_ble_eq_true hl
  have hfm : ∀ i, i ∈ fs → i < m := fun i hi => by
    have := List.all_eq_true.1 hf i hi
    simp only [Bool.and_eq_true] at this
    rw [Nat.blt_eq] at this; exact this.1
  have hfs : ∀ j, m ≤ j → fs.contains j = false := fun j hj => by
    cases e : fs.contains j with
    | false => rfl
    | true => have := hfm j (by simpa using e); omega
  refine wp_region_any hm ?_
  -- all that are not late have come up: the late ones first, then the last part
  have second : ∀ (d fuel : Nat) (listed : Array Bool) (f : Nat → Value) (w : World), listed.toList.count false = (ops.length - m) + d → (ops.length - m) + d ≤ fuel → listed.size = ops.length → Shut ops listed → (∀ j, m ≤ j → j < ops.length → listed.getD j true = false) →
      (∀ j, j < m → fs.contains j = false → listed.getD j true = true) → Mo W w → Ds sp f w → (∀ i, i < m → listed.getD i false = true → spDen W.heap.size (spAt sp i) (f i) w) → wpAny P .any ops.toArray Q fuel listed (putAll f 0 (ops.take m) (fr n l)) w := by
    intro d
    induction d with
    | zero =>
      intro fuel listed f w hcnt hfu hz hsh hun hall hW hDs hR
      have hall2 : ∀ j, j < m → listed.getD j true = true := fun j hj => by
        cases e : listed.getD j true with
        | true => rfl
        | false =>
          exfalso
          have h1 : (listed.toList.drop m).count false = ops.length - m := by
            have h2 : listed.toList.drop m = List.replicate (ops.length - m) false := by
              apply List.ext_getElem
              · simp [hz]
              · intro j h3 h4
                simp at h3
                have := hun (m + j) (by omega) (by omega)
                have h5 : m + j < listed.size := by omega
                simpa [h5] using this
            rw [h2]; simp
          have h3 := List.take_append_drop m listed.toList
          have h4 : 0 < (listed.toList.take m).count false := by
            apply List.count_pos_iff.2
            have hjs : j < listed.size := by omega
            simp [hjs] at e
            rw [List.mem_iff_getElem]
            exact ⟨j, by simp; omega, by simp [e]⟩
          rw [← h3, List.count_append] at hcnt
          omega
      refine wpAny_chain hfs hc hb (ops.length - m) m _ listed _ w (by omega) (Nat.le_refl _) (by omega) hz hsh (fun j hj => ?_) ?_
      · rcases Nat.lt_or_ge j m with h | h
        · rw [hall2 j h]; simp [h]
        · rw [hun j h hj]; simp [Nat.not_lt.2 h]
      · rw [putAll_fr]
        exact hend f w hW (fun i hi => by
          have hi' : i < m := by rw [Nat.blt_eq] at hi; exact hi
          refine hR i hi' ?_
          have h1 := hall2 i hi'
          have h2 : i < listed.size := by omega
          simpa [h2] using h1) hDs
    | succ d ih =>
      intro fuel listed f w hcnt hfu hz hsh hun hall hW hDs hR
      -- a late one that has not come up: the first
      have hex : ∃ i, i < m ∧ listed.getD i true = false := by
        apply Classical.byContradiction
        intro hno
        have hall2 : ∀ j, j < m → listed.getD j true = true := fun j hj => by
          cases e : listed.getD j true with
          | true => rfl
          | false => exact absurd ⟨j, hj, e⟩ hno
        have h3 := List.take_append_drop m listed.toList
        have h4 : (listed.toList.take m).count false = 0 := by
          rw [List.count_eq_zero]
          intro hmem
          rw [List.mem_iff_getElem] at hmem
          obtain ⟨j, hj, e⟩ := hmem
          simp at hj e
          have hj1 : j < m := by omega
          have hj2 : j < listed.size := by omega
          have := hall2 j hj1
          simp [hj2] at this
          rw [this] at e; cases e
        have h5 : (listed.toList.drop m).count false ≤ ops.length - m := by
          have := List.count_le_length (a := false) (l := listed.toList.drop m)
          simp [hz] at this; exact this
        rw [← h3, List.count_append] at hcnt
        omega
      obtain ⟨i, ⟨him, hiu⟩, hmin⟩ := exists_least0 hex
      have hif : i ∈ fs := by
        cases e : fs.contains i with
        | true => simpa using e
        | false => have := hall i him e; rw [hiu] at this; cases this
      obtain ⟨o, v, ho, hv, hQ, hy⟩ := hlate i hif
      have hdep : ∀ e ∈ o.after, Region.binds .any e = true → listed.getD e.on false = true := fun e he hbd => by
        have hlt := edgesBack_spec hb (i := i) (o := o) (by simpa using ho) e he hbd
        have h1 : listed.getD e.on true = true := by
          cases ee : listed.getD e.on true with
          | true => rfl
          | false => have := hmin e.on ⟨by omega, ee⟩; omega
        have h2 : e.on < listed.size := by omega
        simpa [h2] using h1
      have hval : ∀ j, depb o j = true → ∀ u, spAt sp j = .inl u → f j = u := fun j hj u hu => by
        obtain ⟨e, he, hb'⟩ := List.any_eq_true.1 hj
        simp only [Bool.and_eq_true] at hb'
        have heon := Nat.eq_of_beq_eq_true hb'.2
        have hj' := hdep e (by simpa using he) hb'.1
        have hlt := edgesBack_spec hb (i := i) (o := o) (by simpa using ho) e (by simpa using he) hb'.1
        rw [heon] at hj' hlt
        have := hR j (by omega) hj'
        rw [hu] at this
        exact this
      obtain ⟨hw1, hw2⟩ := hy f hval
      cases fuel with
      | zero => omega
      | succ fuel =>
        refine wpAny_first (i := i) (oi := o) (v := v) (by simpa using ho) (Region.noSelect_spec hns) (hQ v) fuel listed _ w ?_ ?_ ?_ ?_
        · intro j oj hoj hji hju hno
          have hjl : j < ops.length := by have := (Array.getElem?_eq_some_iff.1 hoj).1; simpa using this
          have h1 := List.all_eq_true.1 hf i hif
          simp only [Bool.and_eq_true, ho] at h1
          have h2 := List.all_eq_true.1 h1.2 j (List.mem_range.2 hjl)
          have hoj' : ops[j]? = some oj := by simpa using hoj
          simp only [hoj', Bool.or_eq_true, Bool.and_eq_true, Bool.not_eq_true'] at h2
          rcases h2 with (h2 | h2) | h2 | h2
          · exact absurd (Nat.eq_of_beq_eq_true h2) hji
          · have := hall j (by have := h2.1; rw [Nat.blt_eq] at this; exact this) h2.2
            rw [this] at hju; cases hju
          · obtain ⟨e, he, hb'⟩ := List.any_eq_true.1 h2
            simp only [Bool.and_eq_true] at hb'
            exact absurd (Nat.eq_of_beq_eq_true hb'.2) (hno e (by simpa using he) hb'.1)
          · exact h2
        · exact mem_ready.2 ⟨hiu, o, by simpa using ho, hdep⟩
        · rw [putAll_fr]
          exact Or.inl ⟨by rw [fr_wanted]; exact hw1, fun w => by rw [fr_eval]; exact hw2 w⟩
        · have hot : (ops.take m)[i]? = some o := by rw [List.getElem?_take_of_lt him]; exact ho
          have hp := putAll_put v (ops.take m) 0 f (fr n l) hd i o hot
          rw [Nat.zero_add] at hp
          rw [hp]
          have h1 : listed.toList[i]? = some false := by
            have h' : i < listed.size := by omega
            simp [h'] at hiu; simp [h', hiu]
          have hcs := count_set _ _ h1
          refine ih fuel _ (upd f i v) w ?_ (by omega) (by simpa using hz) (hsh.step ho hdep) (fun j h1 h2 => ?_) (fun j h1 h2 => ?_) hW (hDs.other (by rw [hv]; rfl) (Nat.le_refl _)) (fun j hj hlj => ?_)
          · simp only [Array.toList_setIfInBounds]; omega
          · rw [getD_set_ne true (by omega)]; exact hun j h1 h2
          · have hij : i ≠ j := by intro e; subst e; have : fs.contains i = true := by simpa using hif
                                   rw [this] at h2; cases h2
            rw [getD_set_ne true hij]; exact hall j h1 h2
          · by_cases e : j = i
            · subst e; rw [hv]; simp [upd, spDen]
            · rw [getD_set_ne false (Ne.symm e)] at hlj
              have := hR j hj hlj
              simpa [upd, e] using this
  have main : ∀ (fuel : Nat) (listed : Array Bool) (f : Nat → Value) (w : World), listed.toList.count false ≤ fuel → listed.size = ops.length → Shut ops listed → (∀ j, m ≤ j → j < ops.length → listed.getD j true = false) →
      Mo W w → Ds sp f w → (∀ i, i < m → listed.getD i false = true → spDen W.heap.size (spAt sp i) (f i) w) → wpAny P .any ops.toArray Q fuel listed (putAll f 0 (ops.take m) (fr n l)) w := by
    intro fuel
    induction fuel with
    | zero =>
      intro listed f w hcnt hz hsh hun hW hDs hR
      refine wpAny_chain hfs hc hb (ops.length - m) m 0 listed _ w (by omega) (Nat.le_refl _) ?_ hz hsh ?_ ?_
      · rcases Nat.lt_or_ge m ops.length with h | h
        · exfalso
          have h1 := hun m (Nat.le_refl _) h
          have h2 : m < listed.size := by omega
          have : false ∈ listed.toList := by simp [h2] at h1; rw [← h1]; simp
          have := List.count_pos_iff.2 this
          omega
        · omega
      · intro j hj
        have h2 : j < listed.size := by omega
        have h3 : listed.getD j true = true := by
          cases e : listed.getD j true with
          | true => rfl
          | false =>
            have : false ∈ listed.toList := by simp [h2] at e; rw [← e]; simp
            have := List.count_pos_iff.2 this
            omega
        rcases Nat.lt_or_ge j m with h | h
        · rw [h3]; simp [h]
        · rw [hun j h hj] at h3; cases h3
      · rw [putAll_fr]
        refine hend f w hW (fun i hi => hR i (by rw [Nat.blt_eq] at hi; exact hi) ?_) hDs
        have hi' : i < m := by rw [Nat.blt_eq] at hi; exact hi
        have h2 : i < listed.size := by omega
        cases e : listed.getD i false with
        | true => rfl
        | false =>
          have : false ∈ listed.toList := by simp [h2] at e; rw [← e]; simp
          have := List.count_pos_iff.2 this
          omega
    | succ fuel ih =>
      intro listed f w hcnt hz hsh hun hW hDs hR
      by_cases hall : ∀ j, j < m → fs.contains j = false → listed.getD j true = true
      · have hge : ops.length - m ≤ listed.toList.count false := by
          have h1 : (listed.toList.drop m).count false = ops.length - m := by
            have h2 : listed.toList.drop m = List.replicate (ops.length - m) false := by
              apply List.ext_getElem
              · simp [hz]
              · intro j h3 h4
                simp at h3
                have := hun (m + j) (by omega) (by omega)
                have h5 : m + j < listed.size := by omega
                simpa [h5] using this
            rw [h2]; simp
          have h3 := List.take_append_drop m listed.toList
          rw [← h3, List.count_append]
          omega
        exact second (listed.toList.count false - (ops.length - m)) _ listed f w (by omega) (by omega) hz hsh hun hall hW hDs hR
      · obtain ⟨u, hum, huf, hu⟩ : ∃ u, u < m ∧ fs.contains u = false ∧ listed.getD u true = false := by
          rcases Classical.not_forall.1 hall with ⟨u, h⟩
          rcases Classical.not_imp.1 h with ⟨h1, h2⟩
          rcases Classical.not_imp.1 h2 with ⟨h3, h4⟩
          exact ⟨u, h1, h3, by cases e : listed.getD u true with | true => exact absurd e h4 | false => rfl⟩
        have hne : Region.ready .any ops.toArray listed ≠ [] := fun hr => by
          have := all_listed hb hr u (by simp; omega)
          rw [hu] at this; cases this
        refine ⟨fun h0 => absurd h0 hne, fun i hi => ?_⟩
        obtain ⟨h0, o, ho, hdep⟩ := mem_ready.1 hi
        have hoi : ops[i]? = some o := by simpa using ho
        have hilt : i < ops.length := (List.getElem?_eq_some_iff.1 hoi).1
        have him : i < m := by
          rcases Nat.lt_or_ge i m with h | h
          · exact h
          · exfalso
            have h1 := chainB_spec hc hsh hoi h hdep u (by omega) huf
            have h2 : u < listed.size := by omega
            simp [h2] at h1 hu
            rw [h1] at hu; cases hu
        have hot : (ops.take m)[i]? = some o := by rw [List.getElem?_take_of_lt him]; exact hoi
        have hstep := Each.spec (ops.take m) 0 hs i o hot
        rw [Nat.zero_add] at hstep
        have hcount : ((listed.setIfInBounds i true).toList.count false) ≤ fuel := by
          have h1 : listed.toList[i]? = some false := by
            have h' : i < listed.size := by omega
            simp [h'] at h0; simp [h', h0]
          have := count_set _ _ h1
          simp only [Array.toList_setIfInBounds]
          omega
        have hun' : ∀ j, m ≤ j → j < ops.length → (listed.setIfInBounds i true).getD j true = false := fun j h1 h2 => by
          rw [getD_set_ne true (by omega)]; exact hun j h1 h2
        have next : ∀ v w', Mo w w' → Ds sp (upd f i v) w' → spDen W.heap.size (spAt sp i) v w' → wpAny P .any ops.toArray Q fuel (listed.setIfInBounds i true) (putAll (upd f i v) 0 (ops.take m) (fr n l)) w' := fun v w' hmo hds hden => by
          refine ih _ _ w' hcount (by simpa using hz) (hsh.step hoi hdep) hun' (hW.trans hmo) hds (fun j hj hlj => ?_)
          by_cases e : j = i
          · subst e; simpa [upd] using hden
          · rw [getD_set_ne false (Ne.symm e)] at hlj
            have := spMo hmo (hR j hj hlj)
            simpa [upd, e] using this
        have put : ∀ v, fr n (ext (asg f 0 (ops.take m) l) o.dst v) = putAll (upd f i v) 0 (ops.take m) (fr n l) := fun v => by
          have := putAll_put v (ops.take m) 0 f (fr n l) hd i o hot
          rw [Nat.zero_add] at this
          rw [← this, putAll_fr, fr_put]
        refine wpOp_step ho (fun K hK => ?_)
        rw [putAll_fr, fr_wanted]
        have hh := hstep f w hW (fun j hj => by
          obtain ⟨e, he, hb'⟩ := List.any_eq_true.1 hj
          simp only [Bool.and_eq_true] at hb'
          have heon := Nat.eq_of_beq_eq_true hb'.2
          have hj' := hdep e (by simpa using he) hb'.1
          have hlt := edgesBack_spec hb ho e (by simpa using he) hb'.1
          rw [heon] at hj' hlt
          exact hR j (by omega) hj') K
        have hh2 : (bif wnt n (asg f 0 (ops.take m) l) ops.toArray o then o.wp P (fr n (asg f 0 (ops.take m) l)) w K Q else K (fr n (ext (asg f 0 (ops.take m) l) o.dst undef)) w) := by
          refine hh ?_
          cases hsp : spAt sp i with
          | inl v =>
            intro w' hmo
            rw [put]
            exact hK _ _ (next v w' hmo (hDs.other (by rw [hsp]; rfl) hmo.size) (by rw [hsp]; rfl))
          | inr zs =>
            intro k w' hk hz' hmo hat
            rw [put]
            obtain ⟨cs, on⟩ := zs
            cases on with
            | none => exact hK _ _ (next (pt k 0) w' hmo (hDs.fresh hk hz') (by rw [hsp]; exact ⟨k, rfl, by have := hW.size; omega, hat⟩))
            | some q => exact hK _ _ (next (.slice (some ⟨k, 0, none⟩) q q) w' hmo (hDs.other (by rw [hsp]; rfl) hmo.size) (by rw [hsp]; exact ⟨k, rfl, by have := hW.size; omega, hat⟩))
        rw [fr_put]
        cases hw : wnt n (asg f 0 (ops.take m) l) ops.toArray o <;> simp only [hw, cond_true, cond_false] at hh2 ⊢ <;> exact hh2
  have h0 : putAll (slots (fr n l) (ops.take m).toArray) 0 (ops.take m) (fr n l) = fr n l := putAll_self _ _ 0 _ (fun i o ho t ht => by simp only [Nat.zero_add, slots]; rw [show (ops.take m).toArray[i]? = some o by simpa using ho]; simp [ht])
  have := main ops.length (Array.replicate ops.length false) (slots (fr n l) (ops.take m).toArray) W.drew (by simp) (by simp) (Shut.start _ _) (fun j _ hj => by simp [hj]) (Mo.refl _).drew ⟨fun j hj k hk => hD.1 j hj k hk, hD.2⟩ (fun i _ hi => by
    exfalso
    rcases Nat.lt_or_ge i ops.length with h' | h' <;> simp [h'] at hi)
  rw [h0] at this
  simpa using this
def spv (sp : List Sp) (kf : Nat → Nat) (i : Nat) : Value :=
 match spAt sp i with
 | .inl v => v
 | .inr z => nvv z (kf i)
theorem asg_congr {f g : Nat → Value} : ∀ (r : List Oper) (i : Nat) (l : List (Nat × Value)), (∀ j, i ≤ j → j < i + r.length → f j = g j) → asg f i r l = asg g i r l
 | [], _, _, _ => rfl
 | o :: r, i, l, h => by
  unfold asg
  rw [h i (Nat.le_refl _) (by simp)]
  exact asg_congr r (i + 1) _ (fun j h1 h2 => h j (by omega) (by simp; omega))
theorem r_any {id : Nat} {W : World} (m : Nat) (sp : List Sp) (fs : List Nat) (hm : P.follows .mixedOrders = true)
  (hb : edgesBack .any ops.toArray = true) (hd : dstsApart (ops.take m) = true) (hc : chainB ops m fs = true) (hl : Nat.ble m ops.length = true) (hf : floatB ops m fs = true) (hns : Region.noSelect ops.toArray = true)
  (hlate : ∀ i, i ∈ fs → LateO P ops Q n l m sp i)
  (hD : Ds sp (slots (fr n l) (ops.take m).toArray) W)
  (hs : Each (OgE P ops Q n l m W sp) 0 (ops.take m))
  (hend : ∀ kf w, Mo W w → (∀ i zs, Nat.blt i m = true → spAt sp i = .inr zs → W.heap.size ≤ kf i ∧ At w (kf i) zs.1) → (∀ i j, Nat.blt i m = true → Nat.blt j m = true → spNew (spAt sp i) = true → spNew (spAt sp j) = true → i ≠ j → kf i ≠ kf j) →
   wpList P ops.toArray Q (ops.drop m) (fr n (asg (spv sp kf) 0 (ops.take m) l)) w) :
  (Code.region id ops.toArray true).wp P Q (fr n l) W := by
 refine r_draw m sp fs hm hb hd hc hl hf hns hlate hD hs (fun f w hmo hR hDs => ?_)
 have hk : ∃ kf : Nat → Nat, ∀ i zs, i < m → spAt sp i = .inr zs → f i = nvv zs (kf i) ∧ W.heap.size ≤ kf i ∧ At w (kf i) zs.1 := by
  refine ⟨fun i => Classical.epsilon (fun k => ∃ z, spAt sp i = .inr z ∧ f i = nvv z k), fun i zs hi hsp => ?_⟩
  have h1 := hR i (by rw [Nat.blt_eq]; exact hi)
  rw [hsp] at h1
  obtain ⟨k, e, h2, h3⟩ := h1
  have hex : ∃ k, ∃ z, spAt sp i = .inr z ∧ f i = nvv z k := ⟨k, zs, hsp, e⟩
  have hc := Classical.epsilon_spec hex
  obtain ⟨z9, hz9, hc9⟩ := hc
  obtain rfl : zs = z9 := Sum.inr.inj (hsp.symm.trans hz9)
  have : Classical.epsilon (fun k => ∃ z, spAt sp i = .inr z ∧ f i = nvv z k) = k := nvv_inj (hc9.symm.trans e)
  simp only [this]
  exact ⟨e, h2, h3⟩
 obtain ⟨kf, hkf⟩ := hk
 have e : asg f 0 (ops.take m) l = asg (spv sp kf) 0 (ops.take m) l := asg_congr _ 0 l (fun j _ hj => by
  have hjm : j < m := by have := List.length_take_le m ops; omega
  unfold spv
  cases hsp : spAt sp j with
  | inl v =>
   have := hR j (by rw [Nat.blt_eq]; exact hjm)
   rw [hsp] at this
   exact this
  | inr zs => exact (hkf j zs hjm hsp).1)
 rw [e]
 refine hend kf w hmo (fun i zs hi hsp => (hkf i zs (by rw [Nat.blt_eq] at hi; exact hi) hsp).2) (fun i j hi hj hin hjn hne heq => ?_)
 have gi : ∃ zs, spAt sp i = .inr zs := by cases h : spAt sp i with | inl v => rw [h] at hin; cases hin | inr zs => exact ⟨zs, rfl⟩
 have gj : ∃ zs, spAt sp j = .inr zs := by cases h : spAt sp j with | inl v => rw [h] at hjn; cases hjn | inr zs => exact ⟨zs, rfl⟩
 obtain ⟨zi, gi⟩ := gi
 obtain ⟨zj, gj⟩ := gj
 have hi' : i < m := by rw [Nat.blt_eq] at hi; exact hi
 have hj' : j < m := by rw [Nat.blt_eq] at hj; exact hj
 have h1 := (hkf i zi hi' gi).1
 have h2 := (hkf j zj hj' gj).1
 rw [← heq] at h2
 obtain ⟨ci, oi⟩ := zi
 obtain ⟨cj, oj⟩ := zj
 have n1 : oi = none := by have h9 := hin; rw [gi] at h9; cases oi with | none => rfl | some q => cases h9
 have n2 : oj = none := by have h9 := hjn; rw [gj] at h9; cases oj with | none => rfl | some q => cases h9
 subst n1 n2
 exact hDs.2 i j hin hjn hne _ h1 h2
theorem Ds.none {sp : List Sp} {f : Nat → Value} {w : World} (h : sp.all (fun s => !spNew s) = true) : Ds sp f w := by
 have hh : ∀ j, spNew (spAt sp j) = true → False := fun j hj => by
  unfold spAt at hj
  cases e : sp[j]? with
  | none => rw [e] at hj; cases hj
  | some s =>
   rw [e] at hj
   have := List.all_eq_true.1 h s (List.mem_of_getElem? e)
   simp at this
   simp [this] at hj
 exact ⟨fun j hj => (hh j hj).elim, fun i j hi => (hh i hi).elim⟩
theorem Ds.undef {sp : List Sp} {f : Nat → Value} {w : World} (h : ∀ j, j < sp.length → spNew (spAt sp j) = true → f j = undef) : Ds sp f w := by
 have hh : ∀ j, spNew (spAt sp j) = true → ∀ k, f j ≠ pt k 0 := fun j hj k e => by
  rcases Nat.lt_or_ge j sp.length with hl | hl
  ·rw [h j hl hj] at e; cases e
  ·unfold spAt at hj; rw [List.getElem?_eq_none hl] at hj; cases hj
 exact ⟨fun j hj k hk => (hh j hj k hk).elim, fun i j hi _ _ k hk => (hh i hi k hk).elim⟩
theorem ct {b : Bool} {A B : Prop} (h : b = true) (a : A) : (bif b then A else B) := by subst h; exact a
theorem cf {b : Bool} {A B : Prop} (h : b = false) (a : B) : (bif b then A else B) := by subst h; exact a
theorem n_then {Q : Exit → Act → World → Prop} {next : Act → World → Prop} {a : Act} {w : World} (h : next a w) : Exit.then next Q .normal a w := h
theorem n_blk {Q : Exit → Act → World → Prop} {id : Nat} {a : Act} {w : World} (h : Q .normal a w) : Exit.inBlock id Q .normal a w := h
theorem x_then {Q : Exit → Act → World → Prop} {next : Act → World → Prop} {id : Nat} {a : Act} {w : World} (h : Q (.exit id) a w) : Exit.then next Q (.exit id) a w := h
theorem x_blk {Q : Exit → Act → World → Prop} {id : Nat} {a : Act} {w : World} (h : Q .normal a w) : Exit.inBlock id Q (.exit id) a w := by simp only [Exit.inBlock, if_true]; exact h
theorem r_then {Q : Exit → Act → World → Prop} {next : Act → World → Prop} {a : Act} {w : World} (h : Q .ret a w) : Exit.then next Q .ret a w := h
theorem r_blk {Q : Exit → Act → World → Prop} {id : Nat} {a : Act} {w : World} (h : Q .ret a w) : Exit.inBlock id Q .ret a w := h
end
section
variable {P : Program} {o : Oper} {n : Nat} {l : List (Nat × Value)} {w : World} {ops : Array Oper} {rest : List Oper} {Q : Exit → Act → World → Prop} {K : Act → World → Prop}
structure OgW (P : Program) (ops : List Oper) (Q : Exit → Act → World → Prop) (n : Nat) (l : List (Nat × Value)) (m : Nat) (W : World) (sp : List Sp) (i : Nat) (o : Oper) : Prop where
 out : ∀ f w, Mo W w → (∀ j, depb o j = true → spDen W.heap.size (spAt sp j) (f j) w) → ∀ K : Act → World → Prop,
  (match spAt sp i with
   | .inl v => ∀ w', Mo w w' → K (fr n (ext (asg f 0 (ops.take m) l) o.dst v)) w'
   | .inr zs => ∀ k w', w.heap.size = k → w'.heap.size = k + 1 → Mo w w' → At w' k zs.1 → K (fr n (ext (asg f 0 (ops.take m) l) o.dst (nvv zs k))) w') →
  Go1 P ops Q n (asg f 0 (ops.take m) l) w K o
theorem og_eq {ol : List Oper} {m : Nat} {W : World} {sp : List Sp} {i : Nat} (v : Value) (hs : spAt sp i = .inl v)
  (h : ∀ f w, Mo W w → (∀ j, depb o j = true → spDen W.heap.size (spAt sp j) (f j) w) → ∀ K : Act → World → Prop, (∀ w', Mo w w' → K (fr n (ext (asg f 0 (ol.take m) l) o.dst v)) w') → Go1 P ol Q n (asg f 0 (ol.take m) l) w K o) : OgW P ol Q n l m W sp i o :=
 ⟨fun f w hm hd K hK => h f w hm hd K (by rw [hs] at hK; exact hK)⟩
theorem ea_nil {F : Nat → Oper → Prop} {i : Nat} : Each F i [] := trivial
theorem ea_cons {F : Nat → Oper → Prop} {i : Nat} {o : Oper} {r : List Oper} (h : F i o) (k : Each F (i + 1) r) : Each F i (o :: r) := ⟨h, k⟩
def slo (n : Nat) (l : List (Nat × Value)) (ops : List Oper) (i : Nat) : Value :=
 match (ops[i]?).bind (·.dst) with
 | some d => bif Nat.blt d n then look l d else undef
 | none => undef
theorem slo_eq (ops : List Oper) : slots (fr n l) ops.toArray = slo n l ops := by
 funext i
 unfold slots slo
 simp only [List.getElem?_toArray]
 cases (ops[i]?).bind (·.dst) with
 | none => rfl
 | some d => exact fr_getD n l d
def isPt : Value → Bool
 | .pointer (some _) => true
 | _ => false
theorem Ds.start {sp : List Sp} {f : Nat → Value} (h : (List.range sp.length).all (fun j => !spNew (spAt sp j) || !isPt (f j)) = true) : Ds sp f w := by
 have hh : ∀ j, spNew (spAt sp j) = true → ∀ k, f j ≠ pt k 0 := fun j hj k e => by
  rcases Nat.lt_or_ge j sp.length with hl | hl
  ·have := List.all_eq_true.1 h j (List.mem_range.2 hl)
   simp [hj, e, isPt] at this
  ·unfold spAt at hj; rw [List.getElem?_eq_none hl] at hj; cases hj
 exact ⟨fun j hj k hk => (hh j hj k hk).elim, fun i j hi _ _ k hk => (hh i hi k hk).elim⟩
theorem la_mv (x : Operand) (p : Value) (ho : ∀ ρ, execOp ρ o = pure (.value (ρ x))) (hx : evl n l x = p) : ∀ w, (execOp (evl n l) o).run P w = .ok (.value p) w := fun w => by rw [ho, hx]; rfl
theorem la_un (F : Value → Sem Value) (x : Operand) (p v : Value) (ho : ∀ ρ, execOp ρ o = (do pure (.value (← F (ρ x))))) (hx : evl n l x = p) (h : ∀ w, (F p).run P w = .ok v w) : ∀ w, (execOp (evl n l) o).run P w = .ok (.value v) w := fun w => by
 rw [ho, hx]; simp [h]
theorem late_nil {ol : List Oper} {m : Nat} {sp : List Sp} : ∀ i, i ∈ ([] : List Nat) → LateO P ol Q n l m sp i := fun i h => absurd h (by simp)
theorem late_cons {ol : List Oper} {m : Nat} {sp : List Sp} {j : Nat} {r : List Nat} (h : LateO P ol Q n l m sp j) (k : ∀ i, i ∈ r → LateO P ol Q n l m sp i) : ∀ i, i ∈ j :: r → LateO P ol Q n l m sp i := fun i hi => by
 rcases List.mem_cons.1 hi with rfl | hi
 ·exact h
 ·exact k i hi
theorem w_any {id : Nat} {ol : List Oper} (m : Nat) (sp : List Sp) (fs : List Nat) (hm : P.follows .mixedOrders = true)
  (hb : edgesBack .any ol.toArray = true) (hd : dstsApart (ol.take m) = true) (hc : chainB ol m fs = true) (hl : Nat.ble m ol.length = true) (hf : floatB ol m fs = true) (hns : Region.noSelect ol.toArray = true)
  (hlate : ∀ i, i ∈ fs → LateO P ol Q n l m sp i)
  (hD : Ds sp (slo n l (ol.take m)) w)
  (hs : Each (OgW P ol Q n l m w sp) 0 (ol.take m))
  (hend : ∀ kf w', Mo w w' → (∀ i zs, Nat.blt i m = true → spAt sp i = .inr zs → w.heap.size ≤ kf i ∧ At w' (kf i) zs.1) → (∀ i j, Nat.blt i m = true → Nat.blt j m = true → spNew (spAt sp i) = true → spNew (spAt sp j) = true → i ≠ j → kf i ≠ kf j) →
   WL P ol.toArray Q (ol.drop m) n (asg (spv sp kf) 0 (ol.take m) l) w') : WC P (Code.region id ol.toArray true) Q n l w := by
 refine ⟨r_any m sp fs hm hb hd hc hl hf hns hlate (by rw [slo_eq]; exact hD) (Each.mono ?_ _ 0 hs) (fun kf w' a b c => (hend kf w' a b c).out)⟩
 intro i o h f w' hmo hdep K hK
 rcases (h.out f w' hmo hdep K hK).out with ⟨hg, h⟩ | ⟨hg, h⟩
 ·exact ct hg h.out
 ·exact cf hg h
end
end Go.Proofs.Ythfemlhmnjfjiaa.X

/-
 The same is the same: wide numbers.
-/
namespace Go.Proofs.Ythfemlhmnjfjiaa
open Go.RowKit
theorem q5_0 (x0 x1 x2 x3 x4 : Value) (w : World) : (part 34 #[x0, x1, x2, x3, x4] 0).run Try.prog w = .ok x0 w := by kernel_rfl
theorem q5_1 (x0 x1 x2 x3 x4 : Value) (w : World) : (part 34 #[x0, x1, x2, x3, x4] 1).run Try.prog w = .ok x1 w := by kernel_rfl
theorem q5_2 (x0 x1 x2 x3 x4 : Value) (w : World) : (part 34 #[x0, x1, x2, x3, x4] 2).run Try.prog w = .ok x2 w := by kernel_rfl
theorem q5_3 (x0 x1 x2 x3 x4 : Value) (w : World) : (part 34 #[x0, x1, x2, x3, x4] 3).run Try.prog w = .ok x3 w := by kernel_rfl
theorem q5_4 (x0 x1 x2 x3 x4 : Value) (w : World) : (part 34 #[x0, x1, x2, x3, x4] 4).run Try.prog w = .ok x4 w := by kernel_rfl
theorem eq5s (d : Nat) (a b c e f : Int) (w : World) : (Op.equalIn (d + 1 + 1) 36 (.agg #[.int .u64 a, .int .u64 b, .int .u64 c, .int .u64 e, .int .u64 f]) (.agg #[.int .u64 a, .int .u64 b, .int .u64 c, .int .u64 e, .int .u64 f])).run Try.prog w = .ok true w := by
 obtain ⟨j, hj⟩ := info22
 rw [run_equalIn_array w (d + 1) _ _ Try.underlying36 hj, cells22]
 have q : ∀ (x : Int), (Op.equalIn (d + 1) 34 (.int .u64 x) (.int .u64 x)).run Try.prog w = .ok true w := fun x => by rw [run_equalIn_int w d 34 .u64 .u64 x x Try.underlying34]; simp
 rw [show List.range 5 = [0, 1, 2, 3, 4] from rfl]
 simp [Op.eqItems, Sem.run_bind, q5_0, q5_1, q5_2, q5_3, q5_4, Result.andThen_ok, q, Sem.run_pure]
end Go.Proofs.Ythfemlhmnjfjiaa

/-
 Summaries of one scale: what is needed of their order.
-/
namespace Go.Proofs.Ythfemlhmnjfjiaa
open Go.RowKit
def Vd (s : Int) (d : D3) : Prop := d.ok ∧ ck d.b d.n d.s = 0 ∧ d.s = s
def D3.val (d : D3) : Int := sv d.b d.n
theorem cmpv_vd {s : Int} {a b : D3} (ha : Vd s a) (hb : Vd s b) : cmpv a b = cm a.val b.val := by
 unfold cmpv
 rw [if_pos ⟨ha.2.1, hb.2.1⟩, ha.2.2, hb.2.2, show max s s - s = ((0 : Nat) : Int) by omega, pw_nat]
 unfold D3.val
 rw [Int.pow_zero, Int.mul_one, Int.mul_one]
theorem vd_inj {s : Int} {a b : D3} (ha : Vd s a) (hb : Vd s b) (h : a.val = b.val) : a = b := by
 obtain ⟨h1, h2, h3⟩ := dz_sv ha.1.1 ha.2.1
 obtain ⟨g1, g2, g3⟩ := dz_sv hb.1.1 hb.2.1
 unfold D3.val at h
 rw [h] at h3
 have en : a.n = b.n := h3.symm.trans g3
 have e4 := neg_sv (b := a.b) ha.1.1
 have e5 := neg_sv (b := b.b) hb.1.1
 obtain ⟨ab, an, az⟩ := a
 obtain ⟨bb, bn, bz⟩ := b
 have es : az = bz := ha.2.2.trans hb.2.2.symm
 simp only at en h ha hb
 subst en es
 have hc := ha.2.1
 have hd := hb.2.1
 simp only at hc hd
 unfold ck at hc hd
 unfold sv at h
 have hn := ha.1.1
 simp only at hn
 by_cases hz : an = 0
 ·subst hz
  cases ab <;> cases bb <;> simp_all
 ·cases ab <;> cases bb
  ·rfl
  ·simp at h; omega
  ·simp at h; omega
  ·rfl
theorem w64_l (a b : Int) : w64 (w64 a + b) = w64 (a + b) := by
 unfold w64; simp only [IntKind.wrap_i64]; omega
theorem w64_r (a b : Int) : w64 (a + w64 b) = w64 (a + b) := by
 unfold w64; simp only [IntKind.wrap_i64]; omega
theorem les_assoc (a b c : Int) : les (les a b) c = les a (les b c) := by
 unfold les
 by_cases ha : a = 0
 ·simp only [ha, if_true]
 ·by_cases hb : b = 0
  ·simp only [ha, hb, if_true, if_false]
  ·by_cases hc : c = 0
   ·simp only [ha, hb, hc, if_true, if_false, show ¬ min a b = 0 by omega]
   ·simp only [ha, hb, hc, if_false, show ¬ min a b = 0 by omega, show ¬ min b c = 0 by omega]; omega
end Go.Proofs.Ythfemlhmnjfjiaa

/-
 The document's two: two summaries as one.
-/
namespace Go.Proofs.Ythfemlhmnjfjiaa
open Go.RowKit
theorem w_cut {P : Program} {n : Nat} {l : List (Nat × Value)} {w : World} {Q : Exit → Act → World → Prop} {x y : Code} (I : List (Nat × Value) → World → Prop) (h2 : ∀ l w, I l w → WC P y Q n l w) (h : WC P x (Exit.then (fun a w' => ∃ l', a = fr n l' ∧ I l' w') Q) n l w) : WC P (Code.seq x y) Q n l w :=
 w_seq ⟨wp_mono h.out fun e a w' hq => by
  cases e with
  | normal => obtain ⟨l', rfl, hI⟩ := hq; exact (h2 l' w' hI).out
  | _ => exact hq⟩
theorem xn_cut {n : Nat} {l : List (Nat × Value)} {w : World} {Q : Exit → Act → World → Prop} {I : List (Nat × Value) → World → Prop} (h : I l w) : WX (Exit.then (fun a w' => ∃ l', a = fr n l' ∧ I l' w') Q) .normal n l w := ⟨⟨l, rfl, h⟩⟩
theorem les_A {a b : Int} (h : b = 0) : les a b = a := by
 unfold les
 by_cases c : a = 0
 ·rw [if_pos c]; omega
 ·rw [if_neg c, if_pos h]
end Go.Proofs.Ythfemlhmnjfjiaa

/-
 The same is the same: values.
-/
namespace Go.Proofs.Ythfemlhmnjfjiaa
open Go.RowKit
theorem eq26s (d : Nat) (b : Bool) (n0 n1 n2 n3 s : Int) (w : World) : (Op.equalIn (d + 1 + 1 + 1) 40 (.agg #[.bool b, .int .u64 n0, .int .u64 n1, .int .u64 n2, .int .u64 n3, .int .i64 s]) (.agg #[.bool b, .int .u64 n0, .int .u64 n1, .int .u64 n2, .int .u64 n3, .int .i64 s])).run Try.prog w = .ok true w := by
 rw [run_equalIn_struct w (d + 1 + 1) 40 _ _ ht40 hp40]
 have h := fo40
 generalize (Try.prog.fieldsOf 40).toList = L at h
 have hl : L.length = 3 := by have := congrArg List.length h; simpa using this
 match L, hl with
 | [f0, f1, f2], _ =>
  simp at h
  obtain ⟨⟨a0, a1, a2⟩, ⟨b0, b1, b2⟩, ⟨c0, c1, c2⟩⟩ := h
  have q1 : (Op.equalIn (d + 1 + 1) 4 (.bool b) (.bool b)).run Try.prog w = .ok true w := by
   have : (Op.equalIn (d + 1 + 1) 4 (.bool b) (.bool b)).run Try.prog w = .ok (b == b) w := by kernel_rfl
   rw [this]; simp
  have q2 := eq4d d n0 n1 n2 n3 n0 n1 n2 n3 w
  have q3 : (Op.equalIn (d + 1 + 1) 3 (.int .i64 s) (.int .i64 s)).run Try.prog w = .ok true w := by rw [run_equalIn_int w (d + 1) 3 .i64 .i64 s s Try.underlying3]; simp
  simp at q2
  simp [Op.eqFields, a0, a1, a2, b0, b1, b2, c0, c1, c2, Sem.run_bind, pt40, pt41, pt45, Result.andThen_ok, q1, q2, q3, Sem.run_pure]
end Go.Proofs.Ythfemlhmnjfjiaa

/-
 The document's Join; == of summaries; SummaryJoins: the law's walk.
-/
namespace Go.Proofs.Ythfemlhmnjfjiaa
open Go.RowKit
def Zn (S : Sm) : Prop := S.so = false → S.mn = d0 ∧ S.mx = d0
theorem jn_z {S T : Sm} (h : Zn S) : Zn (jn S T) := by
 unfold jn str Zn
 cases hT : T.so with
 | false => simp only [Bool.false_eq_true, if_false]; exact h
 | true =>
  simp only [if_true]
  split
  ·intro q; cases q
  ·intro q; cases q
theorem sm0_z : Zn sm0 := fun _ => ⟨rfl, rfl⟩
theorem ht33 : Try.prog.underlying 42 = some (.struct (Try.prog.fieldsOf 42)) := by kernel_rfl
theorem hp33 : Try.prog.stoodInHeld 42 = false := by kernel_rfl
theorem fo33 : (Try.prog.fieldsOf 42).toList.map (fun f => (f.name, f.type, f.offset)) = [("Rows", 3, 0), ("Filled", 3, 1), ("Blank", 3, 2), ("Bad", 3, 3), ("Err", 3, 4), ("Total", 36, 5), ("Some", 4, 10), ("Min", 40, 11), ("Max", 40, 17)] := by kernel_rfl
theorem p33_0 (x0 x1 x2 x3 x4 x5 x6 x7 x8 x9 x10 x11 x12 x13 x14 x15 x16 x17 x18 x19 x20 x21 x22 : Value) (w : World) : (part 3 #[x0, x1, x2, x3, x4, x5, x6, x7, x8, x9, x10, x11, x12, x13, x14, x15, x16, x17, x18, x19, x20, x21, x22] 0).run Try.prog w = .ok x0 w := by kernel_rfl
theorem p33_1 (x0 x1 x2 x3 x4 x5 x6 x7 x8 x9 x10 x11 x12 x13 x14 x15 x16 x17 x18 x19 x20 x21 x22 : Value) (w : World) : (part 3 #[x0, x1, x2, x3, x4, x5, x6, x7, x8, x9, x10, x11, x12, x13, x14, x15, x16, x17, x18, x19, x20, x21, x22] 1).run Try.prog w = .ok x1 w := by kernel_rfl
theorem p33_2 (x0 x1 x2 x3 x4 x5 x6 x7 x8 x9 x10 x11 x12 x13 x14 x15 x16 x17 x18 x19 x20 x21 x22 : Value) (w : World) : (part 3 #[x0, x1, x2, x3, x4, x5, x6, x7, x8, x9, x10, x11, x12, x13, x14, x15, x16, x17, x18, x19, x20, x21, x22] 2).run Try.prog w = .ok x2 w := by kernel_rfl
theorem p33_3 (x0 x1 x2 x3 x4 x5 x6 x7 x8 x9 x10 x11 x12 x13 x14 x15 x16 x17 x18 x19 x20 x21 x22 : Value) (w : World) : (part 3 #[x0, x1, x2, x3, x4, x5, x6, x7, x8, x9, x10, x11, x12, x13, x14, x15, x16, x17, x18, x19, x20, x21, x22] 3).run Try.prog w = .ok x3 w := by kernel_rfl
theorem p33_4 (x0 x1 x2 x3 x4 x5 x6 x7 x8 x9 x10 x11 x12 x13 x14 x15 x16 x17 x18 x19 x20 x21 x22 : Value) (w : World) : (part 3 #[x0, x1, x2, x3, x4, x5, x6, x7, x8, x9, x10, x11, x12, x13, x14, x15, x16, x17, x18, x19, x20, x21, x22] 4).run Try.prog w = .ok x4 w := by kernel_rfl
theorem p33_5 (x0 x1 x2 x3 x4 x5 x6 x7 x8 x9 x10 x11 x12 x13 x14 x15 x16 x17 x18 x19 x20 x21 x22 : Value) (w : World) : (part 36 #[x0, x1, x2, x3, x4, x5, x6, x7, x8, x9, x10, x11, x12, x13, x14, x15, x16, x17, x18, x19, x20, x21, x22] 5).run Try.prog w = .ok (.agg #[x5, x6, x7, x8, x9]) w := by kernel_rfl
theorem p33_10 (x0 x1 x2 x3 x4 x5 x6 x7 x8 x9 x10 x11 x12 x13 x14 x15 x16 x17 x18 x19 x20 x21 x22 : Value) (w : World) : (part 4 #[x0, x1, x2, x3, x4, x5, x6, x7, x8, x9, x10, x11, x12, x13, x14, x15, x16, x17, x18, x19, x20, x21, x22] 10).run Try.prog w = .ok x10 w := by kernel_rfl
theorem p33_11 (x0 x1 x2 x3 x4 x5 x6 x7 x8 x9 x10 x11 x12 x13 x14 x15 x16 x17 x18 x19 x20 x21 x22 : Value) (w : World) : (part 40 #[x0, x1, x2, x3, x4, x5, x6, x7, x8, x9, x10, x11, x12, x13, x14, x15, x16, x17, x18, x19, x20, x21, x22] 11).run Try.prog w = .ok (.agg #[x11, x12, x13, x14, x15, x16]) w := by kernel_rfl
theorem p33_17 (x0 x1 x2 x3 x4 x5 x6 x7 x8 x9 x10 x11 x12 x13 x14 x15 x16 x17 x18 x19 x20 x21 x22 : Value) (w : World) : (part 40 #[x0, x1, x2, x3, x4, x5, x6, x7, x8, x9, x10, x11, x12, x13, x14, x15, x16, x17, x18, x19, x20, x21, x22] 17).run Try.prog w = .ok (.agg #[x17, x18, x19, x20, x21, x22]) w := by kernel_rfl
theorem eq33s (r f k d er tt : Int) (so mb : Bool) (mn ms : Int) (xb : Bool) (xn xs : Int) (w : World) : (Op.equalIn 10000 42 (sm r (f) (k) (d) (er) (tt) so mb (mn) (ms) xb (xn) (xs)) (sm r (f) (k) (d) (er) (tt) so mb (mn) (ms) xb (xn) (xs))).run Try.prog w = .ok true w := by
 rw [show (10000 : Nat) = 9999 + 1 from rfl, run_equalIn_struct w 9999 42 _ _ ht33 hp33]
 have h := fo33
 generalize (Try.prog.fieldsOf 42).toList = L at h
 have hl : L.length = 9 := by have := congrArg List.length h; simpa using this
 match L, hl with
 | [f0, f1, f2, f3, f4, f5, f6, f7, f8], _ =>
  simp at h
  obtain ⟨⟨a0, b0, c0⟩, ⟨a1, b1, c1⟩, ⟨a2, b2, c2⟩, ⟨a3, b3, c3⟩, ⟨a4, b4, c4⟩, ⟨a5, b5, c5⟩, ⟨a6, b6, c6⟩, ⟨a7, b7, c7⟩, ⟨a8, b8, c8⟩⟩ := h
  have qi : ∀ x : Int, (Op.equalIn 9999 3 (.int .i64 x) (.int .i64 x)).run Try.prog w = .ok true w := fun x => by rw [run_equalIn_int w 9998 3 .i64 .i64 x x Try.underlying3]; simp
  have q5 := eq5s 9997 (l0 tt) (l1 tt) (l2 tt) (l3 tt) (l4 tt) w
  have q6 := eq26s 9996 mb (l0 mn) (l1 mn) (l2 mn) (l3 mn) ms w
  have q7 := eq26s 9996 xb (l0 xn) (l1 xn) (l2 xn) (l3 xn) xs w
  have q3 : (Op.equalIn 9999 4 (.bool so) (.bool so)).run Try.prog w = .ok true w := by
   have : (Op.equalIn 9999 4 (.bool so) (.bool so)).run Try.prog w = .ok (so == so) w := by kernel_rfl
   rw [this]; simp
  simp [Op.eqFields, a0, b0, c0, a1, b1, c1, a2, b2, c2, a3, b3, c3, a4, b4, c4, a5, b5, c5, a6, b6, c6, a7, b7, c7, a8, b8, c8, Sem.run_bind, p33_0, p33_1, p33_2, p33_3, p33_4, p33_5, p33_10, p33_11, p33_17, Result.andThen_ok, qi, q5, q6, q7, q3, Sem.run_pure]
theorem gt33 : Try.prog.eqGuardType Try.prog.depth 42 = false := by kernel_rfl
end Go.Proofs.Ythfemlhmnjfjiaa

/-
 A decimal that came in: how it is opened and shut.
-/
namespace Go.Proofs.Ythfemlhmnjfjiaa
open Go.ChangeShapes Go.WideShapes Go.ChangeAt Go.RowKit
theorem Try.cl3 : Try.prog.cellsOf 3 = 1 := by kernel_rfl
end Go.Proofs.Ythfemlhmnjfjiaa

/-
 A summary that came in.
-/
namespace Go.Proofs.Ythfemlhmnjfjiaa
open Go.ChangeShapes Go.WideShapes Go.ChangeAt
open Go.RowKit
section
variable {H : Type} {enc : TypeId × Value → H} {W : World} {sp : Nat → Bool} {fuel : Nat} {cs : List Value} {x : DataW H × List MemPlace}
def I9 (x : Int) : Prop := -9223372036854775808 ≤ x ∧ x < 9223372036854775808
end
end Go.Proofs.Ythfemlhmnjfjiaa

/-
 Join is a monoid over summaries of one scale.
-/
namespace Go.Proofs.Ythfemlhmnjfjiaa
open Go.RowKit
def mnj (S T : Sm) : D3 := if T.so then (if S.so then (if cmpv T.mn S.mn < 0 then T.mn else S.mn) else T.mn) else S.mn
def mxj (S T : Sm) : D3 := if T.so then (if S.so then (if 0 < cmpv T.mx S.mx then T.mx else S.mx) else T.mx) else S.mx
theorem jn_eq (S T : Sm) : jn S T = ⟨w64 (S.r + T.r), w64 (S.f + T.f), w64 (S.k + T.k), w64 (S.d + T.d), les S.e T.e, S.tt + T.tt, S.so || T.so, mnj S T, mxj S T⟩ := by
 unfold jn str mnj mxj
 cases hT : T.so <;> cases hS : S.so <;> simp
structure Gd (s : Int) (S : Sm) : Prop where
 z : Zn S
 v : S.so = true → Vd s S.mn ∧ Vd s S.mx
 g : I9 S.r ∧ I9 S.f ∧ I9 S.k ∧ I9 S.d
def mi (a b : D3) : D3 := if b.val < a.val then b else a
def ma (a b : D3) : D3 := if a.val < b.val then b else a
theorem cmv_lt {a b : Int} : cm a b < 0 ↔ a < b := by unfold cm; split; omega; split; omega; omega
theorem cmv_gt {a b : Int} : 0 < cm a b ↔ b < a := by unfold cm; split; omega; split; omega; omega
theorem mnj_t {s : Int} {S T : Sm} (hS : Gd s S) (hT : Gd s T) (a : S.so = true) (b : T.so = true) : mnj S T = mi S.mn T.mn := by
 unfold mnj mi
 rw [if_pos b, if_pos a, cmpv_vd (hT.v b).1 (hS.v a).1]
 simp only [cmv_lt]
theorem mxj_t {s : Int} {S T : Sm} (hS : Gd s S) (hT : Gd s T) (a : S.so = true) (b : T.so = true) : mxj S T = ma S.mx T.mx := by
 unfold mxj ma
 rw [if_pos b, if_pos a, cmpv_vd (hT.v b).2 (hS.v a).2]
 simp only [cmv_gt]
theorem mi_vd {s : Int} {a b : D3} (ha : Vd s a) (hb : Vd s b) : Vd s (mi a b) := by unfold mi; split; exact hb; exact ha
theorem ma_vd {s : Int} {a b : D3} (ha : Vd s a) (hb : Vd s b) : Vd s (ma a b) := by unfold ma; split; exact hb; exact ha
theorem mi_assoc {s : Int} {a b c : D3} (ha : Vd s a) (hb : Vd s b) (hc : Vd s c) : mi (mi a b) c = mi a (mi b c) := by
 refine vd_inj (mi_vd (mi_vd ha hb) hc) (mi_vd ha (mi_vd hb hc)) ?_
 unfold mi
 by_cases h1 : b.val < a.val <;> by_cases h2 : c.val < b.val <;> by_cases h3 : c.val < a.val <;> simp [h1, h2, h3] <;> omega
theorem ma_assoc {s : Int} {a b c : D3} (ha : Vd s a) (hb : Vd s b) (hc : Vd s c) : ma (ma a b) c = ma a (ma b c) := by
 refine vd_inj (ma_vd (ma_vd ha hb) hc) (ma_vd ha (ma_vd hb hc)) ?_
 unfold ma
 by_cases h1 : a.val < b.val <;> by_cases h2 : b.val < c.val <;> by_cases h3 : a.val < c.val <;> simp [h1, h2, h3] <;> omega
theorem w64_i9 (x : Int) : I9 (w64 x) := by unfold w64 I9; rw [IntKind.wrap_i64]; omega
theorem jn_gd {s : Int} {S T : Sm} (hS : Gd s S) (hT : Gd s T) : Gd s (jn S T) := by
 refine ⟨jn_z hS.z, fun h => ?_, ?_⟩
 ·rw [jn_eq] at h ⊢
  simp only at h ⊢
  cases a : S.so with
  | true =>
   cases b : T.so with
   | true => rw [mnj_t hS hT a b, mxj_t hS hT a b]; exact ⟨mi_vd (hS.v a).1 (hT.v b).1, ma_vd (hS.v a).2 (hT.v b).2⟩
   | false => unfold mnj mxj; simp only [b, Bool.false_eq_true, if_false]; exact hS.v a
  | false =>
   cases b : T.so with
   | true => unfold mnj mxj; simp only [a, b, Bool.false_eq_true, if_false, if_true]; exact hT.v b
   | false => rw [a, b] at h; cases h
 ·rw [jn_eq]; exact ⟨w64_i9 _, w64_i9 _, w64_i9 _, w64_i9 _⟩
theorem jn_assoc {s : Int} {A B C : Sm} (ha : Gd s A) (hb : Gd s B) (hc : Gd s C) : jn (jn A B) C = jn A (jn B C) := by
 have e1 : mnj (jn A B) C = mnj A (jn B C) := by
  have h1 := jn_gd ha hb
  have h2 := jn_gd hb hc
  cases a : A.so <;> cases b : B.so <;> cases c : C.so
  case true.true.true =>
   rw [mnj_t h1 hc (by rw [jn_eq]; simp [a]) c, mnj_t ha h2 a (by rw [jn_eq]; simp [b])]
   rw [jn_eq A B, jn_eq B C]; simp only [mnj_t ha hb a b, mnj_t hb hc b c]
   exact mi_assoc (ha.v a).1 (hb.v b).1 (hc.v c).1
  all_goals (unfold mnj; simp only [jn_eq]; unfold mnj; simp [a, b, c])
 have e2 : mxj (jn A B) C = mxj A (jn B C) := by
  have h1 := jn_gd ha hb
  have h2 := jn_gd hb hc
  cases a : A.so <;> cases b : B.so <;> cases c : C.so
  case true.true.true =>
   rw [mxj_t h1 hc (by rw [jn_eq]; simp [a]) c, mxj_t ha h2 a (by rw [jn_eq]; simp [b])]
   rw [jn_eq A B, jn_eq B C]; simp only [mxj_t ha hb a b, mxj_t hb hc b c]
   exact ma_assoc (ha.v a).2 (hb.v b).2 (hc.v c).2
  all_goals (unfold mxj; simp only [jn_eq]; unfold mxj; simp [a, b, c])
 rw [jn_eq (jn A B) C, jn_eq A (jn B C), e1, e2, jn_eq A B, jn_eq B C]
 simp only [w64_l, w64_r, les_assoc, Int.add_assoc, Bool.or_assoc]
theorem w64_id {x : Int} (h : I9 x) : w64 x = x := by unfold I9 at h; unfold w64; rw [IntKind.wrap_i64]; omega
theorem jn_0l {s : Int} {A : Sm} (h : Gd s A) : jn sm0 A = A := by
 rw [jn_eq]
 obtain ⟨r, f, k, d, er, tt, so, mn, mx⟩ := A
 have hz := h.z
 unfold Zn at hz
 simp only at hz
 obtain ⟨g1, g2, g3, g4⟩ := h.g
 simp only at g1 g2 g3 g4
 cases so with
 | true => simp [sm0, mnj, mxj, les, w64_id g1, w64_id g2, w64_id g3, w64_id g4]
 | false => obtain ⟨z1, z2⟩ := hz rfl; subst z1 z2; simp [sm0, mnj, mxj, les, w64_id g1, w64_id g2, w64_id g3, w64_id g4]
theorem jn_0r {s : Int} {A : Sm} (h : Gd s A) : jn A sm0 = A := by
 rw [jn_eq]
 obtain ⟨r, f, k, d, er, tt, so, mn, mx⟩ := A
 obtain ⟨g1, g2, g3, g4⟩ := h.g
 simp only at g1 g2 g3 g4
 have he : les er 0 = er := les_A rfl
 simp [sm0, mnj, mxj, he, w64_id g1, w64_id g2, w64_id g3, w64_id g4]
theorem sm0_gd (s : Int) : Gd s sm0 := ⟨sm0_z, fun h => (by cases h), (by unfold sm0 I9; simp)⟩
theorem fold_gd {s : Int} : ∀ (L : List Sm) {S : Sm}, Gd s S → (∀ T ∈ L, Gd s T) → Gd s (L.foldl jn S)
 | [], _, h, _ => h
 | T :: L, _, h, hL => fold_gd L (jn_gd h (hL T (by simp))) (fun U hU => hL U (by simp [hU]))
theorem fold_jn {s : Int} : ∀ (L : List Sm) {A B : Sm}, Gd s A → Gd s B → (∀ T ∈ L, Gd s T) → L.foldl jn (jn A B) = jn A (L.foldl jn B)
 | [], _, _, _, _, _ => rfl
 | T :: L, A, B, ha, hb, hL => by
  show L.foldl jn (jn (jn A B) T) = jn A (L.foldl jn (jn B T))
  rw [jn_assoc ha hb (hL T (by simp))]
  exact fold_jn L ha (jn_gd hb (hL T (by simp))) (fun U hU => hL U (by simp [hU]))
theorem fold_cut {s : Int} (L1 L2 : List Sm) (h1 : ∀ T ∈ L1, Gd s T) (h2 : ∀ T ∈ L2, Gd s T) : (L1 ++ L2).foldl jn sm0 = jn (L1.foldl jn sm0) (L2.foldl jn sm0) := by
 have g1 := fold_gd L1 (sm0_gd s) h1
 rw [List.foldl_append, ← fold_jn L2 g1 (sm0_gd s) h2, jn_0r g1]
end Go.Proofs.Ythfemlhmnjfjiaa

/-
 A value that came in.
-/
namespace Go.Proofs.Ythfemlhmnjfjiaa
open Go.ChangeShapes Go.WideShapes Go.ChangeAt
open Go.RowKit
structure V10 where
 K : Int
 n : D3
 fl : Bool
 tx : ByteArray
 er : Int
abbrev V10.v (x : V10) : Value := vl10 x.K x.n.b x.n.n x.n.s x.fl x.tx x.er
def V10.cells (x : V10) : List Value := [.int .i64 x.K, .bool x.n.b, .int .u64 (l0 x.n.n), .int .u64 (l1 x.n.n), .int .u64 (l2 x.n.n), .int .u64 (l3 x.n.n), .int .i64 x.n.s, .bool x.fl, .string x.tx, .int .i64 x.er]
end Go.Proofs.Ythfemlhmnjfjiaa

/-
 Of, whatever the value.
-/
namespace Go.Proofs.Ythfemlhmnjfjiaa
open Go.RowKit
theorem i9_0 : I9 0 := ⟨by decide, by decide⟩
theorem i9_1 : I9 1 := ⟨by decide, by decide⟩
theorem d0_ok : d0.ok := ⟨Int.le_refl _, by unfold d0 MM; decide⟩
end Go.Proofs.Ythfemlhmnjfjiaa

/-
 Records of a tree as they lie in the world, with what they own.
-/
namespace Go.Proofs.Ythfemlhmnjfjiaa
open Go.RowKit
namespace G
def pp : Option Nat → Value
 | none => .pointer none
 | some k => pt k 0
theorem pp_cells (x : Option Nat) : (pp x).cells = #[pp x] := by cases x <;> rfl
theorem pp_one (x : Option Nat) : (pp x).oneCell' = true := by cases x <;> rfl
structure Py where
 i : Int
 v : Value
 vs : List V10
structure Hd where
 m : Nat
 h : Value
 sc : List Int
structure Rc where
 u : Option Nat
 l : Option Nat
 r : Option Nat
 s : Int
 i : Py
 h : Value
 c : List Sm
abbrev Rc.cells (r : Rc) : List Value := [.int .i64 r.i.i, r.i.v, pp r.u, pp r.l, pp r.r, .int .i64 r.s, r.h]
abbrev Mp := Nat → Option Rc
def ud (M : Mp) (k : Nat) (r : Rc) : Mp := fun j => if j = k then some r else M j
theorem ud_same (M : Mp) (k : Nat) (r : Rc) : ud M k r k = some r := if_pos rfl
theorem ud_ne (M : Mp) {k j : Nat} (r : Rc) (h : j ≠ k) : ud M k r j = M j := if_neg h
structure Mk (D : Nat → Prop) (w w' : World) : Prop where
 os : w'.os = w.os
 tape : w'.tape = w.tape
 output : w'.output = w.output
 size : w.heap.size ≤ w'.heap.size
 block : ∀ k, k < w.heap.size → ¬ D k → w'.heap[k]? = w.heap[k]?
 fz : ∀ a, w'.frozen? a = w.frozen? a
theorem Mk.refl (D : Nat → Prop) (w : World) : Mk D w w := ⟨rfl, rfl, rfl, Nat.le_refl _, fun _ _ _ => rfl, fun _ => rfl⟩
theorem Mk.of (D : Nat → Prop) {w w' : World} (h : Mo w w') : Mk D w w' := ⟨h.1.os, h.1.tape, h.1.output, h.1.size, fun k hk _ => h.1.block k hk, h.2⟩
theorem Mk.tr {D E : Nat → Prop} {a b c : World} (h : Mk D a b) (k : Mk E b c) (hE : ∀ j, j < a.heap.size → E j → D j) : Mk D a c :=
 ⟨k.os.trans h.os, k.tape.trans h.tape, k.output.trans h.output, Nat.le_trans h.size k.size, fun j hj hd => (k.block j (Nat.lt_of_lt_of_le hj h.size) (fun e => hd (hE j hj e))).trans (h.block j hj hd), fun x => (k.fz x).trans (h.fz x)⟩
theorem Mk.trans {D : Nat → Prop} {a b c : World} (h : Mk D a b) (k : Mo b c) : Mk D a c := h.tr (Mk.of D k) (fun _ _ e => e)
theorem Mk.same {D : Nat → Prop} {a b c : World} (h : Mk D a b) (k : Mk D b c) : Mk D a c := h.tr k (fun _ _ e => e)
theorem Mk.at {D : Nat → Prop} {w w' : World} (h : Mk D w w') {k : Nat} {vs : List Value} (hA : At w k vs) (hk : ¬ D k) : At w' k vs :=
 ⟨fun j v hv => (World.cell?_of_block (a := ⟨k, 0 + j, none⟩) (h.block k hA.2.2 hk)).trans (hA.1 j v hv), fun o => (h.fz _).trans (hA.2.1 o), Nat.lt_of_lt_of_le hA.2.2 h.size⟩
theorem Mk.mo {D : Nat → Prop} {a b c : World} (h : Mk D b c) (m : Mo a b) (hD : ∀ k, D k → a.heap.size ≤ k) : Mo a c :=
 ⟨⟨h.os.trans m.1.os, h.tape.trans m.1.tape, h.output.trans m.1.output, Nat.le_trans m.1.size h.size, fun k hk => (h.block k (Nat.lt_of_lt_of_le hk m.1.size) (fun e => by have := hD k e; omega)).trans (m.1.block k hk)⟩, fun x => (h.fz x).trans (m.2 x)⟩
def Cb (w : World) (k : Nat) : Prop := ∃ cs ty, w.heap[k]? = some (.cells cs ty (0, 0))
theorem Cb.lt {w : World} {k : Nat} (h : Cb w k) : k < w.heap.size := by
 obtain ⟨cs, ty, h⟩ := h
 exact (Array.getElem?_eq_some_iff.1 h).1
theorem Cb.mo {w w' : World} {k : Nat} (h : Cb w k) (m : Mo w w') : Cb w' k := by
 have hl := h.lt
 obtain ⟨cs, ty, h⟩ := h
 exact ⟨cs, ty, (m.1.block k hl).trans h⟩
theorem Cb.mk {D : Nat → Prop} {w w' : World} {k : Nat} (h : Cb w k) (m : Mk D w w') (hk : ¬ D k) : Cb w' k := by
 have hl := h.lt
 obtain ⟨cs, ty, h⟩ := h
 exact ⟨cs, ty, (m.block k hl hk).trans h⟩
theorem Cb.new (w : World) (cs : Array Value) (t : TypeId) : Cb (w.alloc (.cells cs t)) w.heap.size := ⟨cs, t, heap_alloc_new w _⟩
theorem Cb.set1 {w : World} {k : Nat} (h : Cb w k) (j o : Nat) (v : Value) : Cb (w.setCell ⟨j, o, none⟩ v) k := by
 obtain ⟨cs, ty, h⟩ := h
 by_cases e : j = k
 ·subst e
  exact ⟨_, ty, by simp [World.setCell, Array.getElem?_modify, h]; rfl⟩
 ·exact ⟨cs, ty, by simp [World.setCell, Array.getElem?_modify, e, h]⟩
theorem Cb.sets {k j : Nat} : ∀ (l : List Value) (o : Nat) (w : World), Cb w k → Cb (w.setCells j o l) k
 | [], _, _, h => h
 | v :: r, o, w, h => by rw [World.setCells]; exact Cb.sets r (o + 1) _ (h.set1 j o v)
structure St2 (k : Nat) (w w' : World) : Prop extends St k w w' where
 os : w'.os = w.os
 tape : w'.tape = w.tape
 output : w'.output = w.output
 block : ∀ j, j ≠ k → w'.heap[j]? = w.heap[j]?
 fz : ∀ a, w'.frozen? a = w.frozen? a
 cb : ∀ j, Cb w j → Cb w' j
theorem heap_setCells (k j : Nat) (hj : j ≠ k) : ∀ (l : List Value) (o : Nat) (w : World), (w.setCells k o l).heap[j]? = w.heap[j]? ∧ (w.setCells k o l).os = w.os ∧ (w.setCells k o l).tape = w.tape ∧ (w.setCells k o l).output = w.output
 | [], _, _ => ⟨rfl, rfl, rfl, rfl⟩
 | v :: r, o, w => by
  have h := heap_setCells k j hj r (o + 1) (w.setCell ⟨k, o, none⟩ v)
  rw [World.setCells]
  refine ⟨h.1.trans ?_, h.2.1.trans rfl, h.2.2.1.trans rfl, h.2.2.2.trans rfl⟩
  simp [World.setCell, Array.getElem?_modify, Ne.symm hj]
theorem St2.mk2 (w : World) (k o : Nat) (l : List Value) : St2 k w (w.setCells k o l) :=
 { St.mk' w k o l with
  os := (heap_setCells k (k + 1) (by omega) l o w).2.1
  tape := (heap_setCells k (k + 1) (by omega) l o w).2.2.1
  output := (heap_setCells k (k + 1) (by omega) l o w).2.2.2
  block := fun j hj => (heap_setCells k j hj l o w).1
  fz := fun a => World.frozen?_setCells _ _ _ _ _
  cb := fun j h => Cb.sets l o w h }
theorem Mk.st {D : Nat → Prop} {a b c : World} {k : Nat} (h : Mk D a b) (s : St2 k b c) (hk : D k) : Mk D a c :=
 h.same ⟨s.os, s.tape, s.output, Nat.le_of_eq s.size.symm, fun j _ hd => s.block j (fun e => hd (by rw [e]; exact hk)), s.fz⟩
def ob : Value → Option Nat
 | .slice (some a) (_ + 1) _ => some a.block
 | _ => none
def Rw (w : World) (m : Nat) (h : Value) (L : List (List Value)) : Prop :=
 ∃ p cap, h = .slice p L.length cap ∧ (L ≠ [] → ∃ b off, p = some ⟨b, off, none⟩ ∧ b < w.heap.size ∧ Fz w b ∧ ∀ i cs, L[i]? = some cs → w.rangeAt b (off + i * m) cs)
theorem ob_slice {b off n cap : Nat} (h : n ≠ 0) : ob (.slice (some ⟨b, off, none⟩) n cap) = some b := by
 cases n with
 | zero => exact absurd rfl h
 | succ n => rfl
theorem ob_some {h : Value} {b : Nat} (e : ob h = some b) : ∃ a n cap, h = .slice (some a) (n + 1) cap ∧ a.block = b := by
 unfold ob at e
 split at e
 ·cases e; exact ⟨_, _, _, rfl, rfl⟩
 ·cases e
theorem Rw.mo {w w' : World} {m : Nat} {h : Value} {L : List (List Value)} (r : Rw w m h L) (q : Mo w w') : Rw w' m h L := by
 obtain ⟨p, cap, e, f⟩ := r
 refine ⟨p, cap, e, fun hL => ?_⟩
 obtain ⟨b, off, h1, h2, h3, h4⟩ := f hL
 exact ⟨b, off, h1, Nat.lt_of_lt_of_le h2 q.size, h3.mo q, fun i cs hi j v hv => (q.cell b _ h2).trans (h4 i cs hi j v hv)⟩
theorem Rw.kept {D : Nat → Prop} {w w' : World} {m : Nat} {h : Value} {L : List (List Value)} (r : Rw w m h L) (q : Mk D w w') (hd : ∀ b, ob h = some b → ¬ D b) : Rw w' m h L := by
 obtain ⟨p, cap, rfl, f⟩ := r
 refine ⟨p, cap, rfl, fun hL => ?_⟩
 obtain ⟨b, off, rfl, h2, h3, h4⟩ := f hL
 have hb := hd b (ob_slice (fun e => hL (List.length_eq_zero_iff.1 e)))
 exact ⟨b, off, rfl, Nat.lt_of_lt_of_le h2 q.size, fun o => (q.fz _).trans (h3 o), fun i cs hi j v hv => (World.cell?_of_block (a := ⟨b, off + i * m + j, none⟩) (q.block b h2 hb)).trans (h4 i cs hi j v hv)⟩
theorem Rw.lt {w : World} {m : Nat} {h : Value} {L : List (List Value)} (r : Rw w m h L) {b : Nat} (e : ob h = some b) : b < w.heap.size := by
 obtain ⟨p, cap, rfl, f⟩ := r
 obtain ⟨a, n, cap2, e1, e2⟩ := ob_some e
 rw [Value.slice.injEq] at e1
 have e3 : p = some a ∧ L.length = n + 1 := ⟨e1.1, e1.2.1⟩
 obtain ⟨b2, off, h1, h2, _, _⟩ := f (fun q => by rw [q] at e3; cases e3.2)
 rw [h1] at e3
 cases e3.1
 exact e2 ▸ h2
structure HS (D : Nat → Prop) (w : World) (t : Nat) (mb : Hd) (M : Mp) (root : Option Nat) (lk : Int) : Prop where
 tr : At w t [mb.h, pp root, .map (some mb.m), .int .i64 lk]
 sc : Rw w 1 mb.h (mb.sc.map (fun x => [.int .i64 x]))
 sd : ∀ b, ob mb.h = some b → ¬ D b
 rc : ∀ k r, M k = some r → At w k r.cells
 cb : ∀ k r, M k = some r → Cb w k
 sv : ∀ k r, M k = some r → Rw w 10 r.i.v (r.i.vs.map V10.cells) ∧ r.i.vs.length = mb.sc.length ∧ ∀ x ∈ r.i.vs, x.n.ok
 ss : ∀ k r, M k = some r → Rw w 23 r.h (r.c.map sml) ∧ r.c.length = mb.sc.length ∧ ∀ S ∈ r.c, S.ok
 mt : M t = none
 dt : D t
 dk : ∀ {k r}, M k = some r → D k
 ds : ∀ {k r b}, M k = some r → ob r.i.v = some b ∨ ob r.h = some b → D b ∧ b ≠ t ∧ M b = none
 lt : ∀ {k}, D k → k < w.heap.size
 nb : ¬ D mb.m
 nc : mb.sc.length ≤ 4096
variable {D : Nat → Prop} {w w' : World} {t : Nat} {mb : Hd} {M : Mp} {root : Option Nat} {lk : Int}
theorem HS.mo (h : HS D w t mb M root lk) (m : Mo w w') : HS D w' t mb M root lk :=
 ⟨h.tr.mo m, h.sc.mo m, h.sd, fun k r e => (h.rc k r e).mo m, fun k r e => (h.cb k r e).mo m, fun k r e => ⟨(h.sv k r e).1.mo m, (h.sv k r e).2⟩, fun k r e => ⟨(h.ss k r e).1.mo m, (h.ss k r e).2⟩, h.mt, h.dt, h.dk, h.ds, fun e => Nat.lt_of_lt_of_le (h.lt e) m.size, h.nb, h.nc⟩
theorem HS.ne (h : HS D w t mb M root lk) {k : Nat} {r : Rc} (e : M k = some r) : k ≠ t := fun q => by rw [q, h.mt] at e; cases e
theorem Mk.st1 {k : Nat} {w w' : World} (s : St2 k w w') : Mk (fun j => j = k) w w' := (Mk.refl _ _).st s rfl
theorem HS.put (h : HS D w t mb M root lk) {k : Nat} {r : Rc} (e : M k = some r) (r' : Rc) (s : St2 k w w') (hA : At w' k r'.cells) (hv : r'.i = r.i) (hh : ∃ j q, M j = some q ∧ r'.h = q.h ∧ r'.c = q.c) : HS D w' t mb (ud M k r') root lk := by
 have hK := Mk.st1 s
 have hud : ∀ j q, ud M k r' j = some q → (j = k ∧ q = r') ∨ (j ≠ k ∧ M j = some q) := fun j q hj => by
  unfold ud at hj
  split at hj
  ·rename_i hjk; cases hj; exact Or.inl ⟨hjk, rfl⟩
  ·rename_i hjk; exact Or.inr ⟨hjk, hj⟩
 have hno : ∀ {j q b}, M j = some q → ob q.i.v = some b ∨ ob q.h = some b → ¬ (b = k) := fun hj hb e2 => by
  have := (h.ds hj hb).2.2
  rw [e2, e] at this; cases this
 have hMb : ∀ {b}, M b = none → ud M k r' b = none := fun {b} hb => by
  rw [ud_ne _ _ (fun q => by rw [q, e] at hb; cases hb)]; exact hb
 obtain ⟨j0, q0, hj0, hh1, hh2⟩ := hh
 refine ⟨s.other t _ (Ne.symm (h.ne e)) h.tr, h.sc.kept hK (fun b hb q => h.sd b hb (by rw [q]; exact h.dk e)), h.sd, fun j q hj => ?_, fun j q hj => ?_, fun j q hj => ?_, fun j q hj => ?_, hMb h.mt, h.dt, fun {j q} hj => ?_, fun {j q b} hj hb => ?_, fun e => by rw [s.size]; exact h.lt e, h.nb, h.nc⟩
 ·rcases hud j q hj with ⟨rfl, rfl⟩ | ⟨hne, hj⟩
  ·exact hA
  ·exact s.other j _ hne (h.rc j q hj)
 ·rcases hud j q hj with ⟨rfl, rfl⟩ | ⟨hne, hj⟩
  ·exact s.cb _ (h.cb _ r e)
  ·exact s.cb _ (h.cb j q hj)
 ·rcases hud j q hj with ⟨rfl, rfl⟩ | ⟨hne, hj⟩
  ·rw [hv]; exact ⟨(h.sv _ r e).1.kept hK (fun b hb => hno e (Or.inl hb)), (h.sv _ r e).2⟩
  ·exact ⟨(h.sv j q hj).1.kept hK (fun b hb => hno hj (Or.inl hb)), (h.sv j q hj).2⟩
 ·rcases hud j q hj with ⟨rfl, rfl⟩ | ⟨hne, hj⟩
  ·rw [hh1, hh2]; exact ⟨(h.ss _ q0 hj0).1.kept hK (fun b hb => hno hj0 (Or.inr hb)), (h.ss _ q0 hj0).2⟩
  ·exact ⟨(h.ss j q hj).1.kept hK (fun b hb => hno hj (Or.inr hb)), (h.ss j q hj).2⟩
 ·rcases hud j q hj with ⟨rfl, rfl⟩ | ⟨hne, hj⟩
  ·exact h.dk e
  ·exact h.dk hj
 ·rcases hud j q hj with ⟨rfl, rfl⟩ | ⟨hne, hj⟩
  ·rcases hb with hb | hb
   ·rw [hv] at hb; obtain ⟨a1, a2, a3⟩ := h.ds e (Or.inl hb); exact ⟨a1, a2, hMb a3⟩
   ·rw [hh1] at hb; obtain ⟨a1, a2, a3⟩ := h.ds hj0 (Or.inr hb); exact ⟨a1, a2, hMb a3⟩
  ·obtain ⟨a1, a2, a3⟩ := h.ds hj hb; exact ⟨a1, a2, hMb a3⟩
theorem HS.top (h : HS D w t mb M root lk) (root' : Option Nat) (lk' : Int) (s : St2 t w w') (hA : At w' t [mb.h, pp root', .map (some mb.m), .int .i64 lk']) : HS D w' t mb M root' lk' :=
 have hK := Mk.st1 s
 ⟨hA, h.sc.kept hK (fun b hb q => h.sd b hb (by rw [q]; exact h.dt)), h.sd, fun j q hj => s.other j _ (h.ne hj) (h.rc j q hj), fun j q hj => s.cb _ (h.cb j q hj), fun j q hj => ⟨(h.sv j q hj).1.kept hK (fun b hb => (h.ds hj (Or.inl hb)).2.1), (h.sv j q hj).2⟩, fun j q hj => ⟨(h.ss j q hj).1.kept hK (fun b hb => (h.ds hj (Or.inr hb)).2.1), (h.ss j q hj).2⟩, h.mt, h.dt, h.dk, h.ds, fun e => by rw [s.size]; exact h.lt e, h.nb, h.nc⟩
section
variable {P : Program} {o : Oper} {n : Nat} {l : List (Nat × Value)} {w : World} {ops : Array Oper} {rest : List Oper} {Q : Exit → Act → World → Prop}
theorem wl_st1x (ty : TypeId) (x y : Operand) (k off : Nat) (v : Value) (vs vs' : List Value) (hA : At w k vs) (ho : o.op = .store ty x y) (hd : o.dst = none) (hx : evl n l x = pt k off) (hy : evl n l y = v)
  (hl : Nat.blt off vs.length = true) (hi : (P.info? ty).map (·.size) = some 1) (hv : v.cells = #[v]) (h1 : v.oneCell' = true) (hvs : vs' = vs.take off ++ [v] ++ vs.drop (off + 1)) (hg : wnt n l ops o = true)
  (hk : ∀ w', St2 k w w' → At w' k vs' → WL P ops Q rest n l w') : WL P ops Q (o :: rest) n l w :=
 have hl' : off < vs.length := by rw [Nat.blt_eq] at hl; exact hl
 ⟨l_step hg (o_store ty x y _ _ ho hd hx hy (run_put1 hA ty off v hl' hi hv h1) (hk _ (St2.mk2 w k off [v]) (hA.set off [v] (by simp; omega) vs' hvs)).out)⟩
theorem wl_callg (g : FuncId) (xs : List Operand) (ats : Array TypeId) (args : List Value) (v : Value) {F : World → Prop} (ho : o.op = .call { callee := .value (.func g), args := xs.toArray, argTypes := ats }) (hx : xs.map (evl n l) = args)
  (h : ∀ args w, (callFunc g args).run P w = .ok (.enter g args) w)
  (hc : Calls P g args.toArray w fun e w' => e = .returned v ∧ F w') (hg : wnt n l ops o = true) (hk : ∀ w', F w' → WL P ops Q rest n (ext l o.dst v) w') : WL P ops Q (o :: rest) n l w := by
 have e : (execOp (evl n l) o).run P w = .ok (.enter g args.toArray) w := by
  obtain ⟨dst, op, ty, pos, after, guard⟩ := o
  simp only at ho
  subst ho hx
  have e2 := execOp_call_go (fr n l) dst g xs.toArray ats ty pos after guard
  rw [fr_eval] at e2
  rw [e2, h]
  simp
 refine ⟨l_step hg ?_⟩
 unfold Oper.wp; rw [fr_eval, e, Oper.upon_enter]
 refine hc.mono ?_
 rintro e w' ⟨rfl, h⟩
 show wpList _ _ _ _ _ _
 rw [fr_put]
 exact (hk w' h).out
theorem wl_bsl (xs : List (Nat × Operand)) (vs : List Value) (m : Nat) (ho : o.op = .buildSlice 104 m xs.toArray) (hx : (xs.map fun p => (p.1, evl n l p.2)) = (List.range m).zip vs)
  (hb : ∀ w, (Instr.buildSlice 104 m ((List.range m).zip vs).toArray).run P w = .ok (.slice (some ⟨w.heap.size, 0, none⟩) m m) (w.alloc (.cells vs.toArray 65))) (hg : wnt n l ops o = true)
  (hk : ∀ k w', w.heap.size = k → w'.heap.size = k + 1 → Mo w w' → At w' k vs → WL P ops Q rest n (ext l o.dst (.slice (some ⟨k, 0, none⟩) m m)) w') : WL P ops Q (o :: rest) n l w :=
 ⟨l_step hg (o_val (.slice (some ⟨w.heap.size, 0, none⟩) m m) (w' := w.alloc (.cells vs.toArray 65)) (by
  simp only [execOp, ho]
  rw [show (xs.toArray.map fun p => (p.1, evl n l p.2)) = ((List.range m).zip vs).toArray by rw [List.map_toArray, hx]]
  simp [hb]) (hk _ _ rfl (by simp) ((Mo.refl _).alloc _ _) (At.new w vs.toArray 65)).out)⟩
end
section
variable {P : Program} {o : Oper} {n : Nat} {l : List (Nat × Value)} {w : World} {ops : Array Oper} {rest : List Oper} {Q : Exit → Act → World → Prop} {K : Act → World → Prop}
theorem wl_nc (x : Operand) (k off : Nat) (ho : o.op = .nilCheck x) (hx : evl n l x = pt k off) (hg : wnt n l ops o = true) (hk : WL P ops Q rest n (ext l o.dst (pt k off)) w) : WL P ops Q (o :: rest) n l w :=
 wl_val (pt k off) (by simp [execOp, ho, hx]) hg hk
theorem wo_nc (x : Operand) (k off : Nat) (ho : o.op = .nilCheck x) (hx : evl n l x = pt k off) (hk : K (fr n (ext l o.dst (pt k off))) w) : WO P o n l w K Q :=
 wo_val (pt k off) (by simp [execOp, ho, hx]) hk
end
theorem neP (x : Option Nat) (a b : Operand) (w : World) : (do eqGuard .neq 65 a b (pp x) (.pointer none); binOp .neq 65 (pp x) (.pointer none)).run Try.prog w = .ok (.bool x.isSome) w := by
 cases x <;> kernel_rfl
theorem eqP (x : Option Nat) (a b : Operand) (w : World) : (do eqGuard .eql 65 a b (pp x) (.pointer none); binOp .eql 65 (pp x) (.pointer none)).run Try.prog w = .ok (.bool x.isNone) w := by
 cases x <;> kernel_rfl
theorem eqPa (y : Option Nat) (a b : Operand) (w : World) : (do eqGuard .eql 65 a b (pp none) (pp y); binOp .eql 65 (pp none) (pp y)).run Try.prog w = .ok (.bool y.isNone) w := by
 cases y <;> kernel_rfl
set_option maxRecDepth 100000 in
theorem eqPp {x y : Option Nat} {r : Bool} (h : decide (x = y) = r) (w : World) (hx : ∀ k, x = some k → Cb w k) (hy : ∀ k, y = some k → Cb w k) (a b : Operand) : (do eqGuard .eql 65 a b (pp x) (pp y); binOp .eql 65 (pp x) (pp y)).run Try.prog w = .ok (.bool r) w := by
  subst h
  have hp : Try.prog.underlying 65 = some (.pointer 93) := by kernel_rfl
  have hg : (eqGuard .eql 65 a b (pp x) (pp y)).run Try.prog w = .ok () w := by cases x <;> cases y <;> kernel_rfl
  cases hi : Try.prog.info? 93 with
  | none => have h2 : (Try.prog.info? 93).isSome = true := by kernel_rfl
            rw [hi] at h2; cases h2
  | some j =>
    have hsz : j.size ≠ 0 := by
      have h2 : (Try.prog.info? 93).map (·.size) = some 7 := by kernel_rfl
      rw [hi] at h2; simp at h2; omega
    cases x with
    | none =>
      have h3 := eqPa y a b w
      rw [h3]
      cases y <;> rfl
    | some k =>
      cases y with
      | none => exact eqP (some k) a b w
      | some m =>
        rw [Sem.run_bind, hg]
        by_cases e : k = m
        · subst e
          rw [decide_eq_true rfl]
          exact run_eql_ptr_same w _ hp hi
        · rw [decide_eq_false (fun q => e (Option.some.inj q))]
          obtain ⟨ca, ta, ha⟩ := hx k rfl
          obtain ⟨cb, tb, hb⟩ := hy m rfl
          exact run_eql_ptr_other w hp hi hsz (fun q => e (congrArg Addr.block q)) ha hb
theorem zs2 : (Try.prog.info? 2).map (·.size) = some 1 := by kernel_rfl
theorem zs3 : (Try.prog.info? 3).map (·.size) = some 1 := by kernel_rfl
theorem zs47 : (Try.prog.info? 47).map (·.size) = some 1 := by kernel_rfl
theorem zs65 : (Try.prog.info? 65).map (·.size) = some 1 := by kernel_rfl
theorem zs42 : (Try.prog.info? 42).map (·.size) = some 23 := by kernel_rfl
theorem zs55 : (Try.prog.info? 55).map (·.size) = some 10 := by kernel_rfl
theorem zs83 : (Try.prog.info? 83).map (·.size) = some 2 := by kernel_rfl
theorem bs1 (a : Option Nat) (w : World) : (Instr.buildSlice 104 1 ((List.range 1).zip [pp a]).toArray).run Try.prog w = .ok (.slice (some ⟨w.heap.size, 0, none⟩) 1 1) (w.alloc (.cells #[pp a] 65)) := by
 cases a <;> kernel_rfl
theorem bs2 (a b : Option Nat) (w : World) : (Instr.buildSlice 104 2 ((List.range 2).zip [pp a, pp b]).toArray).run Try.prog w = .ok (.slice (some ⟨w.heap.size, 0, none⟩) 2 2) (w.alloc (.cells #[pp a, pp b] 65)) := by
 cases a <;> cases b <;> kernel_rfl
theorem bs3 (a b c : Option Nat) (w : World) : (Instr.buildSlice 104 3 ((List.range 3).zip [pp a, pp b, pp c]).toArray).run Try.prog w = .ok (.slice (some ⟨w.heap.size, 0, none⟩) 3 3) (w.alloc (.cells #[pp a, pp b, pp c] 65)) := by
 cases a <;> cases b <;> cases c <;> kernel_rfl
theorem w_ret0 {P : Program} {n : Nat} {l : List (Nat × Value)} {w : World} {fn : Func} {R : Ending → World → Prop} (hf : fn.results = #[]) (hR : R (.returned (.tuple #[])) w) : WX (bodyPost P fn R) .ret n l w :=
 ⟨⟨rfl, .tuple #[], by simp [results, hf], hR⟩⟩
theorem w_end0 {P : Program} {n : Nat} {l : List (Nat × Value)} {w : World} {fn : Func} {R : Ending → World → Prop} (hf : fn.results = #[]) (hR : R (.returned (.tuple #[])) w) : WX (bodyPost P fn R) .normal n l w :=
 ⟨⟨rfl, .tuple #[], by simp [results, hf], hR⟩⟩
end G
end Go.Proofs.Ythfemlhmnjfjiaa
/-
 Trees as they lie, what is above a place.
-/
namespace Go.Proofs.Ythfemlhmnjfjiaa
open Go.RowKit
namespace G
def v0 : V10 := ⟨0, d0, false, ⟨#[]⟩, 0⟩
def ofs (x : V10) (s : Int) : Sm :=
 if x.K = 0 then ⟨1, 0, 1, 0, 0, 0, false, d0, d0⟩ else
 if x.K = 4 then (if 1 ≤ x.er then ⟨1, 0, 0, 1, x.er, 0, false, d0, d0⟩ else ⟨1, 0, 0, 1, 2, 0, false, d0, d0⟩) else
 if x.K = 1 then (if x.n.s = s ∧ ck x.n.b x.n.n x.n.s = 0 then ⟨1, 1, 0, 0, 0, sv x.n.b x.n.n, true, x.n, x.n⟩ else ⟨1, 0, 0, 1, 2, 0, false, d0, d0⟩) else
 if x.K = 2 ∨ x.K = 3 then ⟨1, 1, 0, 0, 0, 0, false, d0, d0⟩ else ⟨1, 0, 0, 1, 2, 0, false, d0, d0⟩
theorem ofs_n (x : V10) (hx : x.n.ok) (sc9 : Int) : (ofs x sc9).ok ∧ Gd sc9 (ofs x sc9) ∧ ∀ w, Calls Try.prog 65 #[x.v, .int .i64 sc9] w fun e w' => e = .returned (smv (ofs x sc9)) ∧ Mo w w' := by
 obtain ⟨K, ⟨vb, vn, vs⟩, fl, tx, er⟩ := x
 obtain ⟨hn0, hn⟩ := hx
 simp only at hn0 hn
 have gz : ∀ (r f k d e : Int), I9 r → I9 f → I9 k → I9 d → Gd sc9 ⟨r, f, k, d, e, 0, false, d0, d0⟩ := fun r f k d e a b c g => ⟨fun _ => ⟨rfl, rfl⟩, fun h => (by cases h), ⟨a, b, c, g⟩⟩
 have bad : ∀ {X : Sm} (hX : X = ⟨1, 0, 0, 1, 2, 0, false, d0, d0⟩) (hc : ∀ w, Calls Try.prog 65 #[vl10 K vb vn vs fl tx er, .int .i64 sc9] w fun e w' => e = .returned (sm 1 0 0 1 2 0 false false 0 0 false 0 0) ∧ Mo w w'), X.ok ∧ Gd sc9 X ∧ ∀ w, Calls Try.prog 65 #[vl10 K vb vn vs fl tx er, .int .i64 sc9] w fun e w' => e = .returned (smv X) ∧ Mo w w' :=
  fun hX hc => by subst hX; exact ⟨⟨d0_ok, d0_ok⟩, gz 1 0 0 1 2 i9_1 i9_0 i9_0 i9_1, hc⟩
 unfold ofs
 by_cases c0 : K = 0
 ·rw [if_pos c0]; exact ⟨⟨d0_ok, d0_ok⟩, gz 1 0 1 0 0 i9_1 i9_0 i9_1 i9_0, fun w => of_a K vb vn vs fl tx er sc9 (decide_eq_true c0)⟩
 rw [if_neg c0]
 by_cases c4 : K = 4
 ·rw [if_pos c4]
  by_cases ce : 1 ≤ er
  ·rw [if_pos ce]; exact ⟨⟨d0_ok, d0_ok⟩, gz 1 0 0 1 er i9_1 i9_0 i9_0 i9_1, fun w => of_b K vb vn vs fl tx er sc9 (decide_eq_false c0) (decide_eq_true c4) (decide_eq_true ce)⟩
  ·rw [if_neg ce]; exact bad rfl fun w => of_c K vb vn vs fl tx er sc9 (decide_eq_false c0) (decide_eq_true c4) (decide_eq_false ce) (decide_eq_false (by omega)) (decide_eq_false (by omega)) (decide_eq_false (by omega))
 rw [if_neg c4]
 by_cases c1 : K = 1
 ·rw [if_pos c1]
  by_cases cs : vs = sc9
  ·by_cases cc : ck vb vn vs = 0
   ·rw [if_pos ⟨cs, cc⟩]; exact ⟨⟨⟨hn0, hn⟩, ⟨hn0, hn⟩⟩, ⟨fun h => (by cases h), fun _ => ⟨⟨⟨hn0, hn⟩, cc, cs⟩, ⟨⟨hn0, hn⟩, cc, cs⟩⟩, ⟨i9_1, i9_1, i9_0, i9_0⟩⟩, fun w => of_d K vb vn vs fl tx er sc9 hn0 hn (decide_eq_false c0) (decide_eq_false c4) (decide_eq_true c1) (decide_eq_true cs) (decide_eq_true cc)⟩
   ·rw [if_neg (fun h => cc h.2)]; exact bad rfl fun w => of_f K vb vn vs fl tx er sc9 hn0 hn (decide_eq_false c0) (decide_eq_false c4) (decide_eq_true c1) (decide_eq_true cs) (decide_eq_false cc) (decide_eq_false (by omega)) (decide_eq_false (by omega))
  ·rw [if_neg (fun h => cs h.1)]; exact bad rfl fun w => of_e K vb vn vs fl tx er sc9 (decide_eq_false c0) (decide_eq_false c4) (decide_eq_true c1) (decide_eq_false cs) (decide_eq_false (by omega)) (decide_eq_false (by omega))
 rw [if_neg c1]
 by_cases c2 : K = 2
 ·rw [if_pos (Or.inl c2)]; exact ⟨⟨d0_ok, d0_ok⟩, gz 1 1 0 0 0 i9_1 i9_1 i9_0 i9_0, fun w => of_h K vb vn vs fl tx er sc9 (decide_eq_false c0) (decide_eq_false c4) (decide_eq_false c1) (decide_eq_true c2)⟩
 by_cases c3 : K = 3
 ·rw [if_pos (Or.inr c3)]; exact ⟨⟨d0_ok, d0_ok⟩, gz 1 1 0 0 0 i9_1 i9_1 i9_0 i9_0, fun w => of_i K vb vn vs fl tx er sc9 (decide_eq_false c0) (decide_eq_false c4) (decide_eq_false c1) (decide_eq_false c2) (decide_eq_true c3)⟩
 rw [if_neg (fun h => h.elim c2 c3)]
 exact bad rfl fun w => of_j K vb vn vs fl tx er sc9 (decide_eq_false c0) (decide_eq_false c4) (decide_eq_false c1) (decide_eq_false c2) (decide_eq_false c3)
inductive T where
 | e : T
 | n (k : Nat) (i : Py) (s : Int) (l r : T) : T
def T.p : T → Option Nat
 | .e => none
 | .n k _ _ _ _ => some k
def T.ad : T → List Nat
 | .e => []
 | .n k _ _ l r => k :: (l.ad ++ r.ad)
def T.ids : T → List Py
 | .e => []
 | .n _ i _ l r => l.ids ++ i :: r.ids
def T.sz : T → Int
 | .e => 0
 | .n _ _ _ l r => 1 + l.sz + r.sz
def T.ok : T → Prop
 | .e => True
 | .n _ _ s l r => s = 1 + l.sz + r.sz ∧ l.ok ∧ r.ok
theorem T.sz_nn : ∀ t : T, 0 ≤ t.sz
 | .e => Int.le_refl 0
 | .n _ _ _ l r => by have := T.sz_nn l; have := T.sz_nn r; unfold T.sz; omega
theorem T.sz_ids : ∀ t : T, t.sz = t.ids.length
 | .e => rfl
 | .n _ _ _ l r => by unfold T.sz T.ids; rw [T.sz_ids l, T.sz_ids r]; simp; omega
def col (c : Nat) (s : Int) (L : List Py) : Sm := (L.map (fun y => ofs (y.vs.getD c v0) s)).foldl jn sm0
def agg (sc : List Int) (L : List Py) : List Sm := (List.range sc.length).map (fun c => col c (sc.getD c 0) L)
def Rep (sc : List Int) (R : Mp) (u : Option Nat) : T → Prop
 | .e => True
 | .n k i s l r => (∃ h, R k = some ⟨u, l.p, r.p, s, i, h, agg sc (l.ids ++ i :: r.ids)⟩) ∧ Rep sc R (some k) l ∧ Rep sc R (some k) r
structure Fr where
 k : Nat
 i : Py
 s : Int
 d : Bool
 o : T
abbrev Cx := List Fr
def top : Cx → Option Nat
 | [] => none
 | f :: _ => some f.k
def sideC : Cx → Bool
 | [] => false
 | f :: _ => f.d
def Fr.rc (f : Fr) (u p : Option Nat) (h : Value) (c : List Sm) : Rc := ⟨u, if f.d then f.o.p else p, if f.d then p else f.o.p, f.s, f.i, h, c⟩
def RepC (sc : List Int) (R : Mp) (root : Option Nat) : Cx → Option Nat → Prop
 | [], p => root = p
 | f :: C, p => (∃ h c, R f.k = some (f.rc (top C) p h c)) ∧ Rep sc R (some f.k) f.o ∧ RepC sc R root C (some f.k)
def adC : Cx → List Nat
 | [] => []
 | f :: C => f.k :: (f.o.ad ++ adC C)
def Fr.jn (f : Fr) (t : T) : T := if f.d then .n f.k f.i f.s f.o t else .n f.k f.i f.s t f.o
def plug : Cx → T → T
 | [], t => t
 | f :: C, t => plug C (f.jn t)
theorem Rep.ud {sc : List Int} {R : Mp} {k : Nat} {q : Rc} : ∀ {t : T} {u : Option Nat}, k ∉ t.ad → Rep sc R u t → Rep sc (ud R k q) u t
 | .e, _, _, _ => trivial
 | .n j i s l r, u, hk, h => by
  unfold T.ad at hk
  simp only [List.mem_cons, List.mem_append, not_or] at hk
  exact ⟨h.1.imp fun _ e => (ud_ne _ _ (Ne.symm hk.1)).trans e, Rep.ud hk.2.1 h.2.1, Rep.ud hk.2.2 h.2.2⟩
theorem RepC.ud {sc : List Int} {R : Mp} {root : Option Nat} {k : Nat} {q : Rc} : ∀ {C : Cx} {p : Option Nat}, k ∉ adC C → RepC sc R root C p → RepC sc (ud R k q) root C p
 | [], _, _, h => h
 | f :: C, p, hk, h => by
  unfold adC at hk
  simp only [List.mem_cons, List.mem_append, not_or] at hk
  exact ⟨h.1.imp fun _ e => e.imp fun _ e => (ud_ne _ _ (Ne.symm hk.1)).trans e, Rep.ud hk.2.1 h.2.1, RepC.ud hk.2.2 h.2.2⟩
def hkU (R : Mp) (a x : Option Nat) : Mp := match x with
 | none => R
 | some k => match R k with
  | some r => ud R k ⟨a, r.l, r.r, r.s, r.i, r.h, r.c⟩
  | none => R
def hkR (R : Mp) (a : Option Nat) (d : Bool) (x : Option Nat) : Mp := match a with
 | none => hkU R a x
 | some p => match hkU R a x p with
  | some q => ud (hkU R a x) p ⟨q.u, if d then q.l else x, if d then x else q.r, q.s, q.i, q.h, q.c⟩
  | none => hkU R a x
def hkO (root a x : Option Nat) : Option Nat := match a with
 | none => x
 | some _ => root
theorem hkU_none (R : Mp) (a : Option Nat) : hkU R a none = R := rfl
theorem hkU_some {R : Mp} {a : Option Nat} {k : Nat} {r : Rc} (h : R k = some r) : hkU R a (some k) = ud R k ⟨a, r.l, r.r, r.s, r.i, r.h, r.c⟩ := by
 unfold hkU; simp only [h]
theorem hkU_gone {R : Mp} {a : Option Nat} {k : Nat} (h : R k = none) : hkU R a (some k) = R := by
 unfold hkU; simp only [h]
theorem hkU_ne {R : Mp} {a x : Option Nat} {j : Nat} (h : x ≠ some j) : hkU R a x j = R j := by
 cases x with
 | none => rfl
 | some k =>
  cases hr : R k with
  | none => rw [hkU_gone hr]
  | some r => rw [hkU_some hr]; exact ud_ne _ _ (fun e => h (by rw [e]))
theorem hkR_top (R : Mp) (d : Bool) (x : Option Nat) : hkR R none d x = hkU R none x := rfl
theorem hkR_some {R : Mp} {p : Nat} {d : Bool} {x : Option Nat} {q : Rc} (h : hkU R (some p) x p = some q) : hkR R (some p) d x = ud (hkU R (some p) x) p ⟨q.u, if d then q.l else x, if d then x else q.r, q.s, q.i, q.h, q.c⟩ := by
 unfold hkR; simp only [h]
theorem hkR_gone {R : Mp} {p : Nat} {d : Bool} {x : Option Nat} (h : hkU R (some p) x p = none) : hkR R (some p) d x = hkU R (some p) x := by
 unfold hkR; simp only [h]
theorem hkR_off {R : Mp} {a x : Option Nat} {d : Bool} {j : Nat} (ha : a ≠ some j) : hkR R a d x j = hkU R a x j := by
 cases a with
 | none => rfl
 | some p =>
  cases hq : hkU R (some p) x p with
  | none => rw [hkR_gone hq]
  | some q => rw [hkR_some hq]; exact ud_ne _ _ (fun e => ha (by rw [e]))
theorem hkR_ne {R : Mp} {a x : Option Nat} {d : Bool} {j : Nat} (h : x ≠ some j) (ha : a ≠ some j) : hkR R a d x j = R j := (hkR_off ha).trans (hkU_ne h)
theorem hkR_self {R : Mp} {a : Option Nat} {d : Bool} {k : Nat} {r : Rc} (h : R k = some r) (ha : a ≠ some k) : hkR R a d (some k) k = some ⟨a, r.l, r.r, r.s, r.i, r.h, r.c⟩ := by
 rw [hkR_off ha, hkU_some h]; exact ud_same _ _ _
theorem hkR_par {R : Mp} {p : Nat} {d : Bool} {x : Option Nat} {q : Rc} (h : R p = some q) (hx : x ≠ some p) : hkR R (some p) d x p = some ⟨q.u, if d then q.l else x, if d then x else q.r, q.s, q.i, q.h, q.c⟩ := by
 rw [hkR_some ((hkU_ne hx).trans h)]; exact ud_same _ _ _
theorem Rep.same {sc : List Int} {R R' : Mp} : ∀ {t : T} {u : Option Nat}, (∀ j ∈ t.ad, R' j = R j) → Rep sc R u t → Rep sc R' u t
 | .e, _, _, _ => trivial
 | .n k i s l r, u, hj, h => by
  unfold T.ad at hj
  exact ⟨h.1.imp fun _ e => (hj k (by simp)).trans e, Rep.same (fun j m => hj j (by simp [m])) h.2.1, Rep.same (fun j m => hj j (by simp [m])) h.2.2⟩
theorem RepC.same {sc : List Int} {R R' : Mp} {root : Option Nat} : ∀ {C : Cx} {p : Option Nat}, (∀ j ∈ adC C, R' j = R j) → RepC sc R root C p → RepC sc R' root C p
 | [], _, _, h => h
 | f :: C, p, hj, h => by
  unfold adC at hj
  exact ⟨h.1.imp fun _ e => e.imp fun _ e => (hj f.k (by simp)).trans e, Rep.same (fun j m => hj j (by simp [m])) h.2.1, RepC.same (fun j m => hj j (by simp [m])) h.2.2⟩
theorem RepC.hang {sc : List Int} {R R' : Mp} {root : Option Nat} {C : Cx} {p x : Option Nat} (h : RepC sc R root C p) (hn : (adC C).Nodup) (hx : ∀ j ∈ adC C, top C ≠ some j → R' j = R j)
  (ht : ∀ a q, top C = some a → R a = some q → R' a = some ⟨q.u, if sideC C then q.l else x, if sideC C then x else q.r, q.s, q.i, q.h, q.c⟩) : RepC sc R' (hkO root (top C) x) C x := by
 cases C with
 | nil => rfl
 | cons f C =>
  unfold adC at hx hn
  have hnd := List.nodup_cons.1 hn
  refine ⟨?_, Rep.same (fun j m => hx j (by simp [m]) (fun e => hnd.1 (by cases e; simp [m]))) h.2.1, RepC.same (fun j m => hx j (by simp [m]) (fun e => hnd.1 (by cases e; simp [m]))) h.2.2⟩
  obtain ⟨h9, c9, e9⟩ := h.1
  refine ⟨h9, c9, ?_⟩
  rw [ht f.k _ rfl e9]
  show some (Rc.mk _ (if f.d = true then _ else _) (if f.d = true then _ else _) _ _ _ _) = _
  unfold Fr.rc
  cases f.d <;> rfl
theorem Rep.up {sc : List Int} {R R' : Mp} {u v : Option Nat} {t : T} (h : Rep sc R u t) (hn : t.ad.Nodup) (h1 : ∀ k r, t.p = some k → R k = some r → R' k = some ⟨v, r.l, r.r, r.s, r.i, r.h, r.c⟩) (h2 : ∀ j ∈ t.ad, t.p ≠ some j → R' j = R j) : Rep sc R' v t := by
 cases t with
 | e => trivial
 | n k i s l r =>
  unfold T.ad at h2 hn
  have hnd := List.nodup_cons.1 hn
  exact ⟨h.1.imp fun _ e => h1 k _ rfl e, Rep.same (fun j m => h2 j (by simp [m]) (fun e => hnd.1 (by cases e; simp [m]))) h.2.1, Rep.same (fun j m => h2 j (by simp [m]) (fun e => hnd.1 (by cases e; simp [m]))) h.2.2⟩
end G
end Go.Proofs.Ythfemlhmnjfjiaa
/-
 The tree's small functions: size, weight, side, heavy, resize, look, hang.
-/
namespace Go.Proofs.Ythfemlhmnjfjiaa
open Go.RowKit
namespace G
theorem w_cut {P : Program} {n : Nat} {l : List (Nat × Value)} {w : World} {Q : Exit → Act → World → Prop} {x y : Code} (I : List (Nat × Value) → World → Prop) (h2 : ∀ l w, I l w → WC P y Q n l w) (h : WC P x (Exit.then (fun a w' => ∃ l', a = fr n l' ∧ I l' w') Q) n l w) : WC P (Code.seq x y) Q n l w :=
 w_seq ⟨wp_mono h.out fun e a w' hq => by
  cases e with
  | normal => obtain ⟨l', rfl, hI⟩ := hq; exact (h2 l' w' hI).out
  | _ => exact hq⟩
theorem xn_cut {n : Nat} {l : List (Nat × Value)} {w : World} {Q : Exit → Act → World → Prop} {I : List (Nat × Value) → World → Prop} (h : I l w) : WX (Exit.then (fun a w' => ∃ l', a = fr n l' ∧ I l' w') Q) .normal n l w := ⟨⟨l, rfl, h⟩⟩
theorem addI {a b : Int} (h1 : -9223372036854775808 ≤ a + b) (h2 : a + b ≤ 9223372036854775807) (x y : Operand) (w : World) : (do eqGuard .add 3 x y (.int .i64 a) (.int .i64 b); binOp .add 3 (.int .i64 a) (.int .i64 b)).run Try.prog w = .ok (.int .i64 (a + b)) w := by
 have e : (do eqGuard .add 3 x y (.int .i64 a) (.int .i64 b); binOp .add 3 (.int .i64 a) (.int .i64 b)).run Try.prog w = .ok (.int .i64 (IntKind.i64.wrap (a + b))) w := by kernel_rfl
 have h : IntKind.i64.wrap (a + b) = a + b := by rw [IntKind.wrap_i64]; omega
 rw [e, h]
theorem addL {a b : Int} (h1 : -9223372036854775808 ≤ a + b) (h2 : a + b ≤ 9223372036854775807) (x y : Operand) (w : World) : (do eqGuard .add 2 x y (.int .i64 a) (.int .i64 b); binOp .add 2 (.int .i64 a) (.int .i64 b)).run Try.prog w = .ok (.int .i64 (a + b)) w := by
 have e : (do eqGuard .add 2 x y (.int .i64 a) (.int .i64 b); binOp .add 2 (.int .i64 a) (.int .i64 b)).run Try.prog w = .ok (.int .i64 (IntKind.i64.wrap (a + b))) w := by kernel_rfl
 have h : IntKind.i64.wrap (a + b) = a + b := by rw [IntKind.wrap_i64]; omega
 rw [e, h]
theorem subI {a b : Int} (h1 : -9223372036854775808 ≤ a - b) (h2 : a - b ≤ 9223372036854775807) (x y : Operand) (w : World) : (do eqGuard .sub 3 x y (.int .i64 a) (.int .i64 b); binOp .sub 3 (.int .i64 a) (.int .i64 b)).run Try.prog w = .ok (.int .i64 (a - b)) w := by
 have e : (do eqGuard .sub 3 x y (.int .i64 a) (.int .i64 b); binOp .sub 3 (.int .i64 a) (.int .i64 b)).run Try.prog w = .ok (.int .i64 (IntKind.i64.wrap (a - b))) w := by kernel_rfl
 have h : IntKind.i64.wrap (a - b) = a - b := by rw [IntKind.wrap_i64]; omega
 rw [e, h]
theorem mulI {a b : Int} (h1 : -9223372036854775808 ≤ a * b) (h2 : a * b ≤ 9223372036854775807) (x y : Operand) (w : World) : (do eqGuard .mul 3 x y (.int .i64 a) (.int .i64 b); binOp .mul 3 (.int .i64 a) (.int .i64 b)).run Try.prog w = .ok (.int .i64 (a * b)) w := by
 have e : (do eqGuard .mul 3 x y (.int .i64 a) (.int .i64 b); binOp .mul 3 (.int .i64 a) (.int .i64 b)).run Try.prog w = .ok (.int .i64 (IntKind.i64.wrap (a * b))) w := by kernel_rfl
 have h : IntKind.i64.wrap (a * b) = a * b := by rw [IntKind.wrap_i64]; omega
 rw [e, h]
theorem gtI {a b : Int} {r : Bool} (h : decide (b < a) = r) (x y : Operand) (w : World) : (do eqGuard .gtr 3 x y (.int .i64 a) (.int .i64 b); binOp .gtr 3 (.int .i64 a) (.int .i64 b)).run Try.prog w = .ok (.bool r) w := by
 subst h; kernel_rfl
theorem ltI {a b : Int} {r : Bool} (h : decide (a < b) = r) (x y : Operand) (w : World) : (do eqGuard .lss 3 x y (.int .i64 a) (.int .i64 b); binOp .lss 3 (.int .i64 a) (.int .i64 b)).run Try.prog w = .ok (.bool r) w := by
 subst h; kernel_rfl
theorem geI {a b : Int} {r : Bool} (h : decide (b ≤ a) = r) (x y : Operand) (w : World) : (do eqGuard .geq 3 x y (.int .i64 a) (.int .i64 b); binOp .geq 3 (.int .i64 a) (.int .i64 b)).run Try.prog w = .ok (.bool r) w := by
 subst h; kernel_rfl
def szo (R : Mp) (x : Option Nat) (s : Int) : Prop := match x with
 | none => s = 0
 | some k => ∃ r, R k = some r ∧ r.s = s
section
variable {D : Nat → Prop} {t : Nat} {mb : Hd} {R : Mp} {root : Option Nat} {lk : Int}
theorem size_0 (w : World) : Calls Try.prog 46 #[pp none] w fun e w' => e = .returned (.int .i64 0) ∧ Mo w w' := by
 refine w_enter 9 Try.func46 Try.ntmps46 rfl rfl ?_
 have M : Mo w w := Mo.refl _
 refine w_seq (w_reg ?_)
 refine wl_m (.const (.int .i64 (0))) (.int .i64 (0)) ?_
 refine w_nil (xn_then (w_seq (w_seq (w_reg ?_))))
 refine wl_m (.tmp 0) (pp none) ?_
 refine wl_b .eql 65 (.tmp 3) (.const (.pointer none)) (pp none) (pp none) (.bool true) (eqP none _ _ _) ?_
 refine w_nil (xn_then (w_condT rfl (w_seq (w_reg ?_))))
 refine wl_m (.const (.int .i64 (0))) (.int .i64 (0)) ?_
 refine w_nil (xn_then (w_ret (xr_then ?_)))
 exact w_ret1 _ _ rfl rfl ⟨rfl, M⟩
theorem size_k {w : World} (hS : HS D w t mb R root lk) {k : Nat} {r : Rc} (hk : R k = some r) : Calls Try.prog 46 #[pt k 0] w fun e w' => e = .returned (.int .i64 r.s) ∧ Mo w w' := by
 refine w_enter 9 Try.func46 Try.ntmps46 rfl rfl ?_
 have M : Mo w w := Mo.refl _
 refine w_seq (w_reg ?_)
 refine wl_m (.const (.int .i64 (0))) (.int .i64 (0)) ?_
 refine w_nil (xn_then (w_seq (w_seq (w_reg ?_))))
 refine wl_m (.tmp 0) (pt k 0) ?_
 refine wl_b .eql 65 (.tmp 3) (.const (.pointer none)) (pt k 0) (pp none) (.bool false) (eqP (some k) _ _ _) ?_
 refine w_nil (xn_then (w_condF rfl (w_skip (xn_then (w_seq (w_reg ?_))))))
 refine wl_m (.tmp 0) (pt k 0) ?_
 refine wl_nc (.tmp 5) k 0 rfl rfl rfl ?_
 refine wl_f 93 3 (.tmp 6) (pt k 0) (pt k 5) ?_
 refine wl_l 3 (.tmp 7) (pt k 5) (.int .i64 (r.s)) (run_one (hS.rc k _ hk) 3 5 rfl Try.underlying3 rfl) ?_
 refine wl_m (.tmp 8) (.int .i64 (r.s)) ?_
 refine w_nil (xn_then (w_ret ?_))
 exact w_ret1 _ _ rfl rfl ⟨rfl, M⟩
theorem size_o {w : World} (hS : HS D w t mb R root lk) {x : Option Nat} {s : Int} (hx : szo R x s) : Calls Try.prog 46 #[pp x] w fun e w' => e = .returned (.int .i64 s) ∧ Mo w w' := by
 cases x with
 | none => cases hx; exact size_0 w
 | some k => obtain ⟨r, hr, rfl⟩ := hx; exact size_k hS hr
theorem weight_o {w : World} (hS : HS D w t mb R root lk) {x : Option Nat} {s : Int} (hx : szo R x s) (h0 : 0 ≤ s) (h1 : s ≤ 1000000) : Calls Try.prog 72 #[pp x] w fun e w' => e = .returned (.int .i64 (s + 1)) ∧ Mo w w' := by
 refine w_enter 6 Try.func72 Try.ntmps72 rfl rfl ?_
 have M : Mo w w := Mo.refl _
 refine w_seq (w_reg ?_)
 refine wl_m (.const (.int .i64 (0))) (.int .i64 (0)) ?_
 refine w_nil (xn_then (w_seq (w_reg ?_)))
 refine wl_m (.tmp 0) (pp x) ?_
 refine wl_call 46 [(.tmp 3)] _ [pp x] (.int .i64 (s)) rfl rfl (fun _ _ => by kernel_rfl) (size_o hS hx) rfl ?_
 intro w1 hq
 replace hS := hS.mo hq
 replace M := M.trans hq
 clear hq
 refine wl_b .add 3 (.tmp 4) (.const (.int .i64 (1))) (.int .i64 (s)) (.int .i64 (1)) (.int .i64 (s + 1)) (addI (by omega) (by omega) _ _ _) ?_
 refine wl_m (.tmp 5) (.int .i64 (s + 1)) ?_
 refine w_nil (xn_then (w_ret ?_))
 exact w_ret1 _ _ rfl rfl ⟨rfl, M⟩
theorem side_0 {w : World} (hS : HS D w t mb R root lk) {k : Nat} {rl rr : Option Nat} {rs : Int} {ri : Py} {rh : Value} {rc : List Sm} (hk : R k = some ⟨none, rl, rr, rs, ri, rh, rc⟩) : Calls Try.prog 53 #[pt k 0] w fun e w' => e = .returned (.int .i64 0) ∧ Mo w w' := by
 refine w_enter 20 Try.func53 Try.ntmps53 rfl rfl ?_
 have M : Mo w w := Mo.refl _
 refine w_seq (w_reg ?_)
 refine wl_m (.const (.int .i64 (0))) (.int .i64 (0)) ?_
 refine w_nil (xn_then (w_seq (w_seq (w_reg ?_))))
 refine wl_m (.tmp 0) (pt k 0) ?_
 refine wl_nc (.tmp 3) k 0 rfl rfl rfl ?_
 refine wl_f 93 1 (.tmp 4) (pt k 0) (pt k 2) ?_
 refine wl_l 65 (.tmp 5) (pt k 2) (pp none) (run_one (hS.rc k _ hk) 65 2 rfl Try.underlying65 rfl) ?_
 refine wl_b .neq 65 (.tmp 6) (.const (.pointer none)) (pp none) (pp none) (.bool false) (neP none _ _ _) ?_
 refine wl_m (.tmp 7) (.bool false) ?_
 refine wl_skip rfl (wl_skip rfl (wl_skip rfl (wl_skip rfl (wl_skip rfl (wl_skip rfl (wl_skip rfl (wl_skip rfl (wl_skip rfl (wl_skip rfl ?_)))))))))
 refine wl_pick (.tmp 8) (.tmp 18) (.const (.bool false)) false (.bool false) (fun _ => rfl) rfl rfl rfl ?_
 refine w_nil (xn_then (w_condF rfl (w_skip (xn_then (w_seq (w_reg ?_))))))
 refine wl_m (.const (.int .i64 (0))) (.int .i64 (0)) ?_
 refine w_nil (xn_then (w_ret ?_))
 exact w_ret1 _ _ rfl rfl ⟨rfl, M⟩
theorem side_k {w : World} (hS : HS D w t mb R root lk) {k a : Nat} {rl rr : Option Nat} {rs : Int} {ri : Py} {rh : Value} {rc : List Sm} {q : Rc} (hk : R k = some ⟨some a, rl, rr, rs, ri, rh, rc⟩) (ha : R a = some q) (hcb : ∀ j, q.r = some j → ∃ z, R j = some z) : Calls Try.prog 53 #[pt k 0] w fun e w' => e = .returned (.int .i64 (if q.r = some k then 1 else 0)) ∧ Mo w w' := by
 refine w_enter 20 Try.func53 Try.ntmps53 rfl rfl ?_
 have M : Mo w w := Mo.refl _
 refine w_seq (w_reg ?_)
 refine wl_m (.const (.int .i64 (0))) (.int .i64 (0)) ?_
 refine w_nil (xn_then (w_seq (w_seq ?_)))
 cases hf0 : decide (q.r = some k) with
 | true =>
  have hf0p := of_decide_eq_true hf0
  refine w_reg ?_
  refine wl_m (.tmp 0) (pt k 0) ?_
  refine wl_nc (.tmp 3) k 0 rfl rfl rfl ?_
  refine wl_f 93 1 (.tmp 4) (pt k 0) (pt k 2) ?_
  refine wl_l 65 (.tmp 5) (pt k 2) (pt a 0) (run_one (hS.rc k _ hk) 65 2 rfl Try.underlying65 rfl) ?_
  refine wl_b .neq 65 (.tmp 6) (.const (.pointer none)) (pt a 0) (pp none) (.bool true) (neP (some a) _ _ _) ?_
  refine wl_m (.tmp 7) (.bool true) ?_
  refine wl_m (.tmp 0) (pt k 0) ?_
  refine wl_nc (.tmp 9) k 0 rfl rfl rfl ?_
  refine wl_f 93 1 (.tmp 10) (pt k 0) (pt k 2) ?_
  refine wl_l 65 (.tmp 11) (pt k 2) (pt a 0) (run_one (hS.rc k _ hk) 65 2 rfl Try.underlying65 rfl) ?_
  refine wl_nc (.tmp 12) a 0 rfl rfl rfl ?_
  refine wl_f 93 2 (.tmp 13) (pt a 0) (pt a 3) ?_
  refine wl_bin (fun x y => Instr.indexAt 91 x y) (.tmp 14) (.const (.int .i64 (1))) (pt a 3) (.int .i64 (1)) (pt a 4) (fun _ => rfl) rfl rfl (by kernel_rfl) rfl ?_
  refine wl_l 65 (.tmp 15) (pt a 4) (pp q.r) (run_one (hS.rc a _ ha) 65 4 rfl Try.underlying65 rfl) ?_
  refine wl_m (.tmp 0) (pt k 0) ?_
  refine wl_b .eql 65 (.tmp 16) (.tmp 17) (pp q.r) (pt k 0) (.bool true) (eqPp hf0 _ (fun j e => by obtain ⟨z, hz⟩ := hcb j e; exact hS.cb j z hz) (fun j e => by cases e; exact hS.cb _ _ hk) _ _) ?_
  refine wl_pick (.tmp 8) (.tmp 18) (.const (.bool false)) true (.bool true) (fun _ => rfl) rfl rfl rfl ?_
  refine w_nil (xn_then (w_condT rfl (w_seq (w_reg ?_))))
  refine wl_m (.const (.int .i64 (1))) (.int .i64 (1)) ?_
  refine w_nil (xn_then (w_ret (xr_then ?_)))
  exact w_ret1 _ (.int .i64 (1)) rfl rfl ⟨by simp [hf0p], M⟩
 | false =>
  have hf0p := of_decide_eq_false hf0
  refine w_reg ?_
  refine wl_m (.tmp 0) (pt k 0) ?_
  refine wl_nc (.tmp 3) k 0 rfl rfl rfl ?_
  refine wl_f 93 1 (.tmp 4) (pt k 0) (pt k 2) ?_
  refine wl_l 65 (.tmp 5) (pt k 2) (pt a 0) (run_one (hS.rc k _ hk) 65 2 rfl Try.underlying65 rfl) ?_
  refine wl_b .neq 65 (.tmp 6) (.const (.pointer none)) (pt a 0) (pp none) (.bool true) (neP (some a) _ _ _) ?_
  refine wl_m (.tmp 7) (.bool true) ?_
  refine wl_m (.tmp 0) (pt k 0) ?_
  refine wl_nc (.tmp 9) k 0 rfl rfl rfl ?_
  refine wl_f 93 1 (.tmp 10) (pt k 0) (pt k 2) ?_
  refine wl_l 65 (.tmp 11) (pt k 2) (pt a 0) (run_one (hS.rc k _ hk) 65 2 rfl Try.underlying65 rfl) ?_
  refine wl_nc (.tmp 12) a 0 rfl rfl rfl ?_
  refine wl_f 93 2 (.tmp 13) (pt a 0) (pt a 3) ?_
  refine wl_bin (fun x y => Instr.indexAt 91 x y) (.tmp 14) (.const (.int .i64 (1))) (pt a 3) (.int .i64 (1)) (pt a 4) (fun _ => rfl) rfl rfl (by kernel_rfl) rfl ?_
  refine wl_l 65 (.tmp 15) (pt a 4) (pp q.r) (run_one (hS.rc a _ ha) 65 4 rfl Try.underlying65 rfl) ?_
  refine wl_m (.tmp 0) (pt k 0) ?_
  refine wl_b .eql 65 (.tmp 16) (.tmp 17) (pp q.r) (pt k 0) (.bool false) (eqPp hf0 _ (fun j e => by obtain ⟨z, hz⟩ := hcb j e; exact hS.cb j z hz) (fun j e => by cases e; exact hS.cb _ _ hk) _ _) ?_
  refine wl_pick (.tmp 8) (.tmp 18) (.const (.bool false)) true (.bool false) (fun _ => rfl) rfl rfl rfl ?_
  refine w_nil (xn_then (w_condF rfl (w_skip (xn_then (w_seq (w_reg ?_))))))
  refine wl_m (.const (.int .i64 (0))) (.int .i64 (0)) ?_
  refine w_nil (xn_then (w_ret ?_))
  exact w_ret1 _ (.int .i64 (0)) rfl rfl ⟨by simp [hf0p], M⟩
def hvy (a b : Int) : Value := .tuple #[.int .i64 (if 3 * (b + 1) < a + 1 then 0 else 1), .bool (decide (3 * (b + 1) < a + 1) || decide (3 * (a + 1) < b + 1))]
theorem heavy_n {w : World} (hS : HS D w t mb R root lk) {k : Nat} {r : Rc} (hk : R k = some r) {a b : Int} (hl : szo R r.l a) (h0 : 0 ≤ a) (h1 : a ≤ 1000000) (hr : szo R r.r b) (h2 : 0 ≤ b) (h3 : b ≤ 1000000) : Calls Try.prog 60 #[pt k 0] w fun e w' => e = .returned (hvy a b) ∧ Mo w w' := by
 refine w_enter 26 Try.func60 Try.ntmps60 rfl rfl ?_
 have M : Mo w w := Mo.refl _
 refine w_seq (w_reg ?_)
 refine wl_m (.const (.int .i64 (0))) (.int .i64 (0)) ?_
 refine wl_m (.const (.bool false)) (.bool false) ?_
 refine w_nil (xn_then (w_seq ?_))
 refine w_any 11 [.inl (pt k 0), .inl (pt k 0), .inl (pt k 3), .inl (pt k 3), .inl (pp r.l), .inl (.int .i64 (a + 1)), .inl (pt k 0), .inl (pt k 0), .inl (pt k 3), .inl (pt k 4), .inl (pp r.r)] [] (by kernel_rfl) (by kernel_rfl) (by kernel_rfl) (by kernel_rfl) rfl (by kernel_rfl) (by kernel_rfl) late_nil ?_ ?_ ?_
 ·exact Ds.none rfl
 ·refine ea_cons ?_ (ea_cons ?_ (ea_cons ?_ (ea_cons ?_ (ea_cons ?_ (ea_cons ?_ (ea_cons ?_ (ea_cons ?_ (ea_cons ?_ (ea_cons ?_ (ea_cons ?_ (ea_nil)))))))))))
  ·exact og_eq _ rfl (fun f wf hq hd K hK => go_run rfl (wo_mv (.tmp 0) (pt k 0) (fun _ => rfl) rfl (hK _ (Mo.refl _))))
  ·exact og_eq _ rfl (fun f wf hq hd K hK => go_run rfl (wo_nc (.tmp 6) k 0 rfl (hd 0 rfl) (hK _ (Mo.refl _))))
  ·exact og_eq _ rfl (fun f wf hq hd K hK => go_run rfl (wo_un (fun v => Instr.fieldAt 93 v 2) (.tmp 7) (pt k 0) (pt k 3) (fun _ => rfl) (hd 1 rfl) (by kernel_rfl) (hK _ (Mo.refl _))))
  ·exact og_eq _ rfl (fun f wf hq hd K hK => go_run rfl (wo_bin (fun x y => Instr.indexAt 91 x y) (.tmp 8) (.const (.int .i64 (0))) (pt k 3) (.int .i64 (0)) (pt k 3) (fun _ => rfl) (hd 2 rfl) rfl (by kernel_rfl) (hK _ (Mo.refl _))))
  ·exact og_eq _ rfl (fun f wf hq hd K hK => have hS := hS.mo hq; go_run rfl (wo_load 65 (.tmp 9) (pt k 3) (pp r.l) rfl (hd 3 rfl) (run_one (hS.rc k _ hk) 65 3 rfl Try.underlying65 rfl) (hK _ (Mo.refl _))))
  ·exact og_eq _ rfl (fun f wf hq hd K hK => have hS := hS.mo hq; go_run rfl (wo_call 72 [(.tmp 10)] _ [pp r.l] (.int .i64 (a + 1)) rfl (li1 (hd 4 rfl)) (fun _ _ => by kernel_rfl) (weight_o hS hl h0 h1) hK))
  ·exact og_eq _ rfl (fun f wf hq hd K hK => go_run rfl (wo_mv (.tmp 0) (pt k 0) (fun _ => rfl) rfl (hK _ (Mo.refl _))))
  ·exact og_eq _ rfl (fun f wf hq hd K hK => go_run rfl (wo_nc (.tmp 12) k 0 rfl (hd 6 rfl) (hK _ (Mo.refl _))))
  ·exact og_eq _ rfl (fun f wf hq hd K hK => go_run rfl (wo_un (fun v => Instr.fieldAt 93 v 2) (.tmp 13) (pt k 0) (pt k 3) (fun _ => rfl) (hd 7 rfl) (by kernel_rfl) (hK _ (Mo.refl _))))
  ·exact og_eq _ rfl (fun f wf hq hd K hK => go_run rfl (wo_bin (fun x y => Instr.indexAt 91 x y) (.tmp 14) (.const (.int .i64 (1))) (pt k 3) (.int .i64 (1)) (pt k 4) (fun _ => rfl) (hd 8 rfl) rfl (by kernel_rfl) (hK _ (Mo.refl _))))
  ·exact og_eq _ rfl (fun f wf hq hd K hK => have hS := hS.mo hq; go_run rfl (wo_load 65 (.tmp 15) (pt k 4) (pp r.r) rfl (hd 9 rfl) (run_one (hS.rc k _ hk) 65 4 rfl Try.underlying65 rfl) (hK _ (Mo.refl _))))
 intro kf1 w1 hq _ _
 replace hS := hS.mo hq
 replace M := M.trans hq
 clear hq
 refine wl_call 72 [(.tmp 16)] _ [pp r.r] (.int .i64 (b + 1)) rfl rfl (fun _ _ => by kernel_rfl) (weight_o hS hr h2 h3) rfl ?_
 intro w2 hq
 replace hS := hS.mo hq
 replace M := M.trans hq
 clear hq
 refine wl_m (.tmp 11) (.int .i64 (a + 1)) ?_
 refine wl_m (.tmp 17) (.int .i64 (b + 1)) ?_
 refine w_nil (xn_then (w_seq (w_seq ?_)))
 cases hf0 : decide (3 * (b + 1) < a + 1) with
 | true =>
  have hf0p := of_decide_eq_true hf0
  refine w_reg ?_
  refine wl_m (.tmp 4) (.int .i64 (a + 1)) ?_
  refine wl_m (.tmp 5) (.int .i64 (b + 1)) ?_
  refine wl_b .mul 3 (.const (.int .i64 (3))) (.tmp 19) (.int .i64 (3)) (.int .i64 (b + 1)) (.int .i64 (3 * (b + 1))) (mulI (by omega) (by omega) _ _ _) ?_
  refine wl_b .gtr 3 (.tmp 18) (.tmp 20) (.int .i64 (a + 1)) (.int .i64 (3 * (b + 1))) (.bool true) (gtI hf0 _ _ _) ?_
  refine w_nil (xn_then (w_condT rfl (w_seq (w_reg ?_))))
  refine wl_m (.const (.int .i64 (0))) (.int .i64 (0)) ?_
  refine wl_m (.const (.bool true)) (.bool true) ?_
  refine w_nil (xn_then (w_ret (xr_then ?_)))
  exact w_ret2 _ _ (.int .i64 (0)) (.bool true) rfl rfl rfl ⟨by unfold hvy; simp [hf0p], M⟩
 | false =>
  have hf0p := of_decide_eq_false hf0
  refine w_reg ?_
  refine wl_m (.tmp 4) (.int .i64 (a + 1)) ?_
  refine wl_m (.tmp 5) (.int .i64 (b + 1)) ?_
  refine wl_b .mul 3 (.const (.int .i64 (3))) (.tmp 19) (.int .i64 (3)) (.int .i64 (b + 1)) (.int .i64 (3 * (b + 1))) (mulI (by omega) (by omega) _ _ _) ?_
  refine wl_b .gtr 3 (.tmp 18) (.tmp 20) (.int .i64 (a + 1)) (.int .i64 (3 * (b + 1))) (.bool false) (gtI hf0 _ _ _) ?_
  refine w_nil (xn_then (w_condF rfl (w_skip (xn_then (w_seq ?_)))))
  cases hf1 : decide (3 * (a + 1) < b + 1) with
  | true =>
   have hf1p := of_decide_eq_true hf1
   refine w_reg ?_
   refine wl_m (.tmp 5) (.int .i64 (b + 1)) ?_
   refine wl_m (.tmp 4) (.int .i64 (a + 1)) ?_
   refine wl_b .mul 3 (.const (.int .i64 (3))) (.tmp 23) (.int .i64 (3)) (.int .i64 (a + 1)) (.int .i64 (3 * (a + 1))) (mulI (by omega) (by omega) _ _ _) ?_
   refine wl_b .gtr 3 (.tmp 22) (.tmp 24) (.int .i64 (b + 1)) (.int .i64 (3 * (a + 1))) (.bool true) (gtI hf1 _ _ _) ?_
   refine wl_m (.const (.int .i64 (1))) (.int .i64 (1)) ?_
   refine wl_m (.tmp 25) (.bool true) ?_
   refine w_nil (xn_then (w_ret ?_))
   exact w_ret2 _ _ (.int .i64 (1)) (.bool true) rfl rfl rfl ⟨by unfold hvy; simp [hf0p, hf1p], M⟩
  | false =>
   have hf1p := of_decide_eq_false hf1
   refine w_reg ?_
   refine wl_m (.tmp 5) (.int .i64 (b + 1)) ?_
   refine wl_m (.tmp 4) (.int .i64 (a + 1)) ?_
   refine wl_b .mul 3 (.const (.int .i64 (3))) (.tmp 23) (.int .i64 (3)) (.int .i64 (a + 1)) (.int .i64 (3 * (a + 1))) (mulI (by omega) (by omega) _ _ _) ?_
   refine wl_b .gtr 3 (.tmp 22) (.tmp 24) (.int .i64 (b + 1)) (.int .i64 (3 * (a + 1))) (.bool false) (gtI hf1 _ _ _) ?_
   refine wl_m (.const (.int .i64 (1))) (.int .i64 (1)) ?_
   refine wl_m (.tmp 25) (.bool false) ?_
   refine w_nil (xn_then (w_ret ?_))
   exact w_ret2 _ _ (.int .i64 (1)) (.bool false) rfl rfl rfl ⟨by unfold hvy; simp [hf0p, hf1p], M⟩
end
end G
end Go.Proofs.Ythfemlhmnjfjiaa
