/-
  Check: what it takes.
-/
import Derived.Test.YtepfokoepibkcaaGreatCa
namespace Go.Proofs.YtepfokoepibkcaaGreat
open Go.RowKit D
/-- In a definition that Check takes each item and each When suits. -/
def Tk (d : Df) : Prop := (∀ n x, (fla d)[n]? = some x → ∀ y ∈ x.items, itC d (fla d) n y = 0) ∧ ∀ p ∈ d.pg, whC d (fla d) 0 p.wh = 0
theorem tk_of {d : Df} {R : List S5} (h : R.map key6 = (fla d).map key6) (h1 : ∀ n x, R[n]? = some x → ∀ y ∈ x.items, itC d R n y = 0) (h2 : ∀ p ∈ d.pg, whC d R 0 p.wh = 0) : Tk d := by
  have hk := keys56 h
  refine ⟨fun n x hx y hy => ?_, fun p hp => by rw [← whC_key hk]; exact h2 p hp⟩
  have h3 := congrArg (fun q => q[n]?) h
  simp only [List.getElem?_map, hx, Option.map_some] at h3
  cases hr : R[n]? with
  | none => rw [hr] at h3; cases h3
  | some z =>
    rw [hr] at h3
    simp only [Option.map_some, Option.some.injEq, key6, Prod.mk.injEq] at h3
    obtain ⟨_, _, _, _, h5⟩ := h3
    obtain ⟨i, hi⟩ := List.getElem?_of_mem hy
    have h6 := congrArg (fun q => q[i]?) h5
    simp only [List.getElem?_map, hi, Option.map_some] at h6
    cases hz : z.items[i]? with
    | none => rw [hz] at h6; cases h6
    | some y' =>
      rw [hz] at h6
      simp only [Option.map_some, Option.some.injEq] at h6
      rw [← itC_key hk d n h6]
      exact h1 n z hr y' (List.mem_of_getElem? hz)
theorem ek_args {x y : Ex} (h : ek x = ek y) : x.args.map ek = y.args.map ek := by
  rw [ek_eq, ek_eq y] at h
  injection h
theorem AB.ek : ∀ x : Ex, AB x → ∀ y : Ex, ek y = ek x → AB y := by
  refine Ex.ind2 ?_
  intro x ih hB y he
  have ha := ek_args he
  have hl : y.args.length = x.args.length := by have := congrArg List.length ha; simpa using this
  refine .mk (by rw [hl]; exact hB.ln) (fun o ho => ?_)
  obtain ⟨i, hi⟩ := List.getElem?_of_mem ho
  have h6 := congrArg (fun q => q[i]?) ha
  simp only [List.getElem?_map, hi, Option.map_some] at h6
  cases hz : x.args[i]? with
  | none => rw [hz] at h6; cases h6
  | some a =>
    rw [hz] at h6
    simp only [Option.map_some, Option.some.injEq] at h6
    exact ih a (List.mem_of_getElem? hz) (hB.ar a (List.mem_of_getElem? hz)) o h6
theorem ab_R {d : Df} {R : List S5} (h : R.map key6 = (fla d).map key6) (hA : ∀ x ∈ fla d, ∀ y ∈ x.items, AB y.ex) : ∀ x ∈ R, ∀ y ∈ x.items, AB y.ex := by
  intro x hx y hy
  obtain ⟨n, hn⟩ := List.getElem?_of_mem hx
  have h3 := congrArg (fun q => q[n]?) h
  simp only [List.getElem?_map, hn, Option.map_some] at h3
  cases hr : (fla d)[n]? with
  | none => rw [hr] at h3; cases h3
  | some z =>
    rw [hr] at h3
    simp only [Option.map_some, Option.some.injEq, key6, Prod.mk.injEq] at h3
    obtain ⟨_, _, _, _, h5⟩ := h3
    obtain ⟨i, hi⟩ := List.getElem?_of_mem hy
    have h6 := congrArg (fun q => q[i]?) h5
    simp only [List.getElem?_map, hi, Option.map_some] at h6
    cases hz : z.items[i]? with
    | none => rw [hz] at h6; cases h6
    | some y' =>
      rw [hz] at h6
      simp only [Option.map_some, Option.some.injEq, kx, Prod.mk.injEq] at h6
      exact AB.ek y'.ex (hA z (List.mem_of_getElem? hr) y' (List.mem_of_getElem? hz)) y.ex h6.2.2.2.2.2
theorem all_s {α : Type} {P : α → Prop} {l : List α} {i : Nat} {a : α} (h : ∀ x ∈ l.take i, P x) (ha : l[i]? = some a) (hp : P a) : ∀ x ∈ l.take (i + 1), P x := by
  intro x hx
  rw [List.take_add_one, ha] at hx
  rcases List.mem_append.1 hx with q | q
  · exact h x q
  · simp at q; rw [q]; exact hp
theorem all_e {α : Type} {P : α → Prop} {l : List α} {i : Nat} (h : ∀ x ∈ l.take i, P x) (hi : i = l.length) : ∀ x ∈ l, P x := by
  rw [hi, List.take_length] at h; exact h
theorem ix27 {pa : Option Addr} {b off i n c : Nat} (hp : pa = some ⟨b, off, none⟩) (h : i < n) (w : World) : (Instr.indexAt 27 (.slice pa n c) (.int .i64 (i : Int))).run Tryz.prog w = .ok (pt b (off + i * 19)) w := by
  subst hp
  have e : (Instr.indexAt 27 (.slice (some ⟨b, off, none⟩) n c) (.int .i64 (i : Int))).run Tryz.prog w = .ok (.pointer (some ((⟨b, off, none⟩ : Addr).add (i * 19)))) w := by simp [go_sem, h]
  rw [e, Addr.add_mid]
theorem len27 (ρ : Operand → Value) (x : Operand) (p : Option Addr) (m c : Nat) (hx : ρ x = .slice p m c) (dst : Option Tmp) (type : TypeId) (pos : String) (after : Array Edge) (guard : Option (Nat × Bool)) (w : World) : (execOp ρ { dst, op := .call { callee := .builtin .len, args := #[x], argTypes := #[27] }, type, pos, after, guard }).run Tryz.prog w = .ok (.value (.int .i64 (m : Int))) w := by
  simp [go_sem, hx]
theorem sz59 : (Tryz.prog.info? 59).map (·.size) = some 19 := by kernel_rfl
theorem sz31 : (Tryz.prog.info? 31).map (·.size) = some 5 := by kernel_rfl
theorem sz40 : (Tryz.prog.info? 40).map (·.size) = some 5 := by kernel_rfl
theorem sz62 : (Tryz.prog.info? 62).map (·.size) = some 2 := by kernel_rfl
theorem tcheck_n {d : Df} {w : World} (hD : LDf w d) (hB : FB d) (hW : ∀ p ∈ d.pg, AB p.wh) (hT : ∀ y ∈ d.tb, ∀ s ∈ y.st, DB s.a ∧ True) : Calls Tryz.prog 5 #[.agg (d.cells).toArray] w fun e w' => ∃ (p0 p1 p2 p3 p4 : Int) (r : Int), e = .returned (.tuple #[.agg #[.int .i64 p0, .int .i64 p1, .int .i64 p2, .int .i64 p3, .int .i64 p4], .int .i64 r]) ∧ (r = 0 → Tk d) ∧ Mo w w' := by
  refine w_enter 84 Tryz.func5 Tryz.ntmps5 rfl rfl ?_
  have M : Mo w w := Mo.refl _
  refine w_seq ?_
  refine w_reg ?_
  refine wl_box 29 (.tmp 0) (.agg (d.cells).toArray) (((d.cells).toArray)) rfl rfl (fun _ => by kernel_rfl) rfl ?_
  intro k1 u1 hk hz hq Q1
  have N_k1 : w.heap.size ≤ k1 := by have := M.size; omega
  replace M := M.trans hq
  clear hk hz hq
  refine wl_alloc 31 #[.int .i64 0, .int .i64 0, .int .i64 0, .int .i64 0, .int .i64 0] rfl (fun _ => by kernel_rfl) rfl ?_
  intro k2 u2 hk hz hq Q2
  have ne_k1_k2 : k1 ≠ k2 := by have := Q1.lt; omega
  have N_k2 : w.heap.size ≤ k2 := by have := M.size; omega
  replace Q1 := Q1.mo hq
  replace M := M.trans hq
  clear hk hz hq
  refine wl_mv (.const (.int .i64 (0))) (.int .i64 (0)) (fun _ => rfl) rfl rfl ?_
  refine w_nil ?_
  refine xn_then ?_
  refine w_seq ?_
  refine w_seq ?_
  refine w_reg ?_
  refine wl_un (fun v => Instr.fieldAt 29 v 2) (.tmp 1) (pt k1 0) (pt k1 5) (fun _ => rfl) rfl (by kernel_rfl) rfl ?_
  refine wl_load 26 (.tmp 16) (pt k1 5) (.slice d.pt d.tb.length d.ct) rfl rfl (run_one Q1 26 5 rfl Tryz.underlying26 rfl) rfl ?_
  refine wl_val (.int .i64 ((d.tb.length : Nat) : Int)) (len26 _ _ _ _ _ (by exact rfl) _ _ _ _ _ _) rfl ?_
  refine wl_mv (.const (.int .i64 (0))) (.int .i64 (0)) (fun _ => rfl) rfl rfl ?_
  refine w_nil ?_
  refine xn_then ?_
  refine w_block ?_
  have hz9 := hD.tb.1
  unfold maxLen at hz9
  refine w_loop (fun m l w1 => ∃ i : Nat, m = d.tb.length - i ∧ i ≤ d.tb.length ∧ look l 1 = pt k1 0 ∧ look l 2 = pt k2 0 ∧ look l 17 = .slice d.pt d.tb.length d.ct ∧ look l 18 = .int .i64 ((d.tb.length : Nat) : Int) ∧ look l 19 = .int .i64 ((i : Nat) : Int) ∧ At w1 k1 (d.cells) ∧ At w1 k2 [.int .i64 0, .int .i64 0, .int .i64 0, .int .i64 0, .int .i64 0] ∧ Mo w w1) _ ⟨0, rfl, Nat.zero_le _, rfl, rfl, rfl, rfl, rfl, Q1, Q2, M⟩ ?_
  clear Q1 Q2 M
  rintro m l40 wl40 ⟨i, rfl, hi, e40_1, e40_2, e40_17, e40_18, e40_i, Q1, Q2, M⟩
  by_cases hil : i < d.tb.length
  · skip
    have hid : decide (i < d.tb.length) = true := decide_eq_true hil
    obtain ⟨y, hy⟩ := get_of_lt hil
    have hmy := List.mem_of_getElem? hy
    obtain ⟨bp, op, hpp, hRp⟩ := D.SL.rw hD.tb hy
    refine w_seq ?_
    refine w_reg ?_
    refine wl_bin (fun x y => do eqGuard .lss 3 (.tmp 19) (.tmp 18) x y; binOp .lss 3 x y) (.tmp 19) (.tmp 18) (.int .i64 ((i : Nat) : Int)) (.int .i64 ((d.tb.length : Nat) : Int)) (.bool true) (fun _ => rfl) e40_i e40_18 (ltN hid _ _ _) rfl ?_
    refine w_nil ?_
    refine xn_then ?_
    refine w_seq ?_
    refine w_condT rfl ?_
    refine w_skip ?_
    refine xn_then ?_
    refine w_seq ?_
    refine w_block ?_
    refine w_seq ?_
    refine w_reg ?_
    refine wl_mv (.tmp 19) (.int .i64 ((i : Nat) : Int)) (fun _ => rfl) e40_i rfl ?_
    refine wl_bin (fun x y => Instr.indexAt 26 x y) (.tmp 17) (.tmp 19) (.slice d.pt d.tb.length d.ct) (.int .i64 ((i : Nat) : Int)) (pt bp (op + i * 2)) (fun _ => rfl) e40_17 e40_i (ix26 (i := i) hpp hil _) rfl ?_
    refine wl_load 62 (.tmp 22) (pt bp (op + i * 2)) (.agg (y.cells).toArray) rfl rfl (D.run_partR (hRp.mo M).at' 62 0 2 (y.cells) rfl Tryz.underlying62 rfl sz62) rfl ?_
    refine wl_alloc 62 #[.string ⟨#[]⟩, .slice none 0 0] rfl (fun _ => by kernel_rfl) rfl ?_
    intro k3 u41 hk hz hq Q3
    have ne_k1_k3 : k1 ≠ k3 := by have := Q1.lt; omega
    have ne_k2_k3 : k2 ≠ k3 := by have := Q2.lt; omega
    have N_k3 : w.heap.size ≤ k3 := by have := M.size; omega
    replace Q1 := Q1.mo hq
    replace Q2 := Q2.mo hq
    replace M := M.trans hq
    clear hk hz hq
    refine wl_mv (.tmp 21) (.int .i64 ((i : Nat) : Int)) (fun _ => rfl) rfl rfl ?_
    refine wl_st 62 (.tmp 5) (.tmp 23) k3 0 ((y.cells).toArray) [.string ⟨#[]⟩, .slice none 0 0] (y.cells) Q3 rfl rfl rfl rfl rfl sz62 rfl rfl rfl ?_
    intro u42 hS Qn
    replace Q3 := Qn
    clear Qn
    replace Q1 := hS.other _ _ ne_k1_k3 Q1
    replace Q2 := hS.other _ _ ne_k2_k3 Q2
    replace M := hS.mo _ N_k3 M
    clear hS
    refine w_nil ?_
    refine xn_then ?_
    refine w_seq ?_
    refine w_reg ?_
    refine wl_load 62 (.tmp 5) (pt k3 0) (.agg (y.cells).toArray) rfl rfl (run_row Q3 62 0 2 (y.cells) rfl Tryz.underlying62 rfl sz62) rfl ?_
    refine wl_callx 10 [(.tmp 24)] _ [.agg (y.cells).toArray] rfl rfl (fun _ _ => by kernel_rfl) (table_c ((hD.st y hmy).kp M.kp) (hT y hmy)) rfl ?_
    rintro e9 u43 ⟨⟨r9, rfl⟩, hq⟩
    refine ⟨_, rfl, ?_⟩
    replace Q1 := Q1.mo hq
    replace Q2 := Q2.mo hq
    replace Q3 := Q3.mo hq
    replace M := M.trans hq
    clear hq
    refine wl_mv (.tmp 25) (.int .i64 (r9)) (fun _ => rfl) rfl rfl ?_
    refine w_nil ?_
    refine xn_then ?_
    refine w_seq ?_
    refine w_reg ?_
    refine wl_mv (.tmp 6) (.int .i64 (r9)) (fun _ => rfl) rfl rfl ?_
    cases hf30 : decide (r9 = 0) with
    | true =>
      have hf30p := of_decide_eq_true hf30
      refine wl_bin (fun x y => do eqGuard .neq 32 (.tmp 26) (.const (.int .i64 (0))) x y; binOp .neq 32 x y) (.tmp 26) (.const (.int .i64 (0))) (.int .i64 (r9)) (.int .i64 (0)) (.bool false) (fun _ => rfl) rfl rfl (ne34 hf30 _ _ _) rfl ?_
      refine w_nil ?_
      refine xn_then ?_
      refine w_condF rfl ?_
      refine w_skip ?_
      refine xn_blk ?_
      refine xn_then ?_
      refine w_reg ?_
      refine wl_bin (fun x y => do eqGuard .add 3 (.tmp 19) (.const (.int .i64 (1))) x y; binOp .add 3 x y) (.tmp 19) (.const (.int .i64 (1))) (.int .i64 ((i : Nat) : Int)) (.int .i64 (1)) (.int .i64 ((i + 1 : Nat) : Int)) (fun _ => rfl) e40_i rfl (add1r (k := i) (by omega) _ _ _) rfl ?_
      refine wl_mv (.tmp 31) (.int .i64 ((i + 1 : Nat) : Int)) (fun _ => rfl) rfl rfl ?_
      refine w_nil ?_
      exact xn_loop (d.tb.length - (i + 1)) (by omega) ⟨i + 1, rfl, by omega, e40_1, e40_2, e40_17, e40_18, rfl, Q1, Q2, M⟩
    | false =>
      have hf30p := of_decide_eq_false hf30
      refine wl_bin (fun x y => do eqGuard .neq 32 (.tmp 26) (.const (.int .i64 (0))) x y; binOp .neq 32 x y) (.tmp 26) (.const (.int .i64 (0))) (.int .i64 (r9)) (.int .i64 (0)) (.bool true) (fun _ => rfl) rfl rfl (ne34 hf30 _ _ _) rfl ?_
      refine w_nil ?_
      refine xn_then ?_
      refine w_condT rfl ?_
      refine w_seq ?_
      refine w_reg ?_
      refine wl_mv (.tmp 4) (.int .i64 ((i : Nat) : Int)) (fun _ => rfl) rfl rfl ?_
      refine wl_build 31 [(0, (.const (.int .i64 (1)))), (3, (.tmp 28))] [(0, .int .i64 (1)), (3, .int .i64 ((i : Nat) : Int))] (.agg #[.int .i64 (1), .int .i64 0, .int .i64 0, .int .i64 ((i : Nat) : Int), .int .i64 0]) rfl rfl (by kernel_rfl) rfl ?_
      refine wl_mv (.tmp 6) (.int .i64 (r9)) (fun _ => rfl) rfl rfl ?_
      refine wl_st 31 (.tmp 2) (.tmp 29) k2 0 #[.int .i64 (1), .int .i64 0, .int .i64 0, .int .i64 ((i : Nat) : Int), .int .i64 0] [.int .i64 0, .int .i64 0, .int .i64 0, .int .i64 0, .int .i64 0] [.int .i64 (1), .int .i64 0, .int .i64 0, .int .i64 ((i : Nat) : Int), .int .i64 0] Q2 rfl rfl e40_2 rfl rfl sz31 rfl rfl rfl ?_
      intro u44 hS Qn
      replace Q2 := Qn
      clear Qn
      replace Q1 := hS.other _ _ ne_k1_k2 Q1
      replace Q3 := hS.other _ _ ne_k2_k3.symm Q3
      replace M := hS.mo _ N_k2 M
      clear hS
      refine wl_mv (.tmp 30) (.int .i64 (r9)) (fun _ => rfl) rfl rfl ?_
      refine w_nil ?_
      refine xn_then ?_
      refine w_ret ?_
      refine xr_blk ?_
      refine xr_then ?_
      refine xr_then ?_
      refine xr_blk ?_
      refine xr_then ?_
      exact w_ret2 _ _ (.agg #[.int .i64 (1), .int .i64 0, .int .i64 0, .int .i64 ((i : Nat) : Int), .int .i64 0]) (.int .i64 (r9)) rfl ⟨k2, e40_2, (run_row Q2 31 0 5 [.int .i64 (1), .int .i64 0, .int .i64 0, .int .i64 ((i : Nat) : Int), .int .i64 0] rfl Tryz.underlying31 rfl sz31)⟩ rfl ⟨_, _, _, _, _, _, rfl, fun h => absurd h hf30p, M⟩
  · skip
    have hid : decide (i < d.tb.length) = false := decide_eq_false hil
    have hie : i = d.tb.length := by omega
    refine w_seq ?_
    refine w_reg ?_
    refine wl_bin (fun x y => do eqGuard .lss 3 (.tmp 19) (.tmp 18) x y; binOp .lss 3 x y) (.tmp 19) (.tmp 18) (.int .i64 ((i : Nat) : Int)) (.int .i64 ((d.tb.length : Nat) : Int)) (.bool false) (fun _ => rfl) e40_i e40_18 (ltN hid _ _ _) rfl ?_
    refine w_nil ?_
    refine xn_then ?_
    refine w_seq ?_
    refine w_condF rfl ?_
    refine w_exit ?_
    refine xx_then ?_
    refine xx_then ?_
    refine xx_blk ?_
    refine xn_then ?_
    refine w_seq ?_
    refine w_reg ?_
    refine wl_load 29 (.tmp 1) (pt k1 0) (.agg (d.cells).toArray) rfl e40_1 (run_row Q1 29 0 7 (d.cells) rfl Tryz.underlying29 rfl sz29) rfl ?_
    refine wl_callx 11 [(.tmp 32)] _ [.agg (d.cells).toArray] rfl rfl (fun _ _ => by kernel_rfl) (pflat_n d (hD.kp M.kp) hB) rfl ?_
    rintro e9 u41 ⟨pa, cap, R, rfl, hkey6, hSR, hIR, hq⟩
    have hkey := keys56 hkey6
    refine ⟨_, rfl, ?_⟩
    replace Q1 := Q1.mo hq
    replace Q2 := Q2.mo hq
    replace M := M.trans hq
    clear hq
    have hlen := key_len hkey
    have hl64 := fla_len d
    have hAR := ab_R hkey6 (fun x hx => (hB x hx).2)
    obtain ⟨wF, hwF⟩ : ∃ wF : World, wF = u41 := ⟨_, rfl⟩
    have MF : Mo w wF := by rw [hwF]; exact M
    rw [← hwF] at hSR hIR
    have M2 : Mo wF u41 := by rw [hwF]; exact Mo.refl _
    clear M
    have M : Mo wF u41 := M2
    clear M2
    have hDF := hD.kp MF.kp
    refine wl_mv (.tmp 33) (.slice pa R.length cap) (fun _ => rfl) rfl rfl ?_
    refine w_nil ?_
    refine xn_then ?_
    refine w_seq ?_
    refine w_seq ?_
    refine w_reg ?_
    refine wl_mv (.tmp 7) (.slice pa R.length cap) (fun _ => rfl) rfl rfl ?_
    refine wl_val (.int .i64 ((R.length : Nat) : Int)) (len37 _ _ _ _ _ (by exact rfl) _ _ _ _ _ _) rfl ?_
    refine wl_mv (.const (.int .i64 (0))) (.int .i64 (0)) (fun _ => rfl) rfl rfl ?_
    refine w_nil ?_
    refine xn_then ?_
    refine w_block ?_
    have hRD : ∀ (n : Nat), n < R.length → ∀ {u : World}, Mo wF u → RD u d pa R n := fun n hn u m => ⟨hDF.kp m.kp, hSR.kp m.kp, fun x hx => (hIR x hx).it.kp m.kp, (fla_wf d).wf.key hkey, by omega, hn⟩
    refine w_loop (fun m l w1 => ∃ i : Nat, m = R.length - i ∧ i ≤ R.length ∧ look l 1 = pt k1 0 ∧ look l 2 = pt k2 0 ∧ look l 7 = .slice pa R.length cap ∧ look l 34 = .slice pa R.length cap ∧ look l 35 = .int .i64 ((R.length : Nat) : Int) ∧ look l 36 = .int .i64 ((i : Nat) : Int) ∧ At w1 k1 (d.cells) ∧ At w1 k2 [.int .i64 0, .int .i64 0, .int .i64 0, .int .i64 0, .int .i64 0] ∧ (∀ n x, n < i → R[n]? = some x → ∀ y ∈ x.items, itC d R n y = 0) ∧ Mo wF w1) _ ⟨0, rfl, Nat.zero_le _, e40_1, e40_2, rfl, rfl, rfl, rfl, Q1, Q2, fun n x hn => absurd hn (Nat.not_lt_zero n), M⟩ ?_
    clear Q1 Q2 M
    rintro m l40 wl40 ⟨i, rfl, hi, e40_1, e40_2, e40_7, e40_34, e40_35, e40_i, Q1, Q2, hSk, M⟩
    by_cases hil : i < R.length
    · skip
      have hid : decide (i < R.length) = true := decide_eq_true hil
      obtain ⟨x, hx⟩ := get_of_lt hil
      have hmx := List.mem_of_getElem? hx
      have hIRi := hIR x hmx
      obtain ⟨bp, op, hpp, hRp⟩ := D.SL.rw hSR hx
      have hABR : ∀ y ∈ x.items, AB y.ex := hAR x hmx
      refine w_seq ?_
      refine w_reg ?_
      refine wl_bin (fun x y => do eqGuard .lss 3 (.tmp 36) (.tmp 35) x y; binOp .lss 3 x y) (.tmp 36) (.tmp 35) (.int .i64 ((i : Nat) : Int)) (.int .i64 ((R.length : Nat) : Int)) (.bool true) (fun _ => rfl) e40_i e40_35 (ltN hid _ _ _) rfl ?_
      refine w_nil ?_
      refine xn_then ?_
      refine w_seq ?_
      refine w_condT rfl ?_
      refine w_skip ?_
      refine xn_then ?_
      refine w_seq ?_
      refine w_block ?_
      refine w_seq ?_
      refine w_reg ?_
      refine wl_mv (.tmp 36) (.int .i64 ((i : Nat) : Int)) (fun _ => rfl) e40_i rfl ?_
      refine wl_bin (fun x y => Instr.indexAt 37 x y) (.tmp 34) (.tmp 36) (.slice pa R.length cap) (.int .i64 ((i : Nat) : Int)) (pt bp (op + i * 5)) (fun _ => rfl) e40_34 e40_i (ix37 (i := i) hpp hil _) rfl ?_
      refine wl_load 40 (.tmp 39) (pt bp (op + i * 5)) (.agg (x.cells).toArray) rfl rfl (D.run_partR (hRp.mo M).at' 40 0 5 (x.cells) rfl Tryz.underlying40 rfl sz40) rfl ?_
      refine wl_alloc 40 #[.int .i64 0, .int .i64 0, .string ⟨#[]⟩, .int .i64 0, .slice none 0 0] rfl (fun _ => by kernel_rfl) rfl ?_
      intro k3 u41 hk hz hq Q3
      have ne_k1_k3 : k1 ≠ k3 := by have := Q1.lt; omega
      have ne_k2_k3 : k2 ≠ k3 := by have := Q2.lt; omega
      have N_k3 : wF.heap.size ≤ k3 := by have := M.size; omega
      replace Q1 := Q1.mo hq
      replace Q2 := Q2.mo hq
      replace M := M.trans hq
      clear hk hz hq
      refine wl_mv (.tmp 38) (.int .i64 ((i : Nat) : Int)) (fun _ => rfl) rfl rfl ?_
      refine wl_st 40 (.tmp 9) (.tmp 40) k3 0 ((x.cells).toArray) [.int .i64 0, .int .i64 0, .string ⟨#[]⟩, .int .i64 0, .slice none 0 0] (x.cells) Q3 rfl rfl rfl rfl rfl sz40 rfl rfl rfl ?_
      intro u42 hS Qn
      replace Q3 := Qn
      clear Qn
      replace Q1 := hS.other _ _ ne_k1_k3 Q1
      replace Q2 := hS.other _ _ ne_k2_k3 Q2
      replace M := hS.mo _ N_k3 M
      clear hS
      refine w_nil ?_
      refine xn_then ?_
      refine w_seq ?_
      refine w_reg ?_
      refine wl_un (fun v => Instr.fieldAt 40 v 4) (.tmp 9) (pt k3 0) (pt k3 4) (fun _ => rfl) rfl (by kernel_rfl) rfl ?_
      refine wl_load 22 (.tmp 41) (pt k3 4) (.slice x.pi x.items.length x.ci) rfl rfl (run_one Q3 22 4 rfl Tryz.underlying22 rfl) rfl ?_
      refine wl_val (.int .i64 ((x.items.length : Nat) : Int)) (len22 _ _ _ _ _ (by exact rfl) _ _ _ _ _ _) rfl ?_
      refine wl_mv (.const (.int .i64 (0))) (.int .i64 (0)) (fun _ => rfl) rfl rfl ?_
      refine w_nil ?_
      refine xn_then ?_
      refine w_block ?_
      have hz8 := hIRi.it.1
      unfold maxLen at hz8
      refine w_loop (fun m l w1 => ∃ j : Nat, m = x.items.length - j ∧ j ≤ x.items.length ∧ look l 1 = pt k1 0 ∧ look l 2 = pt k2 0 ∧ look l 7 = .slice pa R.length cap ∧ look l 8 = .int .i64 ((i : Nat) : Int) ∧ look l 34 = .slice pa R.length cap ∧ look l 35 = .int .i64 ((R.length : Nat) : Int) ∧ look l 36 = .int .i64 ((i : Nat) : Int) ∧ look l 42 = .slice x.pi x.items.length x.ci ∧ look l 43 = .int .i64 ((x.items.length : Nat) : Int) ∧ look l 44 = .int .i64 ((j : Nat) : Int) ∧ At w1 k1 (d.cells) ∧ At w1 k2 [.int .i64 0, .int .i64 0, .int .i64 0, .int .i64 0, .int .i64 0] ∧ (∀ y ∈ x.items.take j, itC d R i y = 0) ∧ Mo wF w1) _ ⟨0, rfl, Nat.zero_le _, e40_1, e40_2, e40_7, rfl, e40_34, e40_35, e40_i, rfl, rfl, rfl, Q1, Q2, fun _ h => (by simp at h), M⟩ ?_
      clear Q1 Q2 Q3 M
      rintro m l60 wl60 ⟨j, rfl, hj, e60_1, e60_2, e60_7, e60_8, e60_34, e60_35, e60_36, e60_42, e60_43, e60_i, Q1, Q2, hIk, M⟩
      by_cases hjl : j < x.items.length
      · skip
        have hjd : decide (j < x.items.length) = true := decide_eq_true hjl
        obtain ⟨y, hy⟩ := get_of_lt hjl
        have hmy := List.mem_of_getElem? hy
        obtain ⟨bq, oq, hpq, hRq⟩ := D.SL.rw hIRi.it hy
        refine w_seq ?_
        refine w_reg ?_
        refine wl_bin (fun x y => do eqGuard .lss 3 (.tmp 44) (.tmp 43) x y; binOp .lss 3 x y) (.tmp 44) (.tmp 43) (.int .i64 ((j : Nat) : Int)) (.int .i64 ((x.items.length : Nat) : Int)) (.bool true) (fun _ => rfl) e60_i e60_43 (ltN hjd _ _ _) rfl ?_
        refine w_nil ?_
        refine xn_then ?_
        refine w_seq ?_
        refine w_condT rfl ?_
        refine w_skip ?_
        refine xn_then ?_
        refine w_seq ?_
        refine w_block ?_
        refine w_seq ?_
        refine w_reg ?_
        refine wl_mv (.tmp 44) (.int .i64 ((j : Nat) : Int)) (fun _ => rfl) e60_i rfl ?_
        refine wl_bin (fun x y => Instr.indexAt 22 x y) (.tmp 42) (.tmp 44) (.slice x.pi x.items.length x.ci) (.int .i64 ((j : Nat) : Int)) (pt bq (oq + j * 23)) (fun _ => rfl) e60_42 e60_i (ix22 (i := j) hpq hjl _) rfl ?_
        refine wl_load 54 (.tmp 47) (pt bq (oq + j * 23)) (.agg (y.cells).toArray) rfl rfl (D.run_partR (hRq.mo M).at' 54 0 23 (y.cells) rfl Tryz.underlying54 rfl sz54) rfl ?_
        refine wl_alloc 54 #[.string ⟨#[]⟩, .int .i64 0, .int .i64 0, .int .i64 0, .bool false, .int .i64 0, .int .i64 0, .int .i64 0, .string ⟨#[]⟩, .string ⟨#[]⟩, .int .i64 0, .bool false, .int .u64 0, .int .u64 0, .int .u64 0, .int .u64 0, .int .i64 0, .bool false, .string ⟨#[]⟩, .int .i64 0, .int .i64 0, .int .i64 0, .slice none 0 0] rfl (fun _ => by kernel_rfl) rfl ?_
        intro k4 u61 hk hz hq Q4
        have ne_k1_k4 : k1 ≠ k4 := by have := Q1.lt; omega
        have ne_k2_k4 : k2 ≠ k4 := by have := Q2.lt; omega
        have N_k4 : wF.heap.size ≤ k4 := by have := M.size; omega
        replace Q1 := Q1.mo hq
        replace Q2 := Q2.mo hq
        replace M := M.trans hq
        clear hk hz hq
        refine wl_mv (.tmp 46) (.int .i64 ((j : Nat) : Int)) (fun _ => rfl) rfl rfl ?_
        refine wl_st 54 (.tmp 11) (.tmp 48) k4 0 ((y.cells).toArray) [.string ⟨#[]⟩, .int .i64 0, .int .i64 0, .int .i64 0, .bool false, .int .i64 0, .int .i64 0, .int .i64 0, .string ⟨#[]⟩, .string ⟨#[]⟩, .int .i64 0, .bool false, .int .u64 0, .int .u64 0, .int .u64 0, .int .u64 0, .int .i64 0, .bool false, .string ⟨#[]⟩, .int .i64 0, .int .i64 0, .int .i64 0, .slice none 0 0] (y.cells) Q4 rfl rfl rfl rfl rfl sz54 rfl rfl rfl ?_
        intro u62 hS Qn
        replace Q4 := Qn
        clear Qn
        replace Q1 := hS.other _ _ ne_k1_k4 Q1
        replace Q2 := hS.other _ _ ne_k2_k4 Q2
        replace M := hS.mo _ N_k4 M
        clear hS
        refine w_nil ?_
        refine xn_then ?_
        refine w_seq ?_
        refine w_reg ?_
        refine wl_load 29 (.tmp 1) (pt k1 0) (.agg (d.cells).toArray) rfl e60_1 (run_row Q1 29 0 7 (d.cells) rfl Tryz.underlying29 rfl sz29) rfl ?_
        refine wl_mv (.tmp 7) (.slice pa R.length cap) (fun _ => rfl) e60_7 rfl ?_
        refine wl_mv (.tmp 8) (.int .i64 ((i : Nat) : Int)) (fun _ => rfl) e60_8 rfl ?_
        refine wl_build 65 [(0, (.tmp 49)), (1, (.tmp 50)), (2, (.tmp 51))] [(0, .agg (d.cells).toArray), (1, .slice pa R.length cap), (2, .int .i64 ((i : Nat) : Int))] (.agg #[.string d.nm, .string d.rt.nm, .int .i64 d.rt.mx, .slice d.rt.pi d.rt.items.length d.rt.ci, .slice d.rt.pk d.rt.kids.length d.rt.ck, .slice d.pt d.tb.length d.ct, .slice d.pp d.pg.length d.cp, .slice pa R.length cap, .int .i64 ((i : Nat) : Int)]) rfl rfl (by kernel_rfl) rfl ?_
        refine wl_load 54 (.tmp 11) (pt k4 0) (.agg (y.cells).toArray) rfl rfl (run_row Q4 54 0 23 (y.cells) rfl Tryz.underlying54 rfl sz54) rfl ?_
        refine wl_call 12 [(.tmp 52), (.tmp 53)] _ [.agg #[.string d.nm, .string d.rt.nm, .int .i64 d.rt.mx, .slice d.rt.pi d.rt.items.length d.rt.ci, .slice d.rt.pk d.rt.kids.length d.rt.ck, .slice d.pt d.tb.length d.ct, .slice d.pp d.pg.length d.cp, .slice pa R.length cap, .int .i64 ((i : Nat) : Int)], .agg (y.cells).toArray] (.int .i64 (itC d R i y)) rfl rfl (fun _ _ => by kernel_rfl) (itC_n (hRD i (by omega) M) cap ((hIRi.ex y hmy).kp M.kp) (hABR y hmy)) rfl ?_
        intro u63 hq
        replace Q1 := Q1.mo hq
        replace Q2 := Q2.mo hq
        replace Q4 := Q4.mo hq
        replace M := M.trans hq
        clear hq
        refine wl_mv (.tmp 54) (.int .i64 (itC d R i y)) (fun _ => rfl) rfl rfl ?_
        refine w_nil ?_
        refine xn_then ?_
        refine w_seq ?_
        refine w_reg ?_
        refine wl_mv (.tmp 12) (.int .i64 (itC d R i y)) (fun _ => rfl) rfl rfl ?_
        cases hf60 : decide (itC d R i y = 0) with
        | true =>
          have hf60p := of_decide_eq_true hf60
          refine wl_bin (fun x y => do eqGuard .neq 32 (.tmp 55) (.const (.int .i64 (0))) x y; binOp .neq 32 x y) (.tmp 55) (.const (.int .i64 (0))) (.int .i64 (itC d R i y)) (.int .i64 (0)) (.bool false) (fun _ => rfl) rfl rfl (ne34 hf60 _ _ _) rfl ?_
          refine w_nil ?_
          refine xn_then ?_
          refine w_condF rfl ?_
          refine w_skip ?_
          refine xn_blk ?_
          refine xn_then ?_
          refine w_reg ?_
          refine wl_bin (fun x y => do eqGuard .add 3 (.tmp 44) (.const (.int .i64 (1))) x y; binOp .add 3 x y) (.tmp 44) (.const (.int .i64 (1))) (.int .i64 ((j : Nat) : Int)) (.int .i64 (1)) (.int .i64 ((j + 1 : Nat) : Int)) (fun _ => rfl) e60_i rfl (add1r (k := j) (by omega) _ _ _) rfl ?_
          refine wl_mv (.tmp 61) (.int .i64 ((j + 1 : Nat) : Int)) (fun _ => rfl) rfl rfl ?_
          refine w_nil ?_
          exact xn_loop (x.items.length - (j + 1)) (by omega) ⟨j + 1, rfl, by omega, e60_1, e60_2, e60_7, e60_8, e60_34, e60_35, e60_36, e60_42, e60_43, rfl, Q1, Q2, all_s hIk hy hf60p, M⟩
        | false =>
          have hf60p := of_decide_eq_false hf60
          refine wl_bin (fun x y => do eqGuard .neq 32 (.tmp 55) (.const (.int .i64 (0))) x y; binOp .neq 32 x y) (.tmp 55) (.const (.int .i64 (0))) (.int .i64 (itC d R i y)) (.int .i64 (0)) (.bool true) (fun _ => rfl) rfl rfl (ne34 hf60 _ _ _) rfl ?_
          refine w_nil ?_
          refine xn_then ?_
          refine w_condT rfl ?_
          refine w_seq ?_
          refine w_reg ?_
          refine wl_mv (.tmp 8) (.int .i64 ((i : Nat) : Int)) (fun _ => rfl) e60_8 rfl ?_
          refine wl_mv (.tmp 10) (.int .i64 ((j : Nat) : Int)) (fun _ => rfl) rfl rfl ?_
          refine wl_build 31 [(0, (.const (.int .i64 (3)))), (1, (.tmp 57)), (2, (.tmp 58))] [(0, .int .i64 (3)), (1, .int .i64 ((i : Nat) : Int)), (2, .int .i64 ((j : Nat) : Int))] (.agg #[.int .i64 (3), .int .i64 ((i : Nat) : Int), .int .i64 ((j : Nat) : Int), .int .i64 0, .int .i64 0]) rfl rfl (by kernel_rfl) rfl ?_
          refine wl_mv (.tmp 12) (.int .i64 (itC d R i y)) (fun _ => rfl) rfl rfl ?_
          replace M := MF.trans M
          refine wl_st 31 (.tmp 2) (.tmp 59) k2 0 #[.int .i64 (3), .int .i64 ((i : Nat) : Int), .int .i64 ((j : Nat) : Int), .int .i64 0, .int .i64 0] [.int .i64 0, .int .i64 0, .int .i64 0, .int .i64 0, .int .i64 0] [.int .i64 (3), .int .i64 ((i : Nat) : Int), .int .i64 ((j : Nat) : Int), .int .i64 0, .int .i64 0] Q2 rfl rfl e60_2 rfl rfl sz31 rfl rfl rfl ?_
          intro u64 hS Qn
          replace Q2 := Qn
          clear Qn
          replace Q1 := hS.other _ _ ne_k1_k2 Q1
          replace Q4 := hS.other _ _ ne_k2_k4.symm Q4
          replace M := hS.mo _ N_k2 M
          clear hS
          refine wl_mv (.tmp 60) (.int .i64 (itC d R i y)) (fun _ => rfl) rfl rfl ?_
          refine w_nil ?_
          refine xn_then ?_
          refine w_ret ?_
          refine xr_blk ?_
          refine xr_then ?_
          refine xr_then ?_
          refine xr_blk ?_
          refine xr_blk ?_
          refine xr_then ?_
          refine xr_then ?_
          refine xr_blk ?_
          refine xr_then ?_
          exact w_ret2 _ _ (.agg #[.int .i64 (3), .int .i64 ((i : Nat) : Int), .int .i64 ((j : Nat) : Int), .int .i64 0, .int .i64 0]) (.int .i64 (itC d R i y)) rfl ⟨k2, e60_2, (run_row Q2 31 0 5 [.int .i64 (3), .int .i64 ((i : Nat) : Int), .int .i64 ((j : Nat) : Int), .int .i64 0, .int .i64 0] rfl Tryz.underlying31 rfl sz31)⟩ rfl ⟨_, _, _, _, _, _, rfl, fun h => absurd h hf60p, M⟩
      · skip
        have hjd : decide (j < x.items.length) = false := decide_eq_false hjl
        have hje : j = x.items.length := by omega
        refine w_seq ?_
        refine w_reg ?_
        refine wl_bin (fun x y => do eqGuard .lss 3 (.tmp 44) (.tmp 43) x y; binOp .lss 3 x y) (.tmp 44) (.tmp 43) (.int .i64 ((j : Nat) : Int)) (.int .i64 ((x.items.length : Nat) : Int)) (.bool false) (fun _ => rfl) e60_i e60_43 (ltN hjd _ _ _) rfl ?_
        refine w_nil ?_
        refine xn_then ?_
        refine w_seq ?_
        refine w_condF rfl ?_
        refine w_exit ?_
        refine xx_then ?_
        refine xx_then ?_
        refine xx_blk ?_
        refine xn_blk ?_
        refine xn_then ?_
        refine w_reg ?_
        refine wl_bin (fun x y => do eqGuard .add 3 (.tmp 36) (.const (.int .i64 (1))) x y; binOp .add 3 x y) (.tmp 36) (.const (.int .i64 (1))) (.int .i64 ((i : Nat) : Int)) (.int .i64 (1)) (.int .i64 ((i + 1 : Nat) : Int)) (fun _ => rfl) e60_36 rfl (add1r (k := i) (by omega) _ _ _) rfl ?_
        refine wl_mv (.tmp 62) (.int .i64 ((i + 1 : Nat) : Int)) (fun _ => rfl) rfl rfl ?_
        refine w_nil ?_
        exact xn_loop (R.length - (i + 1)) (by omega) ⟨i + 1, rfl, by omega, e60_1, e60_2, e60_7, e60_34, e60_35, rfl, Q1, Q2, fun n x9 hn hx9 => by
          rcases Nat.lt_or_ge n i with q | q
          · exact hSk n x9 q hx9
          · have e9 : n = i := by omega
            subst e9
            rw [hx] at hx9
            cases hx9
            exact all_e hIk hje, M⟩
    · skip
      have hid : decide (i < R.length) = false := decide_eq_false hil
      have hie : i = R.length := by omega
      have hRa : ∀ n x, R[n]? = some x → ∀ y ∈ x.items, itC d R n y = 0 := fun n x hx => hSk n x (by have := lt_of_get hx; omega) hx
      refine w_seq ?_
      refine w_reg ?_
      refine wl_bin (fun x y => do eqGuard .lss 3 (.tmp 36) (.tmp 35) x y; binOp .lss 3 x y) (.tmp 36) (.tmp 35) (.int .i64 ((i : Nat) : Int)) (.int .i64 ((R.length : Nat) : Int)) (.bool false) (fun _ => rfl) e40_i e40_35 (ltN hid _ _ _) rfl ?_
      refine w_nil ?_
      refine xn_then ?_
      refine w_seq ?_
      refine w_condF rfl ?_
      refine w_exit ?_
      refine xx_then ?_
      refine xx_then ?_
      refine xx_blk ?_
      refine xn_then ?_
      refine w_seq ?_
      refine w_seq ?_
      refine w_reg ?_
      refine wl_un (fun v => Instr.fieldAt 29 v 3) (.tmp 1) (pt k1 0) (pt k1 6) (fun _ => rfl) e40_1 (by kernel_rfl) rfl ?_
      refine wl_load 27 (.tmp 63) (pt k1 6) (.slice d.pp d.pg.length d.cp) rfl rfl (run_one Q1 27 6 rfl Tryz.underlying27 rfl) rfl ?_
      refine wl_val (.int .i64 ((d.pg.length : Nat) : Int)) (len27 _ _ _ _ _ (by exact rfl) _ _ _ _ _ _) rfl ?_
      refine wl_mv (.const (.int .i64 (0))) (.int .i64 (0)) (fun _ => rfl) rfl rfl ?_
      refine w_nil ?_
      refine xn_then ?_
      refine w_block ?_
      have hz9 := hDF.pg.1
      unfold maxLen at hz9
      refine w_loop (fun m l w1 => ∃ i : Nat, m = d.pg.length - i ∧ i ≤ d.pg.length ∧ look l 1 = pt k1 0 ∧ look l 2 = pt k2 0 ∧ look l 7 = .slice pa R.length cap ∧ look l 64 = .slice d.pp d.pg.length d.cp ∧ look l 65 = .int .i64 ((d.pg.length : Nat) : Int) ∧ look l 66 = .int .i64 ((i : Nat) : Int) ∧ At w1 k1 (d.cells) ∧ At w1 k2 [.int .i64 0, .int .i64 0, .int .i64 0, .int .i64 0, .int .i64 0] ∧ (∀ p ∈ d.pg.take i, whC d R 0 p.wh = 0) ∧ Mo wF w1) _ ⟨0, rfl, Nat.zero_le _, e40_1, e40_2, e40_7, rfl, rfl, rfl, Q1, Q2, fun _ h => (by simp at h), M⟩ ?_
      clear Q1 Q2 M
      rintro m l90 wl90 ⟨i, rfl, hi, e90_1, e90_2, e90_7, e90_64, e90_65, e90_i, Q1, Q2, hPk, M⟩
      by_cases hil : i < d.pg.length
      · skip
        have hid : decide (i < d.pg.length) = true := decide_eq_true hil
        obtain ⟨p, hp⟩ := get_of_lt hil
        have hmp := List.mem_of_getElem? hp
        obtain ⟨br, or, hpr, hRr⟩ := D.SL.rw hDF.pg hp
        refine w_seq ?_
        refine w_reg ?_
        refine wl_bin (fun x y => do eqGuard .lss 3 (.tmp 66) (.tmp 65) x y; binOp .lss 3 x y) (.tmp 66) (.tmp 65) (.int .i64 ((i : Nat) : Int)) (.int .i64 ((d.pg.length : Nat) : Int)) (.bool true) (fun _ => rfl) e90_i e90_65 (ltN hid _ _ _) rfl ?_
        refine w_nil ?_
        refine xn_then ?_
        refine w_seq ?_
        refine w_condT rfl ?_
        refine w_skip ?_
        refine xn_then ?_
        refine w_seq ?_
        refine w_block ?_
        refine w_seq ?_
        refine w_reg ?_
        refine wl_mv (.tmp 66) (.int .i64 ((i : Nat) : Int)) (fun _ => rfl) e90_i rfl ?_
        refine wl_bin (fun x y => Instr.indexAt 27 x y) (.tmp 64) (.tmp 66) (.slice d.pp d.pg.length d.cp) (.int .i64 ((i : Nat) : Int)) (pt br (or + i * 19)) (fun _ => rfl) e90_64 e90_i (ix27 (i := i) hpr hil _) rfl ?_
        refine wl_load 59 (.tmp 69) (pt br (or + i * 19)) (.agg (p.cells).toArray) rfl rfl (D.run_partR (hRr.mo M).at' 59 0 19 (p.cells) rfl Tryz.underlying59 rfl sz59) rfl ?_
        refine wl_alloc 59 #[.string ⟨#[]⟩, .int .i64 0, .int .i64 0, .string ⟨#[]⟩, .string ⟨#[]⟩, .int .i64 0, .bool false, .int .u64 0, .int .u64 0, .int .u64 0, .int .u64 0, .int .i64 0, .bool false, .string ⟨#[]⟩, .int .i64 0, .int .i64 0, .int .i64 0, .slice none 0 0, .slice none 0 0] rfl (fun _ => by kernel_rfl) rfl ?_
        intro k3 u91 hk hz hq Q3
        have ne_k1_k3 : k1 ≠ k3 := by have := Q1.lt; omega
        have ne_k2_k3 : k2 ≠ k3 := by have := Q2.lt; omega
        have N_k3 : wF.heap.size ≤ k3 := by have := M.size; omega
        replace Q1 := Q1.mo hq
        replace Q2 := Q2.mo hq
        replace M := M.trans hq
        clear hk hz hq
        refine wl_mv (.tmp 68) (.int .i64 ((i : Nat) : Int)) (fun _ => rfl) rfl rfl ?_
        refine wl_st 59 (.tmp 14) (.tmp 70) k3 0 ((p.cells).toArray) [.string ⟨#[]⟩, .int .i64 0, .int .i64 0, .string ⟨#[]⟩, .string ⟨#[]⟩, .int .i64 0, .bool false, .int .u64 0, .int .u64 0, .int .u64 0, .int .u64 0, .int .i64 0, .bool false, .string ⟨#[]⟩, .int .i64 0, .int .i64 0, .int .i64 0, .slice none 0 0, .slice none 0 0] (p.cells) Q3 rfl rfl rfl rfl rfl sz59 rfl rfl rfl ?_
        intro u92 hS Qn
        replace Q3 := Qn
        clear Qn
        replace Q1 := hS.other _ _ ne_k1_k3 Q1
        replace Q2 := hS.other _ _ ne_k2_k3 Q2
        replace M := hS.mo _ N_k3 M
        clear hS
        refine w_nil ?_
        refine xn_then ?_
        refine w_seq ?_
        refine w_reg ?_
        refine wl_load 29 (.tmp 1) (pt k1 0) (.agg (d.cells).toArray) rfl e90_1 (run_row Q1 29 0 7 (d.cells) rfl Tryz.underlying29 rfl sz29) rfl ?_
        refine wl_mv (.tmp 7) (.slice pa R.length cap) (fun _ => rfl) e90_7 rfl ?_
        refine wl_build 65 [(0, (.tmp 71)), (1, (.tmp 72)), (2, (.const (.int .i64 (0))))] [(0, .agg (d.cells).toArray), (1, .slice pa R.length cap), (2, .int .i64 (0))] (.agg #[.string d.nm, .string d.rt.nm, .int .i64 d.rt.mx, .slice d.rt.pi d.rt.items.length d.rt.ci, .slice d.rt.pk d.rt.kids.length d.rt.ck, .slice d.pt d.tb.length d.ct, .slice d.pp d.pg.length d.cp, .slice pa R.length cap, .int .i64 (0)]) rfl rfl (by kernel_rfl) rfl ?_
        refine wl_un (fun v => Instr.fieldAt 59 v 1) (.tmp 14) (pt k3 0) (pt k3 1) (fun _ => rfl) rfl (by kernel_rfl) rfl ?_
        refine wl_load 52 (.tmp 74) (pt k3 1) (.agg #[.int .i64 p.wh.k, .int .i64 p.wh.op, .string p.wh.nm, .string p.wh.se, .int .i64 p.wh.v.k, .bool p.wh.v.d.b, .int .u64 p.wh.v.d.n0, .int .u64 p.wh.v.d.n1, .int .u64 p.wh.v.d.n2, .int .u64 p.wh.v.d.n3, .int .i64 p.wh.v.d.s, .bool p.wh.v.f, .string p.wh.v.t, .int .i64 p.wh.v.e, .int .i64 p.wh.sc, .int .i64 p.wh.po, .slice p.wh.pa p.wh.args.length p.wh.cap]) rfl rfl (run_row Q3 52 1 17 [.int .i64 p.wh.k, .int .i64 p.wh.op, .string p.wh.nm, .string p.wh.se, .int .i64 p.wh.v.k, .bool p.wh.v.d.b, .int .u64 p.wh.v.d.n0, .int .u64 p.wh.v.d.n1, .int .u64 p.wh.v.d.n2, .int .u64 p.wh.v.d.n3, .int .i64 p.wh.v.d.s, .bool p.wh.v.f, .string p.wh.v.t, .int .i64 p.wh.v.e, .int .i64 p.wh.sc, .int .i64 p.wh.po, .slice p.wh.pa p.wh.args.length p.wh.cap] rfl Tryz.underlying52 rfl sz52) rfl ?_
        refine wl_call 13 [(.tmp 73), (.tmp 75)] _ [.agg #[.string d.nm, .string d.rt.nm, .int .i64 d.rt.mx, .slice d.rt.pi d.rt.items.length d.rt.ci, .slice d.rt.pk d.rt.kids.length d.rt.ck, .slice d.pt d.tb.length d.ct, .slice d.pp d.pg.length d.cp, .slice pa R.length cap, .int .i64 (0)], .agg #[.int .i64 p.wh.k, .int .i64 p.wh.op, .string p.wh.nm, .string p.wh.se, .int .i64 p.wh.v.k, .bool p.wh.v.d.b, .int .u64 p.wh.v.d.n0, .int .u64 p.wh.v.d.n1, .int .u64 p.wh.v.d.n2, .int .u64 p.wh.v.d.n3, .int .i64 p.wh.v.d.s, .bool p.wh.v.f, .string p.wh.v.t, .int .i64 p.wh.v.e, .int .i64 p.wh.sc, .int .i64 p.wh.po, .slice p.wh.pa p.wh.args.length p.wh.cap]] (.int .i64 (whC d R 0 p.wh)) rfl rfl (fun _ _ => by kernel_rfl) (whC_n (hRD 0 (by have := fla_pos d; omega) M) cap ((hDF.wh p hmp).kp M.kp) (hW p hmp)) rfl ?_
        intro u93 hq
        replace Q1 := Q1.mo hq
        replace Q2 := Q2.mo hq
        replace Q3 := Q3.mo hq
        replace M := M.trans hq
        clear hq
        refine wl_mv (.tmp 76) (.int .i64 (whC d R 0 p.wh)) (fun _ => rfl) rfl rfl ?_
        refine w_nil ?_
        refine xn_then ?_
        refine w_seq ?_
        refine w_reg ?_
        refine wl_mv (.tmp 15) (.int .i64 (whC d R 0 p.wh)) (fun _ => rfl) rfl rfl ?_
        cases hf90 : decide (whC d R 0 p.wh = 0) with
        | true =>
          have hf90p := of_decide_eq_true hf90
          refine wl_bin (fun x y => do eqGuard .neq 32 (.tmp 77) (.const (.int .i64 (0))) x y; binOp .neq 32 x y) (.tmp 77) (.const (.int .i64 (0))) (.int .i64 (whC d R 0 p.wh)) (.int .i64 (0)) (.bool false) (fun _ => rfl) rfl rfl (ne34 hf90 _ _ _) rfl ?_
          refine w_nil ?_
          refine xn_then ?_
          refine w_condF rfl ?_
          refine w_skip ?_
          refine xn_blk ?_
          refine xn_then ?_
          refine w_reg ?_
          refine wl_bin (fun x y => do eqGuard .add 3 (.tmp 66) (.const (.int .i64 (1))) x y; binOp .add 3 x y) (.tmp 66) (.const (.int .i64 (1))) (.int .i64 ((i : Nat) : Int)) (.int .i64 (1)) (.int .i64 ((i + 1 : Nat) : Int)) (fun _ => rfl) e90_i rfl (add1r (k := i) (by omega) _ _ _) rfl ?_
          refine wl_mv (.tmp 82) (.int .i64 ((i + 1 : Nat) : Int)) (fun _ => rfl) rfl rfl ?_
          refine w_nil ?_
          exact xn_loop (d.pg.length - (i + 1)) (by omega) ⟨i + 1, rfl, by omega, e90_1, e90_2, e90_7, e90_64, e90_65, rfl, Q1, Q2, all_s hPk hp hf90p, M⟩
        | false =>
          have hf90p := of_decide_eq_false hf90
          refine wl_bin (fun x y => do eqGuard .neq 32 (.tmp 77) (.const (.int .i64 (0))) x y; binOp .neq 32 x y) (.tmp 77) (.const (.int .i64 (0))) (.int .i64 (whC d R 0 p.wh)) (.int .i64 (0)) (.bool true) (fun _ => rfl) rfl rfl (ne34 hf90 _ _ _) rfl ?_
          refine w_nil ?_
          refine xn_then ?_
          refine w_condT rfl ?_
          refine w_seq ?_
          refine w_reg ?_
          refine wl_mv (.tmp 13) (.int .i64 ((i : Nat) : Int)) (fun _ => rfl) rfl rfl ?_
          refine wl_build 31 [(0, (.const (.int .i64 (4)))), (4, (.tmp 79))] [(0, .int .i64 (4)), (4, .int .i64 ((i : Nat) : Int))] (.agg #[.int .i64 (4), .int .i64 0, .int .i64 0, .int .i64 0, .int .i64 ((i : Nat) : Int)]) rfl rfl (by kernel_rfl) rfl ?_
          refine wl_mv (.tmp 15) (.int .i64 (whC d R 0 p.wh)) (fun _ => rfl) rfl rfl ?_
          replace M := MF.trans M
          refine wl_st 31 (.tmp 2) (.tmp 80) k2 0 #[.int .i64 (4), .int .i64 0, .int .i64 0, .int .i64 0, .int .i64 ((i : Nat) : Int)] [.int .i64 0, .int .i64 0, .int .i64 0, .int .i64 0, .int .i64 0] [.int .i64 (4), .int .i64 0, .int .i64 0, .int .i64 0, .int .i64 ((i : Nat) : Int)] Q2 rfl rfl e90_2 rfl rfl sz31 rfl rfl rfl ?_
          intro u94 hS Qn
          replace Q2 := Qn
          clear Qn
          replace Q1 := hS.other _ _ ne_k1_k2 Q1
          replace Q3 := hS.other _ _ ne_k2_k3.symm Q3
          replace M := hS.mo _ N_k2 M
          clear hS
          refine wl_mv (.tmp 81) (.int .i64 (whC d R 0 p.wh)) (fun _ => rfl) rfl rfl ?_
          refine w_nil ?_
          refine xn_then ?_
          refine w_ret ?_
          refine xr_blk ?_
          refine xr_then ?_
          refine xr_then ?_
          refine xr_blk ?_
          refine xr_then ?_
          exact w_ret2 _ _ (.agg #[.int .i64 (4), .int .i64 0, .int .i64 0, .int .i64 0, .int .i64 ((i : Nat) : Int)]) (.int .i64 (whC d R 0 p.wh)) rfl ⟨k2, e90_2, (run_row Q2 31 0 5 [.int .i64 (4), .int .i64 0, .int .i64 0, .int .i64 0, .int .i64 ((i : Nat) : Int)] rfl Tryz.underlying31 rfl sz31)⟩ rfl ⟨_, _, _, _, _, _, rfl, fun h => absurd h hf90p, M⟩
      · skip
        have hid : decide (i < d.pg.length) = false := decide_eq_false hil
        have hie : i = d.pg.length := by omega
        refine w_seq ?_
        refine w_reg ?_
        refine wl_bin (fun x y => do eqGuard .lss 3 (.tmp 66) (.tmp 65) x y; binOp .lss 3 x y) (.tmp 66) (.tmp 65) (.int .i64 ((i : Nat) : Int)) (.int .i64 ((d.pg.length : Nat) : Int)) (.bool false) (fun _ => rfl) e90_i e90_65 (ltN hid _ _ _) rfl ?_
        refine w_nil ?_
        refine xn_then ?_
        refine w_seq ?_
        refine w_condF rfl ?_
        refine w_exit ?_
        refine xx_then ?_
        refine xx_then ?_
        refine xx_blk ?_
        refine xn_then ?_
        refine w_seq ?_
        refine w_reg ?_
        refine wl_build 31 [] [] (.agg #[.int .i64 0, .int .i64 0, .int .i64 0, .int .i64 0, .int .i64 0]) rfl rfl (by kernel_rfl) rfl ?_
        replace M := MF.trans M
        refine wl_st 31 (.tmp 2) (.tmp 83) k2 0 #[.int .i64 0, .int .i64 0, .int .i64 0, .int .i64 0, .int .i64 0] [.int .i64 0, .int .i64 0, .int .i64 0, .int .i64 0, .int .i64 0] [.int .i64 0, .int .i64 0, .int .i64 0, .int .i64 0, .int .i64 0] Q2 rfl rfl e90_2 rfl rfl sz31 rfl rfl rfl ?_
        intro u91 hS Qn
        replace Q2 := Qn
        clear Qn
        replace Q1 := hS.other _ _ ne_k1_k2 Q1
        replace M := hS.mo _ N_k2 M
        clear hS
        refine wl_mv (.const (.int .i64 (0))) (.int .i64 (0)) (fun _ => rfl) rfl rfl ?_
        refine w_nil ?_
        refine xn_then ?_
        refine w_ret ?_
        exact w_ret2 _ _ (.agg #[.int .i64 0, .int .i64 0, .int .i64 0, .int .i64 0, .int .i64 0]) (.int .i64 (0)) rfl ⟨k2, e90_2, (run_row Q2 31 0 5 [.int .i64 0, .int .i64 0, .int .i64 0, .int .i64 0, .int .i64 0] rfl Tryz.underlying31 rfl sz31)⟩ rfl ⟨_, _, _, _, _, _, rfl, fun _ => tk_of hkey6 hRa (all_e hPk hie), M⟩
end Go.Proofs.YtepfokoepibkcaaGreat
