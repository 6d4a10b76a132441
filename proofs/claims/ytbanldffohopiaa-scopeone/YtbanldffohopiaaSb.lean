/-
  Check.
-/
import Derived.Test.YtbanldffohopiaaSa
namespace Go.Proofs.Ytbanldffohopiaa
open Go.RowKit D
/-- A place with an error's number that is not 0, or nothing. -/
def Pk (o : Option (Value × Int)) : Prop := ∀ q, o = some q → (∃ k s i t p : Int, q.1 = plc k s i t p) ∧ q.2 ≠ 0
theorem Pk.er (k s i t p e : Int) : Pk (er (plc k s i t p) e) := fun q hq => by
  unfold Go.Proofs.Ytbanldffohopiaa.er at hq
  split at hq
  · cases hq
  · rename_i h
    cases hq
    exact ⟨⟨k, s, i, t, p, rfl⟩, h⟩
theorem Pk.none : Pk none := fun q hq => by cases hq
theorem Pk.bind {α : Type} {o : Option α} {f : α → Option (Value × Int)} (h : ∀ x, Pk (f x)) : Pk (o.bind f) := fun q hq => by
  cases o with
  | none => cases hq
  | some x => exact h x q hq
theorem Pk.fs {g : Nat → Option (Value × Int)} (h : ∀ j, Pk (g j)) (N : Nat) : Pk ((List.range N).findSome? g) := fun q hq => by
  obtain ⟨j, _, hj⟩ := List.exists_of_findSome?_eq_some hq
  exact h j q hj
theorem Pk.or {a b : Option (Value × Int)} (ha : Pk a) (hb : Pk b) : Pk (a.or b) := fun q hq => by
  cases a with
  | none => exact hb q hq
  | some x => exact ha q hq
theorem Pk.ite {c : Prop} [Decidable c] {a b : Option (Value × Int)} (ha : Pk a) (hb : Pk b) : Pk (if c then a else b) := by
  split
  · exact ha
  · exact hb
theorem pk_tb (l : List Tb) : Pk (tbR l) := Pk.fs (fun _ => Pk.bind (fun _ => Pk.er _ _ _ _ _ _)) _
theorem pk_se (T : List (ByteArray × Int)) (L : List S5) : Pk (seR T L) := Pk.fs (fun _ => Pk.bind (fun _ => Pk.or (Pk.er _ _ _ _ _ _) (Pk.fs (fun _ => Pk.bind (fun _ => Pk.er _ _ _ _ _ _)) _))) _
theorem pk_one (k s i t p e : Int) (h : e ≠ 0) : Pk (some (plc k s i t p, e)) := fun q hq => by cases hq; exact ⟨⟨k, s, i, t, p, rfl⟩, h⟩
theorem pk_fo (L : List S5) (A : Al) : Pk (foR L A) := Pk.fs (fun _ => Pk.fs (fun _ => Pk.bind (fun _ => Pk.ite (pk_one _ _ _ _ _ _ (by decide)) Pk.none)) _) _
theorem pk_pg (L : List S5) (A : Al) (l : List Pg) : Pk (pgR L A l) := Pk.fs (fun _ => Pk.bind (fun _ => Pk.er _ _ _ _ _ _)) _
theorem Pk.some {o : Option (Value × Int)} (h : Pk o) (hs : o.isNone = false) : ∃ k s i t p e : Int, o = some (plc k s i t p, e) ∧ e ≠ 0 := by
  cases o with
  | none => cases hs
  | some q =>
    obtain ⟨⟨k, s, i, t, p, h1⟩, h2⟩ := h q rfl
    exact ⟨k, s, i, t, p, q.2, by rw [← h1], h2⟩
theorem isnn {α : Type} {o : Option α} (h : o.isNone = true) : o = none := by cases o with | none => rfl | some _ => cases h
/-- What all maps say behind tables and sections. -/
def alF (d : Df) : Al := ⟨tbA d.tb d.tb.length, stI (fla d) (fla d).length 0, stK (fla d) (fla d).length⟩
/-- The first thing that is wrong with a definition. -/
def chk (d : Df) : Option (Value × Int) := (er (plc 0 0 0 0 0) (whE d (fla d))).or ((tbR d.tb).or ((seR (tbA d.tb d.tb.length) (fla d)).or ((foR (fla d) (alF d)).or (pgR (fla d) (alF d) d.pg))))
theorem pk_chk (d : Df) : Pk (chk d) := Pk.or (Pk.er _ _ _ _ _ _) (Pk.or (pk_tb _) (Pk.or (pk_se _ _) (Pk.or (pk_fo _ _) (pk_pg _ _ _))))
theorem whE_0 {d : Df} {L : List S5} (h : whE d L = 0) : d.tb.length ≤ 8 ∧ d.pg.length ≤ 16 ∧ L.length ≤ 16 := by
  unfold whE at h
  split at h
  · split at h
    · cases h
    · rename_i h2
      simp [tms] at h2
      omega
  · cases h
theorem check_n (d : Df) {w : World} (hD : LDf w d) : Calls Try.prog 10 #[.agg (d.cells).toArray] w fun e w' => e = .returned (rv (chk d)) ∧ Mo w w' := by
  refine w_enter 38 Try.func10 Try.ntmps10 rfl rfl ?_
  have M : Mo w w := Mo.refl _
  refine w_seq ?_
  refine w_reg ?_
  refine wl_box 29 (.tmp 0) (.agg (d.cells).toArray) (((d.cells).toArray)) rfl rfl (fun _ => by kernel_rfl) rfl ?_
  intro k1 w1 hk hz hq Q1
  have N_k1 : w.heap.size ≤ k1 := by have := M.size; omega
  replace M := M.trans hq
  clear hk hz hq
  refine wl_alloc 33 #[.int .i64 0, .int .i64 0, .int .i64 0, .int .i64 0, .int .i64 0] rfl (fun _ => by kernel_rfl) rfl ?_
  intro k2 w2 hk hz hq Q2
  have ne_k1_k2 : k1 ≠ k2 := by have := Q1.lt; omega
  have N_k2 : w.heap.size ≤ k2 := by have := M.size; omega
  replace Q1 := Q1.mo hq
  replace M := M.trans hq
  clear hk hz hq
  refine wl_mv (.const (.int .i64 (0))) (.int .i64 (0)) (fun _ => rfl) rfl rfl ?_
  refine w_nil ?_
  refine xn_then ?_
  refine w_seq ?_
  refine w_reg ?_
  refine wl_load 29 (.tmp 1) (pt k1 0) (.agg (d.cells).toArray) rfl rfl (run_row Q1 29 0 7 (d.cells) rfl Try.underlying29 rfl sz29) rfl ?_
  refine wl_callx 29 [(.tmp 9)] _ [.agg (d.cells).toArray] rfl rfl (fun _ _ => by kernel_rfl) (newck_n d (hD.kp M.kp)) rfl ?_
  rintro e9 w3 ⟨z, rfl, hzd, hzL, hq, hzD, hC⟩
  refine ⟨_, rfl, ?_⟩
  replace Q1 := Q1.mo hq
  replace Q2 := Q2.mo hq
  replace hzD : ∀ k, z.D k → w.heap.size ≤ k := fun k hk => by have := hzD k hk; have := M.size; omega
  have MK : Mk (fun _ => False) w w3 := Mk.of _ (M.trans hq)
  clear M hq
  subst hzd
  obtain ⟨AL, hAL⟩ : ∃ AL : Al, AL = alF z.d := ⟨_, rfl⟩
  have M : Mo w3 w3 := Mo.refl _
  refine wl_mv (.tmp 10) (pt z.cb 0) (fun _ => rfl) rfl rfl ?_
  refine w_nil ?_
  refine xn_then ?_
  refine w_seq ?_
  refine w_seq ?_
  refine w_reg ?_
  refine wl_mv (.tmp 4) (pt z.cb 0) (fun _ => rfl) rfl rfl ?_
  refine wl_mf (.func 30) [(.tmp 11)] [] [pt z.cb 0] [] rfl rfl rfl rfl ?_
  refine wl_mv (.tmp 4) (pt z.cb 0) (fun _ => rfl) rfl rfl ?_
  refine wl_mf (.func 31) [(.tmp 13)] [] [pt z.cb 0] [] rfl rfl rfl rfl ?_
  refine wl_mv (.tmp 4) (pt z.cb 0) (fun _ => rfl) rfl rfl ?_
  refine wl_mf (.func 32) [(.tmp 15)] [] [pt z.cb 0] [] rfl rfl rfl rfl ?_
  refine wl_mv (.tmp 4) (pt z.cb 0) (fun _ => rfl) rfl rfl ?_
  refine wl_mf (.func 33) [(.tmp 17)] [] [pt z.cb 0] [] rfl rfl rfl rfl ?_
  refine wl_mv (.tmp 4) (pt z.cb 0) (fun _ => rfl) rfl rfl ?_
  refine wl_mf (.func 34) [(.tmp 19)] [] [pt z.cb 0] [] rfl rfl rfl rfl ?_
  refine wl_bs 73 5 [(0, (.tmp 12)), (1, (.tmp 14)), (2, (.tmp 16)), (3, (.tmp 18)), (4, (.tmp 20))] [(0, .func (.func 30) #[pt z.cb 0] #[]), (1, .func (.func 31) #[pt z.cb 0] #[]), (2, .func (.func 32) #[pt z.cb 0] #[]), (3, .func (.func 33) #[pt z.cb 0] #[]), (4, .func (.func 34) #[pt z.cb 0] #[])] #[.func (.func 30) #[pt z.cb 0] #[], .func (.func 31) #[pt z.cb 0] #[], .func (.func 32) #[pt z.cb 0] #[], .func (.func 33) #[pt z.cb 0] #[], .func (.func 34) #[pt z.cb 0] #[]] 72 rfl rfl (fun _ => by kernel_rfl) rfl ?_
  intro k3 w4 hk hz hq Q3
  have ne_k1_k3 : k1 ≠ k3 := by have := Q1.lt; omega
  have ne_k2_k3 : k2 ≠ k3 := by have := Q2.lt; omega
  have N_k3 : w3.heap.size ≤ k3 := by have := M.size; omega
  replace Q1 := Q1.mo hq
  replace Q2 := Q2.mo hq
  replace M := M.trans hq
  clear hk hz hq
  refine wl_val (.int .i64 (5)) (len73 _ _ _ 5 _ (by exact rfl) _ _ _ _ _ _) rfl ?_
  refine wl_mv (.const (.int .i64 (0))) (.int .i64 (0)) (fun _ => rfl) rfl rfl ?_
  refine w_nil ?_
  refine xn_then ?_
  refine w_block ?_
  refine w_rounds 6 ?_
  refine w_seq ?_
  refine w_reg ?_
  refine wl_bin (fun x y => do eqGuard .lss 3 (.tmp 23) (.tmp 22) x y; binOp .lss 3 x y) (.tmp 23) (.tmp 22) (.int .i64 (0)) (.int .i64 (5)) (.bool true) (fun _ => rfl) rfl rfl (lt3 (r := true) rfl _ _ _) rfl ?_
  refine w_nil ?_
  refine xn_then ?_
  refine w_seq ?_
  refine w_condT rfl ?_
  refine w_skip ?_
  refine xn_then ?_
  refine w_seq ?_
  refine w_block ?_
  refine w_seq ?_
  refine w_reg ?_
  refine wl_bin (fun x y => Instr.indexAt 73 x y) (.tmp 21) (.tmp 23) (.slice (some ⟨k3, 0, none⟩) 5 5) (.int .i64 (0)) (pt k3 0) (fun _ => rfl) rfl rfl (ix73 (i := 0) rfl (by decide) _) rfl ?_
  refine wl_load 72 (.tmp 25) (pt k3 0) (.func (.func 30) #[pt z.cb 0] #[]) rfl rfl (run_one Q3 72 0 rfl Try.underlying72 rfl) rfl ?_
  refine wl_mv (.tmp 26) (.func (.func 30) #[pt z.cb 0] #[]) (fun _ => rfl) rfl rfl ?_
  refine w_nil ?_
  refine xn_then ?_
  refine w_seq ?_
  refine w_reg ?_
  refine wl_mv (.tmp 6) (.func (.func 30) #[pt z.cb 0] #[]) (fun _ => rfl) rfl rfl ?_
  refine wl_callv 30 (.tmp 28) #[pt z.cb 0] #[] [] _ [] [pt z.cb 0] rfl rfl rfl rfl (fun _ _ => by kernel_rfl) (whole_n (hC.mo M)) rfl ?_
  rintro e9 w5 ⟨rfl, hq⟩
  refine ⟨_, rfl, ?_⟩
  replace Q1 := Q1.mo hq
  replace Q2 := Q2.mo hq
  replace Q3 := Q3.mo hq
  replace M := M.trans hq
  clear hq
  refine wl_mv (.tmp 29) (.tuple #[.agg #[.int .i64 (0), .int .i64 (0), .int .i64 (0), .int .i64 (0), .int .i64 (0)], .int .i64 (whE z.d z.L)]) (fun _ => rfl) rfl rfl ?_
  refine wl_un (fun v => Instr.extract v 0) (.tmp 27) (.tuple #[.agg #[.int .i64 (0), .int .i64 (0), .int .i64 (0), .int .i64 (0), .int .i64 (0)], .int .i64 (whE z.d z.L)]) (.agg #[.int .i64 (0), .int .i64 (0), .int .i64 (0), .int .i64 (0), .int .i64 (0)]) (fun _ => rfl) rfl (by kernel_rfl) rfl ?_
  refine wl_un (fun v => Instr.extract v 1) (.tmp 27) (.tuple #[.agg #[.int .i64 (0), .int .i64 (0), .int .i64 (0), .int .i64 (0), .int .i64 (0)], .int .i64 (whE z.d z.L)]) (.int .i64 (whE z.d z.L)) (fun _ => rfl) rfl (by kernel_rfl) rfl ?_
  refine wl_alloc 33 #[.int .i64 0, .int .i64 0, .int .i64 0, .int .i64 0, .int .i64 0] rfl (fun _ => by kernel_rfl) rfl ?_
  intro k4 w6 hk hz hq Q4
  have ne_k1_k4 : k1 ≠ k4 := by have := Q1.lt; omega
  have ne_k2_k4 : k2 ≠ k4 := by have := Q2.lt; omega
  have ne_k3_k4 : k3 ≠ k4 := by have := Q3.lt; omega
  have N_k4 : w3.heap.size ≤ k4 := by have := M.size; omega
  replace Q1 := Q1.mo hq
  replace Q2 := Q2.mo hq
  replace Q3 := Q3.mo hq
  replace M := M.trans hq
  clear hk hz hq
  refine wl_st 33 (.tmp 7) (.tmp 30) k4 0 #[.int .i64 (0), .int .i64 (0), .int .i64 (0), .int .i64 (0), .int .i64 (0)] [.int .i64 0, .int .i64 0, .int .i64 0, .int .i64 0, .int .i64 0] [.int .i64 (0), .int .i64 (0), .int .i64 (0), .int .i64 (0), .int .i64 (0)] Q4 rfl rfl rfl rfl rfl sz33 rfl rfl rfl ?_
  intro w7 hS Qn
  replace Q4 := Qn
  clear Qn
  replace Q1 := hS.other _ _ ne_k1_k4 Q1
  replace Q2 := hS.other _ _ ne_k2_k4 Q2
  replace Q3 := hS.other _ _ ne_k3_k4 Q3
  replace M := hS.mo _ N_k4 M
  clear hS
  refine wl_mv (.tmp 31) (.int .i64 (whE z.d z.L)) (fun _ => rfl) rfl rfl ?_
  refine w_nil ?_
  refine xn_then ?_
  refine w_seq ?_
  refine w_reg ?_
  refine wl_mv (.tmp 8) (.int .i64 (whE z.d z.L)) (fun _ => rfl) rfl rfl ?_
  cases hf0 : decide (whE z.d z.L = 0) with
  | true =>
    have hf0p := of_decide_eq_true hf0
    refine wl_bin (fun x y => do eqGuard .neq 34 (.tmp 32) (.const (.int .i64 (0))) x y; binOp .neq 34 x y) (.tmp 32) (.const (.int .i64 (0))) (.int .i64 (whE z.d z.L)) (.int .i64 (0)) (.bool false) (fun _ => rfl) rfl rfl (ne34 hf0 _ _ _) rfl ?_
    refine w_nil ?_
    refine xn_then ?_
    refine w_condF rfl ?_
    refine w_skip ?_
    refine xn_blk ?_
    refine xn_then ?_
    refine w_reg ?_
    refine wl_bin (fun x y => do eqGuard .add 3 (.tmp 23) (.const (.int .i64 (1))) x y; binOp .add 3 x y) (.tmp 23) (.const (.int .i64 (1))) (.int .i64 (0)) (.int .i64 (1)) (.int .i64 (1)) (fun _ => rfl) rfl rfl (by kernel_rfl) rfl ?_
    refine wl_mv (.tmp 36) (.int .i64 (1)) (fun _ => rfl) rfl rfl ?_
    refine w_nil ?_
    refine xn_rounds ?_
    refine w_seq ?_
    refine w_reg ?_
    refine wl_bin (fun x y => do eqGuard .lss 3 (.tmp 23) (.tmp 22) x y; binOp .lss 3 x y) (.tmp 23) (.tmp 22) (.int .i64 (1)) (.int .i64 (5)) (.bool true) (fun _ => rfl) rfl rfl (lt3 (r := true) rfl _ _ _) rfl ?_
    refine w_nil ?_
    refine xn_then ?_
    refine w_seq ?_
    refine w_condT rfl ?_
    refine w_skip ?_
    refine xn_then ?_
    refine w_seq ?_
    refine w_block ?_
    refine w_seq ?_
    refine w_reg ?_
    refine wl_bin (fun x y => Instr.indexAt 73 x y) (.tmp 21) (.tmp 23) (.slice (some ⟨k3, 0, none⟩) 5 5) (.int .i64 (1)) (pt k3 1) (fun _ => rfl) rfl rfl (ix73 (i := 1) rfl (by decide) _) rfl ?_
    refine wl_load 72 (.tmp 25) (pt k3 1) (.func (.func 31) #[pt z.cb 0] #[]) rfl rfl (run_one Q3 72 1 rfl Try.underlying72 rfl) rfl ?_
    refine wl_mv (.tmp 26) (.func (.func 31) #[pt z.cb 0] #[]) (fun _ => rfl) rfl rfl ?_
    refine w_nil ?_
    refine xn_then ?_
    refine w_seq ?_
    refine w_reg ?_
    refine wl_mv (.tmp 6) (.func (.func 31) #[pt z.cb 0] #[]) (fun _ => rfl) rfl rfl ?_
    cases hf1 : (tbR z.d.tb).isNone with
    | true =>
      have ho31 := isnn hf1
      have hcn := tables_n (hC.mo M) (whE_0 hf0p).1
      rw [ho31] at hcn
      refine wl_callv 31 (.tmp 28) #[pt z.cb 0] #[] [] _ [] [pt z.cb 0] rfl rfl rfl rfl (fun _ _ => by kernel_rfl) hcn rfl ?_
      rintro x9 w8 ⟨rfl, hK9, hC9⟩
      refine ⟨_, rfl, ?_⟩
      replace Q1 := Q1.kp (hK9.kp (fun j hj => hC.nocell hj M)) hK9.fz
      replace Q2 := Q2.kp (hK9.kp (fun j hj => hC.nocell hj M)) hK9.fz
      replace Q3 := Q3.kp (hK9.kp (fun j hj => hC.nocell hj M)) hK9.fz
      replace Q4 := Q4.kp (hK9.kp (fun j hj => hC.nocell hj M)) hK9.fz
      replace MK := (MK.trans M).tr hK9 (fun j hj e => by have := hzD j e; omega)
      clear M hcn
      have M : Mo w8 w8 := Mo.refl _
      have hC1 := hC9 rfl
      clear hC9 hK9
      refine wl_mv (.tmp 29) (.tuple #[.agg #[.int .i64 (0), .int .i64 (0), .int .i64 (0), .int .i64 (0), .int .i64 (0)], .int .i64 (0)]) (fun _ => rfl) rfl rfl ?_
      refine wl_un (fun v => Instr.extract v 0) (.tmp 27) (.tuple #[.agg #[.int .i64 (0), .int .i64 (0), .int .i64 (0), .int .i64 (0), .int .i64 (0)], .int .i64 (0)]) (.agg #[.int .i64 (0), .int .i64 (0), .int .i64 (0), .int .i64 (0), .int .i64 (0)]) (fun _ => rfl) rfl (by kernel_rfl) rfl ?_
      refine wl_un (fun v => Instr.extract v 1) (.tmp 27) (.tuple #[.agg #[.int .i64 (0), .int .i64 (0), .int .i64 (0), .int .i64 (0), .int .i64 (0)], .int .i64 (0)]) (.int .i64 (0)) (fun _ => rfl) rfl (by kernel_rfl) rfl ?_
      refine wl_alloc 33 #[.int .i64 0, .int .i64 0, .int .i64 0, .int .i64 0, .int .i64 0] rfl (fun _ => by kernel_rfl) rfl ?_
      intro k5 w9 hk hz hq Q5
      have ne_k1_k5 : k1 ≠ k5 := by have := Q1.lt; omega
      have ne_k2_k5 : k2 ≠ k5 := by have := Q2.lt; omega
      have ne_k3_k5 : k3 ≠ k5 := by have := Q3.lt; omega
      have ne_k4_k5 : k4 ≠ k5 := by have := Q4.lt; omega
      have N_k5 : w8.heap.size ≤ k5 := by have := M.size; omega
      replace Q1 := Q1.mo hq
      replace Q2 := Q2.mo hq
      replace Q3 := Q3.mo hq
      replace Q4 := Q4.mo hq
      replace M := M.trans hq
      clear hk hz hq
      refine wl_st 33 (.tmp 7) (.tmp 30) k5 0 #[.int .i64 (0), .int .i64 (0), .int .i64 (0), .int .i64 (0), .int .i64 (0)] [.int .i64 0, .int .i64 0, .int .i64 0, .int .i64 0, .int .i64 0] [.int .i64 (0), .int .i64 (0), .int .i64 (0), .int .i64 (0), .int .i64 (0)] Q5 rfl rfl rfl rfl rfl sz33 rfl rfl rfl ?_
      intro w10 hS Qn
      replace Q5 := Qn
      clear Qn
      replace Q1 := hS.other _ _ ne_k1_k5 Q1
      replace Q2 := hS.other _ _ ne_k2_k5 Q2
      replace Q3 := hS.other _ _ ne_k3_k5 Q3
      replace Q4 := hS.other _ _ ne_k4_k5 Q4
      replace M := hS.mo _ N_k5 M
      clear hS
      refine wl_mv (.tmp 31) (.int .i64 (0)) (fun _ => rfl) rfl rfl ?_
      refine w_nil ?_
      refine xn_then ?_
      refine w_seq ?_
      refine w_reg ?_
      refine wl_mv (.tmp 8) (.int .i64 (0)) (fun _ => rfl) rfl rfl ?_
      refine wl_bin (fun x y => do eqGuard .neq 34 (.tmp 32) (.const (.int .i64 (0))) x y; binOp .neq 34 x y) (.tmp 32) (.const (.int .i64 (0))) (.int .i64 (0)) (.int .i64 (0)) (.bool false) (fun _ => rfl) rfl rfl (ne34 (r := true) rfl _ _ _) rfl ?_
      refine w_nil ?_
      refine xn_then ?_
      refine w_condF rfl ?_
      refine w_skip ?_
      refine xn_blk ?_
      refine xn_then ?_
      refine w_reg ?_
      refine wl_bin (fun x y => do eqGuard .add 3 (.tmp 23) (.const (.int .i64 (1))) x y; binOp .add 3 x y) (.tmp 23) (.const (.int .i64 (1))) (.int .i64 (1)) (.int .i64 (1)) (.int .i64 (2)) (fun _ => rfl) rfl rfl (by kernel_rfl) rfl ?_
      refine wl_mv (.tmp 36) (.int .i64 (2)) (fun _ => rfl) rfl rfl ?_
      refine w_nil ?_
      refine xn_rounds ?_
      refine w_seq ?_
      refine w_reg ?_
      refine wl_bin (fun x y => do eqGuard .lss 3 (.tmp 23) (.tmp 22) x y; binOp .lss 3 x y) (.tmp 23) (.tmp 22) (.int .i64 (2)) (.int .i64 (5)) (.bool true) (fun _ => rfl) rfl rfl (lt3 (r := true) rfl _ _ _) rfl ?_
      refine w_nil ?_
      refine xn_then ?_
      refine w_seq ?_
      refine w_condT rfl ?_
      refine w_skip ?_
      refine xn_then ?_
      refine w_seq ?_
      refine w_block ?_
      refine w_seq ?_
      refine w_reg ?_
      refine wl_bin (fun x y => Instr.indexAt 73 x y) (.tmp 21) (.tmp 23) (.slice (some ⟨k3, 0, none⟩) 5 5) (.int .i64 (2)) (pt k3 2) (fun _ => rfl) rfl rfl (ix73 (i := 2) rfl (by decide) _) rfl ?_
      refine wl_load 72 (.tmp 25) (pt k3 2) (.func (.func 32) #[pt z.cb 0] #[]) rfl rfl (run_one Q3 72 2 rfl Try.underlying72 rfl) rfl ?_
      refine wl_mv (.tmp 26) (.func (.func 32) #[pt z.cb 0] #[]) (fun _ => rfl) rfl rfl ?_
      refine w_nil ?_
      refine xn_then ?_
      refine w_seq ?_
      refine w_reg ?_
      refine wl_mv (.tmp 6) (.func (.func 32) #[pt z.cb 0] #[]) (fun _ => rfl) rfl rfl ?_
      cases hf2 : (seR (tbA z.d.tb z.d.tb.length) z.L).isNone with
      | true =>
        have ho32 := isnn hf2
        have hcn := sections_n (T := tbA z.d.tb z.d.tb.length) (by rw [stI_00, stK_00]; exact hC1.mo M) (by rw [hzL]; exact fla_len _)
        rw [ho32] at hcn
        refine wl_callv 32 (.tmp 28) #[pt z.cb 0] #[] [] _ [] [pt z.cb 0] rfl rfl rfl rfl (fun _ _ => by kernel_rfl) hcn rfl ?_
        rintro x9 w11 ⟨rfl, hK9, hC9⟩
        refine ⟨_, rfl, ?_⟩
        replace Q1 := Q1.kp (hK9.kp (fun j hj => hC1.nocell hj M)) hK9.fz
        replace Q2 := Q2.kp (hK9.kp (fun j hj => hC1.nocell hj M)) hK9.fz
        replace Q3 := Q3.kp (hK9.kp (fun j hj => hC1.nocell hj M)) hK9.fz
        replace Q4 := Q4.kp (hK9.kp (fun j hj => hC1.nocell hj M)) hK9.fz
        replace Q5 := Q5.kp (hK9.kp (fun j hj => hC1.nocell hj M)) hK9.fz
        replace MK := (MK.trans M).tr hK9 (fun j hj e => by have := hzD j e; omega)
        clear M hcn
        have M : Mo w11 w11 := Mo.refl _
        have hC2 := hC9 rfl
        rw [show (⟨tbA z.d.tb z.d.tb.length, stI z.L z.L.length 0, stK z.L z.L.length⟩ : Al) = AL by rw [hAL]; unfold alF; rw [← hzL]] at hC2
        clear hC9 hK9
        refine wl_mv (.tmp 29) (.tuple #[.agg #[.int .i64 (0), .int .i64 (0), .int .i64 (0), .int .i64 (0), .int .i64 (0)], .int .i64 (0)]) (fun _ => rfl) rfl rfl ?_
        refine wl_un (fun v => Instr.extract v 0) (.tmp 27) (.tuple #[.agg #[.int .i64 (0), .int .i64 (0), .int .i64 (0), .int .i64 (0), .int .i64 (0)], .int .i64 (0)]) (.agg #[.int .i64 (0), .int .i64 (0), .int .i64 (0), .int .i64 (0), .int .i64 (0)]) (fun _ => rfl) rfl (by kernel_rfl) rfl ?_
        refine wl_un (fun v => Instr.extract v 1) (.tmp 27) (.tuple #[.agg #[.int .i64 (0), .int .i64 (0), .int .i64 (0), .int .i64 (0), .int .i64 (0)], .int .i64 (0)]) (.int .i64 (0)) (fun _ => rfl) rfl (by kernel_rfl) rfl ?_
        refine wl_alloc 33 #[.int .i64 0, .int .i64 0, .int .i64 0, .int .i64 0, .int .i64 0] rfl (fun _ => by kernel_rfl) rfl ?_
        intro k6 w12 hk hz hq Q6
        have ne_k1_k6 : k1 ≠ k6 := by have := Q1.lt; omega
        have ne_k2_k6 : k2 ≠ k6 := by have := Q2.lt; omega
        have ne_k3_k6 : k3 ≠ k6 := by have := Q3.lt; omega
        have ne_k4_k6 : k4 ≠ k6 := by have := Q4.lt; omega
        have ne_k5_k6 : k5 ≠ k6 := by have := Q5.lt; omega
        have N_k6 : w11.heap.size ≤ k6 := by have := M.size; omega
        replace Q1 := Q1.mo hq
        replace Q2 := Q2.mo hq
        replace Q3 := Q3.mo hq
        replace Q4 := Q4.mo hq
        replace Q5 := Q5.mo hq
        replace M := M.trans hq
        clear hk hz hq
        refine wl_st 33 (.tmp 7) (.tmp 30) k6 0 #[.int .i64 (0), .int .i64 (0), .int .i64 (0), .int .i64 (0), .int .i64 (0)] [.int .i64 0, .int .i64 0, .int .i64 0, .int .i64 0, .int .i64 0] [.int .i64 (0), .int .i64 (0), .int .i64 (0), .int .i64 (0), .int .i64 (0)] Q6 rfl rfl rfl rfl rfl sz33 rfl rfl rfl ?_
        intro w13 hS Qn
        replace Q6 := Qn
        clear Qn
        replace Q1 := hS.other _ _ ne_k1_k6 Q1
        replace Q2 := hS.other _ _ ne_k2_k6 Q2
        replace Q3 := hS.other _ _ ne_k3_k6 Q3
        replace Q4 := hS.other _ _ ne_k4_k6 Q4
        replace Q5 := hS.other _ _ ne_k5_k6 Q5
        replace M := hS.mo _ N_k6 M
        clear hS
        refine wl_mv (.tmp 31) (.int .i64 (0)) (fun _ => rfl) rfl rfl ?_
        refine w_nil ?_
        refine xn_then ?_
        refine w_seq ?_
        refine w_reg ?_
        refine wl_mv (.tmp 8) (.int .i64 (0)) (fun _ => rfl) rfl rfl ?_
        refine wl_bin (fun x y => do eqGuard .neq 34 (.tmp 32) (.const (.int .i64 (0))) x y; binOp .neq 34 x y) (.tmp 32) (.const (.int .i64 (0))) (.int .i64 (0)) (.int .i64 (0)) (.bool false) (fun _ => rfl) rfl rfl (ne34 (r := true) rfl _ _ _) rfl ?_
        refine w_nil ?_
        refine xn_then ?_
        refine w_condF rfl ?_
        refine w_skip ?_
        refine xn_blk ?_
        refine xn_then ?_
        refine w_reg ?_
        refine wl_bin (fun x y => do eqGuard .add 3 (.tmp 23) (.const (.int .i64 (1))) x y; binOp .add 3 x y) (.tmp 23) (.const (.int .i64 (1))) (.int .i64 (2)) (.int .i64 (1)) (.int .i64 (3)) (fun _ => rfl) rfl rfl (by kernel_rfl) rfl ?_
        refine wl_mv (.tmp 36) (.int .i64 (3)) (fun _ => rfl) rfl rfl ?_
        refine w_nil ?_
        refine xn_rounds ?_
        refine w_seq ?_
        refine w_reg ?_
        refine wl_bin (fun x y => do eqGuard .lss 3 (.tmp 23) (.tmp 22) x y; binOp .lss 3 x y) (.tmp 23) (.tmp 22) (.int .i64 (3)) (.int .i64 (5)) (.bool true) (fun _ => rfl) rfl rfl (lt3 (r := true) rfl _ _ _) rfl ?_
        refine w_nil ?_
        refine xn_then ?_
        refine w_seq ?_
        refine w_condT rfl ?_
        refine w_skip ?_
        refine xn_then ?_
        refine w_seq ?_
        refine w_block ?_
        refine w_seq ?_
        refine w_reg ?_
        refine wl_bin (fun x y => Instr.indexAt 73 x y) (.tmp 21) (.tmp 23) (.slice (some ⟨k3, 0, none⟩) 5 5) (.int .i64 (3)) (pt k3 3) (fun _ => rfl) rfl rfl (ix73 (i := 3) rfl (by decide) _) rfl ?_
        refine wl_load 72 (.tmp 25) (pt k3 3) (.func (.func 33) #[pt z.cb 0] #[]) rfl rfl (run_one Q3 72 3 rfl Try.underlying72 rfl) rfl ?_
        refine wl_mv (.tmp 26) (.func (.func 33) #[pt z.cb 0] #[]) (fun _ => rfl) rfl rfl ?_
        refine w_nil ?_
        refine xn_then ?_
        refine w_seq ?_
        refine w_reg ?_
        refine wl_mv (.tmp 6) (.func (.func 33) #[pt z.cb 0] #[]) (fun _ => rfl) rfl rfl ?_
        cases hf3 : (foR z.L AL).isNone with
        | true =>
          have ho33 := isnn hf3
          have hcn := formulas_n (A := AL) (hC2.mo M)
          rw [ho33] at hcn
          refine wl_callv 33 (.tmp 28) #[pt z.cb 0] #[] [] _ [] [pt z.cb 0] rfl rfl rfl rfl (fun _ _ => by kernel_rfl) hcn rfl ?_
          rintro x9 w14 ⟨rfl, hq⟩
          refine ⟨_, rfl, ?_⟩
          replace Q1 := Q1.mo hq
          replace Q2 := Q2.mo hq
          replace Q3 := Q3.mo hq
          replace Q4 := Q4.mo hq
          replace Q5 := Q5.mo hq
          replace Q6 := Q6.mo hq
          replace M := M.trans hq
          clear hq hcn
          refine wl_mv (.tmp 29) (.tuple #[.agg #[.int .i64 (0), .int .i64 (0), .int .i64 (0), .int .i64 (0), .int .i64 (0)], .int .i64 (0)]) (fun _ => rfl) rfl rfl ?_
          refine wl_un (fun v => Instr.extract v 0) (.tmp 27) (.tuple #[.agg #[.int .i64 (0), .int .i64 (0), .int .i64 (0), .int .i64 (0), .int .i64 (0)], .int .i64 (0)]) (.agg #[.int .i64 (0), .int .i64 (0), .int .i64 (0), .int .i64 (0), .int .i64 (0)]) (fun _ => rfl) rfl (by kernel_rfl) rfl ?_
          refine wl_un (fun v => Instr.extract v 1) (.tmp 27) (.tuple #[.agg #[.int .i64 (0), .int .i64 (0), .int .i64 (0), .int .i64 (0), .int .i64 (0)], .int .i64 (0)]) (.int .i64 (0)) (fun _ => rfl) rfl (by kernel_rfl) rfl ?_
          refine wl_alloc 33 #[.int .i64 0, .int .i64 0, .int .i64 0, .int .i64 0, .int .i64 0] rfl (fun _ => by kernel_rfl) rfl ?_
          intro k7 w15 hk hz hq Q7
          have ne_k1_k7 : k1 ≠ k7 := by have := Q1.lt; omega
          have ne_k2_k7 : k2 ≠ k7 := by have := Q2.lt; omega
          have ne_k3_k7 : k3 ≠ k7 := by have := Q3.lt; omega
          have ne_k4_k7 : k4 ≠ k7 := by have := Q4.lt; omega
          have ne_k5_k7 : k5 ≠ k7 := by have := Q5.lt; omega
          have ne_k6_k7 : k6 ≠ k7 := by have := Q6.lt; omega
          have N_k7 : w11.heap.size ≤ k7 := by have := M.size; omega
          replace Q1 := Q1.mo hq
          replace Q2 := Q2.mo hq
          replace Q3 := Q3.mo hq
          replace Q4 := Q4.mo hq
          replace Q5 := Q5.mo hq
          replace Q6 := Q6.mo hq
          replace M := M.trans hq
          clear hk hz hq
          refine wl_st 33 (.tmp 7) (.tmp 30) k7 0 #[.int .i64 (0), .int .i64 (0), .int .i64 (0), .int .i64 (0), .int .i64 (0)] [.int .i64 0, .int .i64 0, .int .i64 0, .int .i64 0, .int .i64 0] [.int .i64 (0), .int .i64 (0), .int .i64 (0), .int .i64 (0), .int .i64 (0)] Q7 rfl rfl rfl rfl rfl sz33 rfl rfl rfl ?_
          intro w16 hS Qn
          replace Q7 := Qn
          clear Qn
          replace Q1 := hS.other _ _ ne_k1_k7 Q1
          replace Q2 := hS.other _ _ ne_k2_k7 Q2
          replace Q3 := hS.other _ _ ne_k3_k7 Q3
          replace Q4 := hS.other _ _ ne_k4_k7 Q4
          replace Q5 := hS.other _ _ ne_k5_k7 Q5
          replace Q6 := hS.other _ _ ne_k6_k7 Q6
          replace M := hS.mo _ N_k7 M
          clear hS
          refine wl_mv (.tmp 31) (.int .i64 (0)) (fun _ => rfl) rfl rfl ?_
          refine w_nil ?_
          refine xn_then ?_
          refine w_seq ?_
          refine w_reg ?_
          refine wl_mv (.tmp 8) (.int .i64 (0)) (fun _ => rfl) rfl rfl ?_
          refine wl_bin (fun x y => do eqGuard .neq 34 (.tmp 32) (.const (.int .i64 (0))) x y; binOp .neq 34 x y) (.tmp 32) (.const (.int .i64 (0))) (.int .i64 (0)) (.int .i64 (0)) (.bool false) (fun _ => rfl) rfl rfl (ne34 (r := true) rfl _ _ _) rfl ?_
          refine w_nil ?_
          refine xn_then ?_
          refine w_condF rfl ?_
          refine w_skip ?_
          refine xn_blk ?_
          refine xn_then ?_
          refine w_reg ?_
          refine wl_bin (fun x y => do eqGuard .add 3 (.tmp 23) (.const (.int .i64 (1))) x y; binOp .add 3 x y) (.tmp 23) (.const (.int .i64 (1))) (.int .i64 (3)) (.int .i64 (1)) (.int .i64 (4)) (fun _ => rfl) rfl rfl (by kernel_rfl) rfl ?_
          refine wl_mv (.tmp 36) (.int .i64 (4)) (fun _ => rfl) rfl rfl ?_
          refine w_nil ?_
          refine xn_rounds ?_
          refine w_seq ?_
          refine w_reg ?_
          refine wl_bin (fun x y => do eqGuard .lss 3 (.tmp 23) (.tmp 22) x y; binOp .lss 3 x y) (.tmp 23) (.tmp 22) (.int .i64 (4)) (.int .i64 (5)) (.bool true) (fun _ => rfl) rfl rfl (lt3 (r := true) rfl _ _ _) rfl ?_
          refine w_nil ?_
          refine xn_then ?_
          refine w_seq ?_
          refine w_condT rfl ?_
          refine w_skip ?_
          refine xn_then ?_
          refine w_seq ?_
          refine w_block ?_
          refine w_seq ?_
          refine w_reg ?_
          refine wl_bin (fun x y => Instr.indexAt 73 x y) (.tmp 21) (.tmp 23) (.slice (some ⟨k3, 0, none⟩) 5 5) (.int .i64 (4)) (pt k3 4) (fun _ => rfl) rfl rfl (ix73 (i := 4) rfl (by decide) _) rfl ?_
          refine wl_load 72 (.tmp 25) (pt k3 4) (.func (.func 34) #[pt z.cb 0] #[]) rfl rfl (run_one Q3 72 4 rfl Try.underlying72 rfl) rfl ?_
          refine wl_mv (.tmp 26) (.func (.func 34) #[pt z.cb 0] #[]) (fun _ => rfl) rfl rfl ?_
          refine w_nil ?_
          refine xn_then ?_
          refine w_seq ?_
          refine w_reg ?_
          refine wl_mv (.tmp 6) (.func (.func 34) #[pt z.cb 0] #[]) (fun _ => rfl) rfl rfl ?_
          cases hf4 : (pgR z.L AL z.d.pg).isNone with
          | true =>
            have ho34 := isnn hf4
            have hcn := pages_n (A := AL) (hC2.mo M) (by rw [hzL]; exact fla_pos _) (whE_0 hf0p).2.1
            rw [ho34] at hcn
            refine wl_callv 34 (.tmp 28) #[pt z.cb 0] #[] [] _ [] [pt z.cb 0] rfl rfl rfl rfl (fun _ _ => by kernel_rfl) hcn rfl ?_
            rintro x9 w17 ⟨rfl, hq⟩
            refine ⟨_, rfl, ?_⟩
            replace Q1 := Q1.mo hq
            replace Q2 := Q2.mo hq
            replace Q3 := Q3.mo hq
            replace Q4 := Q4.mo hq
            replace Q5 := Q5.mo hq
            replace Q6 := Q6.mo hq
            replace Q7 := Q7.mo hq
            replace M := M.trans hq
            clear hq hcn
            refine wl_mv (.tmp 29) (.tuple #[.agg #[.int .i64 (0), .int .i64 (0), .int .i64 (0), .int .i64 (0), .int .i64 (0)], .int .i64 (0)]) (fun _ => rfl) rfl rfl ?_
            refine wl_un (fun v => Instr.extract v 0) (.tmp 27) (.tuple #[.agg #[.int .i64 (0), .int .i64 (0), .int .i64 (0), .int .i64 (0), .int .i64 (0)], .int .i64 (0)]) (.agg #[.int .i64 (0), .int .i64 (0), .int .i64 (0), .int .i64 (0), .int .i64 (0)]) (fun _ => rfl) rfl (by kernel_rfl) rfl ?_
            refine wl_un (fun v => Instr.extract v 1) (.tmp 27) (.tuple #[.agg #[.int .i64 (0), .int .i64 (0), .int .i64 (0), .int .i64 (0), .int .i64 (0)], .int .i64 (0)]) (.int .i64 (0)) (fun _ => rfl) rfl (by kernel_rfl) rfl ?_
            refine wl_alloc 33 #[.int .i64 0, .int .i64 0, .int .i64 0, .int .i64 0, .int .i64 0] rfl (fun _ => by kernel_rfl) rfl ?_
            intro k8 w18 hk hz hq Q8
            have ne_k1_k8 : k1 ≠ k8 := by have := Q1.lt; omega
            have ne_k2_k8 : k2 ≠ k8 := by have := Q2.lt; omega
            have ne_k3_k8 : k3 ≠ k8 := by have := Q3.lt; omega
            have ne_k4_k8 : k4 ≠ k8 := by have := Q4.lt; omega
            have ne_k5_k8 : k5 ≠ k8 := by have := Q5.lt; omega
            have ne_k6_k8 : k6 ≠ k8 := by have := Q6.lt; omega
            have ne_k7_k8 : k7 ≠ k8 := by have := Q7.lt; omega
            have N_k8 : w11.heap.size ≤ k8 := by have := M.size; omega
            replace Q1 := Q1.mo hq
            replace Q2 := Q2.mo hq
            replace Q3 := Q3.mo hq
            replace Q4 := Q4.mo hq
            replace Q5 := Q5.mo hq
            replace Q6 := Q6.mo hq
            replace Q7 := Q7.mo hq
            replace M := M.trans hq
            clear hk hz hq
            refine wl_st 33 (.tmp 7) (.tmp 30) k8 0 #[.int .i64 (0), .int .i64 (0), .int .i64 (0), .int .i64 (0), .int .i64 (0)] [.int .i64 0, .int .i64 0, .int .i64 0, .int .i64 0, .int .i64 0] [.int .i64 (0), .int .i64 (0), .int .i64 (0), .int .i64 (0), .int .i64 (0)] Q8 rfl rfl rfl rfl rfl sz33 rfl rfl rfl ?_
            intro w19 hS Qn
            replace Q8 := Qn
            clear Qn
            replace Q1 := hS.other _ _ ne_k1_k8 Q1
            replace Q2 := hS.other _ _ ne_k2_k8 Q2
            replace Q3 := hS.other _ _ ne_k3_k8 Q3
            replace Q4 := hS.other _ _ ne_k4_k8 Q4
            replace Q5 := hS.other _ _ ne_k5_k8 Q5
            replace Q6 := hS.other _ _ ne_k6_k8 Q6
            replace Q7 := hS.other _ _ ne_k7_k8 Q7
            replace M := hS.mo _ N_k8 M
            clear hS
            refine wl_mv (.tmp 31) (.int .i64 (0)) (fun _ => rfl) rfl rfl ?_
            refine w_nil ?_
            refine xn_then ?_
            refine w_seq ?_
            refine w_reg ?_
            refine wl_mv (.tmp 8) (.int .i64 (0)) (fun _ => rfl) rfl rfl ?_
            refine wl_bin (fun x y => do eqGuard .neq 34 (.tmp 32) (.const (.int .i64 (0))) x y; binOp .neq 34 x y) (.tmp 32) (.const (.int .i64 (0))) (.int .i64 (0)) (.int .i64 (0)) (.bool false) (fun _ => rfl) rfl rfl (ne34 (r := true) rfl _ _ _) rfl ?_
            refine w_nil ?_
            refine xn_then ?_
            refine w_condF rfl ?_
            refine w_skip ?_
            refine xn_blk ?_
            refine xn_then ?_
            refine w_reg ?_
            refine wl_bin (fun x y => do eqGuard .add 3 (.tmp 23) (.const (.int .i64 (1))) x y; binOp .add 3 x y) (.tmp 23) (.const (.int .i64 (1))) (.int .i64 (4)) (.int .i64 (1)) (.int .i64 (5)) (fun _ => rfl) rfl rfl (by kernel_rfl) rfl ?_
            refine wl_mv (.tmp 36) (.int .i64 (5)) (fun _ => rfl) rfl rfl ?_
            refine w_nil ?_
            refine xn_rounds ?_
            refine w_seq ?_
            refine w_reg ?_
            refine wl_bin (fun x y => do eqGuard .lss 3 (.tmp 23) (.tmp 22) x y; binOp .lss 3 x y) (.tmp 23) (.tmp 22) (.int .i64 (5)) (.int .i64 (5)) (.bool false) (fun _ => rfl) rfl rfl (lt3 (r := false) rfl _ _ _) rfl ?_
            refine w_nil ?_
            refine xn_then ?_
            refine w_seq ?_
            refine w_condF rfl ?_
            refine w_exit ?_
            refine xx_then ?_
            refine xx_then ?_
            refine xx_blk ?_
            refine xn_then ?_
            refine w_seq ?_
            refine w_reg ?_
            refine wl_build 33 [] [] (.agg #[.int .i64 0, .int .i64 0, .int .i64 0, .int .i64 0, .int .i64 0]) rfl rfl (by kernel_rfl) rfl ?_
            refine wl_stm 33 (.tmp 2) (.tmp 37) k2 0 #[.int .i64 0, .int .i64 0, .int .i64 0, .int .i64 0, .int .i64 0] [.int .i64 0, .int .i64 0, .int .i64 0, .int .i64 0, .int .i64 0] [.int .i64 0, .int .i64 0, .int .i64 0, .int .i64 0, .int .i64 0] Q2 rfl rfl rfl rfl rfl sz33 rfl rfl rfl ?_
            intro w20 hS hm9 Qn
            replace Q2 := Qn
            clear Qn
            replace Q1 := hS.other _ _ ne_k1_k2 Q1
            replace Q3 := hS.other _ _ ne_k2_k3.symm Q3
            replace Q4 := hS.other _ _ ne_k2_k4.symm Q4
            replace Q5 := hS.other _ _ ne_k2_k5.symm Q5
            replace Q6 := hS.other _ _ ne_k2_k6.symm Q6
            replace Q7 := hS.other _ _ ne_k2_k7.symm Q7
            replace Q8 := hS.other _ _ ne_k2_k8.symm Q8
            have hmT := (Mk.of (fun j => j = k2) M).same hm9
            replace MK := (MK.trans M).tr hm9 (fun j hj e => by omega)
            clear M hS hm9
            have M : Mo w20 w20 := Mo.refl _
            refine wl_mv (.const (.int .i64 (0))) (.int .i64 (0)) (fun _ => rfl) rfl rfl ?_
            refine w_nil ?_
            refine xn_then ?_
            refine w_ret ?_
            exact w_ret2 _ _ (.agg #[.int .i64 0, .int .i64 0, .int .i64 0, .int .i64 0, .int .i64 0]) (.int .i64 (0)) rfl ⟨k2, rfl, (run_row Q2 33 0 5 [.int .i64 0, .int .i64 0, .int .i64 0, .int .i64 0, .int .i64 0] rfl Try.underlying33 rfl sz33)⟩ rfl ⟨by unfold chk; rw [← hAL, ← hzL, er_0 hf0p, Option.none_or, ho31, Option.none_or, ho32, Option.none_or, ho33, Option.none_or, ho34]; rfl, (MK.trans M).mo (Mo.refl _) (fun _ h => h.elim)⟩
          | false =>
            obtain ⟨k9, s9, i9, t9, p9, e9, ho34, hne34⟩ := Pk.some (pk_pg _ _ _) hf4
            have hcn := pages_n (A := AL) (hC2.mo M) (by rw [hzL]; exact fla_pos _) (whE_0 hf0p).2.1
            rw [ho34] at hcn
            refine wl_callv 34 (.tmp 28) #[pt z.cb 0] #[] [] _ [] [pt z.cb 0] rfl rfl rfl rfl (fun _ _ => by kernel_rfl) hcn rfl ?_
            rintro x9 w17 ⟨rfl, hq⟩
            refine ⟨_, rfl, ?_⟩
            replace Q1 := Q1.mo hq
            replace Q2 := Q2.mo hq
            replace Q3 := Q3.mo hq
            replace Q4 := Q4.mo hq
            replace Q5 := Q5.mo hq
            replace Q6 := Q6.mo hq
            replace Q7 := Q7.mo hq
            replace M := M.trans hq
            clear hq hcn
            refine wl_mv (.tmp 29) (.tuple #[.agg #[.int .i64 k9, .int .i64 s9, .int .i64 i9, .int .i64 t9, .int .i64 p9], .int .i64 (e9)]) (fun _ => rfl) rfl rfl ?_
            refine wl_un (fun v => Instr.extract v 0) (.tmp 27) (.tuple #[.agg #[.int .i64 k9, .int .i64 s9, .int .i64 i9, .int .i64 t9, .int .i64 p9], .int .i64 (e9)]) (.agg #[.int .i64 k9, .int .i64 s9, .int .i64 i9, .int .i64 t9, .int .i64 p9]) (fun _ => rfl) rfl (by kernel_rfl) rfl ?_
            refine wl_un (fun v => Instr.extract v 1) (.tmp 27) (.tuple #[.agg #[.int .i64 k9, .int .i64 s9, .int .i64 i9, .int .i64 t9, .int .i64 p9], .int .i64 (e9)]) (.int .i64 (e9)) (fun _ => rfl) rfl (by kernel_rfl) rfl ?_
            refine wl_alloc 33 #[.int .i64 0, .int .i64 0, .int .i64 0, .int .i64 0, .int .i64 0] rfl (fun _ => by kernel_rfl) rfl ?_
            intro k8 w18 hk hz hq Q8
            have ne_k1_k8 : k1 ≠ k8 := by have := Q1.lt; omega
            have ne_k2_k8 : k2 ≠ k8 := by have := Q2.lt; omega
            have ne_k3_k8 : k3 ≠ k8 := by have := Q3.lt; omega
            have ne_k4_k8 : k4 ≠ k8 := by have := Q4.lt; omega
            have ne_k5_k8 : k5 ≠ k8 := by have := Q5.lt; omega
            have ne_k6_k8 : k6 ≠ k8 := by have := Q6.lt; omega
            have ne_k7_k8 : k7 ≠ k8 := by have := Q7.lt; omega
            have N_k8 : w11.heap.size ≤ k8 := by have := M.size; omega
            replace Q1 := Q1.mo hq
            replace Q2 := Q2.mo hq
            replace Q3 := Q3.mo hq
            replace Q4 := Q4.mo hq
            replace Q5 := Q5.mo hq
            replace Q6 := Q6.mo hq
            replace Q7 := Q7.mo hq
            replace M := M.trans hq
            clear hk hz hq
            refine wl_st 33 (.tmp 7) (.tmp 30) k8 0 #[.int .i64 k9, .int .i64 s9, .int .i64 i9, .int .i64 t9, .int .i64 p9] [.int .i64 0, .int .i64 0, .int .i64 0, .int .i64 0, .int .i64 0] [.int .i64 k9, .int .i64 s9, .int .i64 i9, .int .i64 t9, .int .i64 p9] Q8 rfl rfl rfl rfl rfl sz33 rfl rfl rfl ?_
            intro w19 hS Qn
            replace Q8 := Qn
            clear Qn
            replace Q1 := hS.other _ _ ne_k1_k8 Q1
            replace Q2 := hS.other _ _ ne_k2_k8 Q2
            replace Q3 := hS.other _ _ ne_k3_k8 Q3
            replace Q4 := hS.other _ _ ne_k4_k8 Q4
            replace Q5 := hS.other _ _ ne_k5_k8 Q5
            replace Q6 := hS.other _ _ ne_k6_k8 Q6
            replace Q7 := hS.other _ _ ne_k7_k8 Q7
            replace M := hS.mo _ N_k8 M
            clear hS
            refine wl_mv (.tmp 31) (.int .i64 (e9)) (fun _ => rfl) rfl rfl ?_
            refine w_nil ?_
            refine xn_then ?_
            refine w_seq ?_
            refine w_reg ?_
            refine wl_mv (.tmp 8) (.int .i64 (e9)) (fun _ => rfl) rfl rfl ?_
            refine wl_bin (fun x y => do eqGuard .neq 34 (.tmp 32) (.const (.int .i64 (0))) x y; binOp .neq 34 x y) (.tmp 32) (.const (.int .i64 (0))) (.int .i64 (e9)) (.int .i64 (0)) (.bool true) (fun _ => rfl) rfl rfl (ne34 (decide_eq_false hne34) _ _ _) rfl ?_
            refine w_nil ?_
            refine xn_then ?_
            refine w_condT rfl ?_
            refine w_seq ?_
            refine w_reg ?_
            refine wl_load 33 (.tmp 7) (pt k8 0) (.agg #[.int .i64 k9, .int .i64 s9, .int .i64 i9, .int .i64 t9, .int .i64 p9]) rfl rfl (run_row Q8 33 0 5 [.int .i64 k9, .int .i64 s9, .int .i64 i9, .int .i64 t9, .int .i64 p9] rfl Try.underlying33 rfl sz33) rfl ?_
            refine wl_mv (.tmp 8) (.int .i64 (e9)) (fun _ => rfl) rfl rfl ?_
            refine wl_stm 33 (.tmp 2) (.tmp 34) k2 0 #[.int .i64 k9, .int .i64 s9, .int .i64 i9, .int .i64 t9, .int .i64 p9] [.int .i64 0, .int .i64 0, .int .i64 0, .int .i64 0, .int .i64 0] [.int .i64 k9, .int .i64 s9, .int .i64 i9, .int .i64 t9, .int .i64 p9] Q2 rfl rfl rfl rfl rfl sz33 rfl rfl rfl ?_
            intro w20 hS hm9 Qn
            replace Q2 := Qn
            clear Qn
            replace Q1 := hS.other _ _ ne_k1_k2 Q1
            replace Q3 := hS.other _ _ ne_k2_k3.symm Q3
            replace Q4 := hS.other _ _ ne_k2_k4.symm Q4
            replace Q5 := hS.other _ _ ne_k2_k5.symm Q5
            replace Q6 := hS.other _ _ ne_k2_k6.symm Q6
            replace Q7 := hS.other _ _ ne_k2_k7.symm Q7
            replace Q8 := hS.other _ _ ne_k2_k8.symm Q8
            have hmT := (Mk.of (fun j => j = k2) M).same hm9
            replace MK := (MK.trans M).tr hm9 (fun j hj e => by omega)
            clear M hS hm9
            have M : Mo w20 w20 := Mo.refl _
            refine wl_mv (.tmp 35) (.int .i64 (e9)) (fun _ => rfl) rfl rfl ?_
            refine w_nil ?_
            refine xn_then ?_
            refine w_ret ?_
            refine xr_blk ?_
            refine xr_then ?_
            refine xr_then ?_
            refine xr_blk ?_
            refine xr_then ?_
            exact w_ret2 _ _ (.agg #[.int .i64 k9, .int .i64 s9, .int .i64 i9, .int .i64 t9, .int .i64 p9]) (.int .i64 (e9)) rfl ⟨k2, rfl, (run_row Q2 33 0 5 [.int .i64 k9, .int .i64 s9, .int .i64 i9, .int .i64 t9, .int .i64 p9] rfl Try.underlying33 rfl sz33)⟩ rfl ⟨by unfold chk; rw [← hAL, ← hzL, er_0 hf0p, Option.none_or, ho31, Option.none_or, ho32, Option.none_or, ho33, Option.none_or, ho34]; rfl, (MK.trans M).mo (Mo.refl _) (fun _ h => h.elim)⟩
        | false =>
          obtain ⟨k9, s9, i9, t9, p9, e9, ho33, hne33⟩ := Pk.some (pk_fo _ _) hf3
          have hcn := formulas_n (A := AL) (hC2.mo M)
          rw [ho33] at hcn
          refine wl_callv 33 (.tmp 28) #[pt z.cb 0] #[] [] _ [] [pt z.cb 0] rfl rfl rfl rfl (fun _ _ => by kernel_rfl) hcn rfl ?_
          rintro x9 w14 ⟨rfl, hq⟩
          refine ⟨_, rfl, ?_⟩
          replace Q1 := Q1.mo hq
          replace Q2 := Q2.mo hq
          replace Q3 := Q3.mo hq
          replace Q4 := Q4.mo hq
          replace Q5 := Q5.mo hq
          replace Q6 := Q6.mo hq
          replace M := M.trans hq
          clear hq hcn
          refine wl_mv (.tmp 29) (.tuple #[.agg #[.int .i64 k9, .int .i64 s9, .int .i64 i9, .int .i64 t9, .int .i64 p9], .int .i64 (e9)]) (fun _ => rfl) rfl rfl ?_
          refine wl_un (fun v => Instr.extract v 0) (.tmp 27) (.tuple #[.agg #[.int .i64 k9, .int .i64 s9, .int .i64 i9, .int .i64 t9, .int .i64 p9], .int .i64 (e9)]) (.agg #[.int .i64 k9, .int .i64 s9, .int .i64 i9, .int .i64 t9, .int .i64 p9]) (fun _ => rfl) rfl (by kernel_rfl) rfl ?_
          refine wl_un (fun v => Instr.extract v 1) (.tmp 27) (.tuple #[.agg #[.int .i64 k9, .int .i64 s9, .int .i64 i9, .int .i64 t9, .int .i64 p9], .int .i64 (e9)]) (.int .i64 (e9)) (fun _ => rfl) rfl (by kernel_rfl) rfl ?_
          refine wl_alloc 33 #[.int .i64 0, .int .i64 0, .int .i64 0, .int .i64 0, .int .i64 0] rfl (fun _ => by kernel_rfl) rfl ?_
          intro k7 w15 hk hz hq Q7
          have ne_k1_k7 : k1 ≠ k7 := by have := Q1.lt; omega
          have ne_k2_k7 : k2 ≠ k7 := by have := Q2.lt; omega
          have ne_k3_k7 : k3 ≠ k7 := by have := Q3.lt; omega
          have ne_k4_k7 : k4 ≠ k7 := by have := Q4.lt; omega
          have ne_k5_k7 : k5 ≠ k7 := by have := Q5.lt; omega
          have ne_k6_k7 : k6 ≠ k7 := by have := Q6.lt; omega
          have N_k7 : w11.heap.size ≤ k7 := by have := M.size; omega
          replace Q1 := Q1.mo hq
          replace Q2 := Q2.mo hq
          replace Q3 := Q3.mo hq
          replace Q4 := Q4.mo hq
          replace Q5 := Q5.mo hq
          replace Q6 := Q6.mo hq
          replace M := M.trans hq
          clear hk hz hq
          refine wl_st 33 (.tmp 7) (.tmp 30) k7 0 #[.int .i64 k9, .int .i64 s9, .int .i64 i9, .int .i64 t9, .int .i64 p9] [.int .i64 0, .int .i64 0, .int .i64 0, .int .i64 0, .int .i64 0] [.int .i64 k9, .int .i64 s9, .int .i64 i9, .int .i64 t9, .int .i64 p9] Q7 rfl rfl rfl rfl rfl sz33 rfl rfl rfl ?_
          intro w16 hS Qn
          replace Q7 := Qn
          clear Qn
          replace Q1 := hS.other _ _ ne_k1_k7 Q1
          replace Q2 := hS.other _ _ ne_k2_k7 Q2
          replace Q3 := hS.other _ _ ne_k3_k7 Q3
          replace Q4 := hS.other _ _ ne_k4_k7 Q4
          replace Q5 := hS.other _ _ ne_k5_k7 Q5
          replace Q6 := hS.other _ _ ne_k6_k7 Q6
          replace M := hS.mo _ N_k7 M
          clear hS
          refine wl_mv (.tmp 31) (.int .i64 (e9)) (fun _ => rfl) rfl rfl ?_
          refine w_nil ?_
          refine xn_then ?_
          refine w_seq ?_
          refine w_reg ?_
          refine wl_mv (.tmp 8) (.int .i64 (e9)) (fun _ => rfl) rfl rfl ?_
          refine wl_bin (fun x y => do eqGuard .neq 34 (.tmp 32) (.const (.int .i64 (0))) x y; binOp .neq 34 x y) (.tmp 32) (.const (.int .i64 (0))) (.int .i64 (e9)) (.int .i64 (0)) (.bool true) (fun _ => rfl) rfl rfl (ne34 (decide_eq_false hne33) _ _ _) rfl ?_
          refine w_nil ?_
          refine xn_then ?_
          refine w_condT rfl ?_
          refine w_seq ?_
          refine w_reg ?_
          refine wl_load 33 (.tmp 7) (pt k7 0) (.agg #[.int .i64 k9, .int .i64 s9, .int .i64 i9, .int .i64 t9, .int .i64 p9]) rfl rfl (run_row Q7 33 0 5 [.int .i64 k9, .int .i64 s9, .int .i64 i9, .int .i64 t9, .int .i64 p9] rfl Try.underlying33 rfl sz33) rfl ?_
          refine wl_mv (.tmp 8) (.int .i64 (e9)) (fun _ => rfl) rfl rfl ?_
          refine wl_stm 33 (.tmp 2) (.tmp 34) k2 0 #[.int .i64 k9, .int .i64 s9, .int .i64 i9, .int .i64 t9, .int .i64 p9] [.int .i64 0, .int .i64 0, .int .i64 0, .int .i64 0, .int .i64 0] [.int .i64 k9, .int .i64 s9, .int .i64 i9, .int .i64 t9, .int .i64 p9] Q2 rfl rfl rfl rfl rfl sz33 rfl rfl rfl ?_
          intro w17 hS hm9 Qn
          replace Q2 := Qn
          clear Qn
          replace Q1 := hS.other _ _ ne_k1_k2 Q1
          replace Q3 := hS.other _ _ ne_k2_k3.symm Q3
          replace Q4 := hS.other _ _ ne_k2_k4.symm Q4
          replace Q5 := hS.other _ _ ne_k2_k5.symm Q5
          replace Q6 := hS.other _ _ ne_k2_k6.symm Q6
          replace Q7 := hS.other _ _ ne_k2_k7.symm Q7
          have hmT := (Mk.of (fun j => j = k2) M).same hm9
          replace MK := (MK.trans M).tr hm9 (fun j hj e => by omega)
          clear M hS hm9
          have M : Mo w17 w17 := Mo.refl _
          refine wl_mv (.tmp 35) (.int .i64 (e9)) (fun _ => rfl) rfl rfl ?_
          refine w_nil ?_
          refine xn_then ?_
          refine w_ret ?_
          refine xr_blk ?_
          refine xr_then ?_
          refine xr_then ?_
          refine xr_blk ?_
          refine xr_then ?_
          exact w_ret2 _ _ (.agg #[.int .i64 k9, .int .i64 s9, .int .i64 i9, .int .i64 t9, .int .i64 p9]) (.int .i64 (e9)) rfl ⟨k2, rfl, (run_row Q2 33 0 5 [.int .i64 k9, .int .i64 s9, .int .i64 i9, .int .i64 t9, .int .i64 p9] rfl Try.underlying33 rfl sz33)⟩ rfl ⟨by unfold chk; rw [← hAL, ← hzL, er_0 hf0p, Option.none_or, ho31, Option.none_or, ho32, Option.none_or, ho33]; rfl, (MK.trans M).mo (Mo.refl _) (fun _ h => h.elim)⟩
      | false =>
        obtain ⟨k9, s9, i9, t9, p9, e9, ho32, hne32⟩ := Pk.some (pk_se _ _) hf2
        have hcn := sections_n (T := tbA z.d.tb z.d.tb.length) (by rw [stI_00, stK_00]; exact hC1.mo M) (by rw [hzL]; exact fla_len _)
        rw [ho32] at hcn
        refine wl_callv 32 (.tmp 28) #[pt z.cb 0] #[] [] _ [] [pt z.cb 0] rfl rfl rfl rfl (fun _ _ => by kernel_rfl) hcn rfl ?_
        rintro x9 w11 ⟨rfl, hK9, hC9⟩
        refine ⟨_, rfl, ?_⟩
        replace Q1 := Q1.kp (hK9.kp (fun j hj => hC1.nocell hj M)) hK9.fz
        replace Q2 := Q2.kp (hK9.kp (fun j hj => hC1.nocell hj M)) hK9.fz
        replace Q3 := Q3.kp (hK9.kp (fun j hj => hC1.nocell hj M)) hK9.fz
        replace Q4 := Q4.kp (hK9.kp (fun j hj => hC1.nocell hj M)) hK9.fz
        replace Q5 := Q5.kp (hK9.kp (fun j hj => hC1.nocell hj M)) hK9.fz
        replace MK := (MK.trans M).tr hK9 (fun j hj e => by have := hzD j e; omega)
        clear M hcn
        have M : Mo w11 w11 := Mo.refl _
        refine wl_mv (.tmp 29) (.tuple #[.agg #[.int .i64 k9, .int .i64 s9, .int .i64 i9, .int .i64 t9, .int .i64 p9], .int .i64 (e9)]) (fun _ => rfl) rfl rfl ?_
        refine wl_un (fun v => Instr.extract v 0) (.tmp 27) (.tuple #[.agg #[.int .i64 k9, .int .i64 s9, .int .i64 i9, .int .i64 t9, .int .i64 p9], .int .i64 (e9)]) (.agg #[.int .i64 k9, .int .i64 s9, .int .i64 i9, .int .i64 t9, .int .i64 p9]) (fun _ => rfl) rfl (by kernel_rfl) rfl ?_
        refine wl_un (fun v => Instr.extract v 1) (.tmp 27) (.tuple #[.agg #[.int .i64 k9, .int .i64 s9, .int .i64 i9, .int .i64 t9, .int .i64 p9], .int .i64 (e9)]) (.int .i64 (e9)) (fun _ => rfl) rfl (by kernel_rfl) rfl ?_
        refine wl_alloc 33 #[.int .i64 0, .int .i64 0, .int .i64 0, .int .i64 0, .int .i64 0] rfl (fun _ => by kernel_rfl) rfl ?_
        intro k6 w12 hk hz hq Q6
        have ne_k1_k6 : k1 ≠ k6 := by have := Q1.lt; omega
        have ne_k2_k6 : k2 ≠ k6 := by have := Q2.lt; omega
        have ne_k3_k6 : k3 ≠ k6 := by have := Q3.lt; omega
        have ne_k4_k6 : k4 ≠ k6 := by have := Q4.lt; omega
        have ne_k5_k6 : k5 ≠ k6 := by have := Q5.lt; omega
        have N_k6 : w11.heap.size ≤ k6 := by have := M.size; omega
        replace Q1 := Q1.mo hq
        replace Q2 := Q2.mo hq
        replace Q3 := Q3.mo hq
        replace Q4 := Q4.mo hq
        replace Q5 := Q5.mo hq
        replace M := M.trans hq
        clear hk hz hq
        refine wl_st 33 (.tmp 7) (.tmp 30) k6 0 #[.int .i64 k9, .int .i64 s9, .int .i64 i9, .int .i64 t9, .int .i64 p9] [.int .i64 0, .int .i64 0, .int .i64 0, .int .i64 0, .int .i64 0] [.int .i64 k9, .int .i64 s9, .int .i64 i9, .int .i64 t9, .int .i64 p9] Q6 rfl rfl rfl rfl rfl sz33 rfl rfl rfl ?_
        intro w13 hS Qn
        replace Q6 := Qn
        clear Qn
        replace Q1 := hS.other _ _ ne_k1_k6 Q1
        replace Q2 := hS.other _ _ ne_k2_k6 Q2
        replace Q3 := hS.other _ _ ne_k3_k6 Q3
        replace Q4 := hS.other _ _ ne_k4_k6 Q4
        replace Q5 := hS.other _ _ ne_k5_k6 Q5
        replace M := hS.mo _ N_k6 M
        clear hS
        refine wl_mv (.tmp 31) (.int .i64 (e9)) (fun _ => rfl) rfl rfl ?_
        refine w_nil ?_
        refine xn_then ?_
        refine w_seq ?_
        refine w_reg ?_
        refine wl_mv (.tmp 8) (.int .i64 (e9)) (fun _ => rfl) rfl rfl ?_
        refine wl_bin (fun x y => do eqGuard .neq 34 (.tmp 32) (.const (.int .i64 (0))) x y; binOp .neq 34 x y) (.tmp 32) (.const (.int .i64 (0))) (.int .i64 (e9)) (.int .i64 (0)) (.bool true) (fun _ => rfl) rfl rfl (ne34 (decide_eq_false hne32) _ _ _) rfl ?_
        refine w_nil ?_
        refine xn_then ?_
        refine w_condT rfl ?_
        refine w_seq ?_
        refine w_reg ?_
        refine wl_load 33 (.tmp 7) (pt k6 0) (.agg #[.int .i64 k9, .int .i64 s9, .int .i64 i9, .int .i64 t9, .int .i64 p9]) rfl rfl (run_row Q6 33 0 5 [.int .i64 k9, .int .i64 s9, .int .i64 i9, .int .i64 t9, .int .i64 p9] rfl Try.underlying33 rfl sz33) rfl ?_
        refine wl_mv (.tmp 8) (.int .i64 (e9)) (fun _ => rfl) rfl rfl ?_
        refine wl_stm 33 (.tmp 2) (.tmp 34) k2 0 #[.int .i64 k9, .int .i64 s9, .int .i64 i9, .int .i64 t9, .int .i64 p9] [.int .i64 0, .int .i64 0, .int .i64 0, .int .i64 0, .int .i64 0] [.int .i64 k9, .int .i64 s9, .int .i64 i9, .int .i64 t9, .int .i64 p9] Q2 rfl rfl rfl rfl rfl sz33 rfl rfl rfl ?_
        intro w14 hS hm9 Qn
        replace Q2 := Qn
        clear Qn
        replace Q1 := hS.other _ _ ne_k1_k2 Q1
        replace Q3 := hS.other _ _ ne_k2_k3.symm Q3
        replace Q4 := hS.other _ _ ne_k2_k4.symm Q4
        replace Q5 := hS.other _ _ ne_k2_k5.symm Q5
        replace Q6 := hS.other _ _ ne_k2_k6.symm Q6
        have hmT := (Mk.of (fun j => j = k2) M).same hm9
        replace MK := (MK.trans M).tr hm9 (fun j hj e => by omega)
        clear M hS hm9
        have M : Mo w14 w14 := Mo.refl _
        refine wl_mv (.tmp 35) (.int .i64 (e9)) (fun _ => rfl) rfl rfl ?_
        refine w_nil ?_
        refine xn_then ?_
        refine w_ret ?_
        refine xr_blk ?_
        refine xr_then ?_
        refine xr_then ?_
        refine xr_blk ?_
        refine xr_then ?_
        exact w_ret2 _ _ (.agg #[.int .i64 k9, .int .i64 s9, .int .i64 i9, .int .i64 t9, .int .i64 p9]) (.int .i64 (e9)) rfl ⟨k2, rfl, (run_row Q2 33 0 5 [.int .i64 k9, .int .i64 s9, .int .i64 i9, .int .i64 t9, .int .i64 p9] rfl Try.underlying33 rfl sz33)⟩ rfl ⟨by unfold chk; rw [← hAL, ← hzL, er_0 hf0p, Option.none_or, ho31, Option.none_or, ho32]; rfl, (MK.trans M).mo (Mo.refl _) (fun _ h => h.elim)⟩
    | false =>
      obtain ⟨k9, s9, i9, t9, p9, e9, ho31, hne31⟩ := Pk.some (pk_tb _) hf1
      have hcn := tables_n (hC.mo M) (whE_0 hf0p).1
      rw [ho31] at hcn
      refine wl_callv 31 (.tmp 28) #[pt z.cb 0] #[] [] _ [] [pt z.cb 0] rfl rfl rfl rfl (fun _ _ => by kernel_rfl) hcn rfl ?_
      rintro x9 w8 ⟨rfl, hK9, hC9⟩
      refine ⟨_, rfl, ?_⟩
      replace Q1 := Q1.kp (hK9.kp (fun j hj => hC.nocell hj M)) hK9.fz
      replace Q2 := Q2.kp (hK9.kp (fun j hj => hC.nocell hj M)) hK9.fz
      replace Q3 := Q3.kp (hK9.kp (fun j hj => hC.nocell hj M)) hK9.fz
      replace Q4 := Q4.kp (hK9.kp (fun j hj => hC.nocell hj M)) hK9.fz
      replace MK := (MK.trans M).tr hK9 (fun j hj e => by have := hzD j e; omega)
      clear M hcn
      have M : Mo w8 w8 := Mo.refl _
      refine wl_mv (.tmp 29) (.tuple #[.agg #[.int .i64 k9, .int .i64 s9, .int .i64 i9, .int .i64 t9, .int .i64 p9], .int .i64 (e9)]) (fun _ => rfl) rfl rfl ?_
      refine wl_un (fun v => Instr.extract v 0) (.tmp 27) (.tuple #[.agg #[.int .i64 k9, .int .i64 s9, .int .i64 i9, .int .i64 t9, .int .i64 p9], .int .i64 (e9)]) (.agg #[.int .i64 k9, .int .i64 s9, .int .i64 i9, .int .i64 t9, .int .i64 p9]) (fun _ => rfl) rfl (by kernel_rfl) rfl ?_
      refine wl_un (fun v => Instr.extract v 1) (.tmp 27) (.tuple #[.agg #[.int .i64 k9, .int .i64 s9, .int .i64 i9, .int .i64 t9, .int .i64 p9], .int .i64 (e9)]) (.int .i64 (e9)) (fun _ => rfl) rfl (by kernel_rfl) rfl ?_
      refine wl_alloc 33 #[.int .i64 0, .int .i64 0, .int .i64 0, .int .i64 0, .int .i64 0] rfl (fun _ => by kernel_rfl) rfl ?_
      intro k5 w9 hk hz hq Q5
      have ne_k1_k5 : k1 ≠ k5 := by have := Q1.lt; omega
      have ne_k2_k5 : k2 ≠ k5 := by have := Q2.lt; omega
      have ne_k3_k5 : k3 ≠ k5 := by have := Q3.lt; omega
      have ne_k4_k5 : k4 ≠ k5 := by have := Q4.lt; omega
      have N_k5 : w8.heap.size ≤ k5 := by have := M.size; omega
      replace Q1 := Q1.mo hq
      replace Q2 := Q2.mo hq
      replace Q3 := Q3.mo hq
      replace Q4 := Q4.mo hq
      replace M := M.trans hq
      clear hk hz hq
      refine wl_st 33 (.tmp 7) (.tmp 30) k5 0 #[.int .i64 k9, .int .i64 s9, .int .i64 i9, .int .i64 t9, .int .i64 p9] [.int .i64 0, .int .i64 0, .int .i64 0, .int .i64 0, .int .i64 0] [.int .i64 k9, .int .i64 s9, .int .i64 i9, .int .i64 t9, .int .i64 p9] Q5 rfl rfl rfl rfl rfl sz33 rfl rfl rfl ?_
      intro w10 hS Qn
      replace Q5 := Qn
      clear Qn
      replace Q1 := hS.other _ _ ne_k1_k5 Q1
      replace Q2 := hS.other _ _ ne_k2_k5 Q2
      replace Q3 := hS.other _ _ ne_k3_k5 Q3
      replace Q4 := hS.other _ _ ne_k4_k5 Q4
      replace M := hS.mo _ N_k5 M
      clear hS
      refine wl_mv (.tmp 31) (.int .i64 (e9)) (fun _ => rfl) rfl rfl ?_
      refine w_nil ?_
      refine xn_then ?_
      refine w_seq ?_
      refine w_reg ?_
      refine wl_mv (.tmp 8) (.int .i64 (e9)) (fun _ => rfl) rfl rfl ?_
      refine wl_bin (fun x y => do eqGuard .neq 34 (.tmp 32) (.const (.int .i64 (0))) x y; binOp .neq 34 x y) (.tmp 32) (.const (.int .i64 (0))) (.int .i64 (e9)) (.int .i64 (0)) (.bool true) (fun _ => rfl) rfl rfl (ne34 (decide_eq_false hne31) _ _ _) rfl ?_
      refine w_nil ?_
      refine xn_then ?_
      refine w_condT rfl ?_
      refine w_seq ?_
      refine w_reg ?_
      refine wl_load 33 (.tmp 7) (pt k5 0) (.agg #[.int .i64 k9, .int .i64 s9, .int .i64 i9, .int .i64 t9, .int .i64 p9]) rfl rfl (run_row Q5 33 0 5 [.int .i64 k9, .int .i64 s9, .int .i64 i9, .int .i64 t9, .int .i64 p9] rfl Try.underlying33 rfl sz33) rfl ?_
      refine wl_mv (.tmp 8) (.int .i64 (e9)) (fun _ => rfl) rfl rfl ?_
      refine wl_stm 33 (.tmp 2) (.tmp 34) k2 0 #[.int .i64 k9, .int .i64 s9, .int .i64 i9, .int .i64 t9, .int .i64 p9] [.int .i64 0, .int .i64 0, .int .i64 0, .int .i64 0, .int .i64 0] [.int .i64 k9, .int .i64 s9, .int .i64 i9, .int .i64 t9, .int .i64 p9] Q2 rfl rfl rfl rfl rfl sz33 rfl rfl rfl ?_
      intro w11 hS hm9 Qn
      replace Q2 := Qn
      clear Qn
      replace Q1 := hS.other _ _ ne_k1_k2 Q1
      replace Q3 := hS.other _ _ ne_k2_k3.symm Q3
      replace Q4 := hS.other _ _ ne_k2_k4.symm Q4
      replace Q5 := hS.other _ _ ne_k2_k5.symm Q5
      have hmT := (Mk.of (fun j => j = k2) M).same hm9
      replace MK := (MK.trans M).tr hm9 (fun j hj e => by omega)
      clear M hS hm9
      have M : Mo w11 w11 := Mo.refl _
      refine wl_mv (.tmp 35) (.int .i64 (e9)) (fun _ => rfl) rfl rfl ?_
      refine w_nil ?_
      refine xn_then ?_
      refine w_ret ?_
      refine xr_blk ?_
      refine xr_then ?_
      refine xr_then ?_
      refine xr_blk ?_
      refine xr_then ?_
      exact w_ret2 _ _ (.agg #[.int .i64 k9, .int .i64 s9, .int .i64 i9, .int .i64 t9, .int .i64 p9]) (.int .i64 (e9)) rfl ⟨k2, rfl, (run_row Q2 33 0 5 [.int .i64 k9, .int .i64 s9, .int .i64 i9, .int .i64 t9, .int .i64 p9] rfl Try.underlying33 rfl sz33)⟩ rfl ⟨by unfold chk; rw [← hAL, ← hzL, er_0 hf0p, Option.none_or, ho31]; rfl, (MK.trans M).mo (Mo.refl _) (fun _ h => h.elim)⟩
  | false =>
    have hf0p := of_decide_eq_false hf0
    refine wl_bin (fun x y => do eqGuard .neq 34 (.tmp 32) (.const (.int .i64 (0))) x y; binOp .neq 34 x y) (.tmp 32) (.const (.int .i64 (0))) (.int .i64 (whE z.d z.L)) (.int .i64 (0)) (.bool true) (fun _ => rfl) rfl rfl (ne34 hf0 _ _ _) rfl ?_
    refine w_nil ?_
    refine xn_then ?_
    refine w_condT rfl ?_
    refine w_seq ?_
    refine w_reg ?_
    refine wl_load 33 (.tmp 7) (pt k4 0) (.agg #[.int .i64 (0), .int .i64 (0), .int .i64 (0), .int .i64 (0), .int .i64 (0)]) rfl rfl (run_row Q4 33 0 5 [.int .i64 (0), .int .i64 (0), .int .i64 (0), .int .i64 (0), .int .i64 (0)] rfl Try.underlying33 rfl sz33) rfl ?_
    refine wl_mv (.tmp 8) (.int .i64 (whE z.d z.L)) (fun _ => rfl) rfl rfl ?_
    refine wl_stm 33 (.tmp 2) (.tmp 34) k2 0 #[.int .i64 (0), .int .i64 (0), .int .i64 (0), .int .i64 (0), .int .i64 (0)] [.int .i64 0, .int .i64 0, .int .i64 0, .int .i64 0, .int .i64 0] [.int .i64 (0), .int .i64 (0), .int .i64 (0), .int .i64 (0), .int .i64 (0)] Q2 rfl rfl rfl rfl rfl sz33 rfl rfl rfl ?_
    intro w8 hS hm9 Qn
    replace Q2 := Qn
    clear Qn
    replace Q1 := hS.other _ _ ne_k1_k2 Q1
    replace Q3 := hS.other _ _ ne_k2_k3.symm Q3
    replace Q4 := hS.other _ _ ne_k2_k4.symm Q4
    have hmT := (Mk.of (fun j => j = k2) M).same hm9
    replace MK := (MK.trans M).tr hm9 (fun j hj e => by omega)
    clear M hS hm9
    have M : Mo w8 w8 := Mo.refl _
    refine wl_mv (.tmp 35) (.int .i64 (whE z.d z.L)) (fun _ => rfl) rfl rfl ?_
    refine w_nil ?_
    refine xn_then ?_
    refine w_ret ?_
    refine xr_blk ?_
    refine xr_then ?_
    refine xr_then ?_
    refine xr_blk ?_
    refine xr_then ?_
    exact w_ret2 _ _ (.agg #[.int .i64 (0), .int .i64 (0), .int .i64 (0), .int .i64 (0), .int .i64 (0)]) (.int .i64 (whE z.d z.L)) rfl ⟨k2, rfl, (run_row Q2 33 0 5 [.int .i64 (0), .int .i64 (0), .int .i64 (0), .int .i64 (0), .int .i64 (0)] rfl Try.underlying33 rfl sz33)⟩ rfl ⟨by unfold chk; rw [← hzL, er_1 hf0p]; rfl, (MK.trans M).mo (Mo.refl _) (fun _ h => h.elim)⟩
end Go.Proofs.Ytbanldffohopiaa
