/-
  Ranks are found. All ranks; those that have none.
-/
import Derived.Test.YthghblgbjgghcaaRka
namespace Go.Proofs.Ythghblgbjgghcaa
open Go.RowKit D
theorem maxI (ρ : Operand → Value) (x y : Operand) (a b : Nat) (hx : ρ x = .int .i64 ((a : Nat) : Int)) (hy : ρ y = .int .i64 ((b : Nat) : Int)) (dst : Option Tmp) (type : TypeId) (pos : String) (after : Array Edge) (guard : Option (Nat × Bool)) (w : World) : (execOp ρ { dst, op := .call { callee := .builtin .max, args := #[x, y], argTypes := #[3, 3] }, type, pos, after, guard }).run Try.prog w = .ok (.value (.int .i64 ((max a b : Nat) : Int))) w := by
  rw [← maxN]
  simp [go_sem, hx, hy]
theorem lenM {al : List (Int × Int)} {b : Nat} (ρ : Operand → Value) (x : Operand) (w : World) (h : Mp ei w b al) (hx : ρ x = .map (some b)) (dst : Option Tmp) (type : TypeId) (pos : String) (after : Array Edge) (guard : Option (Nat × Bool)) : (execOp ρ { dst, op := .call { callee := .builtin .len, args := #[x], argTypes := #[83] }, type, pos, after, guard }).run Try.prog w = .ok (.value (.int .i64 ((al.length : Nat) : Int))) w := by
  obtain ⟨es, c, hb, he⟩ := h
  have hl : es.size = al.length := by have := congrArg List.length he; simpa using this
  simp [go_sem, hx, Builtin.len_, run_underlying Try.underlying83, MapKept.run_getObj_map hb, hl]
theorem Iv.drop {R : List (List Nat)} {al : List (Int × Int)} {n : Nat} {P : List Nat} (h : Iv R al (n :: P)) (hn : ∀ v, lkq al ((n : Nat) : Int) = some v → Rkv R n v) : Iv R al P := fun m v hm => by
  rcases h m v hm with ⟨q1, q2⟩ | q
  · rcases List.mem_cons.1 q1 with e | e
    · subst e; exact Or.inr (hn v hm)
    · exact Or.inl ⟨e, q2⟩
  · exact Or.inr q
theorem Iv.put {R : List (List Nat)} {al : List (Int × Int)} {n : Nat} {P : List Nat} {v : Int} (h : Iv R al P) (hv : (n ∈ P ∧ v = -1) ∨ Rkv R n v) : Iv R (putq al ((n : Nat) : Int) v) P := fun m u hm => by
  rw [lkq_put] at hm
  by_cases e : ((n : Nat) : Int) = ((m : Nat) : Int)
  · rw [if_pos e] at hm
    have : n = m := by omega
    subst this; cases hm; exact hv
  · rw [if_neg e] at hm; exact h m u hm
theorem Iv.mono {R : List (List Nat)} {al : List (Int × Int)} {P Q : List Nat} (h : Iv R al P) (hs : ∀ x ∈ P, x ∈ Q) : Iv R al Q := fun m v hm => by
  rcases h m v hm with ⟨q1, q2⟩ | q
  · exact Or.inl ⟨hs m q1, q2⟩
  · exact Or.inr q
theorem rank_n {V : List Iz} {R : List (List Nat)} {kM kR kG mb ka : Nat} (hV : V.map Iz.L = R) (hR : Rin R) (hz : R.length < 400000) (hlen : ∀ x ∈ V, x.L.length ≤ R.length) : ∀ (k : Nat) {al : List (Int × Int)} {P : List Nat} {n : Nat} {w : World}, und R.length al ≤ k → n < R.length → Ks V kM kR kG mb ka w al → Iv R al P → Cn R.length al → (∀ p ∈ P, Rch R p n) → Calls Try.prog 64 #[.int .i64 ((n : Nat) : Int), pt kM 0, pt kR 0, pt kG 0] w fun e w' => ∃ v al', e = .returned (.int .i64 v) ∧ Rkv R n v ∧ Ks V kM kR kG mb ka w' al' ∧ Iv R al' P ∧ Cn R.length al' ∧ Mk (fun j => j = mb) w w' ∧ (∀ m u, lkq al m = some u → lkq al' m = some u) ∧ (lkq al' ((n : Nat) : Int)).isSome = true := by
  intro k
  induction k using Nat.strongRecOn with
  | ind k ih0 =>
  intro al P n w hk hn hK hI hC hP
  have hVl : V.length = R.length := by rw [← hV]; simp
  obtain ⟨x, hx⟩ := get_of_lt (show n < V.length by omega)
  have hxm := List.mem_of_getElem? hx
  have hxL : row R n = x.L := row_eq (by rw [← hV, List.getElem?_map, hx]; rfl)
  have hxz : x.L.length < 4000000 := by
    exact Nat.lt_of_le_of_lt (hlen x hxm) (by omega)
  have a_M := hK.aM
  have a_R := hK.aR
  have a_G := hK.aG
  refine w_enter 45 Try.func64 Try.ntmps64 rfl rfl ?_
  have M : Mo w w := Mo.refl _
  refine w_seq ?_
  refine w_reg ?_
  refine wl_mv (.const (.int .i64 (0))) (.int .i64 (0)) (fun _ => rfl) rfl rfl ?_
  refine w_nil ?_
  refine xn_then ?_
  refine w_seq ?_
  refine w_seq ?_
  refine w_reg ?_
  refine wl_load 83 (.tmp 1) (pt kM 0) (.map (some mb)) rfl rfl (run_one a_M 83 0 rfl Try.underlying83 rfl) rfl ?_
  refine wl_mv (.tmp 0) (.int .i64 ((n : Nat) : Int)) (fun _ => rfl) rfl rfl ?_
  cases hf0 : (lkq al ((n : Nat) : Int)).isSome with
  | true =>
    refine wl_val (.tuple #[.int .i64 ((lkq al ((n : Nat) : Int)).getD 0), .bool true]) (lkp 83 (.tmp 13) (.tmp 14) true (.map (some mb)) (.int .i64 ((n : Nat) : Int)) (.tuple #[.int .i64 ((lkq al ((n : Nat) : Int)).getD 0), .bool true]) rfl rfl rfl ((hK.mp.mo M).looks kt3 Try.underlying83 ((n : Nat) : Int) hf0)) rfl ?_
    refine wl_mv (.tmp 15) (.tuple #[.int .i64 ((lkq al ((n : Nat) : Int)).getD 0), .bool true]) (fun _ => rfl) rfl rfl ?_
    refine wl_un (fun v => Instr.extract v 0) (.tmp 12) (.tuple #[.int .i64 ((lkq al ((n : Nat) : Int)).getD 0), .bool true]) (.int .i64 ((lkq al ((n : Nat) : Int)).getD 0)) (fun _ => rfl) rfl (by kernel_rfl) rfl ?_
    refine wl_un (fun v => Instr.extract v 1) (.tmp 12) (.tuple #[.int .i64 ((lkq al ((n : Nat) : Int)).getD 0), .bool true]) (.bool true) (fun _ => rfl) rfl (by kernel_rfl) rfl ?_
    refine wl_mv (.tmp 16) (.int .i64 ((lkq al ((n : Nat) : Int)).getD 0)) (fun _ => rfl) rfl rfl ?_
    refine wl_mv (.tmp 17) (.bool true) (fun _ => rfl) rfl rfl ?_
    refine w_nil ?_
    refine xn_then ?_
    refine w_seq ?_
    refine w_reg ?_
    refine wl_mv (.tmp 7) (.bool true) (fun _ => rfl) rfl rfl ?_
    refine w_nil ?_
    refine xn_then ?_
    refine w_condT rfl ?_
    refine w_seq ?_
    refine w_reg ?_
    refine wl_mv (.tmp 6) (.int .i64 ((lkq al ((n : Nat) : Int)).getD 0)) (fun _ => rfl) rfl rfl ?_
    refine wl_mv (.tmp 19) (.int .i64 ((lkq al ((n : Nat) : Int)).getD 0)) (fun _ => rfl) rfl rfl ?_
    refine w_nil ?_
    refine xn_then ?_
    refine w_ret ?_
    refine xr_then ?_
    exact w_ret1 _ (.int .i64 ((lkq al ((n : Nat) : Int)).getD 0)) rfl rfl (by obtain ⟨v, hv⟩ := Option.isSome_iff_exists.1 hf0; exact ⟨_, al, rfl, (by rw [hv]; rcases hI n v hv with ⟨q1, q2⟩ | q; (exact Or.inr ⟨(hP n q1).self, q2⟩); exact q), hK.mo M, hI, hC, Mk.of _ M, fun m u hm => hm, hf0⟩)
  | false =>
    refine wl_val (.tuple #[.int .i64 ((lkq al ((n : Nat) : Int)).getD 0), .bool false]) (lkp 83 (.tmp 13) (.tmp 14) true (.map (some mb)) (.int .i64 ((n : Nat) : Int)) (.tuple #[.int .i64 ((lkq al ((n : Nat) : Int)).getD 0), .bool false]) rfl rfl rfl ((hK.mp.mo M).looks kt3 Try.underlying83 ((n : Nat) : Int) hf0)) rfl ?_
    refine wl_mv (.tmp 15) (.tuple #[.int .i64 ((lkq al ((n : Nat) : Int)).getD 0), .bool false]) (fun _ => rfl) rfl rfl ?_
    refine wl_un (fun v => Instr.extract v 0) (.tmp 12) (.tuple #[.int .i64 ((lkq al ((n : Nat) : Int)).getD 0), .bool false]) (.int .i64 ((lkq al ((n : Nat) : Int)).getD 0)) (fun _ => rfl) rfl (by kernel_rfl) rfl ?_
    refine wl_un (fun v => Instr.extract v 1) (.tmp 12) (.tuple #[.int .i64 ((lkq al ((n : Nat) : Int)).getD 0), .bool false]) (.bool false) (fun _ => rfl) rfl (by kernel_rfl) rfl ?_
    refine wl_mv (.tmp 16) (.int .i64 ((lkq al ((n : Nat) : Int)).getD 0)) (fun _ => rfl) rfl rfl ?_
    refine wl_mv (.tmp 17) (.bool false) (fun _ => rfl) rfl rfl ?_
    refine w_nil ?_
    refine xn_then ?_
    refine w_seq ?_
    refine w_reg ?_
    refine wl_mv (.tmp 7) (.bool false) (fun _ => rfl) rfl rfl ?_
    refine w_nil ?_
    refine xn_then ?_
    refine w_condF rfl ?_
    refine w_skip ?_
    refine xn_then ?_
    refine w_seq ?_
    refine w_reg ?_
    refine wl_load 83 (.tmp 1) (pt kM 0) (.map (some mb)) rfl rfl (run_one a_M 83 0 rfl Try.underlying83 rfl) rfl ?_
    refine wl_mv (.tmp 0) (.int .i64 ((n : Nat) : Int)) (fun _ => rfl) rfl rfl ?_
    refine wl_mupq (al := al) (.tmp 20) (.tmp 21) (.const (.int .i64 (-1))) ((n : Nat) : Int) (-1) (hK.mo M).mp kt3 Try.underlying83 rfl rfl rfl rfl rfl rfl ?_
    intro u1 hm9 hK9
    have hK1 := (hK.mo M).put hK9 hm9
    have hMK := (Mk.of (fun j => j = mb) M).same hK9
    have hno : lkq al ((n : Nat) : Int) = none := by rw [Option.isSome_eq_false_iff, Option.isNone_iff_eq_none] at hf0; exact hf0
    have hI1 : Iv R (putq al ((n : Nat) : Int) (-1)) (n :: P) := (hI.mono (fun x hx => List.mem_cons_of_mem _ hx)).put (Or.inl ⟨List.mem_cons_self .., rfl⟩)
    have hC1 : Cn R.length (putq al ((n : Nat) : Int) (-1)) := hC.new hn hno
    have hu1 := und_put (v := -1) hn hno
    have hE1 : ∀ m u, lkq al m = some u → lkq (putq al ((n : Nat) : Int) (-1)) m = some u := fun m u hm => by rw [lkq_put]; by_cases e : ((n : Nat) : Int) = m; (rw [← e, hno] at hm; cases hm); (rw [if_neg e]; exact hm)
    clear a_M
    clear a_R
    clear a_G
    clear hK9 hm9
    clear M
    have M : Mo u1 u1 := Mo.refl _
    have a_M := hK1.aM
    have a_R := hK1.aR
    have a_G := hK1.aG
    refine w_nil ?_
    refine xn_then ?_
    refine w_seq ?_
    refine w_reg ?_
    refine wl_mv (.const (.int .i64 (0))) (.int .i64 (0)) (fun _ => rfl) rfl rfl ?_
    refine w_nil ?_
    refine xn_then ?_
    refine w_seq ?_
    refine w_seq ?_
    have hsl := hK1.sl (by unfold maxLen; omega)
    have hnV : n < V.length := by omega
    obtain ⟨bp, op, hpp, hRp⟩ := D.SL.rw hsl hx
    refine w_reg ?_
    refine wl_load 79 (.tmp 2) (pt kR 0) (.slice (some ⟨ka, 0, none⟩) V.length V.length) rfl rfl (run_one a_R 79 0 rfl Try.underlying79 rfl) rfl ?_
    refine wl_mv (.tmp 0) (.int .i64 ((n : Nat) : Int)) (fun _ => rfl) rfl rfl ?_
    refine wl_bin (fun x y => Instr.indexAt 79 x y) (.tmp 22) (.tmp 23) (.slice (some ⟨ka, 0, none⟩) V.length V.length) (.int .i64 ((n : Nat) : Int)) (pt bp (op + n * 1)) (fun _ => rfl) rfl rfl (ix79 (i := n) hpp hnV _) rfl ?_
    refine wl_load 32 (.tmp 24) (pt bp (op + n * 1)) (.slice x.pa x.L.length x.cap) rfl rfl (D.run_oneR (hRp.mo M).at' 32 0 rfl Try.underlying32 rfl) rfl ?_
    refine wl_val (.int .i64 ((x.L.length : Nat) : Int)) (len32 _ _ _ _ _ (by exact rfl) _ _ _ _ _ _) rfl ?_
    refine wl_mv (.const (.int .i64 (0))) (.int .i64 (0)) (fun _ => rfl) rfl rfl ?_
    refine w_nil ?_
    refine xn_then ?_
    refine w_block ?_
    clear a_M
    clear a_R
    clear a_G
    refine w_loop (fun m lf w1 => ∃ i : Nat, ∃ al2 : List (Int × Int), ∃ bb : Nat, m = x.L.length - i ∧ look lf 0 = .int .i64 ((n : Nat) : Int) ∧ look lf 1 = pt kM 0 ∧ look lf 3 = pt kG 0 ∧ look lf 8 = .int .i64 ((bb : Nat) : Int) ∧ look lf 25 = .slice x.pa x.L.length x.cap ∧ look lf 26 = .int .i64 ((x.L.length : Nat) : Int) ∧ look lf 27 = .int .i64 ((i : Nat) : Int) ∧ (i ≤ x.L.length) ∧ (Ks V kM kR kG mb ka w1 al2) ∧ (Iv R al2 (n :: P)) ∧ (Cn R.length al2) ∧ (Mk (fun j => j = mb) w w1) ∧ (∀ m u, lkq (putq al ((n : Nat) : Int) (-1)) m = some u → lkq al2 m = some u) ∧ (Lst R (x.L.take i) bb)) _ ⟨0, _, 0, rfl, rfl, rfl, rfl, rfl, rfl, rfl, rfl, Nat.zero_le _, hK1.mo M, hI1, hC1, hMK.trans M, (fun m u hm => hm), Lst.nil R⟩ ?_
    clear hK1 hI1 hC1 hMK M
    rintro m lf40 wl40 ⟨i, al2, bb, rfl, e40_0, e40_1, e40_3, e40_8, e40_25, e40_26, e40_27, hi, hK2, hI2, hC2, hMK, hE2, hLs⟩
    have M : Mo wl40 wl40 := Mo.refl _
    cases hd2 : decide (i < x.L.length) with
    | true =>
      have hil := of_decide_eq_true hd2
      obtain ⟨mm, hmm⟩ := get_of_lt hil
      have hmr : mm ∈ row R n := by rw [hxL]; exact List.mem_of_getElem? hmm
      have hml := hR.row hmr
      have a_M := hK2.aM
      have a_R := hK2.aR
      have a_G := hK2.aG
      have hli := hK2.li x hxm
      obtain ⟨bu, ou, hpu, hRu⟩ := D.SL.rw hli.sl hmm
      refine w_seq ?_
      refine w_reg ?_
      refine wl_bin (fun x y => do eqGuard .lss 3 (.tmp 27) (.tmp 26) x y; binOp .lss 3 x y) (.tmp 27) (.tmp 26) (.int .i64 ((i : Nat) : Int)) (.int .i64 ((x.L.length : Nat) : Int)) (.bool true) (fun _ => rfl) e40_27 e40_26 (ltN hd2 _ _ _) rfl ?_
      refine w_nil ?_
      refine xn_then ?_
      refine w_seq ?_
      refine w_condT rfl ?_
      refine w_skip ?_
      refine xn_then ?_
      refine w_seq ?_
      refine w_block ?_
      refine w_seq ?_
      refine w_reg ?_
      refine wl_bin (fun x y => Instr.indexAt 32 x y) (.tmp 25) (.tmp 27) (.slice x.pa x.L.length x.cap) (.int .i64 ((i : Nat) : Int)) (pt bu (ou + i * 1)) (fun _ => rfl) e40_25 e40_27 (ix32 (i := i) hpu hil _) rfl ?_
      refine wl_load 3 (.tmp 29) (pt bu (ou + i * 1)) (.int .i64 ((mm : Nat) : Int)) rfl rfl (D.run_oneR (hRu.mo M).at' 3 0 rfl Try.underlying3 rfl) rfl ?_
      refine wl_mv (.tmp 30) (.int .i64 ((mm : Nat) : Int)) (fun _ => rfl) rfl rfl ?_
      refine w_nil ?_
      refine xn_then ?_
      refine w_seq ?_
      refine w_reg ?_
      refine wl_load 115 (.tmp 3) (pt kG 0) (.func (.func 64) #[] #[pt kM 0, pt kR 0, pt kG 0]) rfl e40_3 (run_one a_G 115 0 rfl Try.underlying115 rfl) rfl ?_
      refine wl_mv (.tmp 10) (.int .i64 ((mm : Nat) : Int)) (fun _ => rfl) rfl rfl ?_
      refine wl_callv 64 (.tmp 31) #[] #[pt kM 0, pt kR 0, pt kG 0] [(.tmp 32)] _ [.int .i64 ((mm : Nat) : Int)] [.int .i64 ((mm : Nat) : Int), pt kM 0, pt kR 0, pt kG 0] rfl rfl rfl rfl (fun _ _ => by kernel_rfl) (ih0 (und R.length al2) (by have := und_le (N := R.length) hE2; omega) (Nat.le_refl _) hml (hK2.mo M) hI2 hC2 (fun p hp => by rcases List.mem_cons.1 hp with rfl | q; exact Rch.one hmr; exact (hP p q).snoc hmr)) rfl ?_
      rintro e9 u41 ⟨rv, al3, rfl, hrv, hK3, hI3, hC3, hm3, hE3, hS3⟩
      refine ⟨_, rfl, ?_⟩
      have hMK2 := (hMK.trans M).same hm3
      clear a_M
      clear a_R
      clear a_G
      clear M
      have M : Mo u41 u41 := Mo.refl _
      refine wl_mv (.tmp 33) (.int .i64 (rv)) (fun _ => rfl) rfl rfl ?_
      refine w_nil ?_
      refine xn_then ?_
      refine w_seq ?_
      refine w_seq ?_
      rcases hrv with ⟨rr, hrr, rfl⟩ | ⟨hrN, rfl⟩
      · skip
        have hrl := hrr.lt hR
        have hrn1 : decide (((rr : Nat) : Int) = -1) = false := decide_eq_false (by omega)
        refine w_reg ?_
        refine wl_mv (.tmp 11) (.int .i64 ((rr : Nat) : Int)) (fun _ => rfl) rfl rfl ?_
        refine wl_bin (fun x y => do eqGuard .eql 3 (.tmp 34) (.const (.int .i64 (-1))) x y; binOp .eql 3 x y) (.tmp 34) (.const (.int .i64 (-1))) (.int .i64 ((rr : Nat) : Int)) (.int .i64 (-1)) (.bool false) (fun _ => rfl) rfl rfl (eq3 hrn1 _ _ _) rfl ?_
        refine w_nil ?_
        refine xn_then ?_
        refine w_condF rfl ?_
        refine w_skip ?_
        refine xn_then ?_
        refine w_reg ?_
        refine wl_mv (.tmp 8) (.int .i64 ((bb : Nat) : Int)) (fun _ => rfl) e40_8 rfl ?_
        refine wl_mv (.tmp 11) (.int .i64 ((rr : Nat) : Int)) (fun _ => rfl) rfl rfl ?_
        refine wl_bin (fun x y => do eqGuard .add 3 (.tmp 37) (.const (.int .i64 (1))) x y; binOp .add 3 x y) (.tmp 37) (.const (.int .i64 (1))) (.int .i64 ((rr : Nat) : Int)) (.int .i64 (1)) (.int .i64 ((rr + 1 : Nat) : Int)) (fun _ => rfl) rfl rfl (add1r (k := rr) (by omega) _ _ _) rfl ?_
        refine wl_val (.int .i64 ((max (bb) (rr + 1) : Nat) : Int)) (maxI _ _ _ (bb) (rr + 1) (by exact rfl) (by exact rfl) _ _ _ _ _ _) rfl ?_
        refine wl_mv (.tmp 39) (.int .i64 ((max (bb) (rr + 1) : Nat) : Int)) (fun _ => rfl) rfl rfl ?_
        refine w_nil ?_
        refine xn_blk ?_
        refine xn_then ?_
        refine w_reg ?_
        refine wl_bin (fun x y => do eqGuard .add 3 (.tmp 27) (.const (.int .i64 (1))) x y; binOp .add 3 x y) (.tmp 27) (.const (.int .i64 (1))) (.int .i64 ((i : Nat) : Int)) (.int .i64 (1)) (.int .i64 ((i + 1 : Nat) : Int)) (fun _ => rfl) e40_27 rfl (add1r (k := i) (by omega) _ _ _) rfl ?_
        refine wl_mv (.tmp 40) (.int .i64 ((i + 1 : Nat) : Int)) (fun _ => rfl) rfl rfl ?_
        refine w_nil ?_
        exact xn_loop (x.L.length - (i + 1)) (by omega) ⟨i + 1, al3, max (bb) (rr + 1), rfl, e40_0, e40_1, e40_3, rfl, e40_25, e40_26, rfl, by omega, hK3.mo M, hI3, hC3, hMK2.trans M, (fun m u hm => hE3 m u (hE2 m u hm)), by rw [List.take_add_one, hmm]; exact hLs.more hrr⟩
      · skip
        have hnN := hrN.read hmr
        have hsn : lkq al3 ((n : Nat) : Int) = some (-1) := hE3 _ _ (hE2 _ _ (by rw [lkq_put, if_pos rfl]))
        refine w_reg ?_
        refine wl_mv (.tmp 11) (.int .i64 (-1)) (fun _ => rfl) rfl rfl ?_
        refine wl_bin (fun x y => do eqGuard .eql 3 (.tmp 34) (.const (.int .i64 (-1))) x y; binOp .eql 3 x y) (.tmp 34) (.const (.int .i64 (-1))) (.int .i64 (-1)) (.int .i64 (-1)) (.bool true) (fun _ => rfl) rfl rfl (eq3 (r := true) rfl _ _ _) rfl ?_
        refine w_nil ?_
        refine xn_then ?_
        refine w_condT rfl ?_
        refine w_seq ?_
        refine w_reg ?_
        refine wl_mv (.const (.int .i64 (-1))) (.int .i64 (-1)) (fun _ => rfl) rfl rfl ?_
        refine w_nil ?_
        refine xn_then ?_
        refine w_ret ?_
        refine xr_then ?_
        refine xr_blk ?_
        refine xr_then ?_
        refine xr_then ?_
        refine xr_blk ?_
        refine xr_then ?_
        exact w_ret1 _ (.int .i64 (-1)) rfl rfl ⟨_, _, rfl, Or.inr ⟨hnN, rfl⟩, hK3.mo M, hI3.drop (fun v hv => by rw [hsn] at hv; cases hv; exact Or.inr ⟨hnN, rfl⟩), hC3, hMK2.trans M, fun m u hm => hE3 m u (hE2 m u (hE1 m u hm)), by rw [hsn]; rfl⟩
    | false =>
      have hie : i = x.L.length := by have := of_decide_eq_false hd2; omega
      rw [hie, List.take_length, ← hxL] at hLs
      have hrn := hLs.all
      have hbl := hrn.lt hR
      have a_M := hK2.aM
      have a_R := hK2.aR
      have a_G := hK2.aG
      have hsn : (lkq al2 ((n : Nat) : Int)).isSome = true := by rw [hE2 ((n : Nat) : Int) (-1) (by rw [lkq_put, if_pos rfl])]; rfl
      refine w_seq ?_
      refine w_reg ?_
      refine wl_bin (fun x y => do eqGuard .lss 3 (.tmp 27) (.tmp 26) x y; binOp .lss 3 x y) (.tmp 27) (.tmp 26) (.int .i64 ((i : Nat) : Int)) (.int .i64 ((x.L.length : Nat) : Int)) (.bool false) (fun _ => rfl) e40_27 e40_26 (ltN hd2 _ _ _) rfl ?_
      refine w_nil ?_
      refine xn_then ?_
      refine w_seq ?_
      refine w_condF rfl ?_
      refine w_exit ?_
      refine xx_then ?_
      refine xx_then ?_
      refine xx_blk ?_
      refine xn_then ?_
      refine w_seq ?_
      refine w_reg ?_
      refine wl_load 83 (.tmp 1) (pt kM 0) (.map (some mb)) rfl e40_1 (run_one a_M 83 0 rfl Try.underlying83 rfl) rfl ?_
      refine wl_mv (.tmp 0) (.int .i64 ((n : Nat) : Int)) (fun _ => rfl) e40_0 rfl ?_
      refine wl_mv (.tmp 8) (.int .i64 ((bb : Nat) : Int)) (fun _ => rfl) e40_8 rfl ?_
      refine wl_mupq (al := al2) (.tmp 41) (.tmp 42) (.tmp 43) ((n : Nat) : Int) ((bb : Nat) : Int) (hK2.mo M).mp kt3 Try.underlying83 rfl rfl rfl rfl rfl rfl ?_
      intro u41 hm9 hK9
      have hK3 := (hK2.mo M).put hK9 hm9
      have hMK3 := (hMK.trans M).same hK9
      refine w_nil ?_
      refine xn_then ?_
      refine w_seq ?_
      refine w_reg ?_
      refine wl_mv (.tmp 8) (.int .i64 ((bb : Nat) : Int)) (fun _ => rfl) e40_8 rfl ?_
      refine wl_mv (.tmp 44) (.int .i64 ((bb : Nat) : Int)) (fun _ => rfl) rfl rfl ?_
      refine w_nil ?_
      refine xn_then ?_
      refine w_ret ?_
      exact w_ret1 _ (.int .i64 ((bb : Nat) : Int)) rfl rfl ⟨_, _, rfl, Or.inl ⟨bb, hrn, rfl⟩, hK3.mo (Mo.refl _), (hI2.put (Or.inr (Or.inl ⟨bb, hrn, rfl⟩))).drop (fun v hv => by rw [lkq_put, if_pos rfl] at hv; cases hv; exact Or.inl ⟨bb, hrn, rfl⟩), hC2.old hsn, hMK3, fun m u hm => by rw [lkq_put]; by_cases e : ((n : Nat) : Int) = m; (rw [← e, hno] at hm; cases hm); (rw [if_neg e]; exact hE2 m u (hE1 m u hm)), by rw [lkq_put, if_pos rfl]; rfl⟩
end Go.Proofs.Ythghblgbjgghcaa
namespace Go.Proofs.Ythghblgbjgghcaa
open Go.RowKit D
theorem rankAll_n {V : List Iz} {R : List (List Nat)} {ka : Nat} {w : World} (hV : V.map Iz.L = R) (hR : Rin R) (hz : R.length < 400000) (hlen : ∀ x ∈ V, x.L.length ≤ R.length) (hO : Ob w ka 32 (V.map Iz.v)) (hli : ∀ x ∈ V, Li w x.pa x.L) : Calls Try.prog 43 #[.slice (some ⟨ka, 0, none⟩) V.length V.length] w fun e w' => ∃ mb al, e = .returned (.map (some mb)) ∧ Mp ei w' mb al ∧ w.heap.size ≤ mb ∧ (∀ n, n < R.length → ∃ v, lkq al ((n : Nat) : Int) = some v ∧ Rkv R n v) ∧ al.length = R.length ∧ Mo w w' := by
  have hVl : V.length = R.length := by rw [← hV]; simp
  refine w_enter 20 Try.func43 Try.ntmps43 rfl rfl ?_
  have M : Mo w w := Mo.refl _
  refine w_seq ?_
  refine w_reg ?_
  refine wl_boxO 79 (.tmp 0) (.slice (some ⟨ka, 0, none⟩) V.length V.length) [.slice (some ⟨ka, 0, none⟩) V.length V.length] rfl rfl (fun _ => by kernel_rfl) rfl ?_
  intro k1 u1 hk hz9 hq O1
  have Q1 := O1.at
  have N_k1 : w.heap.size ≤ k1 := by have := M.size; omega
  replace M := M.trans hq
  clear hk hz9 hq
  refine wl_mv (.const (.map none)) (.map none) (fun _ => rfl) rfl rfl ?_
  refine w_nil ?_
  refine xn_then ?_
  refine w_seq ?_
  refine w_reg ?_
  refine wl_load 79 (.tmp 1) (pt k1 0) (.slice (some ⟨ka, 0, none⟩) V.length V.length) rfl rfl (run_one Q1 79 0 rfl Try.underlying79 rfl) rfl ?_
  refine wl_val (.int .i64 ((V.length : Nat) : Int)) (len79 _ _ _ _ _ (by exact rfl) _ _ _ _ _ _) rfl ?_
  refine wl_mmh ei 83 (.tmp 7) _ Try.underlying83 rfl rfl rfl ?_
  intro mb1 u2 hk hz9 hq hO_mb1
  have ne_k1_mb1 : k1 ≠ mb1 := by have := Q1.lt; omega
  have N_mb1 : w.heap.size ≤ mb1 := by have := M.size; omega
  replace Q1 := Q1.mo hq
  replace O1 := O1.mo hq
  replace M := M.trans hq
  clear hk hz9 hq
  refine wl_allocO 83 [.map none] rfl (fun _ => by kernel_rfl) rfl ?_
  intro k2 u3 hk hz9 hq O2
  have Q2 := O2.at
  have ne_k1_k2 : k1 ≠ k2 := by have := Q1.lt; omega
  have N_k2 : w.heap.size ≤ k2 := by have := M.size; omega
  have nm_mb1_k2 : mb1 ≠ k2 := by have := hO_mb1.lt; omega
  replace Q1 := Q1.mo hq
  replace O1 := O1.mo hq
  replace hO_mb1 := hO_mb1.mo hq
  replace M := M.trans hq
  clear hk hz9 hq
  refine wl_stO 83 (.tmp 3) (.tmp 8) k2 0 (.map (some mb1)) _ _ [.map (some mb1)] O2 rfl rfl rfl rfl rfl sz83 rfl rfl rfl rfl ?_
  intro u4 hK9 O9
  clear O2
  have O2 := O9
  clear O9
  replace Q2 := O2.at
  replace Q1 := hK9.at Q1 ne_k1_k2
  replace O1 := O1.mk hK9 ne_k1_k2
  replace hO_mb1 := hO_mb1.mk hK9 nm_mb1_k2
  replace M := hK9.mo M (fun k e => e ▸ N_k2)
  clear hK9
  refine w_nil ?_
  refine xn_then ?_
  refine w_seq ?_
  refine w_reg ?_
  refine wl_allocO 115 [.nilFunc] rfl (fun _ => by kernel_rfl) rfl ?_
  intro k3 u5 hk hz9 hq O3
  have Q3 := O3.at
  have ne_k1_k3 : k1 ≠ k3 := by have := Q1.lt; omega
  have ne_k2_k3 : k2 ≠ k3 := by have := Q2.lt; omega
  have N_k3 : w.heap.size ≤ k3 := by have := M.size; omega
  have nm_mb1_k3 : mb1 ≠ k3 := by have := hO_mb1.lt; omega
  replace Q1 := Q1.mo hq
  replace Q2 := Q2.mo hq
  replace O1 := O1.mo hq
  replace O2 := O2.mo hq
  replace hO_mb1 := hO_mb1.mo hq
  replace M := M.trans hq
  clear hk hz9 hq
  refine w_nil ?_
  refine xn_then ?_
  refine w_seq ?_
  refine w_reg ?_
  refine wl_mf (.func 64) [] [(.tmp 3), (.tmp 1), (.tmp 4)] [] [pt k2 0, pt k1 0, pt k3 0] rfl rfl rfl rfl ?_
  refine wl_stO 115 (.tmp 4) (.tmp 9) k3 0 (.func (.func 64) #[] #[pt k2 0, pt k1 0, pt k3 0]) _ _ [.func (.func 64) #[] #[pt k2 0, pt k1 0, pt k3 0]] O3 rfl rfl rfl rfl rfl sz115 rfl rfl rfl rfl ?_
  intro u6 hK9 O9
  clear O3
  have O3 := O9
  clear O9
  replace Q3 := O3.at
  replace Q1 := hK9.at Q1 ne_k1_k3
  replace O1 := O1.mk hK9 ne_k1_k3
  replace Q2 := hK9.at Q2 ne_k2_k3
  replace O2 := O2.mk hK9 ne_k2_k3
  replace hO_mb1 := hO_mb1.mk hK9 nm_mb1_k3
  replace M := hK9.mo M (fun k e => e ▸ N_k3)
  clear hK9
  refine w_nil ?_
  refine xn_then ?_
  refine w_seq ?_
  refine w_seq ?_
  refine w_reg ?_
  refine wl_load 79 (.tmp 1) (pt k1 0) (.slice (some ⟨ka, 0, none⟩) V.length V.length) rfl rfl (run_one Q1 79 0 rfl Try.underlying79 rfl) rfl ?_
  refine wl_val (.int .i64 ((V.length : Nat) : Int)) (len79 _ _ _ _ _ (by exact rfl) _ _ _ _ _ _) rfl ?_
  refine wl_mv (.const (.int .i64 (0))) (.int .i64 (0)) (fun _ => rfl) rfl rfl ?_
  refine w_nil ?_
  refine xn_then ?_
  refine w_block ?_
  have hK : Ks V k2 k1 k3 mb1 ka u6 [] := ⟨Q2, Q1, Q3, hO.mo M, fun x hx => (hli x hx).mo M, hO_mb1⟩
  refine w_loop (fun m lf w1 => ∃ i : Nat, ∃ al : List (Int × Int), m = V.length - i ∧ look lf 4 = pt k3 0 ∧ look lf 3 = pt k2 0 ∧ look lf 11 = .int .i64 ((V.length : Nat) : Int) ∧ look lf 12 = .int .i64 ((i : Nat) : Int) ∧ (i ≤ V.length) ∧ (Ks V k2 k1 k3 mb1 ka w1 al) ∧ (Iv R al []) ∧ (Cn R.length al) ∧ (∀ j, j < i → (lkq al ((j : Nat) : Int)).isSome = true) ∧ (Mo w w1)) _ ⟨0, [], rfl, rfl, rfl, rfl, rfl, Nat.zero_le _, hK, (fun n v h => by cases h), Cn.nil _, (fun j hj => by omega), M⟩ ?_
  clear hK M
  rintro m lf40 wl40 ⟨i, al, rfl, e40_4, e40_3, e40_11, e40_12, hi, hK, hI, hC, hT, M⟩
  have M0 := M
  clear M
  have M : Mo wl40 wl40 := Mo.refl _
  cases hd2 : decide (i < V.length) with
  | true =>
    have hil := of_decide_eq_true hd2
    have a_M := hK.aM
    have a_G := hK.aG
    refine w_seq ?_
    refine w_reg ?_
    refine wl_bin (fun x y => do eqGuard .lss 3 (.tmp 12) (.tmp 11) x y; binOp .lss 3 x y) (.tmp 12) (.tmp 11) (.int .i64 ((i : Nat) : Int)) (.int .i64 ((V.length : Nat) : Int)) (.bool true) (fun _ => rfl) e40_12 e40_11 (ltN hd2 _ _ _) rfl ?_
    refine w_nil ?_
    refine xn_then ?_
    refine w_seq ?_
    refine w_condT rfl ?_
    refine w_skip ?_
    refine xn_then ?_
    refine w_seq ?_
    refine w_block ?_
    refine w_seq ?_
    refine w_reg ?_
    refine wl_mv (.tmp 12) (.int .i64 ((i : Nat) : Int)) (fun _ => rfl) e40_12 rfl ?_
    refine wl_mv (.tmp 14) (.int .i64 ((i : Nat) : Int)) (fun _ => rfl) rfl rfl ?_
    refine w_nil ?_
    refine xn_then ?_
    refine w_reg ?_
    refine wl_load 115 (.tmp 4) (pt k3 0) (.func (.func 64) #[] #[pt k2 0, pt k1 0, pt k3 0]) rfl e40_4 (run_one a_G 115 0 rfl Try.underlying115 rfl) rfl ?_
    refine wl_mv (.tmp 5) (.int .i64 ((i : Nat) : Int)) (fun _ => rfl) rfl rfl ?_
    refine wl_callv 64 (.tmp 15) #[] #[pt k2 0, pt k1 0, pt k3 0] [(.tmp 16)] _ [.int .i64 ((i : Nat) : Int)] [.int .i64 ((i : Nat) : Int), pt k2 0, pt k1 0, pt k3 0] rfl rfl rfl rfl (fun _ _ => by kernel_rfl) (rank_n hV hR hz hlen (und R.length al) (Nat.le_refl _) (by omega) (hK.mo M) hI hC (fun p hp => by simp at hp)) rfl ?_
    rintro e9 u41 ⟨rv, al3, rfl, hrv, hK3, hI3, hC3, hm3, hE3, hS3⟩
    refine ⟨_, rfl, ?_⟩
    have M3 := hm3.mo (M0.trans M) (fun k e => e ▸ N_mb1)
    clear a_M a_G
    clear M
    have M : Mo u41 u41 := Mo.refl _
    refine w_nil ?_
    refine xn_blk ?_
    refine xn_then ?_
    refine w_reg ?_
    refine wl_bin (fun x y => do eqGuard .add 3 (.tmp 12) (.const (.int .i64 (1))) x y; binOp .add 3 x y) (.tmp 12) (.const (.int .i64 (1))) (.int .i64 ((i : Nat) : Int)) (.int .i64 (1)) (.int .i64 ((i + 1 : Nat) : Int)) (fun _ => rfl) e40_12 rfl (add1r (k := i) (by omega) _ _ _) rfl ?_
    refine wl_mv (.tmp 18) (.int .i64 ((i + 1 : Nat) : Int)) (fun _ => rfl) rfl rfl ?_
    refine w_nil ?_
    exact xn_loop (V.length - (i + 1)) (by omega) ⟨i + 1, al3, rfl, e40_4, e40_3, e40_11, rfl, by omega, hK3.mo M, hI3, hC3, (fun j hj => by rcases Nat.lt_or_ge j i with q | q; (obtain ⟨v, hv⟩ := Option.isSome_iff_exists.1 (hT j q); rw [hE3 _ v hv]; rfl); (rw [show j = i by omega]; exact hS3)), M3.trans M⟩
  | false =>
    have hie : i = R.length := by have := of_decide_eq_false hd2; omega
    rw [hie] at hT
    have a_M := hK.aM
    have a_G := hK.aG
    refine w_seq ?_
    refine w_reg ?_
    refine wl_bin (fun x y => do eqGuard .lss 3 (.tmp 12) (.tmp 11) x y; binOp .lss 3 x y) (.tmp 12) (.tmp 11) (.int .i64 ((i : Nat) : Int)) (.int .i64 ((V.length : Nat) : Int)) (.bool false) (fun _ => rfl) e40_12 e40_11 (ltN hd2 _ _ _) rfl ?_
    refine w_nil ?_
    refine xn_then ?_
    refine w_seq ?_
    refine w_condF rfl ?_
    refine w_exit ?_
    refine xx_then ?_
    refine xx_then ?_
    refine xx_blk ?_
    refine xn_then ?_
    refine w_seq ?_
    refine w_reg ?_
    refine wl_load 83 (.tmp 3) (pt k2 0) (.map (some mb1)) rfl e40_3 (run_one a_M 83 0 rfl Try.underlying83 rfl) rfl ?_
    refine wl_mv (.tmp 19) (.map (some mb1)) (fun _ => rfl) rfl rfl ?_
    refine w_nil ?_
    refine xn_then ?_
    refine w_ret ?_
    exact w_ret1 _ (.map (some mb1)) rfl rfl ⟨mb1, al, rfl, (hK.mo M).mp, N_mb1, (fun n hn => by obtain ⟨v, hv⟩ := Option.isSome_iff_exists.1 (hT n hn); exact ⟨v, hv, (hI n v hv).resolve_left (fun q => by simp at q)⟩), (by have h1 := und_zero hT; unfold Cn at hC; omega), M0.trans M⟩
theorem RA_rowlen {l : List S5} {V : List Iz} (h : V.map Iz.L = RA l) : ∀ x ∈ V, x.L.length ≤ (RA l).length := fun x hx => by
  have h1 : x.L ∈ RA l := by rw [← h]; exact List.mem_map.2 ⟨x, hx, rfl⟩
  unfold RA at h1
  obtain ⟨s, _, h1⟩ := List.mem_flatMap.1 h1
  obtain ⟨z, _, e⟩ := List.mem_map.1 h1
  rw [RA_len, ← e]; exact rdI_len _ _ _ _
theorem set_rep {f : Nat → Value} (rs : List Nat) (r : Nat) {n i : Nat} {z : Value} (h : i < n) (hl : rs.length = i) : (rs.map f ++ List.replicate (n - i) z).set (0 + i * 1) (f r) = (rs ++ [r]).map f ++ List.replicate (n - (i + 1)) z := by
  rw [show 0 + i * 1 = i by omega, List.set_append_right _ _ (by simp; omega)]
  simp only [List.length_map, hl, Nat.sub_self, List.map_append, List.map_cons, List.map_nil, List.append_assoc]
  rw [show n - i = (n - (i + 1)) + 1 by omega, List.replicate_succ]; rfl
theorem ranks_n {w : World} {l : List S5} {pl : Option Addr} {cl : Nat} (hL : SL w 5 S5.cells pl l) (hLx : ∀ x ∈ l, LS5 w x) (hz : l.length < 400000) (hzI : nI l < 400000) (hnd : ∀ y ∈ l, ∀ z ∈ y.items, nd z.ex ≤ 3000000) : Calls Try.prog 21 #[.slice pl l.length cl] w fun e w' => ((∃ n, n < nI l ∧ RkN (RA l) n) ∧ e = .returned (.tuple #[.slice none 0 0, .int .i64 110]) ∧ Mo w w') ∨ ∃ (k : Nat) (rs : List Nat), rs.length = nI l ∧ (∀ n r, rs[n]? = some r → RkS (RA l) n r) ∧ e = .returned (.tuple #[.slice (some ⟨k, 0, none⟩) (nI l) (nI l), .int .i64 0]) ∧ Ob w' k 3 (rs.map (fun n => .int .i64 ((n : Nat) : Int))) ∧ w.heap.size ≤ k ∧ Mo w w' := by
  refine w_enter 30 Try.func21 Try.ntmps21 rfl rfl ?_
  have M : Mo w w := Mo.refl _
  refine w_seq ?_
  refine w_reg ?_
  refine wl_mv (.const (.slice none 0 0)) (.slice none 0 0) (fun _ => rfl) rfl rfl ?_
  refine wl_mv (.const (.int .i64 (0))) (.int .i64 (0)) (fun _ => rfl) rfl rfl ?_
  refine w_nil ?_
  refine xn_then ?_
  refine w_seq ?_
  refine w_reg ?_
  refine wl_mv (.tmp 0) (.slice pl l.length cl) (fun _ => rfl) rfl rfl ?_
  refine wl_callx 44 [(.tmp 7)] _ [.slice pl l.length cl] rfl rfl (fun _ _ => by kernel_rfl) (readsAll_n (hL.kp M.kp) (fun x hx => (hLx x hx).kp M.kp) hz hzI hnd) rfl ?_
  rintro e9 u1 ⟨ka, V, rfl, hOa, hlia, hVR, hkaN, hq⟩
  refine ⟨_, rfl, ?_⟩
  have hVl : V.length = nI l := by have := congrArg List.length hVR; rw [RA_len] at this; simpa using this
  replace M := M.trans hq
  clear hq
  refine wl_callx 43 [(.tmp 8)] _ [.slice (some ⟨ka, 0, none⟩) (nI l) (nI l)] rfl rfl (fun _ _ => by kernel_rfl) ((hVl ▸ rankAll_n hVR (RA_in l) (by rw [RA_len]; exact hzI) (RA_rowlen hVR) hOa hlia)) rfl ?_
  rintro e9 u2 ⟨mb, al, rfl, hM, hmbN, hAl, hlen, hq⟩
  refine ⟨_, rfl, ?_⟩
  rw [RA_len] at hAl hlen
  replace M := M.trans hq
  clear hq
  refine wl_mv (.tmp 9) (.map (some mb)) (fun _ => rfl) rfl rfl ?_
  refine w_nil ?_
  refine xn_then ?_
  refine w_seq ?_
  refine w_reg ?_
  refine wl_mv (.tmp 4) (.map (some mb)) (fun _ => rfl) rfl rfl ?_
  refine wl_val (.int .i64 ((al.length : Nat) : Int)) (lenM _ _ _ hM (by exact rfl) _ _ _ _ _) rfl ?_
  refine wl_makeS 32 3 (.tmp 11) (.tmp 11) (al.length) (.int .i64 0) 8 Try.underlying32 inf3 rfl (by omega) (by omega) rfl rfl rfl rfl ?_
  intro k1 u3 hk hz hq O1
  have Q1 := O1.at
  have N_k1 : w.heap.size ≤ k1 := by have := M.size; omega
  replace hM := hM.mo hq
  replace M := M.trans hq
  clear hk hz hq
  refine wl_mv (.tmp 12) (.slice (some ⟨k1, 0, none⟩) al.length al.length) (fun _ => rfl) rfl rfl ?_
  refine w_nil ?_
  refine xn_then ?_
  refine w_seq ?_
  refine w_seq ?_
  refine w_reg ?_
  refine wl_mv (.tmp 5) (.slice (some ⟨k1, 0, none⟩) al.length al.length) (fun _ => rfl) rfl rfl ?_
  refine wl_val (.int .i64 ((al.length : Nat) : Int)) (len32 _ _ _ _ _ (by exact rfl) _ _ _ _ _ _) rfl ?_
  refine wl_mv (.const (.int .i64 (0))) (.int .i64 (0)) (fun _ => rfl) rfl rfl ?_
  refine w_nil ?_
  refine xn_then ?_
  refine w_block ?_
  rw [hlen] at O1
  have hM1 := hM
  refine w_loop (fun m lf w1 => ∃ i : Nat, ∃ rs : List Nat, m = al.length - i ∧ look lf 4 = .map (some mb) ∧ look lf 5 = .slice (some ⟨k1, 0, none⟩) al.length al.length ∧ look lf 14 = .int .i64 ((al.length : Nat) : Int) ∧ look lf 15 = .int .i64 ((i : Nat) : Int) ∧ (i ≤ al.length) ∧ (Mp ei w1 mb al) ∧ (Ob w1 k1 3 (rs.map (fun n => .int .i64 ((n : Nat) : Int)) ++ List.replicate (nI l - i) (.int .i64 0))) ∧ (rs.length = i) ∧ (∀ n r, rs[n]? = some r → RkS (RA l) n r) ∧ (Mo w w1)) _ ⟨0, [], rfl, rfl, rfl, rfl, rfl, Nat.zero_le _, hM1, by simpa using O1, rfl, (fun n r h => by simp at h), M⟩ ?_
  clear hM hM1 O1 M Q1
  rintro m lf40 wl40 ⟨i, rs, rfl, e40_4, e40_5, e40_14, e40_15, hi, hM, O1, hrl, hrs, M⟩
  cases hd2 : decide (i < al.length) with
  | true =>
    have hil := of_decide_eq_true hd2
    have hil2 : i < nI l := by omega
    obtain ⟨rv, hrv1, hrv2⟩ := hAl i hil2
    rcases hrv2 with ⟨rr, hrr, rfl⟩ | ⟨hrN, rfl⟩
    · skip
      have hgd : (lkq al ((i : Nat) : Int)).getD 0 = ((rr : Nat) : Int) := by rw [hrv1]; rfl
      have hgn : decide ((lkq al ((i : Nat) : Int)).getD 0 = -1) = false := decide_eq_false (by rw [hgd]; omega)
      have Q1 := O1.at
      refine w_seq ?_
      refine w_reg ?_
      refine wl_bin (fun x y => do eqGuard .lss 3 (.tmp 15) (.tmp 14) x y; binOp .lss 3 x y) (.tmp 15) (.tmp 14) (.int .i64 ((i : Nat) : Int)) (.int .i64 ((al.length : Nat) : Int)) (.bool true) (fun _ => rfl) e40_15 e40_14 (ltN hd2 _ _ _) rfl ?_
      refine w_nil ?_
      refine xn_then ?_
      refine w_seq ?_
      refine w_condT rfl ?_
      refine w_skip ?_
      refine xn_then ?_
      refine w_seq ?_
      refine w_block ?_
      refine w_seq ?_
      refine w_reg ?_
      refine wl_mv (.tmp 15) (.int .i64 ((i : Nat) : Int)) (fun _ => rfl) e40_15 rfl ?_
      refine wl_mv (.tmp 17) (.int .i64 ((i : Nat) : Int)) (fun _ => rfl) rfl rfl ?_
      refine w_nil ?_
      refine xn_then ?_
      refine w_seq ?_
      refine w_seq ?_
      refine w_reg ?_
      refine wl_mv (.tmp 4) (.map (some mb)) (fun _ => rfl) e40_4 rfl ?_
      refine wl_mv (.tmp 6) (.int .i64 ((i : Nat) : Int)) (fun _ => rfl) rfl rfl ?_
      refine wl_val (.int .i64 ((lkq al ((i : Nat) : Int)).getD 0)) (lkp 83 (.tmp 18) (.tmp 19) false (.map (some mb)) (.int .i64 ((i : Nat) : Int)) (.int .i64 ((lkq al ((i : Nat) : Int)).getD 0)) rfl rfl rfl (by exact hM.look kt3 Try.underlying83 ((i : Nat) : Int) false)) rfl ?_
      refine wl_bin (fun x y => do eqGuard .eql 3 (.tmp 20) (.const (.int .i64 (-1))) x y; binOp .eql 3 x y) (.tmp 20) (.const (.int .i64 (-1))) (.int .i64 ((lkq al ((i : Nat) : Int)).getD 0)) (.int .i64 (-1)) (.bool false) (fun _ => rfl) rfl rfl (eq3 hgn _ _ _) rfl ?_
      refine w_nil ?_
      refine xn_then ?_
      refine w_condF rfl ?_
      refine w_skip ?_
      refine xn_then ?_
      refine w_reg ?_
      refine wl_mv (.tmp 5) (.slice (some ⟨k1, 0, none⟩) al.length al.length) (fun _ => rfl) e40_5 rfl ?_
      refine wl_mv (.tmp 6) (.int .i64 ((i : Nat) : Int)) (fun _ => rfl) rfl rfl ?_
      refine wl_mv (.tmp 4) (.map (some mb)) (fun _ => rfl) e40_4 rfl ?_
      refine wl_mv (.tmp 6) (.int .i64 ((i : Nat) : Int)) (fun _ => rfl) rfl rfl ?_
      refine wl_val (.int .i64 ((lkq al ((i : Nat) : Int)).getD 0)) (lkp 83 (.tmp 24) (.tmp 25) false (.map (some mb)) (.int .i64 ((i : Nat) : Int)) (.int .i64 ((lkq al ((i : Nat) : Int)).getD 0)) rfl rfl rfl (by exact hM.look kt3 Try.underlying83 ((i : Nat) : Int) false)) rfl ?_
      refine wl_bin (fun x y => Instr.indexAt 32 x y) (.tmp 22) (.tmp 23) (.slice (some ⟨k1, 0, none⟩) al.length al.length) (.int .i64 ((i : Nat) : Int)) (pt k1 (0 + i * 1)) (fun _ => rfl) rfl rfl (ix32 (i := i) rfl (by omega) _) rfl ?_
      refine wl_sti 3 (.tmp 27) (.tmp 26) k1 (0 + i * 1) (.int .i64 ((rr : Nat) : Int)) 3 _ O1 rfl rfl rfl (by first | exact congrArg (Value.int .i64) hgd | (rw [← hgd]; exact rfl)) (by simp; omega) sz3 rfl rfl rfl ?_
      intro u41 hK9 hO9
      replace hM := hM.mk hK9 (fun e => hM.nec O1 e.symm)
      replace M := hK9.mo M (fun k e => e ▸ N_k1)
      clear Q1 O1
      have O1 : Ob u41 k1 3 ((rs ++ [rr]).map (fun n => .int .i64 ((n : Nat) : Int)) ++ List.replicate (nI l - (i + 1)) (.int .i64 0)) := by rw [set_rep (f := fun n : Nat => Value.int .i64 ((n : Nat) : Int)) rs rr (by omega) hrl] at hO9; exact hO9
      refine w_nil ?_
      refine xn_blk ?_
      refine xn_then ?_
      refine w_reg ?_
      refine wl_bin (fun x y => do eqGuard .add 3 (.tmp 15) (.const (.int .i64 (1))) x y; binOp .add 3 x y) (.tmp 15) (.const (.int .i64 (1))) (.int .i64 ((i : Nat) : Int)) (.int .i64 (1)) (.int .i64 ((i + 1 : Nat) : Int)) (fun _ => rfl) e40_15 rfl (add1r (k := i) (by omega) _ _ _) rfl ?_
      refine wl_mv (.tmp 28) (.int .i64 ((i + 1 : Nat) : Int)) (fun _ => rfl) rfl rfl ?_
      refine w_nil ?_
      exact xn_loop (al.length - (i + 1)) (by omega) ⟨i + 1, rs ++ [rr], rfl, e40_4, e40_5, e40_14, rfl, by omega, hM, O1, by simp; omega, (fun n r hn => by rcases Nat.lt_or_ge n rs.length with q | q; (rw [List.getElem?_append_left q] at hn; exact hrs n r hn); (rw [List.getElem?_append_right q] at hn; have h9 := lt_of_get hn; have h8 := List.mem_of_getElem? hn; simp at h8 h9; subst h8; rw [show n = i by omega]; exact hrr)), M⟩
    · skip
      have hgd : (lkq al ((i : Nat) : Int)).getD 0 = -1 := by rw [hrv1]; rfl
      have hgn : decide ((lkq al ((i : Nat) : Int)).getD 0 = -1) = true := decide_eq_true hgd
      have Q1 := O1.at
      refine w_seq ?_
      refine w_reg ?_
      refine wl_bin (fun x y => do eqGuard .lss 3 (.tmp 15) (.tmp 14) x y; binOp .lss 3 x y) (.tmp 15) (.tmp 14) (.int .i64 ((i : Nat) : Int)) (.int .i64 ((al.length : Nat) : Int)) (.bool true) (fun _ => rfl) e40_15 e40_14 (ltN hd2 _ _ _) rfl ?_
      refine w_nil ?_
      refine xn_then ?_
      refine w_seq ?_
      refine w_condT rfl ?_
      refine w_skip ?_
      refine xn_then ?_
      refine w_seq ?_
      refine w_block ?_
      refine w_seq ?_
      refine w_reg ?_
      refine wl_mv (.tmp 15) (.int .i64 ((i : Nat) : Int)) (fun _ => rfl) e40_15 rfl ?_
      refine wl_mv (.tmp 17) (.int .i64 ((i : Nat) : Int)) (fun _ => rfl) rfl rfl ?_
      refine w_nil ?_
      refine xn_then ?_
      refine w_seq ?_
      refine w_seq ?_
      refine w_reg ?_
      refine wl_mv (.tmp 4) (.map (some mb)) (fun _ => rfl) e40_4 rfl ?_
      refine wl_mv (.tmp 6) (.int .i64 ((i : Nat) : Int)) (fun _ => rfl) rfl rfl ?_
      refine wl_val (.int .i64 ((lkq al ((i : Nat) : Int)).getD 0)) (lkp 83 (.tmp 18) (.tmp 19) false (.map (some mb)) (.int .i64 ((i : Nat) : Int)) (.int .i64 ((lkq al ((i : Nat) : Int)).getD 0)) rfl rfl rfl (by exact hM.look kt3 Try.underlying83 ((i : Nat) : Int) false)) rfl ?_
      refine wl_bin (fun x y => do eqGuard .eql 3 (.tmp 20) (.const (.int .i64 (-1))) x y; binOp .eql 3 x y) (.tmp 20) (.const (.int .i64 (-1))) (.int .i64 ((lkq al ((i : Nat) : Int)).getD 0)) (.int .i64 (-1)) (.bool true) (fun _ => rfl) rfl rfl (eq3 hgn _ _ _) rfl ?_
      refine w_nil ?_
      refine xn_then ?_
      refine w_condT rfl ?_
      refine w_seq ?_
      refine w_reg ?_
      refine wl_mv (.const (.slice none 0 0)) (.slice none 0 0) (fun _ => rfl) rfl rfl ?_
      refine wl_mv (.const (.int .i64 (110))) (.int .i64 (110)) (fun _ => rfl) rfl rfl ?_
      refine w_nil ?_
      refine xn_then ?_
      refine w_ret ?_
      refine xr_then ?_
      refine xr_blk ?_
      refine xr_then ?_
      refine xr_then ?_
      refine xr_blk ?_
      refine xr_then ?_
      exact w_ret2 _ _ (.slice none 0 0) (.int .i64 (110)) rfl rfl rfl (Or.inl ⟨⟨i, hil2, hrN⟩, rfl, M⟩)
  | false =>
    have hie : i = nI l := by have := of_decide_eq_false hd2; omega
    rw [hie, Nat.sub_self, List.replicate_zero, List.append_nil] at O1
    refine w_seq ?_
    refine w_reg ?_
    refine wl_bin (fun x y => do eqGuard .lss 3 (.tmp 15) (.tmp 14) x y; binOp .lss 3 x y) (.tmp 15) (.tmp 14) (.int .i64 ((i : Nat) : Int)) (.int .i64 ((al.length : Nat) : Int)) (.bool false) (fun _ => rfl) e40_15 e40_14 (ltN hd2 _ _ _) rfl ?_
    refine w_nil ?_
    refine xn_then ?_
    refine w_seq ?_
    refine w_condF rfl ?_
    refine w_exit ?_
    refine xx_then ?_
    refine xx_then ?_
    refine xx_blk ?_
    refine xn_then ?_
    refine w_seq ?_
    refine w_reg ?_
    refine wl_mv (.tmp 5) (.slice (some ⟨k1, 0, none⟩) al.length al.length) (fun _ => rfl) e40_5 rfl ?_
    refine wl_mv (.tmp 29) (.slice (some ⟨k1, 0, none⟩) al.length al.length) (fun _ => rfl) rfl rfl ?_
    refine wl_mv (.const (.int .i64 (0))) (.int .i64 (0)) (fun _ => rfl) rfl rfl ?_
    refine w_nil ?_
    refine xn_then ?_
    refine w_ret ?_
    exact w_ret2 _ _ (.slice (some ⟨k1, 0, none⟩) al.length al.length) (.int .i64 (0)) rfl rfl rfl (Or.inr ⟨k1, rs, by omega, hrs, by rw [hlen], O1, N_k1, M⟩)
theorem ris_t {i : Nat} {p : Nat → Bool} (h : p i = true) : ris (i + 1) p = ris i p ++ [i] := by unfold ris; rw [List.range_succ, List.filter_append]; simp [h]
theorem ris_f {i : Nat} {p : Nat → Bool} (h : p i = false) : ris (i + 1) p = ris i p := by unfold ris; rw [List.range_succ, List.filter_append]; simp [h]
theorem stuck_n {w : World} {l : List S5} {pl : Option Addr} {cl : Nat} (hL : SL w 5 S5.cells pl l) (hLx : ∀ x ∈ l, LS5 w x) (hz : l.length < 400000) (hzI : nI l < 400000) (hnd : ∀ y ∈ l, ∀ z ∈ y.items, nd z.ex ≤ 3000000) : Calls Try.prog 25 #[.slice pl l.length cl] w fun e w' => ∃ (p : Nat → Bool) (pa : Option Addr) (cap : Nat), (∀ n, n < nI l → (p n = true ↔ RkN (RA l) n)) ∧ e = .returned (.slice pa (ris (nI l) p).length cap) ∧ Ow w.heap.size 3 1 ic w' pa cap (ris (nI l) p) ∧ Mo w w' := by
  refine w_enter 24 Try.func25 Try.ntmps25 rfl rfl ?_
  have M : Mo w w := Mo.refl _
  refine w_seq ?_
  refine w_reg ?_
  refine wl_mv (.const (.slice none 0 0)) (.slice none 0 0) (fun _ => rfl) rfl rfl ?_
  refine w_nil ?_
  refine xn_then ?_
  refine w_seq ?_
  refine w_reg ?_
  refine wl_mv (.tmp 0) (.slice pl l.length cl) (fun _ => rfl) rfl rfl ?_
  refine wl_callx 44 [(.tmp 6)] _ [.slice pl l.length cl] rfl rfl (fun _ _ => by kernel_rfl) (readsAll_n (hL.kp M.kp) (fun x hx => (hLx x hx).kp M.kp) hz hzI hnd) rfl ?_
  rintro e9 u1 ⟨ka, V, rfl, hOa, hlia, hVR, hkaN, hq⟩
  refine ⟨_, rfl, ?_⟩
  have hVl : V.length = nI l := by have := congrArg List.length hVR; rw [RA_len] at this; simpa using this
  replace M := M.trans hq
  clear hq
  refine wl_callx 43 [(.tmp 7)] _ [.slice (some ⟨ka, 0, none⟩) (nI l) (nI l)] rfl rfl (fun _ _ => by kernel_rfl) ((hVl ▸ rankAll_n hVR (RA_in l) (by rw [RA_len]; exact hzI) (RA_rowlen hVR) hOa hlia)) rfl ?_
  rintro e9 u2 ⟨mb, al, rfl, hM, hmbN, hAl, hlen, hq⟩
  refine ⟨_, rfl, ?_⟩
  rw [RA_len] at hAl hlen
  replace M := M.trans hq
  clear hq
  refine wl_mv (.tmp 8) (.map (some mb)) (fun _ => rfl) rfl rfl ?_
  refine w_nil ?_
  refine xn_then ?_
  refine w_seq ?_
  refine w_reg ?_
  refine wl_mv (.const (.slice none 0 0)) (.slice none 0 0) (fun _ => rfl) rfl rfl ?_
  refine w_nil ?_
  refine xn_then ?_
  refine w_seq ?_
  refine w_seq ?_
  refine w_reg ?_
  refine wl_mv (.tmp 3) (.map (some mb)) (fun _ => rfl) rfl rfl ?_
  refine wl_val (.int .i64 ((al.length : Nat) : Int)) (lenM _ _ _ hM (by exact rfl) _ _ _ _ _) rfl ?_
  refine wl_mv (.const (.int .i64 (0))) (.int .i64 (0)) (fun _ => rfl) rfl rfl ?_
  refine w_nil ?_
  refine xn_then ?_
  refine w_block ?_
  have hM1 := hM
  refine w_loop (fun m lf w1 => ∃ i : Nat, ∃ pv : Option Addr, ∃ cv : Nat, m = al.length - i ∧ look lf 3 = .map (some mb) ∧ look lf 4 = .slice pv (ris i (fun n => decide ((lkq al ((n : Nat) : Int)).getD 0 = -1))).length cv ∧ look lf 10 = .int .i64 ((al.length : Nat) : Int) ∧ look lf 11 = .int .i64 ((i : Nat) : Int) ∧ (i ≤ al.length) ∧ (Mp ei w1 mb al) ∧ (Ow w.heap.size 3 1 ic w1 pv cv (ris i (fun n => decide ((lkq al ((n : Nat) : Int)).getD 0 = -1)))) ∧ (Mo w w1)) _ ⟨0, none, 0, rfl, rfl, rfl, rfl, rfl, Nat.zero_le _, hM1, Ow.nil _ _ _ _ _, M⟩ ?_
  clear hM hM1 M
  rintro m lf40 wl40 ⟨i, pv, cv, rfl, e40_3, e40_4, e40_10, e40_11, hi, hM, hW, M⟩
  cases hd2 : decide (i < al.length) with
  | true =>
    have hil := of_decide_eq_true hd2
    have hrb := ris_len i (fun n => decide ((lkq al ((n : Nat) : Int)).getD 0 = -1))
    refine w_seq ?_
    refine w_reg ?_
    refine wl_bin (fun x y => do eqGuard .lss 3 (.tmp 11) (.tmp 10) x y; binOp .lss 3 x y) (.tmp 11) (.tmp 10) (.int .i64 ((i : Nat) : Int)) (.int .i64 ((al.length : Nat) : Int)) (.bool true) (fun _ => rfl) e40_11 e40_10 (ltN hd2 _ _ _) rfl ?_
    refine w_nil ?_
    refine xn_then ?_
    refine w_seq ?_
    refine w_condT rfl ?_
    refine w_skip ?_
    refine xn_then ?_
    refine w_seq ?_
    refine w_block ?_
    refine w_seq ?_
    refine w_reg ?_
    refine wl_mv (.tmp 11) (.int .i64 ((i : Nat) : Int)) (fun _ => rfl) e40_11 rfl ?_
    refine wl_mv (.tmp 13) (.int .i64 ((i : Nat) : Int)) (fun _ => rfl) rfl rfl ?_
    refine w_nil ?_
    refine xn_then ?_
    refine w_seq ?_
    refine w_reg ?_
    refine wl_mv (.tmp 3) (.map (some mb)) (fun _ => rfl) e40_3 rfl ?_
    refine wl_mv (.tmp 5) (.int .i64 ((i : Nat) : Int)) (fun _ => rfl) rfl rfl ?_
    refine wl_val (.int .i64 ((lkq al ((i : Nat) : Int)).getD 0)) (lkp 83 (.tmp 14) (.tmp 15) false (.map (some mb)) (.int .i64 ((i : Nat) : Int)) (.int .i64 ((lkq al ((i : Nat) : Int)).getD 0)) rfl rfl rfl (by exact hM.look kt3 Try.underlying83 ((i : Nat) : Int) false)) rfl ?_
    cases hf30 : decide ((lkq al ((i : Nat) : Int)).getD 0 = -1) with
    | true =>
      have hf30p := of_decide_eq_true hf30
      refine wl_bin (fun x y => do eqGuard .eql 3 (.tmp 16) (.const (.int .i64 (-1))) x y; binOp .eql 3 x y) (.tmp 16) (.const (.int .i64 (-1))) (.int .i64 ((lkq al ((i : Nat) : Int)).getD 0)) (.int .i64 (-1)) (.bool true) (fun _ => rfl) rfl rfl (eq3 hf30 _ _ _) rfl ?_
      refine w_nil ?_
      refine xn_then ?_
      refine w_condT rfl ?_
      refine w_reg ?_
      refine wl_mv (.tmp 4) (.slice pv (ris i (fun n => decide ((lkq al ((n : Nat) : Int)).getD 0 = -1))).length cv) (fun _ => rfl) e40_4 rfl ?_
      refine wl_mv (.tmp 5) (.int .i64 ((i : Nat) : Int)) (fun _ => rfl) rfl rfl ?_
      refine wl_bs 32 1 [(0, (.tmp 19))] [(0, .int .i64 ((i : Nat) : Int))] #[.int .i64 ((i : Nat) : Int)] 3 rfl rfl (fun _ => by kernel_rfl) rfl ?_
      intro k1 u41 hk hz hq Q1
      have N_k1 : w.heap.size ≤ k1 := by have := M.size; omega
      replace hM := hM.mo hq
      replace hW := own_mo hW hq
      replace M := M.trans hq
      clear hk hz hq
      refine wl_apI (.tmp 18) (.tmp 20) k1 rfl rfl rfl hW Q1 (by omega) M.size rfl ?_
      intro pv2 cv2 u42 hW2 hK9 hv9
      replace hM := hM.mk hK9 (fun e => hM.nty (own_ty hW e) rfl)
      replace M := own_gap hW hK9 (Nat.le_refl _) M
      clear hK9 hv9
      refine wl_mv (.tmp 21) (.slice pv2 ((ris i (fun n => decide ((lkq al ((n : Nat) : Int)).getD 0 = -1))) ++ [i]).length cv2) (fun _ => rfl) rfl rfl ?_
      refine w_nil ?_
      refine xn_blk ?_
      refine xn_then ?_
      refine w_reg ?_
      refine wl_bin (fun x y => do eqGuard .add 3 (.tmp 11) (.const (.int .i64 (1))) x y; binOp .add 3 x y) (.tmp 11) (.const (.int .i64 (1))) (.int .i64 ((i : Nat) : Int)) (.int .i64 (1)) (.int .i64 ((i + 1 : Nat) : Int)) (fun _ => rfl) e40_11 rfl (add1r (k := i) (by omega) _ _ _) rfl ?_
      refine wl_mv (.tmp 22) (.int .i64 ((i + 1 : Nat) : Int)) (fun _ => rfl) rfl rfl ?_
      refine w_nil ?_
      have hrs : ris (i + 1) (fun n => decide ((lkq al ((n : Nat) : Int)).getD 0 = -1)) = ris i (fun n => decide ((lkq al ((n : Nat) : Int)).getD 0 = -1)) ++ [i] := ris_t (by exact hf30)
      rw [← hrs] at hW2
      exact xn_loop (al.length - (i + 1)) (by omega) ⟨i + 1, pv2, cv2, rfl, e40_3, (by rw [hrs]; rfl), e40_10, rfl, by omega, hM, hW2, M⟩
    | false =>
      have hf30p := of_decide_eq_false hf30
      refine wl_bin (fun x y => do eqGuard .eql 3 (.tmp 16) (.const (.int .i64 (-1))) x y; binOp .eql 3 x y) (.tmp 16) (.const (.int .i64 (-1))) (.int .i64 ((lkq al ((i : Nat) : Int)).getD 0)) (.int .i64 (-1)) (.bool false) (fun _ => rfl) rfl rfl (eq3 hf30 _ _ _) rfl ?_
      refine w_nil ?_
      refine xn_then ?_
      refine w_condF rfl ?_
      refine w_skip ?_
      refine xn_blk ?_
      refine xn_then ?_
      refine w_reg ?_
      refine wl_bin (fun x y => do eqGuard .add 3 (.tmp 11) (.const (.int .i64 (1))) x y; binOp .add 3 x y) (.tmp 11) (.const (.int .i64 (1))) (.int .i64 ((i : Nat) : Int)) (.int .i64 (1)) (.int .i64 ((i + 1 : Nat) : Int)) (fun _ => rfl) e40_11 rfl (add1r (k := i) (by omega) _ _ _) rfl ?_
      refine wl_mv (.tmp 22) (.int .i64 ((i + 1 : Nat) : Int)) (fun _ => rfl) rfl rfl ?_
      refine w_nil ?_
      have hrs : ris (i + 1) (fun n => decide ((lkq al ((n : Nat) : Int)).getD 0 = -1)) = ris i (fun n => decide ((lkq al ((n : Nat) : Int)).getD 0 = -1)) := ris_f (by exact hf30)
      exact xn_loop (al.length - (i + 1)) (by omega) ⟨i + 1, pv, cv, rfl, e40_3, (by rw [hrs]; exact e40_4), e40_10, rfl, by omega, hM, by rw [hrs]; exact hW, M⟩
  | false =>
    have hie : i = nI l := by have := of_decide_eq_false hd2; omega
    rw [hie] at hW
    refine w_seq ?_
    refine w_reg ?_
    refine wl_bin (fun x y => do eqGuard .lss 3 (.tmp 11) (.tmp 10) x y; binOp .lss 3 x y) (.tmp 11) (.tmp 10) (.int .i64 ((i : Nat) : Int)) (.int .i64 ((al.length : Nat) : Int)) (.bool false) (fun _ => rfl) e40_11 e40_10 (ltN hd2 _ _ _) rfl ?_
    refine w_nil ?_
    refine xn_then ?_
    refine w_seq ?_
    refine w_condF rfl ?_
    refine w_exit ?_
    refine xx_then ?_
    refine xx_then ?_
    refine xx_blk ?_
    refine xn_then ?_
    refine w_seq ?_
    refine w_reg ?_
    refine wl_mv (.tmp 4) (.slice pv (ris i (fun n => decide ((lkq al ((n : Nat) : Int)).getD 0 = -1))).length cv) (fun _ => rfl) e40_4 rfl ?_
    refine wl_mv (.tmp 23) (.slice pv (ris i (fun n => decide ((lkq al ((n : Nat) : Int)).getD 0 = -1))).length cv) (fun _ => rfl) rfl rfl ?_
    refine w_nil ?_
    refine xn_then ?_
    refine w_ret ?_
    exact w_ret1 _ (.slice pv (ris i (fun n => decide ((lkq al ((n : Nat) : Int)).getD 0 = -1))).length cv) rfl rfl ⟨(fun n => decide ((lkq al ((n : Nat) : Int)).getD 0 = -1)), pv, cv, (fun n hn => by obtain ⟨v, h1, h2⟩ := hAl n hn; simp only [decide_eq_true_eq, h1, Option.getD_some]; exact ⟨fun e => by rcases h2 with ⟨r, _, q⟩ | ⟨q, _⟩; omega; exact q, fun q => by rcases h2 with ⟨r, h3, _⟩ | ⟨_, e⟩; exact (h3.no q).elim; exact e⟩), by rw [hie], hW, M⟩
end Go.Proofs.Ythghblgbjgghcaa
