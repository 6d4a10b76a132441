/-
  Ranks are found.
-/
import Derived.Test.YthghblgbjgghcaaRka
namespace Go.Proofs.Ythghblgbjgghcaa
open Go.RowKit D
theorem maxI (ρ : Operand → Value) (x y : Operand) (a b : Nat) (hx : ρ x = .int .i64 ((a : Nat) : Int)) (hy : ρ y = .int .i64 ((b : Nat) : Int)) (dst : Option Tmp) (type : TypeId) (pos : String) (after : Array Edge) (guard : Option (Nat × Bool)) (w : World) : (execOp ρ { dst, op := .call { callee := .builtin .max, args := #[x, y], argTypes := #[3, 3] }, type, pos, after, guard }).run Try.prog w = .ok (.value (.int .i64 ((max a b : Nat) : Int))) w := by
  rw [← maxN]
  simp [go_sem, hx, hy]
theorem lenM {al : List (Int × Int)} {b : Nat} (ρ : Operand → Value) (x : Operand) (w : World) (h : Mp ei w b al) (hx : ρ x = .map (some b)) (dst : Option Tmp) (type : TypeId) (pos : String) (after : Array Edge) (guard : Option (Nat × Bool)) : (execOp ρ { dst, op := .call { callee := .builtin .len, args := #[x], argTypes := #[83] }, type, pos, after, guard }).run Try.prog w = .ok (.value (.int .i64 ((al.length : Nat) : Int))) w := by
  obtain ⟨es, c, hb, he⟩ := h
  have hl : es.size = al.length := by have := congrArg List.length he; simpa using this
  simp [go_sem, hx, Builtin.len_, run_underlying Try.underlying83, MapKept.run_getObj_map hb, hl]
theorem Iv.drop {R : List (List Nat)} {al : List (Int × Int)} {n : Nat} {P : List Nat} (h : Iv R al (n :: P)) (hn : ∀ v, lkq al ((n : Nat) : Int) = some v → Rkv R n v) : Iv R al P := fun m v hm => by
  rcases h m v hm with ⟨q1, q2⟩ | q
  · rcases List.mem_cons.1 q1 with e | e
    · subst e; exact Or.inr (hn v hm)
    · exact Or.inl ⟨e, q2⟩
  · exact Or.inr q
theorem Iv.put {R : List (List Nat)} {al : List (Int × Int)} {n : Nat} {P : List Nat} {v : Int} (h : Iv R al P) (hv : (n ∈ P ∧ v = -1) ∨ Rkv R n v) : Iv R (putq al ((n : Nat) : Int) v) P := fun m u hm => by
  rw [lkq_put] at hm
  by_cases e : ((n : Nat) : Int) = ((m : Nat) : Int)
  · rw [if_pos e] at hm
    have : n = m := by omega
    subst this; cases hm; exact hv
  · rw [if_neg e] at hm; exact h m u hm
theorem Iv.mono {R : List (List Nat)} {al : List (Int × Int)} {P Q : List Nat} (h : Iv R al P) (hs : ∀ x ∈ P, x ∈ Q) : Iv R al Q := fun m v hm => by
  rcases h m v hm with ⟨q1, q2⟩ | q
  · exact Or.inl ⟨hs m q1, q2⟩
  · exact Or.inr q
theorem rank_n {V : List Iz} {R : List (List Nat)} {kM kR kG mb ka : Nat} (hV : V.map Iz.L = R) (hR : Rin R) (hz : R.length < 400000) (hlen : ∀ x ∈ V, x.L.length ≤ R.length) : ∀ (k : Nat) {al : List (Int × Int)} {P : List Nat} {n : Nat} {w : World}, und R.length al ≤ k → n < R.length → Ks V kM kR kG mb ka w al → Iv R al P → Cn R.length al → (∀ p ∈ P, Rch R p n) → Calls Try.prog 64 #[.int .i64 ((n : Nat) : Int), pt kM 0, pt kR 0, pt kG 0] w fun e w' => ∃ v al', e = .returned (.int .i64 v) ∧ Rkv R n v ∧ Ks V kM kR kG mb ka w' al' ∧ Iv R al' P ∧ Cn R.length al' ∧ Mk (fun j => j = mb) w w' ∧ (∀ m u, lkq al m = some u → lkq al' m = some u) ∧ (lkq al' ((n : Nat) : Int)).isSome = true := by
  intro k
  induction k using Nat.strongRecOn with
  | ind k ih0 =>
  intro al P n w hk hn hK hI hC hP
  have hVl : V.length = R.length := by rw [← hV]; simp
  obtain ⟨x, hx⟩ := get_of_lt (show n < V.length by omega)
  have hxm := List.mem_of_getElem? hx
  have hxL : row R n = x.L := row_eq (by rw [← hV, List.getElem?_map, hx]; rfl)
  have hxz : x.L.length < 4000000 := by
    exact Nat.lt_of_le_of_lt (hlen x hxm) (by omega)
  have a_M := hK.aM
  have a_R := hK.aR
  have a_G := hK.aG
  refine w_enter 45 Try.func64 Try.ntmps64 rfl rfl ?_
  have M : Mo w w := Mo.refl _
  refine w_seq ?_
  refine w_reg ?_
  refine wl_mv (.const (.int .i64 (0))) (.int .i64 (0)) (fun _ => rfl) rfl rfl ?_
  refine w_nil ?_
  refine xn_then ?_
  refine w_seq ?_
  refine w_seq ?_
  refine w_reg ?_
  refine wl_load 83 (.tmp 1) (pt kM 0) (.map (some mb)) rfl rfl (run_one a_M 83 0 rfl Try.underlying83 rfl) rfl ?_
  refine wl_mv (.tmp 0) (.int .i64 ((n : Nat) : Int)) (fun _ => rfl) rfl rfl ?_
  cases hf0 : (lkq al ((n : Nat) : Int)).isSome with
  | true =>
    refine wl_val (.tuple #[.int .i64 ((lkq al ((n : Nat) : Int)).getD 0), .bool true]) (lkp 83 (.tmp 13) (.tmp 14) true (.map (some mb)) (.int .i64 ((n : Nat) : Int)) (.tuple #[.int .i64 ((lkq al ((n : Nat) : Int)).getD 0), .bool true]) rfl rfl rfl ((hK.mp.mo M).looks kt3 Try.underlying83 ((n : Nat) : Int) hf0)) rfl ?_
    refine wl_mv (.tmp 15) (.tuple #[.int .i64 ((lkq al ((n : Nat) : Int)).getD 0), .bool true]) (fun _ => rfl) rfl rfl ?_
    refine wl_un (fun v => Instr.extract v 0) (.tmp 12) (.tuple #[.int .i64 ((lkq al ((n : Nat) : Int)).getD 0), .bool true]) (.int .i64 ((lkq al ((n : Nat) : Int)).getD 0)) (fun _ => rfl) rfl (by kernel_rfl) rfl ?_
    refine wl_un (fun v => Instr.extract v 1) (.tmp 12) (.tuple #[.int .i64 ((lkq al ((n : Nat) : Int)).getD 0), .bool true]) (.bool true) (fun _ => rfl) rfl (by kernel_rfl) rfl ?_
    refine wl_mv (.tmp 16) (.int .i64 ((lkq al ((n : Nat) : Int)).getD 0)) (fun _ => rfl) rfl rfl ?_
    refine wl_mv (.tmp 17) (.bool true) (fun _ => rfl) rfl rfl ?_
    refine w_nil ?_
    refine xn_then ?_
    refine w_seq ?_
    refine w_reg ?_
    refine wl_mv (.tmp 7) (.bool true) (fun _ => rfl) rfl rfl ?_
    refine w_nil ?_
    refine xn_then ?_
    refine w_condT rfl ?_
    refine w_seq ?_
    refine w_reg ?_
    refine wl_mv (.tmp 6) (.int .i64 ((lkq al ((n : Nat) : Int)).getD 0)) (fun _ => rfl) rfl rfl ?_
    refine wl_mv (.tmp 19) (.int .i64 ((lkq al ((n : Nat) : Int)).getD 0)) (fun _ => rfl) rfl rfl ?_
    refine w_nil ?_
    refine xn_then ?_
    refine w_ret ?_
    refine xr_then ?_
    exact w_ret1 _ (.int .i64 ((lkq al ((n : Nat) : Int)).getD 0)) rfl rfl (by obtain ⟨v, hv⟩ := Option.isSome_iff_exists.1 hf0; exact ⟨_, al, rfl, (by rw [hv]; rcases hI n v hv with ⟨q1, q2⟩ | q; (exact Or.inr ⟨(hP n q1).self, q2⟩); exact q), hK.mo M, hI, hC, Mk.of _ M, fun m u hm => hm, hf0⟩)
  | false =>
    refine wl_val (.tuple #[.int .i64 ((lkq al ((n : Nat) : Int)).getD 0), .bool false]) (lkp 83 (.tmp 13) (.tmp 14) true (.map (some mb)) (.int .i64 ((n : Nat) : Int)) (.tuple #[.int .i64 ((lkq al ((n : Nat) : Int)).getD 0), .bool false]) rfl rfl rfl ((hK.mp.mo M).looks kt3 Try.underlying83 ((n : Nat) : Int) hf0)) rfl ?_
    refine wl_mv (.tmp 15) (.tuple #[.int .i64 ((lkq al ((n : Nat) : Int)).getD 0), .bool false]) (fun _ => rfl) rfl rfl ?_
    refine wl_un (fun v => Instr.extract v 0) (.tmp 12) (.tuple #[.int .i64 ((lkq al ((n : Nat) : Int)).getD 0), .bool false]) (.int .i64 ((lkq al ((n : Nat) : Int)).getD 0)) (fun _ => rfl) rfl (by kernel_rfl) rfl ?_
    refine wl_un (fun v => Instr.extract v 1) (.tmp 12) (.tuple #[.int .i64 ((lkq al ((n : Nat) : Int)).getD 0), .bool false]) (.bool false) (fun _ => rfl) rfl (by kernel_rfl) rfl ?_
    refine wl_mv (.tmp 16) (.int .i64 ((lkq al ((n : Nat) : Int)).getD 0)) (fun _ => rfl) rfl rfl ?_
    refine wl_mv (.tmp 17) (.bool false) (fun _ => rfl) rfl rfl ?_
    refine w_nil ?_
    refine xn_then ?_
    refine w_seq ?_
    refine w_reg ?_
    refine wl_mv (.tmp 7) (.bool false) (fun _ => rfl) rfl rfl ?_
    refine w_nil ?_
    refine xn_then ?_
    refine w_condF rfl ?_
    refine w_skip ?_
    refine xn_then ?_
    refine w_seq ?_
    refine w_reg ?_
    refine wl_load 83 (.tmp 1) (pt kM 0) (.map (some mb)) rfl rfl (run_one a_M 83 0 rfl Try.underlying83 rfl) rfl ?_
    refine wl_mv (.tmp 0) (.int .i64 ((n : Nat) : Int)) (fun _ => rfl) rfl rfl ?_
    refine wl_mupq (al := al) (.tmp 20) (.tmp 21) (.const (.int .i64 (-1))) ((n : Nat) : Int) (-1) (hK.mo M).mp kt3 Try.underlying83 rfl rfl rfl rfl rfl rfl ?_
    intro u1 hm9 hK9
    have hK1 := (hK.mo M).put hK9 hm9
    have hMK := (Mk.of (fun j => j = mb) M).same hK9
    have hno : lkq al ((n : Nat) : Int) = none := by rw [Option.isSome_eq_false_iff, Option.isNone_iff_eq_none] at hf0; exact hf0
    have hI1 : Iv R (putq al ((n : Nat) : Int) (-1)) (n :: P) := (hI.mono (fun x hx => List.mem_cons_of_mem _ hx)).put (Or.inl ⟨List.mem_cons_self .., rfl⟩)
    have hC1 : Cn R.length (putq al ((n : Nat) : Int) (-1)) := hC.new hn hno
    have hu1 := und_put (v := -1) hn hno
    have hE1 : ∀ m u, lkq al m = some u → lkq (putq al ((n : Nat) : Int) (-1)) m = some u := fun m u hm => by rw [lkq_put]; by_cases e : ((n : Nat) : Int) = m; (rw [← e, hno] at hm; cases hm); (rw [if_neg e]; exact hm)
    clear a_M
    clear a_R
    clear a_G
    clear hK9 hm9
    clear M
    have M : Mo u1 u1 := Mo.refl _
    have a_M := hK1.aM
    have a_R := hK1.aR
    have a_G := hK1.aG
    refine w_nil ?_
    refine xn_then ?_
    refine w_seq ?_
    refine w_reg ?_
    refine wl_mv (.const (.int .i64 (0))) (.int .i64 (0)) (fun _ => rfl) rfl rfl ?_
    refine w_nil ?_
    refine xn_then ?_
    refine w_seq ?_
    refine w_seq ?_
    have hsl := hK1.sl (by unfold maxLen; omega)
    have hnV : n < V.length := by omega
    obtain ⟨bp, op, hpp, hRp⟩ := D.SL.rw hsl hx
    refine w_reg ?_
    refine wl_load 79 (.tmp 2) (pt kR 0) (.slice (some ⟨ka, 0, none⟩) V.length V.length) rfl rfl (run_one a_R 79 0 rfl Try.underlying79 rfl) rfl ?_
    refine wl_mv (.tmp 0) (.int .i64 ((n : Nat) : Int)) (fun _ => rfl) rfl rfl ?_
    refine wl_bin (fun x y => Instr.indexAt 79 x y) (.tmp 22) (.tmp 23) (.slice (some ⟨ka, 0, none⟩) V.length V.length) (.int .i64 ((n : Nat) : Int)) (pt bp (op + n * 1)) (fun _ => rfl) rfl rfl (ix79 (i := n) hpp hnV _) rfl ?_
    refine wl_load 32 (.tmp 24) (pt bp (op + n * 1)) (.slice x.pa x.L.length x.cap) rfl rfl (D.run_oneR (hRp.mo M).at' 32 0 rfl Try.underlying32 rfl) rfl ?_
    refine wl_val (.int .i64 ((x.L.length : Nat) : Int)) (len32 _ _ _ _ _ (by exact rfl) _ _ _ _ _ _) rfl ?_
    refine wl_mv (.const (.int .i64 (0))) (.int .i64 (0)) (fun _ => rfl) rfl rfl ?_
    refine w_nil ?_
    refine xn_then ?_
    refine w_block ?_
    clear a_M
    clear a_R
    clear a_G
    refine w_loop (fun m lf w1 => ∃ i : Nat, ∃ al2 : List (Int × Int), ∃ bb : Nat, m = x.L.length - i ∧ look lf 0 = .int .i64 ((n : Nat) : Int) ∧ look lf 1 = pt kM 0 ∧ look lf 3 = pt kG 0 ∧ look lf 8 = .int .i64 ((bb : Nat) : Int) ∧ look lf 25 = .slice x.pa x.L.length x.cap ∧ look lf 26 = .int .i64 ((x.L.length : Nat) : Int) ∧ look lf 27 = .int .i64 ((i : Nat) : Int) ∧ (i ≤ x.L.length) ∧ (Ks V kM kR kG mb ka w1 al2) ∧ (Iv R al2 (n :: P)) ∧ (Cn R.length al2) ∧ (Mk (fun j => j = mb) w w1) ∧ (∀ m u, lkq (putq al ((n : Nat) : Int) (-1)) m = some u → lkq al2 m = some u) ∧ (Lst R (x.L.take i) bb)) _ ⟨0, _, 0, rfl, rfl, rfl, rfl, rfl, rfl, rfl, rfl, Nat.zero_le _, hK1.mo M, hI1, hC1, hMK.trans M, (fun m u hm => hm), Lst.nil R⟩ ?_
    clear hK1 hI1 hC1 hMK M
    rintro m lf40 wl40 ⟨i, al2, bb, rfl, e40_0, e40_1, e40_3, e40_8, e40_25, e40_26, e40_27, hi, hK2, hI2, hC2, hMK, hE2, hLs⟩
    have M : Mo wl40 wl40 := Mo.refl _
    cases hd2 : decide (i < x.L.length) with
    | true =>
      have hil := of_decide_eq_true hd2
      obtain ⟨mm, hmm⟩ := get_of_lt hil
      have hmr : mm ∈ row R n := by rw [hxL]; exact List.mem_of_getElem? hmm
      have hml := hR.row hmr
      have a_M := hK2.aM
      have a_R := hK2.aR
      have a_G := hK2.aG
      have hli := hK2.li x hxm
      obtain ⟨bu, ou, hpu, hRu⟩ := D.SL.rw hli.sl hmm
      refine w_seq ?_
      refine w_reg ?_
      refine wl_bin (fun x y => do eqGuard .lss 3 (.tmp 27) (.tmp 26) x y; binOp .lss 3 x y) (.tmp 27) (.tmp 26) (.int .i64 ((i : Nat) : Int)) (.int .i64 ((x.L.length : Nat) : Int)) (.bool true) (fun _ => rfl) e40_27 e40_26 (ltN hd2 _ _ _) rfl ?_
      refine w_nil ?_
      refine xn_then ?_
      refine w_seq ?_
      refine w_condT rfl ?_
      refine w_skip ?_
      refine xn_then ?_
      refine w_seq ?_
      refine w_block ?_
      refine w_seq ?_
      refine w_reg ?_
      refine wl_bin (fun x y => Instr.indexAt 32 x y) (.tmp 25) (.tmp 27) (.slice x.pa x.L.length x.cap) (.int .i64 ((i : Nat) : Int)) (pt bu (ou + i * 1)) (fun _ => rfl) e40_25 e40_27 (ix32 (i := i) hpu hil _) rfl ?_
      refine wl_load 3 (.tmp 29) (pt bu (ou + i * 1)) (.int .i64 ((mm : Nat) : Int)) rfl rfl (D.run_oneR (hRu.mo M).at' 3 0 rfl Try.underlying3 rfl) rfl ?_
      refine wl_mv (.tmp 30) (.int .i64 ((mm : Nat) : Int)) (fun _ => rfl) rfl rfl ?_
      refine w_nil ?_
      refine xn_then ?_
      refine w_seq ?_
      refine w_reg ?_
      refine wl_load 115 (.tmp 3) (pt kG 0) (.func (.func 64) #[] #[pt kM 0, pt kR 0, pt kG 0]) rfl e40_3 (run_one a_G 115 0 rfl Try.underlying115 rfl) rfl ?_
      refine wl_mv (.tmp 10) (.int .i64 ((mm : Nat) : Int)) (fun _ => rfl) rfl rfl ?_
      refine wl_callv 64 (.tmp 31) #[] #[pt kM 0, pt kR 0, pt kG 0] [(.tmp 32)] _ [.int .i64 ((mm : Nat) : Int)] [.int .i64 ((mm : Nat) : Int), pt kM 0, pt kR 0, pt kG 0] rfl rfl rfl rfl (fun _ _ => by kernel_rfl) (ih0 (und R.length al2) (by have := und_le (N := R.length) hE2; omega) (Nat.le_refl _) hml (hK2.mo M) hI2 hC2 (fun p hp => by rcases List.mem_cons.1 hp with rfl | q; exact Rch.one hmr; exact (hP p q).snoc hmr)) rfl ?_
      rintro e9 u41 ⟨rv, al3, rfl, hrv, hK3, hI3, hC3, hm3, hE3, hS3⟩
      refine ⟨_, rfl, ?_⟩
      have hMK2 := (hMK.trans M).same hm3
      clear a_M
      clear a_R
      clear a_G
      clear M
      have M : Mo u41 u41 := Mo.refl _
      refine wl_mv (.tmp 33) (.int .i64 (rv)) (fun _ => rfl) rfl rfl ?_
      refine w_nil ?_
      refine xn_then ?_
      refine w_seq ?_
      refine w_seq ?_
      rcases hrv with ⟨rr, hrr, rfl⟩ | ⟨hrN, rfl⟩
      · skip
        have hrl := hrr.lt hR
        have hrn1 : decide (((rr : Nat) : Int) = -1) = false := decide_eq_false (by omega)
        refine w_reg ?_
        refine wl_mv (.tmp 11) (.int .i64 ((rr : Nat) : Int)) (fun _ => rfl) rfl rfl ?_
        refine wl_bin (fun x y => do eqGuard .eql 3 (.tmp 34) (.const (.int .i64 (-1))) x y; binOp .eql 3 x y) (.tmp 34) (.const (.int .i64 (-1))) (.int .i64 ((rr : Nat) : Int)) (.int .i64 (-1)) (.bool false) (fun _ => rfl) rfl rfl (eq3 hrn1 _ _ _) rfl ?_
        refine w_nil ?_
        refine xn_then ?_
        refine w_condF rfl ?_
        refine w_skip ?_
        refine xn_then ?_
        refine w_reg ?_
        refine wl_mv (.tmp 8) (.int .i64 ((bb : Nat) : Int)) (fun _ => rfl) e40_8 rfl ?_
        refine wl_mv (.tmp 11) (.int .i64 ((rr : Nat) : Int)) (fun _ => rfl) rfl rfl ?_
        refine wl_bin (fun x y => do eqGuard .add 3 (.tmp 37) (.const (.int .i64 (1))) x y; binOp .add 3 x y) (.tmp 37) (.const (.int .i64 (1))) (.int .i64 ((rr : Nat) : Int)) (.int .i64 (1)) (.int .i64 ((rr + 1 : Nat) : Int)) (fun _ => rfl) rfl rfl (add1r (k := rr) (by omega) _ _ _) rfl ?_
        refine wl_val (.int .i64 ((max (bb) (rr + 1) : Nat) : Int)) (maxI _ _ _ (bb) (rr + 1) (by exact rfl) (by exact rfl) _ _ _ _ _ _) rfl ?_
        refine wl_mv (.tmp 39) (.int .i64 ((max (bb) (rr + 1) : Nat) : Int)) (fun _ => rfl) rfl rfl ?_
        refine w_nil ?_
        refine xn_blk ?_
        refine xn_then ?_
        refine w_reg ?_
        refine wl_bin (fun x y => do eqGuard .add 3 (.tmp 27) (.const (.int .i64 (1))) x y; binOp .add 3 x y) (.tmp 27) (.const (.int .i64 (1))) (.int .i64 ((i : Nat) : Int)) (.int .i64 (1)) (.int .i64 ((i + 1 : Nat) : Int)) (fun _ => rfl) e40_27 rfl (add1r (k := i) (by omega) _ _ _) rfl ?_
        refine wl_mv (.tmp 40) (.int .i64 ((i + 1 : Nat) : Int)) (fun _ => rfl) rfl rfl ?_
        refine w_nil ?_
        exact xn_loop (x.L.length - (i + 1)) (by omega) ⟨i + 1, al3, max (bb) (rr + 1), rfl, e40_0, e40_1, e40_3, rfl, e40_25, e40_26, rfl, by omega, hK3.mo M, hI3, hC3, hMK2.trans M, (fun m u hm => hE3 m u (hE2 m u hm)), by rw [List.take_add_one, hmm]; exact hLs.more hrr⟩
      · skip
        have hnN := hrN.read hmr
        have hsn : lkq al3 ((n : Nat) : Int) = some (-1) := hE3 _ _ (hE2 _ _ (by rw [lkq_put, if_pos rfl]))
        refine w_reg ?_
        refine wl_mv (.tmp 11) (.int .i64 (-1)) (fun _ => rfl) rfl rfl ?_
        refine wl_bin (fun x y => do eqGuard .eql 3 (.tmp 34) (.const (.int .i64 (-1))) x y; binOp .eql 3 x y) (.tmp 34) (.const (.int .i64 (-1))) (.int .i64 (-1)) (.int .i64 (-1)) (.bool true) (fun _ => rfl) rfl rfl (eq3 (r := true) rfl _ _ _) rfl ?_
        refine w_nil ?_
        refine xn_then ?_
        refine w_condT rfl ?_
        refine w_seq ?_
        refine w_reg ?_
        refine wl_mv (.const (.int .i64 (-1))) (.int .i64 (-1)) (fun _ => rfl) rfl rfl ?_
        refine w_nil ?_
        refine xn_then ?_
        refine w_ret ?_
        refine xr_then ?_
        refine xr_blk ?_
        refine xr_then ?_
        refine xr_then ?_
        refine xr_blk ?_
        refine xr_then ?_
        exact w_ret1 _ (.int .i64 (-1)) rfl rfl ⟨_, _, rfl, Or.inr ⟨hnN, rfl⟩, hK3.mo M, hI3.drop (fun v hv => by rw [hsn] at hv; cases hv; exact Or.inr ⟨hnN, rfl⟩), hC3, hMK2.trans M, fun m u hm => hE3 m u (hE2 m u (hE1 m u hm)), by rw [hsn]; rfl⟩
    | false =>
      have hie : i = x.L.length := by have := of_decide_eq_false hd2; omega
      rw [hie, List.take_length, ← hxL] at hLs
      have hrn := hLs.all
      have hbl := hrn.lt hR
      have a_M := hK2.aM
      have a_R := hK2.aR
      have a_G := hK2.aG
      have hsn : (lkq al2 ((n : Nat) : Int)).isSome = true := by rw [hE2 ((n : Nat) : Int) (-1) (by rw [lkq_put, if_pos rfl])]; rfl
      refine w_seq ?_
      refine w_reg ?_
      refine wl_bin (fun x y => do eqGuard .lss 3 (.tmp 27) (.tmp 26) x y; binOp .lss 3 x y) (.tmp 27) (.tmp 26) (.int .i64 ((i : Nat) : Int)) (.int .i64 ((x.L.length : Nat) : Int)) (.bool false) (fun _ => rfl) e40_27 e40_26 (ltN hd2 _ _ _) rfl ?_
      refine w_nil ?_
      refine xn_then ?_
      refine w_seq ?_
      refine w_condF rfl ?_
      refine w_exit ?_
      refine xx_then ?_
      refine xx_then ?_
      refine xx_blk ?_
      refine xn_then ?_
      refine w_seq ?_
      refine w_reg ?_
      refine wl_load 83 (.tmp 1) (pt kM 0) (.map (some mb)) rfl e40_1 (run_one a_M 83 0 rfl Try.underlying83 rfl) rfl ?_
      refine wl_mv (.tmp 0) (.int .i64 ((n : Nat) : Int)) (fun _ => rfl) e40_0 rfl ?_
      refine wl_mv (.tmp 8) (.int .i64 ((bb : Nat) : Int)) (fun _ => rfl) e40_8 rfl ?_
      refine wl_mupq (al := al2) (.tmp 41) (.tmp 42) (.tmp 43) ((n : Nat) : Int) ((bb : Nat) : Int) (hK2.mo M).mp kt3 Try.underlying83 rfl rfl rfl rfl rfl rfl ?_
      intro u41 hm9 hK9
      have hK3 := (hK2.mo M).put hK9 hm9
      have hMK3 := (hMK.trans M).same hK9
      refine w_nil ?_
      refine xn_then ?_
      refine w_seq ?_
      refine w_reg ?_
      refine wl_mv (.tmp 8) (.int .i64 ((bb : Nat) : Int)) (fun _ => rfl) e40_8 rfl ?_
      refine wl_mv (.tmp 44) (.int .i64 ((bb : Nat) : Int)) (fun _ => rfl) rfl rfl ?_
      refine w_nil ?_
      refine xn_then ?_
      refine w_ret ?_
      exact w_ret1 _ (.int .i64 ((bb : Nat) : Int)) rfl rfl ⟨_, _, rfl, Or.inl ⟨bb, hrn, rfl⟩, hK3.mo (Mo.refl _), (hI2.put (Or.inr (Or.inl ⟨bb, hrn, rfl⟩))).drop (fun v hv => by rw [lkq_put, if_pos rfl] at hv; cases hv; exact Or.inl ⟨bb, hrn, rfl⟩), hC2.old hsn, hMK3, fun m u hm => by rw [lkq_put]; by_cases e : ((n : Nat) : Int) = m; (rw [← e, hno] at hm; cases hm); (rw [if_neg e]; exact hE2 m u (hE1 m u hm)), by rw [lkq_put, if_pos rfl]; rfl⟩
end Go.Proofs.Ythghblgbjgghcaa
