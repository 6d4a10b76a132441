/-
  An item by its name, in a section or around it.
-/
import Derived.Test.YtepfokoepibkcaaGreatK2
import Derived.Laws.MakeOwn
namespace Go.Proofs.YtepfokoepibkcaaGreat
open Go.RowKit D
/-- Each section's parent comes ahead of it. -/
def Wf (L : List S5) : Prop := ∀ (i : Nat) (x : S5), L[i]? = some x → x.pr < i ∧ -1 ≤ x.pr
def pIt (nm : ByteArray) (y : It) : Bool := decide (y.nm = nm) && cbr y.k
/-- Find, from the section below a number. -/
def fnF (L : List S5) (nm : ByteArray) : Nat → Option (Nat × Nat)
  | 0 => none
  | n + 1 => match L[n]? with
    | none => none
    | some x => match x.items.findIdx? (pIt nm) with
      | some i => some (n, i)
      | none => fnF L nm (min n (x.pr + 1).toNat)
theorem fnF_hit {L : List S5} {nm : ByteArray} {k i : Nat} {x : S5} (hx : L[k]? = some x) (hi : x.items.findIdx? (pIt nm) = some i) : fnF L nm (k + 1) = some (k, i) := by rw [fnF]; simp only [hx, hi]
theorem fnF_up {L : List S5} {nm : ByteArray} {k : Nat} {x : S5} (hW : Wf L) (hx : L[k]? = some x) (hi : x.items.findIdx? (pIt nm) = none) : fnF L nm (k + 1) = fnF L nm (x.pr + 1).toNat := by
  have h := hW k x hx
  rw [fnF]; simp only [hx, hi]
  rw [Nat.min_eq_right (by omega)]
abbrev fnv (r : Option (Nat × Nat)) : Value := .tuple #[.int .i64 (((r.getD (0, 0)).1 : Nat) : Int), .int .i64 (((r.getD (0, 0)).2 : Nat) : Int), .bool r.isSome]
theorem inf4 : ∃ i, Tryz.prog.info? 4 = some i ∧ i.zero = some (.bool false) ∧ i.size = 1 ∧ i.bytes = 1 := by
  have h : (Tryz.prog.info? 4).map (fun i => (i.zero, i.size, i.bytes)) = some (some (.bool false), 1, 1) := by kernel_rfl
  cases hi : Tryz.prog.info? 4 with
  | none => rw [hi] at h; cases h
  | some i =>
    rw [hi] at h
    simp at h
    exact ⟨i, rfl, h.1, h.2.1, h.2.2⟩
theorem ix188 {pa : Option Addr} {b off i n c : Nat} (hp : pa = some ⟨b, off, none⟩) (h : i < n) (w : World) : (Instr.indexAt 188 (.slice pa n c) (.int .i64 (i : Int))).run Tryz.prog w = .ok (pt b (off + i * 1)) w := by
  subst hp
  have e : (Instr.indexAt 188 (.slice (some ⟨b, off, none⟩) n c) (.int .i64 (i : Int))).run Tryz.prog w = .ok (.pointer (some ((⟨b, off, none⟩ : Addr).add (i * 1)))) w := by simp [go_sem, h]
  rw [e, Addr.add_mid]
section
variable {o : Oper} {n : Nat} {l : List (Nat × Value)} {w : World} {ops : Array Oper} {rest : List Oper} {Q : Exit → Act → World → Prop}
theorem wl_mkb (x : Operand) (q : Nat) (hq : q ≤ 4000000) (ho : o.op = .makeSlice 188 x x) (hx : evl n l x = .int .i64 (q : Int)) (hg : wnt n l ops o = true)
    (hk : ∀ k w' vs, w.heap.size = k → Mo w w' → At w' k vs → vs.length = q → (∀ j, j < q → vs[j]? = some (.bool false)) → WL Tryz.prog ops Q rest n (ext l o.dst (.slice (some ⟨k, 0, none⟩) q q)) w') : WL Tryz.prog ops Q (o :: rest) n l w := by
  obtain ⟨i, hi, hz, hs, hb⟩ := inf4
  have hr := run_make (P := Tryz.prog) w 188 4 i _ Tryz.underlying188 hi hz .i64 .i64 q q (by omega) (by omega) (by rw [hb]; omega) (by omega)
  simp only [Int.toNat_natCast, hs, Nat.mul_one] at hr
  refine ⟨l_step hg (o_val (.slice (some ⟨w.heap.size, 0, none⟩) q q) (w' := w.alloc (.cells (madeCells (Value.cells (.bool false)) q) 4)) (by simp [execOp, ho, hx, hr]) (hk _ _ (madeCells (Value.cells (.bool false)) q).toList rfl ((Mo.refl _).alloc _ _) (At.new w _ 4) (by simp [size_madeCells]) (fun j hj => ?_)).out)⟩
  have e : (madeCells (Value.cells (.bool false)) q).toList[j]? = some ((Value.cells (.bool false))[j % 1]!) := by simp [madeCells, hj]; rfl
  rw [e, Nat.mod_one]; rfl
end
section
variable {P : Program} {n : Nat} {l : List (Nat × Value)} {w : World}
theorem w_ret3 {fn : Func} {R : Ending → World → Prop} (x y z : ResultVar) (v u s : Value) (hf : fn.results = #[x, y, z]) (h : resv n l P w v x) (g : resv n l P w u y) (k : resv n l P w s z) (hR : R (.returned (.tuple #[v, u, s])) w) : WX (bodyPost P fn R) .ret n l w := by
  refine ⟨bodyPost_ret (v := .tuple #[v, u, s]) ?_ rfl hR⟩
  cases x with
  | cell a t => cases y <;> cases z <;> first | (obtain ⟨_, h1, h2⟩ := resv_cell h; first | (have g1 := resv_tmp g; first | (have k1 := resv_tmp k; simp [results, hf, h1, h2, g1, k1, asAddr]) | (obtain ⟨_, k1, k2⟩ := resv_cell k; simp [results, hf, h1, h2, g1, k1, k2, asAddr])) | (obtain ⟨_, g1, g2⟩ := resv_cell g; first | (have k1 := resv_tmp k; simp [results, hf, h1, h2, g1, g2, k1, asAddr]) | (obtain ⟨_, k1, k2⟩ := resv_cell k; simp [results, hf, h1, h2, g1, g2, k1, k2, asAddr])))
  | tmp t => cases y <;> cases z <;> first | (have h1 := resv_tmp h; first | (have g1 := resv_tmp g; first | (have k1 := resv_tmp k; simp [results, hf, h1, g1, k1]) | (obtain ⟨_, k1, k2⟩ := resv_cell k; simp [results, hf, h1, g1, k1, k2, asAddr])) | (obtain ⟨_, g1, g2⟩ := resv_cell g; first | (have k1 := resv_tmp k; simp [results, hf, h1, g1, g2, k1, asAddr]) | (obtain ⟨_, k1, k2⟩ := resv_cell k; simp [results, hf, h1, g1, g2, k1, k2, asAddr])))
end
theorem sn_set {w : World} {kS k q : Nat} {vs : List Value} (h : At w kS (vs.take (0 + k * 1) ++ [.bool true] ++ vs.drop (0 + k * 1 + 1))) (hl : vs.length = q) (hk : k < q) (hf : ∀ j, j < k + 1 → vs[j]? = some (.bool false)) : ∃ vs2, At w kS vs2 ∧ vs2.length = q ∧ ∀ j, j < k → vs2[j]? = some (.bool false) := by
  refine ⟨_, h, by simp; omega, fun j hj => ?_⟩
  rw [List.append_assoc, List.getElem?_append_left (by simp; omega), List.getElem?_take, if_pos (by omega)]
  exact hf j (by omega)
theorem find_s {pa : Option Addr} {c : Nat} {L : List S5} {w : World} (hS : SL w 5 S5.cells pa L) (hI : ∀ x ∈ L, SL w 23 It.cells x.pi x.items) (hW : Wf L) (hn : L.length ≤ 4000000) (s : Nat) (hs : s < L.length) (nm : ByteArray) : Calls Tryz.prog 122 #[.slice pa L.length c, .int .i64 ((s : Nat) : Int), .string nm] w fun e w' => e = .returned (fnv (fnF L nm (s + 1))) ∧ Mo w w' := by
  refine w_enter 66 Tryz.func122 Tryz.ntmps122 rfl rfl ?_
  have M : Mo w w := Mo.refl _
  refine w_seq ?_
  refine w_reg ?_
  refine wl_mv (.const (.int .i64 (0))) (.int .i64 (0)) (fun _ => rfl) rfl rfl ?_
  refine wl_mv (.const (.int .i64 (0))) (.int .i64 (0)) (fun _ => rfl) rfl rfl ?_
  refine wl_mv (.const (.bool false)) (.bool false) (fun _ => rfl) rfl rfl ?_
  refine w_nil ?_
  refine xn_then ?_
  refine w_seq ?_
  refine w_reg ?_
  refine wl_mv (.tmp 0) (.slice pa L.length c) (fun _ => rfl) rfl rfl ?_
  refine wl_val (.int .i64 ((L.length : Nat) : Int)) (len37 _ _ _ _ _ (by exact rfl) _ _ _ _ _ _) rfl ?_
  refine wl_mkb (.tmp 13) L.length hn rfl rfl rfl ?_
  intro kS u1 vs hk hq aS hvl hvf
  have N_kS : w.heap.size ≤ kS := by have := M.size; omega
  replace M := M.trans hq
  clear hk hq
  refine wl_mv (.tmp 14) (.slice (some ⟨kS, 0, none⟩) L.length L.length) (fun _ => rfl) rfl rfl ?_
  refine w_nil ?_
  refine xn_then ?_
  refine w_seq ?_
  refine w_block ?_
  refine w_loop (fun m l w1 => ∃ (a : Int) (vs : List Value), m = (a + 1).toNat ∧ -1 ≤ a ∧ a < L.length ∧ look l 0 = .slice pa L.length c ∧ look l 1 = .int .i64 a ∧ look l 2 = .string nm ∧ look l 9 = .slice (some ⟨kS, 0, none⟩) L.length L.length ∧ At w1 kS vs ∧ vs.length = L.length ∧ (∀ j : Nat, j < (a + 1).toNat → vs[j]? = some (.bool false)) ∧ fnF L nm (s + 1) = fnF L nm (a + 1).toNat ∧ Mo w w1) _ ⟨(s : Int), vs, rfl, by omega, by omega, rfl, rfl, rfl, rfl, aS, hvl, fun j hj => hvf j (by omega), rfl, M⟩ ?_
  clear aS M hvl hvf vs
  rintro m l wl ⟨a, vs, rfl, ha0, ha1, e0, e1, e2, e9, aS, hvl, hvf, hT, M⟩
  rcases Int.lt_or_le a 0 with h0 | h0
  · skip
    have h0d : decide (0 ≤ a) = false := decide_eq_false (by omega)
    refine w_seq ?_
    refine w_seq ?_
    refine w_reg ?_
    refine wl_mv (.tmp 1) (.int .i64 (a)) (fun _ => rfl) e1 rfl ?_
    refine wl_bin (fun x y => do eqGuard .geq 3 (.tmp 15) (.const (.int .i64 (0))) x y; binOp .geq 3 x y) (.tmp 15) (.const (.int .i64 (0))) (.int .i64 (a)) (.int .i64 (0)) (.bool false) (fun _ => rfl) rfl rfl (ge3 h0d _ _ _) rfl ?_
    refine wl_mv (.tmp 16) (.bool false) (fun _ => rfl) rfl rfl ?_
    refine wl_skip rfl ?_
    refine wl_skip rfl ?_
    refine wl_skip rfl ?_
    refine wl_skip rfl ?_
    refine wl_pick (.tmp 17) (.tmp 21) (.const (.bool false)) false (.bool false) (fun _ => rfl) rfl rfl rfl ?_
    refine wl_mv (.tmp 22) (.bool false) (fun _ => rfl) rfl rfl ?_
    refine wl_skip rfl ?_
    refine wl_skip rfl ?_
    refine wl_skip rfl ?_
    refine wl_skip rfl ?_
    refine wl_skip rfl ?_
    refine wl_pick (.tmp 23) (.tmp 28) (.const (.bool false)) false (.bool false) (fun _ => rfl) rfl rfl rfl ?_
    refine w_nil ?_
    refine xn_then ?_
    refine w_condF rfl ?_
    refine w_exit ?_
    refine xx_then ?_
    refine xx_then ?_
    refine xx_blk ?_
    refine xn_then ?_
    refine w_seq ?_
    refine w_reg ?_
    refine wl_mv (.const (.int .i64 (0))) (.int .i64 (0)) (fun _ => rfl) rfl rfl ?_
    refine wl_mv (.const (.int .i64 (0))) (.int .i64 (0)) (fun _ => rfl) rfl rfl ?_
    refine wl_mv (.const (.bool false)) (.bool false) (fun _ => rfl) rfl rfl ?_
    refine w_nil ?_
    refine xn_then ?_
    refine w_ret ?_
    exact w_ret3 _ _ _ (.int .i64 (0)) (.int .i64 (0)) (.bool false) rfl rfl rfl rfl ⟨by rw [hT, show (a + 1).toNat = 0 by omega, fnF]; rfl, M⟩
  · skip
    obtain ⟨k, rfl⟩ : ∃ k : Nat, a = k := ⟨a.toNat, by omega⟩
    have hk : k < L.length := by omega
    rw [show (((k : Nat) : Int) + 1).toNat = k + 1 by omega] at hvf hT
    have hd0 : decide (0 ≤ ((k : Nat) : Int)) = true := decide_eq_true (by omega)
    have hd1 : decide (k < L.length) = true := decide_eq_true hk
    obtain ⟨x, hx⟩ := get_of_lt hk
    have hmx := List.mem_of_getElem? hx
    have hRS : D.Rw wl kS (0 + k * 1) [.bool false] := ⟨aS.2.2, fun j v hv => by cases j with | zero => (simp at hv; subst hv; have := aS.1 k _ (hvf k (by omega)); simpa using this) | succ j => simp at hv⟩
    obtain ⟨b1, o1, hp1, hR1⟩ := D.SL.rw hS hx
    refine w_seq ?_
    refine w_seq ?_
    refine w_reg ?_
    refine wl_mv (.tmp 1) (.int .i64 ((k : Nat) : Int)) (fun _ => rfl) e1 rfl ?_
    refine wl_bin (fun x y => do eqGuard .geq 3 (.tmp 15) (.const (.int .i64 (0))) x y; binOp .geq 3 x y) (.tmp 15) (.const (.int .i64 (0))) (.int .i64 ((k : Nat) : Int)) (.int .i64 (0)) (.bool true) (fun _ => rfl) rfl rfl (ge3 hd0 _ _ _) rfl ?_
    refine wl_mv (.tmp 16) (.bool true) (fun _ => rfl) rfl rfl ?_
    refine wl_mv (.tmp 1) (.int .i64 ((k : Nat) : Int)) (fun _ => rfl) e1 rfl ?_
    refine wl_mv (.tmp 0) (.slice pa L.length c) (fun _ => rfl) e0 rfl ?_
    refine wl_val (.int .i64 ((L.length : Nat) : Int)) (len37 _ _ _ _ _ (by exact rfl) _ _ _ _ _ _) rfl ?_
    refine wl_bin (fun x y => do eqGuard .lss 3 (.tmp 18) (.tmp 20) x y; binOp .lss 3 x y) (.tmp 18) (.tmp 20) (.int .i64 ((k : Nat) : Int)) (.int .i64 ((L.length : Nat) : Int)) (.bool true) (fun _ => rfl) rfl rfl (ltN hd1 _ _ _) rfl ?_
    refine wl_pick (.tmp 17) (.tmp 21) (.const (.bool false)) true (.bool true) (fun _ => rfl) rfl rfl rfl ?_
    refine wl_mv (.tmp 22) (.bool true) (fun _ => rfl) rfl rfl ?_
    refine wl_mv (.tmp 9) (.slice (some ⟨kS, 0, none⟩) L.length L.length) (fun _ => rfl) e9 rfl ?_
    refine wl_mv (.tmp 1) (.int .i64 ((k : Nat) : Int)) (fun _ => rfl) e1 rfl ?_
    refine wl_bin (fun x y => Instr.indexAt 188 x y) (.tmp 24) (.tmp 25) (.slice (some ⟨kS, 0, none⟩) L.length L.length) (.int .i64 ((k : Nat) : Int)) (pt kS (0 + k * 1)) (fun _ => rfl) rfl rfl (ix188 (i := k) rfl hk _) rfl ?_
    refine wl_load 4 (.tmp 26) (pt kS (0 + k * 1)) (.bool false) rfl rfl (D.run_oneR hRS.at' 4 0 rfl Tryz.underlying4 rfl) rfl ?_
    refine wl_un (fun v => Op.unary .not v) (.tmp 27) (.bool false) (.bool true) (fun _ => rfl) rfl (by kernel_rfl) rfl ?_
    refine wl_pick (.tmp 23) (.tmp 28) (.const (.bool false)) true (.bool true) (fun _ => rfl) rfl rfl rfl ?_
    refine w_nil ?_
    refine xn_then ?_
    refine w_condT rfl ?_
    refine w_skip ?_
    refine xn_then ?_
    refine w_block ?_
    refine w_seq ?_
    refine w_reg ?_
    refine wl_mv (.tmp 9) (.slice (some ⟨kS, 0, none⟩) L.length L.length) (fun _ => rfl) e9 rfl ?_
    refine wl_mv (.tmp 1) (.int .i64 ((k : Nat) : Int)) (fun _ => rfl) e1 rfl ?_
    refine wl_bin (fun x y => Instr.indexAt 188 x y) (.tmp 30) (.tmp 31) (.slice (some ⟨kS, 0, none⟩) L.length L.length) (.int .i64 ((k : Nat) : Int)) (pt kS (0 + k * 1)) (fun _ => rfl) rfl rfl (ix188 (i := k) rfl hk _) rfl ?_
    refine wl_stm1 4 (.tmp 32) (.const (.bool true)) kS (0 + k * 1) (.bool true) vs _ aS rfl rfl rfl rfl (by rw [Nat.blt_eq]; omega) sz4 rfl rfl rfl rfl ?_
    intro u21 hS9 _ aS2
    replace M := hS9.mo _ N_kS M
    clear hS9
    obtain ⟨vs2, aS3, hv2, hvf2⟩ := sn_set aS2 hvl hk hvf
    refine w_nil ?_
    refine xn_then ?_
    refine w_seq ?_
    refine w_reg ?_
    refine wl_mv (.tmp 0) (.slice pa L.length c) (fun _ => rfl) e0 rfl ?_
    refine wl_mv (.tmp 1) (.int .i64 ((k : Nat) : Int)) (fun _ => rfl) e1 rfl ?_
    refine wl_bin (fun x y => Instr.indexAt 37 x y) (.tmp 33) (.tmp 34) (.slice pa L.length c) (.int .i64 ((k : Nat) : Int)) (pt b1 (o1 + k * 5)) (fun _ => rfl) rfl rfl (ix37 (i := k) hp1 hk _) rfl ?_
    refine wl_un (fun v => Instr.fieldAt 40 v 4) (.tmp 35) (pt b1 (o1 + k * 5)) (pt b1 (o1 + k * 5 + 4)) (fun _ => rfl) rfl (by kernel_rfl) rfl ?_
    refine wl_load 22 (.tmp 36) (pt b1 (o1 + k * 5 + 4)) (.slice x.pi x.items.length x.ci) rfl rfl (D.run_oneR (hR1.mo M).at' 22 4 rfl Tryz.underlying22 rfl) rfl ?_
    refine wl_mv (.tmp 37) (.slice x.pi x.items.length x.ci) (fun _ => rfl) rfl rfl ?_
    refine w_nil ?_
    refine xn_then ?_
    refine w_seq ?_
    refine w_seq ?_
    refine w_reg ?_
    refine wl_mv (.tmp 10) (.slice x.pi x.items.length x.ci) (fun _ => rfl) rfl rfl ?_
    refine wl_val (.int .i64 ((x.items.length : Nat) : Int)) (len22 _ _ _ _ _ (by exact rfl) _ _ _ _ _ _) rfl ?_
    refine wl_mv (.const (.int .i64 (0))) (.int .i64 (0)) (fun _ => rfl) rfl rfl ?_
    refine w_nil ?_
    refine xn_then ?_
    refine w_block ?_
    have hzi := (hI x hmx).1
    unfold maxLen at hzi
    refine w_loop (fun m l w1 => ∃ i : Nat, m = x.items.length - i ∧ i ≤ x.items.length ∧ look l 0 = .slice pa L.length c ∧ look l 1 = .int .i64 ((k : Nat) : Int) ∧ look l 2 = .string nm ∧ look l 9 = .slice (some ⟨kS, 0, none⟩) L.length L.length ∧ look l 10 = .slice x.pi x.items.length x.ci ∧ look l 39 = .int .i64 ((x.items.length : Nat) : Int) ∧ look l 40 = .int .i64 ((i : Nat) : Int) ∧ At w1 kS vs2 ∧ ((x.items.take i).findIdx? (pIt nm) = none) ∧ Mo w w1) _ ⟨0, rfl, Nat.zero_le _, e0, e1, e2, e9, rfl, rfl, rfl, aS3, rfl, M⟩ ?_
    clear aS3 M
    rintro m l40 wl40 ⟨i, rfl, hi, e40_0, e40_1, e40_2, e40_9, e40_10, e40_39, e40_i, aS3, hTi, M⟩
    by_cases hil : i < x.items.length
    · skip
      have hid : decide (i < x.items.length) = true := decide_eq_true hil
      obtain ⟨y, hy⟩ := get_of_lt hil
      obtain ⟨b2, o2, hp2, hR2⟩ := D.SL.rw (hI x hmx) hy
      refine w_seq ?_
      refine w_reg ?_
      refine wl_bin (fun x y => do eqGuard .lss 3 (.tmp 40) (.tmp 39) x y; binOp .lss 3 x y) (.tmp 40) (.tmp 39) (.int .i64 ((i : Nat) : Int)) (.int .i64 ((x.items.length : Nat) : Int)) (.bool true) (fun _ => rfl) e40_i e40_39 (ltN hid _ _ _) rfl ?_
      refine w_nil ?_
      refine xn_then ?_
      refine w_seq ?_
      refine w_condT rfl ?_
      refine w_skip ?_
      refine xn_then ?_
      refine w_seq ?_
      refine w_block ?_
      refine w_seq ?_
      refine w_reg ?_
      refine wl_mv (.tmp 40) (.int .i64 ((i : Nat) : Int)) (fun _ => rfl) e40_i rfl ?_
      refine wl_mv (.tmp 42) (.int .i64 ((i : Nat) : Int)) (fun _ => rfl) rfl rfl ?_
      refine w_nil ?_
      refine xn_then ?_
      refine w_seq ?_
      refine w_reg ?_
      refine wl_mv (.tmp 10) (.slice x.pi x.items.length x.ci) (fun _ => rfl) e40_10 rfl ?_
      refine wl_mv (.tmp 11) (.int .i64 ((i : Nat) : Int)) (fun _ => rfl) rfl rfl ?_
      refine wl_bin (fun x y => Instr.indexAt 22 x y) (.tmp 43) (.tmp 44) (.slice x.pi x.items.length x.ci) (.int .i64 ((i : Nat) : Int)) (pt b2 (o2 + i * 23)) (fun _ => rfl) rfl rfl (ix22 (i := i) hp2 hil _) rfl ?_
      refine wl_un (fun v => Instr.fieldAt 54 v 0) (.tmp 45) (pt b2 (o2 + i * 23)) (pt b2 (o2 + i * 23)) (fun _ => rfl) rfl (by kernel_rfl) rfl ?_
      refine wl_load 9 (.tmp 46) (pt b2 (o2 + i * 23)) (.string y.nm) rfl rfl (D.run_oneR (hR2.mo M).at' 9 0 rfl Tryz.underlying9 rfl) rfl ?_
      refine wl_mv (.tmp 2) (.string nm) (fun _ => rfl) e40_2 rfl ?_
      cases hf50 : decide (y.nm = nm) with
      | true =>
        have hf50p := of_decide_eq_true hf50
        refine wl_bin (fun x y => do eqGuard .eql 9 (.tmp 47) (.tmp 48) x y; binOp .eql 9 x y) (.tmp 47) (.tmp 48) (.string y.nm) (.string nm) (.bool true) (fun _ => rfl) rfl rfl (s9 hf50 _ _ _) rfl ?_
        refine wl_mv (.tmp 49) (.bool true) (fun _ => rfl) rfl rfl ?_
        refine wl_mv (.tmp 10) (.slice x.pi x.items.length x.ci) (fun _ => rfl) e40_10 rfl ?_
        refine wl_mv (.tmp 11) (.int .i64 ((i : Nat) : Int)) (fun _ => rfl) rfl rfl ?_
        refine wl_bin (fun x y => Instr.indexAt 22 x y) (.tmp 51) (.tmp 52) (.slice x.pi x.items.length x.ci) (.int .i64 ((i : Nat) : Int)) (pt b2 (o2 + i * 23)) (fun _ => rfl) rfl rfl (ix22 (i := i) hp2 hil _) rfl ?_
        refine wl_un (fun v => Instr.fieldAt 54 v 1) (.tmp 53) (pt b2 (o2 + i * 23)) (pt b2 (o2 + i * 23 + 1)) (fun _ => rfl) rfl (by kernel_rfl) rfl ?_
        refine wl_load 3 (.tmp 54) (pt b2 (o2 + i * 23 + 1)) (.int .i64 (y.k)) rfl rfl (D.run_oneR (hR2.mo M).at' 3 1 rfl Tryz.underlying3 rfl) rfl ?_
        cases hf51 : cbr y.k with
        | true =>
          refine wl_call 135 [(.tmp 55)] _ [.int .i64 (y.k)] (.bool true) rfl rfl (fun _ _ => by kernel_rfl) (cB hf51 (cbr_n y.k _)) rfl ?_
          intro u41 hq
          replace aS3 := aS3.mo hq
          replace M := M.trans hq
          clear hq
          refine wl_pick (.tmp 50) (.tmp 56) (.const (.bool false)) true (.bool true) (fun _ => rfl) rfl rfl rfl ?_
          refine w_nil ?_
          refine xn_then ?_
          refine w_condT rfl ?_
          refine w_seq ?_
          refine w_reg ?_
          refine wl_mv (.tmp 1) (.int .i64 ((k : Nat) : Int)) (fun _ => rfl) e40_1 rfl ?_
          refine wl_mv (.tmp 11) (.int .i64 ((i : Nat) : Int)) (fun _ => rfl) rfl rfl ?_
          refine wl_mv (.tmp 58) (.int .i64 ((k : Nat) : Int)) (fun _ => rfl) rfl rfl ?_
          refine wl_mv (.tmp 59) (.int .i64 ((i : Nat) : Int)) (fun _ => rfl) rfl rfl ?_
          refine wl_mv (.const (.bool true)) (.bool true) (fun _ => rfl) rfl rfl ?_
          refine w_nil ?_
          refine xn_then ?_
          refine w_ret ?_
          refine xr_blk ?_
          refine xr_then ?_
          refine xr_then ?_
          refine xr_blk ?_
          refine xr_then ?_
          refine xr_blk ?_
          refine xr_then ?_
          refine xr_blk ?_
          refine xr_then ?_
          exact w_ret3 _ _ _ (.int .i64 ((k : Nat) : Int)) (.int .i64 ((i : Nat) : Int)) (.bool true) rfl rfl rfl rfl ⟨by rw [hT, fnF_hit hx (fi_hit (p := (pIt nm)) hTi hy (by unfold pIt; rw [hf50, hf51]; rfl))]; rfl, M⟩
        | false =>
          refine wl_call 135 [(.tmp 55)] _ [.int .i64 (y.k)] (.bool false) rfl rfl (fun _ _ => by kernel_rfl) (cB hf51 (cbr_n y.k _)) rfl ?_
          intro u41 hq
          replace aS3 := aS3.mo hq
          replace M := M.trans hq
          clear hq
          refine wl_pick (.tmp 50) (.tmp 56) (.const (.bool false)) true (.bool false) (fun _ => rfl) rfl rfl rfl ?_
          refine w_nil ?_
          refine xn_then ?_
          refine w_condF rfl ?_
          refine w_skip ?_
          refine xn_blk ?_
          refine xn_then ?_
          refine w_reg ?_
          refine wl_bin (fun x y => do eqGuard .add 3 (.tmp 40) (.const (.int .i64 (1))) x y; binOp .add 3 x y) (.tmp 40) (.const (.int .i64 (1))) (.int .i64 ((i : Nat) : Int)) (.int .i64 (1)) (.int .i64 ((i + 1 : Nat) : Int)) (fun _ => rfl) e40_i rfl (add1r (k := i) (by omega) _ _ _) rfl ?_
          refine wl_mv (.tmp 60) (.int .i64 ((i + 1 : Nat) : Int)) (fun _ => rfl) rfl rfl ?_
          refine w_nil ?_
          exact xn_loop (x.items.length - (i + 1)) (by omega) ⟨i + 1, rfl, by omega, e40_0, e40_1, e40_2, e40_9, e40_10, e40_39, rfl, aS3, fi_step (p := (pIt nm)) hTi hy (by unfold pIt; rw [hf50, hf51]; rfl), M⟩
      | false =>
        have hf50p := of_decide_eq_false hf50
        refine wl_bin (fun x y => do eqGuard .eql 9 (.tmp 47) (.tmp 48) x y; binOp .eql 9 x y) (.tmp 47) (.tmp 48) (.string y.nm) (.string nm) (.bool false) (fun _ => rfl) rfl rfl (s9 hf50 _ _ _) rfl ?_
        refine wl_mv (.tmp 49) (.bool false) (fun _ => rfl) rfl rfl ?_
        refine wl_skip rfl ?_
        refine wl_skip rfl ?_
        refine wl_skip rfl ?_
        refine wl_skip rfl ?_
        refine wl_skip rfl ?_
        refine wl_skip rfl ?_
        refine wl_pick (.tmp 50) (.tmp 56) (.const (.bool false)) false (.bool false) (fun _ => rfl) rfl rfl rfl ?_
        refine w_nil ?_
        refine xn_then ?_
        refine w_condF rfl ?_
        refine w_skip ?_
        refine xn_blk ?_
        refine xn_then ?_
        refine w_reg ?_
        refine wl_bin (fun x y => do eqGuard .add 3 (.tmp 40) (.const (.int .i64 (1))) x y; binOp .add 3 x y) (.tmp 40) (.const (.int .i64 (1))) (.int .i64 ((i : Nat) : Int)) (.int .i64 (1)) (.int .i64 ((i + 1 : Nat) : Int)) (fun _ => rfl) e40_i rfl (add1r (k := i) (by omega) _ _ _) rfl ?_
        refine wl_mv (.tmp 60) (.int .i64 ((i + 1 : Nat) : Int)) (fun _ => rfl) rfl rfl ?_
        refine w_nil ?_
        exact xn_loop (x.items.length - (i + 1)) (by omega) ⟨i + 1, rfl, by omega, e40_0, e40_1, e40_2, e40_9, e40_10, e40_39, rfl, aS3, fi_step (p := (pIt nm)) hTi hy (by unfold pIt; rw [hf50]; rfl), M⟩
    · skip
      have hid : decide (i < x.items.length) = false := decide_eq_false hil
      have hie : i = x.items.length := by omega
      refine w_seq ?_
      refine w_reg ?_
      refine wl_bin (fun x y => do eqGuard .lss 3 (.tmp 40) (.tmp 39) x y; binOp .lss 3 x y) (.tmp 40) (.tmp 39) (.int .i64 ((i : Nat) : Int)) (.int .i64 ((x.items.length : Nat) : Int)) (.bool false) (fun _ => rfl) e40_i e40_39 (ltN hid _ _ _) rfl ?_
      refine w_nil ?_
      refine xn_then ?_
      refine w_seq ?_
      refine w_condF rfl ?_
      refine w_exit ?_
      refine xx_then ?_
      refine xx_then ?_
      refine xx_blk ?_
      refine xn_then ?_
      refine w_reg ?_
      refine wl_mv (.tmp 0) (.slice pa L.length c) (fun _ => rfl) e40_0 rfl ?_
      refine wl_mv (.tmp 1) (.int .i64 ((k : Nat) : Int)) (fun _ => rfl) e40_1 rfl ?_
      refine wl_bin (fun x y => Instr.indexAt 37 x y) (.tmp 61) (.tmp 62) (.slice pa L.length c) (.int .i64 ((k : Nat) : Int)) (pt b1 (o1 + k * 5)) (fun _ => rfl) rfl rfl (ix37 (i := k) hp1 hk _) rfl ?_
      refine wl_un (fun v => Instr.fieldAt 40 v 0) (.tmp 63) (pt b1 (o1 + k * 5)) (pt b1 (o1 + k * 5)) (fun _ => rfl) rfl (by kernel_rfl) rfl ?_
      refine wl_load 3 (.tmp 64) (pt b1 (o1 + k * 5)) (.int .i64 (x.pr)) rfl rfl (D.run_oneR (hR1.mo M).at' 3 0 rfl Tryz.underlying3 rfl) rfl ?_
      refine wl_mv (.tmp 65) (.int .i64 (x.pr)) (fun _ => rfl) rfl rfl ?_
      refine w_nil ?_
      refine xn_blk ?_
      exact xn_loop _ (by have := hW k x hx; omega) ⟨x.pr, vs2, rfl, (hW k x hx).2, by have := hW k x hx; omega, e40_0, rfl, e40_2, e40_9, aS3, hv2, fun j hj => hvf2 j (by have := hW k x hx; omega), by rw [hT, fnF_up hW hx (fi_end hTi hie)], M⟩
end Go.Proofs.YtepfokoepibkcaaGreat

