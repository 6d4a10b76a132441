/-
  The definitions that live holds: what Check says of them. The document's side: flat.
-/
import Derived.Test.YtepfokoepibkcaaGreatPa
namespace Go.Proofs.YtepfokoepibkcaaGreat
open Go.RowKit D
/-! The definitions that live holds. -/
section
variable {k1 k2 : Nat} {s : ByteArray}
end
theorem SL.nil {w : World} {n : Nat} {α : Type} {cells : α → List Value} {pa : Option Addr} : SL w n cells pa ([] : List α) := ⟨Nat.zero_le _, fun i o h => by simp at h⟩
end Go.Proofs.YtepfokoepibkcaaGreat
namespace Go.Proofs.YtepfokoepibkcaaGreat
open Go.RowKit D
/-- What the document's flat has put so far; vin: what it was handed in the world wE. -/
structure GB (w0 wE w1 : World) (vin : Value) (pa : Option Addr) (cap : Nat) (acc : List S5) : Prop where
  mo : Mo w0 w1
  ow : w1.ownsRow w0.heap.size 40 5 (.slice pa acc.length cap) acc.length (acc.flatMap S5.cells)
  mkk : Mk (fun j => vin.ownBlock = some j) wE w1
  ob : (Value.slice pa acc.length cap).ownBlock = vin.ownBlock ∨ ∀ k, (Value.slice pa acc.length cap).ownBlock = some k → wE.heap.size ≤ k
section
variable {w0 wE w1 w2 : World} {vin : Value} {pa pa2 : Option Addr} {cap cap2 : Nat} {acc acc2 : List S5}
theorem GB.tr (h : GB w0 wE w1 vin pa cap acc) (g : GB w0 w1 w2 (.slice pa acc.length cap) pa2 cap2 acc2) : GB w0 wE w2 vin pa2 cap2 acc2 := by
  refine ⟨g.mo, g.ow, h.mkk.tr g.mkk (fun j hj e => ?_), ?_⟩
  · rcases h.ob with q | q
    · rw [← q]; exact e
    · have := q j e; omega
  · rcases g.ob with q | q
    · rcases h.ob with r | r
      · exact Or.inl (q.trans r)
      · exact Or.inr (fun k e => r k (q.symm.trans e))
    · exact Or.inr (fun k e => Nat.le_trans h.mkk.size (q k e))
theorem GB.ne (h : GB w0 wE w1 vin pa cap acc) {k1 : Nat} (h1 : vin.ownBlock ≠ some k1) (h2 : k1 < wE.heap.size) : (Value.slice pa acc.length cap).ownBlock ≠ some k1 := fun e => by
  rcases h.ob with q | q
  · exact h1 (q.symm.trans e)
  · have := q k1 e; omega
end
theorem rflat_n {w0 : World} : ∀ (s : Se), LSe w0 s → ∀ (acc : List S5) (p dp : Int) (pa : Option Addr) (cap : Nat) (w : World), Mo w0 w → w.ownsRow w0.heap.size 40 5 (.slice pa acc.length cap) acc.length (acc.flatMap S5.cells) → acc.length ≤ 64 → 0 ≤ dp → dp ≤ 100 → Calls Tryz.prog 20 #[.slice pa acc.length cap, .agg (s.cells).toArray, .int .i64 p, .int .i64 dp] w fun e w' => ∃ pa' cap', e = .returned (.slice pa' (flt s acc p dp).length cap') ∧ GB w0 w w' (.slice pa acc.length cap) pa' cap' (flt s acc p dp) := by
  refine Se.ind2 ?_
  intro s ih hL acc p dp pa cap w hM hown ha hd0 hd1
  refine w_enter 51 Tryz.func20 Tryz.ntmps20 rfl rfl ?_
  have M := hM
  have MW : Mo w w := Mo.refl _
  refine w_seq ?_
  refine w_reg ?_
  refine wl_box 25 (.tmp 1) (.agg (s.cells).toArray) (((s.cells).toArray)) rfl rfl (fun _ => by kernel_rfl) rfl ?_
  intro k1 u1 hk hz hq Q1
  have on_k1 : (Value.slice pa acc.length cap).ownBlock ≠ some k1 := fun e => by have := (hown.lt _ e).2; omega
  have N_k1 : w0.heap.size ≤ k1 := by have := M.size; omega
  replace hown := own_mo hown hq
  replace M := M.trans hq
  replace MW := MW.trans hq
  clear hk hz hq
  refine wl_mv (.const (.slice none 0 0)) (.slice none 0 0) (fun _ => rfl) rfl rfl ?_
  refine w_nil ?_
  refine xn_then ?_
  refine w_seq ?_
  refine w_seq ?_
  refine w_reg ?_
  refine wl_mv (.tmp 0) (.slice pa acc.length cap) (fun _ => rfl) rfl rfl ?_
  refine wl_val (.int .i64 ((acc.length : Nat) : Int)) (len37 _ _ _ _ _ (by exact rfl) _ _ _ _ _ _) rfl ?_
  cases hf0 : decide (64 ≤ ((acc.length : Nat) : Int)) with
  | true =>
    have hf0p := of_decide_eq_true hf0
    refine wl_bin (fun x y => do eqGuard .geq 3 (.tmp 12) (.const (.int .i64 (64))) x y; binOp .geq 3 x y) (.tmp 12) (.const (.int .i64 (64))) (.int .i64 ((acc.length : Nat) : Int)) (.int .i64 (64)) (.bool true) (fun _ => rfl) rfl rfl (ge3 hf0 _ _ _) rfl ?_
    refine wl_mv (.tmp 13) (.bool true) (fun _ => rfl) rfl rfl ?_
    refine wl_skip rfl ?_
    refine wl_skip rfl ?_
    refine wl_pick (.tmp 14) (.const (.bool true)) (.tmp 16) true (.bool true) (fun _ => rfl) rfl rfl rfl ?_
    refine w_nil ?_
    refine xn_then ?_
    refine w_condT rfl ?_
    refine w_seq ?_
    refine w_reg ?_
    refine wl_mv (.tmp 0) (.slice pa acc.length cap) (fun _ => rfl) rfl rfl ?_
    refine wl_mv (.tmp 18) (.slice pa acc.length cap) (fun _ => rfl) rfl rfl ?_
    refine w_nil ?_
    refine xn_then ?_
    refine w_ret ?_
    refine xr_then ?_
    exact w_ret1 _ (.slice pa acc.length cap) rfl rfl ⟨pa, cap, by rw [flt_eq, if_pos (by omega)], by rw [flt_eq, if_pos (by omega)]; exact ⟨M, hown, Mk.of _ MW, Or.inl rfl⟩⟩
  | false =>
    have hf0p := of_decide_eq_false hf0
    refine wl_bin (fun x y => do eqGuard .geq 3 (.tmp 12) (.const (.int .i64 (64))) x y; binOp .geq 3 x y) (.tmp 12) (.const (.int .i64 (64))) (.int .i64 ((acc.length : Nat) : Int)) (.int .i64 (64)) (.bool false) (fun _ => rfl) rfl rfl (ge3 hf0 _ _ _) rfl ?_
    refine wl_mv (.tmp 13) (.bool false) (fun _ => rfl) rfl rfl ?_
    refine wl_mv (.tmp 3) (.int .i64 (dp)) (fun _ => rfl) rfl rfl ?_
    cases hf1 : decide (16 < dp) with
    | true =>
      have hf1p := of_decide_eq_true hf1
      refine wl_bin (fun x y => do eqGuard .gtr 3 (.tmp 15) (.const (.int .i64 (16))) x y; binOp .gtr 3 x y) (.tmp 15) (.const (.int .i64 (16))) (.int .i64 (dp)) (.int .i64 (16)) (.bool true) (fun _ => rfl) rfl rfl (gt3 hf1 _ _ _) rfl ?_
      refine wl_pick (.tmp 14) (.const (.bool true)) (.tmp 16) false (.bool true) (fun _ => rfl) rfl rfl rfl ?_
      refine w_nil ?_
      refine xn_then ?_
      refine w_condT rfl ?_
      refine w_seq ?_
      refine w_reg ?_
      refine wl_mv (.tmp 0) (.slice pa acc.length cap) (fun _ => rfl) rfl rfl ?_
      refine wl_mv (.tmp 18) (.slice pa acc.length cap) (fun _ => rfl) rfl rfl ?_
      refine w_nil ?_
      refine xn_then ?_
      refine w_ret ?_
      refine xr_then ?_
      exact w_ret1 _ (.slice pa acc.length cap) rfl rfl ⟨pa, cap, by rw [flt_eq, if_pos (by omega)], by rw [flt_eq, if_pos (by omega)]; exact ⟨M, hown, Mk.of _ MW, Or.inl rfl⟩⟩
    | false =>
      have hf1p := of_decide_eq_false hf1
      refine wl_bin (fun x y => do eqGuard .gtr 3 (.tmp 15) (.const (.int .i64 (16))) x y; binOp .gtr 3 x y) (.tmp 15) (.const (.int .i64 (16))) (.int .i64 (dp)) (.int .i64 (16)) (.bool false) (fun _ => rfl) rfl rfl (gt3 hf1 _ _ _) rfl ?_
      refine wl_pick (.tmp 14) (.const (.bool true)) (.tmp 16) false (.bool false) (fun _ => rfl) rfl rfl rfl ?_
      refine w_nil ?_
      refine xn_then ?_
      refine w_condF rfl ?_
      refine w_skip ?_
      refine xn_then ?_
      refine w_seq ?_
      refine w_reg ?_
      refine wl_mv (.tmp 0) (.slice pa acc.length cap) (fun _ => rfl) rfl rfl ?_
      refine wl_val (.int .i64 ((acc.length : Nat) : Int)) (len37 _ _ _ _ _ (by exact rfl) _ _ _ _ _ _) rfl ?_
      refine wl_mv (.tmp 20) (.int .i64 ((acc.length : Nat) : Int)) (fun _ => rfl) rfl rfl ?_
      refine w_nil ?_
      refine xn_then ?_
      refine w_seq ?_
      refine w_reg ?_
      refine wl_mv (.tmp 0) (.slice pa acc.length cap) (fun _ => rfl) rfl rfl ?_
      refine wl_mv (.tmp 2) (.int .i64 (p)) (fun _ => rfl) rfl rfl ?_
      refine wl_mv (.tmp 3) (.int .i64 (dp)) (fun _ => rfl) rfl rfl ?_
      refine wl_un (fun v => Instr.fieldAt 25 v 0) (.tmp 5) (pt k1 0) (pt k1 0) (fun _ => rfl) rfl (by kernel_rfl) rfl ?_
      refine wl_load 9 (.tmp 24) (pt k1 0) (.string s.nm) rfl rfl (run_one Q1 9 0 rfl Tryz.underlying9 rfl) rfl ?_
      refine wl_un (fun v => Instr.fieldAt 25 v 1) (.tmp 5) (pt k1 0) (pt k1 1) (fun _ => rfl) rfl (by kernel_rfl) rfl ?_
      refine wl_load 3 (.tmp 26) (pt k1 1) (.int .i64 (s.mx)) rfl rfl (run_one Q1 3 1 rfl Tryz.underlying3 rfl) rfl ?_
      refine wl_un (fun v => Instr.fieldAt 25 v 2) (.tmp 5) (pt k1 0) (pt k1 2) (fun _ => rfl) rfl (by kernel_rfl) rfl ?_
      refine wl_load 22 (.tmp 28) (pt k1 2) (.slice s.pi s.items.length s.ci) rfl rfl (run_one Q1 22 2 rfl Tryz.underlying22 rfl) rfl ?_
      refine wl_build 40 [(0, (.tmp 22)), (1, (.tmp 23)), (2, (.tmp 25)), (3, (.tmp 27)), (4, (.tmp 29))] [(0, .int .i64 (p)), (1, .int .i64 (dp)), (2, .string s.nm), (3, .int .i64 (s.mx)), (4, .slice s.pi s.items.length s.ci)] (.agg #[.int .i64 (p), .int .i64 (dp), .string s.nm, .int .i64 (s.mx), .slice s.pi s.items.length s.ci]) rfl rfl (by kernel_rfl) rfl ?_
      refine wl_bs 37 1 [(0, (.tmp 30))] [(0, .agg #[.int .i64 (p), .int .i64 (dp), .string s.nm, .int .i64 (s.mx), .slice s.pi s.items.length s.ci])] #[.int .i64 (p), .int .i64 (dp), .string s.nm, .int .i64 (s.mx), .slice s.pi s.items.length s.ci] 40 rfl rfl (fun _ => by kernel_rfl) rfl ?_
      intro k2 u2 hk hz hq Q2
      have ne_k1_k2 : k1 ≠ k2 := by have := Q1.lt; omega
      have N_k2 : w0.heap.size ≤ k2 := by have := M.size; omega
      have on_k2 : (Value.slice pa acc.length cap).ownBlock ≠ some k2 := fun e => by have := (own_lt hown e).1; omega
      replace hown := own_mo hown hq
      replace Q1 := Q1.mo hq
      replace M := M.trans hq
      replace MW := MW.trans hq
      clear hk hz hq
      have lt_k1 := Q1.lt
      have lt_k2 := Q2.lt
      have hal : acc.length < 64 := by omega
      refine wl_app Tryz.underlying37 inf40 rfl (by decide) (.tmp 21) (.tmp 31) w0.heap.size (.slice pa acc.length cap) acc.length (acc.flatMap S5.cells) k2 1 1 (⟨p, dp, s.nm, s.mx, s.pi, s.ci, s.items⟩ : S5).cells rfl rfl rfl hown rfl Q2 (fun u hu => by simp only [S5.cells, List.mem_cons, List.not_mem_nil, or_false] at hu; rcases hu with rfl | rfl | rfl | rfl | rfl <;> rfl) (by decide) (by unfold maxLen; omega) (by omega) M.size rfl ?_
      intro v9 u3 hOw hm9 hbk
      obtain ⟨pa1, cap1, rfl, _⟩ := own_form hOw
      have hb1 : (Value.slice pa1 (acc ++ [(⟨p, dp, s.nm, s.mx, s.pi, s.ci, s.items⟩ : S5)]).length cap1).ownBlock = (Value.slice pa acc.length cap).ownBlock ∨ (Value.slice pa1 (acc ++ [(⟨p, dp, s.nm, s.mx, s.pi, s.ci, s.items⟩ : S5)]).length cap1).ownBlock = some u2.heap.size := by cases pa1 <;> exact hbk
      replace hOw : u3.ownsRow w0.heap.size 40 5 (.slice pa1 (acc ++ [(⟨p, dp, s.nm, s.mx, s.pi, s.ci, s.items⟩ : S5)]).length cap1) (acc ++ [(⟨p, dp, s.nm, s.mx, s.pi, s.ci, s.items⟩ : S5)]).length ((acc ++ [(⟨p, dp, s.nm, s.mx, s.pi, s.ci, s.items⟩ : S5)]).flatMap S5.cells) := by simpa using hOw
      have hG1 : GB w0 w u3 (Value.slice pa acc.length cap) pa1 cap1 (acc ++ [(⟨p, dp, s.nm, s.mx, s.pi, s.ci, s.items⟩ : S5)]) := ⟨hm9.mo M (fun k e => (own_lt hown e).2), hOw, (Mk.of _ MW).same hm9, hb1.imp_right (fun h k e => by have h8 := Option.some.inj (h.symm.trans e); have := MW.size; omega)⟩
      have on1 : (Value.slice pa1 (acc ++ [(⟨p, dp, s.nm, s.mx, s.pi, s.ci, s.items⟩ : S5)]).length cap1).ownBlock ≠ some k1 := fun e => by rcases hb1 with h | h; exact on_k1 (h.symm.trans e); have h8 := Option.some.inj (h.symm.trans e); omega
      replace Q1 := hm9.at Q1 on_k1
      replace M := hG1.mo
      clear hOw hm9 hb1 hbk hown MW
      rw [show acc.length + 1 = (acc ++ [(⟨p, dp, s.nm, s.mx, s.pi, s.ci, s.items⟩ : S5)]).length by simp]
      refine wl_mv (.tmp 32) (.slice pa1 (acc ++ [(⟨p, dp, s.nm, s.mx, s.pi, s.ci, s.items⟩ : S5)]).length cap1) (fun _ => rfl) rfl rfl ?_
      refine w_nil ?_
      refine xn_then ?_
      refine w_seq ?_
      refine w_seq ?_
      refine w_reg ?_
      refine wl_mv (.const (.int .i64 (0))) (.int .i64 (0)) (fun _ => rfl) rfl rfl ?_
      refine w_nil ?_
      refine xn_then ?_
      refine w_block ?_
      have hcond : ¬ (64 ≤ acc.length ∨ 16 < dp) := by omega
      have hzk := hL.kd.1
      unfold maxLen at hzk
      refine w_loop (fun m l w1 => ∃ i : Nat, m = s.kids.length - i ∧ i ≤ s.kids.length ∧ look l 2 = .int .i64 (p) ∧ look l 3 = .int .i64 (dp) ∧ look l 5 = pt k1 0 ∧ look l 9 = .int .i64 ((acc.length : Nat) : Int) ∧ look l 10 = .int .i64 ((i : Nat) : Int) ∧ ∃ (pa2 : Option Addr) (cap2 : Nat), look l 0 = .slice pa2 (fk s acc p dp i).length cap2 ∧ GB w0 w w1 (Value.slice pa acc.length cap) pa2 cap2 (fk s acc p dp i) ∧ (Value.slice pa2 (fk s acc p dp i).length cap2).ownBlock ≠ some k1 ∧ At w1 k1 s.cells) _ ⟨0, rfl, Nat.zero_le _, rfl, rfl, rfl, rfl, rfl, ⟨pa1, cap1, rfl, hG1, on1, Q1⟩⟩ ?_
      clear Q1 M
      rintro m l40 wl40 ⟨i, rfl, hi, e40_2, e40_3, e40_5, e40_9, e40_i, hE⟩
      by_cases hil : i < s.kids.length
      · skip
        have hid : decide (i < s.kids.length) = true := decide_eq_true hil
        obtain ⟨pa2, cap2, e0, hG2, on2, Q1⟩ := hE
        have M := hG2.mo
        obtain ⟨k, hk⟩ := get_of_lt hil
        obtain ⟨bp, op, hpp, hRp⟩ := D.SL.rw hL.kd hk
        refine w_seq ?_
        refine w_seq ?_
        refine w_reg ?_
        refine wl_mv (.tmp 10) (.int .i64 ((i : Nat) : Int)) (fun _ => rfl) e40_i rfl ?_
        refine wl_un (fun v => Instr.fieldAt 25 v 3) (.tmp 5) (pt k1 0) (pt k1 3) (fun _ => rfl) e40_5 (by kernel_rfl) rfl ?_
        refine wl_load 23 (.tmp 34) (pt k1 3) (.slice s.pk s.kids.length s.ck) rfl rfl (run_one Q1 23 3 rfl Tryz.underlying23 rfl) rfl ?_
        refine wl_val (.int .i64 ((s.kids.length : Nat) : Int)) (len23 _ _ _ _ _ (by exact rfl) _ _ _ _ _ _) rfl ?_
        refine wl_bin (fun x y => do eqGuard .lss 3 (.tmp 33) (.tmp 36) x y; binOp .lss 3 x y) (.tmp 33) (.tmp 36) (.int .i64 ((i : Nat) : Int)) (.int .i64 ((s.kids.length : Nat) : Int)) (.bool true) (fun _ => rfl) rfl rfl (ltN hid _ _ _) rfl ?_
        refine w_nil ?_
        refine xn_then ?_
        refine w_condT rfl ?_
        refine w_skip ?_
        refine xn_then ?_
        refine w_seq ?_
        refine w_block ?_
        refine w_reg ?_
        refine wl_mv (.tmp 0) (.slice pa2 (fk s acc p dp i).length cap2) (fun _ => rfl) e0 rfl ?_
        refine wl_un (fun v => Instr.fieldAt 25 v 3) (.tmp 5) (pt k1 0) (pt k1 3) (fun _ => rfl) e40_5 (by kernel_rfl) rfl ?_
        refine wl_load 23 (.tmp 41) (pt k1 3) (.slice s.pk s.kids.length s.ck) rfl rfl (run_one Q1 23 3 rfl Tryz.underlying23 rfl) rfl ?_
        refine wl_mv (.tmp 10) (.int .i64 ((i : Nat) : Int)) (fun _ => rfl) e40_i rfl ?_
        refine wl_bin (fun x y => Instr.indexAt 23 x y) (.tmp 42) (.tmp 43) (.slice s.pk s.kids.length s.ck) (.int .i64 ((i : Nat) : Int)) (pt bp (op + i * 4)) (fun _ => rfl) rfl rfl (ix23 (i := i) hpp hil _) rfl ?_
        refine wl_load 25 (.tmp 44) (pt bp (op + i * 4)) (.agg (k.cells).toArray) rfl rfl (D.run_partR (hRp.mo M).at' 25 0 4 (k.cells) rfl Tryz.underlying25 rfl sz25) rfl ?_
        refine wl_mv (.tmp 9) (.int .i64 ((acc.length : Nat) : Int)) (fun _ => rfl) e40_9 rfl ?_
        refine wl_mv (.tmp 3) (.int .i64 (dp)) (fun _ => rfl) e40_3 rfl ?_
        refine wl_bin (fun x y => do eqGuard .add 3 (.tmp 47) (.const (.int .i64 (1))) x y; binOp .add 3 x y) (.tmp 47) (.const (.int .i64 (1))) (.int .i64 (dp)) (.int .i64 (1)) (.int .i64 (dp + 1)) (fun _ => rfl) rfl rfl (add1i (k := dp) (by omega) (by omega) _ _ _) rfl ?_
        refine wl_callx 20 [(.tmp 40), (.tmp 45), (.tmp 46), (.tmp 48)] _ [.slice pa2 (fk s acc p dp i).length cap2, .agg (k.cells).toArray, .int .i64 ((acc.length : Nat) : Int), .int .i64 (dp + 1)] rfl rfl (fun _ _ => by kernel_rfl) (ih k (List.mem_of_getElem? hk) (hL.kr k (List.mem_of_getElem? hk)) (fk s acc p dp i) _ _ pa2 cap2 _ M hG2.ow (fk_len (by omega) i) (by omega) (by omega)) rfl ?_
        rintro e9 u41 ⟨pa3, cap3, rfl, hG3⟩
        refine ⟨_, rfl, ?_⟩
        have ltk := Q1.lt
        replace Q1 := hG3.mkk.at Q1 on2
        have on3 := hG3.ne on2 ltk
        have hG4 := hG2.tr hG3
        replace M := hG4.mo
        refine wl_mv (.tmp 49) (.slice pa3 (flt k (fk s acc p dp i) acc.length (dp + 1)).length cap3) (fun _ => rfl) rfl rfl ?_
        refine w_nil ?_
        refine xn_blk ?_
        refine xn_then ?_
        refine w_reg ?_
        refine wl_mv (.tmp 10) (.int .i64 ((i : Nat) : Int)) (fun _ => rfl) e40_i rfl ?_
        refine wl_bin (fun x y => do eqGuard .add 3 (.tmp 38) (.const (.int .i64 (1))) x y; binOp .add 3 x y) (.tmp 38) (.const (.int .i64 (1))) (.int .i64 ((i : Nat) : Int)) (.int .i64 (1)) (.int .i64 ((i + 1 : Nat) : Int)) (fun _ => rfl) rfl rfl (add1r (k := i) (by omega) _ _ _) rfl ?_
        refine wl_mv (.tmp 39) (.int .i64 ((i + 1 : Nat) : Int)) (fun _ => rfl) rfl rfl ?_
        refine w_nil ?_
        exact xn_loop (s.kids.length - (i + 1)) (by omega) ⟨i + 1, rfl, by omega, e40_2, e40_3, e40_5, e40_9, rfl, ⟨pa3, cap3, by rw [fk_s hk]; rfl, by rw [fk_s hk]; exact hG4, by rw [fk_s hk]; exact on3, Q1⟩⟩
      · skip
        have hid : decide (i < s.kids.length) = false := decide_eq_false hil
        have hie : i = s.kids.length := by omega
        obtain ⟨pa2, cap2, e0, hG2, on2, Q1⟩ := hE
        have M := hG2.mo
        refine w_seq ?_
        refine w_seq ?_
        refine w_reg ?_
        refine wl_mv (.tmp 10) (.int .i64 ((i : Nat) : Int)) (fun _ => rfl) e40_i rfl ?_
        refine wl_un (fun v => Instr.fieldAt 25 v 3) (.tmp 5) (pt k1 0) (pt k1 3) (fun _ => rfl) e40_5 (by kernel_rfl) rfl ?_
        refine wl_load 23 (.tmp 34) (pt k1 3) (.slice s.pk s.kids.length s.ck) rfl rfl (run_one Q1 23 3 rfl Tryz.underlying23 rfl) rfl ?_
        refine wl_val (.int .i64 ((s.kids.length : Nat) : Int)) (len23 _ _ _ _ _ (by exact rfl) _ _ _ _ _ _) rfl ?_
        refine wl_bin (fun x y => do eqGuard .lss 3 (.tmp 33) (.tmp 36) x y; binOp .lss 3 x y) (.tmp 33) (.tmp 36) (.int .i64 ((i : Nat) : Int)) (.int .i64 ((s.kids.length : Nat) : Int)) (.bool false) (fun _ => rfl) rfl rfl (ltN hid _ _ _) rfl ?_
        refine w_nil ?_
        refine xn_then ?_
        refine w_condF rfl ?_
        refine w_exit ?_
        refine xx_then ?_
        refine xx_then ?_
        refine xx_blk ?_
        refine xn_then ?_
        refine w_seq ?_
        refine w_reg ?_
        refine wl_mv (.tmp 0) (.slice pa2 (fk s acc p dp i).length cap2) (fun _ => rfl) e0 rfl ?_
        refine wl_mv (.tmp 50) (.slice pa2 (fk s acc p dp i).length cap2) (fun _ => rfl) rfl rfl ?_
        refine w_nil ?_
        refine xn_then ?_
        refine w_ret ?_
        exact w_ret1 _ (.slice pa2 (fk s acc p dp i).length cap2) rfl rfl ⟨pa2, cap2, by rw [flt_eq, if_neg hcond, hie]; unfold fk; rw [List.take_length], by rw [flt_eq, if_neg hcond]; rw [hie] at hG2; unfold fk at hG2; rw [List.take_length] at hG2; exact hG2⟩
theorem rFlat_n (d : Df) {w : World} (hD : LDf w d) : Calls Tryz.prog 8 #[.agg (d.cells).toArray] w fun e w' => ∃ pa cap, e = .returned (.slice pa (fla d).length cap) ∧ SL w' 5 S5.cells pa (fla d) ∧ Mo w w' := by
  refine w_enter 6 Tryz.func8 Tryz.ntmps8 rfl rfl ?_
  have M : Mo w w := Mo.refl _
  refine w_seq ?_
  refine w_reg ?_
  refine wl_box 29 (.tmp 0) (.agg (d.cells).toArray) (((d.cells).toArray)) rfl rfl (fun _ => by kernel_rfl) rfl ?_
  intro k1 u1 hk hz hq Q1
  have N_k1 : w.heap.size ≤ k1 := by have := M.size; omega
  replace M := M.trans hq
  clear hk hz hq
  refine wl_mv (.const (.slice none 0 0)) (.slice none 0 0) (fun _ => rfl) rfl rfl ?_
  refine w_nil ?_
  refine xn_then ?_
  refine w_seq ?_
  refine w_reg ?_
  refine wl_un (fun v => Instr.fieldAt 29 v 1) (.tmp 1) (pt k1 0) (pt k1 1) (fun _ => rfl) rfl (by kernel_rfl) rfl ?_
  refine wl_load 25 (.tmp 3) (pt k1 1) (.agg (d.rt.cells).toArray) rfl rfl (run_row Q1 25 1 4 (d.rt.cells) rfl Tryz.underlying25 rfl sz25) rfl ?_
  refine wl_callx 20 [(.const (.slice none 0 0)), (.tmp 4), (.const (.int .i64 (-1))), (.const (.int .i64 (1)))] _ [.slice none 0 0, .agg (d.rt.cells).toArray, .int .i64 (-1), .int .i64 (1)] rfl rfl (fun _ _ => by kernel_rfl) (rflat_n d.rt hD.rt [] (-1) 1 none 0 _ M ⟨rfl, Or.inl ⟨rfl, rfl⟩⟩ (by simp) (by omega) (by omega)) rfl ?_
  rintro e9 u2 ⟨pa, cap, rfl, hG⟩
  refine ⟨_, rfl, ?_⟩
  replace M := hG.mo
  refine wl_mv (.tmp 5) (.slice pa (fla d).length cap) (fun _ => rfl) rfl rfl ?_
  refine w_nil ?_
  refine xn_then ?_
  refine w_ret ?_
  exact w_ret1 _ (.slice pa (fla d).length cap) rfl rfl ⟨pa, cap, rfl, own_sl (cells := S5.cells) (fun _ => rfl) (Nat.le_trans (fla_len d) (by decide)) hG.ow, M⟩
end Go.Proofs.YtepfokoepibkcaaGreat
