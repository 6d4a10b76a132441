/-
  What is below an item, by rounds. What is read where nothing stands. Whatever number is asked for: where it stands, what it reads, who reads it, what is below it.
-/
import Derived.Test.YthghblgbjgghcaaGra
namespace Go.Proofs.Ythghblgbjgghcaa
open Go.RowKit D
theorem below20_n {w : World} {l : List S5} {pl : Option Addr} {cl : Nat} (hL : SL w 5 S5.cells pl l) (hz : l.length < 400000) (hzI : nI l < 400000) (h16 : ∀ {u : World} {m : Nat}, Mo w u → m < nI l → Calls Try.prog 16 #[.slice pl l.length cl, .int .i64 ((m : Nat) : Int)] u fun e w' => ∃ (pa : Option Addr) (cap : Nat), e = .returned (.slice pa (row (RA l) m).length cap) ∧ Li w' pa (row (RA l) m) ∧ Mo u w') {nn : Nat} (hn : nn < nI l) : Calls Try.prog 20 #[.slice pl l.length cl, .int .i64 ((nn : Nat) : Int)] w fun e w' => ∃ (p : Nat → Bool) (pa : Option Addr) (cap : Nat), (∀ u, p u = true ↔ Rch (RA l) u nn) ∧ e = .returned (.slice pa (ris (nI l) p).length cap) ∧ Ow w.heap.size 3 1 ic w' pa cap (ris (nI l) p) ∧ Mo w w' := by
  have hf0 : decide (nn < 0) = false := decide_eq_false (by omega)
  refine w_enter 87 Try.func20 Try.ntmps20 rfl rfl ?_
  have M : Mo w w := Mo.refl _
  refine w_seq ?_
  refine w_reg ?_
  refine wl_mv (.const (.slice none 0 0)) (.slice none 0 0) (fun _ => rfl) rfl rfl ?_
  refine w_nil ?_
  refine xn_then ?_
  refine w_seq ?_
  refine w_reg ?_
  refine wl_mv (.tmp 0) (.slice pl l.length cl) (fun _ => rfl) rfl rfl ?_
  refine wl_callx 40 [(.tmp 12)] _ [.slice pl l.length cl] rfl rfl (fun _ _ => by kernel_rfl) ((all40_n (hL.kp M.kp) hz hzI (fun m q => h16 (M.trans m) q))) rfl ?_
  rintro e9 u1 ⟨V, pv, cv, rfl, hOV, hli, hV, hq⟩
  refine ⟨_, rfl, ?_⟩
  have M0 := M.trans hq
  have hN0 := M0.size
  have hVl : V.length = nI l := by have := congrArg List.length hV; rw [RA_len] at this; simpa using this
  have hsl := own_sl (cells := zc) (fun _ => rfl) (by unfold maxLen; omega) hOV
  have hVr := RA_rowlen hV
  have hRl := RA_len l
  clear hq hOV
  clear M
  have M : Mo u1 u1 := Mo.refl _
  have hf1 : decide (((V.length : Nat) : Int) ≤ ((nn : Nat) : Int)) = false := decide_eq_false (by omega)
  refine wl_mv (.tmp 13) (.slice pv V.length cv) (fun _ => rfl) rfl rfl ?_
  refine w_nil ?_
  refine xn_then ?_
  refine w_seq ?_
  refine w_seq ?_
  refine w_reg ?_
  refine wl_mv (.tmp 1) (.int .i64 ((nn : Nat) : Int)) (fun _ => rfl) rfl rfl ?_
  refine wl_bin (fun x y => do eqGuard .lss 3 (.tmp 14) (.const (.int .i64 (0))) x y; binOp .lss 3 x y) (.tmp 14) (.const (.int .i64 (0))) (.int .i64 ((nn : Nat) : Int)) (.int .i64 (0)) (.bool false) (fun _ => rfl) rfl rfl (ltN hf0 _ _ _) rfl ?_
  refine wl_mv (.tmp 15) (.bool false) (fun _ => rfl) rfl rfl ?_
  refine wl_mv (.tmp 1) (.int .i64 ((nn : Nat) : Int)) (fun _ => rfl) rfl rfl ?_
  refine wl_mv (.tmp 5) (.slice pv V.length cv) (fun _ => rfl) rfl rfl ?_
  refine wl_val (.int .i64 ((V.length : Nat) : Int)) (len79 _ _ _ _ _ (by exact rfl) _ _ _ _ _ _) rfl ?_
  refine wl_bin (fun x y => do eqGuard .geq 3 (.tmp 17) (.tmp 19) x y; binOp .geq 3 x y) (.tmp 17) (.tmp 19) (.int .i64 ((nn : Nat) : Int)) (.int .i64 ((V.length : Nat) : Int)) (.bool false) (fun _ => rfl) rfl rfl (ge3 hf1 _ _ _) rfl ?_
  refine wl_pick (.tmp 16) (.const (.bool true)) (.tmp 20) false (.bool false) (fun _ => rfl) rfl rfl rfl ?_
  refine w_nil ?_
  refine xn_then ?_
  refine w_condF rfl ?_
  refine w_skip ?_
  refine xn_then ?_
  refine w_seq ?_
  refine w_reg ?_
  refine wl_mv (.tmp 5) (.slice pv V.length cv) (fun _ => rfl) rfl rfl ?_
  refine wl_val (.int .i64 ((V.length : Nat) : Int)) (len79 _ _ _ _ _ (by exact rfl) _ _ _ _ _ _) rfl ?_
  refine wl_makeS 81 4 (.tmp 23) (.tmp 23) (V.length) (.bool false) 1 Try.underlying81 inf4 rfl (by omega) (by omega) rfl rfl rfl rfl ?_
  intro k1 u2 hk hz hq O1
  have Q1 := O1.at
  have N_k1 : u1.heap.size ≤ k1 := by have := M.size; omega
  replace M := M.trans hq
  clear hk hz hq
  refine wl_mv (.tmp 24) (.slice (some ⟨k1, 0, none⟩) V.length V.length) (fun _ => rfl) rfl rfl ?_
  refine w_nil ?_
  refine xn_then ?_
  refine w_seq ?_
  refine w_seq ?_
  refine w_reg ?_
  refine wl_mv (.const (.bool true)) (.bool true) (fun _ => rfl) rfl rfl ?_
  refine w_nil ?_
  refine xn_then ?_
  refine w_block ?_
  have O2 : Ob u2 k1 4 ((List.replicate V.length false).map Value.bool) := by rw [List.map_replicate]; exact O1
  refine w_loop (fun m lf w1 => ∃ B : List Bool, ∃ b : Bool, m = 2 * cfl B + (if b then 1 else 0) ∧ look lf 1 = .int .i64 ((nn : Nat) : Int) ∧ look lf 5 = .slice pv V.length cv ∧ look lf 6 = .slice (some ⟨k1, 0, none⟩) V.length V.length ∧ look lf 7 = .bool b ∧ (B.length = V.length) ∧ (Ob w1 k1 4 (B.map Value.bool)) ∧ (Snd (RA l) nn B) ∧ (b = false → ∀ k, B[k]? = some false → ∀ y ∈ row (RA l) k, y ≠ nn ∧ B[y]? ≠ some true) ∧ (Mo u1 w1)) _ ⟨List.replicate V.length false, true, rfl, rfl, rfl, rfl, rfl, by simp, O2, (fun u h => by rw [List.getElem?_replicate] at h; split at h <;> cases h), (fun h => by cases h), M⟩ ?_
  clear O1 Q1 O2 M
  rintro m lf40 wl40 ⟨B, b, rfl, e40_1, e40_5, e40_6, e40_7, hBl, hO, hS, hF, M⟩
  cases b with
  | true =>
    refine w_seq ?_
    refine w_seq ?_
    refine w_reg ?_
    refine wl_mv (.tmp 7) (.bool true) (fun _ => rfl) e40_7 rfl ?_
    refine w_nil ?_
    refine xn_then ?_
    refine w_condT rfl ?_
    refine w_skip ?_
    refine xn_then ?_
    refine w_block ?_
    refine w_seq ?_
    refine w_reg ?_
    refine wl_mv (.const (.bool false)) (.bool false) (fun _ => rfl) rfl rfl ?_
    refine w_nil ?_
    refine xn_then ?_
    refine w_seq ?_
    refine w_reg ?_
    refine wl_mv (.const (.int .i64 (0))) (.int .i64 (0)) (fun _ => rfl) rfl rfl ?_
    refine w_nil ?_
    refine xn_then ?_
    refine w_block ?_
    refine w_loop (fun m lf w1 => ∃ a : Nat, ∃ B2 : List Bool, ∃ b2 : Bool, m = V.length - a ∧ look lf 1 = .int .i64 ((nn : Nat) : Int) ∧ look lf 5 = .slice pv V.length cv ∧ look lf 6 = .slice (some ⟨k1, 0, none⟩) V.length V.length ∧ look lf 7 = .bool b2 ∧ look lf 8 = .int .i64 ((a : Nat) : Int) ∧ (a ≤ V.length) ∧ (B2.length = V.length) ∧ (Ob w1 k1 4 (B2.map Value.bool)) ∧ (Snd (RA l) nn B2) ∧ (b2 = true → cfl B2 < cfl B) ∧ (b2 = false → B2 = B ∧ ∀ n, n < a → B2[n]? = some false → ∀ y ∈ row (RA l) n, y ≠ nn ∧ B2[y]? ≠ some true) ∧ (cfl B2 ≤ cfl B) ∧ (Mo u1 w1)) _ ⟨0, B, false, rfl, e40_1, e40_5, e40_6, rfl, rfl, Nat.zero_le _, hBl, hO, hS, (fun e => by cases e), (fun _ => ⟨rfl, fun n hn => by omega⟩), Nat.le_refl _, M⟩ ?_
    clear hO M
    rintro m lf70 wl70 ⟨a, B2, b2, rfl, e70_1, e70_5, e70_6, e70_7, e70_8, ha, hl2, hO, hS2, hB1, hB0, hNg, M⟩
    cases hda : decide (a < V.length) with
    | true =>
      have hal := of_decide_eq_true hda
      obtain ⟨x, hx⟩ := get_of_lt hal
      have hxm := List.mem_of_getElem? hx
      have hxL : row (RA l) a = x.L := row_eq (by rw [← hV, List.getElem?_map, hx]; rfl)
      have hxz := hVr x hxm
      have hLx := (hli x hxm).sl
      obtain ⟨va, hva⟩ := get_of_lt (show a < B2.length by omega)
      obtain ⟨bp, op, hpp, hRp⟩ := D.SL.rw hsl hx
      refine w_seq ?_
      refine w_seq ?_
      refine w_reg ?_
      refine wl_mv (.tmp 8) (.int .i64 ((a : Nat) : Int)) (fun _ => rfl) e70_8 rfl ?_
      refine wl_mv (.tmp 5) (.slice pv V.length cv) (fun _ => rfl) e70_5 rfl ?_
      refine wl_val (.int .i64 ((V.length : Nat) : Int)) (len79 _ _ _ _ _ (by exact rfl) _ _ _ _ _ _) rfl ?_
      refine wl_bin (fun x y => do eqGuard .lss 3 (.tmp 26) (.tmp 28) x y; binOp .lss 3 x y) (.tmp 26) (.tmp 28) (.int .i64 ((a : Nat) : Int)) (.int .i64 ((V.length : Nat) : Int)) (.bool true) (fun _ => rfl) rfl rfl (ltN hda _ _ _) rfl ?_
      refine w_nil ?_
      refine xn_then ?_
      refine w_condT rfl ?_
      refine w_skip ?_
      refine xn_then ?_
      refine w_seq ?_
      refine w_block ?_
      refine w_seq ?_
      refine w_reg ?_
      refine wl_mv (.const (.int .i64 (0))) (.int .i64 (0)) (fun _ => rfl) rfl rfl ?_
      refine w_nil ?_
      refine xn_then ?_
      refine w_block ?_
      refine w_loop (fun m lf w1 => ∃ i : Nat, ∃ B3 : List Bool, ∃ b3 : Bool, m = x.L.length - i ∧ look lf 1 = .int .i64 ((nn : Nat) : Int) ∧ look lf 5 = .slice pv V.length cv ∧ look lf 6 = .slice (some ⟨k1, 0, none⟩) V.length V.length ∧ look lf 7 = .bool b3 ∧ look lf 8 = .int .i64 ((a : Nat) : Int) ∧ look lf 9 = .int .i64 ((i : Nat) : Int) ∧ (i ≤ x.L.length) ∧ (Ob w1 k1 4 (B3.map Value.bool)) ∧ ((B2 = B3 ∧ b2 = b3 ∧ ∀ y ∈ x.L.take i, y ≠ nn ∧ B2[y]? ≠ some true) ∨ (B3 = B2.set a true ∧ b3 = true ∧ B2[a]? = some false ∧ Rch (RA l) a nn)) ∧ (Mo u1 w1)) _ ⟨0, B2, b2, rfl, e70_1, e70_5, e70_6, e70_7, e70_8, rfl, Nat.zero_le _, hO, Or.inl ⟨rfl, rfl, fun y hy => by simp at hy⟩, M⟩ ?_
      clear hO M
      rintro m lf110 wl110 ⟨i, B3, b3, rfl, e110_1, e110_5, e110_6, e110_7, e110_8, e110_9, hi, hO, hst, M⟩
      rcases hst with ⟨rfl, rfl, hno⟩ | ⟨rfl, rfl, hfa, hrc⟩
      · skip
        cases va with
        | true =>
          have QO := hO.at
          cases hdk : decide (i < x.L.length) with
          | true =>
            have hil := of_decide_eq_true hdk
            have hcase : B2[a]? = some false → ∀ y ∈ row (RA l) a, y ≠ nn ∧ B2[y]? ≠ some true := fun e => by rw [hva] at e; cases e
            refine w_seq ?_
            refine w_seq ?_
            refine w_reg ?_
            refine wl_mv (.tmp 9) (.int .i64 ((i : Nat) : Int)) (fun _ => rfl) e110_9 rfl ?_
            refine wl_mv (.tmp 5) (.slice pv V.length cv) (fun _ => rfl) e110_5 rfl ?_
            refine wl_mv (.tmp 8) (.int .i64 ((a : Nat) : Int)) (fun _ => rfl) e110_8 rfl ?_
            refine wl_bin (fun x y => Instr.indexAt 79 x y) (.tmp 33) (.tmp 34) (.slice pv V.length cv) (.int .i64 ((a : Nat) : Int)) (pt bp (op + a * 1)) (fun _ => rfl) rfl rfl (ix79 (i := a) hpp hal _) rfl ?_
            refine wl_load 32 (.tmp 35) (pt bp (op + a * 1)) (.slice x.pa x.L.length x.cap) rfl rfl (D.run_oneR (hRp.mo M).at' 32 0 rfl Try.underlying32 rfl) rfl ?_
            refine wl_val (.int .i64 ((x.L.length : Nat) : Int)) (len32 _ _ _ _ _ (by exact rfl) _ _ _ _ _ _) rfl ?_
            refine wl_bin (fun x y => do eqGuard .lss 3 (.tmp 32) (.tmp 37) x y; binOp .lss 3 x y) (.tmp 32) (.tmp 37) (.int .i64 ((i : Nat) : Int)) (.int .i64 ((x.L.length : Nat) : Int)) (.bool true) (fun _ => rfl) rfl rfl (ltN hdk _ _ _) rfl ?_
            refine wl_mv (.tmp 38) (.bool true) (fun _ => rfl) rfl rfl ?_
            refine wl_mv (.tmp 6) (.slice (some ⟨k1, 0, none⟩) V.length V.length) (fun _ => rfl) e110_6 rfl ?_
            refine wl_mv (.tmp 8) (.int .i64 ((a : Nat) : Int)) (fun _ => rfl) e110_8 rfl ?_
            refine wl_bin (fun x y => Instr.indexAt 81 x y) (.tmp 40) (.tmp 41) (.slice (some ⟨k1, 0, none⟩) V.length V.length) (.int .i64 ((a : Nat) : Int)) (pt k1 (0 + a * 1)) (fun _ => rfl) rfl rfl (ix81 (i := a) rfl hal _) rfl ?_
            refine wl_load 4 (.tmp 42) (pt k1 (0 + a * 1)) (.bool true) rfl rfl (run_one QO 4 (0 + a * 1) (by simp [hva]) Try.underlying4 rfl) rfl ?_
            refine wl_un (fun v => Op.unary .not v) (.tmp 43) (.bool true) (.bool false) (fun _ => rfl) rfl (by kernel_rfl) rfl ?_
            refine wl_pick (.tmp 39) (.tmp 44) (.const (.bool false)) true (.bool false) (fun _ => rfl) rfl rfl rfl ?_
            refine w_nil ?_
            refine xn_then ?_
            refine w_condF rfl ?_
            refine w_exit ?_
            refine xx_then ?_
            refine xx_then ?_
            refine xx_blk ?_
            refine xn_blk ?_
            refine xn_then ?_
            refine w_reg ?_
            refine wl_mv (.tmp 8) (.int .i64 ((a : Nat) : Int)) (fun _ => rfl) e110_8 rfl ?_
            refine wl_bin (fun x y => do eqGuard .add 3 (.tmp 30) (.const (.int .i64 (1))) x y; binOp .add 3 x y) (.tmp 30) (.const (.int .i64 (1))) (.int .i64 ((a : Nat) : Int)) (.int .i64 (1)) (.int .i64 ((a + 1 : Nat) : Int)) (fun _ => rfl) rfl rfl (add1r (k := a) (by omega) _ _ _) rfl ?_
            refine wl_mv (.tmp 31) (.int .i64 ((a + 1 : Nat) : Int)) (fun _ => rfl) rfl rfl ?_
            refine w_nil ?_
            exact xn_loop (V.length - (a + 1)) (by omega) ⟨a + 1, B2, b2, rfl, e110_1, e110_5, e110_6, e110_7, rfl, by omega, hl2, hO, hS2, hB1, (fun e => (⟨(hB0 e).1, fun n hn hz => by rcases Nat.lt_or_ge n a with q | q; (exact (hB0 e).2 n q hz); (have e9 : n = a := by omega); subst e9; exact hcase hz⟩)), hNg, M⟩
          | false =>
            have hie : i = x.L.length := by have := of_decide_eq_false hdk; omega
            rw [hie, List.take_length, ← hxL] at hno
            have hcase : B2[a]? = some false → ∀ y ∈ row (RA l) a, y ≠ nn ∧ B2[y]? ≠ some true := fun _ => hno
            refine w_seq ?_
            refine w_seq ?_
            refine w_reg ?_
            refine wl_mv (.tmp 9) (.int .i64 ((i : Nat) : Int)) (fun _ => rfl) e110_9 rfl ?_
            refine wl_mv (.tmp 5) (.slice pv V.length cv) (fun _ => rfl) e110_5 rfl ?_
            refine wl_mv (.tmp 8) (.int .i64 ((a : Nat) : Int)) (fun _ => rfl) e110_8 rfl ?_
            refine wl_bin (fun x y => Instr.indexAt 79 x y) (.tmp 33) (.tmp 34) (.slice pv V.length cv) (.int .i64 ((a : Nat) : Int)) (pt bp (op + a * 1)) (fun _ => rfl) rfl rfl (ix79 (i := a) hpp hal _) rfl ?_
            refine wl_load 32 (.tmp 35) (pt bp (op + a * 1)) (.slice x.pa x.L.length x.cap) rfl rfl (D.run_oneR (hRp.mo M).at' 32 0 rfl Try.underlying32 rfl) rfl ?_
            refine wl_val (.int .i64 ((x.L.length : Nat) : Int)) (len32 _ _ _ _ _ (by exact rfl) _ _ _ _ _ _) rfl ?_
            refine wl_bin (fun x y => do eqGuard .lss 3 (.tmp 32) (.tmp 37) x y; binOp .lss 3 x y) (.tmp 32) (.tmp 37) (.int .i64 ((i : Nat) : Int)) (.int .i64 ((x.L.length : Nat) : Int)) (.bool false) (fun _ => rfl) rfl rfl (ltN hdk _ _ _) rfl ?_
            refine wl_mv (.tmp 38) (.bool false) (fun _ => rfl) rfl rfl ?_
            refine wl_skip rfl ?_
            refine wl_skip rfl ?_
            refine wl_skip rfl ?_
            refine wl_skip rfl ?_
            refine wl_skip rfl ?_
            refine wl_pick (.tmp 39) (.tmp 44) (.const (.bool false)) false (.bool false) (fun _ => rfl) rfl rfl rfl ?_
            refine w_nil ?_
            refine xn_then ?_
            refine w_condF rfl ?_
            refine w_exit ?_
            refine xx_then ?_
            refine xx_then ?_
            refine xx_blk ?_
            refine xn_blk ?_
            refine xn_then ?_
            refine w_reg ?_
            refine wl_mv (.tmp 8) (.int .i64 ((a : Nat) : Int)) (fun _ => rfl) e110_8 rfl ?_
            refine wl_bin (fun x y => do eqGuard .add 3 (.tmp 30) (.const (.int .i64 (1))) x y; binOp .add 3 x y) (.tmp 30) (.const (.int .i64 (1))) (.int .i64 ((a : Nat) : Int)) (.int .i64 (1)) (.int .i64 ((a + 1 : Nat) : Int)) (fun _ => rfl) rfl rfl (add1r (k := a) (by omega) _ _ _) rfl ?_
            refine wl_mv (.tmp 31) (.int .i64 ((a + 1 : Nat) : Int)) (fun _ => rfl) rfl rfl ?_
            refine w_nil ?_
            exact xn_loop (V.length - (a + 1)) (by omega) ⟨a + 1, B2, b2, rfl, e110_1, e110_5, e110_6, e110_7, rfl, by omega, hl2, hO, hS2, hB1, (fun e => (⟨(hB0 e).1, fun n hn hz => by rcases Nat.lt_or_ge n a with q | q; (exact (hB0 e).2 n q hz); (have e9 : n = a := by omega); subst e9; exact hcase hz⟩)), hNg, M⟩
        | false =>
          have QO := hO.at
          cases hdk : decide (i < x.L.length) with
          | true =>
            have hil := of_decide_eq_true hdk
            obtain ⟨y, hy⟩ := get_of_lt hil
            have hyr : y ∈ row (RA l) a := by rw [hxL]; exact List.mem_of_getElem? hy
            have hyb : y < V.length := by have := (RA_in l).row hyr; omega
            obtain ⟨vy, hvy⟩ := get_of_lt (show y < B2.length by omega)
            obtain ⟨bq, oq, hpq, hRq⟩ := D.SL.rw hLx hy
            cases hdy : decide (((y : Nat) : Int) = ((nn : Nat) : Int)) with
            | true =>
              have hyn : y = nn := by have := of_decide_eq_true hdy; omega
              have hrc : Rch (RA l) a nn := Rch.one (hyn ▸ hyr)
              refine w_seq ?_
              refine w_seq ?_
              refine w_reg ?_
              refine wl_mv (.tmp 9) (.int .i64 ((i : Nat) : Int)) (fun _ => rfl) e110_9 rfl ?_
              refine wl_mv (.tmp 5) (.slice pv V.length cv) (fun _ => rfl) e110_5 rfl ?_
              refine wl_mv (.tmp 8) (.int .i64 ((a : Nat) : Int)) (fun _ => rfl) e110_8 rfl ?_
              refine wl_bin (fun x y => Instr.indexAt 79 x y) (.tmp 33) (.tmp 34) (.slice pv V.length cv) (.int .i64 ((a : Nat) : Int)) (pt bp (op + a * 1)) (fun _ => rfl) rfl rfl (ix79 (i := a) hpp hal _) rfl ?_
              refine wl_load 32 (.tmp 35) (pt bp (op + a * 1)) (.slice x.pa x.L.length x.cap) rfl rfl (D.run_oneR (hRp.mo M).at' 32 0 rfl Try.underlying32 rfl) rfl ?_
              refine wl_val (.int .i64 ((x.L.length : Nat) : Int)) (len32 _ _ _ _ _ (by exact rfl) _ _ _ _ _ _) rfl ?_
              refine wl_bin (fun x y => do eqGuard .lss 3 (.tmp 32) (.tmp 37) x y; binOp .lss 3 x y) (.tmp 32) (.tmp 37) (.int .i64 ((i : Nat) : Int)) (.int .i64 ((x.L.length : Nat) : Int)) (.bool true) (fun _ => rfl) rfl rfl (ltN hdk _ _ _) rfl ?_
              refine wl_mv (.tmp 38) (.bool true) (fun _ => rfl) rfl rfl ?_
              refine wl_mv (.tmp 6) (.slice (some ⟨k1, 0, none⟩) V.length V.length) (fun _ => rfl) e110_6 rfl ?_
              refine wl_mv (.tmp 8) (.int .i64 ((a : Nat) : Int)) (fun _ => rfl) e110_8 rfl ?_
              refine wl_bin (fun x y => Instr.indexAt 81 x y) (.tmp 40) (.tmp 41) (.slice (some ⟨k1, 0, none⟩) V.length V.length) (.int .i64 ((a : Nat) : Int)) (pt k1 (0 + a * 1)) (fun _ => rfl) rfl rfl (ix81 (i := a) rfl hal _) rfl ?_
              refine wl_load 4 (.tmp 42) (pt k1 (0 + a * 1)) (.bool false) rfl rfl (run_one QO 4 (0 + a * 1) (by simp [hva]) Try.underlying4 rfl) rfl ?_
              refine wl_un (fun v => Op.unary .not v) (.tmp 43) (.bool false) (.bool true) (fun _ => rfl) rfl (by kernel_rfl) rfl ?_
              refine wl_pick (.tmp 39) (.tmp 44) (.const (.bool false)) true (.bool true) (fun _ => rfl) rfl rfl rfl ?_
              refine w_nil ?_
              refine xn_then ?_
              refine w_condT rfl ?_
              refine w_skip ?_
              refine xn_then ?_
              refine w_seq ?_
              refine w_block ?_
              refine w_seq ?_
              refine w_reg ?_
              refine wl_mv (.tmp 5) (.slice pv V.length cv) (fun _ => rfl) e110_5 rfl ?_
              refine wl_mv (.tmp 8) (.int .i64 ((a : Nat) : Int)) (fun _ => rfl) e110_8 rfl ?_
              refine wl_bin (fun x y => Instr.indexAt 79 x y) (.tmp 48) (.tmp 49) (.slice pv V.length cv) (.int .i64 ((a : Nat) : Int)) (pt bp (op + a * 1)) (fun _ => rfl) rfl rfl (ix79 (i := a) hpp hal _) rfl ?_
              refine wl_load 32 (.tmp 50) (pt bp (op + a * 1)) (.slice x.pa x.L.length x.cap) rfl rfl (D.run_oneR (hRp.mo M).at' 32 0 rfl Try.underlying32 rfl) rfl ?_
              refine wl_mv (.tmp 9) (.int .i64 ((i : Nat) : Int)) (fun _ => rfl) e110_9 rfl ?_
              refine wl_bin (fun x y => Instr.indexAt 32 x y) (.tmp 51) (.tmp 52) (.slice x.pa x.L.length x.cap) (.int .i64 ((i : Nat) : Int)) (pt bq (oq + i * 1)) (fun _ => rfl) rfl rfl (ix32 (i := i) hpq hil _) rfl ?_
              refine wl_load 3 (.tmp 53) (pt bq (oq + i * 1)) (.int .i64 ((y : Nat) : Int)) rfl rfl (D.run_oneR (hRq.mo M).at' 3 0 rfl Try.underlying3 rfl) rfl ?_
              refine wl_mv (.tmp 1) (.int .i64 ((nn : Nat) : Int)) (fun _ => rfl) e110_1 rfl ?_
              refine wl_bin (fun x y => do eqGuard .eql 3 (.tmp 54) (.tmp 55) x y; binOp .eql 3 x y) (.tmp 54) (.tmp 55) (.int .i64 ((y : Nat) : Int)) (.int .i64 ((nn : Nat) : Int)) (.bool true) (fun _ => rfl) rfl rfl (eq3 hdy _ _ _) rfl ?_
              refine wl_mv (.tmp 56) (.bool true) (fun _ => rfl) rfl rfl ?_
              refine wl_skip rfl ?_
              refine wl_skip rfl ?_
              refine wl_skip rfl ?_
              refine wl_skip rfl ?_
              refine wl_skip rfl ?_
              refine wl_skip rfl ?_
              refine wl_skip rfl ?_
              refine wl_skip rfl ?_
              refine wl_skip rfl ?_
              refine wl_skip rfl ?_
              refine wl_pick (.tmp 57) (.const (.bool true)) (.tmp 67) true (.bool true) (fun _ => rfl) rfl rfl rfl ?_
              refine w_nil ?_
              refine xn_then ?_
              refine w_condT rfl ?_
              refine w_seq ?_
              refine w_reg ?_
              refine wl_mv (.tmp 6) (.slice (some ⟨k1, 0, none⟩) V.length V.length) (fun _ => rfl) e110_6 rfl ?_
              refine wl_mv (.tmp 8) (.int .i64 ((a : Nat) : Int)) (fun _ => rfl) e110_8 rfl ?_
              refine wl_bin (fun x y => Instr.indexAt 81 x y) (.tmp 69) (.tmp 70) (.slice (some ⟨k1, 0, none⟩) V.length V.length) (.int .i64 ((a : Nat) : Int)) (pt k1 (0 + a * 1)) (fun _ => rfl) rfl rfl (ix81 (i := a) rfl hal _) rfl ?_
              refine wl_sti 4 (.tmp 71) (.const (.bool true)) k1 (0 + a * 1) (.bool true) 4 _ hO rfl rfl rfl rfl (by simp; omega) sz4 rfl rfl rfl ?_
              intro u111 hK9 hO9
              replace M := hK9.mo M (fun k e => e ▸ N_k1)
              clear QO hO
              have hO : Ob u111 k1 4 ((B2.set a true).map Value.bool) := by rw [List.map_set]; simpa using hO9
              refine w_nil ?_
              refine xn_then ?_
              refine w_reg ?_
              refine wl_mv (.const (.bool true)) (.bool true) (fun _ => rfl) rfl rfl ?_
              refine w_nil ?_
              refine xn_blk ?_
              refine xn_then ?_
              refine w_reg ?_
              refine wl_mv (.tmp 9) (.int .i64 ((i : Nat) : Int)) (fun _ => rfl) e110_9 rfl ?_
              refine wl_bin (fun x y => do eqGuard .add 3 (.tmp 46) (.const (.int .i64 (1))) x y; binOp .add 3 x y) (.tmp 46) (.const (.int .i64 (1))) (.int .i64 ((i : Nat) : Int)) (.int .i64 (1)) (.int .i64 ((i + 1 : Nat) : Int)) (fun _ => rfl) rfl rfl (add1r (k := i) (by omega) _ _ _) rfl ?_
              refine wl_mv (.tmp 47) (.int .i64 ((i + 1 : Nat) : Int)) (fun _ => rfl) rfl rfl ?_
              refine w_nil ?_
              exact xn_loop (x.L.length - (i + 1)) (by omega) ⟨i + 1, B2.set a true, true, rfl, e110_1, e110_5, e110_6, rfl, e110_8, rfl, by omega, hO, Or.inr ⟨rfl, rfl, hva, hrc⟩, M⟩
            | false =>
              have hyn : y ≠ nn := by have := of_decide_eq_false hdy; omega
              cases vy with
              | true =>
                have hrc : Rch (RA l) a nn := Rch.cons hyr (hS2 y hvy)
                refine w_seq ?_
                refine w_seq ?_
                refine w_reg ?_
                refine wl_mv (.tmp 9) (.int .i64 ((i : Nat) : Int)) (fun _ => rfl) e110_9 rfl ?_
                refine wl_mv (.tmp 5) (.slice pv V.length cv) (fun _ => rfl) e110_5 rfl ?_
                refine wl_mv (.tmp 8) (.int .i64 ((a : Nat) : Int)) (fun _ => rfl) e110_8 rfl ?_
                refine wl_bin (fun x y => Instr.indexAt 79 x y) (.tmp 33) (.tmp 34) (.slice pv V.length cv) (.int .i64 ((a : Nat) : Int)) (pt bp (op + a * 1)) (fun _ => rfl) rfl rfl (ix79 (i := a) hpp hal _) rfl ?_
                refine wl_load 32 (.tmp 35) (pt bp (op + a * 1)) (.slice x.pa x.L.length x.cap) rfl rfl (D.run_oneR (hRp.mo M).at' 32 0 rfl Try.underlying32 rfl) rfl ?_
                refine wl_val (.int .i64 ((x.L.length : Nat) : Int)) (len32 _ _ _ _ _ (by exact rfl) _ _ _ _ _ _) rfl ?_
                refine wl_bin (fun x y => do eqGuard .lss 3 (.tmp 32) (.tmp 37) x y; binOp .lss 3 x y) (.tmp 32) (.tmp 37) (.int .i64 ((i : Nat) : Int)) (.int .i64 ((x.L.length : Nat) : Int)) (.bool true) (fun _ => rfl) rfl rfl (ltN hdk _ _ _) rfl ?_
                refine wl_mv (.tmp 38) (.bool true) (fun _ => rfl) rfl rfl ?_
                refine wl_mv (.tmp 6) (.slice (some ⟨k1, 0, none⟩) V.length V.length) (fun _ => rfl) e110_6 rfl ?_
                refine wl_mv (.tmp 8) (.int .i64 ((a : Nat) : Int)) (fun _ => rfl) e110_8 rfl ?_
                refine wl_bin (fun x y => Instr.indexAt 81 x y) (.tmp 40) (.tmp 41) (.slice (some ⟨k1, 0, none⟩) V.length V.length) (.int .i64 ((a : Nat) : Int)) (pt k1 (0 + a * 1)) (fun _ => rfl) rfl rfl (ix81 (i := a) rfl hal _) rfl ?_
                refine wl_load 4 (.tmp 42) (pt k1 (0 + a * 1)) (.bool false) rfl rfl (run_one QO 4 (0 + a * 1) (by simp [hva]) Try.underlying4 rfl) rfl ?_
                refine wl_un (fun v => Op.unary .not v) (.tmp 43) (.bool false) (.bool true) (fun _ => rfl) rfl (by kernel_rfl) rfl ?_
                refine wl_pick (.tmp 39) (.tmp 44) (.const (.bool false)) true (.bool true) (fun _ => rfl) rfl rfl rfl ?_
                refine w_nil ?_
                refine xn_then ?_
                refine w_condT rfl ?_
                refine w_skip ?_
                refine xn_then ?_
                refine w_seq ?_
                refine w_block ?_
                refine w_seq ?_
                refine w_reg ?_
                refine wl_mv (.tmp 5) (.slice pv V.length cv) (fun _ => rfl) e110_5 rfl ?_
                refine wl_mv (.tmp 8) (.int .i64 ((a : Nat) : Int)) (fun _ => rfl) e110_8 rfl ?_
                refine wl_bin (fun x y => Instr.indexAt 79 x y) (.tmp 48) (.tmp 49) (.slice pv V.length cv) (.int .i64 ((a : Nat) : Int)) (pt bp (op + a * 1)) (fun _ => rfl) rfl rfl (ix79 (i := a) hpp hal _) rfl ?_
                refine wl_load 32 (.tmp 50) (pt bp (op + a * 1)) (.slice x.pa x.L.length x.cap) rfl rfl (D.run_oneR (hRp.mo M).at' 32 0 rfl Try.underlying32 rfl) rfl ?_
                refine wl_mv (.tmp 9) (.int .i64 ((i : Nat) : Int)) (fun _ => rfl) e110_9 rfl ?_
                refine wl_bin (fun x y => Instr.indexAt 32 x y) (.tmp 51) (.tmp 52) (.slice x.pa x.L.length x.cap) (.int .i64 ((i : Nat) : Int)) (pt bq (oq + i * 1)) (fun _ => rfl) rfl rfl (ix32 (i := i) hpq hil _) rfl ?_
                refine wl_load 3 (.tmp 53) (pt bq (oq + i * 1)) (.int .i64 ((y : Nat) : Int)) rfl rfl (D.run_oneR (hRq.mo M).at' 3 0 rfl Try.underlying3 rfl) rfl ?_
                refine wl_mv (.tmp 1) (.int .i64 ((nn : Nat) : Int)) (fun _ => rfl) e110_1 rfl ?_
                refine wl_bin (fun x y => do eqGuard .eql 3 (.tmp 54) (.tmp 55) x y; binOp .eql 3 x y) (.tmp 54) (.tmp 55) (.int .i64 ((y : Nat) : Int)) (.int .i64 ((nn : Nat) : Int)) (.bool false) (fun _ => rfl) rfl rfl (eq3 hdy _ _ _) rfl ?_
                refine wl_mv (.tmp 56) (.bool false) (fun _ => rfl) rfl rfl ?_
                refine wl_mv (.tmp 6) (.slice (some ⟨k1, 0, none⟩) V.length V.length) (fun _ => rfl) e110_6 rfl ?_
                refine wl_mv (.tmp 5) (.slice pv V.length cv) (fun _ => rfl) e110_5 rfl ?_
                refine wl_mv (.tmp 8) (.int .i64 ((a : Nat) : Int)) (fun _ => rfl) e110_8 rfl ?_
                refine wl_bin (fun x y => Instr.indexAt 79 x y) (.tmp 59) (.tmp 60) (.slice pv V.length cv) (.int .i64 ((a : Nat) : Int)) (pt bp (op + a * 1)) (fun _ => rfl) rfl rfl (ix79 (i := a) hpp hal _) rfl ?_
                refine wl_load 32 (.tmp 61) (pt bp (op + a * 1)) (.slice x.pa x.L.length x.cap) rfl rfl (D.run_oneR (hRp.mo M).at' 32 0 rfl Try.underlying32 rfl) rfl ?_
                refine wl_mv (.tmp 9) (.int .i64 ((i : Nat) : Int)) (fun _ => rfl) e110_9 rfl ?_
                refine wl_bin (fun x y => Instr.indexAt 32 x y) (.tmp 62) (.tmp 63) (.slice x.pa x.L.length x.cap) (.int .i64 ((i : Nat) : Int)) (pt bq (oq + i * 1)) (fun _ => rfl) rfl rfl (ix32 (i := i) hpq hil _) rfl ?_
                refine wl_load 3 (.tmp 64) (pt bq (oq + i * 1)) (.int .i64 ((y : Nat) : Int)) rfl rfl (D.run_oneR (hRq.mo M).at' 3 0 rfl Try.underlying3 rfl) rfl ?_
                refine wl_bin (fun x y => Instr.indexAt 81 x y) (.tmp 58) (.tmp 65) (.slice (some ⟨k1, 0, none⟩) V.length V.length) (.int .i64 ((y : Nat) : Int)) (pt k1 (0 + y * 1)) (fun _ => rfl) rfl rfl (ix81 (i := y) rfl hyb _) rfl ?_
                refine wl_load 4 (.tmp 66) (pt k1 (0 + y * 1)) (.bool true) rfl rfl (run_one QO 4 (0 + y * 1) (by simp [hvy]) Try.underlying4 rfl) rfl ?_
                refine wl_pick (.tmp 57) (.const (.bool true)) (.tmp 67) false (.bool true) (fun _ => rfl) rfl rfl rfl ?_
                refine w_nil ?_
                refine xn_then ?_
                refine w_condT rfl ?_
                refine w_seq ?_
                refine w_reg ?_
                refine wl_mv (.tmp 6) (.slice (some ⟨k1, 0, none⟩) V.length V.length) (fun _ => rfl) e110_6 rfl ?_
                refine wl_mv (.tmp 8) (.int .i64 ((a : Nat) : Int)) (fun _ => rfl) e110_8 rfl ?_
                refine wl_bin (fun x y => Instr.indexAt 81 x y) (.tmp 69) (.tmp 70) (.slice (some ⟨k1, 0, none⟩) V.length V.length) (.int .i64 ((a : Nat) : Int)) (pt k1 (0 + a * 1)) (fun _ => rfl) rfl rfl (ix81 (i := a) rfl hal _) rfl ?_
                refine wl_sti 4 (.tmp 71) (.const (.bool true)) k1 (0 + a * 1) (.bool true) 4 _ hO rfl rfl rfl rfl (by simp; omega) sz4 rfl rfl rfl ?_
                intro u111 hK9 hO9
                replace M := hK9.mo M (fun k e => e ▸ N_k1)
                clear QO hO
                have hO : Ob u111 k1 4 ((B2.set a true).map Value.bool) := by rw [List.map_set]; simpa using hO9
                refine w_nil ?_
                refine xn_then ?_
                refine w_reg ?_
                refine wl_mv (.const (.bool true)) (.bool true) (fun _ => rfl) rfl rfl ?_
                refine w_nil ?_
                refine xn_blk ?_
                refine xn_then ?_
                refine w_reg ?_
                refine wl_mv (.tmp 9) (.int .i64 ((i : Nat) : Int)) (fun _ => rfl) e110_9 rfl ?_
                refine wl_bin (fun x y => do eqGuard .add 3 (.tmp 46) (.const (.int .i64 (1))) x y; binOp .add 3 x y) (.tmp 46) (.const (.int .i64 (1))) (.int .i64 ((i : Nat) : Int)) (.int .i64 (1)) (.int .i64 ((i + 1 : Nat) : Int)) (fun _ => rfl) rfl rfl (add1r (k := i) (by omega) _ _ _) rfl ?_
                refine wl_mv (.tmp 47) (.int .i64 ((i + 1 : Nat) : Int)) (fun _ => rfl) rfl rfl ?_
                refine w_nil ?_
                exact xn_loop (x.L.length - (i + 1)) (by omega) ⟨i + 1, B2.set a true, true, rfl, e110_1, e110_5, e110_6, rfl, e110_8, rfl, by omega, hO, Or.inr ⟨rfl, rfl, hva, hrc⟩, M⟩
              | false =>
                refine w_seq ?_
                refine w_seq ?_
                refine w_reg ?_
                refine wl_mv (.tmp 9) (.int .i64 ((i : Nat) : Int)) (fun _ => rfl) e110_9 rfl ?_
                refine wl_mv (.tmp 5) (.slice pv V.length cv) (fun _ => rfl) e110_5 rfl ?_
                refine wl_mv (.tmp 8) (.int .i64 ((a : Nat) : Int)) (fun _ => rfl) e110_8 rfl ?_
                refine wl_bin (fun x y => Instr.indexAt 79 x y) (.tmp 33) (.tmp 34) (.slice pv V.length cv) (.int .i64 ((a : Nat) : Int)) (pt bp (op + a * 1)) (fun _ => rfl) rfl rfl (ix79 (i := a) hpp hal _) rfl ?_
                refine wl_load 32 (.tmp 35) (pt bp (op + a * 1)) (.slice x.pa x.L.length x.cap) rfl rfl (D.run_oneR (hRp.mo M).at' 32 0 rfl Try.underlying32 rfl) rfl ?_
                refine wl_val (.int .i64 ((x.L.length : Nat) : Int)) (len32 _ _ _ _ _ (by exact rfl) _ _ _ _ _ _) rfl ?_
                refine wl_bin (fun x y => do eqGuard .lss 3 (.tmp 32) (.tmp 37) x y; binOp .lss 3 x y) (.tmp 32) (.tmp 37) (.int .i64 ((i : Nat) : Int)) (.int .i64 ((x.L.length : Nat) : Int)) (.bool true) (fun _ => rfl) rfl rfl (ltN hdk _ _ _) rfl ?_
                refine wl_mv (.tmp 38) (.bool true) (fun _ => rfl) rfl rfl ?_
                refine wl_mv (.tmp 6) (.slice (some ⟨k1, 0, none⟩) V.length V.length) (fun _ => rfl) e110_6 rfl ?_
                refine wl_mv (.tmp 8) (.int .i64 ((a : Nat) : Int)) (fun _ => rfl) e110_8 rfl ?_
                refine wl_bin (fun x y => Instr.indexAt 81 x y) (.tmp 40) (.tmp 41) (.slice (some ⟨k1, 0, none⟩) V.length V.length) (.int .i64 ((a : Nat) : Int)) (pt k1 (0 + a * 1)) (fun _ => rfl) rfl rfl (ix81 (i := a) rfl hal _) rfl ?_
                refine wl_load 4 (.tmp 42) (pt k1 (0 + a * 1)) (.bool false) rfl rfl (run_one QO 4 (0 + a * 1) (by simp [hva]) Try.underlying4 rfl) rfl ?_
                refine wl_un (fun v => Op.unary .not v) (.tmp 43) (.bool false) (.bool true) (fun _ => rfl) rfl (by kernel_rfl) rfl ?_
                refine wl_pick (.tmp 39) (.tmp 44) (.const (.bool false)) true (.bool true) (fun _ => rfl) rfl rfl rfl ?_
                refine w_nil ?_
                refine xn_then ?_
                refine w_condT rfl ?_
                refine w_skip ?_
                refine xn_then ?_
                refine w_seq ?_
                refine w_block ?_
                refine w_seq ?_
                refine w_reg ?_
                refine wl_mv (.tmp 5) (.slice pv V.length cv) (fun _ => rfl) e110_5 rfl ?_
                refine wl_mv (.tmp 8) (.int .i64 ((a : Nat) : Int)) (fun _ => rfl) e110_8 rfl ?_
                refine wl_bin (fun x y => Instr.indexAt 79 x y) (.tmp 48) (.tmp 49) (.slice pv V.length cv) (.int .i64 ((a : Nat) : Int)) (pt bp (op + a * 1)) (fun _ => rfl) rfl rfl (ix79 (i := a) hpp hal _) rfl ?_
                refine wl_load 32 (.tmp 50) (pt bp (op + a * 1)) (.slice x.pa x.L.length x.cap) rfl rfl (D.run_oneR (hRp.mo M).at' 32 0 rfl Try.underlying32 rfl) rfl ?_
                refine wl_mv (.tmp 9) (.int .i64 ((i : Nat) : Int)) (fun _ => rfl) e110_9 rfl ?_
                refine wl_bin (fun x y => Instr.indexAt 32 x y) (.tmp 51) (.tmp 52) (.slice x.pa x.L.length x.cap) (.int .i64 ((i : Nat) : Int)) (pt bq (oq + i * 1)) (fun _ => rfl) rfl rfl (ix32 (i := i) hpq hil _) rfl ?_
                refine wl_load 3 (.tmp 53) (pt bq (oq + i * 1)) (.int .i64 ((y : Nat) : Int)) rfl rfl (D.run_oneR (hRq.mo M).at' 3 0 rfl Try.underlying3 rfl) rfl ?_
                refine wl_mv (.tmp 1) (.int .i64 ((nn : Nat) : Int)) (fun _ => rfl) e110_1 rfl ?_
                refine wl_bin (fun x y => do eqGuard .eql 3 (.tmp 54) (.tmp 55) x y; binOp .eql 3 x y) (.tmp 54) (.tmp 55) (.int .i64 ((y : Nat) : Int)) (.int .i64 ((nn : Nat) : Int)) (.bool false) (fun _ => rfl) rfl rfl (eq3 hdy _ _ _) rfl ?_
                refine wl_mv (.tmp 56) (.bool false) (fun _ => rfl) rfl rfl ?_
                refine wl_mv (.tmp 6) (.slice (some ⟨k1, 0, none⟩) V.length V.length) (fun _ => rfl) e110_6 rfl ?_
                refine wl_mv (.tmp 5) (.slice pv V.length cv) (fun _ => rfl) e110_5 rfl ?_
                refine wl_mv (.tmp 8) (.int .i64 ((a : Nat) : Int)) (fun _ => rfl) e110_8 rfl ?_
                refine wl_bin (fun x y => Instr.indexAt 79 x y) (.tmp 59) (.tmp 60) (.slice pv V.length cv) (.int .i64 ((a : Nat) : Int)) (pt bp (op + a * 1)) (fun _ => rfl) rfl rfl (ix79 (i := a) hpp hal _) rfl ?_
                refine wl_load 32 (.tmp 61) (pt bp (op + a * 1)) (.slice x.pa x.L.length x.cap) rfl rfl (D.run_oneR (hRp.mo M).at' 32 0 rfl Try.underlying32 rfl) rfl ?_
                refine wl_mv (.tmp 9) (.int .i64 ((i : Nat) : Int)) (fun _ => rfl) e110_9 rfl ?_
                refine wl_bin (fun x y => Instr.indexAt 32 x y) (.tmp 62) (.tmp 63) (.slice x.pa x.L.length x.cap) (.int .i64 ((i : Nat) : Int)) (pt bq (oq + i * 1)) (fun _ => rfl) rfl rfl (ix32 (i := i) hpq hil _) rfl ?_
                refine wl_load 3 (.tmp 64) (pt bq (oq + i * 1)) (.int .i64 ((y : Nat) : Int)) rfl rfl (D.run_oneR (hRq.mo M).at' 3 0 rfl Try.underlying3 rfl) rfl ?_
                refine wl_bin (fun x y => Instr.indexAt 81 x y) (.tmp 58) (.tmp 65) (.slice (some ⟨k1, 0, none⟩) V.length V.length) (.int .i64 ((y : Nat) : Int)) (pt k1 (0 + y * 1)) (fun _ => rfl) rfl rfl (ix81 (i := y) rfl hyb _) rfl ?_
                refine wl_load 4 (.tmp 66) (pt k1 (0 + y * 1)) (.bool false) rfl rfl (run_one QO 4 (0 + y * 1) (by simp [hvy]) Try.underlying4 rfl) rfl ?_
                refine wl_pick (.tmp 57) (.const (.bool true)) (.tmp 67) false (.bool false) (fun _ => rfl) rfl rfl rfl ?_
                refine w_nil ?_
                refine xn_then ?_
                refine w_condF rfl ?_
                refine w_skip ?_
                refine xn_blk ?_
                refine xn_then ?_
                refine w_reg ?_
                refine wl_mv (.tmp 9) (.int .i64 ((i : Nat) : Int)) (fun _ => rfl) e110_9 rfl ?_
                refine wl_bin (fun x y => do eqGuard .add 3 (.tmp 46) (.const (.int .i64 (1))) x y; binOp .add 3 x y) (.tmp 46) (.const (.int .i64 (1))) (.int .i64 ((i : Nat) : Int)) (.int .i64 (1)) (.int .i64 ((i + 1 : Nat) : Int)) (fun _ => rfl) rfl rfl (add1r (k := i) (by omega) _ _ _) rfl ?_
                refine wl_mv (.tmp 47) (.int .i64 ((i + 1 : Nat) : Int)) (fun _ => rfl) rfl rfl ?_
                refine w_nil ?_
                exact xn_loop (x.L.length - (i + 1)) (by omega) ⟨i + 1, B2, b2, rfl, e110_1, e110_5, e110_6, e110_7, e110_8, rfl, by omega, hO, Or.inl ⟨rfl, rfl, fun z hz => by rw [List.take_add_one, hy] at hz; rcases List.mem_append.1 hz with q | q; (exact hno z q); (simp at q; subst q; exact ⟨hyn, fun e => by rw [hvy] at e; cases e⟩)⟩, M⟩
          | false =>
            have hie : i = x.L.length := by have := of_decide_eq_false hdk; omega
            rw [hie, List.take_length, ← hxL] at hno
            have hcase : B2[a]? = some false → ∀ y ∈ row (RA l) a, y ≠ nn ∧ B2[y]? ≠ some true := fun _ => hno
            refine w_seq ?_
            refine w_seq ?_
            refine w_reg ?_
            refine wl_mv (.tmp 9) (.int .i64 ((i : Nat) : Int)) (fun _ => rfl) e110_9 rfl ?_
            refine wl_mv (.tmp 5) (.slice pv V.length cv) (fun _ => rfl) e110_5 rfl ?_
            refine wl_mv (.tmp 8) (.int .i64 ((a : Nat) : Int)) (fun _ => rfl) e110_8 rfl ?_
            refine wl_bin (fun x y => Instr.indexAt 79 x y) (.tmp 33) (.tmp 34) (.slice pv V.length cv) (.int .i64 ((a : Nat) : Int)) (pt bp (op + a * 1)) (fun _ => rfl) rfl rfl (ix79 (i := a) hpp hal _) rfl ?_
            refine wl_load 32 (.tmp 35) (pt bp (op + a * 1)) (.slice x.pa x.L.length x.cap) rfl rfl (D.run_oneR (hRp.mo M).at' 32 0 rfl Try.underlying32 rfl) rfl ?_
            refine wl_val (.int .i64 ((x.L.length : Nat) : Int)) (len32 _ _ _ _ _ (by exact rfl) _ _ _ _ _ _) rfl ?_
            refine wl_bin (fun x y => do eqGuard .lss 3 (.tmp 32) (.tmp 37) x y; binOp .lss 3 x y) (.tmp 32) (.tmp 37) (.int .i64 ((i : Nat) : Int)) (.int .i64 ((x.L.length : Nat) : Int)) (.bool false) (fun _ => rfl) rfl rfl (ltN hdk _ _ _) rfl ?_
            refine wl_mv (.tmp 38) (.bool false) (fun _ => rfl) rfl rfl ?_
            refine wl_skip rfl ?_
            refine wl_skip rfl ?_
            refine wl_skip rfl ?_
            refine wl_skip rfl ?_
            refine wl_skip rfl ?_
            refine wl_pick (.tmp 39) (.tmp 44) (.const (.bool false)) false (.bool false) (fun _ => rfl) rfl rfl rfl ?_
            refine w_nil ?_
            refine xn_then ?_
            refine w_condF rfl ?_
            refine w_exit ?_
            refine xx_then ?_
            refine xx_then ?_
            refine xx_blk ?_
            refine xn_blk ?_
            refine xn_then ?_
            refine w_reg ?_
            refine wl_mv (.tmp 8) (.int .i64 ((a : Nat) : Int)) (fun _ => rfl) e110_8 rfl ?_
            refine wl_bin (fun x y => do eqGuard .add 3 (.tmp 30) (.const (.int .i64 (1))) x y; binOp .add 3 x y) (.tmp 30) (.const (.int .i64 (1))) (.int .i64 ((a : Nat) : Int)) (.int .i64 (1)) (.int .i64 ((a + 1 : Nat) : Int)) (fun _ => rfl) rfl rfl (add1r (k := a) (by omega) _ _ _) rfl ?_
            refine wl_mv (.tmp 31) (.int .i64 ((a + 1 : Nat) : Int)) (fun _ => rfl) rfl rfl ?_
            refine w_nil ?_
            exact xn_loop (V.length - (a + 1)) (by omega) ⟨a + 1, B2, b2, rfl, e110_1, e110_5, e110_6, e110_7, rfl, by omega, hl2, hO, hS2, hB1, (fun e => (⟨(hB0 e).1, fun n hn hz => by rcases Nat.lt_or_ge n a with q | q; (exact (hB0 e).2 n q hz); (have e9 : n = a := by omega); subst e9; exact hcase hz⟩)), hNg, M⟩
      · skip
        have QO := hO.at
        have hse : (B2.set a true)[a]? = some true := List.getElem?_set_self (lt_of_get hfa)
        cases hdk : decide (i < x.L.length) with
        | true =>
          refine w_seq ?_
          refine w_seq ?_
          refine w_reg ?_
          refine wl_mv (.tmp 9) (.int .i64 ((i : Nat) : Int)) (fun _ => rfl) e110_9 rfl ?_
          refine wl_mv (.tmp 5) (.slice pv V.length cv) (fun _ => rfl) e110_5 rfl ?_
          refine wl_mv (.tmp 8) (.int .i64 ((a : Nat) : Int)) (fun _ => rfl) e110_8 rfl ?_
          refine wl_bin (fun x y => Instr.indexAt 79 x y) (.tmp 33) (.tmp 34) (.slice pv V.length cv) (.int .i64 ((a : Nat) : Int)) (pt bp (op + a * 1)) (fun _ => rfl) rfl rfl (ix79 (i := a) hpp hal _) rfl ?_
          refine wl_load 32 (.tmp 35) (pt bp (op + a * 1)) (.slice x.pa x.L.length x.cap) rfl rfl (D.run_oneR (hRp.mo M).at' 32 0 rfl Try.underlying32 rfl) rfl ?_
          refine wl_val (.int .i64 ((x.L.length : Nat) : Int)) (len32 _ _ _ _ _ (by exact rfl) _ _ _ _ _ _) rfl ?_
          refine wl_bin (fun x y => do eqGuard .lss 3 (.tmp 32) (.tmp 37) x y; binOp .lss 3 x y) (.tmp 32) (.tmp 37) (.int .i64 ((i : Nat) : Int)) (.int .i64 ((x.L.length : Nat) : Int)) (.bool true) (fun _ => rfl) rfl rfl (ltN hdk _ _ _) rfl ?_
          refine wl_mv (.tmp 38) (.bool true) (fun _ => rfl) rfl rfl ?_
          refine wl_mv (.tmp 6) (.slice (some ⟨k1, 0, none⟩) V.length V.length) (fun _ => rfl) e110_6 rfl ?_
          refine wl_mv (.tmp 8) (.int .i64 ((a : Nat) : Int)) (fun _ => rfl) e110_8 rfl ?_
          refine wl_bin (fun x y => Instr.indexAt 81 x y) (.tmp 40) (.tmp 41) (.slice (some ⟨k1, 0, none⟩) V.length V.length) (.int .i64 ((a : Nat) : Int)) (pt k1 (0 + a * 1)) (fun _ => rfl) rfl rfl (ix81 (i := a) rfl hal _) rfl ?_
          refine wl_load 4 (.tmp 42) (pt k1 (0 + a * 1)) (.bool true) rfl rfl (run_one QO 4 (0 + a * 1) (by rw [List.getElem?_map, Nat.zero_add, Nat.mul_one, hse]; rfl) Try.underlying4 rfl) rfl ?_
          refine wl_un (fun v => Op.unary .not v) (.tmp 43) (.bool true) (.bool false) (fun _ => rfl) rfl (by kernel_rfl) rfl ?_
          refine wl_pick (.tmp 39) (.tmp 44) (.const (.bool false)) true (.bool false) (fun _ => rfl) rfl rfl rfl ?_
          refine w_nil ?_
          refine xn_then ?_
          refine w_condF rfl ?_
          refine w_exit ?_
          refine xx_then ?_
          refine xx_then ?_
          refine xx_blk ?_
          refine xn_blk ?_
          refine xn_then ?_
          refine w_reg ?_
          refine wl_mv (.tmp 8) (.int .i64 ((a : Nat) : Int)) (fun _ => rfl) e110_8 rfl ?_
          refine wl_bin (fun x y => do eqGuard .add 3 (.tmp 30) (.const (.int .i64 (1))) x y; binOp .add 3 x y) (.tmp 30) (.const (.int .i64 (1))) (.int .i64 ((a : Nat) : Int)) (.int .i64 (1)) (.int .i64 ((a + 1 : Nat) : Int)) (fun _ => rfl) rfl rfl (add1r (k := a) (by omega) _ _ _) rfl ?_
          refine wl_mv (.tmp 31) (.int .i64 ((a + 1 : Nat) : Int)) (fun _ => rfl) rfl rfl ?_
          refine w_nil ?_
          exact xn_loop (V.length - (a + 1)) (by omega) ⟨a + 1, B2.set a true, true, rfl, e110_1, e110_5, e110_6, e110_7, rfl, by omega, (by simpa using hl2), hO, hS2.set hrc, (fun _ => by have := cfl_set hfa; omega), (fun e => by cases e), (by have := cfl_set hfa; omega), M⟩
        | false =>
          refine w_seq ?_
          refine w_seq ?_
          refine w_reg ?_
          refine wl_mv (.tmp 9) (.int .i64 ((i : Nat) : Int)) (fun _ => rfl) e110_9 rfl ?_
          refine wl_mv (.tmp 5) (.slice pv V.length cv) (fun _ => rfl) e110_5 rfl ?_
          refine wl_mv (.tmp 8) (.int .i64 ((a : Nat) : Int)) (fun _ => rfl) e110_8 rfl ?_
          refine wl_bin (fun x y => Instr.indexAt 79 x y) (.tmp 33) (.tmp 34) (.slice pv V.length cv) (.int .i64 ((a : Nat) : Int)) (pt bp (op + a * 1)) (fun _ => rfl) rfl rfl (ix79 (i := a) hpp hal _) rfl ?_
          refine wl_load 32 (.tmp 35) (pt bp (op + a * 1)) (.slice x.pa x.L.length x.cap) rfl rfl (D.run_oneR (hRp.mo M).at' 32 0 rfl Try.underlying32 rfl) rfl ?_
          refine wl_val (.int .i64 ((x.L.length : Nat) : Int)) (len32 _ _ _ _ _ (by exact rfl) _ _ _ _ _ _) rfl ?_
          refine wl_bin (fun x y => do eqGuard .lss 3 (.tmp 32) (.tmp 37) x y; binOp .lss 3 x y) (.tmp 32) (.tmp 37) (.int .i64 ((i : Nat) : Int)) (.int .i64 ((x.L.length : Nat) : Int)) (.bool false) (fun _ => rfl) rfl rfl (ltN hdk _ _ _) rfl ?_
          refine wl_mv (.tmp 38) (.bool false) (fun _ => rfl) rfl rfl ?_
          refine wl_skip rfl ?_
          refine wl_skip rfl ?_
          refine wl_skip rfl ?_
          refine wl_skip rfl ?_
          refine wl_skip rfl ?_
          refine wl_pick (.tmp 39) (.tmp 44) (.const (.bool false)) false (.bool false) (fun _ => rfl) rfl rfl rfl ?_
          refine w_nil ?_
          refine xn_then ?_
          refine w_condF rfl ?_
          refine w_exit ?_
          refine xx_then ?_
          refine xx_then ?_
          refine xx_blk ?_
          refine xn_blk ?_
          refine xn_then ?_
          refine w_reg ?_
          refine wl_mv (.tmp 8) (.int .i64 ((a : Nat) : Int)) (fun _ => rfl) e110_8 rfl ?_
          refine wl_bin (fun x y => do eqGuard .add 3 (.tmp 30) (.const (.int .i64 (1))) x y; binOp .add 3 x y) (.tmp 30) (.const (.int .i64 (1))) (.int .i64 ((a : Nat) : Int)) (.int .i64 (1)) (.int .i64 ((a + 1 : Nat) : Int)) (fun _ => rfl) rfl rfl (add1r (k := a) (by omega) _ _ _) rfl ?_
          refine wl_mv (.tmp 31) (.int .i64 ((a + 1 : Nat) : Int)) (fun _ => rfl) rfl rfl ?_
          refine w_nil ?_
          exact xn_loop (V.length - (a + 1)) (by omega) ⟨a + 1, B2.set a true, true, rfl, e110_1, e110_5, e110_6, e110_7, rfl, by omega, (by simpa using hl2), hO, hS2.set hrc, (fun _ => by have := cfl_set hfa; omega), (fun e => by cases e), (by have := cfl_set hfa; omega), M⟩
    | false =>
      have hie : a = V.length := by have := of_decide_eq_false hda; omega
      rw [hie] at hB0
      have hB3 : (if (true = true) then 1 else 0 : Nat) = 1 := rfl
      have hB2 : 2 * cfl B2 + (if b2 then 1 else 0) < 2 * cfl B + 1 := by cases b2 with | true => (have := hB1 rfl; simp; omega) | false => (simp; omega)
      refine w_seq ?_
      refine w_seq ?_
      refine w_reg ?_
      refine wl_mv (.tmp 8) (.int .i64 ((a : Nat) : Int)) (fun _ => rfl) e70_8 rfl ?_
      refine wl_mv (.tmp 5) (.slice pv V.length cv) (fun _ => rfl) e70_5 rfl ?_
      refine wl_val (.int .i64 ((V.length : Nat) : Int)) (len79 _ _ _ _ _ (by exact rfl) _ _ _ _ _ _) rfl ?_
      refine wl_bin (fun x y => do eqGuard .lss 3 (.tmp 26) (.tmp 28) x y; binOp .lss 3 x y) (.tmp 26) (.tmp 28) (.int .i64 ((a : Nat) : Int)) (.int .i64 ((V.length : Nat) : Int)) (.bool false) (fun _ => rfl) rfl rfl (ltN hda _ _ _) rfl ?_
      refine w_nil ?_
      refine xn_then ?_
      refine w_condF rfl ?_
      refine w_exit ?_
      refine xx_then ?_
      refine xx_then ?_
      refine xx_blk ?_
      refine xn_blk ?_
      exact xn_loop (2 * cfl B2 + (if b2 then 1 else 0)) (by omega) ⟨B2, b2, rfl, e70_1, e70_5, e70_6, e70_7, hl2, hO, hS2, (fun e => by obtain ⟨e2, h2⟩ := hB0 e; subst e2; exact fun n hn => h2 n (by have := lt_of_get hn; omega) hn), M⟩
  | false =>
    have hall := hS.all (by omega) (hF rfl)
    refine w_seq ?_
    refine w_seq ?_
    refine w_reg ?_
    refine wl_mv (.tmp 7) (.bool false) (fun _ => rfl) e40_7 rfl ?_
    refine w_nil ?_
    refine xn_then ?_
    refine w_condF rfl ?_
    refine w_exit ?_
    refine xx_then ?_
    refine xx_then ?_
    refine xx_blk ?_
    refine xn_then ?_
    refine w_seq ?_
    refine w_reg ?_
    refine wl_mv (.const (.slice none 0 0)) (.slice none 0 0) (fun _ => rfl) rfl rfl ?_
    refine w_nil ?_
    refine xn_then ?_
    refine w_seq ?_
    refine w_seq ?_
    refine w_reg ?_
    refine wl_mv (.const (.int .i64 (0))) (.int .i64 (0)) (fun _ => rfl) rfl rfl ?_
    refine w_nil ?_
    refine xn_then ?_
    refine w_block ?_
    refine w_loop (fun m lf w1 => ∃ i : Nat, ∃ pw : Option Addr, ∃ cw : Nat, m = V.length - i ∧ look lf 6 = .slice (some ⟨k1, 0, none⟩) V.length V.length ∧ look lf 10 = .slice pw (ris i (fun u => (B[u]?).getD false)).length cw ∧ look lf 11 = .int .i64 ((i : Nat) : Int) ∧ (i ≤ V.length) ∧ (Ob w1 k1 4 (B.map Value.bool)) ∧ (Ow u1.heap.size 3 1 ic w1 pw cw (ris i (fun u => (B[u]?).getD false))) ∧ (Mo u1 w1)) _ ⟨0, none, 0, rfl, e40_6, rfl, rfl, Nat.zero_le _, hO, Ow.nil _ _ _ _ _, M⟩ ?_
    clear hO M
    rintro m lf150 wl150 ⟨i, pw, cw, rfl, e150_6, e150_10, e150_11, hi, hO, hW, M⟩
    cases hd : decide (i < V.length) with
    | true =>
      have hil := of_decide_eq_true hd
      have hrb := ris_len i (fun u => (B[u]?).getD false)
      obtain ⟨vi, hvi⟩ := get_of_lt (show i < B.length by omega)
      have QO := hO.at
      cases vi with
      | true =>
        have hPi : (fun u => (B[u]?).getD false) i = true := by simp only [hvi]; rfl
        refine w_seq ?_
        refine w_seq ?_
        refine w_reg ?_
        refine wl_mv (.tmp 11) (.int .i64 ((i : Nat) : Int)) (fun _ => rfl) e150_11 rfl ?_
        refine wl_mv (.tmp 6) (.slice (some ⟨k1, 0, none⟩) V.length V.length) (fun _ => rfl) e150_6 rfl ?_
        refine wl_val (.int .i64 ((V.length : Nat) : Int)) (len81 _ _ _ _ _ (by exact rfl) _ _ _ _ _ _) rfl ?_
        refine wl_bin (fun x y => do eqGuard .lss 3 (.tmp 72) (.tmp 74) x y; binOp .lss 3 x y) (.tmp 72) (.tmp 74) (.int .i64 ((i : Nat) : Int)) (.int .i64 ((V.length : Nat) : Int)) (.bool true) (fun _ => rfl) rfl rfl (ltN hd _ _ _) rfl ?_
        refine w_nil ?_
        refine xn_then ?_
        refine w_condT rfl ?_
        refine w_skip ?_
        refine xn_then ?_
        refine w_seq ?_
        refine w_block ?_
        refine w_seq ?_
        refine w_reg ?_
        refine wl_mv (.tmp 6) (.slice (some ⟨k1, 0, none⟩) V.length V.length) (fun _ => rfl) e150_6 rfl ?_
        refine wl_mv (.tmp 11) (.int .i64 ((i : Nat) : Int)) (fun _ => rfl) e150_11 rfl ?_
        refine wl_bin (fun x y => Instr.indexAt 81 x y) (.tmp 78) (.tmp 79) (.slice (some ⟨k1, 0, none⟩) V.length V.length) (.int .i64 ((i : Nat) : Int)) (pt k1 (0 + i * 1)) (fun _ => rfl) rfl rfl (ix81 (i := i) rfl hil _) rfl ?_
        refine wl_load 4 (.tmp 80) (pt k1 (0 + i * 1)) (.bool true) rfl rfl (run_one QO 4 (0 + i * 1) (by simp [hvi]) Try.underlying4 rfl) rfl ?_
        refine w_nil ?_
        refine xn_then ?_
        refine w_condT rfl ?_
        refine w_reg ?_
        refine wl_mv (.tmp 10) (.slice pw (ris i (fun u => (B[u]?).getD false)).length cw) (fun _ => rfl) e150_10 rfl ?_
        refine wl_mv (.tmp 11) (.int .i64 ((i : Nat) : Int)) (fun _ => rfl) e150_11 rfl ?_
        refine wl_bs 32 1 [(0, (.tmp 83))] [(0, .int .i64 ((i : Nat) : Int))] #[.int .i64 ((i : Nat) : Int)] 3 rfl rfl (fun _ => by kernel_rfl) rfl ?_
        intro k2 u151 hk hz hq Q2
        have ne_k1_k2 : k1 ≠ k2 := by have := QO.lt; omega
        have N_k2 : u1.heap.size ≤ k2 := by have := M.size; omega
        replace QO := QO.mo hq
        replace hW := own_mo hW hq
        replace hO := hO.mo hq
        replace M := M.trans hq
        clear hk hz hq
        refine wl_apI (.tmp 82) (.tmp 84) k2 rfl rfl rfl hW Q2 (by omega) M.size rfl ?_
        intro pw2 cw2 u152 hW2 hK9 hv9
        replace hO := hO.mk hK9 (fun e => by have := (own_ty hW e).two hO.ty; cases this)
        replace M := own_gap hW hK9 (Nat.le_refl _) M
        clear hW hK9 hv9
        have hW := hW2
        clear hW2
        refine wl_mv (.tmp 85) (.slice pw2 ((ris i (fun u => (B[u]?).getD false)) ++ [i]).length cw2) (fun _ => rfl) rfl rfl ?_
        refine w_nil ?_
        refine xn_blk ?_
        refine xn_then ?_
        refine w_reg ?_
        refine wl_mv (.tmp 11) (.int .i64 ((i : Nat) : Int)) (fun _ => rfl) e150_11 rfl ?_
        refine wl_bin (fun x y => do eqGuard .add 3 (.tmp 76) (.const (.int .i64 (1))) x y; binOp .add 3 x y) (.tmp 76) (.const (.int .i64 (1))) (.int .i64 ((i : Nat) : Int)) (.int .i64 (1)) (.int .i64 ((i + 1 : Nat) : Int)) (fun _ => rfl) rfl rfl (add1r (k := i) (by omega) _ _ _) rfl ?_
        refine wl_mv (.tmp 77) (.int .i64 ((i + 1 : Nat) : Int)) (fun _ => rfl) rfl rfl ?_
        refine w_nil ?_
        have hrs : ris (i + 1) (fun u => (B[u]?).getD false) = ris i (fun u => (B[u]?).getD false) ++ [i] := ris_t hPi
        rw [← hrs] at hW
        exact xn_loop (V.length - (i + 1)) (by omega) ⟨i + 1, pw2, cw2, rfl, e150_6, (by rw [hrs]; rfl), rfl, by omega, hO, hW, M⟩
      | false =>
        have hPi : (fun u => (B[u]?).getD false) i = false := by simp only [hvi]; rfl
        refine w_seq ?_
        refine w_seq ?_
        refine w_reg ?_
        refine wl_mv (.tmp 11) (.int .i64 ((i : Nat) : Int)) (fun _ => rfl) e150_11 rfl ?_
        refine wl_mv (.tmp 6) (.slice (some ⟨k1, 0, none⟩) V.length V.length) (fun _ => rfl) e150_6 rfl ?_
        refine wl_val (.int .i64 ((V.length : Nat) : Int)) (len81 _ _ _ _ _ (by exact rfl) _ _ _ _ _ _) rfl ?_
        refine wl_bin (fun x y => do eqGuard .lss 3 (.tmp 72) (.tmp 74) x y; binOp .lss 3 x y) (.tmp 72) (.tmp 74) (.int .i64 ((i : Nat) : Int)) (.int .i64 ((V.length : Nat) : Int)) (.bool true) (fun _ => rfl) rfl rfl (ltN hd _ _ _) rfl ?_
        refine w_nil ?_
        refine xn_then ?_
        refine w_condT rfl ?_
        refine w_skip ?_
        refine xn_then ?_
        refine w_seq ?_
        refine w_block ?_
        refine w_seq ?_
        refine w_reg ?_
        refine wl_mv (.tmp 6) (.slice (some ⟨k1, 0, none⟩) V.length V.length) (fun _ => rfl) e150_6 rfl ?_
        refine wl_mv (.tmp 11) (.int .i64 ((i : Nat) : Int)) (fun _ => rfl) e150_11 rfl ?_
        refine wl_bin (fun x y => Instr.indexAt 81 x y) (.tmp 78) (.tmp 79) (.slice (some ⟨k1, 0, none⟩) V.length V.length) (.int .i64 ((i : Nat) : Int)) (pt k1 (0 + i * 1)) (fun _ => rfl) rfl rfl (ix81 (i := i) rfl hil _) rfl ?_
        refine wl_load 4 (.tmp 80) (pt k1 (0 + i * 1)) (.bool false) rfl rfl (run_one QO 4 (0 + i * 1) (by simp [hvi]) Try.underlying4 rfl) rfl ?_
        refine w_nil ?_
        refine xn_then ?_
        refine w_condF rfl ?_
        refine w_skip ?_
        refine xn_blk ?_
        refine xn_then ?_
        refine w_reg ?_
        refine wl_mv (.tmp 11) (.int .i64 ((i : Nat) : Int)) (fun _ => rfl) e150_11 rfl ?_
        refine wl_bin (fun x y => do eqGuard .add 3 (.tmp 76) (.const (.int .i64 (1))) x y; binOp .add 3 x y) (.tmp 76) (.const (.int .i64 (1))) (.int .i64 ((i : Nat) : Int)) (.int .i64 (1)) (.int .i64 ((i + 1 : Nat) : Int)) (fun _ => rfl) rfl rfl (add1r (k := i) (by omega) _ _ _) rfl ?_
        refine wl_mv (.tmp 77) (.int .i64 ((i + 1 : Nat) : Int)) (fun _ => rfl) rfl rfl ?_
        refine w_nil ?_
        have hrs : ris (i + 1) (fun u => (B[u]?).getD false) = ris i (fun u => (B[u]?).getD false) := ris_f hPi
        exact xn_loop (V.length - (i + 1)) (by omega) ⟨i + 1, pw, cw, rfl, e150_6, (by rw [hrs]; exact e150_10), rfl, by omega, hO, by rw [hrs]; exact hW, M⟩
    | false =>
      have hie : i = nI l := by have := of_decide_eq_false hd; omega
      rw [hie] at hW
      refine w_seq ?_
      refine w_seq ?_
      refine w_reg ?_
      refine wl_mv (.tmp 11) (.int .i64 ((i : Nat) : Int)) (fun _ => rfl) e150_11 rfl ?_
      refine wl_mv (.tmp 6) (.slice (some ⟨k1, 0, none⟩) V.length V.length) (fun _ => rfl) e150_6 rfl ?_
      refine wl_val (.int .i64 ((V.length : Nat) : Int)) (len81 _ _ _ _ _ (by exact rfl) _ _ _ _ _ _) rfl ?_
      refine wl_bin (fun x y => do eqGuard .lss 3 (.tmp 72) (.tmp 74) x y; binOp .lss 3 x y) (.tmp 72) (.tmp 74) (.int .i64 ((i : Nat) : Int)) (.int .i64 ((V.length : Nat) : Int)) (.bool false) (fun _ => rfl) rfl rfl (ltN hd _ _ _) rfl ?_
      refine w_nil ?_
      refine xn_then ?_
      refine w_condF rfl ?_
      refine w_exit ?_
      refine xx_then ?_
      refine xx_then ?_
      refine xx_blk ?_
      refine xn_then ?_
      refine w_seq ?_
      refine w_reg ?_
      refine wl_mv (.tmp 10) (.slice pw (ris i (fun u => (B[u]?).getD false)).length cw) (fun _ => rfl) e150_10 rfl ?_
      refine wl_mv (.tmp 86) (.slice pw (ris i (fun u => (B[u]?).getD false)).length cw) (fun _ => rfl) rfl rfl ?_
      refine w_nil ?_
      refine xn_then ?_
      refine w_ret ?_
      exact w_ret1 _ (.slice pw (ris i (fun u => (B[u]?).getD false)).length cw) rfl rfl ⟨(fun u => (B[u]?).getD false), pw, cw, fun u => gd_iff.trans (hall u), by rw [hie], own_base hW hN0, M0.trans M⟩
theorem below20_neg {w : World} {l : List S5} {pl : Option Addr} {cl : Nat} (hL : SL w 5 S5.cells pl l) (hz : l.length < 400000) (hzI : nI l < 400000) (h16 : ∀ {u : World} {m : Nat}, Mo w u → m < nI l → Calls Try.prog 16 #[.slice pl l.length cl, .int .i64 ((m : Nat) : Int)] u fun e w' => ∃ (pa : Option Addr) (cap : Nat), e = .returned (.slice pa (row (RA l) m).length cap) ∧ Li w' pa (row (RA l) m) ∧ Mo u w') {n : Int} (hn : n < 0) : Calls Try.prog 20 #[.slice pl l.length cl, .int .i64 n] w fun e w' => e = .returned (.slice none 0 0) ∧ Mo w w' := by
  have hf0 : decide (n < 0) = true := decide_eq_true hn
  refine w_enter 87 Try.func20 Try.ntmps20 rfl rfl ?_
  have M : Mo w w := Mo.refl _
  refine w_seq ?_
  refine w_reg ?_
  refine wl_mv (.const (.slice none 0 0)) (.slice none 0 0) (fun _ => rfl) rfl rfl ?_
  refine w_nil ?_
  refine xn_then ?_
  refine w_seq ?_
  refine w_reg ?_
  refine wl_mv (.tmp 0) (.slice pl l.length cl) (fun _ => rfl) rfl rfl ?_
  refine wl_callx 40 [(.tmp 12)] _ [.slice pl l.length cl] rfl rfl (fun _ _ => by kernel_rfl) ((all40_n (hL.kp M.kp) hz hzI (fun m q => h16 (M.trans m) q))) rfl ?_
  rintro e9 u1 ⟨V, pv, cv, rfl, hOV, hli, hV, hq⟩
  refine ⟨_, rfl, ?_⟩
  have M0 := M.trans hq
  have hN0 := M0.size
  have hVl : V.length = nI l := by have := congrArg List.length hV; rw [RA_len] at this; simpa using this
  have hsl := own_sl (cells := zc) (fun _ => rfl) (by unfold maxLen; omega) hOV
  have hVr := RA_rowlen hV
  have hRl := RA_len l
  clear hq hOV
  clear M
  have M : Mo u1 u1 := Mo.refl _
  refine wl_mv (.tmp 13) (.slice pv V.length cv) (fun _ => rfl) rfl rfl ?_
  refine w_nil ?_
  refine xn_then ?_
  refine w_seq ?_
  refine w_seq ?_
  refine w_reg ?_
  refine wl_mv (.tmp 1) (.int .i64 (n)) (fun _ => rfl) rfl rfl ?_
  refine wl_bin (fun x y => do eqGuard .lss 3 (.tmp 14) (.const (.int .i64 (0))) x y; binOp .lss 3 x y) (.tmp 14) (.const (.int .i64 (0))) (.int .i64 (n)) (.int .i64 (0)) (.bool true) (fun _ => rfl) rfl rfl (lt3 hf0 _ _ _) rfl ?_
  refine wl_mv (.tmp 15) (.bool true) (fun _ => rfl) rfl rfl ?_
  refine wl_skip rfl ?_
  refine wl_skip rfl ?_
  refine wl_skip rfl ?_
  refine wl_skip rfl ?_
  refine wl_pick (.tmp 16) (.const (.bool true)) (.tmp 20) true (.bool true) (fun _ => rfl) rfl rfl rfl ?_
  refine w_nil ?_
  refine xn_then ?_
  refine w_condT rfl ?_
  refine w_seq ?_
  refine w_reg ?_
  refine wl_mv (.const (.slice none 0 0)) (.slice none 0 0) (fun _ => rfl) rfl rfl ?_
  refine w_nil ?_
  refine xn_then ?_
  refine w_ret ?_
  refine xr_then ?_
  exact w_ret1 _ (.slice none 0 0) rfl rfl ⟨rfl, M0.trans M⟩
theorem below20_out {w : World} {l : List S5} {pl : Option Addr} {cl : Nat} (hL : SL w 5 S5.cells pl l) (hz : l.length < 400000) (hzI : nI l < 400000) (h16 : ∀ {u : World} {m : Nat}, Mo w u → m < nI l → Calls Try.prog 16 #[.slice pl l.length cl, .int .i64 ((m : Nat) : Int)] u fun e w' => ∃ (pa : Option Addr) (cap : Nat), e = .returned (.slice pa (row (RA l) m).length cap) ∧ Li w' pa (row (RA l) m) ∧ Mo u w') {nn : Nat} (hn : nI l ≤ nn) : Calls Try.prog 20 #[.slice pl l.length cl, .int .i64 ((nn : Nat) : Int)] w fun e w' => e = .returned (.slice none 0 0) ∧ Mo w w' := by
  have hf0 : decide (nn < 0) = false := decide_eq_false (by omega)
  refine w_enter 87 Try.func20 Try.ntmps20 rfl rfl ?_
  have M : Mo w w := Mo.refl _
  refine w_seq ?_
  refine w_reg ?_
  refine wl_mv (.const (.slice none 0 0)) (.slice none 0 0) (fun _ => rfl) rfl rfl ?_
  refine w_nil ?_
  refine xn_then ?_
  refine w_seq ?_
  refine w_reg ?_
  refine wl_mv (.tmp 0) (.slice pl l.length cl) (fun _ => rfl) rfl rfl ?_
  refine wl_callx 40 [(.tmp 12)] _ [.slice pl l.length cl] rfl rfl (fun _ _ => by kernel_rfl) ((all40_n (hL.kp M.kp) hz hzI (fun m q => h16 (M.trans m) q))) rfl ?_
  rintro e9 u1 ⟨V, pv, cv, rfl, hOV, hli, hV, hq⟩
  refine ⟨_, rfl, ?_⟩
  have M0 := M.trans hq
  have hN0 := M0.size
  have hVl : V.length = nI l := by have := congrArg List.length hV; rw [RA_len] at this; simpa using this
  have hsl := own_sl (cells := zc) (fun _ => rfl) (by unfold maxLen; omega) hOV
  have hVr := RA_rowlen hV
  have hRl := RA_len l
  clear hq hOV
  clear M
  have M : Mo u1 u1 := Mo.refl _
  have hf1 : decide (((V.length : Nat) : Int) ≤ ((nn : Nat) : Int)) = true := decide_eq_true (by omega)
  refine wl_mv (.tmp 13) (.slice pv V.length cv) (fun _ => rfl) rfl rfl ?_
  refine w_nil ?_
  refine xn_then ?_
  refine w_seq ?_
  refine w_seq ?_
  refine w_reg ?_
  refine wl_mv (.tmp 1) (.int .i64 ((nn : Nat) : Int)) (fun _ => rfl) rfl rfl ?_
  refine wl_bin (fun x y => do eqGuard .lss 3 (.tmp 14) (.const (.int .i64 (0))) x y; binOp .lss 3 x y) (.tmp 14) (.const (.int .i64 (0))) (.int .i64 ((nn : Nat) : Int)) (.int .i64 (0)) (.bool false) (fun _ => rfl) rfl rfl (ltN hf0 _ _ _) rfl ?_
  refine wl_mv (.tmp 15) (.bool false) (fun _ => rfl) rfl rfl ?_
  refine wl_mv (.tmp 1) (.int .i64 ((nn : Nat) : Int)) (fun _ => rfl) rfl rfl ?_
  refine wl_mv (.tmp 5) (.slice pv V.length cv) (fun _ => rfl) rfl rfl ?_
  refine wl_val (.int .i64 ((V.length : Nat) : Int)) (len79 _ _ _ _ _ (by exact rfl) _ _ _ _ _ _) rfl ?_
  refine wl_bin (fun x y => do eqGuard .geq 3 (.tmp 17) (.tmp 19) x y; binOp .geq 3 x y) (.tmp 17) (.tmp 19) (.int .i64 ((nn : Nat) : Int)) (.int .i64 ((V.length : Nat) : Int)) (.bool true) (fun _ => rfl) rfl rfl (ge3 hf1 _ _ _) rfl ?_
  refine wl_pick (.tmp 16) (.const (.bool true)) (.tmp 20) false (.bool true) (fun _ => rfl) rfl rfl rfl ?_
  refine w_nil ?_
  refine xn_then ?_
  refine w_condT rfl ?_
  refine w_seq ?_
  refine w_reg ?_
  refine wl_mv (.const (.slice none 0 0)) (.slice none 0 0) (fun _ => rfl) rfl rfl ?_
  refine w_nil ?_
  refine xn_then ?_
  refine w_ret ?_
  refine xr_then ?_
  exact w_ret1 _ (.slice none 0 0) rfl rfl ⟨rfl, M0.trans M⟩
end Go.Proofs.Ythghblgbjgghcaa
namespace Go.Proofs.Ythghblgbjgghcaa
open Go.RowKit D
theorem reads15_neg {w : World} {l : List S5} {pl : Option Addr} {cl : Nat} {n : Int} (hn : n < 0) : Calls Try.prog 15 #[.slice pl l.length cl, .int .i64 n] w fun e w' => e = .returned (.slice none 0 0) ∧ Mo w w' := by
  refine w_enter 35 Try.func15 Try.ntmps15 rfl rfl ?_
  have M : Mo w w := Mo.refl _
  refine w_seq ?_
  refine w_reg ?_
  refine wl_mv (.const (.slice none 0 0)) (.slice none 0 0) (fun _ => rfl) rfl rfl ?_
  refine w_nil ?_
  refine xn_then ?_
  refine w_seq ?_
  refine w_reg ?_
  refine wl_mv (.tmp 0) (.slice pl l.length cl) (fun _ => rfl) rfl rfl ?_
  refine wl_mv (.tmp 1) (.int .i64 (n)) (fun _ => rfl) rfl rfl ?_
  refine wl_callx 12 [(.tmp 12), (.tmp 13)] _ [.slice pl l.length cl, .int .i64 (n)] rfl rfl (fun _ _ => by kernel_rfl) ((of12_neg hn)) rfl ?_
  rintro e9 u1 ⟨rfl, hq⟩
  refine ⟨_, rfl, ?_⟩
  replace M := M.trans hq
  clear hq
  refine wl_mv (.tmp 14) (.tuple #[.int .i64 (0), .int .i64 (0), .bool false]) (fun _ => rfl) rfl rfl ?_
  refine wl_un (fun v => Instr.extract v 0) (.tmp 11) (.tuple #[.int .i64 (0), .int .i64 (0), .bool false]) (.int .i64 (0)) (fun _ => rfl) rfl (by kernel_rfl) rfl ?_
  refine wl_un (fun v => Instr.extract v 1) (.tmp 11) (.tuple #[.int .i64 (0), .int .i64 (0), .bool false]) (.int .i64 (0)) (fun _ => rfl) rfl (by kernel_rfl) rfl ?_
  refine wl_un (fun v => Instr.extract v 2) (.tmp 11) (.tuple #[.int .i64 (0), .int .i64 (0), .bool false]) (.bool false) (fun _ => rfl) rfl (by kernel_rfl) rfl ?_
  refine wl_mv (.tmp 15) (.int .i64 (0)) (fun _ => rfl) rfl rfl ?_
  refine wl_mv (.tmp 16) (.int .i64 (0)) (fun _ => rfl) rfl rfl ?_
  refine wl_mv (.tmp 17) (.bool false) (fun _ => rfl) rfl rfl ?_
  refine w_nil ?_
  refine xn_then ?_
  refine w_seq ?_
  refine w_seq ?_
  refine w_reg ?_
  refine wl_mv (.tmp 7) (.bool false) (fun _ => rfl) rfl rfl ?_
  refine wl_un (fun v => Op.unary .not v) (.tmp 18) (.bool false) (.bool true) (fun _ => rfl) rfl (by kernel_rfl) rfl ?_
  refine w_nil ?_
  refine xn_then ?_
  refine w_condT rfl ?_
  refine w_seq ?_
  refine w_reg ?_
  refine wl_mv (.const (.slice none 0 0)) (.slice none 0 0) (fun _ => rfl) rfl rfl ?_
  refine w_nil ?_
  refine xn_then ?_
  refine w_ret ?_
  refine xr_then ?_
  exact w_ret1 _ (.slice none 0 0) rfl rfl ⟨rfl, M⟩
theorem reads15_out {w : World} {l : List S5} {pl : Option Addr} {cl : Nat} (hL : SL w 5 S5.cells pl l) (hz : l.length < 400000) {nn : Nat} (hm : nI l ≤ nn) (hn : nn ≤ 9223372036854775807) : Calls Try.prog 15 #[.slice pl l.length cl, .int .i64 ((nn : Nat) : Int)] w fun e w' => e = .returned (.slice none 0 0) ∧ Mo w w' := by
  refine w_enter 35 Try.func15 Try.ntmps15 rfl rfl ?_
  have M : Mo w w := Mo.refl _
  refine w_seq ?_
  refine w_reg ?_
  refine wl_mv (.const (.slice none 0 0)) (.slice none 0 0) (fun _ => rfl) rfl rfl ?_
  refine w_nil ?_
  refine xn_then ?_
  refine w_seq ?_
  refine w_reg ?_
  refine wl_mv (.tmp 0) (.slice pl l.length cl) (fun _ => rfl) rfl rfl ?_
  refine wl_mv (.tmp 1) (.int .i64 ((nn : Nat) : Int)) (fun _ => rfl) rfl rfl ?_
  refine wl_callx 12 [(.tmp 12), (.tmp 13)] _ [.slice pl l.length cl, .int .i64 ((nn : Nat) : Int)] rfl rfl (fun _ _ => by kernel_rfl) ((of12_out (hL.kp M.kp) hz hm hn)) rfl ?_
  rintro e9 u1 ⟨rfl, hq⟩
  refine ⟨_, rfl, ?_⟩
  replace M := M.trans hq
  clear hq
  refine wl_mv (.tmp 14) (.tuple #[.int .i64 (0), .int .i64 (0), .bool false]) (fun _ => rfl) rfl rfl ?_
  refine wl_un (fun v => Instr.extract v 0) (.tmp 11) (.tuple #[.int .i64 (0), .int .i64 (0), .bool false]) (.int .i64 (0)) (fun _ => rfl) rfl (by kernel_rfl) rfl ?_
  refine wl_un (fun v => Instr.extract v 1) (.tmp 11) (.tuple #[.int .i64 (0), .int .i64 (0), .bool false]) (.int .i64 (0)) (fun _ => rfl) rfl (by kernel_rfl) rfl ?_
  refine wl_un (fun v => Instr.extract v 2) (.tmp 11) (.tuple #[.int .i64 (0), .int .i64 (0), .bool false]) (.bool false) (fun _ => rfl) rfl (by kernel_rfl) rfl ?_
  refine wl_mv (.tmp 15) (.int .i64 (0)) (fun _ => rfl) rfl rfl ?_
  refine wl_mv (.tmp 16) (.int .i64 (0)) (fun _ => rfl) rfl rfl ?_
  refine wl_mv (.tmp 17) (.bool false) (fun _ => rfl) rfl rfl ?_
  refine w_nil ?_
  refine xn_then ?_
  refine w_seq ?_
  refine w_seq ?_
  refine w_reg ?_
  refine wl_mv (.tmp 7) (.bool false) (fun _ => rfl) rfl rfl ?_
  refine wl_un (fun v => Op.unary .not v) (.tmp 18) (.bool false) (.bool true) (fun _ => rfl) rfl (by kernel_rfl) rfl ?_
  refine w_nil ?_
  refine xn_then ?_
  refine w_condT rfl ?_
  refine w_seq ?_
  refine w_reg ?_
  refine wl_mv (.const (.slice none 0 0)) (.slice none 0 0) (fun _ => rfl) rfl rfl ?_
  refine w_nil ?_
  refine xn_then ?_
  refine w_ret ?_
  refine xr_then ?_
  exact w_ret1 _ (.slice none 0 0) rfl rfl ⟨rfl, M⟩
end Go.Proofs.Ythghblgbjgghcaa
namespace Go.Proofs.Ythghblgbjgghcaa
open Go.RowKit D Go.Proofs
theorem row_len9 (l : List S5) (x : Nat) : (row (RA l) x).length ≤ nI l := by
  rcases Nat.lt_or_ge x (RA l).length with h | h
  · obtain ⟨L, hL⟩ := get_of_lt h
    rw [row_eq hL]
    have h1 := List.mem_of_getElem? hL
    unfold RA at h1
    obtain ⟨s, _, h1⟩ := List.mem_flatMap.1 h1
    obtain ⟨z, _, e⟩ := List.mem_map.1 h1
    rw [← e]; exact rdI_len _ _ _ _
  · unfold row; rw [List.getElem?_eq_none h]; exact Nat.zero_le _
theorem equal_t9 {w : World} {p1 p2 : Option Addr} {L1 L2 : List Nat} (h1 : SL w 1 ic p1 L1) (h2 : SL w 1 ic p2 L2) (c1 c2 : Nat) (e : L1 = L2) : Calls Try.prog 14 #[.slice p1 L1.length c1, .slice p2 L2.length c2] w fun e w' => e = .returned (.bool true) ∧ Mo w w' := by
  have h := equal_n h1 h2 c1 c2
  rw [decide_eq_true e] at h; exact h
theorem eq4t (b : Bool) (x y : Operand) (w : World) : (do eqGuard .eql 4 x y (.bool b) (.bool b); binOp .eql 4 (.bool b) (.bool b)).run Try.prog w = .ok (.bool true) w := by cases b <;> kernel_rfl
theorem nuA_form (l : List S5) (s j : Int) : ∃ (a : Int) (b : Bool), nuA l s j = .tuple #[.int .i64 a, .bool b] := by
  unfold nuA; split
  · exact ⟨_, _, rfl⟩
  · exact ⟨_, _, rfl⟩
/-- Where a number stands, or nowhere. -/
def OfP (l : List S5) (n a b : Int) (c : Bool) : Prop := (∃ (s j : Nat) (y : S5) (z : It), l[s]? = some y ∧ y.items[j]? = some z ∧ ((fsn l s + j : Nat) : Int) = n ∧ a = ((s : Nat) : Int) ∧ b = ((j : Nat) : Int) ∧ c = true) ∨ ((n < 0 ∨ ((nI l : Nat) : Int) ≤ n) ∧ a = 0 ∧ b = 0 ∧ c = false)
theorem of_one {l : List S5} {s j s' j' : Nat} {y y' : S5} (hy : l[s]? = some y) (hj : j < y.items.length) (hy' : l[s']? = some y') (hj' : j' < y'.items.length) (h : fsn l s + j = fsn l s' + j') : s = s' ∧ j = j' := by
  have h1 := fsn_s hy
  have h2 := fsn_s hy'
  rcases Nat.lt_trichotomy s s' with q | q | q
  · have := fsn_mono (l := l) (show s + 1 ≤ s' by omega); omega
  · subst q; exact ⟨rfl, by omega⟩
  · have := fsn_mono (l := l) (show s' + 1 ≤ s by omega); omega
theorem OfP.one {l : List S5} {n a b a' b' : Int} {c c' : Bool} (h : OfP l n a b c) (h' : OfP l n a' b' c') : a = a' ∧ b = b' ∧ c = c' := by
  rcases h with ⟨s, j, y, z, h1, h2, h3, rfl, rfl, rfl⟩ | ⟨h1, rfl, rfl, rfl⟩
  · rcases h' with ⟨s', j', y', z', k1, k2, k3, rfl, rfl, rfl⟩ | ⟨k1, rfl, rfl, rfl⟩
    · obtain ⟨rfl, rfl⟩ := of_one h1 (lt_of_get h2) k1 (lt_of_get k2) (by omega)
      exact ⟨rfl, rfl, rfl⟩
    · have := fsn_lt h1 (lt_of_get h2); omega
  · rcases h' with ⟨s', j', y', z', k1, k2, k3, rfl, rfl, rfl⟩ | ⟨k1, rfl, rfl, rfl⟩
    · have := fsn_lt k1 (lt_of_get k2); omega
    · exact ⟨rfl, rfl, rfl⟩
/-- What the item of any number reads. -/
def rowZ (l : List S5) (n : Int) : List Nat := if 0 ≤ n then row (RA l) n.toNat else []
theorem rowZ_nat (l : List S5) (m : Nat) : rowZ l ((m : Nat) : Int) = row (RA l) m := by unfold rowZ; rw [if_pos (by omega), Int.toNat_natCast]
theorem rowZ_neg {l : List S5} {n : Int} (h : n < 0) : rowZ l n = [] := by unfold rowZ; rw [if_neg (by omega)]
theorem rowZ_out {l : List S5} {m : Nat} (h : nI l ≤ m) : rowZ l ((m : Nat) : Int) = [] := by
  rw [rowZ_nat]; unfold row; rw [List.getElem?_eq_none (by rw [RA_len]; exact h)]; rfl
def usP (l : List S5) (n : Int) (u : Nat) : Bool := decide (∃ y ∈ row (RA l) u, ((y : Nat) : Int) = n)
theorem us_nat (l : List S5) (m : Nat) : ris (nI l) (fun u => decide (m ∈ row (RA l) u)) = ris (nI l) (usP l ((m : Nat) : Int)) := ris_congr (fun k _ => by
  unfold usP; rw [Bool.eq_iff_iff, decide_eq_true_eq, decide_eq_true_eq]
  exact ⟨fun h => ⟨m, h, rfl⟩, fun ⟨y, h, e⟩ => by have : y = m := (by omega); exact this ▸ h⟩)
theorem us_neg {l : List S5} {n : Int} (h : n < 0) : ris (nI l) (usP l n) = [] := by
  exact (ris_congr (p := usP l n) (q := fun _ => false) (fun k _ => decide_eq_false (fun ⟨y, _, e⟩ => by omega))).trans (ris_no _)
def BlP (l : List S5) (n : Int) (U : List Nat) : Prop := U.length ≤ nI l ∧ U.Pairwise (· < ·) ∧ ∀ u, u ∈ U ↔ 0 ≤ n ∧ Rch (RA l) u n.toNat
theorem BlP.one {l : List S5} {n : Int} {U U' : List Nat} (h : BlP l n U) (h' : BlP l n U') : U = U' := nat_ext _ _ h.2.1 h'.2.1 (fun u => (h.2.2 u).trans (h'.2.2 u).symm)
theorem cut3 (l : List S5) (n : Int) : n < 0 ∨ (∃ m : Nat, n = ((m : Nat) : Int) ∧ m < nI l) ∨ ∃ m : Nat, n = ((m : Nat) : Int) ∧ nI l ≤ m := by
  rcases Int.lt_or_le n 0 with h | h
  · exact Or.inl h
  · obtain ⟨m, rfl⟩ := Int.eq_ofNat_of_zero_le h
    rcases Nat.lt_or_ge m (nI l) with q | q
    · exact Or.inr (Or.inl ⟨m, rfl, q⟩)
    · exact Or.inr (Or.inr ⟨m, rfl, q⟩)
section
variable {w : World} {l : List S5} {pl : Option Addr} {cl : Nat}
theorem of12_any (hL : SL w 5 S5.cells pl l) (hz : l.length < 400000) (hzI : nI l < 400000) (n : Int) (hn : n ≤ 9223372036854775807) : Calls Try.prog 12 #[.slice pl l.length cl, .int .i64 n] w fun e w' => ∃ (a b : Int) (c : Bool), e = .returned (.tuple #[.int .i64 a, .int .i64 b, .bool c]) ∧ OfP l n a b c ∧ Mo w w' := by
  rcases cut3 l n with h | ⟨m, rfl, h⟩ | ⟨m, rfl, h⟩
  · exact (of12_neg h).mono fun e w' ⟨he, hq⟩ => ⟨_, _, _, he, Or.inr ⟨Or.inl h, rfl, rfl, rfl⟩, hq⟩
  · exact (of_n hL hz hzI h).mono fun e w' ⟨s, j, y, z, he, h1, h2, h3, hq⟩ => ⟨_, _, _, he, Or.inl ⟨s, j, y, z, h1, h2, by rw [h3], rfl, rfl, rfl⟩, hq⟩
  · exact (of12_out hL hz h (by omega)).mono fun e w' ⟨he, hq⟩ => ⟨_, _, _, he, Or.inr ⟨Or.inr (by omega), rfl, rfl, rfl⟩, hq⟩
theorem of13_any (hL : SL w 5 S5.cells pl l) (hz : l.length < 400000) (hzI : nI l < 400000) (n : Int) (hn : n ≤ 9223372036854775807) : Calls Try.prog 13 #[.slice pl l.length cl, .int .i64 n] w fun e w' => ∃ (a b : Int) (c : Bool), e = .returned (.tuple #[.int .i64 a, .int .i64 b, .bool c]) ∧ OfP l n a b c ∧ Mo w w' := by
  rcases cut3 l n with h | ⟨m, rfl, h⟩ | ⟨m, rfl, h⟩
  · exact (of13_neg h).mono fun e w' ⟨he, hq⟩ => ⟨_, _, _, he, Or.inr ⟨Or.inl h, rfl, rfl, rfl⟩, hq⟩
  · exact (of13_n hL hz hzI h).mono fun e w' ⟨s, j, y, z, he, h1, h2, h3, hq⟩ => ⟨_, _, _, he, Or.inl ⟨s, j, y, z, h1, h2, by rw [h3], rfl, rfl, rfl⟩, hq⟩
  · exact (of13_out hL hz h (by omega)).mono fun e w' ⟨he, hq⟩ => ⟨_, _, _, he, Or.inr ⟨Or.inr (by omega), rfl, rfl, rfl⟩, hq⟩
theorem reads16_any (hL : SL w 5 S5.cells pl l) (hLx : ∀ x ∈ l, LS5 w x) (hz : l.length < 400000) (hzI : nI l < 400000) (n : Int) (hn : n ≤ 9223372036854775807) : Calls Try.prog 16 #[.slice pl l.length cl, .int .i64 n] w fun e w' => ∃ (pa : Option Addr) (cap : Nat), e = .returned (.slice pa (rowZ l n).length cap) ∧ Li w' pa (rowZ l n) ∧ Mo w w' := by
  rcases cut3 l n with h | ⟨m, rfl, h⟩ | ⟨m, rfl, h⟩
  · rw [rowZ_neg h]; exact (reads16_neg h).mono fun e w' ⟨he, hq⟩ => ⟨none, 0, he, Li.nil _, hq⟩
  · rw [rowZ_nat]; exact reads16_n hL hLx hz hzI h
  · rw [rowZ_out h]; exact (reads16_out hL hz h (by omega)).mono fun e w' ⟨he, hq⟩ => ⟨none, 0, he, Li.nil _, hq⟩
theorem reads15_any (hL : SL w 5 S5.cells pl l) (hLx : ∀ x ∈ l, LS5 w x) (hz : l.length < 400000) (hzI : nI l < 400000) (hnd : ∀ y ∈ l, ∀ z ∈ y.items, nd z.ex ≤ 3000000) (n : Int) (hn : n ≤ 9223372036854775807) : Calls Try.prog 15 #[.slice pl l.length cl, .int .i64 n] w fun e w' => ∃ (pa : Option Addr) (cap : Nat), e = .returned (.slice pa (rowZ l n).length cap) ∧ Li w' pa (rowZ l n) ∧ Mo w w' := by
  rcases cut3 l n with h | ⟨m, rfl, h⟩ | ⟨m, rfl, h⟩
  · rw [rowZ_neg h]; exact (reads15_neg h).mono fun e w' ⟨he, hq⟩ => ⟨none, 0, he, Li.nil _, hq⟩
  · rw [rowZ_nat]; exact (reads15_n hL hLx hz hzI hnd h).mono fun e w' ⟨pa, cap, he, ho, hq⟩ => ⟨pa, cap, he, Li.own ho (by have := row_len9 l m; unfold maxLen; omega), hq⟩
  · rw [rowZ_out h]; exact (reads15_out hL hz h (by omega)).mono fun e w' ⟨he, hq⟩ => ⟨none, 0, he, Li.nil _, hq⟩
theorem users17_any (hL : SL w 5 S5.cells pl l) (hLx : ∀ x ∈ l, LS5 w x) (hz : l.length < 400000) (hzI : nI l < 400000) (hnd : ∀ y ∈ l, ∀ z ∈ y.items, nd z.ex ≤ 3000000) (n : Int) : Calls Try.prog 17 #[.slice pl l.length cl, .int .i64 n] w fun e w' => ∃ (pa : Option Addr) (cap : Nat), e = .returned (.slice pa (ris (nI l) (usP l n)).length cap) ∧ Li w' pa (ris (nI l) (usP l n)) ∧ Mo w w' := by
  have hl := ris_len (nI l) (usP l n)
  rcases Int.lt_or_le n 0 with h | h
  · rw [us_neg h]; exact (users_neg hL hLx hz hzI hnd n h).mono fun e w' ⟨he, hq⟩ => ⟨none, 0, he, Li.nil _, hq⟩
  · obtain ⟨m, rfl⟩ := Int.eq_ofNat_of_zero_le h
    rw [← us_nat] at hl ⊢
    exact (users_nat hL hLx hz hzI hnd m).mono fun e w' ⟨pa, cap, he, ho, hq⟩ => ⟨pa, cap, he, Li.own ho (by unfold maxLen; omega), hq⟩
theorem below19_any (hL : SL w 5 S5.cells pl l) (hLx : ∀ x ∈ l, LS5 w x) (hz : l.length < 400000) (hzI : nI l < 400000) (hnd : ∀ y ∈ l, ∀ z ∈ y.items, nd z.ex ≤ 3000000) (n : Int) : Calls Try.prog 19 #[.slice pl l.length cl, .int .i64 n] w fun e w' => ∃ (U : List Nat) (pa : Option Addr) (cap : Nat), e = .returned (.slice pa U.length cap) ∧ Li w' pa U ∧ BlP l n U ∧ Mo w w' :=
  (below_any hL hLx hz hzI hnd n).mono fun e w' ⟨U, pa, cap, he, ho, h1, h2, h3, hq⟩ => ⟨U, pa, cap, he, Li.own ho (by unfold maxLen; omega), ⟨h1, h2, h3⟩, hq⟩
theorem h16_of (hL : SL w 5 S5.cells pl l) (hLx : ∀ x ∈ l, LS5 w x) (hz : l.length < 400000) (hzI : nI l < 400000) : ∀ {u : World} {m : Nat}, Mo w u → m < nI l → Calls Try.prog 16 #[.slice pl l.length cl, .int .i64 ((m : Nat) : Int)] u fun e w' => ∃ (pa : Option Addr) (cap : Nat), e = .returned (.slice pa (row (RA l) m).length cap) ∧ Li w' pa (row (RA l) m) ∧ Mo u w' :=
  fun m q => reads16_n (hL.kp m.kp) (fun x hx => (hLx x hx).kp m.kp) hz hzI q
theorem users18_any (hL : SL w 5 S5.cells pl l) (hLx : ∀ x ∈ l, LS5 w x) (hz : l.length < 400000) (hzI : nI l < 400000) (n : Int) : Calls Try.prog 18 #[.slice pl l.length cl, .int .i64 n] w fun e w' => ∃ (pa : Option Addr) (cap : Nat), e = .returned (.slice pa (ris (nI l) (usP l n)).length cap) ∧ Li w' pa (ris (nI l) (usP l n)) ∧ Mo w w' :=
  (users18_n hL hz hzI (h16_of hL hLx hz hzI) n).mono fun e w' ⟨pa, cap, he, ho, hq⟩ => ⟨pa, cap, he, Li.own ho (by have := ris_len (nI l) (usP l n); unfold maxLen; omega), hq⟩
theorem below20_any (hL : SL w 5 S5.cells pl l) (hLx : ∀ x ∈ l, LS5 w x) (hz : l.length < 400000) (hzI : nI l < 400000) (n : Int) : Calls Try.prog 20 #[.slice pl l.length cl, .int .i64 n] w fun e w' => ∃ (U : List Nat) (pa : Option Addr) (cap : Nat), e = .returned (.slice pa U.length cap) ∧ Li w' pa U ∧ BlP l n U ∧ Mo w w' := by
  rcases cut3 l n with h | ⟨m, rfl, h⟩ | ⟨m, rfl, h⟩
  · exact (below20_neg hL hz hzI (h16_of hL hLx hz hzI) h).mono fun e w' ⟨he, hq⟩ => ⟨[], none, 0, he, Li.nil _, ⟨Nat.zero_le _, List.Pairwise.nil, fun u => ⟨fun q => by simp at q, fun q => by omega⟩⟩, hq⟩
  · refine (below20_n hL hz hzI (h16_of hL hLx hz hzI) h).mono ?_
    rintro e w' ⟨p, pa, cap, hp, rfl, ho, hq⟩
    have hl := ris_len (nI l) p
    refine ⟨_, pa, cap, rfl, Li.own ho (by unfold maxLen; omega), ⟨hl, ris_up _ _, fun u => ?_⟩, hq⟩
    rw [mem_ris, hp, Int.toNat_natCast]
    exact ⟨fun q => ⟨by omega, q.2⟩, fun q => ⟨by obtain ⟨f, hf⟩ := q.2; rw [← RA_len]; cases f with | zero => exact row_lt hf | succ f => obtain ⟨c, h1, _⟩ := hf; exact row_lt h1, q.2⟩⟩
  · refine (below20_out hL hz hzI (h16_of hL hLx hz hzI) h).mono fun e w' ⟨he, hq⟩ => ⟨[], none, 0, he, Li.nil _, ⟨Nat.zero_le _, List.Pairwise.nil, fun u => ⟨fun q => by simp at q, fun q => ?_⟩⟩, hq⟩
    have := q.2.lt (RA_in l)
    rw [RA_len, Int.toNat_natCast] at this
    omega
end
end Go.Proofs.Ythghblgbjgghcaa
