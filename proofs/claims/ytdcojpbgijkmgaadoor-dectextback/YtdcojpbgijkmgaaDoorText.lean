/-
  limb.Text, whatever the limbs: the walk. Decimal digits as plain lists.
-/
import Derived.Test.YtdcojpbgijkmgaaDoorDivl
import Derived.Test.YtdcojpbgijkmgaaDoorEq
import Derived.ScopeJumps
import Derived.WalkMore
namespace Go.Proofs.YtdcojpbgijkmgaaDoor
open Go.RowKit
/-- The decimal digits of a number, the greatest first, as bytes; at most so many. -/
def decF : Nat → Int → List Int
  | 0, _ => []
  | f + 1, n => if n / 10 = 0 then [48 + n % 10] else decF f (n / 10) ++ [48 + n % 10]
/-- A string of bytes. -/
def strOf (ns : List Int) : ByteArray := ns.foldl (fun r n => r.push (UInt8.ofNat n.toNat)) ByteArray.empty
def Z78 : Array Value := Array.replicate 78 (.int .u8 0)
theorem z60 (w : World) : (zeroValue 67).run Tryd.prog w = .ok (.agg Z78) w := by kernel_rfl
/-- The block k holds acc behind p zeros. -/
def Dg (w : World) (k p : Nat) (acc : List Int) : Prop := ∀ j, j < 78 → w.cell? ⟨k, j, none⟩ = some (.int .u8 (if j < p then 0 else acc.getD (j - p) 0))
/-- The world between two digits. -/
def TW (w wx : World) (n : Int) (p : Nat) (acc : List Int) : Prop := Mo w wx ∧ w.heap.size + 1 < wx.heap.size ∧ At4 wx w.heap.size (l0 n) (l1 n) (l2 n) (l3 n) ∧ Fz wx w.heap.size ∧ Fz wx (w.heap.size + 1) ∧ Dg wx (w.heap.size + 1) p acc
theorem TW.mo {w wx w1 : World} {n : Int} {p : Nat} {acc : List Int} (h : TW w wx n p acc) (m : Mo wx w1) : TW w w1 n p acc := by
  obtain ⟨h1, h2, h3, h4, h5, h6⟩ := h
  have := m.size
  exact ⟨h1.trans m, by omega, h3.mo m (by omega), h4.mo m, h5.mo m, fun j hj => (m.cell _ _ h2).trans (h6 j hj)⟩
theorem TW.step {w w1 : World} {n q d : Int} {p : Nat} {acc : List Int} (h : TW w w1 n (p + 1) acc) (hp : p < 78) :
    TW w (((((w1.setCell ⟨w.heap.size, 0, none⟩ (.int .u64 (l0 q))).setCell ⟨w.heap.size, 1, none⟩ (.int .u64 (l1 q))).setCell ⟨w.heap.size, 2, none⟩ (.int .u64 (l2 q))).setCell ⟨w.heap.size, 3, none⟩ (.int .u64 (l3 q))).setCell ⟨w.heap.size + 1, p, none⟩ (.int .u8 d)) q p (d :: acc) := by
  obtain ⟨h1, h2, ⟨b0, b1, b2, b3⟩, h4, h5, h6⟩ := h
  refine ⟨?_, by simpa [World.setCell] using h2, ?_, ?_, ?_, ?_⟩
  · exact ((((h1.setCell (Nat.le_refl _) _).setCell (Nat.le_refl _) _).setCell (Nat.le_refl _) _).setCell (Nat.le_refl _) _).setCell (by show w.heap.size ≤ w.heap.size + 1; omega) _
  · simp [At4, go_sem, *]
  · intro o; simp [World.frozen?_setCell, h4 o]
  · intro o; simp [World.frozen?_setCell, h5 o]
  · intro j hj
    have e := h6 j hj
    by_cases hjp : j = p
    · subst hjp
      simp [go_sem, e]
    · have e2 : (((((w1.setCell ⟨w.heap.size, 0, none⟩ (.int .u64 (l0 q))).setCell ⟨w.heap.size, 1, none⟩ (.int .u64 (l1 q))).setCell ⟨w.heap.size, 2, none⟩ (.int .u64 (l2 q))).setCell ⟨w.heap.size, 3, none⟩ (.int .u64 (l3 q))).setCell ⟨w.heap.size + 1, p, none⟩ (.int .u8 d)).cell? ⟨w.heap.size + 1, j, none⟩ = w1.cell? ⟨w.heap.size + 1, j, none⟩ := by
        simp [go_sem, e]
      rw [e2, e]
      by_cases hlt : j < p
      · rw [if_pos (by omega), if_pos hlt]
      · rw [if_neg (by omega), if_neg hlt, show j - p = (j - (p + 1)) + 1 from by omega]
        simp
theorem TW.start (w : World) (n : Int) : TW w ((w.alloc (.cells #[.int .u64 (l0 n), .int .u64 (l1 n), .int .u64 (l2 n), .int .u64 (l3 n)] 24)).alloc (.cells Z78 67)) n 78 [] := by
  refine ⟨((Mo.refl _).alloc _ _).alloc _ _, by simp, by simp [At4, go_sem], fun o => by simp [go_sem], fun o => by simp [go_sem], ?_⟩
  intro j hj
  rw [if_pos hj]
  have : Z78[j]? = some (.int .u8 0) := by unfold Z78; simp [hj]
  simp [go_sem, this]
theorem zero4 {q : Int} (h0 : 0 ≤ q) (h : q < MM) : (l0 q == 0 && (l1 q == 0 && (l2 q == 0 && l3 q == 0))) = decide (q = 0) := by
  have e := vl_lb q h0 h
  rw [Bool.eq_iff_iff]
  simp
  constructor
  · rintro ⟨a, b, c, d⟩; rw [a, b, c, d] at e; rw [← e]; rfl
  · rintro rfl; decide
theorem conv (W : World) (k p l c : Nat) (acc : List Int) (h : Dg W k p acc) (hp : p + acc.length = 78) (hl : l = acc.length) :
    (convert 51 9 (.slice (some ⟨k, p, none⟩) l c)).run Tryd.prog W = .ok (.string (strOf acc)) W := by
  subst hl
  rw [run_convert_bytes_string W 51 9 5 _ _ _ Tryd.underlying51 Tryd.underlying5 Tryd.underlying9, run_bytesToString W _ _ _ acc]
  · rfl
  · rw [show acc.length = (acc.map (Value.int .u8)).length by simp]
    refine run_loadCells_list W _ _ ?_
    intro j v hv
    rw [List.getElem?_map, Option.map_eq_some_iff] at hv
    obtain ⟨x, hx, rfl⟩ := hv
    have hj : j < acc.length := by
      rcases Nat.lt_or_ge j acc.length with h' | h'
      · exact h'
      · rw [List.getElem?_eq_none h'] at hx; cases hx
    rw [Addr.add_mid]
    have := h (p + j) (by omega)
    rw [if_neg (by omega), show p + j - p = j from by omega, List.getD, hx] at this
    exact this
theorem len60 : Tryd.prog.arrayLen 67 = 78 := by kernel_rfl
theorem elem60 : Tryd.prog.elem 67 = 5 := by kernel_rfl
theorem sl60 (k p : Nat) (W : World) (h : p < 78) : (Instr.sliceAt 67 (.pointer (some ⟨k, 0, none⟩)) (some (.int .i64 (p : Int))) none none).run Tryd.prog W = .ok (.slice (some ⟨k, p, none⟩) (78 - p) (78 - p)) W := by
  have e := run_sliceAt_array_l (P := Tryd.prog) W 67 ⟨k, 0, none⟩ (by rw [len60, elem60]; exact Tryd.underlying67) .i64 (p : Int) (by omega) (by rw [len60]; omega)
  rw [e, len60, elem60, Tryd.sizeOf5]
  simp only [Result.andThen_ok, slicedAt, Int.toNat_natCast]
  rw [if_neg (by omega), Addr.add_mid, Nat.mul_one, Nat.zero_add]
theorem text_end {n : Int} {p : Nat} (h : n / 10 = 0) : decF (p + 1) n = [48 + n % 10] := by rw [decF, if_pos h]
theorem text_on {n : Int} {p : Nat} (h : n / 10 ≠ 0) : decF (p + 1) n = decF p (n / 10) ++ [48 + n % 10] := by rw [decF, if_neg h]

set_option maxHeartbeats 1000000 in
theorem text_n (n : Int) (w : World) (hn0 : 0 ≤ n) (hn : n < MM) :
    Calls Tryd.prog 23 #[nv n] w fun e w' =>
      e = .returned (.string (strOf (decF 78 n))) ∧ Mo w w' := by
  have hz := z60
  have q4 := eq4
  go_enter Tryd.func23, Tryd.ntmps23
  go_wp2
  refine wp_scope_jumps 0 (fun a' w' => ∃ (m : Int) (p : Nat) (acc : List Int) (u4 u6 u7 u8 u9 u10 u11 u12 u13 u14 u15 u16 u17 u18 u19 u20 u21 u22 u23 : Value), a' = { tmps := #[nv n, .pointer (some ⟨w.heap.size, 0, none⟩), .string ⟨#[]⟩, .pointer (some ⟨w.heap.size + 1, 0, none⟩), u4, .int .i64 ((p : Int) + 1), u6, u7, u8, u9, u10, u11, u12, u13, u14, u15, u16, u17, u18, u19, u20, u21, u22, u23], defers := [] } ∧ TW w w' m (p + 1) acc ∧ 0 < m ∧ m < 10 ^ (p + 1) ∧ m < MM ∧ p + 1 + acc.length = 78 ∧ decF 78 n = decF (p + 1) m ++ acc) (fun a' _ => (intOf (a'.tmps.getD 5 undef)).toNat) rfl ?_ ?_
  · go_wp2_with fail
    go_step3
    go_wp2_with fail
    refine (divLimb_any (l0 n) (l1 n) (l2 n) (l3 n) 10 _ (u4_lb n) (by decide) (by decide)).mono ?_
    rintro e w1 ⟨rfl, hm⟩
    rw [vl_lb n hn0 hn]
    have t1 := (TW.start w n).mo hm
    have t3 := TW.step (q := n / 10) (d := 48 + n % 10) t1 (by decide)
    have z4 := zero4 (q := n / 10) (by omega) (by unfold MM at *; omega)
    have t2 := t1
    obtain ⟨k0, k1, ⟨A0, A1, A2, A3⟩, F1, F2, D⟩ := t2
    have F1 := fun o => F1 o
    have F2 := fun o => F2 o
    have D0 := D 77 (by decide)
    simp at D0
    clear hm D
    by_cases hq : n / 10 = 0
    · have hb : (l0 (n / 10) == 0 && (l1 (n / 10) == 0 && (l2 (n / 10) == 0 && l3 (n / 10) == 0))) = true := by rw [z4]; exact decide_eq_true hq
      have cv := conv _ _ _ 1 1 _ t3.2.2.2.2.2 (by rfl) rfl
      have HE : Hid (decF 78 n = [48 + n % 10]) := text_end hq
      clear z4 hq
      go_wp2_with fail
      simp only [Exit.jump]
      go_ret
      exact ⟨by rw [HE.out]; rfl, t3.1⟩
    · have hb : (l0 (n / 10) == 0 && (l1 (n / 10) == 0 && (l2 (n / 10) == 0 && l3 (n / 10) == 0))) = false := by rw [z4]; exact decide_eq_false hq
      have HE : Hid (decF 78 n = decF 77 (n / 10) ++ [48 + n % 10]) := text_on hq
      have HQ : Hid (n / 10 ≠ 0) := hq
      clear z4 hq
      go_wp2_with fail
      go_step3
      refine ⟨rfl, n / 10, 76, [48 + n % 10], _, _, _, _, _, _, _, _, _, _, _, _, _, _, _, _, _, _, _, rfl, t3, ?_, ?_, ?_, rfl, HE.out⟩
      · have := HQ.out; omega
      · unfold MM at hn; omega
      · unfold MM at *; omega
  · rintro a' w' ⟨m, p, acc, u4, u6, u7, u8, u9, u10, u11, u12, u13, u14, u15, u16, u17, u18, u19, u20, u21, u22, u23, rfl, ht, hm0, hm10, hmM, hlen, hdec⟩
    have hp : p < 78 := by omega
    have HD : Hid (decF 78 n = decF (p + 1) m ++ acc) := hdec
    have HL : Hid (p + 1 + acc.length = 78) := hlen
    have HM : Hid (m < 10 ^ (p + 1)) := hm10
    clear hdec hlen hm10
    have ht0 := ht
    obtain ⟨k0, k1, ⟨A0, A1, A2, A3⟩, F1, F2, D⟩ := ht
    clear D F1 F2
    go_wp2_with fail
    refine (divLimb_any (l0 m) (l1 m) (l2 m) (l3 m) 10 _ (u4_lb m) (by decide) (by decide)).mono ?_
    rintro e w1 ⟨rfl, hm⟩
    rw [vl_lb m (by omega) hmM]
    have t1 := ht0.mo hm
    have t3 := TW.step (q := m / 10) (d := 48 + m % 10) t1 hp
    have z4 := zero4 (q := m / 10) (by omega) (by unfold MM at *; omega)
    have t2 := t1
    clear A0 A1 A2 A3 k0 k1
    obtain ⟨k0, k1, ⟨A0, A1, A2, A3⟩, F1, F2, D⟩ := t2
    have F1 := fun o => F1 o
    have F2 := fun o => F2 o
    have D0 := D p hp
    rw [if_pos (by omega)] at D0
    clear hm D
    by_cases hq : m / 10 = 0
    · have hb : (l0 (m / 10) == 0 && (l1 (m / 10) == 0 && (l2 (m / 10) == 0 && l3 (m / 10) == 0))) = true := by rw [z4]; exact decide_eq_true hq
      have cv := fun l c (hl : l = _) => conv _ _ _ l c _ t3.2.2.2.2.2 (by have := HL.out; simp; omega) hl
      have HE : Hid (decF (p + 1) m = [48 + m % 10]) := text_end hq
      clear z4 hq
      have sl := fun k W => sl60 k p W hp
      have cv2 := cv (78 - p) (78 - p) (by have := HL.out; simp; omega)
      clear cv
      go_wp2_with fail
      simp only [Exit.jump]
      go_ret
      exact ⟨by rw [HD.out, HE.out]; rfl, t3.1⟩
    · have hb : (l0 (m / 10) == 0 && (l1 (m / 10) == 0 && (l2 (m / 10) == 0 && l3 (m / 10) == 0))) = false := by rw [z4]; exact decide_eq_false hq
      have HE : Hid (decF (p + 1) m = decF p (m / 10) ++ [48 + m % 10]) := text_on hq
      have HQ : Hid (m / 10 ≠ 0) := hq
      clear z4 hq
      go_wp2_with fail
      go_step3
      have b1 := HQ.out
      have b2 := HM.out
      rw [Int.pow_succ] at b2
      have hp1 : 1 ≤ p := by
        rcases Nat.eq_zero_or_pos p with h | h
        · subst h; simp at b2; omega
        · exact h
      obtain ⟨r, rfl⟩ : ∃ r, p = r + 1 := ⟨p - 1, by omega⟩
      refine ⟨rfl, ⟨m / 10, r, (48 + m % 10) :: acc, _, _, _, _, _, _, _, _, _, _, _, _, _, _, _, _, _, _, _, rfl, t3, by omega, by omega, by unfold MM at *; omega, ?_, ?_⟩, ?_⟩
      · have := HL.out; simp; omega
      · rw [HD.out, HE.out]; simp
      · simp [intOf]; omega
end Go.Proofs.YtdcojpbgijkmgaaDoor
