/-
  limb.divLimb, whatever the limbs: the walk. limb.Text, whatever the limbs: the walk. Decimal digits as plain lists. Bytes of one's own: as a string, behind others; the document's text of a number. The document's text of a number: its decimal digits. Is a number one that may be? strings.Repeat of one zero, up to eighteen times. A number as a text: both sides say the same. A number as a text: both sides say the same. Whole numbers as texts: the program's and the document's. Calls that come to something in new memory: what is told of grows with them. A builder of strings: bytes put behind one another. A builder of strings: what its calls do. Texts in quotes: the document's. Texts in quotes: the program's. Values that may stand in a text. Values that may stand in a text: both sides ask the same. Nodes that may stand in a text: the program's. Nodes that may stand in a text: the program's. Expressions that a text may say: the program's. Expressions that a text may say: the document's. The program's writer: words put behind one another. The program's writer: several words. The words of an expression; how tight it holds; constants; the text at the end. The program writes constants and columns. The program writes columns. The program writes calls. The program writes expressions without brackets. The program writes expressions. The document's writer: several words.
-/
import Derived.Test.YtpabcmaeaiaknaaGreatDoorYb
import Derived.ScopeJumps
import Derived.WalkMore
import Derived.Lib.CutLaws
import Derived.Lib.IndexBytes
import Derived.Orders
import Derived.Shelf.Small.Wraps
import Derived.Shelf.LaysM
import Derived.Shelf.Strconv.Itoa3
import Derived.Test.YtpabcmaeaiaknaaGreatDoorProg
import Derived.Lib.Builder
import Derived.Lib.UnsafeStr
namespace Go.Proofs.YtpabcmaeaiaknaaGreatDoor
open Go.RowKit
theorem dl_step {r a c q s : Int} (hr : 0 <= r) (hrc : r < c) (ha : U1 a) (_hc : 0 < c) (hq : q = (r * 18446744073709551616 + a) / c) (hs : s = (r * 18446744073709551616 + a) % c) : U1 q /\ 0 <= s /\ s < c /\ c * q + s = r * 18446744073709551616 + a := by
  subst hq hs
  obtain ⟨a0, a1⟩ := ha
  refine ⟨⟨Int.ediv_nonneg (by omega) (by omega), Int.ediv_lt_of_lt_mul (by omega) (by omega)⟩, Int.emod_nonneg _ (by omega), Int.emod_lt_of_pos _ (by omega), Int.mul_ediv_add_emod _ _⟩
theorem dl_eq {a0 a1 a2 a3 c q0 q1 q2 q3 r0 r1 r2 r3 : Int} (ha : U4 a0 a1 a2 a3) (hc : 0 < c)
    (e3 : q3 = a3 / c) (f3 : r3 = a3 % c) (e2 : q2 = (r3 * 18446744073709551616 + a2) / c) (f2 : r2 = (r3 * 18446744073709551616 + a2) % c) (e1 : q1 = (r2 * 18446744073709551616 + a1) / c) (f1 : r1 = (r2 * 18446744073709551616 + a1) % c) (e0 : q0 = (r1 * 18446744073709551616 + a0) / c) (f0 : r0 = (r1 * 18446744073709551616 + a0) % c) :
    (U4 q0 q1 q2 q3 /\ (0 <= r3 /\ r3 < c) /\ (0 <= r2 /\ r2 < c) /\ (0 <= r1 /\ r1 < c) /\ (0 <= r0 /\ r0 < c)) /\ vl q0 q1 q2 q3 = vl a0 a1 a2 a3 / c /\ r0 = vl a0 a1 a2 a3 % c := by
  obtain ⟨g0, g1, g2, g3⟩ := ha
  obtain ⟨u3, s3, t3, m3⟩ := dl_step (Int.le_refl 0) hc g3 hc (show q3 = (0 * 18446744073709551616 + a3) / c by rw [e3]; simp) (show r3 = (0 * 18446744073709551616 + a3) % c by rw [f3]; simp)
  obtain ⟨u2, s2, t2, m2⟩ := dl_step s3 t3 g2 hc e2 f2
  obtain ⟨u1, s1, t1, m1⟩ := dl_step s2 t2 g1 hc e1 f1
  obtain ⟨u0, s0, t0, m0⟩ := dl_step s1 t1 g0 hc e0 f0
  have key : vl a0 a1 a2 a3 = r0 + c * vl q0 q1 q2 q3 := by
    have e : c * vl q0 q1 q2 q3 = c * q0 + 18446744073709551616 * (c * q1) + 340282366920938463463374607431768211456 * (c * q2) + 6277101735386680763835789423207666416102355444464034512896 * (c * q3) := by
      unfold vl; rw [Int.mul_add, Int.mul_add, Int.mul_add, Int.mul_left_comm, Int.mul_left_comm c _ q2, Int.mul_left_comm c _ q3]
    rw [e]; unfold vl; omega
  refine ⟨⟨⟨u0, u1, u2, u3⟩, ⟨s3, t3⟩, ⟨s2, t2⟩, ⟨s1, t1⟩, s0, t0⟩, ?_, ?_⟩
  · rw [key, Int.add_mul_ediv_left _ _ (by omega), Int.ediv_eq_zero_of_lt s0 t0, Int.zero_add]
  · rw [key, Int.add_mul_emod_self_left, Int.emod_eq_of_lt s0 t0]

theorem setd (w : World) (n : Nat) (a : Addr) (v : Value) : (w.drewN n).setCell a v = (w.setCell a v).drewN n := rfl
set_option maxHeartbeats 1000000 in
theorem divLimb_raw (a0 a1 a2 a3 c q0 q1 q2 q3 r0 r1 r2 r3 : Int) (w : World) (ha : U4 a0 a1 a2 a3) (hc : 0 < c) (hc2 : c < 18446744073709551616) (b3 : 0 <= r3) (b3' : r3 < c) (b2 : 0 <= r2) (b2' : r2 < c) (b1 : 0 <= r1) (b1' : r1 < c)
    (e3 : a3 / c = q3) (f3 : a3 % c = r3) (e2 : (r3 * 18446744073709551616 + a2) / c = q2) (f2 : (r3 * 18446744073709551616 + a2) % c = r2) (e1 : (r2 * 18446744073709551616 + a1) / c = q1) (f1 : (r2 * 18446744073709551616 + a1) % c = r1) (e0 : (r1 * 18446744073709551616 + a0) / c = q0) (f0 : (r1 * 18446744073709551616 + a0) % c = r0) :
    Calls Tryz.prog 244 #[.agg #[.int .u64 a0, .int .u64 a1, .int .u64 a2, .int .u64 a3], .int .u64 c] w fun e w' =>
      e = .returned (.tuple #[.agg #[.int .u64 q0, .int .u64 q1, .int .u64 q2, .int .u64 q3], .int .u64 r0]) /\ Mo w w' := by
  obtain ⟨⟨p0, s0⟩, ⟨p1, s1⟩, ⟨p2, s2⟩, ⟨p3, s3⟩⟩ := ha
  have sd := setd
  go_enter Tryz.func244, Tryz.ntmps244
  go_wp2
  refine wp_loop_rounds 5 ?_
  rw [rounds_succ]
  go_wp2_with (go_at_call 260; refine (div64_any 0 a3 c _ (Int.le_refl 0) hc p3 s3 hc2).mono ?_; rintro e w' ⟨rfl, n, rfl⟩)
  rw [rounds_succ]
  go_wp2_with (go_at_call 260; refine (div64_any r3 a2 c _ b3 b3' p2 s2 hc2).mono ?_; rintro e w' ⟨rfl, n, rfl⟩)
  rw [rounds_succ]
  go_wp2_with (go_at_call 260; refine (div64_any r2 a1 c _ b2 b2' p1 s1 hc2).mono ?_; rintro e w' ⟨rfl, n, rfl⟩)
  rw [rounds_succ]
  go_wp2_with (go_at_call 260; refine (div64_any r1 a0 c _ b1 b1' p0 s0 hc2).mono ?_; rintro e w' ⟨rfl, n, rfl⟩)
  rw [rounds_succ]
  go_wp2
  refine bodyPost_ret (v := .tuple #[.agg #[.int .u64 q0, .int .u64 q1, .int .u64 q2, .int .u64 q3], .int .u64 r0]) (by simp [results, Tryz.results244, go_sem]) rfl ?_
  refine ⟨rfl, ?_⟩
  repeat (first | with_reducible exact Mo.refl _ | with_reducible apply Mo.drew | with_reducible apply Mo.drewN | with_reducible apply Mo.alloc | with_reducible refine Mo.setCell ?_ (by simp <;> omega) _ | with_reducible refine Mo.trans ?_ (by with_reducible assumption))

theorem divLimb_any (a0 a1 a2 a3 c : Int) (w : World) (ha : U4 a0 a1 a2 a3) (hc : 0 < c) (hc2 : c < 18446744073709551616) :
    Calls Tryz.prog 244 #[.agg #[.int .u64 a0, .int .u64 a1, .int .u64 a2, .int .u64 a3], .int .u64 c] w fun e w' =>
      e = .returned (.tuple #[nv (vl a0 a1 a2 a3 / c), .int .u64 (vl a0 a1 a2 a3 % c)]) /\ Mo w w' := by
  obtain ⟨⟨u, ⟨x3, y3⟩, ⟨x2, y2⟩, ⟨x1, y1⟩, _⟩, e, f⟩ := dl_eq ha hc rfl rfl rfl rfl rfl rfl rfl rfl
  rw [← e, ← f, nv_vl u]
  exact divLimb_raw a0 a1 a2 a3 c _ _ _ _ _ _ _ _ w ha hc hc2 x3 y3 x2 y2 x1 y1 rfl rfl rfl rfl rfl rfl rfl rfl
def decF : Nat -> Int -> List Int
  | 0, _ => []
  | f + 1, n => if n / 10 = 0 then [48 + n % 10] else decF f (n / 10) ++ [48 + n % 10]
def strOf (ns : List Int) : ByteArray := ns.foldl (fun r n => r.push (UInt8.ofNat n.toNat)) ByteArray.empty
def Z78 : Array Value := Array.replicate 78 (.int .u8 0)
theorem z60 (w : World) : (zeroValue 241).run Tryz.prog w = .ok (.agg Z78) w := by kernel_rfl
def Dg (w : World) (k p : Nat) (acc : List Int) : Prop := ∀ j, j < 78 -> w.cell? ⟨k, j, none⟩ = some (.int .u8 (if j < p then 0 else acc.getD (j - p) 0))
def TW (w wx : World) (n : Int) (p : Nat) (acc : List Int) : Prop := Mo w wx /\ w.heap.size + 1 < wx.heap.size /\ At4 wx w.heap.size (l0 n) (l1 n) (l2 n) (l3 n) /\ Fz wx w.heap.size /\ Fz wx (w.heap.size + 1) /\ Dg wx (w.heap.size + 1) p acc
theorem TW.mo {w wx w1 : World} {n : Int} {p : Nat} {acc : List Int} (h : TW w wx n p acc) (m : Mo wx w1) : TW w w1 n p acc := by
  obtain ⟨h1, h2, h3, h4, h5, h6⟩ := h
  have := m.size
  exact ⟨h1.trans m, by omega, h3.mo m (by omega), h4.mo m, h5.mo m, fun j hj => (m.cell _ _ h2).trans (h6 j hj)⟩
theorem TW.step {w w1 : World} {n q d : Int} {p : Nat} {acc : List Int} (h : TW w w1 n (p + 1) acc) (hp : p < 78) :
    TW w (((((w1.setCell ⟨w.heap.size, 0, none⟩ (.int .u64 (l0 q))).setCell ⟨w.heap.size, 1, none⟩ (.int .u64 (l1 q))).setCell ⟨w.heap.size, 2, none⟩ (.int .u64 (l2 q))).setCell ⟨w.heap.size, 3, none⟩ (.int .u64 (l3 q))).setCell ⟨w.heap.size + 1, p, none⟩ (.int .u8 d)) q p (d :: acc) := by
  obtain ⟨h1, h2, ⟨b0, b1, b2, b3⟩, h4, h5, h6⟩ := h
  refine ⟨?_, by simpa [World.setCell] using h2, ?_, ?_, ?_, ?_⟩
  · exact ((((h1.setCell (Nat.le_refl _) _).setCell (Nat.le_refl _) _).setCell (Nat.le_refl _) _).setCell (Nat.le_refl _) _).setCell (by show w.heap.size <= w.heap.size + 1; omega) _
  · simp [At4, go_sem, *]
  · intro o; simp [World.frozen?_setCell, h4 o]
  · intro o; simp [World.frozen?_setCell, h5 o]
  · intro j hj
    have e := h6 j hj
    by_cases hjp : j = p
    · subst hjp
      simp [go_sem, e]
    · have e2 : (((((w1.setCell ⟨w.heap.size, 0, none⟩ (.int .u64 (l0 q))).setCell ⟨w.heap.size, 1, none⟩ (.int .u64 (l1 q))).setCell ⟨w.heap.size, 2, none⟩ (.int .u64 (l2 q))).setCell ⟨w.heap.size, 3, none⟩ (.int .u64 (l3 q))).setCell ⟨w.heap.size + 1, p, none⟩ (.int .u8 d)).cell? ⟨w.heap.size + 1, j, none⟩ = w1.cell? ⟨w.heap.size + 1, j, none⟩ := by
        simp [go_sem, e]
      rw [e2, e]
      by_cases hlt : j < p
      · rw [if_pos (by omega), if_pos hlt]
      · rw [if_neg (by omega), if_neg hlt, show j - p = (j - (p + 1)) + 1 from by omega]
        simp
theorem TW.start (w : World) (n : Int) : TW w ((w.alloc (.cells #[.int .u64 (l0 n), .int .u64 (l1 n), .int .u64 (l2 n), .int .u64 (l3 n)] 24)).alloc (.cells Z78 241)) n 78 [] := by
  refine ⟨((Mo.refl _).alloc _ _).alloc _ _, by simp, by simp [At4, go_sem], fun o => by simp [go_sem], fun o => by simp [go_sem], ?_⟩
  intro j hj
  rw [if_pos hj]
  have : Z78[j]? = some (.int .u8 0) := by unfold Z78; simp [hj]
  simp [go_sem, this]
theorem conv (W : World) (k p l c : Nat) (acc : List Int) (h : Dg W k p acc) (hp : p + acc.length = 78) (hl : l = acc.length) :
    (convert 68 9 (.slice (some ⟨k, p, none⟩) l c)).run Tryz.prog W = .ok (.string (strOf acc)) W := by
  subst hl
  rw [run_convert_bytes_string W 68 9 5 _ _ _ Tryz.underlying68 Tryz.underlying5 Tryz.underlying9, run_bytesToString W _ _ _ acc]
  · rfl
  · rw [show acc.length = (acc.map (Value.int .u8)).length by simp]
    refine run_loadCells_list W _ _ ?_
    intro j v hv
    rw [List.getElem?_map, Option.map_eq_some_iff] at hv
    obtain ⟨x, hx, rfl⟩ := hv
    have hj : j < acc.length := by
      rcases Nat.lt_or_ge j acc.length with h' | h'
      · exact h'
      · rw [List.getElem?_eq_none h'] at hx; cases hx
    rw [Addr.add_mid]
    have := h (p + j) (by omega)
    rw [if_neg (by omega), show p + j - p = j from by omega, List.getD, hx] at this
    exact this
theorem len60 : Tryz.prog.arrayLen 241 = 78 := by kernel_rfl
theorem elem60 : Tryz.prog.elem 241 = 5 := by kernel_rfl
theorem sl60 (k p : Nat) (W : World) (h : p < 78) : (Instr.sliceAt 241 (.pointer (some ⟨k, 0, none⟩)) (some (.int .i64 (p : Int))) none none).run Tryz.prog W = .ok (.slice (some ⟨k, p, none⟩) (78 - p) (78 - p)) W := by
  have e := run_sliceAt_array_l (P := Tryz.prog) W 241 ⟨k, 0, none⟩ (by rw [len60, elem60]; exact Tryz.underlying241) .i64 (p : Int) (by omega) (by rw [len60]; omega)
  rw [e, len60, elem60, Tryz.sizeOf5]
  simp only [Result.andThen_ok, slicedAt, Int.toNat_natCast]
  rw [if_neg (by omega), Addr.add_mid, Nat.mul_one, Nat.zero_add]
theorem text_end {n : Int} {p : Nat} (h : n / 10 = 0) : decF (p + 1) n = [48 + n % 10] := by rw [decF, if_pos h]
theorem text_on {n : Int} {p : Nat} (h : n / 10 ≠ 0) : decF (p + 1) n = decF p (n / 10) ++ [48 + n % 10] := by rw [decF, if_neg h]

set_option maxHeartbeats 1000000 in
theorem text_n (n : Int) (w : World) (hn0 : 0 <= n) (hn : n < MM) :
    Calls Tryz.prog 219 #[nv n] w fun e w' =>
      e = .returned (.string (strOf (decF 78 n))) /\ Mo w w' := by
  have hz := z60
  have q4 := eq4
  go_enter Tryz.func219, Tryz.ntmps219
  go_wp2
  refine wp_scope_jumps 0 (fun a' w' => ∃ (m : Int) (p : Nat) (acc : List Int) (u4 u6 u7 u8 u9 u10 u11 u12 u13 u14 u15 u16 u17 u18 u19 u20 u21 u22 u23 : Value), a' = { tmps := #[nv n, .pointer (some ⟨w.heap.size, 0, none⟩), .string ⟨#[]⟩, .pointer (some ⟨w.heap.size + 1, 0, none⟩), u4, .int .i64 ((p : Int) + 1), u6, u7, u8, u9, u10, u11, u12, u13, u14, u15, u16, u17, u18, u19, u20, u21, u22, u23], defers := [] } /\ TW w w' m (p + 1) acc /\ 0 < m /\ m < 10 ^ (p + 1) /\ m < MM /\ p + 1 + acc.length = 78 /\ decF 78 n = decF (p + 1) m ++ acc) (fun a' _ => (intOf (a'.tmps.getD 5 undef)).toNat) rfl ?_ ?_
  · go_wp2_with fail
    go_step3
    go_wp2_with fail
    refine (divLimb_any (l0 n) (l1 n) (l2 n) (l3 n) 10 _ (u4_lb n) (by decide) (by decide)).mono ?_
    rintro e w1 ⟨rfl, hm⟩
    rw [vl_lb n hn0 hn]
    have t1 := (TW.start w n).mo hm
    have t3 := TW.step (q := n / 10) (d := 48 + n % 10) t1 (by decide)
    have z4 := zero4 (q := n / 10) (by omega) (by unfold MM at *; omega)
    have t2 := t1
    obtain ⟨k0, k1, ⟨A0, A1, A2, A3⟩, F1, F2, D⟩ := t2
    have F1 := fun o => F1 o
    have F2 := fun o => F2 o
    have D0 := D 77 (by decide)
    simp at D0
    clear hm D
    by_cases hq : n / 10 = 0
    · have hb : (l0 (n / 10) == 0 && (l1 (n / 10) == 0 && (l2 (n / 10) == 0 && l3 (n / 10) == 0))) = true := by rw [z4]; exact decide_eq_true hq
      have cv := conv _ _ _ 1 1 _ t3.2.2.2.2.2 (by rfl) rfl
      have HE : Hid (decF 78 n = [48 + n % 10]) := text_end hq
      clear z4 hq
      go_wp2_with fail
      simp only [Exit.jump]
      go_ret
      exact ⟨by rw [HE.out]; rfl, t3.1⟩
    · have hb : (l0 (n / 10) == 0 && (l1 (n / 10) == 0 && (l2 (n / 10) == 0 && l3 (n / 10) == 0))) = false := by rw [z4]; exact decide_eq_false hq
      have HE : Hid (decF 78 n = decF 77 (n / 10) ++ [48 + n % 10]) := text_on hq
      have HQ : Hid (n / 10 ≠ 0) := hq
      clear z4 hq
      go_wp2_with fail
      go_step3
      refine ⟨rfl, n / 10, 76, [48 + n % 10], _, _, _, _, _, _, _, _, _, _, _, _, _, _, _, _, _, _, _, rfl, t3, ?_, ?_, ?_, rfl, HE.out⟩
      · have := HQ.out; omega
      · unfold MM at hn; omega
      · unfold MM at *; omega
  · rintro a' w' ⟨m, p, acc, u4, u6, u7, u8, u9, u10, u11, u12, u13, u14, u15, u16, u17, u18, u19, u20, u21, u22, u23, rfl, ht, hm0, hm10, hmM, hlen, hdec⟩
    have hp : p < 78 := by omega
    have HD : Hid (decF 78 n = decF (p + 1) m ++ acc) := hdec
    have HL : Hid (p + 1 + acc.length = 78) := hlen
    have HM : Hid (m < 10 ^ (p + 1)) := hm10
    clear hdec hlen hm10
    have ht0 := ht
    obtain ⟨k0, k1, ⟨A0, A1, A2, A3⟩, F1, F2, D⟩ := ht
    clear D F1 F2
    go_wp2_with fail
    refine (divLimb_any (l0 m) (l1 m) (l2 m) (l3 m) 10 _ (u4_lb m) (by decide) (by decide)).mono ?_
    rintro e w1 ⟨rfl, hm⟩
    rw [vl_lb m (by omega) hmM]
    have t1 := ht0.mo hm
    have t3 := TW.step (q := m / 10) (d := 48 + m % 10) t1 hp
    have z4 := zero4 (q := m / 10) (by omega) (by unfold MM at *; omega)
    have t2 := t1
    clear A0 A1 A2 A3 k0 k1
    obtain ⟨k0, k1, ⟨A0, A1, A2, A3⟩, F1, F2, D⟩ := t2
    have F1 := fun o => F1 o
    have F2 := fun o => F2 o
    have D0 := D p hp
    rw [if_pos (by omega)] at D0
    clear hm D
    by_cases hq : m / 10 = 0
    · have hb : (l0 (m / 10) == 0 && (l1 (m / 10) == 0 && (l2 (m / 10) == 0 && l3 (m / 10) == 0))) = true := by rw [z4]; exact decide_eq_true hq
      have cv := fun l c (hl : l = _) => conv _ _ _ l c _ t3.2.2.2.2.2 (by have := HL.out; simp; omega) hl
      have HE : Hid (decF (p + 1) m = [48 + m % 10]) := text_end hq
      clear z4 hq
      have sl := fun k W => sl60 k p W hp
      have cv2 := cv (78 - p) (78 - p) (by have := HL.out; simp; omega)
      clear cv
      go_wp2_with fail
      simp only [Exit.jump]
      go_ret
      exact ⟨by rw [HD.out, HE.out]; rfl, t3.1⟩
    · have hb : (l0 (m / 10) == 0 && (l1 (m / 10) == 0 && (l2 (m / 10) == 0 && l3 (m / 10) == 0))) = false := by rw [z4]; exact decide_eq_false hq
      have HE : Hid (decF (p + 1) m = decF p (m / 10) ++ [48 + m % 10]) := text_on hq
      have HQ : Hid (m / 10 ≠ 0) := hq
      clear z4 hq
      go_wp2_with fail
      go_step3
      have b1 := HQ.out
      have b2 := HM.out
      rw [Int.pow_succ] at b2
      have hp1 : 1 <= p := by
        rcases Nat.eq_zero_or_pos p with h | h
        · subst h; simp at b2; omega
        · exact h
      obtain ⟨r, rfl⟩ : ∃ r, p = r + 1 := ⟨p - 1, by omega⟩
      refine ⟨rfl, ⟨m / 10, r, (48 + m % 10) :: acc, _, _, _, _, _, _, _, _, _, _, _, _, _, _, _, _, _, _, _, rfl, t3, by omega, by omega, by unfold MM at *; omega, ?_, ?_⟩, ?_⟩
      · have := HL.out; simp; omega
      · rw [HD.out, HE.out]; simp
      · simp [intOf]; omega
end Go.Proofs.YtpabcmaeaiaknaaGreatDoor
namespace Go.Proofs.YtpabcmaeaiaknaaGreatDoor
open S Go.RowKit
abbrev by8 (n : Int) : Value := .int .u8 n
def bcs (s : ByteArray) : List Value := s.data.toList.map fun b => Value.int .u8 b.toNat
def bys (s : ByteArray) : List Int := s.data.toList.map fun b => (b.toNat : Int)
theorem bcs_bys (s : ByteArray) : bcs s = (bys s).map by8 := by unfold bcs bys; rw [List.map_map]; rfl
theorem by8_pur (ns : List Int) : (ns.map by8).all pur1 = true := by simp [pur1]
theorem by8_den (ns : List Int) : (ns.map by8).map den1 = ns.map by8 := by rw [List.map_map]; rfl
theorem strOf_eq (ns : List Int) : strOf ns = ⟨(ns.map fun n => UInt8.ofNat n.toNat).toArray⟩ := by unfold strOf; rw [push_fold]; simp
theorem bys_strOf {ns : List Int} (h : ∀ n ∈ ns, 0 <= n /\ n < 256) : bys (strOf ns) = ns := by
  rw [strOf_eq]; unfold bys
  simp only [List.map_map]
  conv => rhs; rw [← List.map_id ns]
  refine List.map_congr_left fun n hn => ?_
  have := h n hn
  show ((UInt8.ofNat n.toNat).toNat : Int) = n
  rw [UInt8.toNat_ofNat']; omega
section
variable {w0 : B0} {X : World} {o : Oper} {fr : FT} {h : HT} {n : Nat} {s d e : TypeId} {y : Operand} {b m es : Nat}
theorem r_cvB (ns : List Int) (hm : ns.length = m) (hcs : hget h b = some (ns.map by8)) (ho : o.op = .convert s d y := by rfl) (hv : evo fr y = .slice (some ⟨b, 0, none⟩) m es := by rfl) (hu : Tryz.prog.underlying s = some (.slice e) := by rfl) (hue : Tryz.prog.underlying e = some (.int .u8) := by rfl) (hud : Tryz.prog.underlying d = some .string := by rfl) : Oa (Am w0 X) Tryz.prog o fr h n ⟨.string (strOf ns), h, n, bit b, 0⟩ := by
  refine Oo.to ⟨Ss.read _ _ _, fun k W a K' Q hop H _ hk => ?_⟩
  have h1 := hop y (by simp [ho, Op.operands])
  rw [hv] at h1
  obtain ⟨_, b', zz, cap, hkb, h7, _⟩ := h1.slc_inv
  obtain ⟨b2, vs, sp, ty, e1, e2, e3⟩ := (H.rep b (tb_bit.2 rfl) _ hcs).cel hkb
  have hkb' : k b = some (b', zz + 1) := hkb
  rw [hkb'] at e1; cases e1
  have h3 := LR.map (p := pur1) (d := den1) (fun _ _ h => pur1_eq h) e3 (by8_pur ns)
  rw [by8_den] at h3
  subst h3 hm
  have hload : (loadCells ⟨b', 0, none⟩ ns.length).run Tryz.prog W = .ok (ns.map (Value.int .u8)).toArray W := by
    have := run_loadCells_list (P := Tryz.prog) W ⟨b', 0, none⟩ (ns.map (Value.int .u8)) (fun j u hu' => by
      rw [Addr.add_mid, cell_of e2, Nat.zero_add, List.getElem?_append_left (List.getElem?_eq_some_iff.1 hu').1]; exact hu')
    rwa [List.length_map] at this
  have hrun := run_bytesToString (P := Tryz.prog) W ⟨b', 0, none⟩ ns.length cap ns hload
  rw [← run_convert_bytes_string W s d e _ _ _ hu hue hud] at hrun
  unfold Oper.wp
  have : (execOp a.eval o).run Tryz.prog W = .ok (.value (.string (strOf ns))) W := by
    simp only [execOp, ho, h7]
    rw [Sem.run_bind, hrun]
    rfl
  rw [this, Oper.upon_value]
  exact hk _ W k (Sd.read H) (VX.of0 rfl)
end
def swp (i : Nat) (M : List Int) : List Int := (List.range M.length).map fun j => M.getD (if j < i ∨ M.length - 1 - i < j then M.length - 1 - j else j) 0
theorem swp_len (i : Nat) (M : List Int) : (swp i M).length = M.length := by simp [swp]
theorem swp_get {i j : Nat} {M : List Int} (h : j < M.length) : (swp i M)[j]? = some (M.getD (if j < i ∨ M.length - 1 - i < j then M.length - 1 - j else j) 0) := by
  unfold swp; rw [List.getElem?_map, List.getElem?_range h]; rfl
theorem swp_0 (M : List Int) : swp 0 M = M := by
  refine List.ext_getElem? fun j => ?_
  by_cases h : j < M.length
  · rw [swp_get h, if_neg (by omega), List.getD_eq_getElem?_getD, List.getElem?_eq_getElem h]; rfl
  · rw [List.getElem?_eq_none (by rw [swp_len]; omega), List.getElem?_eq_none (by omega)]
theorem swp_end {i : Nat} {M : List Int} (h : M.length - 1 - i <= i) : swp i M = M.reverse := by
  refine List.ext_getElem? fun j => ?_
  by_cases hj : j < M.length
  · rw [swp_get hj, List.getElem?_reverse hj, List.getD_eq_getElem?_getD]
    split
    · rw [List.getElem?_eq_getElem (show M.length - 1 - j < M.length by omega)]; rfl
    · rename_i hh
      rw [show M.length - 1 - j = j by omega, List.getElem?_eq_getElem hj]; rfl
  · rw [List.getElem?_eq_none (by rw [swp_len]; omega), List.getElem?_eq_none (by simp; omega)]
theorem swp_step {i : Nat} {M : List Int} (h : i < M.length - 1 - i) : ((swp i M).set i (M.getD (M.length - 1 - i) 0)).set (M.length - 1 - i) (M.getD i 0) = swp (i + 1) M := by
  refine List.ext_getElem? fun j => ?_
  by_cases hj : j < M.length
  · rw [swp_get hj, List.getElem?_set, List.getElem?_set]
    simp only [List.length_set, swp_len]
    by_cases h1 : M.length - 1 - i = j
    · rw [if_pos h1, if_pos (by omega), if_pos (by omega), show M.length - 1 - j = i by omega]
    · rw [if_neg h1]
      by_cases h2 : i = j
      · rw [if_pos h2, if_pos (by omega), if_pos (by omega), h2]
      · rw [if_neg h2, swp_get hj]
        congr 2
        by_cases h3 : j < i ∨ M.length - 1 - i < j
        · rw [if_pos h3, if_pos (by omega)]
        · rw [if_neg h3, if_neg (by omega)]
  · rw [List.getElem?_eq_none (by simp [swp_len]; omega), List.getElem?_eq_none (by rw [swp_len]; omega)]
theorem set_at {f : Int -> Value} {cs : List Int} {q : Nat} {v : Int} (h : q < cs.length) : (cs.map f).take q ++ [f v] ++ (cs.map f).drop (q + 1) = (cs.set q v).map f := by
  rw [List.map_set, List.set_eq_take_append_cons_drop, if_pos (by simpa using h)]; simp
abbrev JT (X : World) (p : Int × List Int) : St := match p.2 with
  | [] => ⟨⟨52, [(1, .pointer (some ⟨0, 0, none⟩)), (3, .slice none 0 0)]⟩, [(0, some [.int .u64 (l0 p.1), .int .u64 (l1 p.1), .int .u64 (l2 p.1), .int .u64 (l3 p.1)])], 1, X⟩
  | d :: L => ⟨⟨52, [(1, .pointer (some ⟨0, 0, none⟩)), (3, .slice (some ⟨1, 0, none⟩) (L.length + 1) 1)]⟩, [(0, some [.int .u64 (l0 p.1), .int .u64 (l1 p.1), .int .u64 (l2 p.1), .int .u64 (l3 p.1)]), (1 + 4096, none), (1, some ((d :: L).map by8))], 2, X⟩
def tkd (n : Int) (p : Int × List Int) : Prop := 0 <= p.1 /\ p.1 < MM /\ (∀ x ∈ p.2, 48 <= x /\ x < 58) /\ p.2.length <= 78 /\ (p.1 ≠ 0 -> p.1 < 10 ^ (78 - p.2.length) /\ decF 78 n = decF (78 - p.2.length) p.1 ++ p.2.reverse) /\ (p.1 = 0 -> decF 78 n = p.2.reverse)
theorem fsl {σ : List Nat} {i j q len len' es : Nat} (hl : len = len') (h : σ[j]? = some i := by rfl) : fitV σ (.slice (some ⟨i, q, none⟩) len es) (.slice (some ⟨j, q, none⟩) len' es) := hl ▸ fs h
theorem tkd_step {n m : Int} {L : List Int} (h : tkd n (m, L)) (hm : m ≠ 0) : tkd n (m / 10, L ++ [48 + m % 10]) := by
  obtain ⟨m0, mM, hL, hlen, hpos, hnil⟩ := h
  dsimp only at *
  obtain ⟨hlt, hd⟩ := hpos hm
  have hl : L.length ≠ 78 := fun e => by rw [e] at hlt; omega
  obtain ⟨f, hf⟩ : ∃ f, 78 - L.length = f + 1 := ⟨77 - L.length, by omega⟩
  have hf2 : 78 - (L.length + 1) = f := by omega
  rw [hf] at hlt hd
  refine ⟨by dsimp only; omega, by dsimp only; omega, fun x hx => ?_, by simp; omega, fun h => ⟨?_, ?_⟩, fun h => ?_⟩
  · rcases List.mem_append.1 hx with hx | hx
    · exact hL x hx
    · cases List.mem_singleton.1 hx; omega
  · show m / 10 < 10 ^ (78 - (L ++ [48 + m % 10]).length)
    rw [List.length_append, List.length_singleton]
    rw [hf2]
    rw [Int.pow_succ] at hlt; omega
  · show decF 78 n = decF (78 - (L ++ [48 + m % 10]).length) (m / 10) ++ _
    rw [List.length_append, List.length_singleton]
    rw [hf2, hd, decF, if_neg h]; simp
  · show decF 78 n = _
    rw [hd, decF, if_pos h]; simp
set_option maxRecDepth 20000 in
theorem q_text (n : Int) (h0 : 0 <= n) (hn : n < MM) (w : World) : Calls Tryz.prog 198 #[nv n] w fun e W => e = .returned (.string (strOf (decF 78 n))) /\ Mb w W := by
  refine fn_pure [nv n] Tryz.func198 rfl rfl rfl (run_ok (st mo ?_))
  repeat refine st mo ?_
  refine ⟨_, r_eqN n 0 ⟨h0, hn⟩ (by decide), fun hz => ?_, fun hz => ?_⟩
  · repeat refine st mo ?_
    have := of_decide_eq_true hz
    subst this
    rfl
  have hz := of_decide_eq_false hz
  repeat refine st mo ?_
  refine w_loop (JT w) (tkd n) (fun p => p.1.toNat) (n, []) ⟨h0, hn, by simp, by simp, fun _ => ⟨by unfold MM at hn; show n < 10 ^ 78; omega, by simp⟩, fun h => absurd h hz⟩ [0] ⟨rfl, ⟨fp, fv, trivial⟩, ⟨fl rfl rfl, trivial⟩, xf, rfl, rfl⟩ ?_
  rintro ⟨m, L⟩ hp
  have m0 : 0 <= m := hp.1
  have mM : m < MM := hp.2.1
  have wb : IntKind.u8.wrap (48 + m % 10) = 48 + m % 10 := by rw [IntKind.wrap_u8]; omega
  cases L with
  | nil =>
    repeat refine st mo ?_
    refine ⟨_, r_neN m 0 ⟨m0, mM⟩ (by decide), fun hz => ?_, fun hz => ?_⟩
    · have hm : m ≠ 0 := by simpa using hz
      repeat refine st mo ?_
      refine ⟨_, fun _ => r_call (t := .tuple #[nv (m / 10), .int .u64 (m % 10)]) rfl rfl Tryz.func220 (fun W M E => q_small m m0 mM W), st mo ?_⟩
      repeat refine st mo ?_
      refine ⟨48 + m % 10, wu rfl, st mo ⟨48 + m % 10, wb, st mo ?_⟩⟩
      repeat refine st mo ?_
      refine ⟨1, [by8 (48 + m % 10)], _, put_own rfl rfl rfl rfl rfl, by decide, by decide, st mo ?_⟩
      repeat refine st mo ?_
      exact ⟨(m / 10, [48 + m % 10]), tkd_step hp hm, by show (m / 10).toNat < m.toNat; omega, [0, 3], rfl, ⟨fp, fs, trivial⟩, ⟨fl rfl rfl, trivial, fl rfl rfl, trivial⟩, xf, rfl, rfl⟩
    · have hm : m = 0 := by simpa using hz
      exact absurd ((hp.2.2.2.2.2 hm).symm) (by
        have : decF 78 n ≠ [] := by rw [decF]; split <;> simp
        simpa using Ne.symm this)
  | cons d L =>
    repeat refine st mo ?_
    refine ⟨_, r_neN m 0 ⟨m0, mM⟩ (by decide), fun hz => ?_, fun hz => ?_⟩
    · have hm : m ≠ 0 := by simpa using hz
      repeat refine st mo ?_
      refine ⟨_, fun _ => r_call (t := .tuple #[nv (m / 10), .int .u64 (m % 10)]) rfl rfl Tryz.func220 (fun W M E => q_small m m0 mM W), st mo ?_⟩
      repeat refine st mo ?_
      refine ⟨48 + m % 10, wu rfl, st mo ⟨48 + m % 10, wb, st mo ?_⟩⟩
      repeat refine st mo ?_
      refine ⟨by show _ = (L.length + 1) * 1; simp, 1, [by8 (48 + m % 10)], _, put_own rfl rfl rfl rfl rfl, by have := hp.2.2.2.1; simp at this; omega, _, rfl, st mo ?_⟩
      repeat refine st mo ?_
      exact ⟨(m / 10, (d :: L) ++ [48 + m % 10]), tkd_step hp hm, by show (m / 10).toNat < m.toNat; omega, [0, 4], rfl, ⟨fp, fsl (by simp), trivial⟩, ⟨fl rfl rfl, trivial, fl (by simp) (by8_pur _), trivial⟩, xf, rfl, rfl⟩
    · have hm : m = 0 := by simpa using hz
      have hN := hp.2.2.2.1
      have hd := hp.2.2.2.2.2 hm
      dsimp only at hN hd
      have hN2 : L.length <= 77 := by simpa using hN
      clear hp
      repeat refine st mo ?_
      refine ⟨((L.length : Nat) : Int), by rw [wi (by simp at hN; omega)]; omega, st mo ?_⟩
      refine w_loop (fun i : Nat => ⟨⟨52, [(3, .slice (some ⟨0, 0, none⟩) (L.length + 1) 1), (6, .int .i64 (i : Int)), (7, .int .i64 ((L.length : Int) - (i : Int)))]⟩, [(0 + 4096, none), (0, some ((swp i (d :: L)).map by8))], 1, w⟩) (fun i => i <= L.length) (fun i => L.length - i) 0 (Nat.zero_le _) [1] ⟨rfl, ⟨fs, fv, fe, trivial⟩, ⟨trivial, fl (by rw [swp_0]) (by8_pur _), trivial⟩, xf, rfl, rfl⟩ ?_
      intro i hi
      repeat refine st mo ?_
      refine ⟨fun hlt => ?_, fun hge => ?_⟩
      · repeat refine st mo ?_
        have hlt' : i < L.length - i := by omega
        have g1 : ((swp i (d :: L)).map by8)[L.length - i]? = some (by8 ((d :: L).getD (L.length - i) 0)) := by
          rw [List.getElem?_map, swp_get (by simp; omega), if_neg (by simp; omega)]; rfl
        have g2 : ((swp i (d :: L)).map by8)[i]? = some (by8 ((d :: L).getD i 0)) := by
          rw [List.getElem?_map, swp_get (by simp; omega), if_neg (by simp; omega)]; rfl
        have sa1 := set_at (f := by8) (cs := swp i (d :: L)) (q := i) (v := (d :: L).getD (L.length - i) 0) (by rw [swp_len]; show i < L.length + 1; omega)
        have sa2 := set_at (f := by8) (cs := (swp i (d :: L)).set i ((d :: L).getD (L.length - i) 0)) (q := L.length - i) (v := (d :: L).getD i 0) (by rw [List.length_set, swp_len]; show L.length - i < L.length + 1; omega)
        refine ⟨L.length - i, by omega, by omega, st mo ⟨_, g1, st mo ⟨i, rfl, by omega, st mo ⟨_, g2, st mo ⟨i, rfl, by omega, st mo ⟨?_, _, sa1.symm, st mo ⟨L.length - i, by omega, by omega, st mo ⟨?_, _, sa2.symm, st mo ⟨dk, st mo ?_⟩⟩⟩⟩⟩⟩⟩⟩⟩
        · show i + 1 <= _
          rw [List.length_map, swp_len]; show i + 1 <= L.length + 1; omega
        · show L.length - i + 1 <= _
          rw [List.length_map, List.length_set, swp_len]; show L.length - i + 1 <= L.length + 1; omega
        · repeat refine st mo ?_
          refine ⟨_, wz (i + 1) rfl, st mo ⟨((L.length : Nat) : Int) - ((i + 1 : Nat) : Int), by rw [wi (by simp at hN; omega)]; omega, st mo ?_⟩⟩
          have hs := swp_step (i := i) (M := d :: L) (by show i < L.length + 1 - 1 - i; omega)
          rw [show (d :: L).length - 1 - i = L.length - i by simp] at hs
          exact ⟨i + 1, by omega, by show L.length - (i + 1) < L.length - i; omega, [0], rfl, ⟨fs, fv, fv, trivial⟩, ⟨trivial, fl (by rw [hs]) (by8_pur _), trivial⟩, xf, rfl, rfl⟩
      · repeat refine st mo ?_
        refine ⟨_, fun _ => r_cvB (swp i (d :: L)) (by rw [swp_len]) rfl, st mo ?_⟩
        repeat refine st mo ?_
        show _ = _
        rw [swp_end (by simp; omega), hd]
set_option maxRecDepth 20000 in
theorem p_sc {s : Int} {r : Bool} (hr : sc s = r) (w : World) : Calls Tryz.prog 242 #[.int .i64 s] w fun e W => e = .returned (.bool r) /\ Mb w W := by
  subst hr
  refine fn_pure [.int .i64 s] Tryz.func242 rfl rfl rfl (run_ok (st mo ?_))
  repeat' (first | refine ⟨fun _ => ?_, fun _ => ?_⟩ | refine st mo ?_)
  all_goals (show _ = _; unfold sc; congr 1; simp; omega)
abbrev dT (n s : Int) : Value := .agg #[litT, .int .u64 (l0 n), .int .u64 (l1 n), .int .u64 (l2 n), .int .u64 (l3 n), .int .i64 s]
abbrev dF (n s : Int) : Value := .agg #[litF, .int .u64 (l0 n), .int .u64 (l1 n), .int .u64 (l2 n), .int .u64 (l3 n), .int .i64 s]
theorem ck_t {b : Bool} {n s : Int} (h : sc s = true) (hb : b = true -> n ≠ 0) : ck b n s = 0 := by
  unfold ck; rw [h]; cases b <;> simp_all
theorem ck_s {b : Bool} {n s : Int} (h : sc s = false) : ck b n s = 20 := by unfold ck; rw [h]; rfl
theorem ck_z {s : Int} : ck true 0 s = 20 := by unfold ck; simp
set_option maxRecDepth 20000 in
theorem p_chk (b : Bool) (n s : Int) (hn : 0 <= n /\ n < MM) (w : World) : Calls Tryz.prog 217 #[dc b n s] w fun e W => e = .returned (.int .i64 (ck b n s)) /\ Mb w W := by
  cases hs : sc s with
  | false =>
    refine fn_pure [dc b n s] Tryz.func217 rfl rfl rfl (run_ok (st mo ?_))
    repeat refine st mo ?_
    refine ⟨_, fun _ => r_call (t := litF) rfl rfl Tryz.func242 (fun W M E => p_sc hs W), st mo ?_⟩
    repeat refine st mo ?_
    show _ = _; rw [ck_s hs]
  | true =>
    cases b with
    | false =>
      refine fn_pure [dF n s] Tryz.func217 rfl rfl rfl (run_ok (st mo ?_))
      repeat refine st mo ?_
      refine ⟨_, fun _ => r_call (t := litT) rfl rfl Tryz.func242 (fun W M E => p_sc hs W), st mo ?_⟩
      repeat refine st mo ?_
      show _ = _; rw [ck_t hs (fun h => by cases h)]
    | true =>
      refine fn_pure [dT n s] Tryz.func217 rfl rfl rfl (run_ok (st mo ?_))
      repeat refine st mo ?_
      refine ⟨_, fun _ => r_call (t := litT) rfl rfl Tryz.func242 (fun W M E => p_sc hs W), st mo ?_⟩
      repeat refine st mo ?_
      refine ⟨_, r_eqN n 0 hn (by decide), fun hz => ?_, fun hz => ?_⟩
      · have hz := of_decide_eq_true hz
        subst hz
        repeat refine st mo ?_
        show _ = _; rw [ck_z]
      · have hz := of_decide_eq_false hz
        repeat refine st mo ?_
        show _ = _; rw [ck_t hs (fun _ => hz)]
set_option maxRecDepth 20000 in
theorem q_chk (b : Bool) (n s : Int) (hn : 0 <= n /\ n < MM) (w : World) : Calls Tryz.prog 152 #[dc b n s] w fun e W => e = .returned (.int .i64 (ck b n s)) /\ Mb w W := by
  by_cases h1 : s < 0
  · have hs : sc s = false := by unfold sc; simp; omega
    cases b with
    | false =>
      refine fn_pure [dF n s] Tryz.func152 rfl rfl rfl (run_ok (st mo ?_))
      repeat refine st mo ?_
      refine ⟨fun _ => ?_, fun h => absurd h1 (by omega)⟩
      repeat refine st mo ?_
      show _ = _; rw [ck_s hs]
    | true =>
      refine fn_pure [dT n s] Tryz.func152 rfl rfl rfl (run_ok (st mo ?_))
      repeat refine st mo ?_
      refine ⟨fun _ => ?_, fun h => absurd h1 (by omega)⟩
      repeat refine st mo ?_
      show _ = _; rw [ck_s hs]
  by_cases h2 : 18 < s
  · have hs : sc s = false := by unfold sc; simp; omega
    cases b with
    | false =>
      refine fn_pure [dF n s] Tryz.func152 rfl rfl rfl (run_ok (st mo ?_))
      repeat refine st mo ?_
      refine ⟨fun h => absurd h h1, fun _ => ?_⟩
      repeat refine st mo ?_
      refine ⟨fun _ => ?_, fun h => absurd h2 (by omega)⟩
      repeat refine st mo ?_
      show _ = _; rw [ck_s hs]
    | true =>
      refine fn_pure [dT n s] Tryz.func152 rfl rfl rfl (run_ok (st mo ?_))
      repeat refine st mo ?_
      refine ⟨fun h => absurd h h1, fun _ => ?_⟩
      repeat refine st mo ?_
      refine ⟨fun _ => ?_, fun h => absurd h2 (by omega)⟩
      repeat refine st mo ?_
      show _ = _; rw [ck_s hs]
  have hs : sc s = true := by unfold sc; simp; omega
  cases b with
  | false =>
    refine fn_pure [dF n s] Tryz.func152 rfl rfl rfl (run_ok (st mo ?_))
    repeat refine st mo ?_
    refine ⟨fun h => absurd h h1, fun _ => ?_⟩
    repeat refine st mo ?_
    refine ⟨fun h => absurd h h2, fun _ => ?_⟩
    repeat refine st mo ?_
    show _ = _; rw [ck_t hs (fun h => by cases h)]
  | true =>
    refine fn_pure [dT n s] Tryz.func152 rfl rfl rfl (run_ok (st mo ?_))
    repeat refine st mo ?_
    refine ⟨fun h => absurd h h1, fun _ => ?_⟩
    repeat refine st mo ?_
    refine ⟨fun h => absurd h h2, fun _ => ?_⟩
    repeat refine st mo ?_
    refine ⟨_, r_eqN n 0 hn (by decide), fun hz => ?_, fun hz => ?_⟩
    · have hz := of_decide_eq_true hz
      subst hz
      repeat refine st mo ?_
      show _ = _; rw [ck_z]
    · have hz := of_decide_eq_false hz
      repeat refine st mo ?_
      show _ = _; rw [ck_t hs (fun _ => hz)]
def zrs (k : Nat) : ByteArray := ⟨(List.replicate k (48 : UInt8)).toArray⟩
abbrev Z1 : ByteArray := ⟨#[48]⟩
theorem k18 {k : Nat} (h1 : 1 <= k) (h2 : k <= 18) : k = 1 ∨ k = 2 ∨ k = 3 ∨ k = 4 ∨ k = 5 ∨ k = 6 ∨ k = 7 ∨ k = 8 ∨ k = 9 ∨ k = 10 ∨ k = 11 ∨ k = 12 ∨ k = 13 ∨ k = 14 ∨ k = 15 ∨ k = 16 ∨ k = 17 ∨ k = 18 := by omega
set_option maxRecDepth 20000 in
theorem mul64_k (k : Nat) (h1 : 1 <= k) (h2 : k <= 18) (w : World) : Calls Tryz.prog 274 #[.int .u64 1, .int .u64 (k : Int)] w fun e W => e = .returned (.tuple #[.int .u64 0, .int .u64 (k : Int)]) /\ Mb w W := by
  refine fn_pure [.int .u64 1, .int .u64 (k : Int)] Tryz.func274 rfl rfl rfl (run_ok (st mo ?_))
  repeat' (first | refine st mo ?_ | refine And.intro (by decide) ?_ | refine Exists.intro _ (And.intro rfl ?_))
  show _ = _
  rcases k18 h1 h2 with rfl | rfl | rfl | rfl | rfl | rfl | rfl | rfl | rfl | rfl | rfl | rfl | rfl | rfl | rfl | rfl | rfl | rfl <;> rfl
set_option maxRecDepth 20000 in
theorem mul_k (k : Nat) (h1 : 1 <= k) (h2 : k <= 18) (w : World) : Calls Tryz.prog 257 #[.int .u64 1, .int .u64 (k : Int)] w fun e W => e = .returned (.tuple #[.int .u64 0, .int .u64 (k : Int)]) /\ Mb w W := by
  refine fn_pure [.int .u64 1, .int .u64 (k : Int)] Tryz.func257 rfl rfl rfl (run_ok (st mo ?_))
  repeat refine st mo ?_
  refine ⟨_, fun _ => r_call (t := .tuple #[.int .u64 0, .int .u64 (k : Int)]) rfl rfl Tryz.func274 (fun W M E => mul64_k k h1 h2 W), st mo ?_⟩
  repeat refine st mo ?_
  rfl
set_option maxRecDepth 20000 in
theorem ha_rep (s : ByteArray) (r : Bool) (hs : Nat.ble 1 s.size = true) (hr : decide (s.extract 0 1 = Z1) = r) (w : World) : Calls Tryz.prog 261 #[.string s, .string Z1] w fun e W => e = .returned (.bool r) /\ Mb w W := by
  refine fn_pure [.string s, .string Z1] Tryz.func261 rfl rfl rfl (run_ok (st mo ?_))
  repeat refine st mo ?_
  refine ⟨fun h => ?_, fun h => absurd h (by have : Z1.size = 1 := rfl; have := Nat.le_of_ble_eq_true hs; omega)⟩
  repeat refine st mo ?_
  refine ⟨0, 1, rfl, rfl, by decide, Nat.le_of_ble_eq_true hs, ?_⟩
  repeat refine st mo ?_
  refine ⟨fun h => ?_, fun h => ?_⟩
  · repeat refine st mo ?_
    show _ = _; rw [← hr, decide_eq_true h]
  · repeat refine st mo ?_
    show _ = _; rw [← hr, decide_eq_false h]
set_option maxRecDepth 20000 in
theorem hp_rep (s : ByteArray) (r : Bool) (hs : Nat.ble 1 s.size = true) (hr : decide (s.extract 0 1 = Z1) = r) (w : World) : Calls Tryz.prog 258 #[.string s, .string Z1] w fun e W => e = .returned (.bool r) /\ Mb w W := by
  refine fn_pure [.string s, .string Z1] Tryz.func258 rfl rfl rfl (run_ok (st mo ?_))
  repeat refine st mo ?_
  refine ⟨_, fun _ => r_call (t := .bool r) rfl rfl Tryz.func261 (fun W M E => ha_rep s r hs hr W), st mo ?_⟩
  repeat refine st mo ?_
  rfl
set_option maxRecDepth 20000 in
theorem p_rep (k : Nat) (h1 : 1 <= k) (h2 : k <= 18) (w : World) : Calls Tryz.prog 243 #[.string Z1, .int .i64 (k : Int)] w fun e W => e = .returned (.string (zrs k)) /\ Mb w W := by
  refine fn_pure [.string Z1, .int .i64 (k : Int)] Tryz.func243 rfl rfl rfl (run_ok (st mo ?_))
  repeat refine st mo ?_
  refine ⟨fun h => absurd h (by omega), fun _ => ?_⟩
  repeat refine st mo ?_
  refine ⟨fun h => ?_, fun hk => ?_⟩
  · repeat refine st mo ?_
    have : k = 1 := by omega
    subst this; rfl
  repeat refine st mo ?_
  refine ⟨fun h => absurd h (by omega), fun _ => ?_⟩
  repeat refine st mo ?_
  refine ⟨1, by decide, ?_⟩
  repeat refine st mo ?_
  refine ⟨(k : Int), by rw [IntKind.wrap_u64]; omega, ?_⟩
  repeat refine st mo ?_
  refine ⟨_, fun _ => r_call (t := .tuple #[.int .u64 0, .int .u64 (k : Int)]) rfl rfl Tryz.func257 (fun W M E => mul_k k h1 h2 W), st mo ?_⟩
  repeat refine st mo ?_
  refine ⟨fun h => absurd h (by decide), fun _ => ?_⟩
  repeat refine st mo ?_
  refine ⟨fun h => absurd h (by omega), fun _ => ?_⟩
  repeat refine st mo ?_
  refine ⟨(k : Int), by rw [IntKind.wrap_i64]; omega, ?_⟩
  repeat refine st mo ?_
  refine ⟨fun h => absurd h (by decide), fun _ => ?_⟩
  repeat refine st mo ?_
  refine ⟨0, 48, rfl, rfl, ?_⟩
  repeat refine st mo ?_
  refine ⟨fun h => absurd h (by decide), fun _ => ?_⟩
  repeat refine st mo ?_
  refine ⟨fun h => absurd h (by decide), fun _ => ?_⟩
  repeat refine st mo ?_
  refine ⟨fun _ => ?_, fun h => absurd h (by decide)⟩
  repeat refine st mo ?_
  refine ⟨fun _ => ?_, fun h => absurd h (by omega)⟩
  repeat refine st mo ?_
  refine ⟨_, fun _ => r_call (t := litF) rfl rfl Tryz.func258 (fun W M E => hp_rep _ false rfl rfl W), st mo ?_⟩
  repeat refine st mo ?_
  refine ⟨fun _ => ?_, fun h => absurd h (by omega)⟩
  repeat refine st mo ?_
  refine ⟨_, fun _ => r_call (t := litF) rfl rfl Tryz.func258 (fun W M E => hp_rep _ false rfl rfl W), st mo ?_⟩
  repeat refine st mo ?_
  refine ⟨fun _ => ?_, fun h => absurd h (by omega)⟩
  repeat refine st mo ?_
  refine ⟨_, fun _ => r_call (t := litT) rfl rfl Tryz.func258 (fun W M E => hp_rep _ true rfl rfl W), st mo ?_⟩
  repeat refine st mo ?_
  refine ⟨0, k, rfl, rfl, Nat.zero_le _, by show k <= 64; omega, ?_⟩
  repeat refine st mo ?_
  show _ = _
  rcases k18 h1 h2 with rfl | rfl | rfl | rfl | rfl | rfl | rfl | rfl | rfl | rfl | rfl | rfl | rfl | rfl | rfl | rfl | rfl | rfl <;> rfl
abbrev Dot : ByteArray := ⟨#[46]⟩
abbrev Mns : ByteArray := ⟨#[45]⟩
abbrev Qst : ByteArray := ⟨#[63]⟩
theorem zrs_len (k : Nat) : (zrs k).size = k := by unfold zrs; simp [ByteArray.size]
theorem zrs_0 (t : ByteArray) : zrs 0 ++ t = t := by
  have : zrs 0 = ByteArray.empty := rfl
  rw [this, ByteArray.empty_append]
theorem zrs_s (k : Nat) (t : ByteArray) : Z1 ++ (zrs k ++ t) = zrs (k + 1) ++ t := by
  rw [← ByteArray.append_assoc]; congr 1
theorem sad (a b : ByteArray) (h : a.size + b.size <= 9223372036854775807) (w : World) : (Op.stringOp .add a b).run Tryz.prog w = .ok (.string (a ++ b)) w := by
  simp [Op.stringOp]; omega
def ptd (u : ByteArray) (s : Nat) : ByteArray := u.extract 0 (u.size - s) ++ Dot ++ u.extract (u.size - s) u.size
def wpt (t : ByteArray) (s : Nat) : ByteArray := if s = 0 then t else ptd (zrs (s + 1 - t.size) ++ t) s
set_option maxRecDepth 20000 in
theorem p_wpt (t : ByteArray) (s : Nat) (hs : s <= 18) (h1 : 1 <= t.size) (hb : t.size <= 78) (w : World) : Calls Tryz.prog 218 #[.string t, .int .i64 (s : Int)] w fun e W => e = .returned (.string (wpt t s)) /\ Mb w W := by
  refine fn_pure [.string t, .int .i64 (s : Int)] Tryz.func218 rfl rfl rfl (run_ok (st mo ?_))
  repeat refine st mo ?_
  refine ⟨fun h => ?_, fun h => ?_⟩
  · have : s = 0 := by omega
    subst this
    repeat refine st mo ?_
    rfl
  have h0 : s ≠ 0 := by omega
  repeat refine st mo ?_
  refine ⟨_, wi, st mo ?_⟩
  repeat refine st mo ?_
  refine ⟨((s : Int) + 1 - (t.size : Int)), wi, st mo ?_⟩
  repeat refine st mo ?_
  refine ⟨fun hm => ?_, fun hm => ?_⟩
  · repeat refine st mo ?_
    refine ⟨_, fun _ => r_call (t := .string (zrs (s + 1 - t.size))) rfl rfl Tryz.func243 (fun W M E => by have := p_rep (s + 1 - t.size) (by omega) (by omega) W; rwa [show ((s + 1 - t.size : Nat) : Int) = (s : Int) + 1 - (t.size : Int) by omega] at this), st mo ?_⟩
    repeat refine st mo ?_
    refine ⟨.string (zrs (s + 1 - t.size) ++ t), sad _ _ (by rw [zrs_len]; omega), rfl, st mo ?_⟩
    have hu : (zrs (s + 1 - t.size) ++ t).size = s + 1 := by rw [ByteArray.size_append, zrs_len]; omega
    have hw : wpt t s = ptd (zrs (s + 1 - t.size) ++ t) s := by rw [wpt, if_neg h0]
    rw [hw]
    generalize zrs (s + 1 - t.size) ++ t = u at *
    repeat refine st mo ?_
    refine ⟨((u.size - s : Nat) : Int), by rw [wi]; omega, st mo ?_⟩
    repeat refine st mo ?_
    refine ⟨0, u.size - s, rfl, rfl, by omega, by omega, st mo ?_⟩
    repeat refine st mo ?_
    refine ⟨.string (u.extract 0 (u.size - s) ++ Dot), sad _ _ (by rw [ByteArray.size_extract]; show _ + 1 <= _; omega), rfl, st mo ?_⟩
    repeat refine st mo ?_
    refine ⟨u.size - s, u.size, rfl, rfl, by omega, by omega, st mo ?_⟩
    repeat refine st mo ?_
    refine ⟨.string (ptd u s), sad _ _ (by rw [ByteArray.size_append, ByteArray.size_extract, ByteArray.size_extract]; show _ + 1 + _ <= _; omega), rfl, st mo ?_⟩
    repeat refine st mo ?_
    refine ⟨dk, st mo ?_⟩
    repeat refine st mo ?_
    rfl
  · have hu : s + 1 <= t.size := by omega
    have hw : wpt t s = ptd t s := by rw [wpt, if_neg h0, show s + 1 - t.size = 0 by omega, zrs_0]
    rw [hw]
    repeat refine st mo ?_
    refine ⟨((t.size - s : Nat) : Int), by rw [wi]; omega, st mo ?_⟩
    repeat refine st mo ?_
    refine ⟨0, t.size - s, rfl, rfl, by omega, by omega, st mo ?_⟩
    repeat refine st mo ?_
    refine ⟨.string (t.extract 0 (t.size - s) ++ Dot), sad _ _ (by rw [ByteArray.size_extract]; show _ + 1 <= _; omega), rfl, st mo ?_⟩
    repeat refine st mo ?_
    refine ⟨t.size - s, t.size, rfl, rfl, by omega, by omega, st mo ?_⟩
    repeat refine st mo ?_
    refine ⟨.string (ptd t s), sad _ _ (by rw [ByteArray.size_append, ByteArray.size_extract, ByteArray.size_extract]; show _ + 1 + _ <= _; omega), rfl, st mo ?_⟩
    repeat refine st mo ?_
    refine ⟨dk, st mo ?_⟩
    repeat refine st mo ?_
    rfl
theorem decF_len : ∀ (f : Nat) (n : Int), (decF (f + 1) n).length <= f + 1 /\ 1 <= (decF (f + 1) n).length
  | 0, n => by unfold decF; split <;> simp [decF]
  | f + 1, n => by
    unfold decF
    split
    · simp
    · have := decF_len f (n / 10)
      rw [List.length_append, List.length_singleton]; omega
theorem strOf_size (l : List Int) : (strOf l).size = l.length := by rw [strOf_eq]; simp [ByteArray.size]
def dtx (b : Bool) (n s : Int) : ByteArray := if ck b n s = 0 then (if b then Mns ++ wpt (strOf (decF 78 n)) s.toNat else wpt (strOf (decF 78 n)) s.toNat) else Qst
theorem ck_0 {b : Bool} {n s : Int} (h : ck b n s = 0) : 0 <= s /\ s <= 18 := by
  unfold ck at h
  cases hs : sc s with
  | false => rw [hs] at h; simp at h
  | true => exact sc_iff.1 hs
theorem wpt_size (t : ByteArray) (s : Nat) (hs : s <= 18) (hb : t.size <= 78) : (wpt t s).size <= 98 := by
  unfold wpt ptd
  split
  · omega
  · simp only [ByteArray.size_append, ByteArray.size_extract, zrs_len]
    show _ + 1 + _ <= _
    omega
set_option maxRecDepth 20000 in
theorem p_dtx_false (n s : Int) (hn : 0 <= n /\ n < MM) (w : World) : Calls Tryz.prog 194 #[dc false n s] w fun e W => e = .returned (.string (dtx false n s)) /\ Mb w W := by
  refine fn_pure [dF n s] Tryz.func194 rfl rfl rfl (run_ok (st mo ?_))
  repeat refine st mo ?_
  refine ⟨_, fun _ => r_call (t := .int .i64 (ck false n s)) rfl rfl Tryz.func217 (fun W M E => p_chk false n s hn W), st mo ?_⟩
  repeat refine st mo ?_
  refine ⟨fun h => ?_, fun h => ?_⟩
  · repeat refine st mo ?_
    show _ = _; rw [dtx, if_neg h]
  obtain ⟨k, rfl⟩ : ∃ k : Nat, s = (k : Int) := ⟨s.toNat, by have := ck_0 h; omega⟩
  have hk := ck_0 h
  have hl := decF_len 77 n
  repeat refine st mo ?_
  refine ⟨_, fun _ => r_call (t := .string (strOf (decF 78 n))) rfl rfl Tryz.func219 (fun W M E => Calls.mono (text_n n W hn.1 hn.2) fun e W' h => ⟨h.1, h.2.mb⟩), st mo ?_⟩
  repeat refine st mo ?_
  refine ⟨_, fun _ => r_call (t := .string (wpt (strOf (decF 78 n)) k)) rfl rfl Tryz.func218 (fun W M E => p_wpt _ k (by omega) (by rw [strOf_size]; exact hl.2) (by rw [strOf_size]; exact hl.1) W), st mo ?_⟩
  repeat refine st mo ?_
  refine ⟨dk, st mo ?_⟩
  repeat refine st mo ?_
   
  show _ = _; rw [dtx, if_pos h]; rfl
set_option maxRecDepth 20000 in
theorem p_dtx_true (n s : Int) (hn : 0 <= n /\ n < MM) (w : World) : Calls Tryz.prog 194 #[dc true n s] w fun e W => e = .returned (.string (dtx true n s)) /\ Mb w W := by
  refine fn_pure [dT n s] Tryz.func194 rfl rfl rfl (run_ok (st mo ?_))
  repeat refine st mo ?_
  refine ⟨_, fun _ => r_call (t := .int .i64 (ck true n s)) rfl rfl Tryz.func217 (fun W M E => p_chk true n s hn W), st mo ?_⟩
  repeat refine st mo ?_
  refine ⟨fun h => ?_, fun h => ?_⟩
  · repeat refine st mo ?_
    show _ = _; rw [dtx, if_neg h]
  obtain ⟨k, rfl⟩ : ∃ k : Nat, s = (k : Int) := ⟨s.toNat, by have := ck_0 h; omega⟩
  have hk := ck_0 h
  have hl := decF_len 77 n
  repeat refine st mo ?_
  refine ⟨_, fun _ => r_call (t := .string (strOf (decF 78 n))) rfl rfl Tryz.func219 (fun W M E => Calls.mono (text_n n W hn.1 hn.2) fun e W' h => ⟨h.1, h.2.mb⟩), st mo ?_⟩
  repeat refine st mo ?_
  refine ⟨_, fun _ => r_call (t := .string (wpt (strOf (decF 78 n)) k)) rfl rfl Tryz.func218 (fun W M E => p_wpt _ k (by omega) (by rw [strOf_size]; exact hl.2) (by rw [strOf_size]; exact hl.1) W), st mo ?_⟩
  repeat refine st mo ?_
  refine ⟨dk, st mo ?_⟩
  repeat refine st mo ?_
  refine ⟨.string (Mns ++ wpt (strOf (decF 78 n)) k), sad _ _ (by have := wpt_size (strOf (decF 78 n)) k (by omega) (by rw [strOf_size]; exact hl.1); show 1 + _ <= _; omega), rfl, st mo ?_⟩; repeat refine st mo ?_
  show _ = _; rw [dtx, if_pos h]; rfl
set_option maxRecDepth 20000 in
theorem q_dtx_false (n s : Int) (hn : 0 <= n /\ n < MM) (w : World) : Calls Tryz.prog 155 #[dc false n s] w fun e W => e = .returned (.string (dtx false n s)) /\ Mb w W := by
  refine fn_pure [dF n s] Tryz.func155 rfl rfl rfl (run_ok (st mo ?_))
  repeat refine st mo ?_
  refine ⟨_, fun _ => r_call (t := .int .i64 (ck false n s)) rfl rfl Tryz.func152 (fun W M E => q_chk false n s hn W), st mo ?_⟩
  repeat refine st mo ?_
  refine ⟨fun h => ?_, fun h => ?_⟩
  · repeat refine st mo ?_
    show _ = _; rw [dtx, if_neg h]
  obtain ⟨k, rfl⟩ : ∃ k : Nat, s = (k : Int) := ⟨s.toNat, by have := ck_0 h; omega⟩
  have hk := ck_0 h
  have hl := decF_len 77 n
  have hz : (strOf (decF 78 n)).size = (decF (77 + 1) n).length := strOf_size _
  repeat refine st mo ?_
  refine ⟨_, fun _ => r_call (t := .string (strOf (decF 78 n))) rfl rfl Tryz.func198 (fun W M E => q_text n hn.1 hn.2 W), st mo ?_⟩
  repeat refine st mo ?_
  have hd : dtx false n (k : Int) = (if false then Mns ++ wpt (strOf (decF 78 n)) k else wpt (strOf (decF 78 n)) k) := by rw [dtx, if_pos h]; rfl
  rw [hd]
  clear hd
  generalize strOf (decF 78 n) = t at *
  refine w_loop (fun j : Nat => ⟨⟨41, [(1, .pointer (some ⟨0, 0, none⟩)), (3, .string (zrs j ++ t))]⟩, [(0, some [litF, .int .u64 (l0 n), .int .u64 (l1 n), .int .u64 (l2 n), .int .u64 (l3 n), .int .i64 (k : Int)])], 1, w⟩) (fun j => j <= k + 1 - t.size) (fun j => 19 - j) 0 (Nat.zero_le _) [0] ⟨rfl, ⟨fp, fv (by rw [zrs_0]; rfl), trivial⟩, ⟨fl rfl rfl, trivial⟩, xf, rfl, rfl⟩ ?_
  intro j hj
  have hzj : (zrs j ++ t).size = j + t.size := by rw [ByteArray.size_append, zrs_len]
  repeat refine st mo ?_
  refine ⟨fun hc => ?_, fun hc => ?_⟩
  · repeat refine st mo ?_
    refine ⟨.string (Z1 ++ (zrs j ++ t)), sad _ _ (by show 1 + _ <= _; omega), rfl, st mo ?_⟩
    exact ⟨j + 1, by omega, by dsimp only; omega, [0], rfl, ⟨fp, fv (by rw [← zrs_s]; rfl), trivial⟩, ⟨fl rfl rfl, trivial⟩, xf, rfl, rfl⟩
  have hj2 : j = k + 1 - t.size := by omega
  repeat refine st mo ?_
  refine ⟨fun h0 => ?_, fun h0 => ?_⟩
  · repeat refine st mo ?_
    have hw : wpt t k = ptd (zrs j ++ t) k := by rw [wpt, if_neg (by omega), hj2]
    rw [hw]
    have hju : k + 1 <= (zrs j ++ t).size := by omega
    have hju2 : (zrs j ++ t).size <= 97 := by omega
    clear hw hzj
    generalize zrs j ++ t = u at *
    refine ⟨((u.size - k : Nat) : Int), by rw [wi]; omega, st mo ?_⟩
    repeat refine st mo ?_
    refine ⟨0, u.size - k, rfl, rfl, by omega, by omega, st mo ?_⟩
    repeat refine st mo ?_
    refine ⟨.string (u.extract 0 (u.size - k) ++ Dot), sad _ _ (by rw [ByteArray.size_extract]; show _ + 1 <= _; omega), rfl, st mo ?_⟩
    repeat refine st mo ?_
    refine ⟨((u.size - k : Nat) : Int), by rw [wi]; omega, st mo ?_⟩
    repeat refine st mo ?_
    refine ⟨u.size - k, u.size, rfl, rfl, by omega, by omega, st mo ?_⟩
    repeat refine st mo ?_
    refine ⟨.string (ptd u k), sad _ _ (by rw [ByteArray.size_append, ByteArray.size_extract, ByteArray.size_extract]; show _ + 1 + _ <= _; omega), rfl, st mo ?_⟩
    repeat refine st mo ?_
    refine ⟨dk, st mo ?_⟩
    repeat refine st mo ?_
     
    rfl
  · have hk0 : k = 0 := by omega
    have hw : zrs j ++ t = wpt t k := by rw [wpt, if_pos hk0, hj2, show k + 1 - t.size = 0 by omega, zrs_0]
    rw [← hw]
    clear hw
    generalize zrs j ++ t = u at *
    repeat refine st mo ?_
     
    rfl
set_option maxRecDepth 20000 in
theorem q_dtx_true (n s : Int) (hn : 0 <= n /\ n < MM) (w : World) : Calls Tryz.prog 155 #[dc true n s] w fun e W => e = .returned (.string (dtx true n s)) /\ Mb w W := by
  refine fn_pure [dT n s] Tryz.func155 rfl rfl rfl (run_ok (st mo ?_))
  repeat refine st mo ?_
  refine ⟨_, fun _ => r_call (t := .int .i64 (ck true n s)) rfl rfl Tryz.func152 (fun W M E => q_chk true n s hn W), st mo ?_⟩
  repeat refine st mo ?_
  refine ⟨fun h => ?_, fun h => ?_⟩
  · repeat refine st mo ?_
    show _ = _; rw [dtx, if_neg h]
  obtain ⟨k, rfl⟩ : ∃ k : Nat, s = (k : Int) := ⟨s.toNat, by have := ck_0 h; omega⟩
  have hk := ck_0 h
  have hl := decF_len 77 n
  have hz : (strOf (decF 78 n)).size = (decF (77 + 1) n).length := strOf_size _
  repeat refine st mo ?_
  refine ⟨_, fun _ => r_call (t := .string (strOf (decF 78 n))) rfl rfl Tryz.func198 (fun W M E => q_text n hn.1 hn.2 W), st mo ?_⟩
  repeat refine st mo ?_
  have hd : dtx true n (k : Int) = (if true then Mns ++ wpt (strOf (decF 78 n)) k else wpt (strOf (decF 78 n)) k) := by rw [dtx, if_pos h]; rfl
  rw [hd]
  clear hd
  generalize strOf (decF 78 n) = t at *
  refine w_loop (fun j : Nat => ⟨⟨41, [(1, .pointer (some ⟨0, 0, none⟩)), (3, .string (zrs j ++ t))]⟩, [(0, some [litT, .int .u64 (l0 n), .int .u64 (l1 n), .int .u64 (l2 n), .int .u64 (l3 n), .int .i64 (k : Int)])], 1, w⟩) (fun j => j <= k + 1 - t.size) (fun j => 19 - j) 0 (Nat.zero_le _) [0] ⟨rfl, ⟨fp, fv (by rw [zrs_0]; rfl), trivial⟩, ⟨fl rfl rfl, trivial⟩, xf, rfl, rfl⟩ ?_
  intro j hj
  have hzj : (zrs j ++ t).size = j + t.size := by rw [ByteArray.size_append, zrs_len]
  repeat refine st mo ?_
  refine ⟨fun hc => ?_, fun hc => ?_⟩
  · repeat refine st mo ?_
    refine ⟨.string (Z1 ++ (zrs j ++ t)), sad _ _ (by show 1 + _ <= _; omega), rfl, st mo ?_⟩
    exact ⟨j + 1, by omega, by dsimp only; omega, [0], rfl, ⟨fp, fv (by rw [← zrs_s]; rfl), trivial⟩, ⟨fl rfl rfl, trivial⟩, xf, rfl, rfl⟩
  have hj2 : j = k + 1 - t.size := by omega
  repeat refine st mo ?_
  refine ⟨fun h0 => ?_, fun h0 => ?_⟩
  · repeat refine st mo ?_
    have hw : wpt t k = ptd (zrs j ++ t) k := by rw [wpt, if_neg (by omega), hj2]
    rw [hw]
    have hju : k + 1 <= (zrs j ++ t).size := by omega
    have hju2 : (zrs j ++ t).size <= 97 := by omega
    clear hw hzj
    generalize zrs j ++ t = u at *
    refine ⟨((u.size - k : Nat) : Int), by rw [wi]; omega, st mo ?_⟩
    repeat refine st mo ?_
    refine ⟨0, u.size - k, rfl, rfl, by omega, by omega, st mo ?_⟩
    repeat refine st mo ?_
    refine ⟨.string (u.extract 0 (u.size - k) ++ Dot), sad _ _ (by rw [ByteArray.size_extract]; show _ + 1 <= _; omega), rfl, st mo ?_⟩
    repeat refine st mo ?_
    refine ⟨((u.size - k : Nat) : Int), by rw [wi]; omega, st mo ?_⟩
    repeat refine st mo ?_
    refine ⟨u.size - k, u.size, rfl, rfl, by omega, by omega, st mo ?_⟩
    repeat refine st mo ?_
    refine ⟨.string (ptd u k), sad _ _ (by rw [ByteArray.size_append, ByteArray.size_extract, ByteArray.size_extract]; show _ + 1 + _ <= _; omega), rfl, st mo ?_⟩
    repeat refine st mo ?_
    refine ⟨dk, st mo ?_⟩
    repeat refine st mo ?_
    refine ⟨.string (Mns ++ ptd u k), sad _ _ (by unfold ptd; rw [ByteArray.size_append, ByteArray.size_append, ByteArray.size_extract, ByteArray.size_extract]; show 1 + (_ + 1 + _) <= _; omega), rfl, st mo ?_⟩; repeat refine st mo ?_
    rfl
  · have hk0 : k = 0 := by omega
    have hw : zrs j ++ t = wpt t k := by rw [wpt, if_pos hk0, hj2, show k + 1 - t.size = 0 by omega, zrs_0]
    rw [← hw]
    clear hw
    generalize zrs j ++ t = u at *
    repeat refine st mo ?_
    refine ⟨.string (Mns ++ u), sad _ _ (by show 1 + _ <= _; omega), rfl, st mo ?_⟩; repeat refine st mo ?_
    rfl
theorem p_dtx (b : Bool) (n s : Int) (hn : 0 <= n /\ n < MM) (w : World) : Calls Tryz.prog 194 #[dc b n s] w fun e W => e = .returned (.string (dtx b n s)) /\ Mb w W := by
  cases b
  · exact p_dtx_false n s hn w
  · exact p_dtx_true n s hn w
theorem q_dtx (b : Bool) (n s : Int) (hn : 0 <= n /\ n < MM) (w : World) : Calls Tryz.prog 155 #[dc b n s] w fun e W => e = .returned (.string (dtx b n s)) /\ Mb w W := by
  cases b
  · exact q_dtx_false n s hn w
  · exact q_dtx_true n s hn w
theorem dtx_size (b : Bool) (n s : Int) : (dtx b n s).size <= 99 := by
  unfold dtx
  have hl := decF_len 77 n
  split
  · rename_i h
    have := ck_0 h
    have hz := wpt_size (strOf (decF 78 n)) s.toNat (by omega) (by rw [strOf_size]; exact hl.1)
    split
    · rw [ByteArray.size_append]; show 1 + _ <= _; omega
    · omega
  · decide
end Go.Proofs.YtpabcmaeaiaknaaGreatDoor
namespace Go.Proofs.YtpabcmaeaiaknaaGreatDoor
open S Go.RowKit Go.Sort
def ntx (n : Int) : ByteArray := strOf (decF 78 n)
section
variable {P : Program} {w0 : B0} {X : World} {o : Oper} {fr : FT} {h : HT} {n : Nat}
theorem r_callS {t : Value} {f : FuncId} {fn : Func} {v : Value} {us : List Value} {cal : Callee} {xs : Array Operand} {ts : Array TypeId} (ho : o.op = .call { callee := cal, args := xs, argTypes := ts }) (hcal : cal = .value (.func f)) (hf : P.funcs[f]? = some fn)
    (hc : ∀ W, Mb w0.w W -> (∀ (b : Nat) (o : Obj), X.heap[b]? = some o -> o ≠ hole X -> W.heap[b]? = some o) -> Calls P f us.toArray W fun e W' => e = .returned v /\ Mb W W')
    (hu : (evl fr xs.toList).map den2 = us := by rfl) (hv : den t = v := by rfl) (hb : callB fn = true := by rfl) (hp : (evl fr xs.toList).all pur2 = true := by rfl) (ht : pur t = true := by rfl) : Oa (Am w0 X) P o fr h n ⟨t, h, n, 0, 0⟩ := by
  subst hcal hu
  refine ⟨Ss.refl h n, fun k W a K' Q hA hop H hnew hk => ?_⟩
  have h8 := evl_rel (fr := fr) (k := k) (a := a) xs.toList (fun y hy => hop y (by rw [ho]; simp [Op.operands, Call.operands]; right; simpa using hy))
  have h9 := LR.map (p := pur2) (d := den2) (fun _ _ h => pur2_eq h) h8 hp
  have hrun : (execOp a.eval o).run P W = .ok (.enter f (xs.toList.map a.eval).toArray) W := by
    have : a.eval (.func f) = .func (.func f) #[] #[] := rfl
    simp only [execOp, ho, resolve, this, Deferred.ofValue, invoke, Sem.run_bind, Sem.run_pure, Result.andThen_ok, enter_ok hf hb]
    congr 2
    apply Array.ext'
    simp
  unfold Oper.wp
  rw [hrun, Oper.upon_enter, h9]
  refine (hc W ⟨hA.old, hA.dr⟩ hA.see).mono ?_
  rintro e W' ⟨rfl, hm⟩
  refine hk v W' k ⟨fun _ _ h => h, fun _ _ => rfl, HR.none.sub (fun i hi => (tb_or.1 hi).elim id id), fun b hb _ => hm.block b hb, fun _ _ _ h1 h2 => absurd h2 (by show ¬ _ < n; omega), fun _ _ h => h, hm.size, hm.os, ⟨hm.tape, hm.dr, Ty.old hm.block⟩, hm.output⟩ ?_
  rw [← hv]; exact pur_vx ht
end
abbrev d0 (n : Int) : Value := .agg #[litF, .int .u64 n, .int .u64 0, .int .u64 0, .int .u64 0, .int .i64 0]
set_option maxRecDepth 20000 in
theorem q_from (n : Int) (w : World) : Calls Tryz.prog 207 #[.int .u64 n] w fun e W => e = .returned (.agg #[.int .u64 n, .int .u64 0, .int .u64 0, .int .u64 0]) /\ Mb w W := by
  refine fn_pure [.int .u64 n] Tryz.func207 rfl rfl rfl (run_ok (st mo ?_))
  repeat refine st mo ?_
  rfl
set_option maxRecDepth 20000 in
theorem q_ofint (n : Int) (h0 : 0 <= n) (h1 : n <= 1073741824) (w : World) : Calls Tryz.prog 197 #[.int .i64 n, .int .i64 0] w fun e W => e = .returned (.tuple #[dc false n 0, .int .i64 0]) /\ Mb w W := by
  refine fn_pure [.int .i64 n, .int .i64 0] Tryz.func197 rfl rfl rfl (run_ok (st mo ?_))
  repeat refine st mo ?_
  refine ⟨fun h => absurd h (by decide), fun _ => ?_⟩
  repeat refine st mo ?_
  refine ⟨fun h => absurd h (by decide), fun _ => ?_⟩
  repeat refine st mo ?_
  refine ⟨n, wu rfl, st mo ?_⟩
  repeat refine st mo ?_
  refine ⟨fun h => absurd h (by omega), fun _ => ?_⟩
  repeat refine st mo ?_
  refine ⟨fun h => absurd h (by omega), fun _ => ?_⟩
  repeat refine st mo ?_
  refine ⟨_, fun _ => r_call (t := .agg #[.int .u64 n, .int .u64 0, .int .u64 0, .int .u64 0]) rfl rfl Tryz.func207 (fun W M E => q_from n W), st mo ?_⟩
  repeat refine st mo ?_
  show Value.tuple #[.agg #[.bool false, .int .u64 (l0 n), .int .u64 (l1 n), .int .u64 (l2 n), .int .u64 (l3 n), .int .i64 0], .int .i64 0] = _
  rw [show l0 n = n by unfold l0; omega, show l1 n = 0 by unfold l1; omega, show l2 n = 0 by unfold l2; omega, show l3 n = 0 by unfold l3; omega]
  rfl
set_option maxRecDepth 20000 in
theorem q_nat (n : Int) (h0 : 0 <= n) (h1 : n <= 1073741824) (w : World) : Calls Tryz.prog 154 #[.int .i64 n] w fun e W => e = .returned (.string (ntx n)) /\ Mb w W := by
  refine fn_pure [.int .i64 n] Tryz.func154 rfl rfl rfl (run_ok (st mo ?_))
  repeat refine st mo ?_
  refine ⟨_, fun _ => r_call (t := .tuple #[dF n 0, .int .i64 0]) rfl rfl Tryz.func197 (fun W M E => q_ofint n h0 h1 W), st mo ?_⟩
  repeat refine st mo ?_
  refine ⟨_, fun _ => r_call (t := .string (dtx false n 0)) rfl rfl Tryz.func155 (fun W M E => q_dtx false n 0 ⟨h0, by unfold MM; omega⟩ W), st mo ?_⟩
  repeat refine st mo ?_
  rfl
end Go.Proofs.YtpabcmaeaiaknaaGreatDoor
namespace Go.Proofs.YtpabcmaeaiaknaaGreatDoor
namespace S
open Go.RowKit (Below)
theorem Xf.tr {A B C : World} (h : Xf A B) (g : Xf B C) : Xf A C := ⟨Nat.le_trans g.1 h.1, fun b o h1 h2 => by
  obtain ⟨h3, h4⟩ := g.2 b o h1 h2
  exact h.2 b o h3 h4⟩
def Ho (X : World) (b : Nat) : Prop := ∀ o : Obj, X.heap[b]? = some o -> o = hole X
theorem Ho.xf {X X' : World} (h : Xf X' X) {b : Nat} (g : Ho X' b) : Ho X b := fun o ho => Classical.byContradiction fun hne => (h.2 b o ho hne).2 (g o (h.2 b o ho hne).1)
structure Lcl {Y : Type} (F : Y -> (Nat -> Prop) -> World -> Prop) : Prop where
  le : ∀ y (S T : Nat -> Prop) X, (∀ b, S b -> T b) -> F y S X -> F y T X
  lo : ∀ y (S : Nat -> Prop) X X', (∀ (b : Nat) (o : Obj), S b -> X.heap[b]? = some o -> o ≠ hole X -> X'.heap[b]? = some o /\ o ≠ hole X') -> F y S X -> F y S X'
theorem Lcl.xf {Y : Type} {F : Y -> (Nat -> Prop) -> World -> Prop} (h : Lcl F) {y : Y} {S : Nat -> Prop} {X X' : World} (hX : Xf X' X) (hF : F y S X) : F y S X' := h.lo y S X X' (fun b o _ h1 h2 => hX.2 b o h1 h2) hF
def Fp (k : K) (n : Nat) (W : World) (b : Nat) : Prop := W.heap.size <= b ∨ ∃ j z, j < n /\ k j = some (b, z)
def CtrX {Y : Type} (P : Program) (X : World) (f : FuncId) (vs : List Value) (h : HT) (n m : Nat) (t : Y -> Value) (h' : Y -> HT) (n' : Nat) (F : Y -> (Nat -> Prop) -> World -> Prop) : Prop :=
  ∀ (W : World) (k : K) (us : List Value), Ky k h n W -> Sees X k W -> LR (VX k) vs us -> Calls P f us.toArray W fun e W' => ∃ y u k', e = .returned u /\ VX k' (t y) u /\ Af k n m W k' (h' y) n' W' ∧
    ∀ X2 : World, (∀ (b : Nat) (o : Obj), Fp k n W b -> W'.heap[b]? = some o -> (∀ i z, k' i ≠ some (b, z)) -> X2.heap[b]? = some o /\ o ≠ hole X2) -> F y (Fp k n W) X2
def retX {Y : Type} (P : Program) (fn : Func) (X : World) (m : Nat) (t : Y -> Value) (h' : Y -> HT) (n' : Nat) (F : Y -> (Nat -> Prop) -> World -> Prop) (e : Exit) (s : St) : Prop := Xf s.X X /\ match e with
  | .normal => resK P s.f s.h fn.results.toList fun vs => ∃ y σ, F y (Ho X) s.X /\ fitV σ (single vs) (t y) /\ fitH σ s.h (h' y) /\ σ.length = n' /\ (apartL σ && pfx m σ) = true
  | .ret => resK P s.f s.h fn.results.toList fun vs => ∃ y σ, F y (Ho X) s.X /\ fitV σ (single vs) (t y) /\ fitH σ s.h (h' y) /\ σ.length = n' /\ (apartL σ && pfx m σ) = true
  | _ => False
theorem ex_mask (W : World) (O : Nat -> Prop) : ∃ X : World, X.heap.size = W.heap.size /\ (∀ b, ¬ O b -> X.heap[b]? = W.heap[b]?) /\ (∀ b o, O b -> X.heap[b]? = some o -> o = hole X) /\ ∀ (b : Nat) (o : Obj), W.heap[b]? = some o -> o ≠ hole X := by
  obtain ⟨N, hN⟩ := ex_hole W.heap.toList
  have dec : ∀ b, Decidable (O b) := fun b => Classical.propDecidable _
  refine ⟨{ W with heap := W.heap.mapIdx (fun b o => @ite Obj (O b) (dec b) (.cells #[] N (0, 0)) o), drawn := N }, by simp, fun b hb => ?_, fun b o hb ho => ?_, fun b o ho => hN o (by
    obtain ⟨hlt, rfl⟩ := Array.getElem?_eq_some_iff.1 ho
    simp)⟩
  · show (W.heap.mapIdx _)[b]? = _
    rw [Array.getElem?_mapIdx]
    cases W.heap[b]? with
    | none => rfl
    | some o => simp only [Option.map_some, if_neg hb]
  · have ho : (W.heap.mapIdx (fun b o => @ite Obj (O b) (dec b) (.cells #[] N (0, 0)) o))[b]? = some o := ho
    rw [Array.getElem?_mapIdx] at ho
    cases hw : W.heap[b]? with
    | none => rw [hw] at ho; cases ho
    | some o' => rw [hw] at ho; simp only [Option.map_some, if_pos hb] at ho; cases ho; rfl
theorem tb_max (σ : List Nat) (j i : Nat) (hj : σ[j]? = some i) : tb (2 ^ (σ.foldl max 0 + 1) - 1) i := by
  unfold tb
  rw [Nat.testBit_two_pow_sub_one]
  have : ∀ (l : List Nat) (a x : Nat), (x ∈ l ∨ x <= a) -> x <= l.foldl max a := by
    intro l
    induction l with
    | nil => intro a x hx; rcases hx with hx | hx; cases hx; exact hx
    | cons y l ih =>
      intro a x hx
      refine ih _ _ ?_
      rcases hx with hx | hx
      · rcases List.mem_cons.1 hx with rfl | hx
        · exact Or.inr (Nat.le_max_right _ _)
        · exact Or.inl hx
      · exact Or.inr (Nat.le_trans hx (Nat.le_max_left _ _))
  have := this σ 0 i (Or.inl (List.mem_of_getElem? hj))
  simp; omega
section
variable {P : Program} {Y : Type} {F : Y -> (Nat -> Prop) -> World -> Prop}
theorem fn_x (hF : Lcl F) {X : World} {f : FuncId} {fn : Func} {c : Code} {h : HT} {h' : Y -> HT} {n m n' : Nat} {t : Y -> Value} (vs : List Value) (hf : P.funcs[f]? = some fn) (hb : fn.body = some c) (hm : Nat.ble vs.length fn.ntmps = true) (hfull : full h n = true) (hmn : Nat.ble m n = true)
    (H : ∀ w l tw X', Xf X' X -> WC P ⟨w, m, l, tw⟩ c ⟨⟨fn.ntmps, argl 0 vs⟩, h, n, X'⟩ (retX P fn X' m t h' n' F)) : CtrX P X f vs h n m t h' n' F := by
  intro W k us ky hX hv
  refine calls_of_wp hf hb ?_
  have hmn' : m <= n := Nat.le_of_ble_eq_true hmn
  have hks : ∀ i, i < n -> ∃ b z, k i = some (b, z) /\ b < W.heap.size := fun i hi => by
    obtain ⟨cs, hcs⟩ := full_at hfull i hi
    exact (ky.hr.rep i (tb_ones.2 hi)).lt ⟨cs, hcs⟩
  obtain ⟨X', hXs, hXo, hXi, hN'⟩ := ex_mask W (fun b => ∃ j z, j < n /\ k j = some (b, z))
  have hXf : Xf X' X := by
    refine ⟨by rw [hXs]; exact hX.sz, fun b o h1 h2 => ?_⟩
    have h3 := hX.see b o h1 h2
    have h4 : ¬ (∃ j z, j < n /\ k j = some (b, z)) := fun ⟨j, z, _, hk⟩ => h2 (hX.out j b z hk o h1)
    exact ⟨by rw [hXo b h4]; exact h3, hN' b o h3⟩
  have R0 : Rl ⟨{ W with heap := #[] }, m, fun i => (k i).getD (0, 0), W⟩ ⟨⟨fn.ntmps, argl 0 vs⟩, h, n, X'⟩ k W { tmps := us.toArray ++ Array.replicate (fn.ntmps - us.toArray.size) undef, defers := [] } := by
    refine ⟨args_fr hv (Nat.le_of_ble_eq_true hm), ky.hr, ky.nn, ky.nk, ⟨⟨rfl, rfl, rfl, Nat.zero_le _, fun b hb => absurd hb (Nat.not_lt_zero b)⟩, fun i b z _ => Nat.zero_le _, fun b o h1 h2 => ?_, fun i b z hk o ho => ?_, by rw [hXs]; exact Nat.le_refl _, fun i hi => ?_, Nat.le_refl _, Ty.refl _⟩⟩
    · have h4 : ¬ (∃ j z, j < n /\ k j = some (b, z)) := fun hb => h2 (hXi b o hb h1)
      rw [hXo b h4] at h1; exact h1
    · refine hXi b o ⟨i, z, ?_, hk⟩ ho
      rcases Nat.lt_or_ge i n with h' | h'
      · exact h'
      · rw [ky.nk i h'] at hk; cases hk
    · obtain ⟨b, z, hk, _⟩ := hks i (Nat.lt_of_lt_of_le hi hmn')
      show k i = some ((k i).getD (0, 0))
      rw [hk]; rfl
  refine H _ _ _ X' hXf _ _ _ _ R0 fun e s k1 W' a Rs hC => ?_
  obtain ⟨hX1, hC⟩ := hC
  have told : ∀ (b : Nat) (o : Obj), ¬ (∃ j z, j < n /\ k j = some (b, z)) -> W.heap[b]? = some o -> s.X.heap[b]? = some o /\ o ≠ hole s.X := fun b o hno h8 => hX1.2 b o (by rw [hXo b hno]; exact h8) (hN' b o h8)
  have key : resK P s.f s.h fn.results.toList (fun vs => ∃ y σ, F y (Ho X') s.X /\ fitV σ (single vs) (t y) /\ fitH σ s.h (h' y) /\ σ.length = n' /\ (apartL σ && pfx m σ) = true) -> ∃ u, (results fn a.tmps).run P W' = .ok u W' /\ (∃ y u' k', Ending.returned u = .returned u' /\ VX k' (t y) u' /\ Af k n m W k' (h' y) n' W' ∧
      ∀ X2 : World, (∀ (b : Nat) (o : Obj), Fp k n W b -> W'.heap[b]? = some o -> (∀ i z, k' i ≠ some (b, z)) -> X2.heap[b]? = some o /\ o ≠ hole X2) -> F y (Fp k n W) X2) := fun hC => by
    obtain ⟨vs', u, ⟨y, σ, g0, g1, g2, g3, g4⟩, h2, h3⟩ := results_run Rs.fr (fun m => Rs.hr.all Rs.nn m) hC
    rw [Bool.and_eq_true] at g4
    obtain ⟨g4, g5⟩ := g4
    have kyf : Ky (ren σ k1) (h' y) n' W' := by
      rw [← g3]
      exact ky_ren (Rs.hr.all Rs.nn _) (tb_max σ) g2 g4
    refine ⟨u, h3, y, u, ren σ k1, rfl, g1 k1 u h2, ⟨kyf, fun i hi => ?_, fun i b z hk => ?_, fun b hb hj => ?_, ?_, Rs.am.old.os, ⟨Rs.am.old.tape, Rs.am.dr, Rs.am.ty⟩, Rs.am.old.output⟩, fun X2 h2 => ?_⟩
    · obtain ⟨b, z, hk, _⟩ := hks i (Nat.lt_of_lt_of_le hi hmn')
      rw [ren_at (pfx_at g5 i hi), Rs.am.kp i hi]
      show some ((k i).getD (0, 0)) = k i
      rw [hk]; rfl
    · obtain ⟨i0, _, hk0⟩ := ren_some hk
      rcases Nat.lt_or_ge b W.heap.size with h7 | h7
      · refine Or.inr (Classical.byContradiction fun hne => ?_)
        obtain ⟨h9, h10⟩ := told b _ hne (Array.getElem?_eq_getElem h7)
        exact h10 (Rs.am.out i0 b _ hk0 _ h9)
      · exact Or.inl h7
    · have h8 : W.heap[b]? = some W.heap[b] := Array.getElem?_eq_getElem hb
      obtain ⟨h9, h10⟩ := told b _ (fun ⟨j, z', h8, h9⟩ => hj j z' h8 h9) h8
      rw [h8]
      exact Rs.am.see b _ h9 h10
    · exact Nat.le_trans (by rw [← hXs]; exact hX1.1) Rs.am.sz
    · refine hF.lo y _ s.X X2 (fun b o hb h4 h5 => h2 b o hb (Rs.am.see b o h4 h5) fun i z hk => ?_) (hF.le y _ _ _ (fun b hb => ?_) g0)
      · obtain ⟨i0, _, hk0⟩ := ren_some hk
        exact h5 (Rs.am.out i0 b z hk0 o h4)
      · refine Classical.byContradiction fun hne => ?_
        have h7 : b < W.heap.size := Nat.lt_of_not_le fun h => hne (Or.inl h)
        have h8 : W.heap[b]? = some W.heap[b] := Array.getElem?_eq_getElem h7
        exact hN' b _ h8 (hb _ (by rw [hXo b (fun h => hne (Or.inr h))]; exact h8))
  cases e with
  | normal => obtain ⟨u, h1, h2⟩ := key hC; exact ⟨Rs.fr.df, u, h1, h2⟩
  | ret => obtain ⟨u, h1, h2⟩ := key hC; exact ⟨Rs.fr.df, u, h1, h2⟩
  | _ => exact hC.elim
end
structure Ox (w0 : B0) (X : World) (P : Program) (o : Oper) (fr : FT) (h : HT) (n : Nat) {Y : Type} (x : Y -> R5) (F : Y -> (Nat -> Prop) -> World -> Prop) (dr : List Nat) : Prop where
  ss : ∀ y, Ss h n (x y).h (x y).n (x y).r (x y).w
  ok : ∀ (k : K) (W : World) (a : Act) (K' : Act -> World -> Prop) (Q : Exit -> Act -> World -> Prop), Am w0 X k W -> (∀ y ∈ o.op.operands.toList, VX k (evo fr y) (a.eval y)) -> HR k h W (ones n) -> (∀ i, n <= i -> hget h i = none) -> (∀ i, n <= i -> k i = none) ->
    (∀ y u W' k' X', Sd h n (x y).h (x y).n (x y).r (x y).w k W k' W' -> VX k' (x y).v u -> Xf X' X -> F y (Ho X) X' -> (∀ i b z, k' i = some (b, z) -> i ∉ dr -> ∀ o : Obj, X'.heap[b]? = some o -> o = hole X') -> (∀ (b : Nat) (o : Obj), X'.heap[b]? = some o -> o ≠ hole X' -> W'.heap[b]? = some o) -> X'.heap.size <= W'.heap.size -> K' (a.put o.dst u) W') -> o.wp P a W K' Q
section
variable {P : Program} {w0 : B0} {X : World} {o : Oper} {fr : FT} {hc : HT} {nc : Nat}
theorem r_cx {Y : Type} {F : Y -> (Nat -> Prop) -> World -> Prop} (hF : Lcl F) {f : FuncId} {fn : Func} {y : Operand} {xs : Array Operand} {ts : Array TypeId} {ca : Array Value} {vs : List Value} {h : HT} {h' : Y -> HT} {n m n' : Nat} {t tc : Y -> Value} (σ : List Nat) (cl : Y -> List (Option (List Value))) (ms : List Nat)
    (ho : o.op = .call { callee := .value y, args := xs, argTypes := ts }) (hy : evo fr y = .func (.func f) #[] ca) (hctr : CtrX P X f vs h n m t h' n' F) (ha : fitL σ (evl fr xs.toList ++ ca.toList) vs) (hh : fitH σ hc h) (ht : ∀ y, unV (σ.take m ++ upto nc (n' - m)) (t y) (tc y)) (hu : ∀ y, unH (σ.take m ++ upto nc (n' - m)) (h' y) 0 (cl y)) (hcn : ∀ y, (cl y).length = n')
    (hf : P.funcs[f]? = some fn := by rfl) (hb : callB fn = true := by rfl)
    (hck : (apartL σ && full h n && Nat.beq σ.length n && Nat.ble m n && Nat.ble m n' && Nat.ble (nc + (n' - m)) 4096 && σ.all (Nat.blt · nc) && full hc nc) = true := by rfl) :
    Ox w0 X P o fr hc nc (fun yy => ⟨tc yy, mskL (setsH hc ((σ.take m ++ upto nc (n' - m)).zip (cl yy) ++ (σ.drop m).map (fun i => (i, none)))) ms, nc + (n' - m), bitsL σ, bitsL (σ ++ upto nc (n' - m))⟩) F (σ.drop m) := by
  simp only [Bool.and_eq_true, Nat.beq_eq, Nat.ble_eq, List.all_eq_true, Nat.blt_eq] at hck
  obtain ⟨⟨⟨⟨⟨⟨⟨hap, hfull⟩, hσ⟩, hmn⟩, hmn'⟩, h4⟩, hlt⟩, hfc⟩ := hck
  generalize hτ : σ.take m ++ upto nc (n' - m) = τ at *
  have τat : ∀ (j i : Nat), τ[j]? = some i ↔ (j < m /\ σ[j]? = some i) ∨ (m <= j /\ j < n' /\ i = nc + (j - m)) := fun j i => by
    rw [← hτ]
    have hl : (σ.take m).length = m := by rw [List.length_take]; omega
    by_cases hj : j < m
    · rw [List.getElem?_append_left (by omega), List.getElem?_take, if_pos hj]
      exact ⟨fun h => Or.inl ⟨hj, h⟩, fun h => by rcases h with h | h; exact h.2; omega⟩
    · rw [List.getElem?_append_right (by omega), hl, upto_at]
      constructor
      · rintro ⟨h1, h2⟩; exact Or.inr ⟨by omega, by omega, h1⟩
      · rintro (h | ⟨h1, h2, h3⟩)
        · omega
        · exact ⟨h3, by omega⟩
  have τlen : τ.length = n' := by rw [← hτ]; simp [upto_len]; omega
  have σlt : ∀ (j i : Nat), σ[j]? = some i -> i < nc := fun j i h => hlt i (List.mem_of_getElem? h)
  obtain ⟨ups, hups⟩ : ∃ ups : Y -> List (Nat × Option (List Value)), ∀ yy, τ.zip (cl yy) ++ (σ.drop m).map (fun i => (i, none)) = ups yy := ⟨_, fun _ => rfl⟩
  simp only [hups]
  have upl : ∀ yy, ∀ p ∈ ups yy, p.1 < 4096 := fun yy p hp => by
    rw [← hups] at hp
    rcases List.mem_append.1 hp with hp | hp
    · have h1 := (List.of_mem_zip hp).1
      obtain ⟨j, hj⟩ := List.mem_iff_getElem?.1 h1
      rcases (τat j _).1 hj with ⟨_, h2⟩ | ⟨h2, h3, h5⟩
      · have := σlt j _ h2; omega
      · omega
    · obtain ⟨i, h1, rfl⟩ := List.mem_map.1 hp
      have := hlt i (List.mem_of_mem_drop h1)
      show i < 4096
      omega
  have upk : ∀ yy i, (i ∈ σ ∨ i ∈ upto nc (n' - m)) -> ∃ c, (i, c) ∈ ups yy := fun yy i hi => by
    have inτ : i ∈ τ -> ∃ c, (i, c) ∈ ups yy := fun h => by
      have hcl := hcn yy
      obtain ⟨j, hj⟩ := List.mem_iff_getElem?.1 h
      have hjl := (List.getElem?_eq_some_iff.1 hj).1
      have hc : (cl yy)[j]? = some ((cl yy)[j]'(by omega)) := List.getElem?_eq_getElem (by omega)
      refine ⟨(cl yy)[j]'(by omega), ?_⟩
      rw [← hups]
      refine List.mem_append.2 (Or.inl (List.mem_iff_getElem?.2 ⟨j, ?_⟩))
      rw [List.getElem?_zip_eq_some]; exact ⟨hj, hc⟩
    rcases hi with hi | hi
    · rw [← List.take_append_drop m σ] at hi
      rcases List.mem_append.1 hi with hi | hi
      · exact inτ (by rw [← hτ]; exact List.mem_append.2 (Or.inl hi))
      · exact ⟨none, by rw [← hups]; exact List.mem_append.2 (Or.inr (List.mem_map.2 ⟨i, hi, rfl⟩))⟩
    · exact inτ (by rw [← hτ]; exact List.mem_append.2 (Or.inr hi))
  have upi : ∀ yy i c, (i, c) ∈ ups yy -> i ∈ σ ∨ i ∈ upto nc (n' - m) := fun yy i c h => by
    rw [← hups] at h
    rcases List.mem_append.1 h with h | h
    · have h1 := (List.of_mem_zip h).1
      rw [← hτ] at h1
      rcases List.mem_append.1 h1 with h1 | h1
      · exact Or.inl (List.mem_of_mem_take h1)
      · exact Or.inr h1
    · obtain ⟨i', h1, h2⟩ := List.mem_map.1 h
      cases h2
      exact Or.inl (List.mem_of_mem_drop h1)
  have A : ∀ yy i, ¬ (i ∈ σ ∨ i ∈ upto nc (n' - m)) -> hget (mskL (setsH hc (ups yy)) ms) i = hget hc i := fun yy i hi => by
    rw [hget_mskL]
    rcases sets_get (h := hc) (i := i) (upl yy) with ⟨c, h1, _⟩ | ⟨_, h2⟩
    · exact absurd (upi yy i c h1) hi
    · exact h2
  have B : ∀ yy i cc, hget (mskL (setsH hc (ups yy)) ms) i = some cc -> (i ∈ σ ∨ i ∈ upto nc (n' - m)) -> ∃ (j : Nat) (cs : List Value), τ[j]? = some i /\ hget (h' yy) j = some cs /\ unL τ cs cc := fun yy i cc he hi => by
    rw [hget_mskL] at he
    rcases sets_get (h := hc) (i := i) (upl yy) with ⟨c, h1, h2⟩ | ⟨h1, _⟩
    · rw [h2] at he
      subst he
      rw [← hups] at h1
      rcases List.mem_append.1 h1 with h1 | h1
      · obtain ⟨j, hj⟩ := List.mem_iff_getElem?.1 h1
        rw [List.getElem?_zip_eq_some] at hj
        obtain ⟨cs, h3, h5⟩ := unH_get (hu yy) hj.2
        rw [Nat.zero_add] at h3
        exact ⟨j, cs, hj.1, h3, h5⟩
      · obtain ⟨i', _, h3⟩ := List.mem_map.1 h1
        cases h3
    · obtain ⟨c, h3⟩ := upk yy i hi
      exact absurd h3 (h1 c)
  have live0 : ∀ (j i : Nat), σ[j]? = some i -> live hc i := fun j i hj => by
    obtain ⟨cs, hcs⟩ := full_at hfull j (by have := (List.getElem?_eq_some_iff.1 hj).1; omega)
    obtain ⟨i', us, h1, h2, _⟩ := fitH_get hh hcs
    rw [hj] at h1; cases h1
    exact ⟨us, h2⟩
  have wm : ∀ i, tb (bitsL (σ ++ upto nc (n' - m))) i ↔ (i ∈ σ ∨ i ∈ upto nc (n' - m)) := fun i => by rw [tb_bitsL, List.mem_append]
  refine ⟨fun yy => ⟨Nat.le_add_right _ _, fun nn i hi => ?_, fun i hi => A yy i (fun h => hi ((wm i).2 h)), fun i hi hn => ?_, fun i hi => ?_, fun i hi ⟨cs, hl⟩ => ?_⟩, fun k W a K' Q hA hop H0 nn nk hk => ?_⟩
  · have hi : nc + (n' - m) <= i := hi
    show hget (mskL (setsH hc (ups yy)) ms) i = none
    rw [A yy i (fun h => by rcases h with h | h; have := hlt i h; omega; have := upto_mem.1 h; omega)]; exact nn i (by omega)
  · rcases (wm i).1 hi with h | h
    · exact tb_bitsL.2 h
    · have := upto_mem.1 h; omega
  · show i < nc + (n' - m)
    rcases (wm i).1 hi with h | h
    · have := hlt i h; omega
    · have := upto_mem.1 h; omega
  · by_cases h : i ∈ σ ∨ i ∈ upto nc (n' - m)
    · rcases h with h | h
      · obtain ⟨j, hj⟩ := List.mem_iff_getElem?.1 h; exact live0 j i hj
      · have := upto_mem.1 h; omega
    · have hl : hget (mskL (setsH hc (ups yy)) ms) i = some cs := hl
      rw [A yy i h] at hl; exact ⟨cs, hl⟩
  · have H : HR k hc W (bitsL σ) := H0.all nn _
    have hks : ∀ i, i < nc -> ∃ b z, k i = some (b, z) /\ b < W.heap.size := fun i hi => by
      obtain ⟨cs, hcs⟩ := full_at hfc i hi
      exact (H0.rep i (tb_ones.2 hi)).lt ⟨cs, hcs⟩
    have ky : Ky (ren σ k) h n W := by
      have := ky_ren H (fun j i hj => tb_bitsL.2 (List.mem_of_getElem? hj)) hh hap
      rw [hσ] at this; exact this
    have sees : Sees X (ren σ k) W := ⟨hA.see, fun i b z hk => by obtain ⟨i0, _, h1⟩ := ren_some hk; exact hA.out i0 b z h1, hA.sz⟩
    have h4' := hop y (by rw [ho]; simp [Op.operands, Call.operands])
    rw [hy] at h4'
    obtain ⟨fi, c2, h5, h6, h7⟩ := h4'.func_inv
    have h6' : fi = [] := h6
    subst h6'
    have h8 := evl_rel (fr := fr) (k := k) (a := a) xs.toList (fun y hy => hop y (by rw [ho]; simp [Op.operands, Call.operands]; right; simpa using hy))
    have h9 := fitL_rel ha (h8.app h7)
    have hrun : (execOp a.eval o).run P W = .ok (.enter f (xs.toList.map a.eval ++ c2).toArray) W := by
      simp only [execOp, ho, resolve, h5, Deferred.ofValue, invoke, Sem.run_bind, Sem.run_pure, Result.andThen_ok, enter_ok hf hb]
      congr 2
      apply Array.ext'
      simp
    unfold Oper.wp
    rw [hrun, Oper.upon_enter]
    refine (hctr W _ _ ky sees h9).mono ?_
    rintro e W' ⟨yy, u, k1, rfl, hvx, af, hfact⟩
    let k2 : K := fun i => if nc <= i /\ i < nc + (n' - m) then k1 (i - nc + m) else k i
    have kout : ∀ i, ¬ (nc <= i /\ i < nc + (n' - m)) -> k2 i = k i := fun i h => if_neg h
    have kin : ∀ i, nc <= i -> i < nc + (n' - m) -> k2 i = k1 (i - nc + m) := fun i h1 h2 => if_pos ⟨h1, h2⟩
    have hτk : ∀ (j i : Nat), τ[j]? = some i -> k2 i = k1 j := fun j i hj => by
      rcases (τat j i).1 hj with ⟨h1, h2⟩ | ⟨h1, h2, h3⟩
      · rw [kout i (by have := σlt j i h2; omega), af.keep j h1, ren_at h2]
      · rw [kin i (by omega) (by omega)]; congr 1; omega
    have hren : ren τ k2 = k1 := by
      funext j
      cases hj : τ[j]? with
      | none =>
        have : n' <= j := by rw [← τlen]; exact List.getElem?_eq_none_iff.1 hj
        rw [af.ky.nk j this]; unfold ren; rw [hj]; rfl
      | some i => rw [ren_at hj, hτk j i hj]
    have jlt : ∀ (j : Nat) (cs : List Value), hget (h' yy) j = some cs -> j < n' := fun j cs h => by
      rcases Nat.lt_or_ge j n' with h' | h'
      · exact h'
      · rw [af.ky.nn j h'] at h; cases h
    have kcase : ∀ i b z, i ∉ σ.drop m -> k2 i = some (b, z) -> (∃ j, k1 j = some (b, z)) ∨ (i < nc /\ i ∉ σ /\ k i = some (b, z)) := fun i b z hdr hk2 => by
      by_cases hr : nc <= i /\ i < nc + (n' - m)
      · rw [kin i hr.1 hr.2] at hk2; exact Or.inl ⟨_, hk2⟩
      · rw [kout i hr] at hk2
        have hi : i < nc := by
          rcases Nat.lt_or_ge i nc with h | h
          · exact h
          · rw [nk i h] at hk2; cases hk2
        by_cases hs : i ∈ σ
        · obtain ⟨j, hj⟩ := List.mem_iff_getElem?.1 hs
          rcases Nat.lt_or_ge j m with h | h
          · exact Or.inl ⟨j, by rw [← hτk j i ((τat j i).2 (Or.inl ⟨h, hj⟩)), kout i hr]; exact hk2⟩
          · exact absurd (List.mem_iff_getElem?.2 ⟨j - m, by rw [List.getElem?_drop, show m + (j - m) = j by omega]; exact hj⟩) hdr
        · exact Or.inr ⟨hi, hs, hk2⟩
    obtain ⟨X2, hXs, hXo, hXi, hXn⟩ := ex_mask W' (fun b => ∃ i z, i ∉ σ.drop m /\ k2 i = some (b, z))
    have hXf : Xf X2 X := ⟨by rw [hXs]; exact Nat.le_trans hA.sz af.size, fun b o h1 h2 => by
      have h3 := hA.see b o h1 h2
      have hlt' := (Array.getElem?_eq_some_iff.1 h3).1
      have hno : ∀ i z, k i ≠ some (b, z) := fun i z hk => h2 (hA.out i b z hk o h1)
      have h4 : W'.heap[b]? = some o := by rw [af.frm b hlt' (fun j z _ hkj => by obtain ⟨i0, _, g⟩ := ren_some hkj; exact hno i0 z g)]; exact h3
      have hnm : ¬ ∃ i z, i ∉ σ.drop m /\ k2 i = some (b, z) := ?_
      · exact ⟨by rw [hXo b hnm]; exact h4, hXn b o h4⟩
      rintro ⟨i, z, hdr, hk2⟩
      rcases kcase i b z hdr hk2 with ⟨j, h5⟩ | ⟨_, _, h5⟩
      · rcases af.fresh j b z h5 with h | ⟨j', z', _, hkj⟩
        · omega
        · obtain ⟨i0, _, g⟩ := ren_some hkj; exact hno i0 z' g
      · exact hno i z h5⟩
    have hfa : F yy (Ho X) X2 := by
      refine hF.le yy (Fp (ren σ k) n W) _ X2 (fun b hb o ho => ?_) (hfact X2 fun b o hb h1 h2 => ⟨?_, hXn b o h1⟩)
      · rcases hb with hb | ⟨j, z, _, hkj⟩
        · have := (Array.getElem?_eq_some_iff.1 ho).1; have := hA.sz; omega
        · obtain ⟨i0, _, g⟩ := ren_some hkj; exact hA.out i0 b z g o ho
      · rw [hXo b ?_]
        · exact h1
        rintro ⟨i, z, hdr, hk2⟩
        rcases kcase i b z hdr hk2 with ⟨j, h5⟩ | ⟨h5, h6, h7⟩
        · exact h2 j z h5
        · obtain ⟨b', z', g1, g2⟩ := hks i h5
          rw [h7] at g1; cases g1
          rcases hb with hb | ⟨j, z, _, hkj⟩
          · omega
          · obtain ⟨i0, g3, g4⟩ := ren_some hkj
            have := σlt j i0 g3
            exact H0.inj i i0 (tb_ones.2 h5) (tb_ones.2 this) (full_at hfc i h5) (full_at hfc i0 this) (fun e => h6 (e ▸ List.mem_of_getElem? g3)) b _ b _ h7 g4 rfl
    refine hk yy u W' k2 X2 ⟨fun i p hp => ?_, fun i hi => kout i (by have hi : i < nc ∨ nc + (n' - m) <= i := hi; omega), ⟨fun i hi cs hcs => ?_, fun i i' hi hi' li li' hne b z b' z' kb kb' => ?_⟩, fun b hb hj => ?_, fun i b z h1 h2 hl hk2 => ?_, fun D hD hdj i b z hk2 hDb => ?_, af.size, af.os, af.tape, af.output⟩ (ht yy k2 u (by rw [hren]; exact hvx)) hXf hfa (fun i b z hk2 hdr o ho => hXi b o ⟨i, z, hdr, hk2⟩ ho) (fun b o h1 h2 => by
      rw [hXo b (fun hb => h2 (hXi b o hb h1))] at h1; exact h1) (by rw [hXs]; exact Nat.le_refl _)
    · rw [kout i (fun h => by rw [nk i h.1] at hp; cases hp)]; exact hp
    · have hi' : i ∈ σ ∨ i ∈ upto nc (n' - m) := by
        rcases tb_or.1 hi with h | h
        · exact Or.inl (tb_bitsL.1 h)
        · exact (wm i).1 h
      obtain ⟨j, cs', g1, g2, g3⟩ := B yy i cs hcs hi'
      refine (af.ky.hr.rep j (tb_ones.2 (jlt j cs' g2)) cs' g2).mono (fun p hp => by rw [hτk j i g1]; exact hp) (fun _ _ _ _ => rfl) (fun us hus => unL_rel g3 (by rw [hren]; exact hus))
    · have mem : ∀ i, tb (Nat.lor (bitsL σ) (bitsL (σ ++ upto nc (n' - m)))) i -> i ∈ σ ∨ i ∈ upto nc (n' - m) := fun i hi => by
        rcases tb_or.1 hi with h | h
        · exact Or.inl (tb_bitsL.1 h)
        · exact (wm i).1 h
      obtain ⟨c1, e1⟩ := li
      obtain ⟨c1', e1'⟩ := li'
      obtain ⟨j, cs, g1, g2, _⟩ := B yy i c1 e1 (mem i hi)
      obtain ⟨j', cs', g1', g2', _⟩ := B yy i' c1' e1' (mem i' hi')
      rw [hτk j i g1] at kb
      rw [hτk j' i' g1'] at kb'
      exact af.ky.hr.inj j j' (tb_ones.2 (jlt j cs g2)) (tb_ones.2 (jlt j' cs' g2')) ⟨cs, g2⟩ ⟨cs', g2'⟩ (fun e => hne (by rw [e, g1'] at g1; cases g1; rfl)) b z b' z' kb kb'
    · refine af.frm b hb fun j z hjn hkj => ?_
      obtain ⟨i, g1, g2⟩ := ren_some hkj
      exact hj i z ((wm i).2 (Or.inl (List.mem_of_getElem? g1))) (live0 j i g1) g2
    · rw [kin i h1 h2] at hk2
      rcases af.fresh _ b z hk2 with h | ⟨j, z', hjn, hkj⟩
      · exact Or.inl h
      · obtain ⟨i0, g1, g2⟩ := ren_some hkj
        refine Or.inr ⟨i0, z', (wm i0).2 (Or.inl (List.mem_of_getElem? g1)), σlt j i0 g1, live0 j i0 g1, fun ⟨cc, hcc⟩ => ?_, g2⟩
        obtain ⟨q, cs, q1, q2, _⟩ := B yy i0 cc hcc (Or.inl (List.mem_of_getElem? g1))
        obtain ⟨cc', hcc'⟩ := hl
        obtain ⟨q', cs', q1', q2', _⟩ := B yy i cc' hcc' (Or.inr (upto_mem.2 ⟨h1, h2⟩))
        have e0 : k1 q = some (b, z') := by rw [← hτk q i0 q1, kout i0 (by have := σlt j i0 g1; omega)]; exact g2
        have e1 : k1 q' = some (b, z) := by rw [← hτk q' i q1', kin i h1 h2]; exact hk2
        have := σlt j i0 g1
        exact af.ky.hr.inj q q' (tb_ones.2 (jlt q cs q2)) (tb_ones.2 (jlt q' cs' q2')) ⟨cs, q2⟩ ⟨cs', q2'⟩ (fun e => by rw [e, q1'] at q1; cases q1; omega) b z' b z e0 e1 rfl
    · by_cases hr : nc <= i /\ i < nc + (n' - m)
      · rw [kin i hr.1 hr.2] at hk2
        rcases af.fresh _ b z hk2 with h | ⟨j, z', hjn, hkj⟩
        · have := hD _ hDb; omega
        · obtain ⟨i0, _, g2⟩ := ren_some hkj; exact hdj i0 b z' g2 hDb
      · rw [kout i hr] at hk2; exact hdj i b z hk2 hDb
end
theorem list_app {A : K -> World -> Prop} (hSt : Stable A) {P : Program} {ops : Array Oper} (l2 : List Oper) : ∀ (l : List Oper) (s s' : RL), (∀ i, s.n <= i -> hget s.h i = none) -> EvL A P ops l s s' ->
    ∃ r w, Ss s.h s.n s'.h s'.n r w ∧
      ∀ (k : K) (W : World) (a : Act) (Q : Exit -> Act -> World -> Prop), A k W -> FR k s.f a -> HR k s.h W r -> (∀ i, s.n <= i -> i < s'.n -> k i = none) -> (∀ k' W' a', Sd s.h s.n s'.h s'.n r w k W k' W' -> FR k' s'.f a' -> wpList P ops Q l2 a' W') -> wpList P ops Q (l ++ l2) a W
  | [], s, s', nn, e => by
    cases e
    exact ⟨0, 0, Ss.refl _ _, fun k W a Q _ hf _ _ hk => hk k W a (Sd.refl _ _ _ _) hf⟩
  | o :: l, s, s', nn, e => by
    obtain ⟨s1, h1, e⟩ := e
    obtain ⟨r1, w1, v, _, hf1, hr1, hw1, ss1, ok1⟩ := step_ok h1
    obtain ⟨r2, w2, ss2, ok2⟩ := list_app hSt l2 l s1 s' (ss1.nn nn) e
    refine ⟨Nat.lor r1 r2, Nat.lor w1 w2, ss1.trans ss2, fun k W a Q hA hf H hnew hk => ?_⟩
    rw [List.cons_append]
    refine wpList_step fun K hK => ?_
    refine ok1 k W a K Q hA (fun y _ => hf.ev y) (fun j w t _ _ => hf.get t) (H.sub fun i hi => tb_or.2 (Or.inl hi)) (fun i h1 h2 => hnew i h1 (Nat.lt_of_lt_of_le h2 ss2.le)) (fun u W' k' hd hv => hK _ _ ?_)
    have H2 := Sd.next ss1 hd nn H
    refine ok2 k' W' _ Q (hSt _ _ _ _ _ _ _ _ _ _ hA hd) (by rw [hf1]; exact (hf.mono hd.ext).put o.dst hv) (H2.sub fun i hi => tb_or.2 (Or.inr hi)) (fun i h1 h2 => by rw [hd.dom i (Or.inr h1)]; exact hnew i (Nat.le_trans ss1.le h1) h2) (fun k2 W2 a2 hd2 hf2 => hk k2 W2 a2 (Sd.trans ss1 hd ss2 hd2 nn H) hf2)
section
variable {P : Program} {w0 : B0} {C : Exit -> St -> Prop}
theorem Rl.grow {s t : St} {σ : List Nat} {k : K} {W : World} {a : Act} {X' : World} (R : Rl w0 s k W a) (F : Fit w0.m s t σ) (see : ∀ (b : Nat) (o : Obj), X'.heap[b]? = some o -> o ≠ hole X' -> W.heap[b]? = some o) (out : ∀ (j i b z : Nat), σ[j]? = some i -> k i = some (b, z) -> ∀ o : Obj, X'.heap[b]? = some o -> o = hole X') (sz : X'.heap.size <= W.heap.size) : Rl w0 ⟨t.f, t.h, t.n, X'⟩ (ren σ k) W a := by
  have R2 := F.rl R
  exact ⟨R2.fr, R2.hr, R2.nn, R2.nk, ⟨R2.am.old, R2.am.own, see, fun i b z hk o ho => by obtain ⟨i0, h1, h2⟩ := ren_some hk; exact out i i0 b z h1 h2 o ho, sz, R2.am.kp, R2.am.dr, R2.am.ty⟩⟩
theorem Fit.nt {m0 : Nat} {s t : St} {σ : List Nat} (F : Fit m0 s t σ) (i : Nat) (hi : t.n <= i) : hget t.h i = none := by
  cases e : hget t.h i with
  | none => rfl
  | some cs =>
    obtain ⟨i', _, h0, _⟩ := fitH_get F.h e
    have := (List.getElem?_eq_some_iff.1 h0).1
    have := F.n
    omega
def noneOf (σ dr : List Nat) : Bool := σ.all fun i => dr.all fun j => !Nat.beq i j
theorem noneOf_at {σ dr : List Nat} (h : noneOf σ dr = true) {i : Nat} (hi : i ∈ σ) : i ∉ dr := fun hd => by
  have h1 := List.all_eq_true.1 (List.all_eq_true.1 h i hi) i hd
  rw [Nat.beq_refl] at h1; cases h1
def mid (P : Program) (w0 : B0) (C : Exit -> St -> Prop) (ops : Array Oper) (o : Oper) (rest : List Oper) (stk : List It) (_ : Exit) (s : St) : Prop := match s with
  | ⟨f, h, n, X⟩ => ∃ (Y : Type) (x : Y -> R5) (F : Y -> (Nat -> Prop) -> World -> Prop) (dr : List Nat), Ox w0 X P o f h n x F dr /\ ∀ y X', Xf X' X -> F y (Ho X) X' -> ∃ (t : FT × HT × Nat) (σ : List Nat), Fit w0.m ⟨put f o.dst (x y).v, (x y).h, (x y).n, X⟩ ⟨t.1, t.2.1, t.2.2, X⟩ σ /\ noneOf σ dr = true /\ Rn P w0 C ⟨ops, rest, false, ⟨t.1, t.2.1, t.2.2, 0, 0, []⟩, X', stk⟩
theorem rx {ops op0 : Array Oper} {id r0 w1 : Nat} {l0 : List (Nat × Nat)} {f : FT} {h : HT} {n : Nat} {X : World} {stk : List It} (l1 : List Oper) (o : Oper) (l2 : List Oper) (ho : ops.toList = l1 ++ o :: l2) (hg : o.guard = none)
    (hh : Rn P w0 (mid P w0 C ops o l2 stk) ⟨ops, l1, false, ⟨f, h, n, 0, 0, []⟩, X, []⟩) : Rn P w0 C ⟨op0, [], false, ⟨f, h, n, r0, w1, l0⟩, X, co (.region id ops false) :: stk⟩ := by
  intro nn
  refine ⟨_, rfl, fun h => (by cases h), ?_⟩
  show WC P w0 (.region id ops false) ⟨f, h, n, X⟩ (RnE P w0 C stk)
  intro Q k W a R hK
  obtain ⟨s1, h1, _, hC⟩ := hh nn
  obtain ⟨Y, x, F, dr, hx, hy⟩ := hC
  obtain ⟨r, w, ss, ok⟩ := list_app (Am.stable w0 X) (o :: l2) l1 ⟨f, h, n, 0, 0, []⟩ s1 nn h1
  refine wp_region_list ?_
  rw [ho]
  refine ok k W a Q R.am R.fr (R.hr.all R.nn _) (fun i h1 _ => R.nk i h1) fun k1 W1 a1 hd hf => ?_
  have R1 : Rl w0 ⟨s1.f, s1.h, s1.n, X⟩ k1 W1 a1 := R.step ss hd hf
  refine wpList_plain hg fun K hKK => hx.ok k1 W1 a1 K Q R1.am (fun y _ => R1.fr.ev y) R1.hr R1.nn R1.nk (fun y u W2 k2 X2 sd hv hX hF out see sz => hKK _ _ ?_)
  have R2 : Rl w0 ⟨put s1.f o.dst (x y).v, (x y).h, (x y).n, X⟩ k2 W2 (a1.put o.dst u) := R1.step (hx.ss y) sd ((R1.fr.mono sd.ext).put o.dst hv)
  obtain ⟨t, σ, fit, hno, hr⟩ := hy y X2 hX hF
  have R3 : Rl w0 ⟨t.1, t.2.1, t.2.2, X2⟩ (ren σ k2) W2 (a1.put o.dst u) := R2.grow fit see (fun j i b z h1 h2 => out i b z h2 (noneOf_at hno (List.mem_of_getElem? h1))) sz
  obtain ⟨s3, e1, _, e3⟩ := hr R3.nn
  obtain ⟨r2, w2, _, _, ss2, ok2⟩ := list_ok (Am.stable w0 X2) l2 ⟨t.1, t.2.1, t.2.2, 0, 0, []⟩ s3 R3.nn e1
  exact ok2 _ W2 _ Q R3.am R3.fr (R3.hr.all R3.nn _) (fun i h1 _ => R3.nk i h1) fun k3 W3 a3 hd3 hf3 => hK .normal _ k3 W3 a3 (R3.step ss2 hd3 hf3) e3
def atR (id : Nat) (c : Cf) : Bool := match c.rest with
  | [] => match c.stk with
    | ⟨.region j _ _, none⟩ :: _ => Nat.beq j id
    | _ => false
  | _ => false
def advU (P : Program) (w0 : B0) (C : Exit -> St -> Prop) (R : Cf -> Prop) (id : Nat) : Nat -> Cf -> Prop
  | 0, c => R c
  | m + 1, c => bif atR id c then R c else oneK P w0 C (advU P w0 C R id m) R c
theorem advU_ok (hmo : P.follows .mixedOrders = true) (id : Nat) : ∀ (m : Nat) (c : Cf), advU P w0 C (Rn P w0 C) id m c -> Rn P w0 C c
  | 0, _, e => e
  | m + 1, c, e => by
    unfold advU at e
    cases h : atR id c with
    | true => rw [h] at e; exact e
    | false => rw [h] at e; exact oneK_ok hmo (advU_ok hmo id m) (fun _ h => h) c e
theorem su (id : Nat) (hmo : P.follows .mixedOrders = true) {c : Cf} (h : advU P w0 C (Rn P w0 C) id 400 c) : Rn P w0 C c := advU_ok hmo id 400 c h
theorem Rl.told {s t : St} {σ : List Nat} {k : K} {W : World} {a : Act} {i b z : Nat} {cs : List Value} (R : Rl w0 s k W a) (F : Fit w0.m s t σ) (hk : k i = some (b, z + 1)) (hcs : hget s.h i = some cs) (hp : cs.all pur1 = true) (hσ : ∀ j ∈ σ, j ≠ i /\ live s.h j) : ∃ X' : World, Xf X' s.X /\ Ho s.X b /\ Lies X' b 0 (cs.map den1) /\ Rl w0 ⟨t.f, t.h, t.n, X'⟩ (ren σ k) W a := by
  obtain ⟨X', hXs, hXo, hXi, hXn⟩ := ex_mask W (fun b => ∃ (j i z : Nat), σ[j]? = some i /\ k i = some (b, z))
  have hall : ∀ i, live s.h i -> i < s.n := fun i hl => by
    rcases Nat.lt_or_ge i s.n with h | h
    · exact h
    · exact absurd hl (not_live (R.nn i h))
  have hb : ¬ ∃ (j i z : Nat), σ[j]? = some i /\ k i = some (b, z) := fun ⟨j, i', z', h1, h2⟩ => by
    obtain ⟨h3, h4⟩ := hσ i' (List.mem_of_getElem? h1)
    exact R.hr.inj i' i (tb_ones.2 (hall i' h4)) (tb_ones.2 (hall i ⟨cs, hcs⟩)) h4 ⟨cs, hcs⟩ h3 b _ b _ h2 hk rfl
  obtain ⟨b2, us, sp, ty, e1, e2, e3⟩ := ((R.hr.all R.nn (bit i)).rep i (tb_bit.2 rfl) cs hcs).cel hk
  rw [hk] at e1; cases e1
  have h6 := LR.map (p := pur1) (d := den1) (fun _ _ h => pur1_eq h) e3 hp
  refine ⟨X', ⟨by rw [hXs]; exact R.am.sz, fun b' o h1 h2 => ?_⟩, R.am.out i b _ hk, fun j u hj => ?_, R.grow F (fun b' o h1 h2 => by rw [hXo b' (fun h => h2 (hXi b' o h h1))] at h1; exact h1) (fun j i b' z' h1 h2 o ho => hXi b' o ⟨j, i, z', h1, h2⟩ ho) (by rw [hXs]; exact Nat.le_refl _)⟩
  · have h3 := R.am.see b' o h1 h2
    exact ⟨by rw [hXo b' (fun ⟨j, i', z', _, h5⟩ => h2 (R.am.out i' b' z' h5 o h1))]; exact h3, hXn b' o h3⟩
  · have e2' : X'.heap[b]? = some (.cells (us ++ sp).toArray ty (0, 0)) := by rw [hXo b hb]; exact e2
    rw [← h6] at hj
    rw [cell_of e2', Nat.zero_add, List.getElem?_append_left (List.getElem?_eq_some_iff.1 hj).1]; exact hj
def lives (h : HT) (i : Nat) (σ : List Nat) : Bool := σ.all fun j => !Nat.beq j i && (hget h j).isSome
theorem lives_at {h : HT} {i : Nat} {σ : List Nat} (hl : lives h i σ = true) (j : Nat) (hj : j ∈ σ) : j ≠ i /\ live h j := by
  have h1 := List.all_eq_true.1 hl j hj
  rw [Bool.and_eq_true] at h1
  exact ⟨fun e => by rw [e, Nat.beq_refl] at h1; exact absurd h1.1 (by decide), Option.isSome_iff_exists.1 h1.2⟩
end
end S
end Go.Proofs.YtpabcmaeaiaknaaGreatDoor
namespace Go.Proofs.YtpabcmaeaiaknaaGreatDoor
open S Go.RowKit
abbrev P0 : Value := .pointer (some ⟨0, 0, none⟩)
abbrev bT (i m : Nat) : Value := .slice (some ⟨i, 0, some 7⟩) m 1
abbrev nS : Value := raw (.slice none 0 0)
abbrev hB (u v : Value) (tl c1 : List Value) : HT := [(0 + 4096, none), (0, some (u :: v :: tl)), (1 + 4096, none), (1, some c1)]
theorem fvp {σ : List Nat} {u v : Value} (h : u = v := by rfl) (hp : pur v = true := by rfl) : fitV σ u v := fun k w hw => by
  subst h; rw [pur_eq hw hp]; exact pur_vx hp
abbrev hexS : ByteArray := ⟨#[48, 49, 50, 51, 52, 53, 54, 55, 56, 57, 97, 98, 99, 100, 101, 102]⟩
def qb (b : Int) : List Int := if b = 34 ∨ b = 92 then [92, b] else if b < 32 ∨ 126 < b then [92, 120, byt hexS (b / 16).toNat, byt hexS (b % 16).toNat] else [b]
def QL (s : ByteArray) (i : Nat) : List Int := 34 :: ((bys s).take i).flatMap qb
def quo (s : ByteArray) : ByteArray := strOf (QL s s.size ++ [34])
theorem qb_len (b : Int) : (qb b).length <= 4 /\ 1 <= (qb b).length := by unfold qb; split <;> (try split) <;> simp
theorem flat_len (l : List Int) : (l.flatMap qb).length <= 4 * l.length := by
  induction l with
  | nil => simp
  | cons b l ih => have := qb_len b; rw [List.flatMap_cons, List.length_append, List.length_cons]; omega
theorem QL_len (s : ByteArray) (i : Nat) : (QL s i).length <= 1 + 4 * i /\ 1 <= (QL s i).length := by
  unfold QL
  have := flat_len ((bys s).take i)
  have : ((bys s).take i).length <= i := by simp; omega
  simp only [List.length_cons]; omega
theorem bys_get {s : ByteArray} {i : Nat} (h : i < s.size) : (bys s)[i]? = some (byt s i) := by
  obtain ⟨b, hb, he⟩ := byt_at h
  unfold bys
  rw [List.getElem?_map]
  have : s.data.toList[i]? = some b := by
    have h2 : s[i]? = s.data[i]? := by rw [getElem?_pos s i h, getElem?_pos s.data i h]; rfl
    rw [← hb, h2]; simp
  rw [this, ← he]; rfl
theorem QL_step {s : ByteArray} {i : Nat} (h : i < s.size) : QL s (i + 1) = QL s i ++ qb (byt s i) := by
  unfold QL
  rw [List.take_add_one, bys_get h]
  simp
theorem hex_at (n : Nat) (h : n < 16) : ∃ c, hexS[n]? = some c /\ ((c.toNat : Nat) : Int) = byt hexS n := byt_at (by show n < 16; exact h)
set_option maxRecDepth 20000 in
theorem q_quo (s : ByteArray) (hs : s.size <= 64) (w : World) : Calls Tryz.prog 165 #[.string s] w fun e W => e = .returned (.string (quo s)) /\ Mb w W := by
  refine fn_pure [.string s] Tryz.func165 rfl rfl rfl (run_ok (st mo ?_))
  repeat refine st mo ?_
  refine w_loop (fun i : Nat => ⟨⟨51, [(0, .string s), (3, .slice (some ⟨0, 0, none⟩) (QL s i).length 1), (4, .int .i64 (i : Int))]⟩, [(0 + 4096, none), (0, some ((QL s i).map by8))], 1, w⟩) (fun i => i <= s.size) (fun i => s.size - i) 0 (Nat.zero_le _) [0] ⟨rfl, ⟨fv, fsl (by rfl), fv, trivial⟩, ⟨trivial, fl rfl rfl, trivial⟩, xf, rfl, rfl⟩ ?_
  intro i hi
  have hQ := QL_len s i
  repeat refine st mo ?_
  refine ⟨fun hlt => ?_, fun hge => ?_⟩
  · repeat refine st mo ?_
    have hil : i < s.size := by omega
    obtain ⟨b, hb, hbe⟩ := byt_at hil
    have hbd := byt_bd s i
    have hst := QL_step hil
    refine ⟨i, b, rfl, hb, ?_⟩
    rw [hbe]
    generalize byt s i = c at *
    repeat refine st mo ?_
    refine ⟨fun h1 => ?_, fun h1 => ?_⟩
    · subst h1
      repeat refine st mo ?_
      refine ⟨by show _ = (QL s i).length * 1; simp, 2, [by8 92, by8 34], _, put_own rfl rfl rfl rfl rfl, by omega, _, rfl, st mo ?_⟩
      repeat refine st mo ?_
      refine ⟨_, wz (i + 1) rfl, st mo ?_⟩
      have hq : qb 34 = [92, 34] := by unfold qb; rw [if_pos (Or.inl rfl)]
      rw [hq] at hst
      exact ⟨i + 1, hil, by show s.size - (i + 1) < s.size - i; omega, [2], rfl, ⟨fv, fsl (by rw [hst]; simp), fv, trivial⟩, ⟨trivial, fl (by rw [hst, List.map_append]; rfl) (by8_pur _), trivial⟩, xf, rfl, rfl⟩
    repeat refine st mo ?_
    refine ⟨fun h2 => ?_, fun h2 => ?_⟩
    · subst h2
      repeat refine st mo ?_
      refine ⟨by show _ = (QL s i).length * 1; simp, 2, [by8 92, by8 92], _, put_own rfl rfl rfl rfl rfl, by omega, _, rfl, st mo ?_⟩
      repeat refine st mo ?_
      refine ⟨_, wz (i + 1) rfl, st mo ?_⟩
      have hq : qb 92 = [92, 92] := by unfold qb; rw [if_pos (Or.inr rfl)]
      rw [hq] at hst
      exact ⟨i + 1, hil, by show s.size - (i + 1) < s.size - i; omega, [2], rfl, ⟨fv, fsl (by rw [hst]; simp), fv, trivial⟩, ⟨trivial, fl (by rw [hst, List.map_append]; rfl) (by8_pur _), trivial⟩, xf, rfl, rfl⟩
    repeat refine st mo ?_
    have hn : ¬ (c = 34 ∨ c = 92) := fun h => h.elim h1 h2
    have hex : (c < 32 ∨ 126 < c) -> qb c = [92, 120, byt hexS (c / 16).toNat, byt hexS (c % 16).toNat] := fun h => by unfold qb; rw [if_neg hn, if_pos h]
    obtain ⟨c1, g1, e1⟩ := hex_at (c / 16).toNat (by omega)
    obtain ⟨c2, g2, e2⟩ := hex_at (c % 16).toNat (by omega)
    refine ⟨fun h3 => ?_, fun h3 => ?_⟩
    · repeat refine st mo ?_
      refine ⟨by decide, c / 16, ?_, st mo ?_⟩
      · rw [Int.tdiv_eq_ediv_of_nonneg hbd.1, IntKind.wrap_u8]; omega
      repeat refine st mo ?_
      refine ⟨(c / 16).toNat, c1, by omega, g1, st mo ?_⟩
      repeat refine st mo ?_
      refine ⟨by decide, c % 16, Int.tmod_eq_emod_of_nonneg hbd.1, st mo ?_⟩
      repeat refine st mo ?_
      refine ⟨(c % 16).toNat, c2, by omega, g2, st mo ?_⟩
      repeat refine st mo ?_
      refine ⟨by show _ = (QL s i).length * 1; simp, 4, [by8 92, by8 120, by8 c1.toNat, by8 c2.toNat], _, put_own rfl rfl rfl rfl rfl, by omega, _, rfl, st mo ?_⟩
      repeat refine st mo ?_
      refine ⟨dk, st mo ?_⟩
      repeat refine st mo ?_
      refine ⟨_, wz (i + 1) rfl, st mo ?_⟩
      rw [hex (Or.inl h3), ← e1, ← e2] at hst
      exact ⟨i + 1, hil, by show s.size - (i + 1) < s.size - i; omega, [2], rfl, ⟨fv, fsl (by rw [hst]; simp), fv, trivial⟩, ⟨trivial, fl (by rw [hst, List.map_append]; rfl) (by8_pur _), trivial⟩, xf, rfl, rfl⟩
    repeat refine st mo ?_
    refine ⟨fun h4 => ?_, fun h4 => ?_⟩
    · repeat refine st mo ?_
      refine ⟨by decide, c / 16, ?_, st mo ?_⟩
      · rw [Int.tdiv_eq_ediv_of_nonneg hbd.1, IntKind.wrap_u8]; omega
      repeat refine st mo ?_
      refine ⟨(c / 16).toNat, c1, by omega, g1, st mo ?_⟩
      repeat refine st mo ?_
      refine ⟨by decide, c % 16, Int.tmod_eq_emod_of_nonneg hbd.1, st mo ?_⟩
      repeat refine st mo ?_
      refine ⟨(c % 16).toNat, c2, by omega, g2, st mo ?_⟩
      repeat refine st mo ?_
      refine ⟨by show _ = (QL s i).length * 1; simp, 4, [by8 92, by8 120, by8 c1.toNat, by8 c2.toNat], _, put_own rfl rfl rfl rfl rfl, by omega, _, rfl, st mo ?_⟩
      repeat refine st mo ?_
      refine ⟨dk, st mo ?_⟩
      repeat refine st mo ?_
      refine ⟨_, wz (i + 1) rfl, st mo ?_⟩
      rw [hex (Or.inr h4), ← e1, ← e2] at hst
      exact ⟨i + 1, hil, by show s.size - (i + 1) < s.size - i; omega, [2], rfl, ⟨fv, fsl (by rw [hst]; simp), fv, trivial⟩, ⟨trivial, fl (by rw [hst, List.map_append]; rfl) (by8_pur _), trivial⟩, xf, rfl, rfl⟩
    · repeat refine st mo ?_
      refine ⟨by show _ = (QL s i).length * 1; simp, 1, [by8 c], _, put_own rfl rfl rfl rfl rfl, by omega, _, rfl, st mo ?_⟩
      repeat refine st mo ?_
      refine ⟨_, wz (i + 1) rfl, st mo ?_⟩
      have hq : qb c = [c] := by unfold qb; rw [if_neg hn, if_neg (by omega)]
      rw [hq] at hst
      exact ⟨i + 1, hil, by show s.size - (i + 1) < s.size - i; omega, [2], rfl, ⟨fv, fsl (by rw [hst]; simp), fv, trivial⟩, ⟨trivial, fl (by rw [hst, List.map_append]; rfl) (by8_pur _), trivial⟩, xf, rfl, rfl⟩
  · repeat refine st mo ?_
    have hi' : i = s.size := by omega
    subst hi'
    refine ⟨by show _ = (QL s s.size).length * 1; simp, 1, [by8 34], _, put_own rfl rfl rfl rfl rfl, by omega, _, rfl, st mo ?_⟩
    repeat refine st mo ?_
    refine ⟨_, fun _ => r_cvB (b := 2) (m := (QL s s.size).length + 1) (QL s s.size ++ [34]) (by simp) (by rw [List.map_append]; rfl), st mo ?_⟩
    repeat refine st mo ?_
    rfl
theorem qb_rng {c : Int} (h : 0 <= c /\ c < 256) : ∀ x ∈ qb c, 0 <= x /\ x < 256 := by
  intro x hx
  have h1 := byt_bd hexS (c / 16).toNat
  have h2 := byt_bd hexS (c % 16).toNat
  unfold qb at hx
  split at hx
  · simp at hx; rcases hx with rfl | rfl <;> omega
  · split at hx
    · simp only [List.mem_cons, List.not_mem_nil, or_false] at hx
      rcases hx with rfl | rfl | rfl | rfl <;> omega
    · simp at hx; subst hx; exact h
theorem bys_rng (s : ByteArray) : ∀ x ∈ bys s, 0 <= x /\ x < 256 := by
  intro x hx
  unfold bys at hx
  obtain ⟨b, _, rfl⟩ := List.mem_map.1 hx
  have := b.toNat_lt
  omega
theorem quo_rng (s : ByteArray) : ∀ x ∈ QL s s.size ++ [34], 0 <= x /\ x < 256 := by
  intro x hx
  rcases List.mem_append.1 hx with hx | hx
  · unfold QL at hx
    rcases List.mem_cons.1 hx with rfl | hx
    · omega
    · obtain ⟨c, hc, hx⟩ := List.mem_flatMap.1 hx
      exact qb_rng (bys_rng s c (List.mem_of_mem_take hc)) x hx
  · simp at hx; subst hx; omega
theorem quo_bcs (s : ByteArray) : bcs (quo s) = (QL s s.size ++ [34]).map by8 /\ (quo s).size = (QL s s.size ++ [34]).length := by
  refine ⟨?_, strOf_size _⟩
  rw [bcs_bys]; unfold quo; rw [bys_strOf (quo_rng s)]
theorem bys_app (a b : ByteArray) : bys (a ++ b) = bys a ++ bys b := by unfold bys; rw [ByteArray.data_append]; simp
theorem bys_ext {a : ByteArray} {i j : Nat} {x : Int} (h : x ∈ bys (a.extract i j)) : x ∈ bys a := by
  unfold bys at *
  obtain ⟨b, hb, rfl⟩ := List.mem_map.1 h
  refine List.mem_map.2 ⟨b, ?_, rfl⟩
  rw [ByteArray.data_extract, Array.toList_extract] at hb
  exact List.mem_of_mem_drop (List.mem_of_mem_take hb)
theorem bys_zrs {k : Nat} {x : Int} (h : x ∈ bys (zrs k)) : x = 48 := by
  unfold bys zrs at h
  obtain ⟨b, hb, rfl⟩ := List.mem_map.1 h
  have := List.eq_of_mem_replicate hb
  subst this; rfl
theorem decF_rng : ∀ (f : Nat) (n : Int) (_ : 0 <= n), ∀ x ∈ decF f n, 48 <= x /\ x <= 57
  | 0, _, _, x, h => by simp [decF] at h
  | f + 1, n, hn, x, h => by
    unfold decF at h
    split at h
    · simp at h; subst h; omega
    · rcases List.mem_append.1 h with h | h
      · exact decF_rng f (n / 10) (by omega) x h
      · simp at h; subst h; omega
theorem wpt_rng {n : Int} (hn : 0 <= n) (s : Nat) : ∀ x ∈ bys (wpt (strOf (decF 78 n)) s), x ≠ 63 := by
  have hd : ∀ x ∈ bys (strOf (decF 78 n)), x ≠ 63 := fun x hx => by
    rw [bys_strOf (fun y hy => by have := decF_rng 78 n hn y hy; omega)] at hx
    have := decF_rng 78 n hn x hx; omega
  intro x hx
  unfold wpt at hx
  split at hx
  · exact hd x hx
  · have hu : ∀ y ∈ bys (zrs (s + 1 - (strOf (decF 78 n)).size) ++ strOf (decF 78 n)), y ≠ 63 := fun y hy => by
      rw [bys_app] at hy
      rcases List.mem_append.1 hy with hy | hy
      · rw [bys_zrs hy]; decide
      · exact hd y hy
    unfold ptd at hx
    rw [bys_app, bys_app] at hx
    rcases List.mem_append.1 hx with hx | hx
    · rcases List.mem_append.1 hx with hx | hx
      · exact hu x (bys_ext hx)
      · have : x = 46 := by simpa [bys] using hx
        omega
    · exact hu x (bys_ext hx)
theorem dtx_ck {b : Bool} {n s : Int} (hn : 0 <= n) : dtx b n s = Qst ↔ ck b n s ≠ 0 := by
  constructor
  · intro h hc
    rw [dtx, if_pos hc] at h
    have h2 := congrArg bys h
    have hq : bys Qst = [63] := rfl
    have hw := wpt_rng hn s.toNat
    cases b with
    | false =>
      simp only [Bool.false_eq_true, if_false] at h2
      exact hw 63 (by rw [h2, hq]; simp) rfl
    | true =>
      simp only [if_true] at h2
      rw [bys_app, show bys Mns = [45] from rfl, hq] at h2
      simp at h2
  · intro h; rw [dtx, if_neg h]
def cst (v : VL) : Bool :=
  if v.k = 1 then svv v ⟨1, v.b, v.n, v.s, false, E0, 0⟩ && !v.b && decide (ck v.b v.n v.s = 0)
  else if v.k = 2 then svv v ⟨2, false, 0, 0, v.f, E0, 0⟩
  else if v.k = 3 then svv v ⟨3, false, 0, 0, false, v.t, 0⟩ && decide (v.t.size <= 64)
  else false
set_option maxRecDepth 20000 in
theorem p_dec_false (n s : Int) (hn : 0 <= n /\ n < MM) (w : World) : Calls Tryz.prog 191 #[dc false n s] w fun e W => e = .returned (.bool (decide (ck false n s = 0))) /\ Mb w W := by
  refine fn_pure [dF n s] Tryz.func191 rfl rfl rfl (run_ok (st mo ?_))
  repeat refine st mo ?_
  refine ⟨_, fun _ => r_call (t := .string (dtx false n s)) rfl rfl Tryz.func194 (fun W M E => p_dtx false n s hn W), st mo ?_⟩
  repeat refine st mo ?_
  refine ⟨fun h => ?_, fun h => ?_⟩
  · repeat refine st mo ?_
    show _ = _; rw [decide_eq_true (Classical.byContradiction fun q => h ((dtx_ck hn.1).2 q))]
  · repeat refine st mo ?_
    show _ = _; rw [decide_eq_false ((dtx_ck hn.1).1 h)]
set_option maxRecDepth 20000 in
theorem p_dec_true (n s : Int) (hn : 0 <= n /\ n < MM) (w : World) : Calls Tryz.prog 191 #[dc true n s] w fun e W => e = .returned (.bool (decide (ck true n s = 0))) /\ Mb w W := by
  refine fn_pure [dT n s] Tryz.func191 rfl rfl rfl (run_ok (st mo ?_))
  repeat refine st mo ?_
  refine ⟨_, fun _ => r_call (t := .string (dtx true n s)) rfl rfl Tryz.func194 (fun W M E => p_dtx true n s hn W), st mo ?_⟩
  repeat refine st mo ?_
  refine ⟨fun h => ?_, fun h => ?_⟩
  · repeat refine st mo ?_
    show _ = _; rw [decide_eq_true (Classical.byContradiction fun q => h ((dtx_ck hn.1).2 q))]
  · repeat refine st mo ?_
    show _ = _; rw [decide_eq_false ((dtx_ck hn.1).1 h)]
theorem p_dec {b : Bool} {n s : Int} {r : Bool} (hr : decide (ck b n s = 0) = r) (hn : 0 <= n /\ n < MM) (w : World) : Calls Tryz.prog 191 #[dc b n s] w fun e W => e = .returned (.bool r) /\ Mb w W := by
  subst hr
  cases b
  · exact p_dec_false n s hn w
  · exact p_dec_true n s hn w
def isI (n : Int) : Bool := decide (0 <= n) && decide (n <= 1073741824)
def isP (n : Int) : Bool := decide (1 <= n) && decide (n <= 5)
theorem isI_iff {n : Int} : isI n = true ↔ 0 <= n /\ n <= 1073741824 := by unfold isI; simp
theorem isP_iff {n : Int} : isP n = true ↔ 1 <= n /\ n <= 5 := by unfold isP; simp
set_option maxRecDepth 20000 in
theorem p_isI {s : Int} {r : Bool} (hr : isI s = r) (w : World) : Calls Tryz.prog 157 #[.int .i64 s] w fun e W => e = .returned (.bool r) /\ Mb w W := by
  subst hr
  refine fn_pure [.int .i64 s] Tryz.func157 rfl rfl rfl (run_ok (st mo ?_))
  repeat' (first | refine ⟨fun _ => ?_, fun _ => ?_⟩ | refine st mo ?_)
  all_goals (show _ = _; unfold isI; congr 1; simp; omega)
set_option maxRecDepth 20000 in
theorem p_isP {s : Int} {r : Bool} (hr : isP s = r) (w : World) : Calls Tryz.prog 158 #[.int .i64 s] w fun e W => e = .returned (.bool r) /\ Mb w W := by
  subst hr
  refine fn_pure [.int .i64 s] Tryz.func158 rfl rfl rfl (run_ok (st mo ?_))
  repeat' (first | refine ⟨fun _ => ?_, fun _ => ?_⟩ | refine st mo ?_)
  all_goals (show _ = _; unfold isP; congr 1; simp; omega)
set_option maxRecDepth 20000 in
theorem p_cst_FF (k n s : Int) (t : ByteArray) (e : Int) (_hn : 0 <= n /\ n < MM) (w : World) : Calls Tryz.prog 156 #[(⟨k, false, n, s, false, t, e⟩ : VL).v] w fun r W => r = .returned (.bool (cst ⟨k, false, n, s, false, t, e⟩)) /\ Mb w W := by
  refine fn_pure [.agg #[.int .i64 k, litF, .int .u64 (l0 n), .int .u64 (l1 n), .int .u64 (l2 n), .int .u64 (l3 n), .int .i64 s, litF, .string t, .int .i64 e]] Tryz.func156 rfl rfl rfl (run_ok (st mo ?_))
  repeat refine st mo ?_
  refine ⟨fun h1 => ?_, fun h1 => ?_⟩
  · subst h1
    repeat refine st mo ?_
    refine ⟨_, r_eqV ⟨1, false, n, s, false, t, e⟩ ⟨1, false, n, s, false, E0, 0⟩, fun hq => ?_, fun hq => ?_⟩
    · repeat refine st mo ?_
      first
      | (refine ⟨_, fun _ => r_call (t := .bool (decide (ck false n s = 0))) rfl rfl Tryz.func191 (fun W M E => p_dec rfl _hn W), st mo ?_⟩
         repeat refine st mo ?_
         show _ = _; rw [cst]; simp [hq])
      | (show _ = _; rw [cst]; simp)
    · repeat refine st mo ?_
      show _ = _; rw [cst]; simp [hq]
  repeat refine st mo ?_
  refine ⟨fun h2 => ?_, fun h2 => ?_⟩
  · subst h2
    repeat refine st mo ?_
    refine ⟨_, r_eqV ⟨2, false, n, s, false, t, e⟩ ⟨2, false, 0, 0, false, E0, 0⟩, fun hq => ?_, fun hq => ?_⟩
    · repeat refine st mo ?_
      show _ = _; rw [cst]; simp [hq]
    · repeat refine st mo ?_
      show _ = _; rw [cst]; simp [hq]
  repeat refine st mo ?_
  refine ⟨fun h3 => ?_, fun h3 => ?_⟩
  · subst h3
    repeat refine st mo ?_
    refine ⟨_, r_eqV ⟨3, false, n, s, false, t, e⟩ ⟨3, false, 0, 0, false, t, 0⟩, fun hq => ?_, fun hq => ?_⟩
    · repeat refine st mo ?_
      refine ⟨fun h => ?_, fun h => ?_⟩
      · repeat refine st mo ?_
        show _ = _; rw [cst]; simp [hq]; omega
      · repeat refine st mo ?_
        show _ = _; rw [cst]; simp [hq]; omega
    · repeat refine st mo ?_
      show _ = _; rw [cst]; simp [hq]
  repeat refine st mo ?_
  show _ = _; rw [cst]; simp [h1, h2, h3]
set_option maxRecDepth 20000 in
theorem p_cst_TF (k n s : Int) (t : ByteArray) (e : Int) (_hn : 0 <= n /\ n < MM) (w : World) : Calls Tryz.prog 156 #[(⟨k, true, n, s, false, t, e⟩ : VL).v] w fun r W => r = .returned (.bool (cst ⟨k, true, n, s, false, t, e⟩)) /\ Mb w W := by
  refine fn_pure [.agg #[.int .i64 k, litT, .int .u64 (l0 n), .int .u64 (l1 n), .int .u64 (l2 n), .int .u64 (l3 n), .int .i64 s, litF, .string t, .int .i64 e]] Tryz.func156 rfl rfl rfl (run_ok (st mo ?_))
  repeat refine st mo ?_
  refine ⟨fun h1 => ?_, fun h1 => ?_⟩
  · subst h1
    repeat refine st mo ?_
    refine ⟨_, r_eqV ⟨1, true, n, s, false, t, e⟩ ⟨1, true, n, s, false, E0, 0⟩, fun hq => ?_, fun hq => ?_⟩
    · repeat refine st mo ?_
      first
      | (refine ⟨_, fun _ => r_call (t := .bool (decide (ck true n s = 0))) rfl rfl Tryz.func191 (fun W M E => p_dec rfl _hn W), st mo ?_⟩
         repeat refine st mo ?_
         show _ = _; rw [cst]; simp [hq])
      | (show _ = _; rw [cst]; simp)
    · repeat refine st mo ?_
      show _ = _; rw [cst]; simp [hq]
  repeat refine st mo ?_
  refine ⟨fun h2 => ?_, fun h2 => ?_⟩
  · subst h2
    repeat refine st mo ?_
    refine ⟨_, r_eqV ⟨2, true, n, s, false, t, e⟩ ⟨2, false, 0, 0, false, E0, 0⟩, fun hq => ?_, fun hq => ?_⟩
    · repeat refine st mo ?_
      show _ = _; rw [cst]; simp [hq]
    · repeat refine st mo ?_
      show _ = _; rw [cst]; simp [hq]
  repeat refine st mo ?_
  refine ⟨fun h3 => ?_, fun h3 => ?_⟩
  · subst h3
    repeat refine st mo ?_
    refine ⟨_, r_eqV ⟨3, true, n, s, false, t, e⟩ ⟨3, false, 0, 0, false, t, 0⟩, fun hq => ?_, fun hq => ?_⟩
    · repeat refine st mo ?_
      refine ⟨fun h => ?_, fun h => ?_⟩
      · repeat refine st mo ?_
        show _ = _; rw [cst]; simp [hq]; omega
      · repeat refine st mo ?_
        show _ = _; rw [cst]; simp [hq]; omega
    · repeat refine st mo ?_
      show _ = _; rw [cst]; simp [hq]
  repeat refine st mo ?_
  show _ = _; rw [cst]; simp [h1, h2, h3]
set_option maxRecDepth 20000 in
theorem p_cst_FT (k n s : Int) (t : ByteArray) (e : Int) (_hn : 0 <= n /\ n < MM) (w : World) : Calls Tryz.prog 156 #[(⟨k, false, n, s, true, t, e⟩ : VL).v] w fun r W => r = .returned (.bool (cst ⟨k, false, n, s, true, t, e⟩)) /\ Mb w W := by
  refine fn_pure [.agg #[.int .i64 k, litF, .int .u64 (l0 n), .int .u64 (l1 n), .int .u64 (l2 n), .int .u64 (l3 n), .int .i64 s, litT, .string t, .int .i64 e]] Tryz.func156 rfl rfl rfl (run_ok (st mo ?_))
  repeat refine st mo ?_
  refine ⟨fun h1 => ?_, fun h1 => ?_⟩
  · subst h1
    repeat refine st mo ?_
    refine ⟨_, r_eqV ⟨1, false, n, s, true, t, e⟩ ⟨1, false, n, s, false, E0, 0⟩, fun hq => ?_, fun hq => ?_⟩
    · repeat refine st mo ?_
      first
      | (refine ⟨_, fun _ => r_call (t := .bool (decide (ck false n s = 0))) rfl rfl Tryz.func191 (fun W M E => p_dec rfl _hn W), st mo ?_⟩
         repeat refine st mo ?_
         show _ = _; rw [cst]; simp [hq])
      | (show _ = _; rw [cst]; simp)
    · repeat refine st mo ?_
      show _ = _; rw [cst]; simp [hq]
  repeat refine st mo ?_
  refine ⟨fun h2 => ?_, fun h2 => ?_⟩
  · subst h2
    repeat refine st mo ?_
    refine ⟨_, r_eqV ⟨2, false, n, s, true, t, e⟩ ⟨2, false, 0, 0, true, E0, 0⟩, fun hq => ?_, fun hq => ?_⟩
    · repeat refine st mo ?_
      show _ = _; rw [cst]; simp [hq]
    · repeat refine st mo ?_
      show _ = _; rw [cst]; simp [hq]
  repeat refine st mo ?_
  refine ⟨fun h3 => ?_, fun h3 => ?_⟩
  · subst h3
    repeat refine st mo ?_
    refine ⟨_, r_eqV ⟨3, false, n, s, true, t, e⟩ ⟨3, false, 0, 0, false, t, 0⟩, fun hq => ?_, fun hq => ?_⟩
    · repeat refine st mo ?_
      refine ⟨fun h => ?_, fun h => ?_⟩
      · repeat refine st mo ?_
        show _ = _; rw [cst]; simp [hq]; omega
      · repeat refine st mo ?_
        show _ = _; rw [cst]; simp [hq]; omega
    · repeat refine st mo ?_
      show _ = _; rw [cst]; simp [hq]
  repeat refine st mo ?_
  show _ = _; rw [cst]; simp [h1, h2, h3]
set_option maxRecDepth 20000 in
theorem p_cst_TT (k n s : Int) (t : ByteArray) (e : Int) (_hn : 0 <= n /\ n < MM) (w : World) : Calls Tryz.prog 156 #[(⟨k, true, n, s, true, t, e⟩ : VL).v] w fun r W => r = .returned (.bool (cst ⟨k, true, n, s, true, t, e⟩)) /\ Mb w W := by
  refine fn_pure [.agg #[.int .i64 k, litT, .int .u64 (l0 n), .int .u64 (l1 n), .int .u64 (l2 n), .int .u64 (l3 n), .int .i64 s, litT, .string t, .int .i64 e]] Tryz.func156 rfl rfl rfl (run_ok (st mo ?_))
  repeat refine st mo ?_
  refine ⟨fun h1 => ?_, fun h1 => ?_⟩
  · subst h1
    repeat refine st mo ?_
    refine ⟨_, r_eqV ⟨1, true, n, s, true, t, e⟩ ⟨1, true, n, s, false, E0, 0⟩, fun hq => ?_, fun hq => ?_⟩
    · repeat refine st mo ?_
      first
      | (refine ⟨_, fun _ => r_call (t := .bool (decide (ck true n s = 0))) rfl rfl Tryz.func191 (fun W M E => p_dec rfl _hn W), st mo ?_⟩
         repeat refine st mo ?_
         show _ = _; rw [cst]; simp [hq])
      | (show _ = _; rw [cst]; simp)
    · repeat refine st mo ?_
      show _ = _; rw [cst]; simp [hq]
  repeat refine st mo ?_
  refine ⟨fun h2 => ?_, fun h2 => ?_⟩
  · subst h2
    repeat refine st mo ?_
    refine ⟨_, r_eqV ⟨2, true, n, s, true, t, e⟩ ⟨2, false, 0, 0, true, E0, 0⟩, fun hq => ?_, fun hq => ?_⟩
    · repeat refine st mo ?_
      show _ = _; rw [cst]; simp [hq]
    · repeat refine st mo ?_
      show _ = _; rw [cst]; simp [hq]
  repeat refine st mo ?_
  refine ⟨fun h3 => ?_, fun h3 => ?_⟩
  · subst h3
    repeat refine st mo ?_
    refine ⟨_, r_eqV ⟨3, true, n, s, true, t, e⟩ ⟨3, false, 0, 0, false, t, 0⟩, fun hq => ?_, fun hq => ?_⟩
    · repeat refine st mo ?_
      refine ⟨fun h => ?_, fun h => ?_⟩
      · repeat refine st mo ?_
        show _ = _; rw [cst]; simp [hq]; omega
      · repeat refine st mo ?_
        show _ = _; rw [cst]; simp [hq]; omega
    · repeat refine st mo ?_
      show _ = _; rw [cst]; simp [hq]
  repeat refine st mo ?_
  show _ = _; rw [cst]; simp [h1, h2, h3]
set_option maxRecDepth 20000 in
theorem q_cst_FF (k n s : Int) (t : ByteArray) (e : Int) (hn : 0 <= n /\ n < MM) (w : World) : Calls Tryz.prog 91 #[(⟨k, false, n, s, false, t, e⟩ : VL).v] w fun r W => r = .returned (.bool (cst ⟨k, false, n, s, false, t, e⟩)) /\ Mb w W := by
  refine fn_pure [.agg #[.int .i64 k, litF, .int .u64 (l0 n), .int .u64 (l1 n), .int .u64 (l2 n), .int .u64 (l3 n), .int .i64 s, litF, .string t, .int .i64 e]] Tryz.func91 rfl rfl rfl (run_ok (st mo ?_))
  repeat refine st mo ?_
  refine ⟨fun h1 => ?_, fun h1 => ?_⟩
  · subst h1
    repeat refine st mo ?_
    refine ⟨_, r_eqV ⟨1, false, n, s, false, t, e⟩ ⟨1, false, n, s, false, E0, 0⟩, fun hq => ?_, fun hq => ?_⟩
    · repeat refine st mo ?_
      refine ⟨_, fun _ => r_call (t := .int .i64 (ck false n s)) rfl rfl Tryz.func152 (fun W M E => q_chk false n s hn W), st mo ?_⟩
      repeat refine st mo ?_
      refine ⟨fun hc => ?_, fun hc => ?_⟩
      · repeat refine st mo ?_
        show _ = _; rw [cst]; simp [hq, hc]
      · repeat refine st mo ?_
        show _ = _; rw [cst]; simp [hc]
    · repeat refine st mo ?_
      show _ = _; rw [cst]; simp [hq]
  repeat refine st mo ?_
  refine ⟨fun h3 => ?_, fun h3 => ?_⟩
  · subst h3
    repeat refine st mo ?_
    refine ⟨_, r_eqV ⟨3, false, n, s, false, t, e⟩ ⟨3, false, 0, 0, false, t, 0⟩, fun hq => ?_, fun hq => ?_⟩
    · repeat refine st mo ?_
      refine ⟨fun h => ?_, fun h => ?_⟩
      · repeat refine st mo ?_
        show _ = _; rw [cst]; simp [hq]; omega
      · repeat refine st mo ?_
        show _ = _; rw [cst]; simp [hq]; omega
    · repeat refine st mo ?_
      show _ = _; rw [cst]; simp [hq]
  repeat refine st mo ?_
  refine ⟨fun h2 => ?_, fun h2 => ?_⟩
  · subst h2
    repeat refine st mo ?_
    refine ⟨_, r_eqV ⟨2, false, n, s, false, t, e⟩ ⟨2, false, 0, 0, false, E0, 0⟩, fun hq => ?_, fun hq => ?_⟩
    · repeat refine st mo ?_
      show _ = _; rw [cst]; simp [hq]
    · repeat refine st mo ?_
      show _ = _; rw [cst]; simp [hq]
  repeat refine st mo ?_
  show _ = _; rw [cst]; simp [h1, h2, h3]
set_option maxRecDepth 20000 in
theorem q_cst_TF (k n s : Int) (t : ByteArray) (e : Int) (hn : 0 <= n /\ n < MM) (w : World) : Calls Tryz.prog 91 #[(⟨k, true, n, s, false, t, e⟩ : VL).v] w fun r W => r = .returned (.bool (cst ⟨k, true, n, s, false, t, e⟩)) /\ Mb w W := by
  refine fn_pure [.agg #[.int .i64 k, litT, .int .u64 (l0 n), .int .u64 (l1 n), .int .u64 (l2 n), .int .u64 (l3 n), .int .i64 s, litF, .string t, .int .i64 e]] Tryz.func91 rfl rfl rfl (run_ok (st mo ?_))
  repeat refine st mo ?_
  refine ⟨fun h1 => ?_, fun h1 => ?_⟩
  · subst h1
    repeat refine st mo ?_
    refine ⟨_, r_eqV ⟨1, true, n, s, false, t, e⟩ ⟨1, true, n, s, false, E0, 0⟩, fun hq => ?_, fun hq => ?_⟩
    · repeat refine st mo ?_
      refine ⟨_, fun _ => r_call (t := .int .i64 (ck true n s)) rfl rfl Tryz.func152 (fun W M E => q_chk true n s hn W), st mo ?_⟩
      repeat refine st mo ?_
      refine ⟨fun hc => ?_, fun hc => ?_⟩
      · repeat refine st mo ?_
        show _ = _; rw [cst]; simp [hq, hc]
      · repeat refine st mo ?_
        show _ = _; rw [cst]; simp [hc]
    · repeat refine st mo ?_
      show _ = _; rw [cst]; simp [hq]
  repeat refine st mo ?_
  refine ⟨fun h3 => ?_, fun h3 => ?_⟩
  · subst h3
    repeat refine st mo ?_
    refine ⟨_, r_eqV ⟨3, true, n, s, false, t, e⟩ ⟨3, false, 0, 0, false, t, 0⟩, fun hq => ?_, fun hq => ?_⟩
    · repeat refine st mo ?_
      refine ⟨fun h => ?_, fun h => ?_⟩
      · repeat refine st mo ?_
        show _ = _; rw [cst]; simp [hq]; omega
      · repeat refine st mo ?_
        show _ = _; rw [cst]; simp [hq]; omega
    · repeat refine st mo ?_
      show _ = _; rw [cst]; simp [hq]
  repeat refine st mo ?_
  refine ⟨fun h2 => ?_, fun h2 => ?_⟩
  · subst h2
    repeat refine st mo ?_
    refine ⟨_, r_eqV ⟨2, true, n, s, false, t, e⟩ ⟨2, false, 0, 0, false, E0, 0⟩, fun hq => ?_, fun hq => ?_⟩
    · repeat refine st mo ?_
      show _ = _; rw [cst]; simp [hq]
    · repeat refine st mo ?_
      show _ = _; rw [cst]; simp [hq]
  repeat refine st mo ?_
  show _ = _; rw [cst]; simp [h1, h2, h3]
set_option maxRecDepth 20000 in
theorem q_cst_FT (k n s : Int) (t : ByteArray) (e : Int) (hn : 0 <= n /\ n < MM) (w : World) : Calls Tryz.prog 91 #[(⟨k, false, n, s, true, t, e⟩ : VL).v] w fun r W => r = .returned (.bool (cst ⟨k, false, n, s, true, t, e⟩)) /\ Mb w W := by
  refine fn_pure [.agg #[.int .i64 k, litF, .int .u64 (l0 n), .int .u64 (l1 n), .int .u64 (l2 n), .int .u64 (l3 n), .int .i64 s, litT, .string t, .int .i64 e]] Tryz.func91 rfl rfl rfl (run_ok (st mo ?_))
  repeat refine st mo ?_
  refine ⟨fun h1 => ?_, fun h1 => ?_⟩
  · subst h1
    repeat refine st mo ?_
    refine ⟨_, r_eqV ⟨1, false, n, s, true, t, e⟩ ⟨1, false, n, s, false, E0, 0⟩, fun hq => ?_, fun hq => ?_⟩
    · repeat refine st mo ?_
      refine ⟨_, fun _ => r_call (t := .int .i64 (ck false n s)) rfl rfl Tryz.func152 (fun W M E => q_chk false n s hn W), st mo ?_⟩
      repeat refine st mo ?_
      refine ⟨fun hc => ?_, fun hc => ?_⟩
      · repeat refine st mo ?_
        show _ = _; rw [cst]; simp [hq, hc]
      · repeat refine st mo ?_
        show _ = _; rw [cst]; simp [hc]
    · repeat refine st mo ?_
      show _ = _; rw [cst]; simp [hq]
  repeat refine st mo ?_
  refine ⟨fun h3 => ?_, fun h3 => ?_⟩
  · subst h3
    repeat refine st mo ?_
    refine ⟨_, r_eqV ⟨3, false, n, s, true, t, e⟩ ⟨3, false, 0, 0, false, t, 0⟩, fun hq => ?_, fun hq => ?_⟩
    · repeat refine st mo ?_
      refine ⟨fun h => ?_, fun h => ?_⟩
      · repeat refine st mo ?_
        show _ = _; rw [cst]; simp [hq]; omega
      · repeat refine st mo ?_
        show _ = _; rw [cst]; simp [hq]; omega
    · repeat refine st mo ?_
      show _ = _; rw [cst]; simp [hq]
  repeat refine st mo ?_
  refine ⟨fun h2 => ?_, fun h2 => ?_⟩
  · subst h2
    repeat refine st mo ?_
    refine ⟨_, r_eqV ⟨2, false, n, s, true, t, e⟩ ⟨2, false, 0, 0, true, E0, 0⟩, fun hq => ?_, fun hq => ?_⟩
    · repeat refine st mo ?_
      show _ = _; rw [cst]; simp [hq]
    · repeat refine st mo ?_
      show _ = _; rw [cst]; simp [hq]
  repeat refine st mo ?_
  show _ = _; rw [cst]; simp [h1, h2, h3]
set_option maxRecDepth 20000 in
theorem q_cst_TT (k n s : Int) (t : ByteArray) (e : Int) (hn : 0 <= n /\ n < MM) (w : World) : Calls Tryz.prog 91 #[(⟨k, true, n, s, true, t, e⟩ : VL).v] w fun r W => r = .returned (.bool (cst ⟨k, true, n, s, true, t, e⟩)) /\ Mb w W := by
  refine fn_pure [.agg #[.int .i64 k, litT, .int .u64 (l0 n), .int .u64 (l1 n), .int .u64 (l2 n), .int .u64 (l3 n), .int .i64 s, litT, .string t, .int .i64 e]] Tryz.func91 rfl rfl rfl (run_ok (st mo ?_))
  repeat refine st mo ?_
  refine ⟨fun h1 => ?_, fun h1 => ?_⟩
  · subst h1
    repeat refine st mo ?_
    refine ⟨_, r_eqV ⟨1, true, n, s, true, t, e⟩ ⟨1, true, n, s, false, E0, 0⟩, fun hq => ?_, fun hq => ?_⟩
    · repeat refine st mo ?_
      refine ⟨_, fun _ => r_call (t := .int .i64 (ck true n s)) rfl rfl Tryz.func152 (fun W M E => q_chk true n s hn W), st mo ?_⟩
      repeat refine st mo ?_
      refine ⟨fun hc => ?_, fun hc => ?_⟩
      · repeat refine st mo ?_
        show _ = _; rw [cst]; simp [hq, hc]
      · repeat refine st mo ?_
        show _ = _; rw [cst]; simp [hc]
    · repeat refine st mo ?_
      show _ = _; rw [cst]; simp [hq]
  repeat refine st mo ?_
  refine ⟨fun h3 => ?_, fun h3 => ?_⟩
  · subst h3
    repeat refine st mo ?_
    refine ⟨_, r_eqV ⟨3, true, n, s, true, t, e⟩ ⟨3, false, 0, 0, false, t, 0⟩, fun hq => ?_, fun hq => ?_⟩
    · repeat refine st mo ?_
      refine ⟨fun h => ?_, fun h => ?_⟩
      · repeat refine st mo ?_
        show _ = _; rw [cst]; simp [hq]; omega
      · repeat refine st mo ?_
        show _ = _; rw [cst]; simp [hq]; omega
    · repeat refine st mo ?_
      show _ = _; rw [cst]; simp [hq]
  repeat refine st mo ?_
  refine ⟨fun h2 => ?_, fun h2 => ?_⟩
  · subst h2
    repeat refine st mo ?_
    refine ⟨_, r_eqV ⟨2, true, n, s, true, t, e⟩ ⟨2, false, 0, 0, true, E0, 0⟩, fun hq => ?_, fun hq => ?_⟩
    · repeat refine st mo ?_
      show _ = _; rw [cst]; simp [hq]
    · repeat refine st mo ?_
      show _ = _; rw [cst]; simp [hq]
  repeat refine st mo ?_
  show _ = _; rw [cst]; simp [h1, h2, h3]
theorem p_cst (v : VL) {r : Bool} (hr : cst v = r) (hv : v.ok) (w : World) : Calls Tryz.prog 156 #[v.v] w fun e W => e = .returned (.bool r) /\ Mb w W := by
  subst hr
  obtain ⟨k, b, n, s, f, t, e⟩ := v
  cases b <;> cases f
  · exact p_cst_FF k n s t e hv w
  · exact p_cst_FT k n s t e hv w
  · exact p_cst_TF k n s t e hv w
  · exact p_cst_TT k n s t e hv w
theorem q_cst (v : VL) {r : Bool} (hr : cst v = r) (hv : v.ok) (w : World) : Calls Tryz.prog 91 #[v.v] w fun e W => e = .returned (.bool r) /\ Mb w W := by
  subst hr
  obtain ⟨k, b, n, s, f, t, e⟩ := v
  cases b <;> cases f
  · exact q_cst_FF k n s t e hv w
  · exact q_cst_FT k n s t e hv w
  · exact q_cst_TF k n s t e hv w
  · exact q_cst_TT k n s t e hv w
def col (op : Int) (nm sc : ByteArray) : Bool := if op = 16 then fre sc && decide (nm = E0) else decide (12 <= op) && (decide (op <= 15) && (fre sc && fre nm))
abbrev hV (x : Ex) : Ex := ⟨x.k, 0, E0, E0, x.v, 0, 0, none, 0, []⟩
abbrev hN (x : Ex) : Ex := ⟨x.k, 0, x.nm, E0, v0, 0, 0, none, 0, []⟩
abbrev h0 (x : Ex) : Ex := ⟨x.k, 0, E0, E0, v0, 0, 0, none, 0, []⟩
abbrev hO (x : Ex) : Ex := ⟨x.k, x.op, E0, E0, v0, 0, 0, none, 0, []⟩
abbrev hR (x : Ex) : Ex := ⟨x.k, 0, E0, E0, v0, x.s, x.pl, none, 0, []⟩
abbrev hA (x : Ex) : Ex := ⟨x.k, x.op, x.nm, x.sc, v0, 0, 0, none, 0, []⟩
def nde (x : Ex) : Bool :=
  if x.k = 1 then cst x.v && (decide (x.a.length = 0) && pln x (hV x))
  else if x.k = 2 then fre x.nm && (decide (x.a.length = 0) && pln x (hN x))
  else if x.k = 3 ∨ x.k = 4 ∨ x.k = 9 then decide (x.a.length = 1) && pln x (h0 x)
  else if x.k = 5 then (decide (1 <= x.op) && decide (x.op <= 11)) && (decide (x.a.length = 2) && pln x (hO x))
  else if x.k = 6 then decide (x.a.length = 3) && pln x (h0 x)
  else if x.k = 7 then (isI x.s && isP x.pl) && (decide (x.a.length = 1) && pln x (hR x))
  else if x.k = 8 then fre x.nm && (decide (x.a.length = 1) && pln x (hN x))
  else if x.k = 10 then col x.op x.nm x.sc && (decide (x.a.length = 0) && pln x (hA x))
  else false
theorem p_fre {s : ByteArray} {r : Bool} (hr : fre s = r) (hs : s.size <= 9223372036854775806) (w : World) : Calls Tryz.prog 70 #[.string s] w fun e W => e = .returned (.bool r) /\ Mb w W := hr ▸ p_free s (by omega) w
theorem q_fre {s : ByteArray} {r : Bool} (hr : fre s = r) (hs : s.size <= 9223372036854775806) (w : World) : Calls Tryz.prog 80 #[.string s] w fun e W => e = .returned (.bool r) /\ Mb w W := hr ▸ q_free s (by omega) w
set_option maxRecDepth 20000 in
theorem p_col (x : Ex) (hx : x.ok) {r : Bool} (hr : col x.op x.nm x.sc = r) (w : World) : Calls Tryz.prog 159 #[x.w] w fun e W => e = .returned (.bool r) /\ Mb w W := by
  subst hr
  obtain ⟨_, hn, hs, _, _⟩ := hx
  refine fn_pure [x.y] Tryz.func159 rfl rfl rfl (run_ok (st mo ?_))
  repeat refine st mo ?_
  refine ⟨fun h1 => ?_, fun h1 => ?_⟩
  · repeat refine st mo ?_
    cases hf : fre x.sc with
    | false =>
      refine ⟨_, fun _ => r_call (t := litF) rfl rfl Tryz.func70 (fun W M E => p_fre hf hs W), st mo ?_⟩
      repeat refine st mo ?_
      show _ = _; simp [col, h1, hf]
    | true =>
      refine ⟨_, fun _ => r_call (t := litT) rfl rfl Tryz.func70 (fun W M E => p_fre hf hs W), st mo ?_⟩
      repeat refine st mo ?_
      refine ⟨fun h2 => ?_, fun h2 => ?_⟩
      · repeat refine st mo ?_
        show _ = _; simp [col, h1, hf, h2]
      · repeat refine st mo ?_
        show _ = _; simp [col, h1, hf, h2]
  repeat refine st mo ?_
  refine ⟨fun h2 => ?_, fun h2 => ?_⟩
  rotate_left
  · repeat refine st mo ?_
    show _ = _; simp [col, h1]; omega
  repeat refine st mo ?_
  refine ⟨fun h3 => ?_, fun h3 => ?_⟩
  rotate_left
  · repeat refine st mo ?_
    show _ = _; simp [col, h1]; omega
  repeat refine st mo ?_
  cases hf : fre x.sc with
  | false =>
    refine ⟨_, fun _ => r_call (t := litF) rfl rfl Tryz.func70 (fun W M E => p_fre hf hs W), st mo ?_⟩
    repeat refine st mo ?_
    show _ = _; simp [col, h1, hf]
  | true =>
    refine ⟨_, fun _ => r_call (t := litT) rfl rfl Tryz.func70 (fun W M E => p_fre hf hs W), st mo ?_⟩
    repeat refine st mo ?_
    cases hg : fre x.nm with
    | false =>
      refine ⟨_, fun _ => r_call (t := litF) rfl rfl Tryz.func70 (fun W M E => p_fre hg hn W), st mo ?_⟩
      repeat refine st mo ?_
      show _ = _; simp [col, h1, hg]
    | true =>
      refine ⟨_, fun _ => r_call (t := litT) rfl rfl Tryz.func70 (fun W M E => p_fre hg hn W), st mo ?_⟩
      repeat refine st mo ?_
      show _ = _; simp [col, h1, hf, hg, h2, h3]
theorem snd_H {x y : Ex} {r : Bool} (h : snd x y = r) (hk : x.k = y.k) : pln x y = r := by rw [← snd_k hk]; exact h
theorem nde1 {x : Ex} (h : x.k = 1) : nde x = (cst x.v && (decide (x.a.length = 0) && pln x (hV x))) := by simp [nde, h]
theorem nde2 {x : Ex} (h : x.k = 2) : nde x = (fre x.nm && (decide (x.a.length = 0) && pln x (hN x))) := by simp [nde, h]
theorem nde3 {x : Ex} (h : x.k = 3 ∨ x.k = 4 ∨ x.k = 9) : nde x = (decide (x.a.length = 1) && pln x (h0 x)) := by
  have : x.k ≠ 1 /\ x.k ≠ 2 := by omega
  simp [nde, h, this]
theorem nde5 {x : Ex} (h : x.k = 5) : nde x = ((decide (1 <= x.op) && decide (x.op <= 11)) && (decide (x.a.length = 2) && pln x (hO x))) := by simp [nde, h]
theorem nde6 {x : Ex} (h : x.k = 6) : nde x = (decide (x.a.length = 3) && pln x (h0 x)) := by simp [nde, h]
theorem nde7 {x : Ex} (h : x.k = 7) : nde x = ((isI x.s && isP x.pl) && (decide (x.a.length = 1) && pln x (hR x))) := by simp [nde, h]
theorem nde8 {x : Ex} (h : x.k = 8) : nde x = (fre x.nm && (decide (x.a.length = 1) && pln x (hN x))) := by simp [nde, h]
theorem nde10 {x : Ex} (h : x.k = 10) : nde x = (col x.op x.nm x.sc && (decide (x.a.length = 0) && pln x (hA x))) := by simp [nde, h]
set_option maxRecDepth 20000 in
theorem p_nde (x : Ex) (hx : x.ok) (w : World) : Calls Tryz.prog 87 #[x.w] w fun e W => e = .returned (.bool (nde x)) /\ Mb w W := by
  obtain ⟨hv, hn, hsc, _, hal⟩ := id hx
  refine fn_pure [x.y] Tryz.func87 rfl rfl rfl (run_ok (st mo ?_))
  repeat refine st mo ?_
  refine ⟨fun h1 => ?_, fun h1 => ?_⟩
  · have e1 := nde1 h1
    repeat refine st mo ?_
    cases hc : cst x.v with
    | false =>
      refine ⟨_, fun _ => r_call (t := litF) rfl rfl Tryz.func156 (fun W M E => p_cst x.v hc hv W), st mo ?_⟩
      repeat refine st mo ?_
      refine ⟨dk, st mo ?_⟩
      repeat refine st mo ?_
      show _ = _; rw [e1]; simp [hc]
    | true =>
      refine ⟨_, fun _ => r_call (t := litT) rfl rfl Tryz.func156 (fun W M E => p_cst x.v hc hv W), st mo ?_⟩
      repeat refine st mo ?_
      refine ⟨dk, st mo ?_⟩
      repeat refine st mo ?_
      refine ⟨fun hl => ?_, fun hl => ?_⟩
      rotate_left
      · repeat refine st mo ?_
        have hl' : ¬ x.a.length = 0 := by omega
        show _ = _; rw [e1]; simp [hc, hl']
      repeat refine st mo ?_
      have hl' : x.a.length = 0 := by omega
      cases hs : snd x (hV x) with
      | false =>
        refine ⟨_, fun _ => r_call (t := litF) rfl rfl Tryz.func52 (fun W M E => hs ▸ p_node x (hV x) W), st mo ?_⟩
        have hs' := snd_H hs rfl
        repeat refine st mo ?_
        show _ = _; rw [e1]; simp [hc, hl', hs']
      | true =>
        refine ⟨_, fun _ => r_call (t := litT) rfl rfl Tryz.func52 (fun W M E => hs ▸ p_node x (hV x) W), st mo ?_⟩
        have hs' := snd_H hs rfl
        repeat refine st mo ?_
        show _ = _; rw [e1]; simp [hc, hl', hs']
  repeat refine st mo ?_
  refine ⟨fun h2 => ?_, fun h2 => ?_⟩
  · have e1 := nde2 h2
    repeat refine st mo ?_
    cases hc : fre x.nm with
    | false =>
      refine ⟨_, fun _ => r_call (t := litF) rfl rfl Tryz.func70 (fun W M E => p_fre hc hn W), st mo ?_⟩
      repeat refine st mo ?_
      refine ⟨dk, st mo ?_⟩
      repeat refine st mo ?_
      show _ = _; rw [e1]; simp [hc]
    | true =>
      refine ⟨_, fun _ => r_call (t := litT) rfl rfl Tryz.func70 (fun W M E => p_fre hc hn W), st mo ?_⟩
      repeat refine st mo ?_
      refine ⟨dk, st mo ?_⟩
      repeat refine st mo ?_
      refine ⟨fun hl => ?_, fun hl => ?_⟩
      rotate_left
      · repeat refine st mo ?_
        have hl' : ¬ x.a.length = 0 := by omega
        show _ = _; rw [e1]; simp [hc, hl']
      repeat refine st mo ?_
      have hl' : x.a.length = 0 := by omega
      cases hs : snd x (hN x) with
      | false =>
        refine ⟨_, fun _ => r_call (t := litF) rfl rfl Tryz.func52 (fun W M E => hs ▸ p_node x (hN x) W), st mo ?_⟩
        have hs' := snd_H hs rfl
        repeat refine st mo ?_
        show _ = _; rw [e1]; simp [hc, hl', hs']
      | true =>
        refine ⟨_, fun _ => r_call (t := litT) rfl rfl Tryz.func52 (fun W M E => hs ▸ p_node x (hN x) W), st mo ?_⟩
        have hs' := snd_H hs rfl
        repeat refine st mo ?_
        show _ = _; rw [e1]; simp [hc, hl', hs']
  repeat refine st mo ?_
  refine ⟨fun h3 => ?_, fun h3 => ?_⟩
  · have e1 := nde3 (x := x) (by omega)
    repeat refine st mo ?_
    refine ⟨fun hl => ?_, fun hl => ?_⟩
    rotate_left
    · repeat refine st mo ?_
      have hl' : ¬ x.a.length = 1 := by omega
      show _ = _; rw [e1]; simp [hl']
    repeat refine st mo ?_
    have hl' : x.a.length = 1 := by omega
    cases hs : snd x (h0 x) with
    | false =>
      refine ⟨_, fun _ => r_call (t := litF) rfl rfl Tryz.func52 (fun W M E => hs ▸ p_node x (h0 x) W), st mo ?_⟩
      have hs' := snd_H hs rfl
      repeat refine st mo ?_
      show _ = _; rw [e1]; simp [hl', hs']
    | true =>
      refine ⟨_, fun _ => r_call (t := litT) rfl rfl Tryz.func52 (fun W M E => hs ▸ p_node x (h0 x) W), st mo ?_⟩
      have hs' := snd_H hs rfl
      repeat refine st mo ?_
      show _ = _; rw [e1]; simp [hl', hs']
  repeat refine st mo ?_
  refine ⟨fun h4 => ?_, fun h4 => ?_⟩
  · have e1 := nde3 (x := x) (by omega)
    repeat refine st mo ?_
    refine ⟨fun hl => ?_, fun hl => ?_⟩
    rotate_left
    · repeat refine st mo ?_
      have hl' : ¬ x.a.length = 1 := by omega
      show _ = _; rw [e1]; simp [hl']
    repeat refine st mo ?_
    have hl' : x.a.length = 1 := by omega
    cases hs : snd x (h0 x) with
    | false =>
      refine ⟨_, fun _ => r_call (t := litF) rfl rfl Tryz.func52 (fun W M E => hs ▸ p_node x (h0 x) W), st mo ?_⟩
      have hs' := snd_H hs rfl
      repeat refine st mo ?_
      show _ = _; rw [e1]; simp [hl', hs']
    | true =>
      refine ⟨_, fun _ => r_call (t := litT) rfl rfl Tryz.func52 (fun W M E => hs ▸ p_node x (h0 x) W), st mo ?_⟩
      have hs' := snd_H hs rfl
      repeat refine st mo ?_
      show _ = _; rw [e1]; simp [hl', hs']
  repeat refine st mo ?_
  refine ⟨fun h9 => ?_, fun h9 => ?_⟩
  · have e1 := nde3 (x := x) (by omega)
    repeat refine st mo ?_
    refine ⟨fun hl => ?_, fun hl => ?_⟩
    rotate_left
    · repeat refine st mo ?_
      have hl' : ¬ x.a.length = 1 := by omega
      show _ = _; rw [e1]; simp [hl']
    repeat refine st mo ?_
    have hl' : x.a.length = 1 := by omega
    cases hs : snd x (h0 x) with
    | false =>
      refine ⟨_, fun _ => r_call (t := litF) rfl rfl Tryz.func52 (fun W M E => hs ▸ p_node x (h0 x) W), st mo ?_⟩
      have hs' := snd_H hs rfl
      repeat refine st mo ?_
      show _ = _; rw [e1]; simp [hl', hs']
    | true =>
      refine ⟨_, fun _ => r_call (t := litT) rfl rfl Tryz.func52 (fun W M E => hs ▸ p_node x (h0 x) W), st mo ?_⟩
      have hs' := snd_H hs rfl
      repeat refine st mo ?_
      show _ = _; rw [e1]; simp [hl', hs']
  repeat refine st mo ?_
  refine ⟨fun h5 => ?_, fun h5 => ?_⟩
  · have e1 := nde5 h5
    repeat refine st mo ?_
    refine ⟨fun o1 => ?_, fun o1 => ?_⟩
    rotate_left
    · repeat refine st mo ?_
      refine ⟨dk, st mo ?_⟩
      repeat refine st mo ?_
      show _ = _; rw [e1]; simp; omega
    repeat refine st mo ?_
    refine ⟨fun o2 => ?_, fun o2 => ?_⟩
    rotate_left
    · repeat refine st mo ?_
      refine ⟨dk, st mo ?_⟩
      repeat refine st mo ?_
      show _ = _; rw [e1]; simp; omega
    repeat refine st mo ?_
    refine ⟨dk, st mo ?_⟩
    repeat refine st mo ?_
    refine ⟨fun hl => ?_, fun hl => ?_⟩
    rotate_left
    · repeat refine st mo ?_
      have hl' : ¬ x.a.length = 2 := by omega
      show _ = _; rw [e1]; simp [hl', o1, o2]
    repeat refine st mo ?_
    have hl' : x.a.length = 2 := by omega
    cases hs : snd x (hO x) with
    | false =>
      refine ⟨_, fun _ => r_call (t := litF) rfl rfl Tryz.func52 (fun W M E => hs ▸ p_node x (hO x) W), st mo ?_⟩
      have hs' := snd_H hs rfl
      repeat refine st mo ?_
      show _ = _; rw [e1]; simp [hl', o1, o2, hs']
    | true =>
      refine ⟨_, fun _ => r_call (t := litT) rfl rfl Tryz.func52 (fun W M E => hs ▸ p_node x (hO x) W), st mo ?_⟩
      have hs' := snd_H hs rfl
      repeat refine st mo ?_
      show _ = _; rw [e1]; simp [hl', o1, o2, hs']
  repeat refine st mo ?_
  refine ⟨fun h6 => ?_, fun h6 => ?_⟩
  · have e1 := nde6 h6
    repeat refine st mo ?_
    refine ⟨fun hl => ?_, fun hl => ?_⟩
    rotate_left
    · repeat refine st mo ?_
      have hl' : ¬ x.a.length = 3 := by omega
      show _ = _; rw [e1]; simp [hl']
    repeat refine st mo ?_
    have hl' : x.a.length = 3 := by omega
    cases hs : snd x (h0 x) with
    | false =>
      refine ⟨_, fun _ => r_call (t := litF) rfl rfl Tryz.func52 (fun W M E => hs ▸ p_node x (h0 x) W), st mo ?_⟩
      have hs' := snd_H hs rfl
      repeat refine st mo ?_
      show _ = _; rw [e1]; simp [hl', hs']
    | true =>
      refine ⟨_, fun _ => r_call (t := litT) rfl rfl Tryz.func52 (fun W M E => hs ▸ p_node x (h0 x) W), st mo ?_⟩
      have hs' := snd_H hs rfl
      repeat refine st mo ?_
      show _ = _; rw [e1]; simp [hl', hs']
  repeat refine st mo ?_
  refine ⟨fun h7 => ?_, fun h7 => ?_⟩
  · have e1 := nde7 h7
    repeat refine st mo ?_
    refine ⟨dk, st mo ?_⟩
    repeat refine st mo ?_
    cases hc : isI x.s with
    | false =>
      refine ⟨_, fun _ => r_call (t := litF) rfl rfl Tryz.func157 (fun W M E => p_isI hc W), st mo ?_⟩
      repeat refine st mo ?_
      show _ = _; rw [e1]; simp [hc]
    | true =>
      refine ⟨_, fun _ => r_call (t := litT) rfl rfl Tryz.func157 (fun W M E => p_isI hc W), st mo ?_⟩
      repeat refine st mo ?_
      cases hd : isP x.pl with
      | false =>
        refine ⟨_, fun _ => r_call (t := litF) rfl rfl Tryz.func158 (fun W M E => p_isP hd W), st mo ?_⟩
        repeat refine st mo ?_
        show _ = _; rw [e1]; simp [hd]
      | true =>
      refine ⟨_, fun _ => r_call (t := litT) rfl rfl Tryz.func158 (fun W M E => p_isP hd W), st mo ?_⟩
      repeat refine st mo ?_
      refine ⟨fun hl => ?_, fun hl => ?_⟩
      rotate_left
      · repeat refine st mo ?_
        have hl' : ¬ x.a.length = 1 := by omega
        show _ = _; rw [e1]; simp [hc, hd, hl']
      repeat refine st mo ?_
      have hl' : x.a.length = 1 := by omega
      cases hs : snd x (hR x) with
      | false =>
        refine ⟨_, fun _ => r_call (t := litF) rfl rfl Tryz.func52 (fun W M E => hs ▸ p_node x (hR x) W), st mo ?_⟩
        have hs' := snd_H hs rfl
        repeat refine st mo ?_
        show _ = _; rw [e1]; simp [hc, hd, hl', hs']
      | true =>
        refine ⟨_, fun _ => r_call (t := litT) rfl rfl Tryz.func52 (fun W M E => hs ▸ p_node x (hR x) W), st mo ?_⟩
        have hs' := snd_H hs rfl
        repeat refine st mo ?_
        show _ = _; rw [e1]; simp [hc, hd, hl', hs']
  repeat refine st mo ?_
  refine ⟨fun h8 => ?_, fun h8 => ?_⟩
  · have e1 := nde8 h8
    repeat refine st mo ?_
    cases hc : fre x.nm with
    | false =>
      refine ⟨_, fun _ => r_call (t := litF) rfl rfl Tryz.func70 (fun W M E => p_fre hc hn W), st mo ?_⟩
      repeat refine st mo ?_
      refine ⟨dk, st mo ?_⟩
      repeat refine st mo ?_
      show _ = _; rw [e1]; simp [hc]
    | true =>
      refine ⟨_, fun _ => r_call (t := litT) rfl rfl Tryz.func70 (fun W M E => p_fre hc hn W), st mo ?_⟩
      repeat refine st mo ?_
      refine ⟨dk, st mo ?_⟩
      repeat refine st mo ?_
      refine ⟨fun hl => ?_, fun hl => ?_⟩
      rotate_left
      · repeat refine st mo ?_
        have hl' : ¬ x.a.length = 1 := by omega
        show _ = _; rw [e1]; simp [hc, hl']
      repeat refine st mo ?_
      have hl' : x.a.length = 1 := by omega
      cases hs : snd x (hN x) with
      | false =>
        refine ⟨_, fun _ => r_call (t := litF) rfl rfl Tryz.func52 (fun W M E => hs ▸ p_node x (hN x) W), st mo ?_⟩
        have hs' := snd_H hs rfl
        repeat refine st mo ?_
        show _ = _; rw [e1]; simp [hc, hl', hs']
      | true =>
        refine ⟨_, fun _ => r_call (t := litT) rfl rfl Tryz.func52 (fun W M E => hs ▸ p_node x (hN x) W), st mo ?_⟩
        have hs' := snd_H hs rfl
        repeat refine st mo ?_
        show _ = _; rw [e1]; simp [hc, hl', hs']
  repeat refine st mo ?_
  refine ⟨fun h10 => ?_, fun h10 => ?_⟩
  · have e1 := nde10 h10
    repeat refine st mo ?_
    cases hc : col x.op x.nm x.sc with
    | false =>
      refine ⟨_, fun _ => r_call (t := litF) rfl rfl Tryz.func159 (fun W M E => p_col x hx hc W), st mo ?_⟩
      repeat refine st mo ?_
      refine ⟨dk, st mo ?_⟩
      repeat refine st mo ?_
      show _ = _; rw [e1]; simp [hc]
    | true =>
      refine ⟨_, fun _ => r_call (t := litT) rfl rfl Tryz.func159 (fun W M E => p_col x hx hc W), st mo ?_⟩
      repeat refine st mo ?_
      refine ⟨dk, st mo ?_⟩
      repeat refine st mo ?_
      refine ⟨fun hl => ?_, fun hl => ?_⟩
      rotate_left
      · repeat refine st mo ?_
        have hl' : ¬ x.a.length = 0 := by omega
        show _ = _; rw [e1]; simp [hc, hl']
      repeat refine st mo ?_
      have hl' : x.a.length = 0 := by omega
      cases hs : snd x (hA x) with
      | false =>
        refine ⟨_, fun _ => r_call (t := litF) rfl rfl Tryz.func52 (fun W M E => hs ▸ p_node x (hA x) W), st mo ?_⟩
        have hs' := snd_H hs rfl
        repeat refine st mo ?_
        show _ = _; rw [e1]; simp [hc, hl', hs']
      | true =>
        refine ⟨_, fun _ => r_call (t := litT) rfl rfl Tryz.func52 (fun W M E => hs ▸ p_node x (hA x) W), st mo ?_⟩
        have hs' := snd_H hs rfl
        repeat refine st mo ?_
        show _ = _; rw [e1]; simp [hc, hl', hs']
  repeat refine st mo ?_
  show _ = _; simp [nde, h1, h2, h3, h4, h5, h6, h7, h8, h9, h10]
def vE : Nat -> Ex -> Bool
  | 0, x => nde x
  | d + 1, x => nde x && x.a.all (vE d)
theorem all_take {g : Ex -> Bool} {l : List Ex} {i : Nat} {y : Ex} (h : l[i]? = some y) : (l.take (i + 1)).all g = ((l.take i).all g && g y) := by
  rw [List.take_add_one, h, List.all_append]; simp
def Each (f : FuncId) (w : World) (p : Option Addr) (l : List Ex) (g : Ex -> Bool) : Prop := ∀ i y, l[i]? = some y -> (∃ b o, p = some ⟨b, o, none⟩ /\ Lies w b (o + i * 17) y.c) /\ ∀ W, (∀ a u, w.cell? a = some u -> W.cell? a = some u) -> Calls Tryz.prog f #[y.w] W fun e W' => e = .returned (.bool (g y)) /\ Mb W W'
theorem Each.mono {f : FuncId} {w w' : World} {p : Option Addr} {l : List Ex} {g : Ex -> Bool} (h : Each f w p l g) (E : ∀ a u, w.cell? a = some u -> w'.cell? a = some u) : Each f w' p l g := fun i y hy => by
  obtain ⟨⟨b, o, h1, h2⟩, h3⟩ := h i y hy
  exact ⟨⟨b, o, h1, fun j u hj => E _ _ (h2 j u hj)⟩, fun W E' => h3 W fun a u hu => E' a u (E a u hu)⟩
abbrev fnv (f : Nat) : Value := .func (.func f) #[] #[]
set_option maxRecDepth 20000 in
theorem p_all (p : Option Addr) (cl : Nat) (l : List Ex) (g : Ex -> Bool) (hl : l.length <= 9223372036854775806) {r : Value} (hr : (r = litT /\ l.all g = true) ∨ (r = litF /\ l.all g = false)) (X : World) (hE : Each 35 X p l g) : Ctr Tryz.prog X 88 [raw (.slice p l.length cl), fnv 35] [] 0 0 r [] 0 := by
  refine fn_c _ Tryz.func88 rfl rfl rfl rfl (fun w ll tw X' hX => run_ok (st mo ?_))
  have hE' := hE.mono (xce hX)
  repeat refine st mo ?_
  refine w_loop (fun i : Nat => ⟨⟨18, [(1, fnv 35), (7, raw (.slice p l.length cl)), (8, .int .i64 (l.length : Int)), (9, .int .i64 (i : Int))]⟩, [], 0, X'⟩) (fun i => i <= l.length /\ (l.take i).all g = true) (fun i => l.length - i) 0 ⟨Nat.zero_le _, rfl⟩ [] ⟨rfl, ⟨by exact ff (l := []) (m := []) rfl, fv, fv, fv, trivial⟩, trivial, xf, rfl, rfl⟩ ?_
  intro i hi
  repeat refine st mo ?_
  refine ⟨fun hlt => ?_, fun hge => ?_⟩
  · have hil : i < l.length := by omega
    obtain ⟨y, hy⟩ : ∃ y, l[i]? = some y := ⟨_, List.getElem?_eq_getElem hil⟩
    obtain ⟨⟨b, o, h4, h5⟩, h6⟩ := hE' i y hy
    have hst := all_take (g := g) hy
    repeat refine st mo ?_
    refine ⟨b, o, i, h4, rfl, hil, ?_⟩
    repeat refine st mo ?_
    refine ⟨y.c, rfl, h5, ?_⟩
    repeat refine st mo ?_
    cases hg : g y with
    | false =>
      refine ⟨_, fun _ => r_callF (t := litF) rfl rfl Tryz.func35 (fun W M E => hg ▸ h6 W E), st mo ?_⟩
      repeat refine st mo ?_
      rcases hr with ⟨rfl, hr⟩ | ⟨rfl, _⟩
      · have := List.all_eq_true.1 hr y (List.mem_of_getElem? hy)
        rw [hg] at this; cases this
      · exact ⟨rfl, [], fv, trivial, rfl, rfl⟩
    | true =>
      refine ⟨_, fun _ => r_callF (t := litT) rfl rfl Tryz.func35 (fun W M E => hg ▸ h6 W E), st mo ?_⟩
      repeat refine st mo ?_
      refine ⟨_, wz (i + 1) rfl, st mo ?_⟩
      exact ⟨i + 1, ⟨hil, by rw [hst, hi.2, hg]; rfl⟩, by show l.length - (i + 1) < l.length - i; omega, [], rfl, ⟨by exact ff (l := []) (m := []) rfl, fv, fv, fv, trivial⟩, trivial, xf, rfl, rfl⟩
  · repeat refine st mo ?_
    have : i = l.length := by omega
    subst this
    rw [List.take_length] at hi
    rcases hr with ⟨rfl, _⟩ | ⟨rfl, hr⟩
    · exact ⟨rfl, [], fv, trivial, rfl, rfl⟩
    · rw [hi.2] at hr; cases hr
theorem LT.each {f : FuncId} {w : World} {d : Nat} {x : Ex} {g : Ex -> Bool} (hL : LT w (d + 1) x) (h : ∀ y, ∀ W, LT W d y -> Calls Tryz.prog f #[y.w] W fun e W' => e = .returned (.bool (g y)) /\ Mb W W') : Each f w x.p x.a g := fun i y hy => by
  obtain ⟨h1, h2⟩ := hL.2 i y hy
  exact ⟨h1, fun W E => h y W (h2.mono E)⟩
theorem Each.none {f : FuncId} {w : World} {p : Option Addr} {g : Ex -> Bool} : Each f w p [] g := fun i y hy => by cases hy
set_option maxRecDepth 20000 in
theorem p_exp1 (x : Ex) (hx : x.ok) (g : Ex -> Bool) (w : World) (hE : Each 35 w x.p x.a g) : Calls Tryz.prog 35 #[x.w] w fun e W => e = .returned (.bool (nde x && x.a.all g)) /\ Mb w W := by
  have hal := hx.2.2.2.2
  refine fn_pure [x.y] Tryz.func35 rfl rfl rfl (run_ok (st mo ?_))
  repeat refine st mo ?_
  cases hn : nde x with
  | false =>
    refine ⟨_, fun _ => r_call (t := litF) rfl rfl Tryz.func87 (fun W M E => hn ▸ p_nde x hx W), st mo ?_⟩
    repeat refine st mo ?_
    rfl
  | true =>
    refine ⟨_, fun _ => r_call (t := litT) rfl rfl Tryz.func87 (fun W M E => hn ▸ p_nde x hx W), st mo ?_⟩
    repeat refine st mo ?_
    cases ha : x.a.all g with
    | false =>
      refine ⟨_, fun _ => r_c (tc := litF) [] [] [] rfl rfl (p_all x.p x.cl x.a g hal (Or.inr ⟨rfl, ha⟩) w hE) (by exact fitL_cons fv (fitL_cons (ff (l := []) (m := []) (by rfl)) (by rfl))) trivial uv trivial, st mo ?_⟩
      repeat refine st mo ?_
      rfl
    | true =>
      refine ⟨_, fun _ => r_c (tc := litT) [] [] [] rfl rfl (p_all x.p x.cl x.a g hal (Or.inl ⟨rfl, ha⟩) w hE) (by exact fitL_cons fv (fitL_cons (ff (l := []) (m := []) (by rfl)) (by rfl))) trivial uv trivial, st mo ?_⟩
      repeat refine st mo ?_
      rfl
theorem p_exp : ∀ (d : Nat) (x : Ex) (w : World), LT w d x -> Calls Tryz.prog 35 #[x.w] w fun e W => e = .returned (.bool (vE d x)) /\ Mb w W
  | 0, x, w, h => by
    have := p_exp1 x h.1 (fun _ => true) w (by rw [h.2]; exact Each.none)
    rw [show (nde x && x.a.all fun _ => true) = vE 0 x by rw [h.2]; simp [vE]] at this
    exact this
  | d + 1, x, w, h => p_exp1 x h.1 (vE d) w (h.each fun y W hL => p_exp d y W hL)
set_option maxHeartbeats 4000000 in
set_option maxRecDepth 20000 in
theorem q_exp1 (x : Ex) (hx : x.ok) (g : Ex -> Bool) (w : World) (hE : Each 37 w x.p x.a g) : Calls Tryz.prog 37 #[x.w] w fun e W => e = .returned (.bool (nde x && x.a.all g)) /\ Mb w W := by
  obtain ⟨hv, hn, hsc, _, hal⟩ := id hx
  refine fn_pure [x.y] Tryz.func37 rfl rfl rfl (run_ok (st mo ?_))
  repeat refine st mo ?_
  refine ⟨fun h1 => ?_, fun h1 => ?_⟩
  · have e1 := nde1 h1
    repeat refine st mo ?_
    cases hc : cst x.v with
    | false =>
      refine ⟨_, fun _ => r_call (t := litF) rfl rfl Tryz.func91 (fun W M E => q_cst x.v hc hv W), st mo ?_⟩
      repeat refine st mo ?_
      show _ = _; rw [e1]; simp [hc]
    | true =>
      refine ⟨_, fun _ => r_call (t := litT) rfl rfl Tryz.func91 (fun W M E => q_cst x.v hc hv W), st mo ?_⟩
      repeat refine st mo ?_
      cases hs : pln x (⟨0, 0, E0, E0, x.v, 0, 0, none, 0, []⟩) with
      | false =>
        refine ⟨_, fun _ => r_call (t := litF) rfl rfl Tryz.func29 (fun W M E => hs ▸ q_plain x (⟨0, 0, E0, E0, x.v, 0, 0, none, 0, []⟩) W), st mo ?_⟩
        have hs' : pln x (hV x) = false := hs
        repeat refine st mo ?_
        show _ = _; rw [e1]; simp [hs']
      | true =>
        refine ⟨_, fun _ => r_call (t := litT) rfl rfl Tryz.func29 (fun W M E => hs ▸ q_plain x (⟨0, 0, E0, E0, x.v, 0, 0, none, 0, []⟩) W), st mo ?_⟩
        have hs' : pln x (hV x) = true := hs
        repeat refine st mo ?_
        refine ⟨fun hl => ?_, fun hl => ?_⟩
        · repeat refine st mo ?_
          have hl' : ¬ x.a.length = 0 := by omega
          show _ = _; rw [e1]; simp [hl']
        have hl' : x.a.length = 0 := by omega
        have hn : nde x = true := by rw [e1]; simp [hc, hl', hs']
        repeat refine st mo ?_
        refine w_loop (fun i : Nat => ⟨⟨145, [(1, .pointer (some ⟨0, 0, none⟩)), (3, .int .i64 0), (6, .int .i64 (i : Int))]⟩, [(0, some (x.c.map rel1))], 1, w⟩) (fun i => i <= 0 /\ (x.a.take i).all g = true) (fun i => 0 - i) 0 ⟨Nat.zero_le _, rfl⟩ [0] ⟨rfl, ⟨fp, fv, fv, trivial⟩, ⟨flr rfl, trivial⟩, xf, rfl, rfl⟩ ?_
        intro i hi
        repeat refine st mo ?_
        refine ⟨fun hlt => ?_, fun hge => ?_⟩
        · have hil : i < x.a.length := by omega
          obtain ⟨y, hy⟩ : ∃ y, x.a[i]? = some y := ⟨_, List.getElem?_eq_getElem hil⟩
          obtain ⟨⟨b, o, h4, h5⟩, h6⟩ := hE i y hy
          have hst := all_take (g := g) hy
          repeat refine st mo ?_
          refine ⟨b, o, i, h4, rfl, hil, ?_⟩
          repeat refine st mo ?_
          refine ⟨y.c, rfl, h5, ?_⟩
          repeat refine st mo ?_
          cases hg : g y with
          | false =>
            refine ⟨_, fun _ => r_call (t := litF) rfl rfl Tryz.func37 (fun W M E => hg ▸ h6 W E), st mo ?_⟩
            repeat refine st mo ?_
            show _ = _
            rw [show x.a.all g = false from Bool.eq_false_iff.2 fun h => by have := List.all_eq_true.1 h y (List.mem_of_getElem? hy); rw [hg] at this; cases this]
            simp
          | true =>
            refine ⟨_, fun _ => r_call (t := litT) rfl rfl Tryz.func37 (fun W M E => hg ▸ h6 W E), st mo ?_⟩
            repeat refine st mo ?_
            refine ⟨_, wz (i + 1) rfl, st mo ?_⟩
            exact ⟨i + 1, ⟨by omega, by rw [hst, hi.2, hg]; rfl⟩, by show 0 - (i + 1) < 0 - i; omega, [0], rfl, ⟨fp, fv, fv, trivial⟩, ⟨flr rfl, trivial⟩, xf, rfl, rfl⟩
        · repeat refine st mo ?_
          have : i = x.a.length := by omega
          subst this
          rw [List.take_length] at hi
          show _ = _
          rw [hn, hi.2]; rfl
  repeat refine st mo ?_
  refine ⟨fun h2 => ?_, fun h2 => ?_⟩
  · have e1 := nde2 h2
    repeat refine st mo ?_
    cases hc : fre x.nm with
    | false =>
      refine ⟨_, fun _ => r_call (t := litF) rfl rfl Tryz.func80 (fun W M E => q_fre hc hn W), st mo ?_⟩
      repeat refine st mo ?_
      show _ = _; rw [e1]; simp [hc]
    | true =>
      refine ⟨_, fun _ => r_call (t := litT) rfl rfl Tryz.func80 (fun W M E => q_fre hc hn W), st mo ?_⟩
      repeat refine st mo ?_
      cases hs : pln x (⟨0, 0, x.nm, E0, v0, 0, 0, none, 0, []⟩) with
      | false =>
        refine ⟨_, fun _ => r_call (t := litF) rfl rfl Tryz.func29 (fun W M E => hs ▸ q_plain x (⟨0, 0, x.nm, E0, v0, 0, 0, none, 0, []⟩) W), st mo ?_⟩
        have hs' : pln x (hN x) = false := hs
        repeat refine st mo ?_
        show _ = _; rw [e1]; simp [hs']
      | true =>
        refine ⟨_, fun _ => r_call (t := litT) rfl rfl Tryz.func29 (fun W M E => hs ▸ q_plain x (⟨0, 0, x.nm, E0, v0, 0, 0, none, 0, []⟩) W), st mo ?_⟩
        have hs' : pln x (hN x) = true := hs
        repeat refine st mo ?_
        refine ⟨fun hl => ?_, fun hl => ?_⟩
        · repeat refine st mo ?_
          have hl' : ¬ x.a.length = 0 := by omega
          show _ = _; rw [e1]; simp [hl']
        have hl' : x.a.length = 0 := by omega
        have hn : nde x = true := by rw [e1]; simp [hc, hl', hs']
        repeat refine st mo ?_
        refine w_loop (fun i : Nat => ⟨⟨145, [(1, .pointer (some ⟨0, 0, none⟩)), (3, .int .i64 0), (6, .int .i64 (i : Int))]⟩, [(0, some (x.c.map rel1))], 1, w⟩) (fun i => i <= 0 /\ (x.a.take i).all g = true) (fun i => 0 - i) 0 ⟨Nat.zero_le _, rfl⟩ [0] ⟨rfl, ⟨fp, fv, fv, trivial⟩, ⟨flr rfl, trivial⟩, xf, rfl, rfl⟩ ?_
        intro i hi
        repeat refine st mo ?_
        refine ⟨fun hlt => ?_, fun hge => ?_⟩
        · have hil : i < x.a.length := by omega
          obtain ⟨y, hy⟩ : ∃ y, x.a[i]? = some y := ⟨_, List.getElem?_eq_getElem hil⟩
          obtain ⟨⟨b, o, h4, h5⟩, h6⟩ := hE i y hy
          have hst := all_take (g := g) hy
          repeat refine st mo ?_
          refine ⟨b, o, i, h4, rfl, hil, ?_⟩
          repeat refine st mo ?_
          refine ⟨y.c, rfl, h5, ?_⟩
          repeat refine st mo ?_
          cases hg : g y with
          | false =>
            refine ⟨_, fun _ => r_call (t := litF) rfl rfl Tryz.func37 (fun W M E => hg ▸ h6 W E), st mo ?_⟩
            repeat refine st mo ?_
            show _ = _
            rw [show x.a.all g = false from Bool.eq_false_iff.2 fun h => by have := List.all_eq_true.1 h y (List.mem_of_getElem? hy); rw [hg] at this; cases this]
            simp
          | true =>
            refine ⟨_, fun _ => r_call (t := litT) rfl rfl Tryz.func37 (fun W M E => hg ▸ h6 W E), st mo ?_⟩
            repeat refine st mo ?_
            refine ⟨_, wz (i + 1) rfl, st mo ?_⟩
            exact ⟨i + 1, ⟨by omega, by rw [hst, hi.2, hg]; rfl⟩, by show 0 - (i + 1) < 0 - i; omega, [0], rfl, ⟨fp, fv, fv, trivial⟩, ⟨flr rfl, trivial⟩, xf, rfl, rfl⟩
        · repeat refine st mo ?_
          have : i = x.a.length := by omega
          subst this
          rw [List.take_length] at hi
          show _ = _
          rw [hn, hi.2]; rfl
  repeat refine st mo ?_
  refine ⟨fun h3 => ?_, fun h3 => ?_⟩
  · have e1 := nde3 (x := x) (by omega)
    repeat refine st mo ?_
    cases hs : pln x (⟨0, 0, E0, E0, v0, 0, 0, none, 0, []⟩) with
    | false =>
      refine ⟨_, fun _ => r_call (t := litF) rfl rfl Tryz.func29 (fun W M E => hs ▸ q_plain x (⟨0, 0, E0, E0, v0, 0, 0, none, 0, []⟩) W), st mo ?_⟩
      have hs' : pln x (h0 x) = false := hs
      repeat refine st mo ?_
      show _ = _; rw [e1]; simp [hs']
    | true =>
      refine ⟨_, fun _ => r_call (t := litT) rfl rfl Tryz.func29 (fun W M E => hs ▸ q_plain x (⟨0, 0, E0, E0, v0, 0, 0, none, 0, []⟩) W), st mo ?_⟩
      have hs' : pln x (h0 x) = true := hs
      repeat refine st mo ?_
      refine ⟨fun hl => ?_, fun hl => ?_⟩
      · repeat refine st mo ?_
        have hl' : ¬ x.a.length = 1 := by omega
        show _ = _; rw [e1]; simp [hl']
      have hl' : x.a.length = 1 := by omega
      have hn : nde x = true := by rw [e1]; simp [hl', hs']
      repeat refine st mo ?_
      refine w_loop (fun i : Nat => ⟨⟨145, [(1, .pointer (some ⟨0, 0, none⟩)), (3, .int .i64 1), (6, .int .i64 (i : Int))]⟩, [(0, some (x.c.map rel1))], 1, w⟩) (fun i => i <= 1 /\ (x.a.take i).all g = true) (fun i => 1 - i) 0 ⟨Nat.zero_le _, rfl⟩ [0] ⟨rfl, ⟨fp, fv, fv, trivial⟩, ⟨flr rfl, trivial⟩, xf, rfl, rfl⟩ ?_
      intro i hi
      repeat refine st mo ?_
      refine ⟨fun hlt => ?_, fun hge => ?_⟩
      · have hil : i < x.a.length := by omega
        obtain ⟨y, hy⟩ : ∃ y, x.a[i]? = some y := ⟨_, List.getElem?_eq_getElem hil⟩
        obtain ⟨⟨b, o, h4, h5⟩, h6⟩ := hE i y hy
        have hst := all_take (g := g) hy
        repeat refine st mo ?_
        refine ⟨b, o, i, h4, rfl, hil, ?_⟩
        repeat refine st mo ?_
        refine ⟨y.c, rfl, h5, ?_⟩
        repeat refine st mo ?_
        cases hg : g y with
        | false =>
          refine ⟨_, fun _ => r_call (t := litF) rfl rfl Tryz.func37 (fun W M E => hg ▸ h6 W E), st mo ?_⟩
          repeat refine st mo ?_
          show _ = _
          rw [show x.a.all g = false from Bool.eq_false_iff.2 fun h => by have := List.all_eq_true.1 h y (List.mem_of_getElem? hy); rw [hg] at this; cases this]
          simp
        | true =>
          refine ⟨_, fun _ => r_call (t := litT) rfl rfl Tryz.func37 (fun W M E => hg ▸ h6 W E), st mo ?_⟩
          repeat refine st mo ?_
          refine ⟨_, wz (i + 1) rfl, st mo ?_⟩
          exact ⟨i + 1, ⟨by omega, by rw [hst, hi.2, hg]; rfl⟩, by show 1 - (i + 1) < 1 - i; omega, [0], rfl, ⟨fp, fv, fv, trivial⟩, ⟨flr rfl, trivial⟩, xf, rfl, rfl⟩
      · repeat refine st mo ?_
        have : i = x.a.length := by omega
        subst this
        rw [List.take_length] at hi
        show _ = _
        rw [hn, hi.2]; rfl
  repeat refine st mo ?_
  refine ⟨fun h4 => ?_, fun h4 => ?_⟩
  · have e1 := nde3 (x := x) (by omega)
    repeat refine st mo ?_
    cases hs : pln x (⟨0, 0, E0, E0, v0, 0, 0, none, 0, []⟩) with
    | false =>
      refine ⟨_, fun _ => r_call (t := litF) rfl rfl Tryz.func29 (fun W M E => hs ▸ q_plain x (⟨0, 0, E0, E0, v0, 0, 0, none, 0, []⟩) W), st mo ?_⟩
      have hs' : pln x (h0 x) = false := hs
      repeat refine st mo ?_
      show _ = _; rw [e1]; simp [hs']
    | true =>
      refine ⟨_, fun _ => r_call (t := litT) rfl rfl Tryz.func29 (fun W M E => hs ▸ q_plain x (⟨0, 0, E0, E0, v0, 0, 0, none, 0, []⟩) W), st mo ?_⟩
      have hs' : pln x (h0 x) = true := hs
      repeat refine st mo ?_
      refine ⟨fun hl => ?_, fun hl => ?_⟩
      · repeat refine st mo ?_
        have hl' : ¬ x.a.length = 1 := by omega
        show _ = _; rw [e1]; simp [hl']
      have hl' : x.a.length = 1 := by omega
      have hn : nde x = true := by rw [e1]; simp [hl', hs']
      repeat refine st mo ?_
      refine w_loop (fun i : Nat => ⟨⟨145, [(1, .pointer (some ⟨0, 0, none⟩)), (3, .int .i64 1), (6, .int .i64 (i : Int))]⟩, [(0, some (x.c.map rel1))], 1, w⟩) (fun i => i <= 1 /\ (x.a.take i).all g = true) (fun i => 1 - i) 0 ⟨Nat.zero_le _, rfl⟩ [0] ⟨rfl, ⟨fp, fv, fv, trivial⟩, ⟨flr rfl, trivial⟩, xf, rfl, rfl⟩ ?_
      intro i hi
      repeat refine st mo ?_
      refine ⟨fun hlt => ?_, fun hge => ?_⟩
      · have hil : i < x.a.length := by omega
        obtain ⟨y, hy⟩ : ∃ y, x.a[i]? = some y := ⟨_, List.getElem?_eq_getElem hil⟩
        obtain ⟨⟨b, o, h4, h5⟩, h6⟩ := hE i y hy
        have hst := all_take (g := g) hy
        repeat refine st mo ?_
        refine ⟨b, o, i, h4, rfl, hil, ?_⟩
        repeat refine st mo ?_
        refine ⟨y.c, rfl, h5, ?_⟩
        repeat refine st mo ?_
        cases hg : g y with
        | false =>
          refine ⟨_, fun _ => r_call (t := litF) rfl rfl Tryz.func37 (fun W M E => hg ▸ h6 W E), st mo ?_⟩
          repeat refine st mo ?_
          show _ = _
          rw [show x.a.all g = false from Bool.eq_false_iff.2 fun h => by have := List.all_eq_true.1 h y (List.mem_of_getElem? hy); rw [hg] at this; cases this]
          simp
        | true =>
          refine ⟨_, fun _ => r_call (t := litT) rfl rfl Tryz.func37 (fun W M E => hg ▸ h6 W E), st mo ?_⟩
          repeat refine st mo ?_
          refine ⟨_, wz (i + 1) rfl, st mo ?_⟩
          exact ⟨i + 1, ⟨by omega, by rw [hst, hi.2, hg]; rfl⟩, by show 1 - (i + 1) < 1 - i; omega, [0], rfl, ⟨fp, fv, fv, trivial⟩, ⟨flr rfl, trivial⟩, xf, rfl, rfl⟩
      · repeat refine st mo ?_
        have : i = x.a.length := by omega
        subst this
        rw [List.take_length] at hi
        show _ = _
        rw [hn, hi.2]; rfl
  repeat refine st mo ?_
  refine ⟨fun h9 => ?_, fun h9 => ?_⟩
  · have e1 := nde3 (x := x) (by omega)
    repeat refine st mo ?_
    cases hs : pln x (⟨0, 0, E0, E0, v0, 0, 0, none, 0, []⟩) with
    | false =>
      refine ⟨_, fun _ => r_call (t := litF) rfl rfl Tryz.func29 (fun W M E => hs ▸ q_plain x (⟨0, 0, E0, E0, v0, 0, 0, none, 0, []⟩) W), st mo ?_⟩
      have hs' : pln x (h0 x) = false := hs
      repeat refine st mo ?_
      show _ = _; rw [e1]; simp [hs']
    | true =>
      refine ⟨_, fun _ => r_call (t := litT) rfl rfl Tryz.func29 (fun W M E => hs ▸ q_plain x (⟨0, 0, E0, E0, v0, 0, 0, none, 0, []⟩) W), st mo ?_⟩
      have hs' : pln x (h0 x) = true := hs
      repeat refine st mo ?_
      refine ⟨fun hl => ?_, fun hl => ?_⟩
      · repeat refine st mo ?_
        have hl' : ¬ x.a.length = 1 := by omega
        show _ = _; rw [e1]; simp [hl']
      have hl' : x.a.length = 1 := by omega
      have hn : nde x = true := by rw [e1]; simp [hl', hs']
      repeat refine st mo ?_
      refine w_loop (fun i : Nat => ⟨⟨145, [(1, .pointer (some ⟨0, 0, none⟩)), (3, .int .i64 1), (6, .int .i64 (i : Int))]⟩, [(0, some (x.c.map rel1))], 1, w⟩) (fun i => i <= 1 /\ (x.a.take i).all g = true) (fun i => 1 - i) 0 ⟨Nat.zero_le _, rfl⟩ [0] ⟨rfl, ⟨fp, fv, fv, trivial⟩, ⟨flr rfl, trivial⟩, xf, rfl, rfl⟩ ?_
      intro i hi
      repeat refine st mo ?_
      refine ⟨fun hlt => ?_, fun hge => ?_⟩
      · have hil : i < x.a.length := by omega
        obtain ⟨y, hy⟩ : ∃ y, x.a[i]? = some y := ⟨_, List.getElem?_eq_getElem hil⟩
        obtain ⟨⟨b, o, h4, h5⟩, h6⟩ := hE i y hy
        have hst := all_take (g := g) hy
        repeat refine st mo ?_
        refine ⟨b, o, i, h4, rfl, hil, ?_⟩
        repeat refine st mo ?_
        refine ⟨y.c, rfl, h5, ?_⟩
        repeat refine st mo ?_
        cases hg : g y with
        | false =>
          refine ⟨_, fun _ => r_call (t := litF) rfl rfl Tryz.func37 (fun W M E => hg ▸ h6 W E), st mo ?_⟩
          repeat refine st mo ?_
          show _ = _
          rw [show x.a.all g = false from Bool.eq_false_iff.2 fun h => by have := List.all_eq_true.1 h y (List.mem_of_getElem? hy); rw [hg] at this; cases this]
          simp
        | true =>
          refine ⟨_, fun _ => r_call (t := litT) rfl rfl Tryz.func37 (fun W M E => hg ▸ h6 W E), st mo ?_⟩
          repeat refine st mo ?_
          refine ⟨_, wz (i + 1) rfl, st mo ?_⟩
          exact ⟨i + 1, ⟨by omega, by rw [hst, hi.2, hg]; rfl⟩, by show 1 - (i + 1) < 1 - i; omega, [0], rfl, ⟨fp, fv, fv, trivial⟩, ⟨flr rfl, trivial⟩, xf, rfl, rfl⟩
      · repeat refine st mo ?_
        have : i = x.a.length := by omega
        subst this
        rw [List.take_length] at hi
        show _ = _
        rw [hn, hi.2]; rfl
  repeat refine st mo ?_
  refine ⟨fun h5 => ?_, fun h5 => ?_⟩
  · have e1 := nde5 h5
    repeat refine st mo ?_
    refine ⟨fun o1 => ?_, fun o1 => ?_⟩
    rotate_left
    · repeat refine st mo ?_
      have o1' : ¬ 1 <= x.op := by omega
      show _ = _; rw [e1]; simp [o1']
    repeat refine st mo ?_
    refine ⟨fun o2 => ?_, fun o2 => ?_⟩
    rotate_left
    · repeat refine st mo ?_
      have o2' : ¬ x.op <= 11 := by omega
      show _ = _; rw [e1]; simp [o2']
    repeat refine st mo ?_
    cases hs : pln x (⟨0, x.op, E0, E0, v0, 0, 0, none, 0, []⟩) with
    | false =>
      refine ⟨_, fun _ => r_call (t := litF) rfl rfl Tryz.func29 (fun W M E => hs ▸ q_plain x (⟨0, x.op, E0, E0, v0, 0, 0, none, 0, []⟩) W), st mo ?_⟩
      have hs' : pln x (hO x) = false := hs
      repeat refine st mo ?_
      show _ = _; rw [e1]; simp [hs']
    | true =>
      refine ⟨_, fun _ => r_call (t := litT) rfl rfl Tryz.func29 (fun W M E => hs ▸ q_plain x (⟨0, x.op, E0, E0, v0, 0, 0, none, 0, []⟩) W), st mo ?_⟩
      have hs' : pln x (hO x) = true := hs
      repeat refine st mo ?_
      refine ⟨fun hl => ?_, fun hl => ?_⟩
      · repeat refine st mo ?_
        have hl' : ¬ x.a.length = 2 := by omega
        show _ = _; rw [e1]; simp [hl']
      have hl' : x.a.length = 2 := by omega
      have hn : nde x = true := by rw [e1]; simp [o1, o2, hl', hs']
      repeat refine st mo ?_
      refine w_loop (fun i : Nat => ⟨⟨145, [(1, .pointer (some ⟨0, 0, none⟩)), (3, .int .i64 2), (6, .int .i64 (i : Int))]⟩, [(0, some (x.c.map rel1))], 1, w⟩) (fun i => i <= 2 /\ (x.a.take i).all g = true) (fun i => 2 - i) 0 ⟨Nat.zero_le _, rfl⟩ [0] ⟨rfl, ⟨fp, fv, fv, trivial⟩, ⟨flr rfl, trivial⟩, xf, rfl, rfl⟩ ?_
      intro i hi
      repeat refine st mo ?_
      refine ⟨fun hlt => ?_, fun hge => ?_⟩
      · have hil : i < x.a.length := by omega
        obtain ⟨y, hy⟩ : ∃ y, x.a[i]? = some y := ⟨_, List.getElem?_eq_getElem hil⟩
        obtain ⟨⟨b, o, h4, h5⟩, h6⟩ := hE i y hy
        have hst := all_take (g := g) hy
        repeat refine st mo ?_
        refine ⟨b, o, i, h4, rfl, hil, ?_⟩
        repeat refine st mo ?_
        refine ⟨y.c, rfl, h5, ?_⟩
        repeat refine st mo ?_
        cases hg : g y with
        | false =>
          refine ⟨_, fun _ => r_call (t := litF) rfl rfl Tryz.func37 (fun W M E => hg ▸ h6 W E), st mo ?_⟩
          repeat refine st mo ?_
          show _ = _
          rw [show x.a.all g = false from Bool.eq_false_iff.2 fun h => by have := List.all_eq_true.1 h y (List.mem_of_getElem? hy); rw [hg] at this; cases this]
          simp
        | true =>
          refine ⟨_, fun _ => r_call (t := litT) rfl rfl Tryz.func37 (fun W M E => hg ▸ h6 W E), st mo ?_⟩
          repeat refine st mo ?_
          refine ⟨_, wz (i + 1) rfl, st mo ?_⟩
          exact ⟨i + 1, ⟨by omega, by rw [hst, hi.2, hg]; rfl⟩, by show 2 - (i + 1) < 2 - i; omega, [0], rfl, ⟨fp, fv, fv, trivial⟩, ⟨flr rfl, trivial⟩, xf, rfl, rfl⟩
      · repeat refine st mo ?_
        have : i = x.a.length := by omega
        subst this
        rw [List.take_length] at hi
        show _ = _
        rw [hn, hi.2]; rfl
  repeat refine st mo ?_
  refine ⟨fun h6 => ?_, fun h6 => ?_⟩
  · have e1 := nde6 h6
    repeat refine st mo ?_
    cases hs : pln x (⟨0, 0, E0, E0, v0, 0, 0, none, 0, []⟩) with
    | false =>
      refine ⟨_, fun _ => r_call (t := litF) rfl rfl Tryz.func29 (fun W M E => hs ▸ q_plain x (⟨0, 0, E0, E0, v0, 0, 0, none, 0, []⟩) W), st mo ?_⟩
      have hs' : pln x (h0 x) = false := hs
      repeat refine st mo ?_
      show _ = _; rw [e1]; simp [hs']
    | true =>
      refine ⟨_, fun _ => r_call (t := litT) rfl rfl Tryz.func29 (fun W M E => hs ▸ q_plain x (⟨0, 0, E0, E0, v0, 0, 0, none, 0, []⟩) W), st mo ?_⟩
      have hs' : pln x (h0 x) = true := hs
      repeat refine st mo ?_
      refine ⟨fun hl => ?_, fun hl => ?_⟩
      · repeat refine st mo ?_
        have hl' : ¬ x.a.length = 3 := by omega
        show _ = _; rw [e1]; simp [hl']
      have hl' : x.a.length = 3 := by omega
      have hn : nde x = true := by rw [e1]; simp [hl', hs']
      repeat refine st mo ?_
      refine w_loop (fun i : Nat => ⟨⟨145, [(1, .pointer (some ⟨0, 0, none⟩)), (3, .int .i64 3), (6, .int .i64 (i : Int))]⟩, [(0, some (x.c.map rel1))], 1, w⟩) (fun i => i <= 3 /\ (x.a.take i).all g = true) (fun i => 3 - i) 0 ⟨Nat.zero_le _, rfl⟩ [0] ⟨rfl, ⟨fp, fv, fv, trivial⟩, ⟨flr rfl, trivial⟩, xf, rfl, rfl⟩ ?_
      intro i hi
      repeat refine st mo ?_
      refine ⟨fun hlt => ?_, fun hge => ?_⟩
      · have hil : i < x.a.length := by omega
        obtain ⟨y, hy⟩ : ∃ y, x.a[i]? = some y := ⟨_, List.getElem?_eq_getElem hil⟩
        obtain ⟨⟨b, o, h4, h5⟩, h6⟩ := hE i y hy
        have hst := all_take (g := g) hy
        repeat refine st mo ?_
        refine ⟨b, o, i, h4, rfl, hil, ?_⟩
        repeat refine st mo ?_
        refine ⟨y.c, rfl, h5, ?_⟩
        repeat refine st mo ?_
        cases hg : g y with
        | false =>
          refine ⟨_, fun _ => r_call (t := litF) rfl rfl Tryz.func37 (fun W M E => hg ▸ h6 W E), st mo ?_⟩
          repeat refine st mo ?_
          show _ = _
          rw [show x.a.all g = false from Bool.eq_false_iff.2 fun h => by have := List.all_eq_true.1 h y (List.mem_of_getElem? hy); rw [hg] at this; cases this]
          simp
        | true =>
          refine ⟨_, fun _ => r_call (t := litT) rfl rfl Tryz.func37 (fun W M E => hg ▸ h6 W E), st mo ?_⟩
          repeat refine st mo ?_
          refine ⟨_, wz (i + 1) rfl, st mo ?_⟩
          exact ⟨i + 1, ⟨by omega, by rw [hst, hi.2, hg]; rfl⟩, by show 3 - (i + 1) < 3 - i; omega, [0], rfl, ⟨fp, fv, fv, trivial⟩, ⟨flr rfl, trivial⟩, xf, rfl, rfl⟩
      · repeat refine st mo ?_
        have : i = x.a.length := by omega
        subst this
        rw [List.take_length] at hi
        show _ = _
        rw [hn, hi.2]; rfl
  repeat refine st mo ?_
  refine ⟨fun h7 => ?_, fun h7 => ?_⟩
  · have e1 := nde7 h7
    repeat refine st mo ?_
    refine ⟨fun s1 => ?_, fun s1 => ?_⟩
    rotate_left
    · repeat refine st mo ?_
      have hc : isI x.s = false := by unfold isI; simp; omega
      show _ = _; rw [e1]; simp [hc]
    repeat refine st mo ?_
    refine ⟨fun s2 => ?_, fun s2 => ?_⟩
    rotate_left
    · repeat refine st mo ?_
      have hc : isI x.s = false := by unfold isI; simp; omega
      show _ = _; rw [e1]; simp [hc]
    repeat refine st mo ?_
    refine ⟨fun s3 => ?_, fun s3 => ?_⟩
    rotate_left
    · repeat refine st mo ?_
      have hc : isP x.pl = false := by unfold isP; simp; omega
      show _ = _; rw [e1]; simp [hc]
    repeat refine st mo ?_
    refine ⟨fun s4 => ?_, fun s4 => ?_⟩
    rotate_left
    · repeat refine st mo ?_
      have hc : isP x.pl = false := by unfold isP; simp; omega
      show _ = _; rw [e1]; simp [hc]
    repeat refine st mo ?_
    have hc : isI x.s = true := isI_iff.2 ⟨s1, s2⟩
    have hd : isP x.pl = true := isP_iff.2 ⟨s3, s4⟩
    cases hs : pln x (⟨0, 0, E0, E0, v0, x.s, x.pl, none, 0, []⟩) with
    | false =>
      refine ⟨_, fun _ => r_call (t := litF) rfl rfl Tryz.func29 (fun W M E => hs ▸ q_plain x (⟨0, 0, E0, E0, v0, x.s, x.pl, none, 0, []⟩) W), st mo ?_⟩
      have hs' : pln x (hR x) = false := hs
      repeat refine st mo ?_
      show _ = _; rw [e1]; simp [hs']
    | true =>
      refine ⟨_, fun _ => r_call (t := litT) rfl rfl Tryz.func29 (fun W M E => hs ▸ q_plain x (⟨0, 0, E0, E0, v0, x.s, x.pl, none, 0, []⟩) W), st mo ?_⟩
      have hs' : pln x (hR x) = true := hs
      repeat refine st mo ?_
      refine ⟨fun hl => ?_, fun hl => ?_⟩
      · repeat refine st mo ?_
        have hl' : ¬ x.a.length = 1 := by omega
        show _ = _; rw [e1]; simp [hl']
      have hl' : x.a.length = 1 := by omega
      have hn : nde x = true := by rw [e1]; simp [hc, hd, hl', hs']
      repeat refine st mo ?_
      refine w_loop (fun i : Nat => ⟨⟨145, [(1, .pointer (some ⟨0, 0, none⟩)), (3, .int .i64 1), (6, .int .i64 (i : Int))]⟩, [(0, some (x.c.map rel1))], 1, w⟩) (fun i => i <= 1 /\ (x.a.take i).all g = true) (fun i => 1 - i) 0 ⟨Nat.zero_le _, rfl⟩ [0] ⟨rfl, ⟨fp, fv, fv, trivial⟩, ⟨flr rfl, trivial⟩, xf, rfl, rfl⟩ ?_
      intro i hi
      repeat refine st mo ?_
      refine ⟨fun hlt => ?_, fun hge => ?_⟩
      · have hil : i < x.a.length := by omega
        obtain ⟨y, hy⟩ : ∃ y, x.a[i]? = some y := ⟨_, List.getElem?_eq_getElem hil⟩
        obtain ⟨⟨b, o, h4, h5⟩, h6⟩ := hE i y hy
        have hst := all_take (g := g) hy
        repeat refine st mo ?_
        refine ⟨b, o, i, h4, rfl, hil, ?_⟩
        repeat refine st mo ?_
        refine ⟨y.c, rfl, h5, ?_⟩
        repeat refine st mo ?_
        cases hg : g y with
        | false =>
          refine ⟨_, fun _ => r_call (t := litF) rfl rfl Tryz.func37 (fun W M E => hg ▸ h6 W E), st mo ?_⟩
          repeat refine st mo ?_
          show _ = _
          rw [show x.a.all g = false from Bool.eq_false_iff.2 fun h => by have := List.all_eq_true.1 h y (List.mem_of_getElem? hy); rw [hg] at this; cases this]
          simp
        | true =>
          refine ⟨_, fun _ => r_call (t := litT) rfl rfl Tryz.func37 (fun W M E => hg ▸ h6 W E), st mo ?_⟩
          repeat refine st mo ?_
          refine ⟨_, wz (i + 1) rfl, st mo ?_⟩
          exact ⟨i + 1, ⟨by omega, by rw [hst, hi.2, hg]; rfl⟩, by show 1 - (i + 1) < 1 - i; omega, [0], rfl, ⟨fp, fv, fv, trivial⟩, ⟨flr rfl, trivial⟩, xf, rfl, rfl⟩
      · repeat refine st mo ?_
        have : i = x.a.length := by omega
        subst this
        rw [List.take_length] at hi
        show _ = _
        rw [hn, hi.2]; rfl
  repeat refine st mo ?_
  refine ⟨fun h8 => ?_, fun h8 => ?_⟩
  · have e1 := nde8 h8
    repeat refine st mo ?_
    cases hc : fre x.nm with
    | false =>
      refine ⟨_, fun _ => r_call (t := litF) rfl rfl Tryz.func80 (fun W M E => q_fre hc hn W), st mo ?_⟩
      repeat refine st mo ?_
      show _ = _; rw [e1]; simp [hc]
    | true =>
      refine ⟨_, fun _ => r_call (t := litT) rfl rfl Tryz.func80 (fun W M E => q_fre hc hn W), st mo ?_⟩
      repeat refine st mo ?_
      cases hs : pln x (⟨0, 0, x.nm, E0, v0, 0, 0, none, 0, []⟩) with
      | false =>
        refine ⟨_, fun _ => r_call (t := litF) rfl rfl Tryz.func29 (fun W M E => hs ▸ q_plain x (⟨0, 0, x.nm, E0, v0, 0, 0, none, 0, []⟩) W), st mo ?_⟩
        have hs' : pln x (hN x) = false := hs
        repeat refine st mo ?_
        show _ = _; rw [e1]; simp [hs']
      | true =>
        refine ⟨_, fun _ => r_call (t := litT) rfl rfl Tryz.func29 (fun W M E => hs ▸ q_plain x (⟨0, 0, x.nm, E0, v0, 0, 0, none, 0, []⟩) W), st mo ?_⟩
        have hs' : pln x (hN x) = true := hs
        repeat refine st mo ?_
        refine ⟨fun hl => ?_, fun hl => ?_⟩
        · repeat refine st mo ?_
          have hl' : ¬ x.a.length = 1 := by omega
          show _ = _; rw [e1]; simp [hl']
        have hl' : x.a.length = 1 := by omega
        have hn : nde x = true := by rw [e1]; simp [hc, hl', hs']
        repeat refine st mo ?_
        refine w_loop (fun i : Nat => ⟨⟨145, [(1, .pointer (some ⟨0, 0, none⟩)), (3, .int .i64 1), (6, .int .i64 (i : Int))]⟩, [(0, some (x.c.map rel1))], 1, w⟩) (fun i => i <= 1 /\ (x.a.take i).all g = true) (fun i => 1 - i) 0 ⟨Nat.zero_le _, rfl⟩ [0] ⟨rfl, ⟨fp, fv, fv, trivial⟩, ⟨flr rfl, trivial⟩, xf, rfl, rfl⟩ ?_
        intro i hi
        repeat refine st mo ?_
        refine ⟨fun hlt => ?_, fun hge => ?_⟩
        · have hil : i < x.a.length := by omega
          obtain ⟨y, hy⟩ : ∃ y, x.a[i]? = some y := ⟨_, List.getElem?_eq_getElem hil⟩
          obtain ⟨⟨b, o, h4, h5⟩, h6⟩ := hE i y hy
          have hst := all_take (g := g) hy
          repeat refine st mo ?_
          refine ⟨b, o, i, h4, rfl, hil, ?_⟩
          repeat refine st mo ?_
          refine ⟨y.c, rfl, h5, ?_⟩
          repeat refine st mo ?_
          cases hg : g y with
          | false =>
            refine ⟨_, fun _ => r_call (t := litF) rfl rfl Tryz.func37 (fun W M E => hg ▸ h6 W E), st mo ?_⟩
            repeat refine st mo ?_
            show _ = _
            rw [show x.a.all g = false from Bool.eq_false_iff.2 fun h => by have := List.all_eq_true.1 h y (List.mem_of_getElem? hy); rw [hg] at this; cases this]
            simp
          | true =>
            refine ⟨_, fun _ => r_call (t := litT) rfl rfl Tryz.func37 (fun W M E => hg ▸ h6 W E), st mo ?_⟩
            repeat refine st mo ?_
            refine ⟨_, wz (i + 1) rfl, st mo ?_⟩
            exact ⟨i + 1, ⟨by omega, by rw [hst, hi.2, hg]; rfl⟩, by show 1 - (i + 1) < 1 - i; omega, [0], rfl, ⟨fp, fv, fv, trivial⟩, ⟨flr rfl, trivial⟩, xf, rfl, rfl⟩
        · repeat refine st mo ?_
          have : i = x.a.length := by omega
          subst this
          rw [List.take_length] at hi
          show _ = _
          rw [hn, hi.2]; rfl
  repeat refine st mo ?_
  refine ⟨fun h10 => ?_, fun h10 => ?_⟩
  · have e1 := nde10 h10
    repeat refine st mo ?_
    cases hf : fre x.sc with
    | false =>
      refine ⟨_, fun _ => r_call (t := litF) rfl rfl Tryz.func80 (fun W M E => q_fre hf hsc W), st mo ?_⟩
      repeat refine st mo ?_
      have hc : col x.op x.nm x.sc = false := by unfold col; split <;> simp [hf]
      show _ = _; rw [e1]; simp [hc]
    | true =>
      refine ⟨_, fun _ => r_call (t := litT) rfl rfl Tryz.func80 (fun W M E => q_fre hf hsc W), st mo ?_⟩
      repeat refine st mo ?_
      refine ⟨fun p1 => ?_, fun p1 => ?_⟩
      · repeat refine st mo ?_
        refine ⟨fun p2 => ?_, fun p2 => ?_⟩
        · repeat refine st mo ?_
          have hc : col x.op x.nm x.sc = true := by unfold col; rw [if_pos p1]; simp [hf, p2]
          cases hs : pln x (⟨0, x.op, x.nm, x.sc, v0, 0, 0, none, 0, []⟩) with
          | false =>
            refine ⟨_, fun _ => r_call (t := litF) rfl rfl Tryz.func29 (fun W M E => hs ▸ q_plain x (⟨0, x.op, x.nm, x.sc, v0, 0, 0, none, 0, []⟩) W), st mo ?_⟩
            have hs' : pln x (hA x) = false := hs
            repeat refine st mo ?_
            show _ = _; rw [e1]; simp [hs']
          | true =>
            refine ⟨_, fun _ => r_call (t := litT) rfl rfl Tryz.func29 (fun W M E => hs ▸ q_plain x (⟨0, x.op, x.nm, x.sc, v0, 0, 0, none, 0, []⟩) W), st mo ?_⟩
            have hs' : pln x (hA x) = true := hs
            repeat refine st mo ?_
            refine ⟨fun hl => ?_, fun hl => ?_⟩
            · repeat refine st mo ?_
              have hl' : ¬ x.a.length = 0 := by omega
              show _ = _; rw [e1]; simp [hl']
            have hl' : x.a.length = 0 := by omega
            have hn : nde x = true := by rw [e1]; simp [hc, hl', hs']
            repeat refine st mo ?_
            refine w_loop (fun i : Nat => ⟨⟨145, [(1, .pointer (some ⟨0, 0, none⟩)), (3, .int .i64 0), (6, .int .i64 (i : Int))]⟩, [(0, some (x.c.map rel1))], 1, w⟩) (fun i => i <= 0 /\ (x.a.take i).all g = true) (fun i => 0 - i) 0 ⟨Nat.zero_le _, rfl⟩ [0] ⟨rfl, ⟨fp, fv, fv, trivial⟩, ⟨flr rfl, trivial⟩, xf, rfl, rfl⟩ ?_
            intro i hi
            repeat refine st mo ?_
            refine ⟨fun hlt => ?_, fun hge => ?_⟩
            · have hil : i < x.a.length := by omega
              obtain ⟨y, hy⟩ : ∃ y, x.a[i]? = some y := ⟨_, List.getElem?_eq_getElem hil⟩
              obtain ⟨⟨b, o, h4, h5⟩, h6⟩ := hE i y hy
              have hst := all_take (g := g) hy
              repeat refine st mo ?_
              refine ⟨b, o, i, h4, rfl, hil, ?_⟩
              repeat refine st mo ?_
              refine ⟨y.c, rfl, h5, ?_⟩
              repeat refine st mo ?_
              cases hg : g y with
              | false =>
                refine ⟨_, fun _ => r_call (t := litF) rfl rfl Tryz.func37 (fun W M E => hg ▸ h6 W E), st mo ?_⟩
                repeat refine st mo ?_
                show _ = _
                rw [show x.a.all g = false from Bool.eq_false_iff.2 fun h => by have := List.all_eq_true.1 h y (List.mem_of_getElem? hy); rw [hg] at this; cases this]
                simp
              | true =>
                refine ⟨_, fun _ => r_call (t := litT) rfl rfl Tryz.func37 (fun W M E => hg ▸ h6 W E), st mo ?_⟩
                repeat refine st mo ?_
                refine ⟨_, wz (i + 1) rfl, st mo ?_⟩
                exact ⟨i + 1, ⟨by omega, by rw [hst, hi.2, hg]; rfl⟩, by show 0 - (i + 1) < 0 - i; omega, [0], rfl, ⟨fp, fv, fv, trivial⟩, ⟨flr rfl, trivial⟩, xf, rfl, rfl⟩
            · repeat refine st mo ?_
              have : i = x.a.length := by omega
              subst this
              rw [List.take_length] at hi
              show _ = _
              rw [hn, hi.2]; rfl
        · repeat refine st mo ?_
          have hc : col x.op x.nm x.sc = false := by unfold col; rw [if_pos p1]; simp [p2]
          refine ⟨fun p4 => ?_, fun p4 => absurd p4 (by omega)⟩
          repeat refine st mo ?_
          refine ⟨fun p5 => absurd p5 (by omega), fun p5 => ?_⟩
          repeat refine st mo ?_
          show _ = _; rw [e1]; simp [hc]
      repeat refine st mo ?_
      refine ⟨fun p2 => ?_, fun p2 => ?_⟩
      rotate_left
      · repeat refine st mo ?_
        have hc : col x.op x.nm x.sc = false := by unfold col; rw [if_neg p1]; simp; omega
        show _ = _; rw [e1]; simp [hc]
      repeat refine st mo ?_
      refine ⟨fun p3 => ?_, fun p3 => ?_⟩
      rotate_left
      · repeat refine st mo ?_
        have hc : col x.op x.nm x.sc = false := by unfold col; rw [if_neg p1]; simp; omega
        show _ = _; rw [e1]; simp [hc]
      repeat refine st mo ?_
      cases hh : fre x.nm with
      | false =>
        refine ⟨_, fun _ => r_call (t := litF) rfl rfl Tryz.func80 (fun W M E => q_fre hh hn W), st mo ?_⟩
        repeat refine st mo ?_
        have hc : col x.op x.nm x.sc = false := by unfold col; rw [if_neg p1]; simp [hh]
        show _ = _; rw [e1]; simp [hc]
      | true =>
        refine ⟨_, fun _ => r_call (t := litT) rfl rfl Tryz.func80 (fun W M E => q_fre hh hn W), st mo ?_⟩
        repeat refine st mo ?_
        have hc : col x.op x.nm x.sc = true := by unfold col; rw [if_neg p1]; simp [hf, hh, p2, p3]
        cases hs : pln x (⟨0, x.op, x.nm, x.sc, v0, 0, 0, none, 0, []⟩) with
        | false =>
          refine ⟨_, fun _ => r_call (t := litF) rfl rfl Tryz.func29 (fun W M E => hs ▸ q_plain x (⟨0, x.op, x.nm, x.sc, v0, 0, 0, none, 0, []⟩) W), st mo ?_⟩
          have hs' : pln x (hA x) = false := hs
          repeat refine st mo ?_
          show _ = _; rw [e1]; simp [hs']
        | true =>
          refine ⟨_, fun _ => r_call (t := litT) rfl rfl Tryz.func29 (fun W M E => hs ▸ q_plain x (⟨0, x.op, x.nm, x.sc, v0, 0, 0, none, 0, []⟩) W), st mo ?_⟩
          have hs' : pln x (hA x) = true := hs
          repeat refine st mo ?_
          refine ⟨fun hl => ?_, fun hl => ?_⟩
          · repeat refine st mo ?_
            have hl' : ¬ x.a.length = 0 := by omega
            show _ = _; rw [e1]; simp [hl']
          have hl' : x.a.length = 0 := by omega
          have hn : nde x = true := by rw [e1]; simp [hc, hl', hs']
          repeat refine st mo ?_
          refine w_loop (fun i : Nat => ⟨⟨145, [(1, .pointer (some ⟨0, 0, none⟩)), (3, .int .i64 0), (6, .int .i64 (i : Int))]⟩, [(0, some (x.c.map rel1))], 1, w⟩) (fun i => i <= 0 /\ (x.a.take i).all g = true) (fun i => 0 - i) 0 ⟨Nat.zero_le _, rfl⟩ [0] ⟨rfl, ⟨fp, fv, fv, trivial⟩, ⟨flr rfl, trivial⟩, xf, rfl, rfl⟩ ?_
          intro i hi
          repeat refine st mo ?_
          refine ⟨fun hlt => ?_, fun hge => ?_⟩
          · have hil : i < x.a.length := by omega
            obtain ⟨y, hy⟩ : ∃ y, x.a[i]? = some y := ⟨_, List.getElem?_eq_getElem hil⟩
            obtain ⟨⟨b, o, h4, h5⟩, h6⟩ := hE i y hy
            have hst := all_take (g := g) hy
            repeat refine st mo ?_
            refine ⟨b, o, i, h4, rfl, hil, ?_⟩
            repeat refine st mo ?_
            refine ⟨y.c, rfl, h5, ?_⟩
            repeat refine st mo ?_
            cases hg : g y with
            | false =>
              refine ⟨_, fun _ => r_call (t := litF) rfl rfl Tryz.func37 (fun W M E => hg ▸ h6 W E), st mo ?_⟩
              repeat refine st mo ?_
              show _ = _
              rw [show x.a.all g = false from Bool.eq_false_iff.2 fun h => by have := List.all_eq_true.1 h y (List.mem_of_getElem? hy); rw [hg] at this; cases this]
              simp
            | true =>
              refine ⟨_, fun _ => r_call (t := litT) rfl rfl Tryz.func37 (fun W M E => hg ▸ h6 W E), st mo ?_⟩
              repeat refine st mo ?_
              refine ⟨_, wz (i + 1) rfl, st mo ?_⟩
              exact ⟨i + 1, ⟨by omega, by rw [hst, hi.2, hg]; rfl⟩, by show 0 - (i + 1) < 0 - i; omega, [0], rfl, ⟨fp, fv, fv, trivial⟩, ⟨flr rfl, trivial⟩, xf, rfl, rfl⟩
          · repeat refine st mo ?_
            have : i = x.a.length := by omega
            subst this
            rw [List.take_length] at hi
            show _ = _
            rw [hn, hi.2]; rfl
  repeat refine st mo ?_
  show _ = _; simp [nde, h1, h2, h3, h4, h5, h6, h7, h8, h9, h10]
theorem q_exp : ∀ (d : Nat) (x : Ex) (w : World), LT w d x -> Calls Tryz.prog 37 #[x.w] w fun e W => e = .returned (.bool (vE d x)) /\ Mb w W
  | 0, x, w, h => by
    have := q_exp1 x h.1 (fun _ => true) w (by rw [h.2]; exact Each.none)
    rw [show (nde x && x.a.all fun _ => true) = vE 0 x by rw [h.2]; simp [vE]] at this
    exact this
  | d + 1, x, w, h => q_exp1 x h.1 (vE d) w (h.each fun y W hL => q_exp d y W hL)
structure Ws where
  t : ByteArray
  n : Nat
  J : List Value
def Ws.ok (s : Ws) : Prop := s.J.all pur1 = true /\ (s.t.size <= 16384 /\ s.t.size <= s.n) /\ ((s.t.size = 0 /\ s.n = 0) ∨ (1 <= s.t.size /\ 1 <= s.n))
def c0 (a : Nat) (s : Ws) : List Value := if s.t.size = 0 then [.pointer none, nS, .int .i64 (s.n : Int)] else [P0, bT a s.t.size, .int .i64 (s.n : Int)]
def c1 (s : Ws) : List Value := if s.t.size = 0 then s.J else bcs s.t
abbrev hW (s : Ws) : HT := [(0 + 4096, none), (0, some (c0 1 s)), (1 + 4096, none), (1, some (c1 s))]
theorem Ctr.T {P : Program} {T N : Nat} {X : World} {f : FuncId} {vs : List Value} {h h' : HT} {n m n' : Nat} {t : Value} (c : Ctr P X f vs h n m t h' n') : CtrT P T N X f vs h n m t h' n' := fun W k _ => c W k
def wok (w : ByteArray) : Prop := 1 <= w.size /\ w.size <= 16384
abbrev Spc : ByteArray := ⟨#[32]⟩
abbrev hP (s : Ws) (l : List ByteArray) : HT := [(0 + 4096, none), (0, some (c0 1 s)), (1 + 4096, none), (1, some (c1 s)), (2 + 4096, none), (2, some (l.map Value.string))]
theorem str_pur (l : List ByteArray) : (l.map Value.string).all pur1 = true := by simp [pur1]
def lvo (op : Int) : Int := if op = 11 then 1 else if op = 10 then 2 else if op = 1 ∨ op = 2 then 5 else if op = 3 then 6 else 4
def lv (x : Ex) : Int := if x.k = 4 then 3 else if x.k = 3 then 7 else if x.k = 5 then lvo x.op else 8
abbrev Lpa : ByteArray := ⟨#[40]⟩
abbrev Rpa : ByteArray := ⟨#[41]⟩
abbrev Com : ByteArray := ⟨#[44]⟩
def opw : List ByteArray := [E0, ⟨#[43]⟩, ⟨#[45]⟩, ⟨#[42]⟩, ⟨#[61]⟩, ⟨#[33, 61]⟩, ⟨#[60]⟩, ⟨#[60, 61]⟩, ⟨#[62]⟩, ⟨#[62, 61]⟩, ⟨#[97, 110, 100]⟩, ⟨#[111, 114]⟩, ⟨#[115, 117, 109]⟩, ⟨#[99, 111, 117, 110, 116]⟩, ⟨#[109, 105, 110]⟩, ⟨#[109, 97, 120]⟩, ⟨#[114, 111, 119, 115]⟩]
def plw : List ByteArray := [E0, ⟨#[104, 97, 108, 102, 95, 117, 112]⟩, ⟨#[104, 97, 108, 102, 95, 101, 118, 101, 110]⟩, ⟨#[100, 111, 119, 110]⟩, ⟨#[117, 112]⟩, ⟨#[102, 108, 111, 111, 114]⟩]
def opW (op : Int) : ByteArray := opw.getD op.toNat E0
def plW (p : Int) : ByteArray := plw.getD p.toNat E0
abbrev Tru : ByteArray := ⟨#[116, 114, 117, 101]⟩
abbrev Fls : ByteArray := ⟨#[102, 97, 108, 115, 101]⟩
def cw (v : VL) : ByteArray := if v.k = 1 then dtx v.b v.n v.s else if v.k = 2 then (if v.f then Tru else Fls) else quo v.t
def colw (x : Ex) : List ByteArray := if x.op = 16 then [opW x.op, Lpa, x.sc, Rpa] else [opW x.op, Lpa, x.sc, ⟨#[46]⟩, x.nm, Rpa]
def brk (b : Bool) (l : List ByteArray) : List ByteArray := if b then Lpa :: (l ++ [Rpa]) else l
def wXg (r : Ex -> List ByteArray) (least : Int) (x : Ex) : List ByteArray := brk (decide (lv x < least)) (r x)
def wAr (r : Ex -> List ByteArray) : List Ex -> List ByteArray
  | [] => []
  | [x] => wXg r 1 x
  | x :: y :: l => wXg r 1 x ++ (Com :: wAr r (y :: l))
def a0 (x : Ex) : Ex := x.a.getD 0 x0
def a1 (x : Ex) : Ex := x.a.getD 1 x0
def wBg (r : Ex -> List ByteArray) (x : Ex) : List ByteArray :=
  if x.k = 1 then [cw x.v]
  else if x.k = 2 then [x.nm]
  else if x.k = 3 then Mns :: wXg r 7 (a0 x)
  else if x.k = 4 then ⟨#[110, 111, 116]⟩ :: wXg r 3 (a0 x)
  else if x.k = 5 then wXg r (if lvo x.op = 4 then 5 else lvo x.op) (a0 x) ++ (opW x.op :: wXg r (lvo x.op + 1) (a1 x))
  else if x.k = 6 then ⟨#[105, 102]⟩ :: Lpa :: (wAr r x.a ++ [Rpa])
  else if x.k = 7 then ⟨#[114, 111, 117, 110, 100]⟩ :: Lpa :: (wXg r 1 (a0 x) ++ [Com, ntx x.s, Com, plW x.pl, Rpa])
  else if x.k = 8 then x.nm :: Lpa :: (wAr r x.a ++ [Rpa])
  else if x.k = 9 then ⟨#[98, 108, 97, 110, 107]⟩ :: Lpa :: (wAr r x.a ++ [Rpa])
  else colw x
def wB : Nat -> Ex -> List ByteArray
  | 0 => wBg fun _ => []
  | d + 1 => wBg (wB d)
theorem nam_size {s : ByteArray} (h : nam s = true) : 1 <= s.size /\ s.size <= 32 := by
  have := of_decide_eq_true h
  exact ⟨Nat.pos_of_ne_zero this.1, this.2.1⟩
theorem fre_ok {s : ByteArray} (h : fre s = true) : wok s := by
  unfold fre at h
  rw [Bool.and_eq_true] at h
  have := nam_size h.1
  exact ⟨this.1, by omega⟩
theorem wpt_pos (t : ByteArray) (s : Nat) (h : 1 <= t.size) : 1 <= (wpt t s).size := by
  unfold wpt ptd
  split
  · exact h
  · simp only [ByteArray.size_append]
    show 1 <= _ + 1 + _
    omega
theorem dtx_ok (b : Bool) (n s : Int) : wok (dtx b n s) := by
  refine ⟨?_, by have := dtx_size b n s; omega⟩
  unfold dtx
  have hl := decF_len 77 n
  split
  · have := wpt_pos (strOf (decF 78 n)) s.toNat (by rw [strOf_size]; exact hl.2)
    split
    · rw [ByteArray.size_append]; omega
    · exact this
  · decide
theorem ntx_ok (n : Int) : wok (ntx n) := by
  have hl := decF_len 77 n
  unfold ntx
  refine ⟨by rw [strOf_size]; exact hl.2, by rw [strOf_size]; have : (decF 78 n).length <= 78 := hl.1; omega⟩
theorem quo_ok {s : ByteArray} (h : s.size <= 64) : wok (quo s) := by
  have h1 := (quo_bcs s).2
  have h2 := QL_len s s.size
  rw [List.length_append] at h1
  exact ⟨by rw [h1]; show 1 <= _ + 1; omega, by rw [h1]; show _ + 1 <= _; omega⟩
theorem cst_cases {v : VL} (h : cst v = true) : v.k = 1 ∨ v.k = 2 ∨ (v.k = 3 /\ v.t.size <= 64) := by
  unfold cst at h
  split at h
  · exact Or.inl (by assumption)
  · split at h
    · exact Or.inr (Or.inl (by assumption))
    · split at h
      · rename_i h3; simp at h; exact Or.inr (Or.inr ⟨h3, h.2⟩)
      · cases h
theorem cw_ok {v : VL} (h : cst v = true) : wok (cw v) := by
  unfold cw
  rcases cst_cases h with h1 | h1 | ⟨h1, h2⟩
  · rw [if_pos h1]; exact dtx_ok _ _ _
  · rw [if_neg (by omega), if_pos h1]; cases v.f <;> exact ⟨by decide, by decide⟩
  · rw [if_neg (by omega), if_neg (by omega)]; exact quo_ok h2
theorem one_ok {w : ByteArray} (h : wok w) : ∀ x ∈ [w], wok x := fun x hx => by rw [List.mem_singleton.1 hx]; exact h
theorem plw_at {p : Int} (h : 0 <= p) (h2 : p <= 5) : ∃ i : Nat, (i : Int) = p /\ i < 6 /\ plw[i]? = some (plW p) := by
  refine ⟨p.toNat, by omega, by omega, ?_⟩
  unfold plW
  rw [List.getD_eq_getElem?_getD, List.getElem?_eq_getElem (show p.toNat < plw.length by show _ < 6; omega)]; rfl
theorem opw_ok {op : Int} (h : 1 <= op) (h2 : op <= 16) : wok (opW op) := by
  have : op = 1 ∨ op = 2 ∨ op = 3 ∨ op = 4 ∨ op = 5 ∨ op = 6 ∨ op = 7 ∨ op = 8 ∨ op = 9 ∨ op = 10 ∨ op = 11 ∨ op = 12 ∨ op = 13 ∨ op = 14 ∨ op = 15 ∨ op = 16 := by omega
  rcases this with rfl | rfl | rfl | rfl | rfl | rfl | rfl | rfl | rfl | rfl | rfl | rfl | rfl | rfl | rfl | rfl <;> exact ⟨by decide, by decide⟩
theorem plw_ok {p : Int} (h : 1 <= p) (h2 : p <= 5) : wok (plW p) := by
  have : p = 1 ∨ p = 2 ∨ p = 3 ∨ p = 4 ∨ p = 5 := by omega
  rcases this with rfl | rfl | rfl | rfl | rfl <;> exact ⟨by decide, by decide⟩
theorem col_cases {op : Int} {nm sc : ByteArray} (h : col op nm sc = true) : (op = 16 /\ fre sc = true /\ nm = E0) ∨ (12 <= op /\ op <= 15 /\ fre sc = true /\ fre nm = true) := by
  unfold col at h
  split at h
  · rename_i h1; simp at h; exact Or.inl ⟨h1, h.1, h.2⟩
  · simp at h; exact Or.inr h
theorem cons_ok {w : ByteArray} {l : List ByteArray} (h : wok w) (hl : ∀ x ∈ l, wok x) : ∀ x ∈ w :: l, wok x := fun x hx => by
  rcases List.mem_cons.1 hx with rfl | hx
  · exact h
  · exact hl x hx
theorem nil_ok : ∀ x ∈ ([] : List ByteArray), wok x := fun x hx => by cases hx
theorem app_ok {l m : List ByteArray} (h : ∀ x ∈ l, wok x) (hm : ∀ x ∈ m, wok x) : ∀ x ∈ l ++ m, wok x := fun x hx => by
  rcases List.mem_append.1 hx with hx | hx
  · exact h x hx
  · exact hm x hx
theorem sym_ok {a : UInt8} : wok ⟨#[a]⟩ := ⟨Nat.le_refl 1, by show 1 <= 16384; decide⟩
theorem brk_ok {b : Bool} {l : List ByteArray} (h : ∀ w ∈ l, wok w) : ∀ w ∈ brk b l, wok w := by
  unfold brk; split
  · exact cons_ok sym_ok (app_ok h (one_ok sym_ok))
  · exact h
theorem wXg_ok {r : Ex -> List ByteArray} {least : Int} {x : Ex} (h : ∀ w ∈ r x, wok w) : ∀ w ∈ wXg r least x, wok w := brk_ok h
theorem wAr_ok {r : Ex -> List ByteArray} : ∀ {l : List Ex}, (∀ y ∈ l, ∀ w ∈ r y, wok w) -> ∀ w ∈ wAr r l, wok w
  | [], _ => nil_ok
  | [x], h => wXg_ok (h x (by simp))
  | x :: y :: l, h => app_ok (wXg_ok (h x (by simp))) (cons_ok sym_ok (wAr_ok fun z hz => h z (by simp only [List.mem_cons] at hz ⊢; exact Or.inr hz)))
abbrev NotW : ByteArray := ⟨#[110, 111, 116]⟩
abbrev IfW : ByteArray := ⟨#[105, 102]⟩
abbrev RouW : ByteArray := ⟨#[114, 111, 117, 110, 100]⟩
abbrev BlaW : ByteArray := ⟨#[98, 108, 97, 110, 107]⟩
theorem wB1 (r : Ex -> List ByteArray) {x : Ex} (h : x.k = 1) : wBg r x = [cw x.v] := by simp [wBg, h]
theorem wB2 (r : Ex -> List ByteArray) {x : Ex} (h : x.k = 2) : wBg r x = [x.nm] := by simp [wBg, h]
theorem wB3 (r : Ex -> List ByteArray) {x y : Ex} (h : x.k = 3) (ha : x.a = [y]) : wBg r x = [Mns] ++ wXg r 7 y := by simp [wBg, h, a0, ha]
theorem wB4 (r : Ex -> List ByteArray) {x y : Ex} (h : x.k = 4) (ha : x.a = [y]) : wBg r x = [NotW] ++ wXg r 3 y := by simp [wBg, h, a0, ha]
theorem wB5 (r : Ex -> List ByteArray) {x y z : Ex} (h : x.k = 5) (ha : x.a = [y, z]) : wBg r x = wXg r (if lvo x.op = 4 then 5 else lvo x.op) y ++ (opW x.op :: wXg r (lvo x.op + 1) z) := by simp [wBg, h, a0, a1, ha]
theorem wB6 (r : Ex -> List ByteArray) {x : Ex} (h : x.k = 6) : wBg r x = IfW :: Lpa :: (wAr r x.a ++ [Rpa]) := by simp [wBg, h]
theorem wB7 (r : Ex -> List ByteArray) {x y : Ex} (h : x.k = 7) (ha : x.a = [y]) : wBg r x = [RouW, Lpa] ++ (wXg r 1 y ++ [Com, ntx x.s, Com, plW x.pl, Rpa]) := by simp [wBg, h, a0, ha]
theorem wB8 (r : Ex -> List ByteArray) {x : Ex} (h : x.k = 8) : wBg r x = x.nm :: Lpa :: (wAr r x.a ++ [Rpa]) := by simp [wBg, h]
theorem wB9 (r : Ex -> List ByteArray) {x : Ex} (h : x.k = 9) : wBg r x = BlaW :: Lpa :: (wAr r x.a ++ [Rpa]) := by simp [wBg, h]
theorem wB10 (r : Ex -> List ByteArray) {x : Ex} (h : x.k = 10) : wBg r x = colw x := by simp [wBg, h]
theorem nde_k {x : Ex} (h : nde x = true) : 1 <= x.k /\ x.k <= 10 := by
  unfold nde at h
  by_cases h1 : 1 <= x.k /\ x.k <= 10
  · exact h1
  · rw [if_neg (by omega), if_neg (by omega), if_neg (by omega), if_neg (by omega), if_neg (by omega), if_neg (by omega), if_neg (by omega), if_neg (by omega)] at h; cases h
theorem len1 {x : Ex} (h : x.a.length = 1) : ∃ y, x.a = [y] := by
  match hx : x.a, h with
  | [y], _ => exact ⟨y, rfl⟩
theorem len2 {x : Ex} (h : x.a.length = 2) : ∃ y z, x.a = [y, z] := by
  match hx : x.a, h with
  | [y, z], _ => exact ⟨y, z, rfl⟩
theorem colw_ok {x : Ex} (hc : col x.op x.nm x.sc = true) : ∀ w ∈ colw x, wok w := by
  have hop : 12 <= x.op /\ x.op <= 16 := by rcases col_cases hc with h | h <;> omega
  have hsc : wok x.sc := by rcases col_cases hc with h | h; exact fre_ok h.2.1; exact fre_ok h.2.2.1
  have hwo := opw_ok (op := x.op) (by omega) (by omega)
  unfold colw
  split
  · exact cons_ok hwo (cons_ok sym_ok (cons_ok hsc (one_ok sym_ok)))
  · rename_i h1
    have hnm : wok x.nm := by rcases col_cases hc with h | h; exact absurd h.1 h1; exact fre_ok h.2.2.2
    exact cons_ok hwo (cons_ok sym_ok (cons_ok hsc (cons_ok sym_ok (cons_ok hnm (one_ok sym_ok)))))
theorem wBg_ok {r : Ex -> List ByteArray} {x : Ex} (hn : nde x = true) (h : ∀ y ∈ x.a, ∀ w ∈ r y, wok w) : ∀ w ∈ wBg r x, wok w := by
  have hk := nde_k hn
  have hAr := wAr_ok h
  have hcases : x.k = 1 ∨ x.k = 2 ∨ x.k = 3 ∨ x.k = 4 ∨ x.k = 5 ∨ x.k = 6 ∨ x.k = 7 ∨ x.k = 8 ∨ x.k = 9 ∨ x.k = 10 := by omega
  rcases hcases with h1 | h1 | h1 | h1 | h1 | h1 | h1 | h1 | h1 | h1
  · rw [wB1 r h1]; rw [nde1 h1] at hn; simp at hn; exact one_ok (cw_ok hn.1)
  · rw [wB2 r h1]; rw [nde2 h1] at hn; simp at hn; exact one_ok (fre_ok hn.1)
  · rw [nde3 (x := x) (by omega)] at hn; simp at hn
    obtain ⟨y, ha⟩ := len1 hn.1
    rw [wB3 r h1 ha]; exact app_ok (one_ok sym_ok) (wXg_ok (h y (by rw [ha]; simp)))
  · rw [nde3 (x := x) (by omega)] at hn; simp at hn
    obtain ⟨y, ha⟩ := len1 hn.1
    rw [wB4 r h1 ha]; exact app_ok (one_ok ⟨by decide, by decide⟩) (wXg_ok (h y (by rw [ha]; simp)))
  · rw [nde5 h1] at hn; simp at hn
    obtain ⟨y, z, ha⟩ := len2 hn.2.1
    rw [wB5 r h1 ha]; exact app_ok (wXg_ok (h y (by rw [ha]; simp))) (cons_ok (opw_ok hn.1.1 (by omega)) (wXg_ok (h z (by rw [ha]; simp))))
  · rw [wB6 r h1]; exact cons_ok ⟨by decide, by decide⟩ (cons_ok sym_ok (app_ok hAr (one_ok sym_ok)))
  · rw [nde7 h1] at hn; simp at hn
    obtain ⟨y, ha⟩ := len1 hn.2.1
    have hP := isP_iff.1 hn.1.2
    rw [wB7 r h1 ha]; exact app_ok (cons_ok ⟨by decide, by decide⟩ (one_ok sym_ok)) (app_ok (wXg_ok (h y (by rw [ha]; simp))) (cons_ok sym_ok (cons_ok (ntx_ok x.s) (cons_ok sym_ok (cons_ok (plw_ok hP.1 hP.2) (one_ok sym_ok))))))
  · rw [wB8 r h1]; rw [nde8 h1] at hn; simp at hn; exact cons_ok (fre_ok hn.1) (cons_ok sym_ok (app_ok hAr (one_ok sym_ok)))
  · rw [wB9 r h1]; exact cons_ok ⟨by decide, by decide⟩ (cons_ok sym_ok (app_ok hAr (one_ok sym_ok)))
  · rw [wB10 r h1]; rw [nde10 h1] at hn; simp at hn; exact colw_ok hn.1
theorem wBd_ok : ∀ {d : Nat} {X : World} {x : Ex}, LT X d x -> vE d x = true -> ∀ w ∈ wB d x, wok w
  | 0, X, x, hL, hv => wBg_ok hv fun y hy => by rw [hL.2] at hy; cases hy
  | d + 1, X, x, hL, hv => by
    have hv' : nde x = true /\ x.a.all (vE d) = true := by simpa [vE] using hv
    refine wBg_ok hv'.1 fun y hy => ?_
    obtain ⟨j, hj⟩ := List.mem_iff_getElem?.1 hy
    exact wBd_ok (hL.2 j y hj).2 (List.all_eq_true.1 hv'.2 y hy)
def qp1 (t w : ByteArray) : ByteArray := if 16384 < t.size then t else (if t.size = 0 then t else t ++ Spc) ++ w
def qps (t : ByteArray) (l : List ByteArray) : ByteArray := l.foldl qp1 t
def q0 (t : ByteArray) : List Value := [.string t, if 16384 < t.size then litT else litF]
abbrev hQ (t : ByteArray) : HT := [(0 + 4096, none), (0, some (q0 t))]
abbrev hQP (t : ByteArray) (l : List ByteArray) : HT := [(0 + 4096, none), (0, some (q0 t)), (1 + 4096, none), (1, some (l.map Value.string))]
theorem q0_l {t : ByteArray} (h : 16384 < t.size) : q0 t = [.string t, litT] := by unfold q0; rw [if_pos h]
theorem q0_s {t : ByteArray} (h : t.size <= 16384) : q0 t = [.string t, litF] := by unfold q0; rw [if_neg (by omega)]
theorem q0_pur (t : ByteArray) : (q0 t).all pur1 = true := by unfold q0; split <;> rfl
theorem qps_long : ∀ {l : List ByteArray} {t : ByteArray}, 16384 < t.size -> qps t l = t
  | [], _, _ => rfl
  | w :: l, t, h => by
    show qps (qp1 t w) l = t
    have : qp1 t w = t := if_pos h
    rw [this, qps_long h]
theorem qps_app (t : ByteArray) (l m : List ByteArray) : qps t (l ++ m) = qps (qps t l) m := List.foldl_append ..
theorem qps_step {t : ByteArray} {l : List ByteArray} {i : Nat} {w : ByteArray} (h : l[i]? = some w) : qps t (l.take (i + 1)) = qp1 (qps t (l.take i)) w := by
  rw [List.take_add_one, h, qps_app]; rfl
theorem qps_big {t : ByteArray} {l : List ByteArray} (i : Nat) (h : 16384 < (qps t (l.take i)).size) : qps t l = qps t (l.take i) := by
  have : qps t l = qps (qps t (l.take i)) (l.drop i) := by rw [← qps_app, List.take_append_drop]
  rw [this, qps_long h]
theorem qp1_size {t w : ByteArray} (h : t.size <= 40000) (hw : w.size <= 16384) : (qp1 t w).size <= 40000 := by
  unfold qp1; split
  · exact h
  · split <;> (rw [ByteArray.size_append]; try rw [ByteArray.size_append, show Spc.size = 1 from rfl]) <;> omega
theorem qps_size : ∀ {l : List ByteArray} {t : ByteArray}, t.size <= 40000 -> (∀ w ∈ l, wok w) -> (qps t l).size <= 40000
  | [], _, h, _ => h
  | w :: l, t, h, hw => qps_size (t := qp1 t w) (qp1_size h (hw w (by simp)).2) fun x hx => hw x (by simp [hx])
set_option maxHeartbeats 1000000 in
set_option maxRecDepth 20000 in
theorem d_put (t : ByteArray) (l : List ByteArray) (ht : t.size <= 40000) (hl : ∀ w ∈ l, wok w) (hll : l.length <= 1000) (X : World) : Ctr Tryz.prog X 84 [P0, .slice (some ⟨1, 0, none⟩) l.length 1] (hQP t l) 2 1 (.tuple #[]) (hQ (qps t l)) 1 := by
  refine fn_c _ Tryz.func84 rfl rfl rfl rfl (fun w ll tw X' hX => run_ok (st mo ?_))
  repeat refine st mo ?_
  refine w_loop (fun i : Nat => ⟨⟨47, [(0, P0), (1, .slice (some ⟨1, 0, none⟩) l.length 1), (4, .int .i64 (i : Int))]⟩, hQP (qps t (l.take i)) l, 2, X'⟩) (fun i => i <= l.length) (fun i => l.length - i) 0 (Nat.zero_le _) [0, 1] ⟨rfl, ⟨fp, fs, fv, trivial⟩, ⟨trivial, fl rfl (q0_pur t), trivial, fl rfl (str_pur l), trivial⟩, xf, rfl, rfl⟩ ?_
  intro i hi
  repeat refine st mo ?_
  refine ⟨fun hlt => ?_, fun hge => ?_⟩
  · have hil : i < l.length := by omega
    obtain ⟨x, hx⟩ : ∃ x, l[i]? = some x := ⟨_, List.getElem?_eq_getElem hil⟩
    have hxo := hl x (List.mem_of_getElem? hx)
    have hst := qps_step (t := t) hx
    have hsz : (qps t (l.take i)).size <= 40000 := qps_size ht fun y hy => hl y (List.mem_of_mem_take hy)
    have hbg := qps_big (t := t) (l := l) i
    have hgx : (l.map Value.string)[i]? = some (.string x) := by rw [List.getElem?_map, hx]; rfl
    have hx2 := hxo.2
    generalize qps t (l.take i) = u at *
    rcases Nat.lt_or_ge 16384 u.size with hu | hu
    · rw [q0_l hu]
      repeat refine st mo ?_
      refine ⟨_, rfl, st mo ?_⟩
      repeat refine st mo ?_
      rw [hbg hu]
      exact ⟨rfl, [0], ft0, ⟨trivial, by rw [q0_l hu]; exact fl rfl rfl, trivial⟩, rfl, rfl⟩
    · rw [q0_s hu]
      have e : ∀ a, qp1 u a = (if u.size = 0 then u else u ++ Spc) ++ a := fun a => by unfold qp1; rw [if_neg (by omega)]
      repeat refine st mo ?_
      refine ⟨_, rfl, st mo ?_⟩
      repeat refine st mo ?_
      refine ⟨_, rfl, st mo ?_⟩
      repeat refine st mo ?_
      refine ⟨fun h0 => ?_, fun h0 => ?_⟩
      · have hu0 : u.size ≠ 0 := fun h => h0 (size0.1 h)
        have e1 : qp1 u x = u ++ Spc ++ x := by rw [e, if_neg hu0]
        repeat refine st mo ?_
        refine ⟨_, rfl, st mo ?_⟩
        repeat refine st mo ?_
        refine ⟨.string _, sad _ _ (by show u.size + 1 <= _; omega), rfl, st mo ?_⟩
        repeat refine st mo ?_
        refine ⟨by show 0 + 1 <= 2; omega, [.string (u ++ Spc), litF], rfl, st mo ?_⟩
        have hAx : (u ++ Spc ++ x).size <= 40000 := by rw [← e1]; exact qp1_size hsz hx2
        have hAx2 : (u ++ Spc).size + x.size <= 40000 := by rw [ByteArray.size_append] at hAx; exact hAx
        repeat refine st mo ?_
        refine ⟨_, rfl, st mo ?_⟩
        repeat refine st mo ?_
        refine ⟨i, rfl, hil, st mo ⟨_, hgx, st mo ?_⟩⟩
        repeat refine st mo ?_
        refine ⟨.string _, sad (u ++ Spc) x (by omega), rfl, st mo ?_⟩
        repeat refine st mo ?_
        refine ⟨by show 0 + 1 <= 2; omega, [.string (u ++ Spc ++ x), litF], rfl, st mo ?_⟩
        repeat refine st mo ?_
        refine ⟨dk, st mo ?_⟩
        repeat refine st mo ?_
        refine ⟨_, rfl, st mo ?_⟩
        rw [← e1]
        repeat refine st mo ?_
        refine ⟨fun h1 => ?_, fun h1 => ?_⟩
        · have hq : q0 (qp1 u x) = [.string (qp1 u x), litT] := q0_l (by omega)
          repeat refine st mo ?_
          refine ⟨by show 0 + 1 + 1 <= 2; omega, [.string (qp1 u x), litT], rfl, st mo ?_⟩
          repeat refine st mo ?_
          refine ⟨_, wz (i + 1) rfl, st mo ?_⟩
          exact ⟨i + 1, hil, by show l.length - (i + 1) < l.length - i; omega, [0, 1], rfl, ⟨fp, fs, fv, trivial⟩, ⟨trivial, by rw [hst, hq]; exact fl rfl rfl, trivial, fl rfl (str_pur l), trivial⟩, xf, rfl, rfl⟩
        · have hq : q0 (qp1 u x) = [.string (qp1 u x), litF] := q0_s (by omega)
          repeat refine st mo ?_
          refine ⟨by show 0 + 1 + 1 <= 2; omega, [.string (qp1 u x), litF], rfl, st mo ?_⟩
          repeat refine st mo ?_
          refine ⟨_, wz (i + 1) rfl, st mo ?_⟩
          exact ⟨i + 1, hil, by show l.length - (i + 1) < l.length - i; omega, [0, 1], rfl, ⟨fp, fs, fv, trivial⟩, ⟨trivial, by rw [hst, hq]; exact fl rfl rfl, trivial, fl rfl (str_pur l), trivial⟩, xf, rfl, rfl⟩
      · have e1 : qp1 u x = u ++ x := by rw [e, if_pos (by rw [h0]; rfl)]
        have hAx : (u ++ x).size <= 40000 := by rw [← e1]; exact qp1_size hsz hx2
        have hAx2 : u.size + x.size <= 40000 := by rw [ByteArray.size_append] at hAx; exact hAx
        repeat refine st mo ?_
        refine ⟨_, rfl, st mo ?_⟩
        repeat refine st mo ?_
        refine ⟨i, rfl, hil, st mo ⟨_, hgx, st mo ?_⟩⟩
        repeat refine st mo ?_
        refine ⟨.string _, sad u x (by omega), rfl, st mo ?_⟩
        repeat refine st mo ?_
        refine ⟨by show 0 + 1 <= 2; omega, [.string (u ++ x), litF], rfl, st mo ?_⟩
        repeat refine st mo ?_
        refine ⟨dk, st mo ?_⟩
        repeat refine st mo ?_
        refine ⟨_, rfl, st mo ?_⟩
        rw [← e1]
        repeat refine st mo ?_
        refine ⟨fun h1 => ?_, fun h1 => ?_⟩
        · have hq : q0 (qp1 u x) = [.string (qp1 u x), litT] := q0_l (by omega)
          repeat refine st mo ?_
          refine ⟨by show 0 + 1 + 1 <= 2; omega, [.string (qp1 u x), litT], rfl, st mo ?_⟩
          repeat refine st mo ?_
          refine ⟨_, wz (i + 1) rfl, st mo ?_⟩
          exact ⟨i + 1, hil, by show l.length - (i + 1) < l.length - i; omega, [0, 1], rfl, ⟨fp, fs, fv, trivial⟩, ⟨trivial, by rw [hst, hq]; exact fl rfl rfl, trivial, fl rfl (str_pur l), trivial⟩, xf, rfl, rfl⟩
        · have hq : q0 (qp1 u x) = [.string (qp1 u x), litF] := q0_s (by omega)
          repeat refine st mo ?_
          refine ⟨by show 0 + 1 + 1 <= 2; omega, [.string (qp1 u x), litF], rfl, st mo ?_⟩
          repeat refine st mo ?_
          refine ⟨_, wz (i + 1) rfl, st mo ?_⟩
          exact ⟨i + 1, hil, by show l.length - (i + 1) < l.length - i; omega, [0, 1], rfl, ⟨fp, fs, fv, trivial⟩, ⟨trivial, by rw [hst, hq]; exact fl rfl rfl, trivial, fl rfl (str_pur l), trivial⟩, xf, rfl, rfl⟩
  · repeat refine st mo ?_
    have : i = l.length := by omega
    subst this
    rw [List.take_length]
    exact ⟨rfl, [0], ft0, ⟨trivial, fl rfl (q0_pur _), trivial⟩, rfl, rfl⟩
end Go.Proofs.YtpabcmaeaiaknaaGreatDoor
