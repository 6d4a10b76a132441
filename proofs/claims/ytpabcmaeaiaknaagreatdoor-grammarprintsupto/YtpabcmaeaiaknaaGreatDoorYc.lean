/-
  Texts in quotes, over lists: what Quote writes, what Unquote takes out, and that each is the other's way back. limb.divLimb, whatever the limbs: the walk. limb.Text, whatever the limbs: the walk. Decimal digits as plain lists. Bytes of one's own: as a string, behind others; the document's text of a number. The document's text of a number: its decimal digits. Is a number one that may be? strings.Repeat of one zero, up to eighteen times. A number as a text: both sides say the same. A number as a text: both sides say the same. strconv.Itoa and strconv.FormatBool at this program: the contracts of the library, laid. Whole numbers as texts: the program's and the document's. Calls that come to something in new memory: what is told of grows with them. A builder of strings: bytes put behind one another. A builder of strings: what its calls do. A builder's text. Texts in quotes: the document's. A block that is made: from then on its type is known. Texts in quotes: the program's. Values that may stand in a text. Values that may stand in a text: both sides ask the same. Nodes that may stand in a text: the program's. Nodes that may stand in a text: the program's. Expressions that a text may say: the program's. Expressions that a text may say: the document's. The program's writer: words put behind one another.
-/
import Derived.Test.YtpabcmaeaiaknaaGreatDoorYb
import Derived.Deep.CutBlock
import Derived.Deep.CutRange
import Derived.ChangeKeysEq
import Derived.ScopeJumps
import Derived.WalkMore
import Derived.Laws.StructEq
import Derived.Maps.AppendAt
import Derived.Deep.AppendLies
import Derived.Laws.BytesString
import Derived.Lib.CutLaws
import Derived.Lib.IndexBytes
import Derived.Orders
import Derived.Shelf.Small.Wraps
import Derived.Shelf.LaysM
import Derived.Shelf.Strconv.Itoa3
import Derived.Test.YtpabcmaeaiaknaaGreatDoorProg
import Derived.Lib.Builder
import Derived.Lib.UnsafeStr
namespace Go.Proofs.YtpabcmaeaiaknaaGreatDoor.V
open Go.RowKit
def hx (n : Nat) : UInt8 := if n < 10 then (48 + n).toUInt8 else (87 + n).toUInt8
end Go.Proofs.YtpabcmaeaiaknaaGreatDoor.V
namespace Go.Proofs.YtpabcmaeaiaknaaGreatDoor
open Go.RowKit
theorem dl_step {r a c q s : Int} (hr : 0 <= r) (hrc : r < c) (ha : U1 a) (_hc : 0 < c) (hq : q = (r * 18446744073709551616 + a) / c) (hs : s = (r * 18446744073709551616 + a) % c) : U1 q /\ 0 <= s /\ s < c /\ c * q + s = r * 18446744073709551616 + a := by
  subst hq hs
  obtain ⟨a0, a1⟩ := ha
  refine ⟨⟨Int.ediv_nonneg (by omega) (by omega), Int.ediv_lt_of_lt_mul (by omega) (by omega)⟩, Int.emod_nonneg _ (by omega), Int.emod_lt_of_pos _ (by omega), Int.mul_ediv_add_emod _ _⟩
theorem dl_eq {a0 a1 a2 a3 c q0 q1 q2 q3 r0 r1 r2 r3 : Int} (ha : U4 a0 a1 a2 a3) (hc : 0 < c)
    (e3 : q3 = a3 / c) (f3 : r3 = a3 % c) (e2 : q2 = (r3 * 18446744073709551616 + a2) / c) (f2 : r2 = (r3 * 18446744073709551616 + a2) % c) (e1 : q1 = (r2 * 18446744073709551616 + a1) / c) (f1 : r1 = (r2 * 18446744073709551616 + a1) % c) (e0 : q0 = (r1 * 18446744073709551616 + a0) / c) (f0 : r0 = (r1 * 18446744073709551616 + a0) % c) :
    (U4 q0 q1 q2 q3 /\ (0 <= r3 /\ r3 < c) /\ (0 <= r2 /\ r2 < c) /\ (0 <= r1 /\ r1 < c) /\ (0 <= r0 /\ r0 < c)) /\ vl q0 q1 q2 q3 = vl a0 a1 a2 a3 / c /\ r0 = vl a0 a1 a2 a3 % c := by
  obtain ⟨g0, g1, g2, g3⟩ := ha
  obtain ⟨u3, s3, t3, m3⟩ := dl_step (Int.le_refl 0) hc g3 hc (show q3 = (0 * 18446744073709551616 + a3) / c by rw [e3]; simp) (show r3 = (0 * 18446744073709551616 + a3) % c by rw [f3]; simp)
  obtain ⟨u2, s2, t2, m2⟩ := dl_step s3 t3 g2 hc e2 f2
  obtain ⟨u1, s1, t1, m1⟩ := dl_step s2 t2 g1 hc e1 f1
  obtain ⟨u0, s0, t0, m0⟩ := dl_step s1 t1 g0 hc e0 f0
  have key : vl a0 a1 a2 a3 = r0 + c * vl q0 q1 q2 q3 := by
    have e : c * vl q0 q1 q2 q3 = c * q0 + 18446744073709551616 * (c * q1) + 340282366920938463463374607431768211456 * (c * q2) + 6277101735386680763835789423207666416102355444464034512896 * (c * q3) := by
      unfold vl; rw [Int.mul_add, Int.mul_add, Int.mul_add, Int.mul_left_comm, Int.mul_left_comm c _ q2, Int.mul_left_comm c _ q3]
    rw [e]; unfold vl; omega
  refine ⟨⟨⟨u0, u1, u2, u3⟩, ⟨s3, t3⟩, ⟨s2, t2⟩, ⟨s1, t1⟩, s0, t0⟩, ?_, ?_⟩
  · rw [key, Int.add_mul_ediv_left _ _ (by omega), Int.ediv_eq_zero_of_lt s0 t0, Int.zero_add]
  · rw [key, Int.add_mul_emod_self_left, Int.emod_eq_of_lt s0 t0]

theorem setd (w : World) (n : Nat) (a : Addr) (v : Value) : (w.drewN n).setCell a v = (w.setCell a v).drewN n := rfl
set_option maxHeartbeats 1000000 in
theorem divLimb_raw (a0 a1 a2 a3 c q0 q1 q2 q3 r0 r1 r2 r3 : Int) (w : World) (ha : U4 a0 a1 a2 a3) (hc : 0 < c) (hc2 : c < 18446744073709551616) (b3 : 0 <= r3) (b3' : r3 < c) (b2 : 0 <= r2) (b2' : r2 < c) (b1 : 0 <= r1) (b1' : r1 < c)
    (e3 : a3 / c = q3) (f3 : a3 % c = r3) (e2 : (r3 * 18446744073709551616 + a2) / c = q2) (f2 : (r3 * 18446744073709551616 + a2) % c = r2) (e1 : (r2 * 18446744073709551616 + a1) / c = q1) (f1 : (r2 * 18446744073709551616 + a1) % c = r1) (e0 : (r1 * 18446744073709551616 + a0) / c = q0) (f0 : (r1 * 18446744073709551616 + a0) % c = r0) :
    Calls Tryz.prog 244 #[.agg #[.int .u64 a0, .int .u64 a1, .int .u64 a2, .int .u64 a3], .int .u64 c] w fun e w' =>
      e = .returned (.tuple #[.agg #[.int .u64 q0, .int .u64 q1, .int .u64 q2, .int .u64 q3], .int .u64 r0]) /\ Mo w w' := by
  obtain ⟨⟨p0, s0⟩, ⟨p1, s1⟩, ⟨p2, s2⟩, ⟨p3, s3⟩⟩ := ha
  have sd := setd
  go_enter Tryz.func244, Tryz.ntmps244
  go_wp2
  refine wp_loop_rounds 5 ?_
  rw [rounds_succ]
  go_wp2_with (go_at_call 260; refine (div64_any 0 a3 c _ (Int.le_refl 0) hc p3 s3 hc2).mono ?_; rintro e w' ⟨rfl, n, rfl⟩)
  rw [rounds_succ]
  go_wp2_with (go_at_call 260; refine (div64_any r3 a2 c _ b3 b3' p2 s2 hc2).mono ?_; rintro e w' ⟨rfl, n, rfl⟩)
  rw [rounds_succ]
  go_wp2_with (go_at_call 260; refine (div64_any r2 a1 c _ b2 b2' p1 s1 hc2).mono ?_; rintro e w' ⟨rfl, n, rfl⟩)
  rw [rounds_succ]
  go_wp2_with (go_at_call 260; refine (div64_any r1 a0 c _ b1 b1' p0 s0 hc2).mono ?_; rintro e w' ⟨rfl, n, rfl⟩)
  rw [rounds_succ]
  go_wp2
  refine bodyPost_ret (v := .tuple #[.agg #[.int .u64 q0, .int .u64 q1, .int .u64 q2, .int .u64 q3], .int .u64 r0]) (by simp [results, Tryz.results244, go_sem]) rfl ?_
  refine ⟨rfl, ?_⟩
  repeat (first | with_reducible exact Mo.refl _ | with_reducible apply Mo.drew | with_reducible apply Mo.drewN | with_reducible apply Mo.alloc | with_reducible refine Mo.setCell ?_ (by simp <;> omega) _ | with_reducible refine Mo.trans ?_ (by with_reducible assumption))

theorem divLimb_any (a0 a1 a2 a3 c : Int) (w : World) (ha : U4 a0 a1 a2 a3) (hc : 0 < c) (hc2 : c < 18446744073709551616) :
    Calls Tryz.prog 244 #[.agg #[.int .u64 a0, .int .u64 a1, .int .u64 a2, .int .u64 a3], .int .u64 c] w fun e w' =>
      e = .returned (.tuple #[nv (vl a0 a1 a2 a3 / c), .int .u64 (vl a0 a1 a2 a3 % c)]) /\ Mo w w' := by
  obtain ⟨⟨u, ⟨x3, y3⟩, ⟨x2, y2⟩, ⟨x1, y1⟩, _⟩, e, f⟩ := dl_eq ha hc rfl rfl rfl rfl rfl rfl rfl rfl
  rw [← e, ← f, nv_vl u]
  exact divLimb_raw a0 a1 a2 a3 c _ _ _ _ _ _ _ _ w ha hc hc2 x3 y3 x2 y2 x1 y1 rfl rfl rfl rfl rfl rfl rfl rfl
def decF : Nat -> Int -> List Int
  | 0, _ => []
  | f + 1, n => if n / 10 = 0 then [48 + n % 10] else decF f (n / 10) ++ [48 + n % 10]
def strOf (ns : List Int) : ByteArray := ns.foldl (fun r n => r.push (UInt8.ofNat n.toNat)) ByteArray.empty
def Z78 : Array Value := Array.replicate 78 (.int .u8 0)
theorem z60 (w : World) : (zeroValue 241).run Tryz.prog w = .ok (.agg Z78) w := by kernel_rfl
def Dg (w : World) (k p : Nat) (acc : List Int) : Prop := ∀ j, j < 78 -> w.cell? ⟨k, j, none⟩ = some (.int .u8 (if j < p then 0 else acc.getD (j - p) 0))
def TW (w wx : World) (n : Int) (p : Nat) (acc : List Int) : Prop := Mo w wx /\ w.heap.size + 1 < wx.heap.size /\ At4 wx w.heap.size (l0 n) (l1 n) (l2 n) (l3 n) /\ Fz wx w.heap.size /\ Fz wx (w.heap.size + 1) /\ Dg wx (w.heap.size + 1) p acc
theorem TW.mo {w wx w1 : World} {n : Int} {p : Nat} {acc : List Int} (h : TW w wx n p acc) (m : Mo wx w1) : TW w w1 n p acc := by
  obtain ⟨h1, h2, h3, h4, h5, h6⟩ := h
  have := m.size
  exact ⟨h1.trans m, by omega, h3.mo m (by omega), h4.mo m, h5.mo m, fun j hj => (m.cell _ _ h2).trans (h6 j hj)⟩
theorem TW.step {w w1 : World} {n q d : Int} {p : Nat} {acc : List Int} (h : TW w w1 n (p + 1) acc) (hp : p < 78) :
    TW w (((((w1.setCell ⟨w.heap.size, 0, none⟩ (.int .u64 (l0 q))).setCell ⟨w.heap.size, 1, none⟩ (.int .u64 (l1 q))).setCell ⟨w.heap.size, 2, none⟩ (.int .u64 (l2 q))).setCell ⟨w.heap.size, 3, none⟩ (.int .u64 (l3 q))).setCell ⟨w.heap.size + 1, p, none⟩ (.int .u8 d)) q p (d :: acc) := by
  obtain ⟨h1, h2, ⟨b0, b1, b2, b3⟩, h4, h5, h6⟩ := h
  refine ⟨?_, by simpa [World.setCell] using h2, ?_, ?_, ?_, ?_⟩
  · exact ((((h1.setCell (Nat.le_refl _) _).setCell (Nat.le_refl _) _).setCell (Nat.le_refl _) _).setCell (Nat.le_refl _) _).setCell (by show w.heap.size <= w.heap.size + 1; omega) _
  · simp [At4, go_sem, *]
  · intro o; simp [World.frozen?_setCell, h4 o]
  · intro o; simp [World.frozen?_setCell, h5 o]
  · intro j hj
    have e := h6 j hj
    by_cases hjp : j = p
    · subst hjp
      simp [go_sem, e]
    · have e2 : (((((w1.setCell ⟨w.heap.size, 0, none⟩ (.int .u64 (l0 q))).setCell ⟨w.heap.size, 1, none⟩ (.int .u64 (l1 q))).setCell ⟨w.heap.size, 2, none⟩ (.int .u64 (l2 q))).setCell ⟨w.heap.size, 3, none⟩ (.int .u64 (l3 q))).setCell ⟨w.heap.size + 1, p, none⟩ (.int .u8 d)).cell? ⟨w.heap.size + 1, j, none⟩ = w1.cell? ⟨w.heap.size + 1, j, none⟩ := by
        simp [go_sem, e]
      rw [e2, e]
      by_cases hlt : j < p
      · rw [if_pos (by omega), if_pos hlt]
      · rw [if_neg (by omega), if_neg hlt, show j - p = (j - (p + 1)) + 1 from by omega]
        simp
theorem TW.start (w : World) (n : Int) : TW w ((w.alloc (.cells #[.int .u64 (l0 n), .int .u64 (l1 n), .int .u64 (l2 n), .int .u64 (l3 n)] 24)).alloc (.cells Z78 241)) n 78 [] := by
  refine ⟨((Mo.refl _).alloc _ _).alloc _ _, by simp, by simp [At4, go_sem], fun o => by simp [go_sem], fun o => by simp [go_sem], ?_⟩
  intro j hj
  rw [if_pos hj]
  have : Z78[j]? = some (.int .u8 0) := by unfold Z78; simp [hj]
  simp [go_sem, this]
theorem conv (W : World) (k p l c : Nat) (acc : List Int) (h : Dg W k p acc) (hp : p + acc.length = 78) (hl : l = acc.length) :
    (convert 68 9 (.slice (some ⟨k, p, none⟩) l c)).run Tryz.prog W = .ok (.string (strOf acc)) W := by
  subst hl
  rw [run_convert_bytes_string W 68 9 5 _ _ _ Tryz.underlying68 Tryz.underlying5 Tryz.underlying9, run_bytesToString W _ _ _ acc]
  · rfl
  · rw [show acc.length = (acc.map (Value.int .u8)).length by simp]
    refine run_loadCells_list W _ _ ?_
    intro j v hv
    rw [List.getElem?_map, Option.map_eq_some_iff] at hv
    obtain ⟨x, hx, rfl⟩ := hv
    have hj : j < acc.length := by
      rcases Nat.lt_or_ge j acc.length with h' | h'
      · exact h'
      · rw [List.getElem?_eq_none h'] at hx; cases hx
    rw [Addr.add_mid]
    have := h (p + j) (by omega)
    rw [if_neg (by omega), show p + j - p = j from by omega, List.getD, hx] at this
    exact this
theorem len60 : Tryz.prog.arrayLen 241 = 78 := by kernel_rfl
theorem elem60 : Tryz.prog.elem 241 = 5 := by kernel_rfl
theorem sl60 (k p : Nat) (W : World) (h : p < 78) : (Instr.sliceAt 241 (.pointer (some ⟨k, 0, none⟩)) (some (.int .i64 (p : Int))) none none).run Tryz.prog W = .ok (.slice (some ⟨k, p, none⟩) (78 - p) (78 - p)) W := by
  have e := run_sliceAt_array_l (P := Tryz.prog) W 241 ⟨k, 0, none⟩ (by rw [len60, elem60]; exact Tryz.underlying241) .i64 (p : Int) (by omega) (by rw [len60]; omega)
  rw [e, len60, elem60, Tryz.sizeOf5]
  simp only [Result.andThen_ok, slicedAt, Int.toNat_natCast]
  rw [if_neg (by omega), Addr.add_mid, Nat.mul_one, Nat.zero_add]
theorem text_end {n : Int} {p : Nat} (h : n / 10 = 0) : decF (p + 1) n = [48 + n % 10] := by rw [decF, if_pos h]
theorem text_on {n : Int} {p : Nat} (h : n / 10 ≠ 0) : decF (p + 1) n = decF p (n / 10) ++ [48 + n % 10] := by rw [decF, if_neg h]

set_option maxHeartbeats 1000000 in
theorem text_n (n : Int) (w : World) (hn0 : 0 <= n) (hn : n < MM) :
    Calls Tryz.prog 219 #[nv n] w fun e w' =>
      e = .returned (.string (strOf (decF 78 n))) /\ Mo w w' := by
  have hz := z60
  have q4 := eq4
  go_enter Tryz.func219, Tryz.ntmps219
  go_wp2
  refine wp_scope_jumps 0 (fun a' w' => ∃ (m : Int) (p : Nat) (acc : List Int) (u4 u6 u7 u8 u9 u10 u11 u12 u13 u14 u15 u16 u17 u18 u19 u20 u21 u22 u23 : Value), a' = { tmps := #[nv n, .pointer (some ⟨w.heap.size, 0, none⟩), .string ⟨#[]⟩, .pointer (some ⟨w.heap.size + 1, 0, none⟩), u4, .int .i64 ((p : Int) + 1), u6, u7, u8, u9, u10, u11, u12, u13, u14, u15, u16, u17, u18, u19, u20, u21, u22, u23], defers := [] } /\ TW w w' m (p + 1) acc /\ 0 < m /\ m < 10 ^ (p + 1) /\ m < MM /\ p + 1 + acc.length = 78 /\ decF 78 n = decF (p + 1) m ++ acc) (fun a' _ => (intOf (a'.tmps.getD 5 undef)).toNat) rfl ?_ ?_
  · go_wp2_with fail
    go_step3
    go_wp2_with fail
    refine (divLimb_any (l0 n) (l1 n) (l2 n) (l3 n) 10 _ (u4_lb n) (by decide) (by decide)).mono ?_
    rintro e w1 ⟨rfl, hm⟩
    rw [vl_lb n hn0 hn]
    have t1 := (TW.start w n).mo hm
    have t3 := TW.step (q := n / 10) (d := 48 + n % 10) t1 (by decide)
    have z4 := zero4 (q := n / 10) (by omega) (by unfold MM at *; omega)
    have t2 := t1
    obtain ⟨k0, k1, ⟨A0, A1, A2, A3⟩, F1, F2, D⟩ := t2
    have F1 := fun o => F1 o
    have F2 := fun o => F2 o
    have D0 := D 77 (by decide)
    simp at D0
    clear hm D
    by_cases hq : n / 10 = 0
    · have hb : (l0 (n / 10) == 0 && (l1 (n / 10) == 0 && (l2 (n / 10) == 0 && l3 (n / 10) == 0))) = true := by rw [z4]; exact decide_eq_true hq
      have cv := conv _ _ _ 1 1 _ t3.2.2.2.2.2 (by rfl) rfl
      have HE : Hid (decF 78 n = [48 + n % 10]) := text_end hq
      clear z4 hq
      go_wp2_with fail
      simp only [Exit.jump]
      go_ret
      exact ⟨by rw [HE.out]; rfl, t3.1⟩
    · have hb : (l0 (n / 10) == 0 && (l1 (n / 10) == 0 && (l2 (n / 10) == 0 && l3 (n / 10) == 0))) = false := by rw [z4]; exact decide_eq_false hq
      have HE : Hid (decF 78 n = decF 77 (n / 10) ++ [48 + n % 10]) := text_on hq
      have HQ : Hid (n / 10 ≠ 0) := hq
      clear z4 hq
      go_wp2_with fail
      go_step3
      refine ⟨rfl, n / 10, 76, [48 + n % 10], _, _, _, _, _, _, _, _, _, _, _, _, _, _, _, _, _, _, _, rfl, t3, ?_, ?_, ?_, rfl, HE.out⟩
      · have := HQ.out; omega
      · unfold MM at hn; omega
      · unfold MM at *; omega
  · rintro a' w' ⟨m, p, acc, u4, u6, u7, u8, u9, u10, u11, u12, u13, u14, u15, u16, u17, u18, u19, u20, u21, u22, u23, rfl, ht, hm0, hm10, hmM, hlen, hdec⟩
    have hp : p < 78 := by omega
    have HD : Hid (decF 78 n = decF (p + 1) m ++ acc) := hdec
    have HL : Hid (p + 1 + acc.length = 78) := hlen
    have HM : Hid (m < 10 ^ (p + 1)) := hm10
    clear hdec hlen hm10
    have ht0 := ht
    obtain ⟨k0, k1, ⟨A0, A1, A2, A3⟩, F1, F2, D⟩ := ht
    clear D F1 F2
    go_wp2_with fail
    refine (divLimb_any (l0 m) (l1 m) (l2 m) (l3 m) 10 _ (u4_lb m) (by decide) (by decide)).mono ?_
    rintro e w1 ⟨rfl, hm⟩
    rw [vl_lb m (by omega) hmM]
    have t1 := ht0.mo hm
    have t3 := TW.step (q := m / 10) (d := 48 + m % 10) t1 hp
    have z4 := zero4 (q := m / 10) (by omega) (by unfold MM at *; omega)
    have t2 := t1
    clear A0 A1 A2 A3 k0 k1
    obtain ⟨k0, k1, ⟨A0, A1, A2, A3⟩, F1, F2, D⟩ := t2
    have F1 := fun o => F1 o
    have F2 := fun o => F2 o
    have D0 := D p hp
    rw [if_pos (by omega)] at D0
    clear hm D
    by_cases hq : m / 10 = 0
    · have hb : (l0 (m / 10) == 0 && (l1 (m / 10) == 0 && (l2 (m / 10) == 0 && l3 (m / 10) == 0))) = true := by rw [z4]; exact decide_eq_true hq
      have cv := fun l c (hl : l = _) => conv _ _ _ l c _ t3.2.2.2.2.2 (by have := HL.out; simp; omega) hl
      have HE : Hid (decF (p + 1) m = [48 + m % 10]) := text_end hq
      clear z4 hq
      have sl := fun k W => sl60 k p W hp
      have cv2 := cv (78 - p) (78 - p) (by have := HL.out; simp; omega)
      clear cv
      go_wp2_with fail
      simp only [Exit.jump]
      go_ret
      exact ⟨by rw [HD.out, HE.out]; rfl, t3.1⟩
    · have hb : (l0 (m / 10) == 0 && (l1 (m / 10) == 0 && (l2 (m / 10) == 0 && l3 (m / 10) == 0))) = false := by rw [z4]; exact decide_eq_false hq
      have HE : Hid (decF (p + 1) m = decF p (m / 10) ++ [48 + m % 10]) := text_on hq
      have HQ : Hid (m / 10 ≠ 0) := hq
      clear z4 hq
      go_wp2_with fail
      go_step3
      have b1 := HQ.out
      have b2 := HM.out
      rw [Int.pow_succ] at b2
      have hp1 : 1 <= p := by
        rcases Nat.eq_zero_or_pos p with h | h
        · subst h; simp at b2; omega
        · exact h
      obtain ⟨r, rfl⟩ : ∃ r, p = r + 1 := ⟨p - 1, by omega⟩
      refine ⟨rfl, ⟨m / 10, r, (48 + m % 10) :: acc, _, _, _, _, _, _, _, _, _, _, _, _, _, _, _, _, _, _, _, rfl, t3, by omega, by omega, by unfold MM at *; omega, ?_, ?_⟩, ?_⟩
      · have := HL.out; simp; omega
      · rw [HD.out, HE.out]; simp
      · simp [intOf]; omega
end Go.Proofs.YtpabcmaeaiaknaaGreatDoor
namespace Go.Proofs.YtpabcmaeaiaknaaGreatDoor
open S Go.RowKit
abbrev by8 (n : Int) : Value := .int .u8 n
def bcs (s : ByteArray) : List Value := s.data.toList.map fun b => Value.int .u8 b.toNat
def bys (s : ByteArray) : List Int := s.data.toList.map fun b => (b.toNat : Int)
theorem bcs_bys (s : ByteArray) : bcs s = (bys s).map by8 := by unfold bcs bys; rw [List.map_map]; rfl
theorem bcs_len (s : ByteArray) : (bcs s).length = s.size := by unfold bcs; simp
theorem bcs_app (s t : ByteArray) : bcs (s ++ t) = bcs s ++ bcs t := by unfold bcs; rw [ByteArray.data_append]; simp
theorem by8_pur (ns : List Int) : (ns.map by8).all pur1 = true := by simp [pur1]
theorem bcs_pur (s : ByteArray) : (bcs s).all pur1 = true := by rw [bcs_bys]; exact by8_pur _
theorem by8_den (ns : List Int) : (ns.map by8).map den1 = ns.map by8 := by rw [List.map_map]; rfl
theorem bcs_den (s : ByteArray) : (bcs s).map den1 = bcs s := by rw [bcs_bys, by8_den]
theorem strOf_eq (ns : List Int) : strOf ns = ⟨(ns.map fun n => UInt8.ofNat n.toNat).toArray⟩ := by unfold strOf; rw [push_fold]; simp
theorem bys_strOf {ns : List Int} (h : ∀ n ∈ ns, 0 <= n /\ n < 256) : bys (strOf ns) = ns := by
  rw [strOf_eq]; unfold bys
  simp only [List.map_map]
  conv => rhs; rw [← List.map_id ns]
  refine List.map_congr_left fun n hn => ?_
  have := h n hn
  show ((UInt8.ofNat n.toNat).toNat : Int) = n
  rw [UInt8.toNat_ofNat']; omega
section
variable {w0 : B0} {X : World} {o : Oper} {fr : FT} {h : HT} {n : Nat} {s d e : TypeId} {y : Operand} {b m es : Nat}
theorem r_cvB (ns : List Int) (hm : ns.length = m) (hcs : hget h b = some (ns.map by8)) (ho : o.op = .convert s d y := by rfl) (hv : evo fr y = .slice (some ⟨b, 0, none⟩) m es := by rfl) (hu : Tryz.prog.underlying s = some (.slice e) := by rfl) (hue : Tryz.prog.underlying e = some (.int .u8) := by rfl) (hud : Tryz.prog.underlying d = some .string := by rfl) : Oa (Am w0 X) Tryz.prog o fr h n ⟨.string (strOf ns), h, n, bit b, 0⟩ := by
  refine Oo.to ⟨Ss.read _ _ _, fun k W a K' Q hop H _ hk => ?_⟩
  have h1 := hop y (by simp [ho, Op.operands])
  rw [hv] at h1
  obtain ⟨_, b', zz, cap, hkb, h7, _⟩ := h1.slc_inv
  obtain ⟨b2, vs, sp, ty, e1, e2, e3⟩ := (H.rep b (tb_bit.2 rfl) _ hcs).cel hkb
  have hkb' : k b = some (b', zz + 1) := hkb
  rw [hkb'] at e1; cases e1
  have h3 := LR.map (p := pur1) (d := den1) (fun _ _ h => pur1_eq h) e3 (by8_pur ns)
  rw [by8_den] at h3
  subst h3 hm
  have hload : (loadCells ⟨b', 0, none⟩ ns.length).run Tryz.prog W = .ok (ns.map (Value.int .u8)).toArray W := by
    have := run_loadCells_list (P := Tryz.prog) W ⟨b', 0, none⟩ (ns.map (Value.int .u8)) (fun j u hu' => by
      rw [Addr.add_mid, cell_of e2, Nat.zero_add, List.getElem?_append_left (List.getElem?_eq_some_iff.1 hu').1]; exact hu')
    rwa [List.length_map] at this
  have hrun := run_bytesToString (P := Tryz.prog) W ⟨b', 0, none⟩ ns.length cap ns hload
  rw [← run_convert_bytes_string W s d e _ _ _ hu hue hud] at hrun
  unfold Oper.wp
  have : (execOp a.eval o).run Tryz.prog W = .ok (.value (.string (strOf ns))) W := by
    simp only [execOp, ho, h7]
    rw [Sem.run_bind, hrun]
    rfl
  rw [this, Oper.upon_value]
  exact hk _ W k (Sd.read H) (VX.of0 rfl)
end
theorem put_str {A : K -> World -> Prop} {h : HT} {t : TypeId} (hu : Tryz.prog.underlying t = some .string) (s : ByteArray) : Put A Tryz.prog h t 1 (.string s) s.size (bcs s) 0 := ⟨fun k W u _ _ hv => by
  have : u = .string s := pur1_eq hv rfl
  rw [this]
  refine ⟨bcs s, ?_, Src.ofString W hu s⟩
  have := LR.mk (R := VX k) (p := pur1) (d := den1) (fun _ h => pur1_vx h) (bcs_pur s)
  rwa [bcs_den] at this⟩
def swp (i : Nat) (M : List Int) : List Int := (List.range M.length).map fun j => M.getD (if j < i ∨ M.length - 1 - i < j then M.length - 1 - j else j) 0
theorem swp_len (i : Nat) (M : List Int) : (swp i M).length = M.length := by simp [swp]
theorem swp_get {i j : Nat} {M : List Int} (h : j < M.length) : (swp i M)[j]? = some (M.getD (if j < i ∨ M.length - 1 - i < j then M.length - 1 - j else j) 0) := by
  unfold swp; rw [List.getElem?_map, List.getElem?_range h]; rfl
theorem swp_0 (M : List Int) : swp 0 M = M := by
  refine List.ext_getElem? fun j => ?_
  by_cases h : j < M.length
  · rw [swp_get h, if_neg (by omega), List.getD_eq_getElem?_getD, List.getElem?_eq_getElem h]; rfl
  · rw [List.getElem?_eq_none (by rw [swp_len]; omega), List.getElem?_eq_none (by omega)]
theorem swp_end {i : Nat} {M : List Int} (h : M.length - 1 - i <= i) : swp i M = M.reverse := by
  refine List.ext_getElem? fun j => ?_
  by_cases hj : j < M.length
  · rw [swp_get hj, List.getElem?_reverse hj, List.getD_eq_getElem?_getD]
    split
    · rw [List.getElem?_eq_getElem (show M.length - 1 - j < M.length by omega)]; rfl
    · rename_i hh
      rw [show M.length - 1 - j = j by omega, List.getElem?_eq_getElem hj]; rfl
  · rw [List.getElem?_eq_none (by rw [swp_len]; omega), List.getElem?_eq_none (by simp; omega)]
theorem swp_step {i : Nat} {M : List Int} (h : i < M.length - 1 - i) : ((swp i M).set i (M.getD (M.length - 1 - i) 0)).set (M.length - 1 - i) (M.getD i 0) = swp (i + 1) M := by
  refine List.ext_getElem? fun j => ?_
  by_cases hj : j < M.length
  · rw [swp_get hj, List.getElem?_set, List.getElem?_set]
    simp only [List.length_set, swp_len]
    by_cases h1 : M.length - 1 - i = j
    · rw [if_pos h1, if_pos (by omega), if_pos (by omega), show M.length - 1 - j = i by omega]
    · rw [if_neg h1]
      by_cases h2 : i = j
      · rw [if_pos h2, if_pos (by omega), if_pos (by omega), h2]
      · rw [if_neg h2, swp_get hj]
        congr 2
        by_cases h3 : j < i ∨ M.length - 1 - i < j
        · rw [if_pos h3, if_pos (by omega)]
        · rw [if_neg h3, if_neg (by omega)]
  · rw [List.getElem?_eq_none (by simp [swp_len]; omega), List.getElem?_eq_none (by rw [swp_len]; omega)]
theorem set_at {f : Int -> Value} {cs : List Int} {q : Nat} {v : Int} (h : q < cs.length) : (cs.map f).take q ++ [f v] ++ (cs.map f).drop (q + 1) = (cs.set q v).map f := by
  rw [List.map_set, List.set_eq_take_append_cons_drop, if_pos (by simpa using h)]; simp
abbrev JT (X : World) (p : Int × List Int) : St := match p.2 with
  | [] => ⟨⟨52, [(1, .pointer (some ⟨0, 0, none⟩)), (3, .slice none 0 0)]⟩, [(0, some [.int .u64 (l0 p.1), .int .u64 (l1 p.1), .int .u64 (l2 p.1), .int .u64 (l3 p.1)])], 1, X⟩
  | d :: L => ⟨⟨52, [(1, .pointer (some ⟨0, 0, none⟩)), (3, .slice (some ⟨1, 0, none⟩) (L.length + 1) 1)]⟩, [(0, some [.int .u64 (l0 p.1), .int .u64 (l1 p.1), .int .u64 (l2 p.1), .int .u64 (l3 p.1)]), (1 + 4096, none), (1, some ((d :: L).map by8))], 2, X⟩
def tkd (n : Int) (p : Int × List Int) : Prop := 0 <= p.1 /\ p.1 < MM /\ (∀ x ∈ p.2, 48 <= x /\ x < 58) /\ p.2.length <= 78 /\ (p.1 ≠ 0 -> p.1 < 10 ^ (78 - p.2.length) /\ decF 78 n = decF (78 - p.2.length) p.1 ++ p.2.reverse) /\ (p.1 = 0 -> decF 78 n = p.2.reverse)
theorem fsl {σ : List Nat} {i j q len len' es : Nat} (hl : len = len') (h : σ[j]? = some i := by rfl) : fitV σ (.slice (some ⟨i, q, none⟩) len es) (.slice (some ⟨j, q, none⟩) len' es) := hl ▸ fs h
theorem tkd_step {n m : Int} {L : List Int} (h : tkd n (m, L)) (hm : m ≠ 0) : tkd n (m / 10, L ++ [48 + m % 10]) := by
  obtain ⟨m0, mM, hL, hlen, hpos, hnil⟩ := h
  dsimp only at *
  obtain ⟨hlt, hd⟩ := hpos hm
  have hl : L.length ≠ 78 := fun e => by rw [e] at hlt; omega
  obtain ⟨f, hf⟩ : ∃ f, 78 - L.length = f + 1 := ⟨77 - L.length, by omega⟩
  have hf2 : 78 - (L.length + 1) = f := by omega
  rw [hf] at hlt hd
  refine ⟨by dsimp only; omega, by dsimp only; omega, fun x hx => ?_, by simp; omega, fun h => ⟨?_, ?_⟩, fun h => ?_⟩
  · rcases List.mem_append.1 hx with hx | hx
    · exact hL x hx
    · cases List.mem_singleton.1 hx; omega
  · show m / 10 < 10 ^ (78 - (L ++ [48 + m % 10]).length)
    rw [List.length_append, List.length_singleton]
    rw [hf2]
    rw [Int.pow_succ] at hlt; omega
  · show decF 78 n = decF (78 - (L ++ [48 + m % 10]).length) (m / 10) ++ _
    rw [List.length_append, List.length_singleton]
    rw [hf2, hd, decF, if_neg h]; simp
  · show decF 78 n = _
    rw [hd, decF, if_pos h]; simp
set_option maxRecDepth 20000 in
theorem q_text (n : Int) (h0 : 0 <= n) (hn : n < MM) (w : World) : Calls Tryz.prog 198 #[nv n] w fun e W => e = .returned (.string (strOf (decF 78 n))) /\ Mb w W := by
  refine fn_pure [nv n] Tryz.func198 rfl rfl rfl (run_ok (st mo ?_))
  repeat refine st mo ?_
  refine ⟨_, r_eqN n 0 ⟨h0, hn⟩ (by decide), fun hz => ?_, fun hz => ?_⟩
  · repeat refine st mo ?_
    have := of_decide_eq_true hz
    subst this
    rfl
  have hz := of_decide_eq_false hz
  repeat refine st mo ?_
  refine w_loop (JT w) (tkd n) (fun p => p.1.toNat) (n, []) ⟨h0, hn, by simp, by simp, fun _ => ⟨by unfold MM at hn; show n < 10 ^ 78; omega, by simp⟩, fun h => absurd h hz⟩ [0] ⟨rfl, ⟨fp, fv, trivial⟩, ⟨fl rfl rfl, trivial⟩, xf, rfl, rfl⟩ ?_
  rintro ⟨m, L⟩ hp
  have m0 : 0 <= m := hp.1
  have mM : m < MM := hp.2.1
  have wb : IntKind.u8.wrap (48 + m % 10) = 48 + m % 10 := by rw [IntKind.wrap_u8]; omega
  cases L with
  | nil =>
    repeat refine st mo ?_
    refine ⟨_, r_neN m 0 ⟨m0, mM⟩ (by decide), fun hz => ?_, fun hz => ?_⟩
    · have hm : m ≠ 0 := by simpa using hz
      repeat refine st mo ?_
      refine ⟨_, fun _ => r_call (t := .tuple #[nv (m / 10), .int .u64 (m % 10)]) rfl rfl Tryz.func220 (fun W M E => q_small m m0 mM W), st mo ?_⟩
      repeat refine st mo ?_
      refine ⟨48 + m % 10, wu rfl, st mo ⟨48 + m % 10, wb, st mo ?_⟩⟩
      repeat refine st mo ?_
      refine ⟨1, [by8 (48 + m % 10)], _, put_own rfl rfl rfl rfl rfl, by decide, by decide, st mo ?_⟩
      repeat refine st mo ?_
      exact ⟨(m / 10, [48 + m % 10]), tkd_step hp hm, by show (m / 10).toNat < m.toNat; omega, [0, 3], rfl, ⟨fp, fs, trivial⟩, ⟨fl rfl rfl, trivial, fl rfl rfl, trivial⟩, xf, rfl, rfl⟩
    · have hm : m = 0 := by simpa using hz
      exact absurd ((hp.2.2.2.2.2 hm).symm) (by
        have : decF 78 n ≠ [] := by rw [decF]; split <;> simp
        simpa using Ne.symm this)
  | cons d L =>
    repeat refine st mo ?_
    refine ⟨_, r_neN m 0 ⟨m0, mM⟩ (by decide), fun hz => ?_, fun hz => ?_⟩
    · have hm : m ≠ 0 := by simpa using hz
      repeat refine st mo ?_
      refine ⟨_, fun _ => r_call (t := .tuple #[nv (m / 10), .int .u64 (m % 10)]) rfl rfl Tryz.func220 (fun W M E => q_small m m0 mM W), st mo ?_⟩
      repeat refine st mo ?_
      refine ⟨48 + m % 10, wu rfl, st mo ⟨48 + m % 10, wb, st mo ?_⟩⟩
      repeat refine st mo ?_
      refine ⟨by show _ = (L.length + 1) * 1; simp, 1, [by8 (48 + m % 10)], _, put_own rfl rfl rfl rfl rfl, by have := hp.2.2.2.1; simp at this; omega, _, rfl, st mo ?_⟩
      repeat refine st mo ?_
      exact ⟨(m / 10, (d :: L) ++ [48 + m % 10]), tkd_step hp hm, by show (m / 10).toNat < m.toNat; omega, [0, 4], rfl, ⟨fp, fsl (by simp), trivial⟩, ⟨fl rfl rfl, trivial, fl (by simp) (by8_pur _), trivial⟩, xf, rfl, rfl⟩
    · have hm : m = 0 := by simpa using hz
      have hN := hp.2.2.2.1
      have hd := hp.2.2.2.2.2 hm
      dsimp only at hN hd
      have hN2 : L.length <= 77 := by simpa using hN
      clear hp
      repeat refine st mo ?_
      refine ⟨((L.length : Nat) : Int), by rw [wi (by simp at hN; omega)]; omega, st mo ?_⟩
      refine w_loop (fun i : Nat => ⟨⟨52, [(3, .slice (some ⟨0, 0, none⟩) (L.length + 1) 1), (6, .int .i64 (i : Int)), (7, .int .i64 ((L.length : Int) - (i : Int)))]⟩, [(0 + 4096, none), (0, some ((swp i (d :: L)).map by8))], 1, w⟩) (fun i => i <= L.length) (fun i => L.length - i) 0 (Nat.zero_le _) [1] ⟨rfl, ⟨fs, fv, fe, trivial⟩, ⟨trivial, fl (by rw [swp_0]) (by8_pur _), trivial⟩, xf, rfl, rfl⟩ ?_
      intro i hi
      repeat refine st mo ?_
      refine ⟨fun hlt => ?_, fun hge => ?_⟩
      · repeat refine st mo ?_
        have hlt' : i < L.length - i := by omega
        have g1 : ((swp i (d :: L)).map by8)[L.length - i]? = some (by8 ((d :: L).getD (L.length - i) 0)) := by
          rw [List.getElem?_map, swp_get (by simp; omega), if_neg (by simp; omega)]; rfl
        have g2 : ((swp i (d :: L)).map by8)[i]? = some (by8 ((d :: L).getD i 0)) := by
          rw [List.getElem?_map, swp_get (by simp; omega), if_neg (by simp; omega)]; rfl
        have sa1 := set_at (f := by8) (cs := swp i (d :: L)) (q := i) (v := (d :: L).getD (L.length - i) 0) (by rw [swp_len]; show i < L.length + 1; omega)
        have sa2 := set_at (f := by8) (cs := (swp i (d :: L)).set i ((d :: L).getD (L.length - i) 0)) (q := L.length - i) (v := (d :: L).getD i 0) (by rw [List.length_set, swp_len]; show L.length - i < L.length + 1; omega)
        refine ⟨L.length - i, by omega, by omega, st mo ⟨_, g1, st mo ⟨i, rfl, by omega, st mo ⟨_, g2, st mo ⟨i, rfl, by omega, st mo ⟨?_, _, sa1.symm, st mo ⟨L.length - i, by omega, by omega, st mo ⟨?_, _, sa2.symm, st mo ⟨dk, st mo ?_⟩⟩⟩⟩⟩⟩⟩⟩⟩
        · show i + 1 <= _
          rw [List.length_map, swp_len]; show i + 1 <= L.length + 1; omega
        · show L.length - i + 1 <= _
          rw [List.length_map, List.length_set, swp_len]; show L.length - i + 1 <= L.length + 1; omega
        · repeat refine st mo ?_
          refine ⟨_, wz (i + 1) rfl, st mo ⟨((L.length : Nat) : Int) - ((i + 1 : Nat) : Int), by rw [wi (by simp at hN; omega)]; omega, st mo ?_⟩⟩
          have hs := swp_step (i := i) (M := d :: L) (by show i < L.length + 1 - 1 - i; omega)
          rw [show (d :: L).length - 1 - i = L.length - i by simp] at hs
          exact ⟨i + 1, by omega, by show L.length - (i + 1) < L.length - i; omega, [0], rfl, ⟨fs, fv, fv, trivial⟩, ⟨trivial, fl (by rw [hs]) (by8_pur _), trivial⟩, xf, rfl, rfl⟩
      · repeat refine st mo ?_
        refine ⟨_, fun _ => r_cvB (swp i (d :: L)) (by rw [swp_len]) rfl, st mo ?_⟩
        repeat refine st mo ?_
        show _ = _
        rw [swp_end (by simp; omega), hd]
set_option maxRecDepth 20000 in
theorem p_sc {s : Int} {r : Bool} (hr : sc s = r) (w : World) : Calls Tryz.prog 242 #[.int .i64 s] w fun e W => e = .returned (.bool r) /\ Mb w W := by
  subst hr
  refine fn_pure [.int .i64 s] Tryz.func242 rfl rfl rfl (run_ok (st mo ?_))
  repeat' (first | refine ⟨fun _ => ?_, fun _ => ?_⟩ | refine st mo ?_)
  all_goals (show _ = _; unfold sc; congr 1; simp; omega)
abbrev dT (n s : Int) : Value := .agg #[litT, .int .u64 (l0 n), .int .u64 (l1 n), .int .u64 (l2 n), .int .u64 (l3 n), .int .i64 s]
abbrev dF (n s : Int) : Value := .agg #[litF, .int .u64 (l0 n), .int .u64 (l1 n), .int .u64 (l2 n), .int .u64 (l3 n), .int .i64 s]
theorem ck_t {b : Bool} {n s : Int} (h : sc s = true) (hb : b = true -> n ≠ 0) : ck b n s = 0 := by
  unfold ck; rw [h]; cases b <;> simp_all
theorem ck_s {b : Bool} {n s : Int} (h : sc s = false) : ck b n s = 20 := by unfold ck; rw [h]; rfl
theorem ck_z {s : Int} : ck true 0 s = 20 := by unfold ck; simp
set_option maxRecDepth 20000 in
theorem p_chk (b : Bool) (n s : Int) (hn : 0 <= n /\ n < MM) (w : World) : Calls Tryz.prog 217 #[dc b n s] w fun e W => e = .returned (.int .i64 (ck b n s)) /\ Mb w W := by
  cases hs : sc s with
  | false =>
    refine fn_pure [dc b n s] Tryz.func217 rfl rfl rfl (run_ok (st mo ?_))
    repeat refine st mo ?_
    refine ⟨_, fun _ => r_call (t := litF) rfl rfl Tryz.func242 (fun W M E => p_sc hs W), st mo ?_⟩
    repeat refine st mo ?_
    show _ = _; rw [ck_s hs]
  | true =>
    cases b with
    | false =>
      refine fn_pure [dF n s] Tryz.func217 rfl rfl rfl (run_ok (st mo ?_))
      repeat refine st mo ?_
      refine ⟨_, fun _ => r_call (t := litT) rfl rfl Tryz.func242 (fun W M E => p_sc hs W), st mo ?_⟩
      repeat refine st mo ?_
      show _ = _; rw [ck_t hs (fun h => by cases h)]
    | true =>
      refine fn_pure [dT n s] Tryz.func217 rfl rfl rfl (run_ok (st mo ?_))
      repeat refine st mo ?_
      refine ⟨_, fun _ => r_call (t := litT) rfl rfl Tryz.func242 (fun W M E => p_sc hs W), st mo ?_⟩
      repeat refine st mo ?_
      refine ⟨_, r_eqN n 0 hn (by decide), fun hz => ?_, fun hz => ?_⟩
      · have hz := of_decide_eq_true hz
        subst hz
        repeat refine st mo ?_
        show _ = _; rw [ck_z]
      · have hz := of_decide_eq_false hz
        repeat refine st mo ?_
        show _ = _; rw [ck_t hs (fun _ => hz)]
set_option maxRecDepth 20000 in
theorem q_chk (b : Bool) (n s : Int) (hn : 0 <= n /\ n < MM) (w : World) : Calls Tryz.prog 152 #[dc b n s] w fun e W => e = .returned (.int .i64 (ck b n s)) /\ Mb w W := by
  by_cases h1 : s < 0
  · have hs : sc s = false := by unfold sc; simp; omega
    cases b with
    | false =>
      refine fn_pure [dF n s] Tryz.func152 rfl rfl rfl (run_ok (st mo ?_))
      repeat refine st mo ?_
      refine ⟨fun _ => ?_, fun h => absurd h1 (by omega)⟩
      repeat refine st mo ?_
      show _ = _; rw [ck_s hs]
    | true =>
      refine fn_pure [dT n s] Tryz.func152 rfl rfl rfl (run_ok (st mo ?_))
      repeat refine st mo ?_
      refine ⟨fun _ => ?_, fun h => absurd h1 (by omega)⟩
      repeat refine st mo ?_
      show _ = _; rw [ck_s hs]
  by_cases h2 : 18 < s
  · have hs : sc s = false := by unfold sc; simp; omega
    cases b with
    | false =>
      refine fn_pure [dF n s] Tryz.func152 rfl rfl rfl (run_ok (st mo ?_))
      repeat refine st mo ?_
      refine ⟨fun h => absurd h h1, fun _ => ?_⟩
      repeat refine st mo ?_
      refine ⟨fun _ => ?_, fun h => absurd h2 (by omega)⟩
      repeat refine st mo ?_
      show _ = _; rw [ck_s hs]
    | true =>
      refine fn_pure [dT n s] Tryz.func152 rfl rfl rfl (run_ok (st mo ?_))
      repeat refine st mo ?_
      refine ⟨fun h => absurd h h1, fun _ => ?_⟩
      repeat refine st mo ?_
      refine ⟨fun _ => ?_, fun h => absurd h2 (by omega)⟩
      repeat refine st mo ?_
      show _ = _; rw [ck_s hs]
  have hs : sc s = true := by unfold sc; simp; omega
  cases b with
  | false =>
    refine fn_pure [dF n s] Tryz.func152 rfl rfl rfl (run_ok (st mo ?_))
    repeat refine st mo ?_
    refine ⟨fun h => absurd h h1, fun _ => ?_⟩
    repeat refine st mo ?_
    refine ⟨fun h => absurd h h2, fun _ => ?_⟩
    repeat refine st mo ?_
    show _ = _; rw [ck_t hs (fun h => by cases h)]
  | true =>
    refine fn_pure [dT n s] Tryz.func152 rfl rfl rfl (run_ok (st mo ?_))
    repeat refine st mo ?_
    refine ⟨fun h => absurd h h1, fun _ => ?_⟩
    repeat refine st mo ?_
    refine ⟨fun h => absurd h h2, fun _ => ?_⟩
    repeat refine st mo ?_
    refine ⟨_, r_eqN n 0 hn (by decide), fun hz => ?_, fun hz => ?_⟩
    · have hz := of_decide_eq_true hz
      subst hz
      repeat refine st mo ?_
      show _ = _; rw [ck_z]
    · have hz := of_decide_eq_false hz
      repeat refine st mo ?_
      show _ = _; rw [ck_t hs (fun _ => hz)]
def zrs (k : Nat) : ByteArray := ⟨(List.replicate k (48 : UInt8)).toArray⟩
abbrev Z1 : ByteArray := ⟨#[48]⟩
theorem k18 {k : Nat} (h1 : 1 <= k) (h2 : k <= 18) : k = 1 ∨ k = 2 ∨ k = 3 ∨ k = 4 ∨ k = 5 ∨ k = 6 ∨ k = 7 ∨ k = 8 ∨ k = 9 ∨ k = 10 ∨ k = 11 ∨ k = 12 ∨ k = 13 ∨ k = 14 ∨ k = 15 ∨ k = 16 ∨ k = 17 ∨ k = 18 := by omega
set_option maxRecDepth 20000 in
theorem mul64_k (k : Nat) (h1 : 1 <= k) (h2 : k <= 18) (w : World) : Calls Tryz.prog 274 #[.int .u64 1, .int .u64 (k : Int)] w fun e W => e = .returned (.tuple #[.int .u64 0, .int .u64 (k : Int)]) /\ Mb w W := by
  refine fn_pure [.int .u64 1, .int .u64 (k : Int)] Tryz.func274 rfl rfl rfl (run_ok (st mo ?_))
  repeat' (first | refine st mo ?_ | refine And.intro (by decide) ?_ | refine Exists.intro _ (And.intro rfl ?_))
  show _ = _
  rcases k18 h1 h2 with rfl | rfl | rfl | rfl | rfl | rfl | rfl | rfl | rfl | rfl | rfl | rfl | rfl | rfl | rfl | rfl | rfl | rfl <;> rfl
set_option maxRecDepth 20000 in
theorem mul_k (k : Nat) (h1 : 1 <= k) (h2 : k <= 18) (w : World) : Calls Tryz.prog 257 #[.int .u64 1, .int .u64 (k : Int)] w fun e W => e = .returned (.tuple #[.int .u64 0, .int .u64 (k : Int)]) /\ Mb w W := by
  refine fn_pure [.int .u64 1, .int .u64 (k : Int)] Tryz.func257 rfl rfl rfl (run_ok (st mo ?_))
  repeat refine st mo ?_
  refine ⟨_, fun _ => r_call (t := .tuple #[.int .u64 0, .int .u64 (k : Int)]) rfl rfl Tryz.func274 (fun W M E => mul64_k k h1 h2 W), st mo ?_⟩
  repeat refine st mo ?_
  rfl
set_option maxRecDepth 20000 in
theorem ha_rep (s : ByteArray) (r : Bool) (hs : Nat.ble 1 s.size = true) (hr : decide (s.extract 0 1 = Z1) = r) (w : World) : Calls Tryz.prog 261 #[.string s, .string Z1] w fun e W => e = .returned (.bool r) /\ Mb w W := by
  refine fn_pure [.string s, .string Z1] Tryz.func261 rfl rfl rfl (run_ok (st mo ?_))
  repeat refine st mo ?_
  refine ⟨fun h => ?_, fun h => absurd h (by have : Z1.size = 1 := rfl; have := Nat.le_of_ble_eq_true hs; omega)⟩
  repeat refine st mo ?_
  refine ⟨0, 1, rfl, rfl, by decide, Nat.le_of_ble_eq_true hs, ?_⟩
  repeat refine st mo ?_
  refine ⟨fun h => ?_, fun h => ?_⟩
  · repeat refine st mo ?_
    show _ = _; rw [← hr, decide_eq_true h]
  · repeat refine st mo ?_
    show _ = _; rw [← hr, decide_eq_false h]
set_option maxRecDepth 20000 in
theorem hp_rep (s : ByteArray) (r : Bool) (hs : Nat.ble 1 s.size = true) (hr : decide (s.extract 0 1 = Z1) = r) (w : World) : Calls Tryz.prog 258 #[.string s, .string Z1] w fun e W => e = .returned (.bool r) /\ Mb w W := by
  refine fn_pure [.string s, .string Z1] Tryz.func258 rfl rfl rfl (run_ok (st mo ?_))
  repeat refine st mo ?_
  refine ⟨_, fun _ => r_call (t := .bool r) rfl rfl Tryz.func261 (fun W M E => ha_rep s r hs hr W), st mo ?_⟩
  repeat refine st mo ?_
  rfl
set_option maxRecDepth 20000 in
theorem p_rep (k : Nat) (h1 : 1 <= k) (h2 : k <= 18) (w : World) : Calls Tryz.prog 243 #[.string Z1, .int .i64 (k : Int)] w fun e W => e = .returned (.string (zrs k)) /\ Mb w W := by
  refine fn_pure [.string Z1, .int .i64 (k : Int)] Tryz.func243 rfl rfl rfl (run_ok (st mo ?_))
  repeat refine st mo ?_
  refine ⟨fun h => absurd h (by omega), fun _ => ?_⟩
  repeat refine st mo ?_
  refine ⟨fun h => ?_, fun hk => ?_⟩
  · repeat refine st mo ?_
    have : k = 1 := by omega
    subst this; rfl
  repeat refine st mo ?_
  refine ⟨fun h => absurd h (by omega), fun _ => ?_⟩
  repeat refine st mo ?_
  refine ⟨1, by decide, ?_⟩
  repeat refine st mo ?_
  refine ⟨(k : Int), by rw [IntKind.wrap_u64]; omega, ?_⟩
  repeat refine st mo ?_
  refine ⟨_, fun _ => r_call (t := .tuple #[.int .u64 0, .int .u64 (k : Int)]) rfl rfl Tryz.func257 (fun W M E => mul_k k h1 h2 W), st mo ?_⟩
  repeat refine st mo ?_
  refine ⟨fun h => absurd h (by decide), fun _ => ?_⟩
  repeat refine st mo ?_
  refine ⟨fun h => absurd h (by omega), fun _ => ?_⟩
  repeat refine st mo ?_
  refine ⟨(k : Int), by rw [IntKind.wrap_i64]; omega, ?_⟩
  repeat refine st mo ?_
  refine ⟨fun h => absurd h (by decide), fun _ => ?_⟩
  repeat refine st mo ?_
  refine ⟨0, 48, rfl, rfl, ?_⟩
  repeat refine st mo ?_
  refine ⟨fun h => absurd h (by decide), fun _ => ?_⟩
  repeat refine st mo ?_
  refine ⟨fun h => absurd h (by decide), fun _ => ?_⟩
  repeat refine st mo ?_
  refine ⟨fun _ => ?_, fun h => absurd h (by decide)⟩
  repeat refine st mo ?_
  refine ⟨fun _ => ?_, fun h => absurd h (by omega)⟩
  repeat refine st mo ?_
  refine ⟨_, fun _ => r_call (t := litF) rfl rfl Tryz.func258 (fun W M E => hp_rep _ false rfl rfl W), st mo ?_⟩
  repeat refine st mo ?_
  refine ⟨fun _ => ?_, fun h => absurd h (by omega)⟩
  repeat refine st mo ?_
  refine ⟨_, fun _ => r_call (t := litF) rfl rfl Tryz.func258 (fun W M E => hp_rep _ false rfl rfl W), st mo ?_⟩
  repeat refine st mo ?_
  refine ⟨fun _ => ?_, fun h => absurd h (by omega)⟩
  repeat refine st mo ?_
  refine ⟨_, fun _ => r_call (t := litT) rfl rfl Tryz.func258 (fun W M E => hp_rep _ true rfl rfl W), st mo ?_⟩
  repeat refine st mo ?_
  refine ⟨0, k, rfl, rfl, Nat.zero_le _, by show k <= 64; omega, ?_⟩
  repeat refine st mo ?_
  show _ = _
  rcases k18 h1 h2 with rfl | rfl | rfl | rfl | rfl | rfl | rfl | rfl | rfl | rfl | rfl | rfl | rfl | rfl | rfl | rfl | rfl | rfl <;> rfl
abbrev Dot : ByteArray := ⟨#[46]⟩
abbrev Mns : ByteArray := ⟨#[45]⟩
abbrev Qst : ByteArray := ⟨#[63]⟩
theorem zrs_len (k : Nat) : (zrs k).size = k := by unfold zrs; simp [ByteArray.size]
theorem zrs_0 (t : ByteArray) : zrs 0 ++ t = t := by
  have : zrs 0 = ByteArray.empty := rfl
  rw [this, ByteArray.empty_append]
theorem zrs_s (k : Nat) (t : ByteArray) : Z1 ++ (zrs k ++ t) = zrs (k + 1) ++ t := by
  rw [← ByteArray.append_assoc]; congr 1
theorem sad (a b : ByteArray) (h : a.size + b.size <= 9223372036854775807) (w : World) : (Op.stringOp .add a b).run Tryz.prog w = .ok (.string (a ++ b)) w := by
  simp [Op.stringOp]; omega
def ptd (u : ByteArray) (s : Nat) : ByteArray := u.extract 0 (u.size - s) ++ Dot ++ u.extract (u.size - s) u.size
def wpt (t : ByteArray) (s : Nat) : ByteArray := if s = 0 then t else ptd (zrs (s + 1 - t.size) ++ t) s
set_option maxRecDepth 20000 in
theorem p_wpt (t : ByteArray) (s : Nat) (hs : s <= 18) (h1 : 1 <= t.size) (hb : t.size <= 78) (w : World) : Calls Tryz.prog 218 #[.string t, .int .i64 (s : Int)] w fun e W => e = .returned (.string (wpt t s)) /\ Mb w W := by
  refine fn_pure [.string t, .int .i64 (s : Int)] Tryz.func218 rfl rfl rfl (run_ok (st mo ?_))
  repeat refine st mo ?_
  refine ⟨fun h => ?_, fun h => ?_⟩
  · have : s = 0 := by omega
    subst this
    repeat refine st mo ?_
    rfl
  have h0 : s ≠ 0 := by omega
  repeat refine st mo ?_
  refine ⟨_, wi, st mo ?_⟩
  repeat refine st mo ?_
  refine ⟨((s : Int) + 1 - (t.size : Int)), wi, st mo ?_⟩
  repeat refine st mo ?_
  refine ⟨fun hm => ?_, fun hm => ?_⟩
  · repeat refine st mo ?_
    refine ⟨_, fun _ => r_call (t := .string (zrs (s + 1 - t.size))) rfl rfl Tryz.func243 (fun W M E => by have := p_rep (s + 1 - t.size) (by omega) (by omega) W; rwa [show ((s + 1 - t.size : Nat) : Int) = (s : Int) + 1 - (t.size : Int) by omega] at this), st mo ?_⟩
    repeat refine st mo ?_
    refine ⟨.string (zrs (s + 1 - t.size) ++ t), sad _ _ (by rw [zrs_len]; omega), rfl, st mo ?_⟩
    have hu : (zrs (s + 1 - t.size) ++ t).size = s + 1 := by rw [ByteArray.size_append, zrs_len]; omega
    have hw : wpt t s = ptd (zrs (s + 1 - t.size) ++ t) s := by rw [wpt, if_neg h0]
    rw [hw]
    generalize zrs (s + 1 - t.size) ++ t = u at *
    repeat refine st mo ?_
    refine ⟨((u.size - s : Nat) : Int), by rw [wi]; omega, st mo ?_⟩
    repeat refine st mo ?_
    refine ⟨0, u.size - s, rfl, rfl, by omega, by omega, st mo ?_⟩
    repeat refine st mo ?_
    refine ⟨.string (u.extract 0 (u.size - s) ++ Dot), sad _ _ (by rw [ByteArray.size_extract]; show _ + 1 <= _; omega), rfl, st mo ?_⟩
    repeat refine st mo ?_
    refine ⟨u.size - s, u.size, rfl, rfl, by omega, by omega, st mo ?_⟩
    repeat refine st mo ?_
    refine ⟨.string (ptd u s), sad _ _ (by rw [ByteArray.size_append, ByteArray.size_extract, ByteArray.size_extract]; show _ + 1 + _ <= _; omega), rfl, st mo ?_⟩
    repeat refine st mo ?_
    refine ⟨dk, st mo ?_⟩
    repeat refine st mo ?_
    rfl
  · have hu : s + 1 <= t.size := by omega
    have hw : wpt t s = ptd t s := by rw [wpt, if_neg h0, show s + 1 - t.size = 0 by omega, zrs_0]
    rw [hw]
    repeat refine st mo ?_
    refine ⟨((t.size - s : Nat) : Int), by rw [wi]; omega, st mo ?_⟩
    repeat refine st mo ?_
    refine ⟨0, t.size - s, rfl, rfl, by omega, by omega, st mo ?_⟩
    repeat refine st mo ?_
    refine ⟨.string (t.extract 0 (t.size - s) ++ Dot), sad _ _ (by rw [ByteArray.size_extract]; show _ + 1 <= _; omega), rfl, st mo ?_⟩
    repeat refine st mo ?_
    refine ⟨t.size - s, t.size, rfl, rfl, by omega, by omega, st mo ?_⟩
    repeat refine st mo ?_
    refine ⟨.string (ptd t s), sad _ _ (by rw [ByteArray.size_append, ByteArray.size_extract, ByteArray.size_extract]; show _ + 1 + _ <= _; omega), rfl, st mo ?_⟩
    repeat refine st mo ?_
    refine ⟨dk, st mo ?_⟩
    repeat refine st mo ?_
    rfl
theorem decF_len : ∀ (f : Nat) (n : Int), (decF (f + 1) n).length <= f + 1 /\ 1 <= (decF (f + 1) n).length
  | 0, n => by unfold decF; split <;> simp [decF]
  | f + 1, n => by
    unfold decF
    split
    · simp
    · have := decF_len f (n / 10)
      rw [List.length_append, List.length_singleton]; omega
theorem strOf_size (l : List Int) : (strOf l).size = l.length := by rw [strOf_eq]; simp [ByteArray.size]
def dtx (b : Bool) (n s : Int) : ByteArray := if ck b n s = 0 then (if b then Mns ++ wpt (strOf (decF 78 n)) s.toNat else wpt (strOf (decF 78 n)) s.toNat) else Qst
theorem ck_0 {b : Bool} {n s : Int} (h : ck b n s = 0) : 0 <= s /\ s <= 18 := by
  unfold ck at h
  cases hs : sc s with
  | false => rw [hs] at h; simp at h
  | true => exact sc_iff.1 hs
theorem wpt_size (t : ByteArray) (s : Nat) (hs : s <= 18) (hb : t.size <= 78) : (wpt t s).size <= 98 := by
  unfold wpt ptd
  split
  · omega
  · simp only [ByteArray.size_append, ByteArray.size_extract, zrs_len]
    show _ + 1 + _ <= _
    omega
set_option maxRecDepth 20000 in
theorem p_dtx_false (n s : Int) (hn : 0 <= n /\ n < MM) (w : World) : Calls Tryz.prog 194 #[dc false n s] w fun e W => e = .returned (.string (dtx false n s)) /\ Mb w W := by
  refine fn_pure [dF n s] Tryz.func194 rfl rfl rfl (run_ok (st mo ?_))
  repeat refine st mo ?_
  refine ⟨_, fun _ => r_call (t := .int .i64 (ck false n s)) rfl rfl Tryz.func217 (fun W M E => p_chk false n s hn W), st mo ?_⟩
  repeat refine st mo ?_
  refine ⟨fun h => ?_, fun h => ?_⟩
  · repeat refine st mo ?_
    show _ = _; rw [dtx, if_neg h]
  obtain ⟨k, rfl⟩ : ∃ k : Nat, s = (k : Int) := ⟨s.toNat, by have := ck_0 h; omega⟩
  have hk := ck_0 h
  have hl := decF_len 77 n
  repeat refine st mo ?_
  refine ⟨_, fun _ => r_call (t := .string (strOf (decF 78 n))) rfl rfl Tryz.func219 (fun W M E => Calls.mono (text_n n W hn.1 hn.2) fun e W' h => ⟨h.1, h.2.mb⟩), st mo ?_⟩
  repeat refine st mo ?_
  refine ⟨_, fun _ => r_call (t := .string (wpt (strOf (decF 78 n)) k)) rfl rfl Tryz.func218 (fun W M E => p_wpt _ k (by omega) (by rw [strOf_size]; exact hl.2) (by rw [strOf_size]; exact hl.1) W), st mo ?_⟩
  repeat refine st mo ?_
  refine ⟨dk, st mo ?_⟩
  repeat refine st mo ?_
   
  show _ = _; rw [dtx, if_pos h]; rfl
set_option maxRecDepth 20000 in
theorem p_dtx_true (n s : Int) (hn : 0 <= n /\ n < MM) (w : World) : Calls Tryz.prog 194 #[dc true n s] w fun e W => e = .returned (.string (dtx true n s)) /\ Mb w W := by
  refine fn_pure [dT n s] Tryz.func194 rfl rfl rfl (run_ok (st mo ?_))
  repeat refine st mo ?_
  refine ⟨_, fun _ => r_call (t := .int .i64 (ck true n s)) rfl rfl Tryz.func217 (fun W M E => p_chk true n s hn W), st mo ?_⟩
  repeat refine st mo ?_
  refine ⟨fun h => ?_, fun h => ?_⟩
  · repeat refine st mo ?_
    show _ = _; rw [dtx, if_neg h]
  obtain ⟨k, rfl⟩ : ∃ k : Nat, s = (k : Int) := ⟨s.toNat, by have := ck_0 h; omega⟩
  have hk := ck_0 h
  have hl := decF_len 77 n
  repeat refine st mo ?_
  refine ⟨_, fun _ => r_call (t := .string (strOf (decF 78 n))) rfl rfl Tryz.func219 (fun W M E => Calls.mono (text_n n W hn.1 hn.2) fun e W' h => ⟨h.1, h.2.mb⟩), st mo ?_⟩
  repeat refine st mo ?_
  refine ⟨_, fun _ => r_call (t := .string (wpt (strOf (decF 78 n)) k)) rfl rfl Tryz.func218 (fun W M E => p_wpt _ k (by omega) (by rw [strOf_size]; exact hl.2) (by rw [strOf_size]; exact hl.1) W), st mo ?_⟩
  repeat refine st mo ?_
  refine ⟨dk, st mo ?_⟩
  repeat refine st mo ?_
  refine ⟨.string (Mns ++ wpt (strOf (decF 78 n)) k), sad _ _ (by have := wpt_size (strOf (decF 78 n)) k (by omega) (by rw [strOf_size]; exact hl.1); show 1 + _ <= _; omega), rfl, st mo ?_⟩; repeat refine st mo ?_
  show _ = _; rw [dtx, if_pos h]; rfl
set_option maxRecDepth 20000 in
theorem q_dtx_false (n s : Int) (hn : 0 <= n /\ n < MM) (w : World) : Calls Tryz.prog 155 #[dc false n s] w fun e W => e = .returned (.string (dtx false n s)) /\ Mb w W := by
  refine fn_pure [dF n s] Tryz.func155 rfl rfl rfl (run_ok (st mo ?_))
  repeat refine st mo ?_
  refine ⟨_, fun _ => r_call (t := .int .i64 (ck false n s)) rfl rfl Tryz.func152 (fun W M E => q_chk false n s hn W), st mo ?_⟩
  repeat refine st mo ?_
  refine ⟨fun h => ?_, fun h => ?_⟩
  · repeat refine st mo ?_
    show _ = _; rw [dtx, if_neg h]
  obtain ⟨k, rfl⟩ : ∃ k : Nat, s = (k : Int) := ⟨s.toNat, by have := ck_0 h; omega⟩
  have hk := ck_0 h
  have hl := decF_len 77 n
  have hz : (strOf (decF 78 n)).size = (decF (77 + 1) n).length := strOf_size _
  repeat refine st mo ?_
  refine ⟨_, fun _ => r_call (t := .string (strOf (decF 78 n))) rfl rfl Tryz.func198 (fun W M E => q_text n hn.1 hn.2 W), st mo ?_⟩
  repeat refine st mo ?_
  have hd : dtx false n (k : Int) = (if false then Mns ++ wpt (strOf (decF 78 n)) k else wpt (strOf (decF 78 n)) k) := by rw [dtx, if_pos h]; rfl
  rw [hd]
  clear hd
  generalize strOf (decF 78 n) = t at *
  refine w_loop (fun j : Nat => ⟨⟨41, [(1, .pointer (some ⟨0, 0, none⟩)), (3, .string (zrs j ++ t))]⟩, [(0, some [litF, .int .u64 (l0 n), .int .u64 (l1 n), .int .u64 (l2 n), .int .u64 (l3 n), .int .i64 (k : Int)])], 1, w⟩) (fun j => j <= k + 1 - t.size) (fun j => 19 - j) 0 (Nat.zero_le _) [0] ⟨rfl, ⟨fp, fv (by rw [zrs_0]; rfl), trivial⟩, ⟨fl rfl rfl, trivial⟩, xf, rfl, rfl⟩ ?_
  intro j hj
  have hzj : (zrs j ++ t).size = j + t.size := by rw [ByteArray.size_append, zrs_len]
  repeat refine st mo ?_
  refine ⟨fun hc => ?_, fun hc => ?_⟩
  · repeat refine st mo ?_
    refine ⟨.string (Z1 ++ (zrs j ++ t)), sad _ _ (by show 1 + _ <= _; omega), rfl, st mo ?_⟩
    exact ⟨j + 1, by omega, by dsimp only; omega, [0], rfl, ⟨fp, fv (by rw [← zrs_s]; rfl), trivial⟩, ⟨fl rfl rfl, trivial⟩, xf, rfl, rfl⟩
  have hj2 : j = k + 1 - t.size := by omega
  repeat refine st mo ?_
  refine ⟨fun h0 => ?_, fun h0 => ?_⟩
  · repeat refine st mo ?_
    have hw : wpt t k = ptd (zrs j ++ t) k := by rw [wpt, if_neg (by omega), hj2]
    rw [hw]
    have hju : k + 1 <= (zrs j ++ t).size := by omega
    have hju2 : (zrs j ++ t).size <= 97 := by omega
    clear hw hzj
    generalize zrs j ++ t = u at *
    refine ⟨((u.size - k : Nat) : Int), by rw [wi]; omega, st mo ?_⟩
    repeat refine st mo ?_
    refine ⟨0, u.size - k, rfl, rfl, by omega, by omega, st mo ?_⟩
    repeat refine st mo ?_
    refine ⟨.string (u.extract 0 (u.size - k) ++ Dot), sad _ _ (by rw [ByteArray.size_extract]; show _ + 1 <= _; omega), rfl, st mo ?_⟩
    repeat refine st mo ?_
    refine ⟨((u.size - k : Nat) : Int), by rw [wi]; omega, st mo ?_⟩
    repeat refine st mo ?_
    refine ⟨u.size - k, u.size, rfl, rfl, by omega, by omega, st mo ?_⟩
    repeat refine st mo ?_
    refine ⟨.string (ptd u k), sad _ _ (by rw [ByteArray.size_append, ByteArray.size_extract, ByteArray.size_extract]; show _ + 1 + _ <= _; omega), rfl, st mo ?_⟩
    repeat refine st mo ?_
    refine ⟨dk, st mo ?_⟩
    repeat refine st mo ?_
     
    rfl
  · have hk0 : k = 0 := by omega
    have hw : zrs j ++ t = wpt t k := by rw [wpt, if_pos hk0, hj2, show k + 1 - t.size = 0 by omega, zrs_0]
    rw [← hw]
    clear hw
    generalize zrs j ++ t = u at *
    repeat refine st mo ?_
     
    rfl
set_option maxRecDepth 20000 in
theorem q_dtx_true (n s : Int) (hn : 0 <= n /\ n < MM) (w : World) : Calls Tryz.prog 155 #[dc true n s] w fun e W => e = .returned (.string (dtx true n s)) /\ Mb w W := by
  refine fn_pure [dT n s] Tryz.func155 rfl rfl rfl (run_ok (st mo ?_))
  repeat refine st mo ?_
  refine ⟨_, fun _ => r_call (t := .int .i64 (ck true n s)) rfl rfl Tryz.func152 (fun W M E => q_chk true n s hn W), st mo ?_⟩
  repeat refine st mo ?_
  refine ⟨fun h => ?_, fun h => ?_⟩
  · repeat refine st mo ?_
    show _ = _; rw [dtx, if_neg h]
  obtain ⟨k, rfl⟩ : ∃ k : Nat, s = (k : Int) := ⟨s.toNat, by have := ck_0 h; omega⟩
  have hk := ck_0 h
  have hl := decF_len 77 n
  have hz : (strOf (decF 78 n)).size = (decF (77 + 1) n).length := strOf_size _
  repeat refine st mo ?_
  refine ⟨_, fun _ => r_call (t := .string (strOf (decF 78 n))) rfl rfl Tryz.func198 (fun W M E => q_text n hn.1 hn.2 W), st mo ?_⟩
  repeat refine st mo ?_
  have hd : dtx true n (k : Int) = (if true then Mns ++ wpt (strOf (decF 78 n)) k else wpt (strOf (decF 78 n)) k) := by rw [dtx, if_pos h]; rfl
  rw [hd]
  clear hd
  generalize strOf (decF 78 n) = t at *
  refine w_loop (fun j : Nat => ⟨⟨41, [(1, .pointer (some ⟨0, 0, none⟩)), (3, .string (zrs j ++ t))]⟩, [(0, some [litT, .int .u64 (l0 n), .int .u64 (l1 n), .int .u64 (l2 n), .int .u64 (l3 n), .int .i64 (k : Int)])], 1, w⟩) (fun j => j <= k + 1 - t.size) (fun j => 19 - j) 0 (Nat.zero_le _) [0] ⟨rfl, ⟨fp, fv (by rw [zrs_0]; rfl), trivial⟩, ⟨fl rfl rfl, trivial⟩, xf, rfl, rfl⟩ ?_
  intro j hj
  have hzj : (zrs j ++ t).size = j + t.size := by rw [ByteArray.size_append, zrs_len]
  repeat refine st mo ?_
  refine ⟨fun hc => ?_, fun hc => ?_⟩
  · repeat refine st mo ?_
    refine ⟨.string (Z1 ++ (zrs j ++ t)), sad _ _ (by show 1 + _ <= _; omega), rfl, st mo ?_⟩
    exact ⟨j + 1, by omega, by dsimp only; omega, [0], rfl, ⟨fp, fv (by rw [← zrs_s]; rfl), trivial⟩, ⟨fl rfl rfl, trivial⟩, xf, rfl, rfl⟩
  have hj2 : j = k + 1 - t.size := by omega
  repeat refine st mo ?_
  refine ⟨fun h0 => ?_, fun h0 => ?_⟩
  · repeat refine st mo ?_
    have hw : wpt t k = ptd (zrs j ++ t) k := by rw [wpt, if_neg (by omega), hj2]
    rw [hw]
    have hju : k + 1 <= (zrs j ++ t).size := by omega
    have hju2 : (zrs j ++ t).size <= 97 := by omega
    clear hw hzj
    generalize zrs j ++ t = u at *
    refine ⟨((u.size - k : Nat) : Int), by rw [wi]; omega, st mo ?_⟩
    repeat refine st mo ?_
    refine ⟨0, u.size - k, rfl, rfl, by omega, by omega, st mo ?_⟩
    repeat refine st mo ?_
    refine ⟨.string (u.extract 0 (u.size - k) ++ Dot), sad _ _ (by rw [ByteArray.size_extract]; show _ + 1 <= _; omega), rfl, st mo ?_⟩
    repeat refine st mo ?_
    refine ⟨((u.size - k : Nat) : Int), by rw [wi]; omega, st mo ?_⟩
    repeat refine st mo ?_
    refine ⟨u.size - k, u.size, rfl, rfl, by omega, by omega, st mo ?_⟩
    repeat refine st mo ?_
    refine ⟨.string (ptd u k), sad _ _ (by rw [ByteArray.size_append, ByteArray.size_extract, ByteArray.size_extract]; show _ + 1 + _ <= _; omega), rfl, st mo ?_⟩
    repeat refine st mo ?_
    refine ⟨dk, st mo ?_⟩
    repeat refine st mo ?_
    refine ⟨.string (Mns ++ ptd u k), sad _ _ (by unfold ptd; rw [ByteArray.size_append, ByteArray.size_append, ByteArray.size_extract, ByteArray.size_extract]; show 1 + (_ + 1 + _) <= _; omega), rfl, st mo ?_⟩; repeat refine st mo ?_
    rfl
  · have hk0 : k = 0 := by omega
    have hw : zrs j ++ t = wpt t k := by rw [wpt, if_pos hk0, hj2, show k + 1 - t.size = 0 by omega, zrs_0]
    rw [← hw]
    clear hw
    generalize zrs j ++ t = u at *
    repeat refine st mo ?_
    refine ⟨.string (Mns ++ u), sad _ _ (by show 1 + _ <= _; omega), rfl, st mo ?_⟩; repeat refine st mo ?_
    rfl
theorem p_dtx (b : Bool) (n s : Int) (hn : 0 <= n /\ n < MM) (w : World) : Calls Tryz.prog 194 #[dc b n s] w fun e W => e = .returned (.string (dtx b n s)) /\ Mb w W := by
  cases b
  · exact p_dtx_false n s hn w
  · exact p_dtx_true n s hn w
theorem q_dtx (b : Bool) (n s : Int) (hn : 0 <= n /\ n < MM) (w : World) : Calls Tryz.prog 155 #[dc b n s] w fun e W => e = .returned (.string (dtx b n s)) /\ Mb w W := by
  cases b
  · exact q_dtx_false n s hn w
  · exact q_dtx_true n s hn w
theorem dtx_size (b : Bool) (n s : Int) : (dtx b n s).size <= 99 := by
  unfold dtx
  have hl := decF_len 77 n
  split
  · rename_i h
    have := ck_0 h
    have hz := wpt_size (strOf (decF 78 n)) s.toNat (by omega) (by rw [strOf_size]; exact hl.1)
    split
    · rw [ByteArray.size_append]; show 1 + _ <= _; omega
    · omega
  · decide
end Go.Proofs.YtpabcmaeaiaknaaGreatDoor
namespace Go.Proofs
open Go.Shelf
def Tryz.lays121_ren : Go.Shelf.Ren := ⟨fun | 121 => 199 | 214 => 221 | n => n, fun | 4 => 4 | 9 => 9 | n => n, fun | n => n⟩
theorem Tryz.lays121 : Go.Proofs.Lays.n121 Tryz.prog Tryz.lays121_ren := {
  mixed := by kernel_rfl
  f121 := Tryz.func199.trans (congrArg some (by kernel_rfl))
  f214 := Tryz.func221.trans (congrArg some (by kernel_rfl))
  t4 := Tryz.underlying4
  a4 := Tryz.isAgg4
  z4 := Tryz.sizeOf4
  v4 := Tryz.zeroValue4
  t9 := Tryz.underlying9
  a9 := Tryz.isAgg9
  z9 := Tryz.sizeOf9
  v9 := Tryz.zeroValue9 }
open Go.RowKit in
theorem Tryz.strconv_FormatBool (b : Bool) (w : World) :
    Calls Tryz.prog 199 #[.bool b] w fun e w' => e = .returned (.string ⟨(Lib.formatBool b).toArray⟩) /\ w' = w := Any.strconv_FormatBool Tryz.lays121 b w
def Tryz.laysM171_ren : Go.Shelf.Ren := ⟨fun | 171 => 147 | 243 => 193 | 246 => 216 | 283 => 238 | 284 => 239 | 285 => 240 | 286 => 241 | 129 => 253 | 317 => 252 | 318 => 254 | 319 => 255 | 320 => 256 | 337 => 271 | 338 => 272 | n => n, fun | 3 => 3 | 9 => 9 | 2 => 2 | 4 => 4 | 171 => 236 | 0 => 0 | 53 => 22 | 37 => 68 | 5 => 5 | 173 => 239 | 212 => 246 | 51 => 247 | 20 => 20 | 213 => 248 | 46 => 227 | 232 => 273 | 233 => 274 | n => n, fun | 17 => 3 | 18 => 6 | 19 => 7 | n => n⟩
theorem Tryz.laysM171 : Go.Proofs.LaysM.n171 Tryz.prog Tryz.laysM171_ren := {
  mixed := by kernel_rfl
  f129 := Tryz.func253.trans (congrArg some (by kernel_rfl))
  f171 := Tryz.func147.trans (congrArg some (by kernel_rfl))
  f243 := Tryz.func193.trans (congrArg some (by kernel_rfl))
  f246 := Tryz.func216.trans (congrArg some (by kernel_rfl))
  f283 := Tryz.func238.trans (congrArg some (by kernel_rfl))
  f284 := Tryz.func239.trans (congrArg some (by kernel_rfl))
  f285 := Tryz.func240.trans (congrArg some (by kernel_rfl))
  f286 := Tryz.func241.trans (congrArg some (by kernel_rfl))
  f317 := Tryz.func252.trans (congrArg some (by kernel_rfl))
  f318 := Tryz.func254.trans (congrArg some (by kernel_rfl))
  f319 := Tryz.func255.trans (congrArg some (by kernel_rfl))
  f320 := Tryz.func256.trans (congrArg some (by kernel_rfl))
  f337 := Tryz.func271.trans (congrArg some (by kernel_rfl))
  f338 := Tryz.func272.trans (congrArg some (by kernel_rfl))
  t0 := Tryz.underlying0
  a0 := Tryz.isAgg0
  z0 := Tryz.sizeOf0
  v0 := Tryz.zeroValue0
  t2 := Tryz.underlying2
  a2 := Tryz.isAgg2
  z2 := Tryz.sizeOf2
  v2 := Tryz.zeroValue2
  t3 := Tryz.underlying3
  a3 := Tryz.isAgg3
  z3 := Tryz.sizeOf3
  v3 := Tryz.zeroValue3
  t4 := Tryz.underlying4
  a4 := Tryz.isAgg4
  z4 := Tryz.sizeOf4
  v4 := Tryz.zeroValue4
  t5 := Tryz.underlying5
  a5 := Tryz.isAgg5
  z5 := Tryz.sizeOf5
  v5 := Tryz.zeroValue5
  t9 := Tryz.underlying9
  a9 := Tryz.isAgg9
  z9 := Tryz.sizeOf9
  v9 := Tryz.zeroValue9
  t20 := Tryz.underlying20
  a20 := Tryz.isAgg20
  z20 := Tryz.sizeOf20
  v20 := Tryz.zeroValue20
  t37 := Tryz.underlying68
  a37 := Tryz.isAgg68
  z37 := Tryz.sizeOf68
  v37 := Tryz.zeroValue68
  t46 := Tryz.underlying227
  a46 := Tryz.isAgg227
  z46 := Tryz.sizeOf227
  v46 := Tryz.zeroValue227
  t51 := Tryz.underlying247
  a51 := Tryz.isAgg247
  z51 := Tryz.sizeOf247
  v51 := Tryz.zeroValue247
  t53 := Tryz.underlying22
  a53 := Tryz.isAgg22
  z53 := Tryz.sizeOf22
  v53 := Tryz.zeroValue22
  t171 := Tryz.underlying236
  a171 := Tryz.isAgg236
  z171 := Tryz.sizeOf236
  v171 := Tryz.zeroValue236
  t173 := Tryz.underlying239
  a173 := Tryz.isAgg239
  z173 := Tryz.sizeOf239
  v173 := Tryz.zeroValue239
  t212 := Tryz.underlying246
  a212 := Tryz.isAgg246
  z212 := Tryz.sizeOf246
  v212 := Tryz.zeroValue246
  t213 := Tryz.underlying248
  a213 := Tryz.isAgg248
  z213 := Tryz.sizeOf248
  t232 := Tryz.underlying273
  a232 := Tryz.isAgg273
  z232 := Tryz.sizeOf273
  v232 := Tryz.zeroValue273
  t233 := Tryz.underlying274
  a233 := Tryz.isAgg274
  z233 := Tryz.sizeOf274
  v233 := Tryz.zeroValue274
  g17 := by kernel_rfl
  g18 := by kernel_rfl
  g19 := by kernel_rfl
  i0 := by kernel_rfl
  i2 := by kernel_rfl
  i3 := by kernel_rfl
  i4 := by kernel_rfl
  i5 := by kernel_rfl
  i9 := by kernel_rfl
  i20 := by kernel_rfl
  i37 := by kernel_rfl
  i46 := by kernel_rfl
  i51 := by kernel_rfl
  i53 := by kernel_rfl
  i171 := by kernel_rfl
  i173 := by kernel_rfl
  i212 := by kernel_rfl
  i232 := by kernel_rfl
  i233 := by kernel_rfl
  m17 := by kernel_rfl
  m18 := by kernel_rfl
  m19 := by kernel_rfl }
open Go.RowKit Go.Sort Go.Lib in
theorem Tryz.strconv_Itoa (n : Int) (h0 : -9223372036854775808 <= n) (h1 : n <= 9223372036854775807) (w : World) (htab : Lib.TabIs Tryz.prog w "internal/strconv.uint64pow10" .u64 Lib.pow10Tab) :
    Calls Tryz.prog 147 #[.int .i64 n] w fun e w' => e = .returned (.string ⟨(Lib.itoa n).toArray⟩) /\ ∃ k os, w' = grow (w.drewN k) os := Any.strconv_Itoa Tryz.laysM171 n h0 h1 w htab
end Go.Proofs
namespace Go.Proofs.YtpabcmaeaiaknaaGreatDoor
open S Go.RowKit Go.Sort
def ntx (n : Int) : ByteArray := strOf (decF 78 n)
theorem decF_lib : ∀ (f u : Nat), u < 10 ^ (f + 1) -> strOf (decF (f + 1) (u : Int)) = ⟨(Lib.decDigits u).toArray⟩ := by
  have key : ∀ (f u : Nat), u < 10 ^ (f + 1) -> (decF (f + 1) (u : Int)).map (fun n => UInt8.ofNat n.toNat) = Lib.decDigits u := by
    intro f
    induction f with
    | zero =>
      intro u hu
      rw [Lib.decDigits, dif_pos (by omega), decF, if_pos (by omega)]
      show [UInt8.ofNat (48 + (u : Int) % 10).toNat] = _
      rw [show (48 + (u : Int) % 10).toNat = 48 + u by omega]
    | succ f ih =>
      intro u hu
      rw [Lib.decDigits, decF]
      by_cases h : u < 10
      · rw [dif_pos h, if_pos (by omega)]
        show [UInt8.ofNat (48 + (u : Int) % 10).toNat] = _
        rw [show (48 + (u : Int) % 10).toNat = 48 + u by omega]
      · rw [dif_neg h, if_neg (by omega), List.map_append]
        have := ih (u / 10) (by rw [Nat.pow_succ] at hu; omega)
        rw [show ((u / 10 : Nat) : Int) = (u : Int) / 10 by omega] at this
        rw [this]
        show _ ++ [UInt8.ofNat (48 + (u : Int) % 10).toNat] = _
        rw [show (48 + (u : Int) % 10).toNat = 48 + u % 10 by omega]
  intro f u hu
  rw [strOf_eq, key f u hu]
theorem mb_grow (w : World) (k : Nat) (os : Array Obj) : Mb w (grow (w.drewN k) os) := by
  refine ⟨⟨rfl, rfl, rfl, ?_, fun b hb => ?_⟩, ?_⟩
  · show w.heap.size <= (w.heap ++ os).size
    simp
  · show (w.heap ++ os)[b]? = w.heap[b]?
    exact Array.getElem?_append_left hb
  · exact Nat.le_add_right _ _
abbrev TB (w : World) : Prop := Lib.TabIs Tryz.prog w "internal/strconv.uint64pow10" .u64 Lib.pow10Tab
theorem p_itoa (n : Int) (h0 : 0 <= n) (h1 : n <= 1073741824) (w : World) (hT : TB w) : Calls Tryz.prog 147 #[.int .i64 n] w fun e W => e = .returned (.string (ntx n)) /\ Mb w W :=
  (Tryz.strconv_Itoa n (by omega) (by omega) w hT).mono fun e w' h => ⟨by
    obtain ⟨u, rfl⟩ : ∃ u : Nat, n = (u : Int) := ⟨n.toNat, by omega⟩
    rw [h.1, Lib.itoa, if_neg (by omega)]
    unfold ntx
    rw [decF_lib 77 u (by omega)]; rfl, by
    obtain ⟨k, os, hw⟩ := h.2
    rw [hw]
    exact mb_grow w k os⟩
theorem TB.mb {w W : World} (h : TB w) (m : Mb w W) : TB W := by
  have hg : ∃ g, Tryz.prog.globalNamed "internal/strconv.uint64pow10" = some g := Option.isSome_iff_exists.1 (by kernel_rfl)
  obtain ⟨g, hg⟩ := hg
  unfold TB Lib.TabIs World.var? at h ⊢
  rw [hg] at h ⊢
  simp only [Option.bind_some] at h ⊢
  have hlt : g < w.heap.size := by
    apply Classical.byContradiction
    intro q
    have : w.heap[g]? = none := Array.getElem?_eq_none (by omega)
    rw [this] at h; cases h
  rw [show W.heap[g]? = w.heap[g]? from m.block g hlt]
  exact h
theorem TB.see {X W : World} (h : TB X) (hs : ∀ (b : Nat) (o : Obj), X.heap[b]? = some o -> o ≠ hole X -> W.heap[b]? = some o) : TB W := by
  have hg : ∃ g, Tryz.prog.globalNamed "internal/strconv.uint64pow10" = some g := Option.isSome_iff_exists.1 (by kernel_rfl)
  obtain ⟨g, hg⟩ := hg
  unfold TB Lib.TabIs World.var? at h ⊢
  rw [hg] at h ⊢
  simp only [Option.bind_some] at h ⊢
  cases hx : X.heap[g]? with
  | none => rw [hx] at h; cases h
  | some o =>
    have hne : o ≠ hole X := by
      intro e
      rw [hx, e] at h
      revert h
      unfold hole
      simp [Lib.pow10Tab]
    rw [hs g o hx hne, ← hx]; exact h
theorem TB.xf {X X' : World} (h : TB X) (hX : Xf X' X) : TB X' := h.see fun b o h1 h2 => (hX.2 b o h1 h2).1
section
variable {P : Program} {w0 : B0} {X : World} {o : Oper} {fr : FT} {h : HT} {n : Nat}
theorem r_callS {t : Value} {f : FuncId} {fn : Func} {v : Value} {us : List Value} {cal : Callee} {xs : Array Operand} {ts : Array TypeId} (ho : o.op = .call { callee := cal, args := xs, argTypes := ts }) (hcal : cal = .value (.func f)) (hf : P.funcs[f]? = some fn)
    (hc : ∀ W, Mb w0.w W -> (∀ (b : Nat) (o : Obj), X.heap[b]? = some o -> o ≠ hole X -> W.heap[b]? = some o) -> Calls P f us.toArray W fun e W' => e = .returned v /\ Mb W W')
    (hu : (evl fr xs.toList).map den2 = us := by rfl) (hv : den t = v := by rfl) (hb : callB fn = true := by rfl) (hp : (evl fr xs.toList).all pur2 = true := by rfl) (ht : pur t = true := by rfl) : Oa (Am w0 X) P o fr h n ⟨t, h, n, 0, 0⟩ := by
  subst hcal hu
  refine ⟨Ss.refl h n, fun k W a K' Q hA hop H hnew hk => ?_⟩
  have h8 := evl_rel (fr := fr) (k := k) (a := a) xs.toList (fun y hy => hop y (by rw [ho]; simp [Op.operands, Call.operands]; right; simpa using hy))
  have h9 := LR.map (p := pur2) (d := den2) (fun _ _ h => pur2_eq h) h8 hp
  have hrun : (execOp a.eval o).run P W = .ok (.enter f (xs.toList.map a.eval).toArray) W := by
    have : a.eval (.func f) = .func (.func f) #[] #[] := rfl
    simp only [execOp, ho, resolve, this, Deferred.ofValue, invoke, Sem.run_bind, Sem.run_pure, Result.andThen_ok, enter_ok hf hb]
    congr 2
    apply Array.ext'
    simp
  unfold Oper.wp
  rw [hrun, Oper.upon_enter, h9]
  refine (hc W ⟨hA.old, hA.dr⟩ hA.see).mono ?_
  rintro e W' ⟨rfl, hm⟩
  refine hk v W' k ⟨fun _ _ h => h, fun _ _ => rfl, HR.none.sub (fun i hi => (tb_or.1 hi).elim id id), fun b hb _ => hm.block b hb, fun _ _ _ h1 h2 => absurd h2 (by show ¬ _ < n; omega), fun _ _ h => h, hm.size, hm.os, ⟨hm.tape, hm.dr, Ty.old hm.block⟩, hm.output⟩ ?_
  rw [← hv]; exact pur_vx ht
end
abbrev d0 (n : Int) : Value := .agg #[litF, .int .u64 n, .int .u64 0, .int .u64 0, .int .u64 0, .int .i64 0]
set_option maxRecDepth 20000 in
theorem q_from (n : Int) (w : World) : Calls Tryz.prog 207 #[.int .u64 n] w fun e W => e = .returned (.agg #[.int .u64 n, .int .u64 0, .int .u64 0, .int .u64 0]) /\ Mb w W := by
  refine fn_pure [.int .u64 n] Tryz.func207 rfl rfl rfl (run_ok (st mo ?_))
  repeat refine st mo ?_
  rfl
set_option maxRecDepth 20000 in
theorem q_ofint (n : Int) (h0 : 0 <= n) (h1 : n <= 1073741824) (w : World) : Calls Tryz.prog 197 #[.int .i64 n, .int .i64 0] w fun e W => e = .returned (.tuple #[dc false n 0, .int .i64 0]) /\ Mb w W := by
  refine fn_pure [.int .i64 n, .int .i64 0] Tryz.func197 rfl rfl rfl (run_ok (st mo ?_))
  repeat refine st mo ?_
  refine ⟨fun h => absurd h (by decide), fun _ => ?_⟩
  repeat refine st mo ?_
  refine ⟨fun h => absurd h (by decide), fun _ => ?_⟩
  repeat refine st mo ?_
  refine ⟨n, wu rfl, st mo ?_⟩
  repeat refine st mo ?_
  refine ⟨fun h => absurd h (by omega), fun _ => ?_⟩
  repeat refine st mo ?_
  refine ⟨fun h => absurd h (by omega), fun _ => ?_⟩
  repeat refine st mo ?_
  refine ⟨_, fun _ => r_call (t := .agg #[.int .u64 n, .int .u64 0, .int .u64 0, .int .u64 0]) rfl rfl Tryz.func207 (fun W M E => q_from n W), st mo ?_⟩
  repeat refine st mo ?_
  show Value.tuple #[.agg #[.bool false, .int .u64 (l0 n), .int .u64 (l1 n), .int .u64 (l2 n), .int .u64 (l3 n), .int .i64 0], .int .i64 0] = _
  rw [show l0 n = n by unfold l0; omega, show l1 n = 0 by unfold l1; omega, show l2 n = 0 by unfold l2; omega, show l3 n = 0 by unfold l3; omega]
  rfl
set_option maxRecDepth 20000 in
theorem q_nat (n : Int) (h0 : 0 <= n) (h1 : n <= 1073741824) (w : World) : Calls Tryz.prog 154 #[.int .i64 n] w fun e W => e = .returned (.string (ntx n)) /\ Mb w W := by
  refine fn_pure [.int .i64 n] Tryz.func154 rfl rfl rfl (run_ok (st mo ?_))
  repeat refine st mo ?_
  refine ⟨_, fun _ => r_call (t := .tuple #[dF n 0, .int .i64 0]) rfl rfl Tryz.func197 (fun W M E => q_ofint n h0 h1 W), st mo ?_⟩
  repeat refine st mo ?_
  refine ⟨_, fun _ => r_call (t := .string (dtx false n 0)) rfl rfl Tryz.func155 (fun W M E => q_dtx false n 0 ⟨h0, by unfold MM; omega⟩ W), st mo ?_⟩
  repeat refine st mo ?_
  rfl
end Go.Proofs.YtpabcmaeaiaknaaGreatDoor
namespace Go.Proofs.YtpabcmaeaiaknaaGreatDoor
namespace S
open Go.RowKit (Below)
theorem Xf.tr {A B C : World} (h : Xf A B) (g : Xf B C) : Xf A C := ⟨Nat.le_trans g.1 h.1, fun b o h1 h2 => by
  obtain ⟨h3, h4⟩ := g.2 b o h1 h2
  exact h.2 b o h3 h4⟩
def Ho (X : World) (b : Nat) : Prop := ∀ o : Obj, X.heap[b]? = some o -> o = hole X
theorem Ho.xf {X X' : World} (h : Xf X' X) {b : Nat} (g : Ho X' b) : Ho X b := fun o ho => Classical.byContradiction fun hne => (h.2 b o ho hne).2 (g o (h.2 b o ho hne).1)
def retX {Y : Type} (P : Program) (fn : Func) (X : World) (m : Nat) (t : Y -> Value) (h' : Y -> HT) (n' : Nat) (F : Y -> (Nat -> Prop) -> World -> Prop) (e : Exit) (s : St) : Prop := Xf s.X X /\ match e with
  | .normal => resK P s.f s.h fn.results.toList fun vs => ∃ y σ, F y (Ho X) s.X /\ fitV σ (single vs) (t y) /\ fitH σ s.h (h' y) /\ σ.length = n' /\ (apartL σ && pfx m σ) = true
  | .ret => resK P s.f s.h fn.results.toList fun vs => ∃ y σ, F y (Ho X) s.X /\ fitV σ (single vs) (t y) /\ fitH σ s.h (h' y) /\ σ.length = n' /\ (apartL σ && pfx m σ) = true
  | _ => False
theorem ex_mask (W : World) (O : Nat -> Prop) : ∃ X : World, X.heap.size = W.heap.size /\ (∀ b, ¬ O b -> X.heap[b]? = W.heap[b]?) /\ (∀ b o, O b -> X.heap[b]? = some o -> o = hole X) /\ ∀ (b : Nat) (o : Obj), W.heap[b]? = some o -> o ≠ hole X := by
  obtain ⟨N, hN⟩ := ex_hole W.heap.toList
  have dec : ∀ b, Decidable (O b) := fun b => Classical.propDecidable _
  refine ⟨{ W with heap := W.heap.mapIdx (fun b o => @ite Obj (O b) (dec b) (.cells #[] N (0, 0)) o), drawn := N }, by simp, fun b hb => ?_, fun b o hb ho => ?_, fun b o ho => hN o (by
    obtain ⟨hlt, rfl⟩ := Array.getElem?_eq_some_iff.1 ho
    simp)⟩
  · show (W.heap.mapIdx _)[b]? = _
    rw [Array.getElem?_mapIdx]
    cases W.heap[b]? with
    | none => rfl
    | some o => simp only [Option.map_some, if_neg hb]
  · have ho : (W.heap.mapIdx (fun b o => @ite Obj (O b) (dec b) (.cells #[] N (0, 0)) o))[b]? = some o := ho
    rw [Array.getElem?_mapIdx] at ho
    cases hw : W.heap[b]? with
    | none => rw [hw] at ho; cases ho
    | some o' => rw [hw] at ho; simp only [Option.map_some, if_pos hb] at ho; cases ho; rfl
section
variable {P : Program} {w0 : B0} {C : Exit -> St -> Prop}
theorem Rl.grow {s t : St} {σ : List Nat} {k : K} {W : World} {a : Act} {X' : World} (R : Rl w0 s k W a) (F : Fit w0.m s t σ) (see : ∀ (b : Nat) (o : Obj), X'.heap[b]? = some o -> o ≠ hole X' -> W.heap[b]? = some o) (out : ∀ (j i b z : Nat), σ[j]? = some i -> k i = some (b, z) -> ∀ o : Obj, X'.heap[b]? = some o -> o = hole X') (sz : X'.heap.size <= W.heap.size) : Rl w0 ⟨t.f, t.h, t.n, X'⟩ (ren σ k) W a := by
  have R2 := F.rl R
  exact ⟨R2.fr, R2.hr, R2.nn, R2.nk, ⟨R2.am.old, R2.am.own, see, fun i b z hk o ho => by obtain ⟨i0, h1, h2⟩ := ren_some hk; exact out i i0 b z h1 h2 o ho, sz, R2.am.kp, R2.am.dr, R2.am.ty⟩⟩
theorem Fit.nt {m0 : Nat} {s t : St} {σ : List Nat} (F : Fit m0 s t σ) (i : Nat) (hi : t.n <= i) : hget t.h i = none := by
  cases e : hget t.h i with
  | none => rfl
  | some cs =>
    obtain ⟨i', _, h0, _⟩ := fitH_get F.h e
    have := (List.getElem?_eq_some_iff.1 h0).1
    have := F.n
    omega
theorem Rl.told {s t : St} {σ : List Nat} {k : K} {W : World} {a : Act} {i b z : Nat} {cs : List Value} (R : Rl w0 s k W a) (F : Fit w0.m s t σ) (hk : k i = some (b, z + 1)) (hcs : hget s.h i = some cs) (hp : cs.all pur1 = true) (hσ : ∀ j ∈ σ, j ≠ i /\ live s.h j) : ∃ X' : World, Xf X' s.X /\ Ho s.X b /\ Lies X' b 0 (cs.map den1) /\ Rl w0 ⟨t.f, t.h, t.n, X'⟩ (ren σ k) W a := by
  obtain ⟨X', hXs, hXo, hXi, hXn⟩ := ex_mask W (fun b => ∃ (j i z : Nat), σ[j]? = some i /\ k i = some (b, z))
  have hall : ∀ i, live s.h i -> i < s.n := fun i hl => by
    rcases Nat.lt_or_ge i s.n with h | h
    · exact h
    · exact absurd hl (not_live (R.nn i h))
  have hb : ¬ ∃ (j i z : Nat), σ[j]? = some i /\ k i = some (b, z) := fun ⟨j, i', z', h1, h2⟩ => by
    obtain ⟨h3, h4⟩ := hσ i' (List.mem_of_getElem? h1)
    exact R.hr.inj i' i (tb_ones.2 (hall i' h4)) (tb_ones.2 (hall i ⟨cs, hcs⟩)) h4 ⟨cs, hcs⟩ h3 b _ b _ h2 hk rfl
  obtain ⟨b2, us, sp, ty, e1, e2, e3⟩ := ((R.hr.all R.nn (bit i)).rep i (tb_bit.2 rfl) cs hcs).cel hk
  rw [hk] at e1; cases e1
  have h6 := LR.map (p := pur1) (d := den1) (fun _ _ h => pur1_eq h) e3 hp
  refine ⟨X', ⟨by rw [hXs]; exact R.am.sz, fun b' o h1 h2 => ?_⟩, R.am.out i b _ hk, fun j u hj => ?_, R.grow F (fun b' o h1 h2 => by rw [hXo b' (fun h => h2 (hXi b' o h h1))] at h1; exact h1) (fun j i b' z' h1 h2 o ho => hXi b' o ⟨j, i, z', h1, h2⟩ ho) (by rw [hXs]; exact Nat.le_refl _)⟩
  · have h3 := R.am.see b' o h1 h2
    exact ⟨by rw [hXo b' (fun ⟨j, i', z', _, h5⟩ => h2 (R.am.out i' b' z' h5 o h1))]; exact h3, hXn b' o h3⟩
  · have e2' : X'.heap[b]? = some (.cells (us ++ sp).toArray ty (0, 0)) := by rw [hXo b hb]; exact e2
    rw [← h6] at hj
    rw [cell_of e2', Nat.zero_add, List.getElem?_append_left (List.getElem?_eq_some_iff.1 hj).1]; exact hj
def lives (h : HT) (i : Nat) (σ : List Nat) : Bool := σ.all fun j => !Nat.beq j i && (hget h j).isSome
end
end S
end Go.Proofs.YtpabcmaeaiaknaaGreatDoor
namespace Go.Proofs.YtpabcmaeaiaknaaGreatDoor
open S Go.RowKit
abbrev P0 : Value := .pointer (some ⟨0, 0, none⟩)
section
variable {w0 : B0} {X : World} {o : Oper} {fr : FT} {h : HT} {n : Nat} {s d : TypeId} {y : Operand} {T N : Nat}
theorem ty_at {k : K} {W : World} {b z : Nat} (hA : Am w0 X k W) (hT : TyB T N w0.l w0.t) (hm : Nat.blt 0 w0.m = true) (hk : k 0 = some (b, z)) : ∃ cs fz, W.heap[b]? = some (.cells cs T fz) /\ cs.size = N := by
  rw [hA.kp 0 (by rw [Nat.blt_eq] at hm; exact hm)] at hk
  obtain ⟨cs, fz, h1, h2⟩ := hT
  obtain ⟨cs', fz', h3, h4⟩ := hA.ty _ cs T fz h1
  have : (w0.l 0).1 = b := by rw [Option.some.inj hk]
  rw [this] at h3
  exact ⟨cs', fz', h3, h4.trans h2⟩
theorem shape_at {W : World} {b : Nat} {cs : Array Value} {fz : Nat × Nat} (e : W.heap[b]? = some (.cells cs T fz)) : W.shape? b = some (T, cs.size) := by
  unfold World.shape?; rw [e]
theorem r_toU (hT : TyB T N w0.l w0.t) (hN : 0 < N) (ho : o.op = .convert 72 171 y := by rfl) (hv : evo fr y = P0 := by rfl) (hm : Nat.blt 0 w0.m = true := by rfl) : Oa (Am w0 X) Tryz.prog o fr h n ⟨P0, h, n, 0, 0⟩ := by
  refine Oa.val fun k W a hA hop => ?_
  have h1 := hop y (by simp [ho, Op.operands])
  rw [hv] at h1
  obtain ⟨_, b, z, hk, h3⟩ := h1.ptr_inv
  obtain ⟨cs, fz, h4, h5⟩ := ty_at hA hT hm hk
  refine ⟨.pointer (some ⟨b, 0, none⟩), VX.of0 ⟨trivial, b, z, hk, rfl⟩, ?_⟩
  obtain ⟨j, hj⟩ : ∃ j, Tryz.prog.info? 74 = some j := Option.isSome_iff_exists.1 (by kernel_rfl)
  have hjs : (Tryz.prog.info? 74).map (·.size) = some 2 := by kernel_rfl
  rw [hj] at hjs
  have hr := Lib.run_to_unsafe (P := Tryz.prog) W (src := 72) (dst := 171) (t := 74) (e := T) (cells := N) ⟨b, 0, none⟩ Tryz.underlying72 Tryz.underlying171 hj (by have h2 : j.size = 2 := Option.some.inj hjs; omega) (by rw [shape_at h4, h5]) hN
  simp only [execOp, ho, h3, Sem.run_bind, hr, Result.andThen_ok, Sem.run_pure]
theorem r_frU (hT : TyB T N w0.l w0.t) (hl : liesAt Tryz.prog Tryz.prog.depth T (N / Tryz.prog.cellsOf T) 0 74 1 = true) (ho : o.op = .convert 171 72 y := by rfl) (hv : evo fr y = P0 := by rfl) (hm : Nat.blt 0 w0.m = true := by rfl) : Oa (Am w0 X) Tryz.prog o fr h n ⟨P0, h, n, 0, 0⟩ := by
  refine Oa.val fun k W a hA hop => ?_
  have h1 := hop y (by simp [ho, Op.operands])
  rw [hv] at h1
  obtain ⟨_, b, z, hk, h3⟩ := h1.ptr_inv
  obtain ⟨cs, fz, h4, h5⟩ := ty_at hA hT hm hk
  refine ⟨.pointer (some ⟨b, 0, none⟩), VX.of0 ⟨trivial, b, z, hk, rfl⟩, ?_⟩
  obtain ⟨j, hj⟩ : ∃ j, Tryz.prog.info? 74 = some j := Option.isSome_iff_exists.1 (by kernel_rfl)
  have hr := Lib.run_from_unsafe (P := Tryz.prog) W (src := 171) (dst := 72) (u := 74) (e := T) (cells := N) ⟨b, 0, none⟩ Tryz.underlying171 Tryz.underlying72 hj (by rw [shape_at h4, h5]) hl
  simp only [execOp, ho, h3, Sem.run_bind, hr, Result.andThen_ok, Sem.run_pure]
theorem r_noE (ho : o.op = .call { callee := .value (.func 124), args := #[y], argTypes := #[171] } := by rfl) (hv : evo fr y = P0 := by rfl) : Oa (Am w0 X) Tryz.prog o fr h n ⟨P0, h, n, 0, 0⟩ := by
  refine Oa.val fun k W a hA hop => ?_
  have h1 := hop y (by simp [ho, Op.operands, Call.operands])
  rw [hv] at h1
  obtain ⟨_, b, z, hk, h3⟩ := h1.ptr_inv
  refine ⟨.pointer (some ⟨b, 0, none⟩), VX.of0 ⟨trivial, b, z, hk, rfl⟩, ?_⟩
  have hr : (callFunc 124 #[.pointer (some ⟨b, 0, none⟩)]).run Tryz.prog W = .ok (.value (.pointer (some ⟨b, 0, none⟩))) W := by
    rw [run_callFunc_extern Tryz.func124 (by kernel_rfl) (by kernel_rfl) (by kernel_rfl) (e := Extern.AbiNoEscape.same) (by kernel_rfl)]
    rw [Lib.run_noEscape]; rfl
  have : a.eval (.func 124) = .func (.func 124) #[] #[] := rfl
  simp only [execOp, ho, resolve, this, Deferred.ofValue, invoke, Sem.run_bind, Sem.run_pure, Result.andThen_ok]
  simpa [h3] using hr
theorem r_pnn (ho : o.op = .binOp .eql 72 y (.const (.pointer none)) 72 := by rfl) (hv : evo fr y = .pointer none := by rfl) : Oa (Am w0 X) Tryz.prog o fr h n ⟨.bool true, h, n, 0, 0⟩ :=
  Oo.to (s_bin0 ho (p := .pointer none) (q := .pointer none) (fun k u hu => by rw [hv] at hu; exact pur1_eq hu rfl) (fun k u hu => pur1_eq hu rfl) rfl (fun w => by kernel_rfl))
theorem r_pns (ho : o.op = .binOp .eql 72 y (.const (.pointer none)) 72 := by rfl) (hv : evo fr y = P0 := by rfl) : Oa (Am w0 X) Tryz.prog o fr h n ⟨.bool false, h, n, 0, 0⟩ := by
  refine Oa.val fun k W a hA hop => ?_
  have h1 := hop y (by simp [ho, Op.operands])
  rw [hv] at h1
  obtain ⟨_, b, z, hk, h3⟩ := h1.ptr_inv
  refine ⟨.bool false, VX.of0 rfl, ?_⟩
  have h2 : a.eval (.const (.pointer none)) = .pointer none := rfl
  have hr : (do eqGuard .eql 72 y (.const (.pointer none)) (.pointer (some ⟨b, 0, none⟩)) (.pointer none); binOp .eql 72 (.pointer (some ⟨b, 0, none⟩)) (.pointer none) : Sem Value).run Tryz.prog W = .ok (.bool false) W := by kernel_rfl
  rw [Sem.run_bind] at hr
  simp only [execOp, ho, h3, h2]
  rw [Sem.run_bind, Sem.run_bind, hr]; rfl
theorem r_pss {y2 : Operand} (ho : o.op = .binOp .neq 72 y y2 72 := by rfl) (hv : evo fr y = P0 := by rfl) (hv2 : evo fr y2 = P0 := by rfl) : Oa (Am w0 X) Tryz.prog o fr h n ⟨.bool false, h, n, 0, 0⟩ := by
  refine Oa.val fun k W a hA hop => ?_
  have h1 := hop y (by simp [ho, Op.operands])
  have h2 := hop y2 (by simp [ho, Op.operands])
  rw [hv] at h1
  rw [hv2] at h2
  obtain ⟨_, b, z, hk, h3⟩ := h1.ptr_inv
  obtain ⟨_, b', z', hk', h3'⟩ := h2.ptr_inv
  have : b' = b := by have := hk.symm.trans hk'; cases this; rfl
  subst this
  refine ⟨.bool false, VX.of0 rfl, ?_⟩
  obtain ⟨j, hj⟩ : ∃ j, Tryz.prog.info? 74 = some j := Option.isSome_iff_exists.1 (by kernel_rfl)
  have hr := Lib.run_neq_ptr_same (P := Tryz.prog) W (tp := 72) (te := 74) ⟨b', 0, none⟩ Tryz.underlying72 hj
  have hg : (eqGuard .neq 72 y y2 (.pointer (some ⟨b', 0, none⟩)) (.pointer (some ⟨b', 0, none⟩))).run Tryz.prog W = .ok () W := by kernel_rfl
  simp only [execOp, ho, h3, h3', Sem.run_bind, hg, Result.andThen_ok, hr, Sem.run_pure]
end
abbrev bT (i m : Nat) : Value := .slice (some ⟨i, 0, some 7⟩) m 1
abbrev nS : Value := raw (.slice none 0 0)
theorem ts_ren {σ : List Nat} {k : K} {i j q q' : Nat} {s : Option Nat} (h : σ[j]? = some i) (r : ts k ⟨i, q, s⟩) : ts (ren σ k) ⟨j, q', s⟩ := by
  unfold ts at *
  split at r
  · rename_i e
    have e : s = some 7 := e
    subst e
    show ∃ b z, ren σ k j = some (b, z + 1) /\ z % 2 = 1
    rw [ren_at h]; exact r
  · rename_i e
    trivial
theorem fT {σ : List Nat} {i j m m' : Nat} (hm : m = m' := by rfl) (h : σ[j]? = some i := by rfl) : fitV σ (bT i m) (bT j m') := fun k w hw => by
  subst hm
  obtain ⟨h0, b, z, c, hk, h3⟩ := hw.slc_inv
  exact VX.of0 ⟨ts_ren h h0, b, z, c, by rw [ren_at h]; exact hk, h3⟩
theorem uT {τ : List Nat} {i j m m' : Nat} (hm : m = m' := by rfl) (h : τ[j]? = some i := by rfl) : unV τ (bT j m) (bT i m') := fun k w hw => by
  subst hm
  obtain ⟨h0, b, z, c, hk, h3⟩ := hw.slc_inv
  have hk' : ren τ k j = some (b, z + 1) := hk
  rw [ren_at h] at hk'
  refine VX.of0 ⟨?_, b, z, c, hk', h3⟩
  obtain ⟨b', z', e1, e2⟩ : ∃ b z, ren τ k j = some (b, z + 1) /\ z % 2 = 1 := h0
  rw [ren_at h] at e1
  exact ⟨b', z', e1, e2⟩
theorem fnS {σ : List Nat} : fitV σ (.slice none 0 0) nS := fun k w hw => by rw [hw.nilslc_inv]; exact VX.raw
section
variable {w0 : B0} {X : World} {o : Oper} {fr : FT} {h : HT} {n : Nat} {xs : Array Operand} {t' : TypeId}
theorem ap5 : apOk Tryz.prog 5 1 = true := by kernel_rfl
set_option maxRecDepth 20000 in
theorem r_aT0 (s : ByteArray) (hm : 0 < s.size) (hb : s.size <= 1407374883) (nn : ∀ i, n <= i -> hget h i = none) (hn : n < 4096 := by decide) (ho : o.op = .call { callee := .builtin .append, args := xs, argTypes := #[68, t'] } := by rfl) (hvs : evl fr xs.toList = [nS, .string s] := by rfl) (ht : Tryz.prog.underlying t' = some .string := by rfl) : Oa (Am w0 X) Tryz.prog o fr h n ⟨bT n s.size, msk (hs12 h n (some (bcs s))) n, n + 1, 0, bit n⟩ :=
  (r_app0q (q := some 7) hn nn ho hvs (fun _ _ h => h.raw_inv) Tryz.underlying68 (e := 5) rfl ap5 (put_str ht s) hm hb (Or.inr ⟨rfl, rfl⟩)).mask n
set_option maxRecDepth 20000 in
theorem r_aT {a m : Nat} (t s : ByteArray) (hm : t.size = m) (hb : t.size + s.size <= 1407374883) (nn : ∀ i, n <= i -> hget h i = none) (hcs : hget h a = some (bcs t)) (hn : n < 4096 := by decide) (ho : o.op = .call { callee := .builtin .append, args := xs, argTypes := #[68, t'] } := by rfl) (hvs : evl fr xs.toList = [bT a m, .string s] := by rfl) (ht : Tryz.prog.underlying t' = some .string := by rfl) : Oa (Am w0 X) Tryz.prog o fr h n ⟨bT n (m + s.size), msk (hs12 (hs12 h a none) n (some (bcs (t ++ s)))) n, n + 1, Nat.lor (bit a) 0, Nat.lor (bit a) (bit n)⟩ := by
  subst hm
  rw [bcs_app]
  exact (r_appq (q := some 7) hn nn ho hvs Tryz.underlying68 (e := 5) rfl ap5 hcs (by rw [bcs_len]; simp) (put_str ht s) hb (Or.inr ⟨rfl, rfl⟩)).mask n
set_option maxRecDepth 20000 in
theorem r_aTL {a m : Nat} (t : List Int) (s : ByteArray) (hm : t.length = m) (hb : t.length + s.size <= 1407374883) (nn : ∀ i, n <= i -> hget h i = none) (hcs : hget h a = some (t.map by8)) (hn : n < 4096 := by decide) (ho : o.op = .call { callee := .builtin .append, args := xs, argTypes := #[68, t'] } := by rfl) (hvs : evl fr xs.toList = [bT a m, .string s] := by rfl) (ht : Tryz.prog.underlying t' = some .string := by rfl) : Oa (Am w0 X) Tryz.prog o fr h n ⟨bT n (m + s.size), msk (hs12 (hs12 h a none) n (some ((t ++ bys s).map by8))) n, n + 1, Nat.lor (bit a) 0, Nat.lor (bit a) (bit n)⟩ := by
  subst hm
  rw [List.map_append, ← bcs_bys]
  exact (r_appq (q := some 7) hn nn ho hvs Tryz.underlying68 (e := 5) rfl ap5 hcs (by simp) (put_str ht s) hb (Or.inr ⟨rfl, rfl⟩)).mask n
set_option maxRecDepth 20000 in
theorem r_bT0 {c : Nat} (b : Int) (nn : ∀ i, n <= i -> hget h i = none) (hc : hget h c = some [by8 b]) (hn : n < 4096 := by decide) (ho : o.op = .call { callee := .builtin .append, args := xs, argTypes := #[68, 68] } := by rfl) (hvs : evl fr xs.toList = [nS, .slice (some ⟨c, 0, none⟩) 1 1] := by rfl) : Oa (Am w0 X) Tryz.prog o fr h n ⟨bT n 1, msk (hs12 h n (some [by8 b])) n, n + 1, bit c, bit n⟩ :=
  (r_app0q (q := some 7) hn nn ho hvs (fun _ _ h => h.raw_inv) Tryz.underlying68 (e := 5) rfl ap5 (put_own hc rfl rfl rfl Tryz.underlying68) (by decide) (by decide) (Or.inr ⟨rfl, rfl⟩)).mask n
set_option maxRecDepth 20000 in
theorem r_bT {a m c : Nat} (t : List Int) (b : Int) (hm : t.length = m) (hb : m + 1 <= 1407374883) (nn : ∀ i, n <= i -> hget h i = none) (hcs : hget h a = some (t.map by8)) (hc : hget h c = some [by8 b]) (hn : n < 4096 := by decide) (ho : o.op = .call { callee := .builtin .append, args := xs, argTypes := #[68, 68] } := by rfl) (hvs : evl fr xs.toList = [bT a m, .slice (some ⟨c, 0, none⟩) 1 1] := by rfl) : Oa (Am w0 X) Tryz.prog o fr h n ⟨bT n (m + 1), msk (hs12 (hs12 h a none) n (some ((t ++ [b]).map by8))) n, n + 1, Nat.lor (bit a) (bit c), Nat.lor (bit a) (bit n)⟩ := by
  subst hm
  rw [List.map_append]
  exact (r_appq (q := some 7) hn nn ho hvs Tryz.underlying68 (e := 5) rfl ap5 hcs (by simp) (put_own hc rfl rfl rfl Tryz.underlying68) hb (Or.inr ⟨rfl, rfl⟩)).mask n
end
abbrev hB (u v : Value) (tl c1 : List Value) : HT := [(0 + 4096, none), (0, some (u :: v :: tl)), (1 + 4096, none), (1, some c1)]
abbrev hB1 (u v : Value) (tl : List Value) : HT := [(0 + 4096, none), (0, some (u :: v :: tl))]
theorem fvp {σ : List Nat} {u v : Value} (h : u = v := by rfl) (hp : pur v = true := by rfl) : fitV σ u v := fun k w hw => by
  subst h; rw [pur_eq hw hp]; exact pur_vx hp
set_option maxRecDepth 20000 in
theorem ck_fresh (T N : Nat) (hTN : (T = 74 /\ N = 2) ∨ (T = 95 /\ N = 3)) {tl c1 : List Value} (htl : tl.all pur1 = true) (hc1 : c1.all pur1 = true) (X : World) : CtrT Tryz.prog T N X 58 [P0] (hB (.pointer none) nS tl c1) 2 2 (.tuple #[]) (hB P0 nS tl c1) 2 := by
  refine fn_cT _ Tryz.func58 rfl rfl rfl rfl rfl (fun w l tw X' hX hT => run_ok (st mo ?_))
  repeat refine st mo ?_
  refine ⟨_, rfl, st mo ?_⟩
  repeat refine st mo ?_
  refine ⟨_, r_pnn, fun _ => ?_, fun h => by cases h⟩
  repeat refine st mo ?_
  refine ⟨_, fun nn => r_toU hT (by omega), st mo ?_⟩
  repeat refine st mo ?_
  refine ⟨_, fun nn => r_noE, st mo ?_⟩
  repeat refine st mo ?_
  refine ⟨_, fun nn => r_frU hT (by rcases hTN with ⟨rfl, rfl⟩ | ⟨rfl, rfl⟩ <;> kernel_rfl), st mo ?_⟩
  repeat refine st mo ?_
  refine ⟨by show 0 + 1 <= _; simp, _, rfl, st mo ?_⟩
  repeat refine st mo ?_
  exact ⟨rfl, [0, 1], ft0, ⟨trivial, fitL_cons fp (fitL_cons fv (fl rfl htl)), trivial, fl rfl hc1, trivial⟩, rfl, rfl⟩
set_option maxRecDepth 20000 in
theorem ck_fresh1 (T N : Nat) (hTN : (T = 74 /\ N = 2) ∨ (T = 95 /\ N = 3)) {tl : List Value} (htl : tl.all pur1 = true) (X : World) : CtrT Tryz.prog T N X 58 [P0] (hB1 (.pointer none) nS tl) 1 1 (.tuple #[]) (hB1 P0 nS tl) 1 := by
  refine fn_cT _ Tryz.func58 rfl rfl rfl rfl rfl (fun w l tw X' hX hT => run_ok (st mo ?_))
  repeat refine st mo ?_
  refine ⟨_, rfl, st mo ?_⟩
  repeat refine st mo ?_
  refine ⟨_, r_pnn, fun _ => ?_, fun h => by cases h⟩
  repeat refine st mo ?_
  refine ⟨_, fun nn => r_toU hT (by omega), st mo ?_⟩
  repeat refine st mo ?_
  refine ⟨_, fun nn => r_noE, st mo ?_⟩
  repeat refine st mo ?_
  refine ⟨_, fun nn => r_frU hT (by rcases hTN with ⟨rfl, rfl⟩ | ⟨rfl, rfl⟩ <;> kernel_rfl), st mo ?_⟩
  repeat refine st mo ?_
  refine ⟨by show 0 + 1 <= _; simp, _, rfl, st mo ?_⟩
  repeat refine st mo ?_
  exact ⟨rfl, [0], ft0, ⟨trivial, fitL_cons fp (fitL_cons fv (fl rfl htl)), trivial⟩, rfl, rfl⟩
set_option maxRecDepth 20000 in
theorem ck_used {m : Nat} {tl c1 : List Value} (X : World) (htl : tl.all pur1 = true) (hc1 : c1.all pur1 = true) : Ctr Tryz.prog X 58 [P0] (hB P0 (bT 1 m) tl c1) 2 2 (.tuple #[]) (hB P0 (bT 1 m) tl c1) 2 := by
  refine fn_c _ Tryz.func58 rfl rfl rfl rfl (fun w l tw X' hX => run_ok (st mo ?_))
  repeat refine st mo ?_
  refine ⟨_, rfl, st mo ?_⟩
  repeat refine st mo ?_
  refine ⟨false, r_pns, fun h => absurd h (by decide), fun _ => ?_⟩
  repeat refine st mo ?_
  refine ⟨_, rfl, st mo ?_⟩
  repeat refine st mo ?_
  refine ⟨false, r_pss, fun h => absurd h (by decide), fun _ => ?_⟩
  repeat refine st mo ?_
  exact ⟨rfl, [0, 1], ft0, ⟨trivial, fitL_cons fp (fitL_cons fT (fl rfl htl)), trivial, fl rfl hc1, trivial⟩, rfl, rfl⟩
set_option maxRecDepth 20000 in
theorem ws_fresh (T N : Nat) (hTN : (T = 74 /\ N = 2) ∨ (T = 95 /\ N = 3)) {tl c1 : List Value} (htl : tl.all pur1 = true) (hc1 : c1.all pur1 = true) (s : ByteArray) (h1 : 1 <= s.size) (h2 : s.size <= 1407374883) (X : World) : CtrT Tryz.prog T N X 22 [P0, .string s] (hB (.pointer none) nS tl c1) 2 1 (.tuple #[.int .i64 (s.size : Int), .nilIface]) (hB P0 (bT 1 s.size) tl (bcs s)) 2 := by
  refine fn_cT _ Tryz.func22 rfl rfl rfl rfl rfl (fun w l tw X' hX hT => run_ok (st mo ?_))
  repeat refine st mo ?_
  refine ⟨_, fun _ => r_cT (tc := .tuple #[]) [0, 1] [some (P0 :: nS :: tl), some c1] [0, 1] rfl rfl hT (ck_fresh T N hTN htl hc1 X') (by exact fitL_cons fp rfl) ⟨trivial, fitL_cons fv (fitL_cons fv (fl rfl htl)), trivial, fl rfl hc1, trivial⟩ ut0 ⟨unL_cons S.up (unL_cons uv (ul rfl htl)), ul rfl hc1, trivial⟩, st mo ?_⟩
  repeat refine st mo ?_
  refine ⟨_, rfl, st mo ?_⟩
  repeat refine st mo ?_
  refine ⟨_, fun nn => r_aT0 s (by omega) h2 nn, st mo ?_⟩
  repeat refine st mo ?_
  refine ⟨by show 0 + 1 + 1 <= _; simp, _, rfl, st mo ?_⟩
  repeat refine st mo ?_
  exact ⟨rfl, [0, 2], fvp, ⟨trivial, fitL_cons fp (fitL_cons fT (fl rfl htl)), trivial, fl rfl (bcs_pur s), trivial⟩, rfl, rfl⟩
set_option maxRecDepth 20000 in
theorem ws_used {tl : List Value} (htl : tl.all pur1 = true) (t s : ByteArray) (h2 : t.size + s.size <= 1407374883) (X : World) : Ctr Tryz.prog X 22 [P0, .string s] (hB P0 (bT 1 t.size) tl (bcs t)) 2 1 (.tuple #[.int .i64 (s.size : Int), .nilIface]) (hB P0 (bT 1 (t ++ s).size) tl (bcs (t ++ s))) 2 := by
  refine fn_c _ Tryz.func22 rfl rfl rfl rfl (fun w l tw X' hX => run_ok (st mo ?_))
  repeat refine st mo ?_
  refine ⟨_, fun _ => r_c (tc := .tuple #[]) [0, 1] [some (P0 :: bT 1 t.size :: tl), some (bcs t)] [0, 1] rfl rfl (ck_used X' htl (bcs_pur t)) (by exact fitL_cons fp rfl) ⟨trivial, fitL_cons fp (fitL_cons fT (fl rfl htl)), trivial, fl rfl (bcs_pur t), trivial⟩ ut0 ⟨unL_cons S.up (unL_cons uT (ul rfl htl)), ul rfl (bcs_pur t), trivial⟩, st mo ?_⟩
  repeat refine st mo ?_
  refine ⟨_, rfl, st mo ?_⟩
  repeat refine st mo ?_
  refine ⟨_, fun nn => r_aT t s rfl h2 nn rfl, st mo ?_⟩
  repeat refine st mo ?_
  refine ⟨by show 0 + 1 + 1 <= _; simp, _, rfl, st mo ?_⟩
  repeat refine st mo ?_
  exact ⟨rfl, [0, 2], fvp, ⟨trivial, fitL_cons fp (fitL_cons (fT (by rw [ByteArray.size_append])) (fl rfl htl)), trivial, fl rfl (bcs_pur _), trivial⟩, rfl, rfl⟩
set_option maxRecDepth 20000 in
theorem wb_used {tl : List Value} (htl : tl.all pur1 = true) (t : List Int) (b : Int) (h2 : t.length + 1 <= 1407374883) (X : World) : Ctr Tryz.prog X 222 [P0, .int .u8 b] (hB P0 (bT 1 t.length) tl (t.map by8)) 2 1 .nilIface (hB P0 (bT 1 (t ++ [b]).length) tl ((t ++ [b]).map by8)) 2 := by
  refine fn_c _ Tryz.func222 rfl rfl rfl rfl (fun w l tw X' hX => run_ok (st mo ?_))
  repeat refine st mo ?_
  refine ⟨_, fun _ => r_c (tc := .tuple #[]) [0, 1] [some (P0 :: bT 1 t.length :: tl), some (t.map by8)] [0, 1] rfl rfl (ck_used X' htl (by8_pur t)) (by exact fitL_cons fp rfl) ⟨trivial, fitL_cons fp (fitL_cons fT (fl rfl htl)), trivial, fl rfl (by8_pur t), trivial⟩ ut0 ⟨unL_cons S.up (unL_cons uT (ul rfl htl)), ul rfl (by8_pur t), trivial⟩, st mo ?_⟩
  repeat refine st mo ?_
  refine ⟨_, rfl, st mo ?_⟩
  repeat refine st mo ?_
  refine ⟨_, fun nn => r_bT t b rfl h2 nn rfl rfl, st mo ?_⟩
  repeat refine st mo ?_
  refine ⟨by show 0 + 1 + 1 <= _; simp, _, rfl, st mo ?_⟩
  repeat refine st mo ?_
  exact ⟨rfl, [0, 3], fvp, ⟨trivial, fitL_cons fp (fitL_cons (fT (by simp)) (fl rfl htl)), trivial, fl rfl (by8_pur _), trivial⟩, rfl, rfl⟩
set_option maxRecDepth 20000 in
theorem wb_fresh (T N : Nat) (hTN : (T = 74 /\ N = 2) ∨ (T = 95 /\ N = 3)) {tl : List Value} (htl : tl.all pur1 = true) (b : Int) (X : World) : CtrT Tryz.prog T N X 222 [P0, .int .u8 b] (hB1 (.pointer none) nS tl) 1 1 .nilIface (hB P0 (bT 1 1) tl ([b].map by8)) 2 := by
  refine fn_cT _ Tryz.func222 rfl rfl rfl rfl rfl (fun w l tw X' hX hT => run_ok (st mo ?_))
  repeat refine st mo ?_
  refine ⟨_, fun _ => r_cT (tc := .tuple #[]) [0] [some (P0 :: nS :: tl)] [0] rfl rfl hT (ck_fresh1 T N hTN htl X') (by exact fitL_cons fp rfl) ⟨trivial, fitL_cons fv (fitL_cons fv (fl rfl htl)), trivial⟩ ut0 ⟨unL_cons S.up (unL_cons uv (ul rfl htl)), trivial⟩, st mo ?_⟩
  repeat refine st mo ?_
  refine ⟨_, rfl, st mo ?_⟩
  repeat refine st mo ?_
  refine ⟨_, fun nn => r_bT0 b nn rfl, st mo ?_⟩
  repeat refine st mo ?_
  refine ⟨by show 0 + 1 + 1 <= _; simp, _, rfl, st mo ?_⟩
  repeat refine st mo ?_
  exact ⟨rfl, [0, 2], fvp, ⟨trivial, fitL_cons fp (fitL_cons fT (fl rfl htl)), trivial, fl rfl rfl, trivial⟩, rfl, rfl⟩
set_option maxRecDepth 20000 in
theorem ws_usedL {tl : List Value} (htl : tl.all pur1 = true) (t : List Int) (s : ByteArray) (h2 : t.length + s.size <= 1407374883) (X : World) : Ctr Tryz.prog X 22 [P0, .string s] (hB P0 (bT 1 t.length) tl (t.map by8)) 2 1 (.tuple #[.int .i64 (s.size : Int), .nilIface]) (hB P0 (bT 1 (t ++ bys s).length) tl ((t ++ bys s).map by8)) 2 := by
  refine fn_c _ Tryz.func22 rfl rfl rfl rfl (fun w l tw X' hX => run_ok (st mo ?_))
  repeat refine st mo ?_
  refine ⟨_, fun _ => r_c (tc := .tuple #[]) [0, 1] [some (P0 :: bT 1 t.length :: tl), some (t.map by8)] [0, 1] rfl rfl (ck_used X' htl (by8_pur t)) (by exact fitL_cons fp rfl) ⟨trivial, fitL_cons fp (fitL_cons fT (fl rfl htl)), trivial, fl rfl (by8_pur t), trivial⟩ ut0 ⟨unL_cons S.up (unL_cons uT (ul rfl htl)), ul rfl (by8_pur t), trivial⟩, st mo ?_⟩
  repeat refine st mo ?_
  refine ⟨_, rfl, st mo ?_⟩
  repeat refine st mo ?_
  refine ⟨_, fun nn => r_aTL t s rfl h2 nn rfl, st mo ?_⟩
  repeat refine st mo ?_
  refine ⟨by show 0 + 1 + 1 <= _; simp, _, rfl, st mo ?_⟩
  repeat refine st mo ?_
  exact ⟨rfl, [0, 2], fvp, ⟨trivial, fitL_cons fp (fitL_cons (fT (by rw [List.length_append]; unfold bys; simp)) (fl rfl htl)), trivial, fl rfl (by8_pur _), trivial⟩, rfl, rfl⟩
section
variable {w0 : B0} {X : World} {o : Oper} {fr : FT} {hc : HT} {nc : Nat} {xs : Array Operand} {ts : Array TypeId}
set_option maxRecDepth 20000 in
theorem r_wb (t : List Int) (b : Int) (a : Nat) (h2 : t.length + 1 <= 1407374883) (ho : o.op = .call { callee := .value (.func 222), args := xs, argTypes := ts } := by rfl) (hv : evl fr xs.toList = [P0, .int .u8 b] := by rfl)
    (hc0 : hget hc 0 = some (P0 :: bT a t.length :: []) := by rfl) (hca : hget hc a = some (t.map by8) := by rfl) (hck : (apartL [0, a] && Nat.ble (nc + 1) 4096 && ([0, a] : List Nat).all (Nat.blt · nc)) = true := by rfl) :
    Oa (Am w0 X) Tryz.prog o fr hc nc ⟨.nilIface, mskL (setsH hc (([0, nc].zip [some (P0 :: bT nc (t ++ [b]).length :: []), some ((t ++ [b]).map by8)]) ++ [(a, none)])) [0, nc], nc + 1, bitsL [0, a], bitsL [0, a, nc]⟩ := by
  have key := r_c (w0 := w0) (X := X) (o := o) (fr := fr) (hc := hc) (nc := nc) (tc := .nilIface) [0, a] [some (P0 :: bT nc (t ++ [b]).length :: []), some ((t ++ [b]).map by8)] [0, nc] ho (y := .func 222) rfl (wb_used (tl := []) rfl t b h2 X)
    (by show fitL _ (evl fr xs.toList ++ []) _; rw [hv]; exact fitL_cons fp (fitL_cons fv (by rfl)))
    (by
      refine ⟨trivial, ?_, trivial, ?_, trivial⟩
      · show (match hget hc 0 with | some us => fitL [0, a] us _ | none => False)
        rw [hc0]; exact fitL_cons fp (fitL_cons fT (by rfl))
      · show (match hget hc a with | some us => fitL [0, a] us _ | none => False)
        rw [hca]; exact fl rfl (by8_pur _))
    uv
    ⟨unL_cons S.up (unL_cons uT (ul rfl rfl)), ul rfl (by8_pur _), trivial⟩ Tryz.func222 rfl
    (by simp only [Bool.and_eq_true] at hck ⊢; exact ⟨⟨⟨⟨⟨⟨⟨hck.1.1, rfl⟩, rfl⟩, rfl⟩, rfl⟩, rfl⟩, hck.1.2⟩, hck.2⟩)
  exact key
set_option maxRecDepth 20000 in
theorem r_ws (t : List Int) (s : ByteArray) (a : Nat) (h2 : t.length + s.size <= 1407374883) (ho : o.op = .call { callee := .value (.func 22), args := xs, argTypes := ts } := by rfl) (hv : evl fr xs.toList = [P0, .string s] := by rfl)
    (hc0 : hget hc 0 = some (P0 :: bT a t.length :: []) := by rfl) (hca : hget hc a = some (t.map by8) := by rfl) (hck : (apartL [0, a] && Nat.ble (nc + 1) 4096 && ([0, a] : List Nat).all (Nat.blt · nc)) = true := by rfl) :
    Oa (Am w0 X) Tryz.prog o fr hc nc ⟨.tuple #[.int .i64 (s.size : Int), .nilIface], mskL (setsH hc (([0, nc].zip [some (P0 :: bT nc (t ++ bys s).length :: []), some ((t ++ bys s).map by8)]) ++ [(a, none)])) [0, nc], nc + 1, bitsL [0, a], bitsL [0, a, nc]⟩ := by
  have key := r_c (w0 := w0) (X := X) (o := o) (fr := fr) (hc := hc) (nc := nc) (tc := .tuple #[.int .i64 (s.size : Int), .nilIface]) [0, a] [some (P0 :: bT nc (t ++ bys s).length :: []), some ((t ++ bys s).map by8)] [0, nc] ho (y := .func 22) rfl (ws_usedL (tl := []) rfl t s h2 X)
    (by show fitL _ (evl fr xs.toList ++ []) _; rw [hv]; exact fitL_cons fp (fitL_cons fv (by rfl)))
    (by
      refine ⟨trivial, ?_, trivial, ?_, trivial⟩
      · show (match hget hc 0 with | some us => fitL [0, a] us _ | none => False)
        rw [hc0]; exact fitL_cons fp (fitL_cons fT (by rfl))
      · show (match hget hc a with | some us => fitL [0, a] us _ | none => False)
        rw [hca]; exact fl rfl (by8_pur _))
    uv
    ⟨unL_cons S.up (unL_cons uT (ul rfl rfl)), ul rfl (by8_pur _), trivial⟩ Tryz.func22 rfl
    (by simp only [Bool.and_eq_true] at hck ⊢; exact ⟨⟨⟨⟨⟨⟨⟨hck.1.1, rfl⟩, rfl⟩, rfl⟩, rfl⟩, rfl⟩, hck.1.2⟩, hck.2⟩)
  exact key
end
theorem bt_1 {ty : TypeId} (h : bt ty = 1) : ty = 5 := by
  unfold bt at h
  cases e : Nat.beq ty 5 with
  | true => exact Nat.eq_of_beq_eq_true e
  | false => rw [e] at h; cases h
theorem ty_freeze (W : World) (a : Addr) (n : Nat) : Ty W (W.freeze a n) := fun b cs ty fz e => by
  unfold World.freeze
  split
  · exact ⟨_, _, e, rfl⟩
  · simp only [Array.getElem?_modify]
    by_cases h : a.block = b
    · rw [if_pos h, e]; exact ⟨_, _, rfl, rfl⟩
    · rw [if_neg h]; exact ⟨_, _, e, rfl⟩
theorem heap_freeze (W : World) (a : Addr) (n b : Nat) (h : a.block ≠ b) : (W.freeze a n).heap[b]? = W.heap[b]? := by
  unfold World.freeze
  split
  · rfl
  · simp only [Array.getElem?_modify]; rw [if_neg h]
theorem rest_freeze (W : World) (a : Addr) (n : Nat) : (W.freeze a n).os = W.os /\ (W.freeze a n).tape = W.tape /\ (W.freeze a n).drawn = W.drawn /\ (W.freeze a n).output = W.output /\ (W.freeze a n).heap.size = W.heap.size := by
  unfold World.freeze
  split <;> simp
section
variable {w0 : B0} {X : World} {o : Oper} {fr : FT} {h : HT} {n : Nat} {y z : Operand}
theorem r_sd {i m : Nat} (hm : 0 < m) (ho : o.op = .call { callee := .builtin .unsafeSliceData, args := #[y], argTypes := #[68] } := by rfl) (hy : evo fr y = bT i m := by rfl) : Oa (Am w0 X) Tryz.prog o fr h n ⟨.pointer (some ⟨i, 0, some 7⟩), h, n, 0, 0⟩ := by
  refine Oa.val fun k W a hA hop => ?_
  have h1 := hop y (by simp [ho, Op.operands, Call.operands])
  rw [hy] at h1
  obtain ⟨h0, b, zz, c, hk, h3, h4, _⟩ := h1.slc_inv
  refine ⟨.pointer (some ⟨b, 0, none⟩), VX.of0 ⟨h0, b, zz, hk, rfl⟩, ?_⟩
  have hr := Lib.run_unsafeSliceData_row (P := Tryz.prog) W #[68] o.type ⟨b, 0, none⟩ m c (by omega)
  simp only [execOp, ho, resolve, invoke, builtin, Sem.run_bind, Sem.run_pure, Result.andThen_ok]
  simp only [List.map_toArray, List.map_cons, List.map_nil, h3]
  rw [hr]; rfl
theorem r_us {i m : Nat} (t : ByteArray) (hm : t.size = m) (h0 : 0 < m) (hb : m <= 9223372036854775807) (hcs : hget h i = some (bcs t)) (nn : ∀ i, n <= i -> hget h i = none) (ho : o.op = .call { callee := .builtin .unsafeString, args := #[y, z], argTypes := #[121, 3] } := by rfl) (hy : evo fr y = .pointer (some ⟨i, 0, some 7⟩) := by rfl) (hz : evo fr z = .int .i64 (m : Int) := by rfl) : Oa (Am w0 X) Tryz.prog o fr h n ⟨.string t, hs12 h i none, n, bit i, bit i⟩ := by
  have hi := hget_lt hcs
  have hin : i < n := by
    rcases Nat.lt_or_ge i n with h' | h'
    · exact h'
    · rw [nn i h'] at hcs; cases hcs
  have hdead : hget (hs12 h i none) i = none := hget_same _ hi
  refine Oo.to ⟨⟨Nat.le_refl _, fun nn j hj => ?_, fun j hj => hget_ne _ hi (fun e => hj (tb_bit.2 e)), fun j hj _ => hj, fun j hj => by rw [← tb_bit.1 hj]; exact hin, fun j hj hl => ?_⟩, fun k W a K' Q hop H _ hk => ?_⟩
  · show hget (hs12 h i none) j = none
    rw [hget_ne _ hi (by have hj : n <= j := hj; omega)]; exact nn j hj
  · by_cases e : i = j
    · subst e; exact ⟨_, hcs⟩
    · obtain ⟨c, hc⟩ := hl
      have hc : hget (hs12 h i none) j = some c := hc
      rw [hget_ne _ hi e] at hc; exact ⟨c, hc⟩
  · have h1 := hop y (by simp [ho, Op.operands, Call.operands])
    have h2 := hop z (by simp [ho, Op.operands, Call.operands])
    rw [hy] at h1; rw [hz] at h2
    obtain ⟨hts, b, zz, hkb, h3⟩ := h1.ptr_inv
    have h4 := h2.int_inv
    obtain ⟨b2, us, sp, ty, e1, e2, e3⟩ := (H.rep i (tb_bit.2 rfl) _ hcs).cel hkb
    obtain ⟨b9, z9, k9, o9⟩ : ∃ b z, k i = some (b, z + 1) /\ z % 2 = 1 := hts
    have hkb' : k i = some (b, zz + 1) := hkb
    rw [hkb'] at e1 k9
    cases e1; cases k9
    have hty : ty = 5 := bt_1 (by have := bt_le ty; omega)
    subst hty
    have h5 := LR.map (p := pur1) (d := den1) (fun _ _ h => pur1_eq h) e3 (bcs_pur t)
    rw [bcs_den] at h5
    subst h5
    have hl : t.data.toList.length = m := by rw [← hm]; rfl
    have hr := Lib.run_unsafeString_row (P := Tryz.prog) W 121 3 o.type 5 Tryz.underlying121 (by kernel_rfl) b (bcs t ++ sp).toArray.size (by simp [World.shape?, e2]) t.data.toList (by intro e; rw [e] at hl; have : 0 = m := hl; omega) (by rw [hl]; simp only [List.size_toArray, List.length_append, bcs_len]; omega) (by rw [hl]; exact hb) (fun j x hx => by
      rw [Addr.add_mid, Nat.zero_add, cell_of e2, List.getElem?_append_left (by rw [bcs_len, hm, ← hl]; exact (List.getElem?_eq_some_iff.1 hx).1)]
      unfold bcs; rw [List.getElem?_map, hx]; rfl)
    rw [hl] at hr
    have hrun : (execOp a.eval o).run Tryz.prog W = .ok (.value (.string t)) (W.freeze ⟨b, 0, none⟩ m) := by
      simp only [execOp, ho, resolve, invoke, builtin, Sem.run_bind, Sem.run_pure, Result.andThen_ok]
      simp only [List.map_toArray, List.map_cons, List.map_nil, h3, h4]
      rw [hr]; rfl
    unfold Oper.wp
    rw [hrun, Oper.upon_value]
    obtain ⟨f1, f2, f3, f4, f5⟩ := rest_freeze W ⟨b, 0, none⟩ m
    refine hk _ _ k ⟨fun _ _ h => h, fun _ _ => rfl, ⟨fun j hj c hc => ?_, fun a b ha hb _ _ hab => ?_⟩, fun b' hb' hj => heap_freeze _ _ _ _ (fun e => by have e' : b = b' := e; exact hj i _ (tb_bit.2 rfl) ⟨_, hcs⟩ (e' ▸ hkb')), fun _ _ _ h1 h2 => absurd h2 (by show ¬ _ < n; omega), fun _ _ h => h, by rw [f5]; exact Nat.le_refl _, f1, ⟨f2, by rw [f3]; exact Nat.le_refl _, ty_freeze _ _ _⟩, f4⟩ (VX.of0 rfl)
    · have : i = j := by rcases tb_or.1 hj with h | h <;> exact tb_bit.1 h
      subst this
      have hc : hget (hs12 h i none) i = some c := hc
      rw [hdead] at hc; cases hc
    · have q1 : i = a := by rcases tb_or.1 ha with h | h <;> exact tb_bit.1 h
      have q2 : i = b := by rcases tb_or.1 hb with h | h <;> exact tb_bit.1 h
      exact absurd (q1.symm.trans q2) hab
end
set_option maxRecDepth 20000 in
theorem b_str {tl : List Value} (t : ByteArray) (h0 : 0 < t.size) (hb : t.size <= 9223372036854775807) (X : World) : Ctr Tryz.prog X 24 [P0] (hB P0 (bT 1 t.size) tl (bcs t)) 2 0 (.string t) [] 0 := by
  refine fn_c _ Tryz.func24 rfl rfl rfl rfl (fun w l tw X' hX => run_ok (st mo ?_))
  repeat refine st mo ?_
  refine ⟨_, rfl, st mo ?_⟩
  repeat refine st mo ?_
  refine ⟨_, fun nn => r_sd h0, st mo ?_⟩
  repeat refine st mo ?_
  refine ⟨_, rfl, st mo ?_⟩
  repeat refine st mo ?_
  refine ⟨_, fun nn => r_us t rfl h0 hb rfl nn, st mo ?_⟩
  repeat refine st mo ?_
  refine ⟨dk, st mo ?_⟩
  repeat refine st mo ?_
  exact ⟨rfl, [], fv, trivial, rfl, rfl⟩
abbrev hexS : ByteArray := ⟨#[48, 49, 50, 51, 52, 53, 54, 55, 56, 57, 97, 98, 99, 100, 101, 102]⟩
def qb (b : Int) : List Int := if b = 34 ∨ b = 92 then [92, b] else if b < 32 ∨ 126 < b then [92, 120, byt hexS (b / 16).toNat, byt hexS (b % 16).toNat] else [b]
def QL (s : ByteArray) (i : Nat) : List Int := 34 :: ((bys s).take i).flatMap qb
def quo (s : ByteArray) : ByteArray := strOf (QL s s.size ++ [34])
theorem qb_len (b : Int) : (qb b).length <= 4 /\ 1 <= (qb b).length := by unfold qb; split <;> (try split) <;> simp
theorem flat_len (l : List Int) : (l.flatMap qb).length <= 4 * l.length := by
  induction l with
  | nil => simp
  | cons b l ih => have := qb_len b; rw [List.flatMap_cons, List.length_append, List.length_cons]; omega
theorem QL_len (s : ByteArray) (i : Nat) : (QL s i).length <= 1 + 4 * i /\ 1 <= (QL s i).length := by
  unfold QL
  have := flat_len ((bys s).take i)
  have : ((bys s).take i).length <= i := by simp; omega
  simp only [List.length_cons]; omega
theorem bys_get {s : ByteArray} {i : Nat} (h : i < s.size) : (bys s)[i]? = some (byt s i) := by
  obtain ⟨b, hb, he⟩ := byt_at h
  unfold bys
  rw [List.getElem?_map]
  have : s.data.toList[i]? = some b := by
    have h2 : s[i]? = s.data[i]? := by rw [getElem?_pos s i h, getElem?_pos s.data i h]; rfl
    rw [← hb, h2]; simp
  rw [this, ← he]; rfl
theorem QL_step {s : ByteArray} {i : Nat} (h : i < s.size) : QL s (i + 1) = QL s i ++ qb (byt s i) := by
  unfold QL
  rw [List.take_add_one, bys_get h]
  simp
theorem hex_at (n : Nat) (h : n < 16) : ∃ c, hexS[n]? = some c /\ ((c.toNat : Nat) : Int) = byt hexS n := byt_at (by show n < 16; exact h)
set_option maxRecDepth 20000 in
theorem q_quo (s : ByteArray) (hs : s.size <= 64) (w : World) : Calls Tryz.prog 165 #[.string s] w fun e W => e = .returned (.string (quo s)) /\ Mb w W := by
  refine fn_pure [.string s] Tryz.func165 rfl rfl rfl (run_ok (st mo ?_))
  repeat refine st mo ?_
  refine w_loop (fun i : Nat => ⟨⟨51, [(0, .string s), (3, .slice (some ⟨0, 0, none⟩) (QL s i).length 1), (4, .int .i64 (i : Int))]⟩, [(0 + 4096, none), (0, some ((QL s i).map by8))], 1, w⟩) (fun i => i <= s.size) (fun i => s.size - i) 0 (Nat.zero_le _) [0] ⟨rfl, ⟨fv, fsl (by rfl), fv, trivial⟩, ⟨trivial, fl rfl rfl, trivial⟩, xf, rfl, rfl⟩ ?_
  intro i hi
  have hQ := QL_len s i
  repeat refine st mo ?_
  refine ⟨fun hlt => ?_, fun hge => ?_⟩
  · repeat refine st mo ?_
    have hil : i < s.size := by omega
    obtain ⟨b, hb, hbe⟩ := byt_at hil
    have hbd := byt_bd s i
    have hst := QL_step hil
    refine ⟨i, b, rfl, hb, ?_⟩
    rw [hbe]
    generalize byt s i = c at *
    repeat refine st mo ?_
    refine ⟨fun h1 => ?_, fun h1 => ?_⟩
    · subst h1
      repeat refine st mo ?_
      refine ⟨by show _ = (QL s i).length * 1; simp, 2, [by8 92, by8 34], _, put_own rfl rfl rfl rfl rfl, by omega, _, rfl, st mo ?_⟩
      repeat refine st mo ?_
      refine ⟨_, wz (i + 1) rfl, st mo ?_⟩
      have hq : qb 34 = [92, 34] := by unfold qb; rw [if_pos (Or.inl rfl)]
      rw [hq] at hst
      exact ⟨i + 1, hil, by show s.size - (i + 1) < s.size - i; omega, [2], rfl, ⟨fv, fsl (by rw [hst]; simp), fv, trivial⟩, ⟨trivial, fl (by rw [hst, List.map_append]; rfl) (by8_pur _), trivial⟩, xf, rfl, rfl⟩
    repeat refine st mo ?_
    refine ⟨fun h2 => ?_, fun h2 => ?_⟩
    · subst h2
      repeat refine st mo ?_
      refine ⟨by show _ = (QL s i).length * 1; simp, 2, [by8 92, by8 92], _, put_own rfl rfl rfl rfl rfl, by omega, _, rfl, st mo ?_⟩
      repeat refine st mo ?_
      refine ⟨_, wz (i + 1) rfl, st mo ?_⟩
      have hq : qb 92 = [92, 92] := by unfold qb; rw [if_pos (Or.inr rfl)]
      rw [hq] at hst
      exact ⟨i + 1, hil, by show s.size - (i + 1) < s.size - i; omega, [2], rfl, ⟨fv, fsl (by rw [hst]; simp), fv, trivial⟩, ⟨trivial, fl (by rw [hst, List.map_append]; rfl) (by8_pur _), trivial⟩, xf, rfl, rfl⟩
    repeat refine st mo ?_
    have hn : ¬ (c = 34 ∨ c = 92) := fun h => h.elim h1 h2
    have hex : (c < 32 ∨ 126 < c) -> qb c = [92, 120, byt hexS (c / 16).toNat, byt hexS (c % 16).toNat] := fun h => by unfold qb; rw [if_neg hn, if_pos h]
    obtain ⟨c1, g1, e1⟩ := hex_at (c / 16).toNat (by omega)
    obtain ⟨c2, g2, e2⟩ := hex_at (c % 16).toNat (by omega)
    refine ⟨fun h3 => ?_, fun h3 => ?_⟩
    · repeat refine st mo ?_
      refine ⟨by decide, c / 16, ?_, st mo ?_⟩
      · rw [Int.tdiv_eq_ediv_of_nonneg hbd.1, IntKind.wrap_u8]; omega
      repeat refine st mo ?_
      refine ⟨(c / 16).toNat, c1, by omega, g1, st mo ?_⟩
      repeat refine st mo ?_
      refine ⟨by decide, c % 16, Int.tmod_eq_emod_of_nonneg hbd.1, st mo ?_⟩
      repeat refine st mo ?_
      refine ⟨(c % 16).toNat, c2, by omega, g2, st mo ?_⟩
      repeat refine st mo ?_
      refine ⟨by show _ = (QL s i).length * 1; simp, 4, [by8 92, by8 120, by8 c1.toNat, by8 c2.toNat], _, put_own rfl rfl rfl rfl rfl, by omega, _, rfl, st mo ?_⟩
      repeat refine st mo ?_
      refine ⟨dk, st mo ?_⟩
      repeat refine st mo ?_
      refine ⟨_, wz (i + 1) rfl, st mo ?_⟩
      rw [hex (Or.inl h3), ← e1, ← e2] at hst
      exact ⟨i + 1, hil, by show s.size - (i + 1) < s.size - i; omega, [2], rfl, ⟨fv, fsl (by rw [hst]; simp), fv, trivial⟩, ⟨trivial, fl (by rw [hst, List.map_append]; rfl) (by8_pur _), trivial⟩, xf, rfl, rfl⟩
    repeat refine st mo ?_
    refine ⟨fun h4 => ?_, fun h4 => ?_⟩
    · repeat refine st mo ?_
      refine ⟨by decide, c / 16, ?_, st mo ?_⟩
      · rw [Int.tdiv_eq_ediv_of_nonneg hbd.1, IntKind.wrap_u8]; omega
      repeat refine st mo ?_
      refine ⟨(c / 16).toNat, c1, by omega, g1, st mo ?_⟩
      repeat refine st mo ?_
      refine ⟨by decide, c % 16, Int.tmod_eq_emod_of_nonneg hbd.1, st mo ?_⟩
      repeat refine st mo ?_
      refine ⟨(c % 16).toNat, c2, by omega, g2, st mo ?_⟩
      repeat refine st mo ?_
      refine ⟨by show _ = (QL s i).length * 1; simp, 4, [by8 92, by8 120, by8 c1.toNat, by8 c2.toNat], _, put_own rfl rfl rfl rfl rfl, by omega, _, rfl, st mo ?_⟩
      repeat refine st mo ?_
      refine ⟨dk, st mo ?_⟩
      repeat refine st mo ?_
      refine ⟨_, wz (i + 1) rfl, st mo ?_⟩
      rw [hex (Or.inr h4), ← e1, ← e2] at hst
      exact ⟨i + 1, hil, by show s.size - (i + 1) < s.size - i; omega, [2], rfl, ⟨fv, fsl (by rw [hst]; simp), fv, trivial⟩, ⟨trivial, fl (by rw [hst, List.map_append]; rfl) (by8_pur _), trivial⟩, xf, rfl, rfl⟩
    · repeat refine st mo ?_
      refine ⟨by show _ = (QL s i).length * 1; simp, 1, [by8 c], _, put_own rfl rfl rfl rfl rfl, by omega, _, rfl, st mo ?_⟩
      repeat refine st mo ?_
      refine ⟨_, wz (i + 1) rfl, st mo ?_⟩
      have hq : qb c = [c] := by unfold qb; rw [if_neg hn, if_neg (by omega)]
      rw [hq] at hst
      exact ⟨i + 1, hil, by show s.size - (i + 1) < s.size - i; omega, [2], rfl, ⟨fv, fsl (by rw [hst]; simp), fv, trivial⟩, ⟨trivial, fl (by rw [hst, List.map_append]; rfl) (by8_pur _), trivial⟩, xf, rfl, rfl⟩
  · repeat refine st mo ?_
    have hi' : i = s.size := by omega
    subst hi'
    refine ⟨by show _ = (QL s s.size).length * 1; simp, 1, [by8 34], _, put_own rfl rfl rfl rfl rfl, by omega, _, rfl, st mo ?_⟩
    repeat refine st mo ?_
    refine ⟨_, fun _ => r_cvB (b := 2) (m := (QL s s.size).length + 1) (QL s s.size ++ [34]) (by simp) (by rw [List.map_append]; rfl), st mo ?_⟩
    repeat refine st mo ?_
    rfl
theorem wc_seq {P : Program} {w0 : B0} {a b : Code} {s : St} {C : Exit -> St -> Prop} (h : WC P w0 a s (fun e s' => match e with | .normal => WC P w0 b s' C | e => C e s')) : WC P w0 (.seq a b) s C := fun Q k W ac R hK => by
  refine wp_seq (h _ k W ac R fun e s' k' W' a' R' hC => ?_)
  cases e with
  | normal => exact (show WC P w0 b s' C from hC) Q k' W' a' R' hK
  | _ => exact hK _ _ _ _ _ R' hC
theorem wc_al {P : Program} {w : World} {s : St} {C : Exit -> St -> Prop} {id d : Nat} {T N : Nat} {o : Oper} {rest : Code} {z : Value} (t : St) (σ : List Nat)
    (hz : zeroOf P T = some z) (hzo : zok z = true) (hN : z.cells.toList.length = N) (hσ : σ[0]? = some s.n)
    (F : Fit 0 ⟨put s.f (some d) (.pointer (some ⟨s.n, 0, none⟩)), hs12 s.h s.n (some z.cells.toList), s.n + 1, s.X⟩ t σ)
    (H : ∀ l tw, TyB T N l tw -> WC P ⟨w, 1, l, tw⟩ rest t C) (hn4 : Nat.blt s.n 4096 = true := by rfl) (ho : o.op = .alloc T := by rfl) (hd : o.dst = some d := by rfl) (hg : o.guard = none := by rfl) : WC P (bz w) (.seq (.region id #[o] false) rest) s C := by
  intro Q k W a R hK
  have nn := R.nn
  rw [Nat.blt_eq] at hn4
  obtain ⟨i, hi, hzi⟩ := zeroOf_info hz
  have hrun : (execOp a.eval o).run P W = .ok (.value (.pointer (some ⟨W.heap.size, 0, none⟩))) (W.alloc (.cells z.cells T)) := by
    simp [execOp, ho, Instr.alloc, zeroValue, typeInfo, hi, hzi, newVar, newRow]
  have hcs : hget (hs12 s.h s.n (some z.cells.toList)) s.n = some z.cells.toList := hget_same _ hn4
  have hd' : ∀ i, i ≠ s.n -> hget (hs12 s.h s.n (some z.cells.toList)) i = hget s.h i ∨ (tb (Nat.lor 0 (bit s.n)) i /\ hget (hs12 s.h s.n (some z.cells.toList)) i = none) := fun i hi => Or.inl (hget_ne _ hn4 (Ne.symm hi))
  have hw' : ∀ i, tb (Nat.lor 0 (bit s.n)) i -> i = s.n ∨ (tb 0 i /\ i < s.n) := fun i hi => Or.inl (tb_0n hi)
  have hkn : k s.n = none := R.nk s.n (Nat.le_refl _)
  have ss : Ss s.h s.n (hs12 s.h s.n (some z.cells.toList)) (s.n + 1) 0 (Nat.lor 0 (bit s.n)) := Ss.new tb_n hd' hw'
  have dd := alloc_ok (v := undef) (h := s.h) (n := s.n) (k := k) (W := W) (W' := W.alloc (.cells z.cells T)) (us := z.cells.toList) (sp := []) (ty := T) hn4 nn hcs tb_n hd' hw' hkn (R.hr.all R.nn 0) (zok_rel hzo) (by show W.heap.push _ = _; simp) rfl ⟨rfl, Nat.le_refl _, Ty.push rfl⟩ rfl
  have hv : VX (upk k s.n W.heap.size (2 * (z.cells.toList.length + ([] : List Value).length) + bt T + 1)) (.pointer (some ⟨s.n, 0, none⟩)) (.pointer (some ⟨W.heap.size, 0, none⟩)) := VX.of0 ⟨trivial, _, _, if_pos rfl, rfl⟩
  have R1 := R.step ss dd ((R.fr.mono dd.ext).put (some d) hv)
  have R2 := F.rl R1
  have hk0 : ren σ (upk k s.n W.heap.size (2 * (z.cells.toList.length + ([] : List Value).length) + bt T + 1)) 0 = some (W.heap.size, 2 * (z.cells.toList.length + ([] : List Value).length) + bt T + 1) := by
    rw [ren_at hσ]; exact if_pos rfl
  generalize ren σ (upk k s.n W.heap.size (2 * (z.cells.toList.length + ([] : List Value).length) + bt T + 1)) = k2 at *
  have hT : TyB T N (fun _ => (W.heap.size, 2 * (z.cells.toList.length + ([] : List Value).length) + bt T + 1)) (W.alloc (.cells z.cells T)) := ⟨z.cells, (0, 0), by show (W.heap.push _)[_]? = _; simp, by rw [← hN]; simp⟩
  have R3 : Rl ⟨w, 1, fun _ => (W.heap.size, 2 * (z.cells.toList.length + ([] : List Value).length) + bt T + 1), W.alloc (.cells z.cells T)⟩ t k2 (W.alloc (.cells z.cells T)) (a.put (some d) (.pointer (some ⟨W.heap.size, 0, none⟩))) :=
    ⟨R2.fr, R2.hr, R2.nn, R2.nk, ⟨R2.am.old, R2.am.own, R2.am.see, R2.am.out, R2.am.sz, fun i hi => by
      have hi : i < 1 := hi
      have : i = 0 := by omega
      subst this; exact hk0, R2.am.dr, Ty.refl _⟩⟩
  have hH : WC P _ rest t C := H _ _ hT
  refine wp_seq (wp_region_list ?_)
  show wpList P #[o] _ [o] a W
  refine wpList_step fun K hK' => ?_
  rw [if_pos (by simp [Region.wanted, hg])]
  unfold Oper.wp
  rw [hrun, Oper.upon_value, hd]
  refine hK' _ _ (wpList_nil ?_)
  exact hH Q k2 _ _ R3 fun e s' k' W' a' R' hC => hK e s' k' W' a' ⟨R'.fr, R'.hr, R'.nn, R'.nk, ⟨R'.am.old, R'.am.own, R'.am.see, R'.am.out, R'.am.sz, fun i hi => absurd hi (Nat.not_lt_zero i), R'.am.dr, R1.am.ty.trans R'.am.ty⟩⟩ hC
def prt (b : Int) : Bool := decide (32 <= b) && decide (b <= 126)
set_option maxRecDepth 20000 in
theorem p_prt (b : Int) {r : Bool} (hr : prt b = r) (w : World) : Calls Tryz.prog 223 #[.int .u8 b] w fun e W => e = .returned (.bool r) /\ Mb w W := by
  subst hr
  refine fn_pure [.int .u8 b] Tryz.func223 rfl rfl rfl (run_ok (st mo ?_))
  repeat' (first | refine ⟨fun _ => ?_, fun _ => ?_⟩ | refine st mo ?_)
  all_goals (show _ = _; unfold prt; congr 1; simp; omega)
theorem and15 {c : Int} (h : 0 <= c /\ c < 256) : IntKind.u8.wrap ((BitVec.ofInt 8 c &&& BitVec.ofInt 8 15).toNat : Int) = c % 16 := by
  obtain ⟨n, rfl⟩ : ∃ n : Nat, c = (n : Int) := ⟨c.toNat, by omega⟩
  have h15 : (BitVec.ofInt 8 15).toNat = 2 ^ 4 - 1 := by decide
  have hn : (BitVec.ofInt 8 (n : Int)).toNat = n := by rw [BitVec.toNat_ofInt]; omega
  rw [BitVec.toNat_and, h15, hn, Nat.and_two_pow_sub_one_eq_mod, IntKind.wrap_u8]
  omega
theorem qb_rng {c : Int} (h : 0 <= c /\ c < 256) : ∀ x ∈ qb c, 0 <= x /\ x < 256 := by
  intro x hx
  have h1 := byt_bd hexS (c / 16).toNat
  have h2 := byt_bd hexS (c % 16).toNat
  unfold qb at hx
  split at hx
  · simp at hx; rcases hx with rfl | rfl <;> omega
  · split at hx
    · simp only [List.mem_cons, List.not_mem_nil, or_false] at hx
      rcases hx with rfl | rfl | rfl | rfl <;> omega
    · simp at hx; subst hx; exact h
theorem bys_rng (s : ByteArray) : ∀ x ∈ bys s, 0 <= x /\ x < 256 := by
  intro x hx
  unfold bys at hx
  obtain ⟨b, _, rfl⟩ := List.mem_map.1 hx
  have := b.toNat_lt
  omega
theorem quo_rng (s : ByteArray) : ∀ x ∈ QL s s.size ++ [34], 0 <= x /\ x < 256 := by
  intro x hx
  rcases List.mem_append.1 hx with hx | hx
  · unfold QL at hx
    rcases List.mem_cons.1 hx with rfl | hx
    · omega
    · obtain ⟨c, hc, hx⟩ := List.mem_flatMap.1 hx
      exact qb_rng (bys_rng s c (List.mem_of_mem_take hc)) x hx
  · simp at hx; subst hx; omega
theorem quo_bcs (s : ByteArray) : bcs (quo s) = (QL s s.size ++ [34]).map by8 /\ (quo s).size = (QL s s.size ++ [34]).length := by
  refine ⟨?_, strOf_size _⟩
  rw [bcs_bys]; unfold quo; rw [bys_strOf (quo_rng s)]
abbrev JQ (s : ByteArray) (X : World) (i : Nat) : St := ⟨⟨43, [(0, .string s), (3, P0), (8, .int .i64 (s.size : Int)), (9, .int .i64 (i : Int))]⟩, hB P0 (bT 1 (QL s i).length) [] ((QL s i).map by8), 2, X⟩
set_option maxRecDepth 20000 in
theorem p_quo (s : ByteArray) (hs : s.size <= 64) (w : World) : Calls Tryz.prog 200 #[.string s] w fun e W => e = .returned (.string (quo s)) /\ Mb w W := by
  refine fn_pure [.string s] Tryz.func200 rfl rfl rfl (wc_seq (run_ok (st mo ?_)))
  show WC _ _ _ _ _
  refine wc_al (T := 74) (N := 2) (d := 3) ⟨⟨43, [(0, .string s), (3, P0)]⟩, hB1 (.pointer none) nS [], 1, w⟩ [0] rfl rfl rfl rfl ⟨rfl, ⟨fv, fp, trivial⟩, ⟨trivial, fitL_cons fv (fitL_cons fnS (by rfl)), trivial⟩, xf, rfl, rfl⟩ ?_
  intro l tw hT
  refine run_ok (st mo ?_)
  refine ⟨_, fun _ => r_cT (tc := .nilIface) [0] [some (P0 :: bT 1 1 :: []), some ([34].map by8)] [0, 1] rfl rfl hT (wb_fresh 74 2 (Or.inl ⟨rfl, rfl⟩) (tl := []) rfl 34 w) (by exact fitL_cons fp (fitL_cons fv (by rfl))) ⟨trivial, fitL_cons fv (fitL_cons fv (by rfl)), trivial⟩ uv ⟨unL_cons S.up (unL_cons uT (ul rfl rfl)), ul rfl rfl, trivial⟩, st mo ?_⟩
  repeat refine st mo ?_
  refine w_loop (JQ s w) (fun i => i <= s.size) (fun i => s.size - i) 0 (Nat.zero_le _) [0, 1] ⟨rfl, ⟨fv, fp, fv, fv, trivial⟩, ⟨trivial, fitL_cons fp (fitL_cons fT (by rfl)), trivial, fl rfl (by8_pur _), trivial⟩, xf, rfl, rfl⟩ ?_
  intro i hi
  have hQ := QL_len s i
  repeat refine st mo ?_
  refine ⟨fun hlt => ?_, fun hge => ?_⟩
  · repeat refine st mo ?_
    have hil : i < s.size := by omega
    obtain ⟨b, hb, hbe⟩ := byt_at hil
    have hbd := byt_bd s i
    have hst := QL_step hil
    refine ⟨i, b, rfl, hb, ?_⟩
    rw [hbe]
    generalize byt s i = c at *
    obtain ⟨c1, g1, e1⟩ := hex_at (c / 16).toNat (by omega)
    obtain ⟨c2, g2, e2⟩ := hex_at (c % 16).toNat (by omega)
    repeat refine st mo ?_
    cases hp : prt c with
    | false =>
      have hq : qb c = [92, 120, byt hexS (c / 16).toNat, byt hexS (c % 16).toNat] := by
        unfold prt at hp; simp at hp
        unfold qb; rw [if_neg (by omega), if_pos (by omega)]
      refine ⟨_, fun _ => r_call (t := litF) rfl rfl Tryz.func223 (fun W M E => p_prt c hp W), st mo ?_⟩
      repeat refine st mo ?_
      refine ⟨_, fun nn => r_ws (QL s i) ⟨#[92, 120]⟩ 1 (by show _ + 2 <= _; omega), st mo ?_⟩
      repeat refine st mo ?_
      refine ⟨by decide, c / 16, by show Int.fdiv _ (2 ^ 4) = _; exact Int.fdiv_eq_ediv_of_nonneg _ (by decide), st mo ⟨(c / 16).toNat, c1, by omega, g1, st mo ⟨_, fun nn => r_wb (QL s i ++ bys ⟨#[92, 120]⟩) c1.toNat 2 (by rw [List.length_append]; show _ + 2 + 1 <= _; omega), st mo ?_⟩⟩⟩
      repeat refine st mo ?_
      refine ⟨c % 16, and15 hbd, st mo ⟨(c % 16).toNat, c2, by omega, g2, st mo ⟨_, fun nn => r_wb (QL s i ++ bys ⟨#[92, 120]⟩ ++ [(c1.toNat : Int)]) c2.toNat 3 (by rw [List.length_append, List.length_append]; show _ + 2 + 1 + 1 <= _; omega), st mo ?_⟩⟩⟩
      repeat refine st mo ?_
      rw [← e1, ← e2] at hq
      refine ⟨_, wz (i + 1) rfl, st mo ?_⟩
      rw [hq] at hst
      exact ⟨i + 1, hil, by show s.size - (i + 1) < s.size - i; omega, [0, 4], rfl, ⟨fv, fp, fv, fv, trivial⟩, ⟨trivial, fitL_cons fp (fitL_cons (fT (by rw [hst]; simp [show bys ⟨#[92, 120]⟩ = [92, 120] from rfl])) (by rfl)), trivial, fl (by rw [hst]; simp [show bys ⟨#[92, 120]⟩ = [92, 120] from rfl]) (by8_pur _), trivial⟩, xf, rfl, rfl⟩
    | true =>
      have hpr : 32 <= c /\ c <= 126 := by unfold prt at hp; simpa using hp
      refine ⟨_, fun _ => r_call (t := litT) rfl rfl Tryz.func223 (fun W M E => p_prt c hp W), st mo ?_⟩
      repeat refine st mo ?_
      refine ⟨fun h1 => ?_, fun h1 => ?_⟩
      · subst h1
        have hq : qb 34 = [92, 34] := by unfold qb; rw [if_pos (Or.inl rfl)]
        repeat refine st mo ?_
        refine ⟨_, fun nn => r_wb (QL s i) 92 1 (by omega), st mo ?_⟩
        repeat refine st mo ?_
        refine ⟨_, fun nn => r_wb (QL s i ++ [92]) 34 2 (by rw [List.length_append]; show _ + 1 + 1 <= _; omega), st mo ?_⟩
        repeat refine st mo ?_
        refine ⟨_, wz (i + 1) rfl, st mo ?_⟩
        rw [hq] at hst
        exact ⟨i + 1, hil, by show s.size - (i + 1) < s.size - i; omega, [0, 3], rfl, ⟨fv, fp, fv, fv, trivial⟩, ⟨trivial, fitL_cons fp (fitL_cons (fT (by rw [hst]; try simp)) (by rfl)), trivial, fl (by rw [hst]; try simp) (by8_pur _), trivial⟩, xf, rfl, rfl⟩
      repeat refine st mo ?_
      refine ⟨fun h2 => ?_, fun h2 => ?_⟩
      · subst h2
        have hq : qb 92 = [92, 92] := by unfold qb; rw [if_pos (Or.inr rfl)]
        repeat refine st mo ?_
        refine ⟨_, fun nn => r_wb (QL s i) 92 1 (by omega), st mo ?_⟩
        repeat refine st mo ?_
        refine ⟨_, fun nn => r_wb (QL s i ++ [92]) 92 2 (by rw [List.length_append]; show _ + 1 + 1 <= _; omega), st mo ?_⟩
        repeat refine st mo ?_
        refine ⟨_, wz (i + 1) rfl, st mo ?_⟩
        rw [hq] at hst
        exact ⟨i + 1, hil, by show s.size - (i + 1) < s.size - i; omega, [0, 3], rfl, ⟨fv, fp, fv, fv, trivial⟩, ⟨trivial, fitL_cons fp (fitL_cons (fT (by rw [hst]; try simp)) (by rfl)), trivial, fl (by rw [hst]; try simp) (by8_pur _), trivial⟩, xf, rfl, rfl⟩
      · have hq : qb c = [c] := by unfold qb; rw [if_neg (fun h => h.elim h1 h2), if_neg (by omega)]
        repeat refine st mo ?_
        refine ⟨_, fun nn => r_wb (QL s i) c 1 (by omega), st mo ?_⟩
        repeat refine st mo ?_
        refine ⟨_, wz (i + 1) rfl, st mo ?_⟩
        rw [hq] at hst
        exact ⟨i + 1, hil, by show s.size - (i + 1) < s.size - i; omega, [0, 2], rfl, ⟨fv, fp, fv, fv, trivial⟩, ⟨trivial, fitL_cons fp (fitL_cons (fT (by rw [hst]; try simp)) (by rfl)), trivial, fl (by rw [hst]; try simp) (by8_pur _), trivial⟩, xf, rfl, rfl⟩
  · repeat refine st mo ?_
    have hi' : i = s.size := by omega
    subst hi'
    refine ⟨_, fun nn => r_wb (QL s s.size) 34 1 (by omega), st mo ?_⟩
    repeat refine st mo ?_
    have hbs := quo_bcs s
    refine ⟨_, fun _ => r_c (tc := .string (quo s)) [0, 2] [] [] rfl rfl (b_str (tl := []) (quo s) (by rw [hbs.2, List.length_append]; show 0 < _ + 1; omega) (by rw [hbs.2, List.length_append]; show _ + 1 <= _; omega) w) (by exact fitL_cons fp (by rfl)) ⟨trivial, fitL_cons fp (fitL_cons (fT hbs.2.symm) (by rfl)), trivial, fl hbs.1.symm (bcs_pur _), trivial⟩ uv trivial, st mo ?_⟩
    repeat refine st mo ?_
    rfl
theorem bys_app (a b : ByteArray) : bys (a ++ b) = bys a ++ bys b := by unfold bys; rw [ByteArray.data_append]; simp
theorem bys_ext {a : ByteArray} {i j : Nat} {x : Int} (h : x ∈ bys (a.extract i j)) : x ∈ bys a := by
  unfold bys at *
  obtain ⟨b, hb, rfl⟩ := List.mem_map.1 h
  refine List.mem_map.2 ⟨b, ?_, rfl⟩
  rw [ByteArray.data_extract, Array.toList_extract] at hb
  exact List.mem_of_mem_drop (List.mem_of_mem_take hb)
theorem bys_zrs {k : Nat} {x : Int} (h : x ∈ bys (zrs k)) : x = 48 := by
  unfold bys zrs at h
  obtain ⟨b, hb, rfl⟩ := List.mem_map.1 h
  have := List.eq_of_mem_replicate hb
  subst this; rfl
theorem decF_rng : ∀ (f : Nat) (n : Int) (_ : 0 <= n), ∀ x ∈ decF f n, 48 <= x /\ x <= 57
  | 0, _, _, x, h => by simp [decF] at h
  | f + 1, n, hn, x, h => by
    unfold decF at h
    split at h
    · simp at h; subst h; omega
    · rcases List.mem_append.1 h with h | h
      · exact decF_rng f (n / 10) (by omega) x h
      · simp at h; subst h; omega
theorem wpt_rng {n : Int} (hn : 0 <= n) (s : Nat) : ∀ x ∈ bys (wpt (strOf (decF 78 n)) s), x ≠ 63 := by
  have hd : ∀ x ∈ bys (strOf (decF 78 n)), x ≠ 63 := fun x hx => by
    rw [bys_strOf (fun y hy => by have := decF_rng 78 n hn y hy; omega)] at hx
    have := decF_rng 78 n hn x hx; omega
  intro x hx
  unfold wpt at hx
  split at hx
  · exact hd x hx
  · have hu : ∀ y ∈ bys (zrs (s + 1 - (strOf (decF 78 n)).size) ++ strOf (decF 78 n)), y ≠ 63 := fun y hy => by
      rw [bys_app] at hy
      rcases List.mem_append.1 hy with hy | hy
      · rw [bys_zrs hy]; decide
      · exact hd y hy
    unfold ptd at hx
    rw [bys_app, bys_app] at hx
    rcases List.mem_append.1 hx with hx | hx
    · rcases List.mem_append.1 hx with hx | hx
      · exact hu x (bys_ext hx)
      · have : x = 46 := by simpa [bys] using hx
        omega
    · exact hu x (bys_ext hx)
theorem dtx_ck {b : Bool} {n s : Int} (hn : 0 <= n) : dtx b n s = Qst ↔ ck b n s ≠ 0 := by
  constructor
  · intro h hc
    rw [dtx, if_pos hc] at h
    have h2 := congrArg bys h
    have hq : bys Qst = [63] := rfl
    have hw := wpt_rng hn s.toNat
    cases b with
    | false =>
      simp only [Bool.false_eq_true, if_false] at h2
      exact hw 63 (by rw [h2, hq]; simp) rfl
    | true =>
      simp only [if_true] at h2
      rw [bys_app, show bys Mns = [45] from rfl, hq] at h2
      simp at h2
  · intro h; rw [dtx, if_neg h]
def cst (v : VL) : Bool :=
  if v.k = 1 then svv v ⟨1, v.b, v.n, v.s, false, E0, 0⟩ && !v.b && decide (ck v.b v.n v.s = 0)
  else if v.k = 2 then svv v ⟨2, false, 0, 0, v.f, E0, 0⟩
  else if v.k = 3 then svv v ⟨3, false, 0, 0, false, v.t, 0⟩ && decide (v.t.size <= 64)
  else false
set_option maxRecDepth 20000 in
theorem p_dec_false (n s : Int) (hn : 0 <= n /\ n < MM) (w : World) : Calls Tryz.prog 191 #[dc false n s] w fun e W => e = .returned (.bool (decide (ck false n s = 0))) /\ Mb w W := by
  refine fn_pure [dF n s] Tryz.func191 rfl rfl rfl (run_ok (st mo ?_))
  repeat refine st mo ?_
  refine ⟨_, fun _ => r_call (t := .string (dtx false n s)) rfl rfl Tryz.func194 (fun W M E => p_dtx false n s hn W), st mo ?_⟩
  repeat refine st mo ?_
  refine ⟨fun h => ?_, fun h => ?_⟩
  · repeat refine st mo ?_
    show _ = _; rw [decide_eq_true (Classical.byContradiction fun q => h ((dtx_ck hn.1).2 q))]
  · repeat refine st mo ?_
    show _ = _; rw [decide_eq_false ((dtx_ck hn.1).1 h)]
set_option maxRecDepth 20000 in
theorem p_dec_true (n s : Int) (hn : 0 <= n /\ n < MM) (w : World) : Calls Tryz.prog 191 #[dc true n s] w fun e W => e = .returned (.bool (decide (ck true n s = 0))) /\ Mb w W := by
  refine fn_pure [dT n s] Tryz.func191 rfl rfl rfl (run_ok (st mo ?_))
  repeat refine st mo ?_
  refine ⟨_, fun _ => r_call (t := .string (dtx true n s)) rfl rfl Tryz.func194 (fun W M E => p_dtx true n s hn W), st mo ?_⟩
  repeat refine st mo ?_
  refine ⟨fun h => ?_, fun h => ?_⟩
  · repeat refine st mo ?_
    show _ = _; rw [decide_eq_true (Classical.byContradiction fun q => h ((dtx_ck hn.1).2 q))]
  · repeat refine st mo ?_
    show _ = _; rw [decide_eq_false ((dtx_ck hn.1).1 h)]
theorem p_dec {b : Bool} {n s : Int} {r : Bool} (hr : decide (ck b n s = 0) = r) (hn : 0 <= n /\ n < MM) (w : World) : Calls Tryz.prog 191 #[dc b n s] w fun e W => e = .returned (.bool r) /\ Mb w W := by
  subst hr
  cases b
  · exact p_dec_false n s hn w
  · exact p_dec_true n s hn w
def isI (n : Int) : Bool := decide (0 <= n) && decide (n <= 1073741824)
def isP (n : Int) : Bool := decide (1 <= n) && decide (n <= 5)
theorem isI_iff {n : Int} : isI n = true ↔ 0 <= n /\ n <= 1073741824 := by unfold isI; simp
theorem isP_iff {n : Int} : isP n = true ↔ 1 <= n /\ n <= 5 := by unfold isP; simp
set_option maxRecDepth 20000 in
theorem p_isI {s : Int} {r : Bool} (hr : isI s = r) (w : World) : Calls Tryz.prog 157 #[.int .i64 s] w fun e W => e = .returned (.bool r) /\ Mb w W := by
  subst hr
  refine fn_pure [.int .i64 s] Tryz.func157 rfl rfl rfl (run_ok (st mo ?_))
  repeat' (first | refine ⟨fun _ => ?_, fun _ => ?_⟩ | refine st mo ?_)
  all_goals (show _ = _; unfold isI; congr 1; simp; omega)
set_option maxRecDepth 20000 in
theorem p_isP {s : Int} {r : Bool} (hr : isP s = r) (w : World) : Calls Tryz.prog 158 #[.int .i64 s] w fun e W => e = .returned (.bool r) /\ Mb w W := by
  subst hr
  refine fn_pure [.int .i64 s] Tryz.func158 rfl rfl rfl (run_ok (st mo ?_))
  repeat' (first | refine ⟨fun _ => ?_, fun _ => ?_⟩ | refine st mo ?_)
  all_goals (show _ = _; unfold isP; congr 1; simp; omega)
set_option maxRecDepth 20000 in
theorem p_cst_FF (k n s : Int) (t : ByteArray) (e : Int) (_hn : 0 <= n /\ n < MM) (w : World) : Calls Tryz.prog 156 #[(⟨k, false, n, s, false, t, e⟩ : VL).v] w fun r W => r = .returned (.bool (cst ⟨k, false, n, s, false, t, e⟩)) /\ Mb w W := by
  refine fn_pure [.agg #[.int .i64 k, litF, .int .u64 (l0 n), .int .u64 (l1 n), .int .u64 (l2 n), .int .u64 (l3 n), .int .i64 s, litF, .string t, .int .i64 e]] Tryz.func156 rfl rfl rfl (run_ok (st mo ?_))
  repeat refine st mo ?_
  refine ⟨fun h1 => ?_, fun h1 => ?_⟩
  · subst h1
    repeat refine st mo ?_
    refine ⟨_, r_eqV ⟨1, false, n, s, false, t, e⟩ ⟨1, false, n, s, false, E0, 0⟩, fun hq => ?_, fun hq => ?_⟩
    · repeat refine st mo ?_
      first
      | (refine ⟨_, fun _ => r_call (t := .bool (decide (ck false n s = 0))) rfl rfl Tryz.func191 (fun W M E => p_dec rfl _hn W), st mo ?_⟩
         repeat refine st mo ?_
         show _ = _; rw [cst]; simp [hq])
      | (show _ = _; rw [cst]; simp)
    · repeat refine st mo ?_
      show _ = _; rw [cst]; simp [hq]
  repeat refine st mo ?_
  refine ⟨fun h2 => ?_, fun h2 => ?_⟩
  · subst h2
    repeat refine st mo ?_
    refine ⟨_, r_eqV ⟨2, false, n, s, false, t, e⟩ ⟨2, false, 0, 0, false, E0, 0⟩, fun hq => ?_, fun hq => ?_⟩
    · repeat refine st mo ?_
      show _ = _; rw [cst]; simp [hq]
    · repeat refine st mo ?_
      show _ = _; rw [cst]; simp [hq]
  repeat refine st mo ?_
  refine ⟨fun h3 => ?_, fun h3 => ?_⟩
  · subst h3
    repeat refine st mo ?_
    refine ⟨_, r_eqV ⟨3, false, n, s, false, t, e⟩ ⟨3, false, 0, 0, false, t, 0⟩, fun hq => ?_, fun hq => ?_⟩
    · repeat refine st mo ?_
      refine ⟨fun h => ?_, fun h => ?_⟩
      · repeat refine st mo ?_
        show _ = _; rw [cst]; simp [hq]; omega
      · repeat refine st mo ?_
        show _ = _; rw [cst]; simp [hq]; omega
    · repeat refine st mo ?_
      show _ = _; rw [cst]; simp [hq]
  repeat refine st mo ?_
  show _ = _; rw [cst]; simp [h1, h2, h3]
set_option maxRecDepth 20000 in
theorem p_cst_TF (k n s : Int) (t : ByteArray) (e : Int) (_hn : 0 <= n /\ n < MM) (w : World) : Calls Tryz.prog 156 #[(⟨k, true, n, s, false, t, e⟩ : VL).v] w fun r W => r = .returned (.bool (cst ⟨k, true, n, s, false, t, e⟩)) /\ Mb w W := by
  refine fn_pure [.agg #[.int .i64 k, litT, .int .u64 (l0 n), .int .u64 (l1 n), .int .u64 (l2 n), .int .u64 (l3 n), .int .i64 s, litF, .string t, .int .i64 e]] Tryz.func156 rfl rfl rfl (run_ok (st mo ?_))
  repeat refine st mo ?_
  refine ⟨fun h1 => ?_, fun h1 => ?_⟩
  · subst h1
    repeat refine st mo ?_
    refine ⟨_, r_eqV ⟨1, true, n, s, false, t, e⟩ ⟨1, true, n, s, false, E0, 0⟩, fun hq => ?_, fun hq => ?_⟩
    · repeat refine st mo ?_
      first
      | (refine ⟨_, fun _ => r_call (t := .bool (decide (ck true n s = 0))) rfl rfl Tryz.func191 (fun W M E => p_dec rfl _hn W), st mo ?_⟩
         repeat refine st mo ?_
         show _ = _; rw [cst]; simp [hq])
      | (show _ = _; rw [cst]; simp)
    · repeat refine st mo ?_
      show _ = _; rw [cst]; simp [hq]
  repeat refine st mo ?_
  refine ⟨fun h2 => ?_, fun h2 => ?_⟩
  · subst h2
    repeat refine st mo ?_
    refine ⟨_, r_eqV ⟨2, true, n, s, false, t, e⟩ ⟨2, false, 0, 0, false, E0, 0⟩, fun hq => ?_, fun hq => ?_⟩
    · repeat refine st mo ?_
      show _ = _; rw [cst]; simp [hq]
    · repeat refine st mo ?_
      show _ = _; rw [cst]; simp [hq]
  repeat refine st mo ?_
  refine ⟨fun h3 => ?_, fun h3 => ?_⟩
  · subst h3
    repeat refine st mo ?_
    refine ⟨_, r_eqV ⟨3, true, n, s, false, t, e⟩ ⟨3, false, 0, 0, false, t, 0⟩, fun hq => ?_, fun hq => ?_⟩
    · repeat refine st mo ?_
      refine ⟨fun h => ?_, fun h => ?_⟩
      · repeat refine st mo ?_
        show _ = _; rw [cst]; simp [hq]; omega
      · repeat refine st mo ?_
        show _ = _; rw [cst]; simp [hq]; omega
    · repeat refine st mo ?_
      show _ = _; rw [cst]; simp [hq]
  repeat refine st mo ?_
  show _ = _; rw [cst]; simp [h1, h2, h3]
set_option maxRecDepth 20000 in
theorem p_cst_FT (k n s : Int) (t : ByteArray) (e : Int) (_hn : 0 <= n /\ n < MM) (w : World) : Calls Tryz.prog 156 #[(⟨k, false, n, s, true, t, e⟩ : VL).v] w fun r W => r = .returned (.bool (cst ⟨k, false, n, s, true, t, e⟩)) /\ Mb w W := by
  refine fn_pure [.agg #[.int .i64 k, litF, .int .u64 (l0 n), .int .u64 (l1 n), .int .u64 (l2 n), .int .u64 (l3 n), .int .i64 s, litT, .string t, .int .i64 e]] Tryz.func156 rfl rfl rfl (run_ok (st mo ?_))
  repeat refine st mo ?_
  refine ⟨fun h1 => ?_, fun h1 => ?_⟩
  · subst h1
    repeat refine st mo ?_
    refine ⟨_, r_eqV ⟨1, false, n, s, true, t, e⟩ ⟨1, false, n, s, false, E0, 0⟩, fun hq => ?_, fun hq => ?_⟩
    · repeat refine st mo ?_
      first
      | (refine ⟨_, fun _ => r_call (t := .bool (decide (ck false n s = 0))) rfl rfl Tryz.func191 (fun W M E => p_dec rfl _hn W), st mo ?_⟩
         repeat refine st mo ?_
         show _ = _; rw [cst]; simp [hq])
      | (show _ = _; rw [cst]; simp)
    · repeat refine st mo ?_
      show _ = _; rw [cst]; simp [hq]
  repeat refine st mo ?_
  refine ⟨fun h2 => ?_, fun h2 => ?_⟩
  · subst h2
    repeat refine st mo ?_
    refine ⟨_, r_eqV ⟨2, false, n, s, true, t, e⟩ ⟨2, false, 0, 0, true, E0, 0⟩, fun hq => ?_, fun hq => ?_⟩
    · repeat refine st mo ?_
      show _ = _; rw [cst]; simp [hq]
    · repeat refine st mo ?_
      show _ = _; rw [cst]; simp [hq]
  repeat refine st mo ?_
  refine ⟨fun h3 => ?_, fun h3 => ?_⟩
  · subst h3
    repeat refine st mo ?_
    refine ⟨_, r_eqV ⟨3, false, n, s, true, t, e⟩ ⟨3, false, 0, 0, false, t, 0⟩, fun hq => ?_, fun hq => ?_⟩
    · repeat refine st mo ?_
      refine ⟨fun h => ?_, fun h => ?_⟩
      · repeat refine st mo ?_
        show _ = _; rw [cst]; simp [hq]; omega
      · repeat refine st mo ?_
        show _ = _; rw [cst]; simp [hq]; omega
    · repeat refine st mo ?_
      show _ = _; rw [cst]; simp [hq]
  repeat refine st mo ?_
  show _ = _; rw [cst]; simp [h1, h2, h3]
set_option maxRecDepth 20000 in
theorem p_cst_TT (k n s : Int) (t : ByteArray) (e : Int) (_hn : 0 <= n /\ n < MM) (w : World) : Calls Tryz.prog 156 #[(⟨k, true, n, s, true, t, e⟩ : VL).v] w fun r W => r = .returned (.bool (cst ⟨k, true, n, s, true, t, e⟩)) /\ Mb w W := by
  refine fn_pure [.agg #[.int .i64 k, litT, .int .u64 (l0 n), .int .u64 (l1 n), .int .u64 (l2 n), .int .u64 (l3 n), .int .i64 s, litT, .string t, .int .i64 e]] Tryz.func156 rfl rfl rfl (run_ok (st mo ?_))
  repeat refine st mo ?_
  refine ⟨fun h1 => ?_, fun h1 => ?_⟩
  · subst h1
    repeat refine st mo ?_
    refine ⟨_, r_eqV ⟨1, true, n, s, true, t, e⟩ ⟨1, true, n, s, false, E0, 0⟩, fun hq => ?_, fun hq => ?_⟩
    · repeat refine st mo ?_
      first
      | (refine ⟨_, fun _ => r_call (t := .bool (decide (ck true n s = 0))) rfl rfl Tryz.func191 (fun W M E => p_dec rfl _hn W), st mo ?_⟩
         repeat refine st mo ?_
         show _ = _; rw [cst]; simp [hq])
      | (show _ = _; rw [cst]; simp)
    · repeat refine st mo ?_
      show _ = _; rw [cst]; simp [hq]
  repeat refine st mo ?_
  refine ⟨fun h2 => ?_, fun h2 => ?_⟩
  · subst h2
    repeat refine st mo ?_
    refine ⟨_, r_eqV ⟨2, true, n, s, true, t, e⟩ ⟨2, false, 0, 0, true, E0, 0⟩, fun hq => ?_, fun hq => ?_⟩
    · repeat refine st mo ?_
      show _ = _; rw [cst]; simp [hq]
    · repeat refine st mo ?_
      show _ = _; rw [cst]; simp [hq]
  repeat refine st mo ?_
  refine ⟨fun h3 => ?_, fun h3 => ?_⟩
  · subst h3
    repeat refine st mo ?_
    refine ⟨_, r_eqV ⟨3, true, n, s, true, t, e⟩ ⟨3, false, 0, 0, false, t, 0⟩, fun hq => ?_, fun hq => ?_⟩
    · repeat refine st mo ?_
      refine ⟨fun h => ?_, fun h => ?_⟩
      · repeat refine st mo ?_
        show _ = _; rw [cst]; simp [hq]; omega
      · repeat refine st mo ?_
        show _ = _; rw [cst]; simp [hq]; omega
    · repeat refine st mo ?_
      show _ = _; rw [cst]; simp [hq]
  repeat refine st mo ?_
  show _ = _; rw [cst]; simp [h1, h2, h3]
set_option maxRecDepth 20000 in
theorem q_cst_FF (k n s : Int) (t : ByteArray) (e : Int) (hn : 0 <= n /\ n < MM) (w : World) : Calls Tryz.prog 91 #[(⟨k, false, n, s, false, t, e⟩ : VL).v] w fun r W => r = .returned (.bool (cst ⟨k, false, n, s, false, t, e⟩)) /\ Mb w W := by
  refine fn_pure [.agg #[.int .i64 k, litF, .int .u64 (l0 n), .int .u64 (l1 n), .int .u64 (l2 n), .int .u64 (l3 n), .int .i64 s, litF, .string t, .int .i64 e]] Tryz.func91 rfl rfl rfl (run_ok (st mo ?_))
  repeat refine st mo ?_
  refine ⟨fun h1 => ?_, fun h1 => ?_⟩
  · subst h1
    repeat refine st mo ?_
    refine ⟨_, r_eqV ⟨1, false, n, s, false, t, e⟩ ⟨1, false, n, s, false, E0, 0⟩, fun hq => ?_, fun hq => ?_⟩
    · repeat refine st mo ?_
      refine ⟨_, fun _ => r_call (t := .int .i64 (ck false n s)) rfl rfl Tryz.func152 (fun W M E => q_chk false n s hn W), st mo ?_⟩
      repeat refine st mo ?_
      refine ⟨fun hc => ?_, fun hc => ?_⟩
      · repeat refine st mo ?_
        show _ = _; rw [cst]; simp [hq, hc]
      · repeat refine st mo ?_
        show _ = _; rw [cst]; simp [hc]
    · repeat refine st mo ?_
      show _ = _; rw [cst]; simp [hq]
  repeat refine st mo ?_
  refine ⟨fun h3 => ?_, fun h3 => ?_⟩
  · subst h3
    repeat refine st mo ?_
    refine ⟨_, r_eqV ⟨3, false, n, s, false, t, e⟩ ⟨3, false, 0, 0, false, t, 0⟩, fun hq => ?_, fun hq => ?_⟩
    · repeat refine st mo ?_
      refine ⟨fun h => ?_, fun h => ?_⟩
      · repeat refine st mo ?_
        show _ = _; rw [cst]; simp [hq]; omega
      · repeat refine st mo ?_
        show _ = _; rw [cst]; simp [hq]; omega
    · repeat refine st mo ?_
      show _ = _; rw [cst]; simp [hq]
  repeat refine st mo ?_
  refine ⟨fun h2 => ?_, fun h2 => ?_⟩
  · subst h2
    repeat refine st mo ?_
    refine ⟨_, r_eqV ⟨2, false, n, s, false, t, e⟩ ⟨2, false, 0, 0, false, E0, 0⟩, fun hq => ?_, fun hq => ?_⟩
    · repeat refine st mo ?_
      show _ = _; rw [cst]; simp [hq]
    · repeat refine st mo ?_
      show _ = _; rw [cst]; simp [hq]
  repeat refine st mo ?_
  show _ = _; rw [cst]; simp [h1, h2, h3]
set_option maxRecDepth 20000 in
theorem q_cst_TF (k n s : Int) (t : ByteArray) (e : Int) (hn : 0 <= n /\ n < MM) (w : World) : Calls Tryz.prog 91 #[(⟨k, true, n, s, false, t, e⟩ : VL).v] w fun r W => r = .returned (.bool (cst ⟨k, true, n, s, false, t, e⟩)) /\ Mb w W := by
  refine fn_pure [.agg #[.int .i64 k, litT, .int .u64 (l0 n), .int .u64 (l1 n), .int .u64 (l2 n), .int .u64 (l3 n), .int .i64 s, litF, .string t, .int .i64 e]] Tryz.func91 rfl rfl rfl (run_ok (st mo ?_))
  repeat refine st mo ?_
  refine ⟨fun h1 => ?_, fun h1 => ?_⟩
  · subst h1
    repeat refine st mo ?_
    refine ⟨_, r_eqV ⟨1, true, n, s, false, t, e⟩ ⟨1, true, n, s, false, E0, 0⟩, fun hq => ?_, fun hq => ?_⟩
    · repeat refine st mo ?_
      refine ⟨_, fun _ => r_call (t := .int .i64 (ck true n s)) rfl rfl Tryz.func152 (fun W M E => q_chk true n s hn W), st mo ?_⟩
      repeat refine st mo ?_
      refine ⟨fun hc => ?_, fun hc => ?_⟩
      · repeat refine st mo ?_
        show _ = _; rw [cst]; simp [hq, hc]
      · repeat refine st mo ?_
        show _ = _; rw [cst]; simp [hc]
    · repeat refine st mo ?_
      show _ = _; rw [cst]; simp [hq]
  repeat refine st mo ?_
  refine ⟨fun h3 => ?_, fun h3 => ?_⟩
  · subst h3
    repeat refine st mo ?_
    refine ⟨_, r_eqV ⟨3, true, n, s, false, t, e⟩ ⟨3, false, 0, 0, false, t, 0⟩, fun hq => ?_, fun hq => ?_⟩
    · repeat refine st mo ?_
      refine ⟨fun h => ?_, fun h => ?_⟩
      · repeat refine st mo ?_
        show _ = _; rw [cst]; simp [hq]; omega
      · repeat refine st mo ?_
        show _ = _; rw [cst]; simp [hq]; omega
    · repeat refine st mo ?_
      show _ = _; rw [cst]; simp [hq]
  repeat refine st mo ?_
  refine ⟨fun h2 => ?_, fun h2 => ?_⟩
  · subst h2
    repeat refine st mo ?_
    refine ⟨_, r_eqV ⟨2, true, n, s, false, t, e⟩ ⟨2, false, 0, 0, false, E0, 0⟩, fun hq => ?_, fun hq => ?_⟩
    · repeat refine st mo ?_
      show _ = _; rw [cst]; simp [hq]
    · repeat refine st mo ?_
      show _ = _; rw [cst]; simp [hq]
  repeat refine st mo ?_
  show _ = _; rw [cst]; simp [h1, h2, h3]
set_option maxRecDepth 20000 in
theorem q_cst_FT (k n s : Int) (t : ByteArray) (e : Int) (hn : 0 <= n /\ n < MM) (w : World) : Calls Tryz.prog 91 #[(⟨k, false, n, s, true, t, e⟩ : VL).v] w fun r W => r = .returned (.bool (cst ⟨k, false, n, s, true, t, e⟩)) /\ Mb w W := by
  refine fn_pure [.agg #[.int .i64 k, litF, .int .u64 (l0 n), .int .u64 (l1 n), .int .u64 (l2 n), .int .u64 (l3 n), .int .i64 s, litT, .string t, .int .i64 e]] Tryz.func91 rfl rfl rfl (run_ok (st mo ?_))
  repeat refine st mo ?_
  refine ⟨fun h1 => ?_, fun h1 => ?_⟩
  · subst h1
    repeat refine st mo ?_
    refine ⟨_, r_eqV ⟨1, false, n, s, true, t, e⟩ ⟨1, false, n, s, false, E0, 0⟩, fun hq => ?_, fun hq => ?_⟩
    · repeat refine st mo ?_
      refine ⟨_, fun _ => r_call (t := .int .i64 (ck false n s)) rfl rfl Tryz.func152 (fun W M E => q_chk false n s hn W), st mo ?_⟩
      repeat refine st mo ?_
      refine ⟨fun hc => ?_, fun hc => ?_⟩
      · repeat refine st mo ?_
        show _ = _; rw [cst]; simp [hq, hc]
      · repeat refine st mo ?_
        show _ = _; rw [cst]; simp [hc]
    · repeat refine st mo ?_
      show _ = _; rw [cst]; simp [hq]
  repeat refine st mo ?_
  refine ⟨fun h3 => ?_, fun h3 => ?_⟩
  · subst h3
    repeat refine st mo ?_
    refine ⟨_, r_eqV ⟨3, false, n, s, true, t, e⟩ ⟨3, false, 0, 0, false, t, 0⟩, fun hq => ?_, fun hq => ?_⟩
    · repeat refine st mo ?_
      refine ⟨fun h => ?_, fun h => ?_⟩
      · repeat refine st mo ?_
        show _ = _; rw [cst]; simp [hq]; omega
      · repeat refine st mo ?_
        show _ = _; rw [cst]; simp [hq]; omega
    · repeat refine st mo ?_
      show _ = _; rw [cst]; simp [hq]
  repeat refine st mo ?_
  refine ⟨fun h2 => ?_, fun h2 => ?_⟩
  · subst h2
    repeat refine st mo ?_
    refine ⟨_, r_eqV ⟨2, false, n, s, true, t, e⟩ ⟨2, false, 0, 0, true, E0, 0⟩, fun hq => ?_, fun hq => ?_⟩
    · repeat refine st mo ?_
      show _ = _; rw [cst]; simp [hq]
    · repeat refine st mo ?_
      show _ = _; rw [cst]; simp [hq]
  repeat refine st mo ?_
  show _ = _; rw [cst]; simp [h1, h2, h3]
set_option maxRecDepth 20000 in
theorem q_cst_TT (k n s : Int) (t : ByteArray) (e : Int) (hn : 0 <= n /\ n < MM) (w : World) : Calls Tryz.prog 91 #[(⟨k, true, n, s, true, t, e⟩ : VL).v] w fun r W => r = .returned (.bool (cst ⟨k, true, n, s, true, t, e⟩)) /\ Mb w W := by
  refine fn_pure [.agg #[.int .i64 k, litT, .int .u64 (l0 n), .int .u64 (l1 n), .int .u64 (l2 n), .int .u64 (l3 n), .int .i64 s, litT, .string t, .int .i64 e]] Tryz.func91 rfl rfl rfl (run_ok (st mo ?_))
  repeat refine st mo ?_
  refine ⟨fun h1 => ?_, fun h1 => ?_⟩
  · subst h1
    repeat refine st mo ?_
    refine ⟨_, r_eqV ⟨1, true, n, s, true, t, e⟩ ⟨1, true, n, s, false, E0, 0⟩, fun hq => ?_, fun hq => ?_⟩
    · repeat refine st mo ?_
      refine ⟨_, fun _ => r_call (t := .int .i64 (ck true n s)) rfl rfl Tryz.func152 (fun W M E => q_chk true n s hn W), st mo ?_⟩
      repeat refine st mo ?_
      refine ⟨fun hc => ?_, fun hc => ?_⟩
      · repeat refine st mo ?_
        show _ = _; rw [cst]; simp [hq, hc]
      · repeat refine st mo ?_
        show _ = _; rw [cst]; simp [hc]
    · repeat refine st mo ?_
      show _ = _; rw [cst]; simp [hq]
  repeat refine st mo ?_
  refine ⟨fun h3 => ?_, fun h3 => ?_⟩
  · subst h3
    repeat refine st mo ?_
    refine ⟨_, r_eqV ⟨3, true, n, s, true, t, e⟩ ⟨3, false, 0, 0, false, t, 0⟩, fun hq => ?_, fun hq => ?_⟩
    · repeat refine st mo ?_
      refine ⟨fun h => ?_, fun h => ?_⟩
      · repeat refine st mo ?_
        show _ = _; rw [cst]; simp [hq]; omega
      · repeat refine st mo ?_
        show _ = _; rw [cst]; simp [hq]; omega
    · repeat refine st mo ?_
      show _ = _; rw [cst]; simp [hq]
  repeat refine st mo ?_
  refine ⟨fun h2 => ?_, fun h2 => ?_⟩
  · subst h2
    repeat refine st mo ?_
    refine ⟨_, r_eqV ⟨2, true, n, s, true, t, e⟩ ⟨2, false, 0, 0, true, E0, 0⟩, fun hq => ?_, fun hq => ?_⟩
    · repeat refine st mo ?_
      show _ = _; rw [cst]; simp [hq]
    · repeat refine st mo ?_
      show _ = _; rw [cst]; simp [hq]
  repeat refine st mo ?_
  show _ = _; rw [cst]; simp [h1, h2, h3]
theorem p_cst (v : VL) {r : Bool} (hr : cst v = r) (hv : v.ok) (w : World) : Calls Tryz.prog 156 #[v.v] w fun e W => e = .returned (.bool r) /\ Mb w W := by
  subst hr
  obtain ⟨k, b, n, s, f, t, e⟩ := v
  cases b <;> cases f
  · exact p_cst_FF k n s t e hv w
  · exact p_cst_FT k n s t e hv w
  · exact p_cst_TF k n s t e hv w
  · exact p_cst_TT k n s t e hv w
theorem q_cst (v : VL) {r : Bool} (hr : cst v = r) (hv : v.ok) (w : World) : Calls Tryz.prog 91 #[v.v] w fun e W => e = .returned (.bool r) /\ Mb w W := by
  subst hr
  obtain ⟨k, b, n, s, f, t, e⟩ := v
  cases b <;> cases f
  · exact q_cst_FF k n s t e hv w
  · exact q_cst_FT k n s t e hv w
  · exact q_cst_TF k n s t e hv w
  · exact q_cst_TT k n s t e hv w
def col (op : Int) (nm sc : ByteArray) : Bool := if op = 16 then fre sc && decide (nm = E0) else decide (12 <= op) && (decide (op <= 15) && (fre sc && fre nm))
abbrev hV (x : Ex) : Ex := ⟨x.k, 0, E0, E0, x.v, 0, 0, none, 0, []⟩
abbrev hN (x : Ex) : Ex := ⟨x.k, 0, x.nm, E0, v0, 0, 0, none, 0, []⟩
abbrev h0 (x : Ex) : Ex := ⟨x.k, 0, E0, E0, v0, 0, 0, none, 0, []⟩
abbrev hO (x : Ex) : Ex := ⟨x.k, x.op, E0, E0, v0, 0, 0, none, 0, []⟩
abbrev hR (x : Ex) : Ex := ⟨x.k, 0, E0, E0, v0, x.s, x.pl, none, 0, []⟩
abbrev hA (x : Ex) : Ex := ⟨x.k, x.op, x.nm, x.sc, v0, 0, 0, none, 0, []⟩
def nde (x : Ex) : Bool :=
  if x.k = 1 then cst x.v && (decide (x.a.length = 0) && pln x (hV x))
  else if x.k = 2 then fre x.nm && (decide (x.a.length = 0) && pln x (hN x))
  else if x.k = 3 ∨ x.k = 4 ∨ x.k = 9 then decide (x.a.length = 1) && pln x (h0 x)
  else if x.k = 5 then (decide (1 <= x.op) && decide (x.op <= 11)) && (decide (x.a.length = 2) && pln x (hO x))
  else if x.k = 6 then decide (x.a.length = 3) && pln x (h0 x)
  else if x.k = 7 then (isI x.s && isP x.pl) && (decide (x.a.length = 1) && pln x (hR x))
  else if x.k = 8 then fre x.nm && (decide (x.a.length = 1) && pln x (hN x))
  else if x.k = 10 then col x.op x.nm x.sc && (decide (x.a.length = 0) && pln x (hA x))
  else false
theorem p_fre {s : ByteArray} {r : Bool} (hr : fre s = r) (hs : s.size <= 9223372036854775806) (w : World) : Calls Tryz.prog 70 #[.string s] w fun e W => e = .returned (.bool r) /\ Mb w W := hr ▸ p_free s (by omega) w
theorem q_fre {s : ByteArray} {r : Bool} (hr : fre s = r) (hs : s.size <= 9223372036854775806) (w : World) : Calls Tryz.prog 80 #[.string s] w fun e W => e = .returned (.bool r) /\ Mb w W := hr ▸ q_free s (by omega) w
set_option maxRecDepth 20000 in
theorem p_col (x : Ex) (hx : x.ok) {r : Bool} (hr : col x.op x.nm x.sc = r) (w : World) : Calls Tryz.prog 159 #[x.w] w fun e W => e = .returned (.bool r) /\ Mb w W := by
  subst hr
  obtain ⟨_, hn, hs, _, _⟩ := hx
  refine fn_pure [x.y] Tryz.func159 rfl rfl rfl (run_ok (st mo ?_))
  repeat refine st mo ?_
  refine ⟨fun h1 => ?_, fun h1 => ?_⟩
  · repeat refine st mo ?_
    cases hf : fre x.sc with
    | false =>
      refine ⟨_, fun _ => r_call (t := litF) rfl rfl Tryz.func70 (fun W M E => p_fre hf hs W), st mo ?_⟩
      repeat refine st mo ?_
      show _ = _; simp [col, h1, hf]
    | true =>
      refine ⟨_, fun _ => r_call (t := litT) rfl rfl Tryz.func70 (fun W M E => p_fre hf hs W), st mo ?_⟩
      repeat refine st mo ?_
      refine ⟨fun h2 => ?_, fun h2 => ?_⟩
      · repeat refine st mo ?_
        show _ = _; simp [col, h1, hf, h2]
      · repeat refine st mo ?_
        show _ = _; simp [col, h1, hf, h2]
  repeat refine st mo ?_
  refine ⟨fun h2 => ?_, fun h2 => ?_⟩
  rotate_left
  · repeat refine st mo ?_
    show _ = _; simp [col, h1]; omega
  repeat refine st mo ?_
  refine ⟨fun h3 => ?_, fun h3 => ?_⟩
  rotate_left
  · repeat refine st mo ?_
    show _ = _; simp [col, h1]; omega
  repeat refine st mo ?_
  cases hf : fre x.sc with
  | false =>
    refine ⟨_, fun _ => r_call (t := litF) rfl rfl Tryz.func70 (fun W M E => p_fre hf hs W), st mo ?_⟩
    repeat refine st mo ?_
    show _ = _; simp [col, h1, hf]
  | true =>
    refine ⟨_, fun _ => r_call (t := litT) rfl rfl Tryz.func70 (fun W M E => p_fre hf hs W), st mo ?_⟩
    repeat refine st mo ?_
    cases hg : fre x.nm with
    | false =>
      refine ⟨_, fun _ => r_call (t := litF) rfl rfl Tryz.func70 (fun W M E => p_fre hg hn W), st mo ?_⟩
      repeat refine st mo ?_
      show _ = _; simp [col, h1, hg]
    | true =>
      refine ⟨_, fun _ => r_call (t := litT) rfl rfl Tryz.func70 (fun W M E => p_fre hg hn W), st mo ?_⟩
      repeat refine st mo ?_
      show _ = _; simp [col, h1, hf, hg, h2, h3]
theorem snd_H {x y : Ex} {r : Bool} (h : snd x y = r) (hk : x.k = y.k) : pln x y = r := by rw [← snd_k hk]; exact h
theorem nde1 {x : Ex} (h : x.k = 1) : nde x = (cst x.v && (decide (x.a.length = 0) && pln x (hV x))) := by simp [nde, h]
theorem nde2 {x : Ex} (h : x.k = 2) : nde x = (fre x.nm && (decide (x.a.length = 0) && pln x (hN x))) := by simp [nde, h]
theorem nde3 {x : Ex} (h : x.k = 3 ∨ x.k = 4 ∨ x.k = 9) : nde x = (decide (x.a.length = 1) && pln x (h0 x)) := by
  have : x.k ≠ 1 /\ x.k ≠ 2 := by omega
  simp [nde, h, this]
theorem nde5 {x : Ex} (h : x.k = 5) : nde x = ((decide (1 <= x.op) && decide (x.op <= 11)) && (decide (x.a.length = 2) && pln x (hO x))) := by simp [nde, h]
theorem nde6 {x : Ex} (h : x.k = 6) : nde x = (decide (x.a.length = 3) && pln x (h0 x)) := by simp [nde, h]
theorem nde7 {x : Ex} (h : x.k = 7) : nde x = ((isI x.s && isP x.pl) && (decide (x.a.length = 1) && pln x (hR x))) := by simp [nde, h]
theorem nde8 {x : Ex} (h : x.k = 8) : nde x = (fre x.nm && (decide (x.a.length = 1) && pln x (hN x))) := by simp [nde, h]
theorem nde10 {x : Ex} (h : x.k = 10) : nde x = (col x.op x.nm x.sc && (decide (x.a.length = 0) && pln x (hA x))) := by simp [nde, h]
set_option maxRecDepth 20000 in
theorem p_nde (x : Ex) (hx : x.ok) (w : World) : Calls Tryz.prog 87 #[x.w] w fun e W => e = .returned (.bool (nde x)) /\ Mb w W := by
  obtain ⟨hv, hn, hsc, _, hal⟩ := id hx
  refine fn_pure [x.y] Tryz.func87 rfl rfl rfl (run_ok (st mo ?_))
  repeat refine st mo ?_
  refine ⟨fun h1 => ?_, fun h1 => ?_⟩
  · have e1 := nde1 h1
    repeat refine st mo ?_
    cases hc : cst x.v with
    | false =>
      refine ⟨_, fun _ => r_call (t := litF) rfl rfl Tryz.func156 (fun W M E => p_cst x.v hc hv W), st mo ?_⟩
      repeat refine st mo ?_
      refine ⟨dk, st mo ?_⟩
      repeat refine st mo ?_
      show _ = _; rw [e1]; simp [hc]
    | true =>
      refine ⟨_, fun _ => r_call (t := litT) rfl rfl Tryz.func156 (fun W M E => p_cst x.v hc hv W), st mo ?_⟩
      repeat refine st mo ?_
      refine ⟨dk, st mo ?_⟩
      repeat refine st mo ?_
      refine ⟨fun hl => ?_, fun hl => ?_⟩
      rotate_left
      · repeat refine st mo ?_
        have hl' : ¬ x.a.length = 0 := by omega
        show _ = _; rw [e1]; simp [hc, hl']
      repeat refine st mo ?_
      have hl' : x.a.length = 0 := by omega
      cases hs : snd x (hV x) with
      | false =>
        refine ⟨_, fun _ => r_call (t := litF) rfl rfl Tryz.func52 (fun W M E => hs ▸ p_node x (hV x) W), st mo ?_⟩
        have hs' := snd_H hs rfl
        repeat refine st mo ?_
        show _ = _; rw [e1]; simp [hc, hl', hs']
      | true =>
        refine ⟨_, fun _ => r_call (t := litT) rfl rfl Tryz.func52 (fun W M E => hs ▸ p_node x (hV x) W), st mo ?_⟩
        have hs' := snd_H hs rfl
        repeat refine st mo ?_
        show _ = _; rw [e1]; simp [hc, hl', hs']
  repeat refine st mo ?_
  refine ⟨fun h2 => ?_, fun h2 => ?_⟩
  · have e1 := nde2 h2
    repeat refine st mo ?_
    cases hc : fre x.nm with
    | false =>
      refine ⟨_, fun _ => r_call (t := litF) rfl rfl Tryz.func70 (fun W M E => p_fre hc hn W), st mo ?_⟩
      repeat refine st mo ?_
      refine ⟨dk, st mo ?_⟩
      repeat refine st mo ?_
      show _ = _; rw [e1]; simp [hc]
    | true =>
      refine ⟨_, fun _ => r_call (t := litT) rfl rfl Tryz.func70 (fun W M E => p_fre hc hn W), st mo ?_⟩
      repeat refine st mo ?_
      refine ⟨dk, st mo ?_⟩
      repeat refine st mo ?_
      refine ⟨fun hl => ?_, fun hl => ?_⟩
      rotate_left
      · repeat refine st mo ?_
        have hl' : ¬ x.a.length = 0 := by omega
        show _ = _; rw [e1]; simp [hc, hl']
      repeat refine st mo ?_
      have hl' : x.a.length = 0 := by omega
      cases hs : snd x (hN x) with
      | false =>
        refine ⟨_, fun _ => r_call (t := litF) rfl rfl Tryz.func52 (fun W M E => hs ▸ p_node x (hN x) W), st mo ?_⟩
        have hs' := snd_H hs rfl
        repeat refine st mo ?_
        show _ = _; rw [e1]; simp [hc, hl', hs']
      | true =>
        refine ⟨_, fun _ => r_call (t := litT) rfl rfl Tryz.func52 (fun W M E => hs ▸ p_node x (hN x) W), st mo ?_⟩
        have hs' := snd_H hs rfl
        repeat refine st mo ?_
        show _ = _; rw [e1]; simp [hc, hl', hs']
  repeat refine st mo ?_
  refine ⟨fun h3 => ?_, fun h3 => ?_⟩
  · have e1 := nde3 (x := x) (by omega)
    repeat refine st mo ?_
    refine ⟨fun hl => ?_, fun hl => ?_⟩
    rotate_left
    · repeat refine st mo ?_
      have hl' : ¬ x.a.length = 1 := by omega
      show _ = _; rw [e1]; simp [hl']
    repeat refine st mo ?_
    have hl' : x.a.length = 1 := by omega
    cases hs : snd x (h0 x) with
    | false =>
      refine ⟨_, fun _ => r_call (t := litF) rfl rfl Tryz.func52 (fun W M E => hs ▸ p_node x (h0 x) W), st mo ?_⟩
      have hs' := snd_H hs rfl
      repeat refine st mo ?_
      show _ = _; rw [e1]; simp [hl', hs']
    | true =>
      refine ⟨_, fun _ => r_call (t := litT) rfl rfl Tryz.func52 (fun W M E => hs ▸ p_node x (h0 x) W), st mo ?_⟩
      have hs' := snd_H hs rfl
      repeat refine st mo ?_
      show _ = _; rw [e1]; simp [hl', hs']
  repeat refine st mo ?_
  refine ⟨fun h4 => ?_, fun h4 => ?_⟩
  · have e1 := nde3 (x := x) (by omega)
    repeat refine st mo ?_
    refine ⟨fun hl => ?_, fun hl => ?_⟩
    rotate_left
    · repeat refine st mo ?_
      have hl' : ¬ x.a.length = 1 := by omega
      show _ = _; rw [e1]; simp [hl']
    repeat refine st mo ?_
    have hl' : x.a.length = 1 := by omega
    cases hs : snd x (h0 x) with
    | false =>
      refine ⟨_, fun _ => r_call (t := litF) rfl rfl Tryz.func52 (fun W M E => hs ▸ p_node x (h0 x) W), st mo ?_⟩
      have hs' := snd_H hs rfl
      repeat refine st mo ?_
      show _ = _; rw [e1]; simp [hl', hs']
    | true =>
      refine ⟨_, fun _ => r_call (t := litT) rfl rfl Tryz.func52 (fun W M E => hs ▸ p_node x (h0 x) W), st mo ?_⟩
      have hs' := snd_H hs rfl
      repeat refine st mo ?_
      show _ = _; rw [e1]; simp [hl', hs']
  repeat refine st mo ?_
  refine ⟨fun h9 => ?_, fun h9 => ?_⟩
  · have e1 := nde3 (x := x) (by omega)
    repeat refine st mo ?_
    refine ⟨fun hl => ?_, fun hl => ?_⟩
    rotate_left
    · repeat refine st mo ?_
      have hl' : ¬ x.a.length = 1 := by omega
      show _ = _; rw [e1]; simp [hl']
    repeat refine st mo ?_
    have hl' : x.a.length = 1 := by omega
    cases hs : snd x (h0 x) with
    | false =>
      refine ⟨_, fun _ => r_call (t := litF) rfl rfl Tryz.func52 (fun W M E => hs ▸ p_node x (h0 x) W), st mo ?_⟩
      have hs' := snd_H hs rfl
      repeat refine st mo ?_
      show _ = _; rw [e1]; simp [hl', hs']
    | true =>
      refine ⟨_, fun _ => r_call (t := litT) rfl rfl Tryz.func52 (fun W M E => hs ▸ p_node x (h0 x) W), st mo ?_⟩
      have hs' := snd_H hs rfl
      repeat refine st mo ?_
      show _ = _; rw [e1]; simp [hl', hs']
  repeat refine st mo ?_
  refine ⟨fun h5 => ?_, fun h5 => ?_⟩
  · have e1 := nde5 h5
    repeat refine st mo ?_
    refine ⟨fun o1 => ?_, fun o1 => ?_⟩
    rotate_left
    · repeat refine st mo ?_
      refine ⟨dk, st mo ?_⟩
      repeat refine st mo ?_
      show _ = _; rw [e1]; simp; omega
    repeat refine st mo ?_
    refine ⟨fun o2 => ?_, fun o2 => ?_⟩
    rotate_left
    · repeat refine st mo ?_
      refine ⟨dk, st mo ?_⟩
      repeat refine st mo ?_
      show _ = _; rw [e1]; simp; omega
    repeat refine st mo ?_
    refine ⟨dk, st mo ?_⟩
    repeat refine st mo ?_
    refine ⟨fun hl => ?_, fun hl => ?_⟩
    rotate_left
    · repeat refine st mo ?_
      have hl' : ¬ x.a.length = 2 := by omega
      show _ = _; rw [e1]; simp [hl', o1, o2]
    repeat refine st mo ?_
    have hl' : x.a.length = 2 := by omega
    cases hs : snd x (hO x) with
    | false =>
      refine ⟨_, fun _ => r_call (t := litF) rfl rfl Tryz.func52 (fun W M E => hs ▸ p_node x (hO x) W), st mo ?_⟩
      have hs' := snd_H hs rfl
      repeat refine st mo ?_
      show _ = _; rw [e1]; simp [hl', o1, o2, hs']
    | true =>
      refine ⟨_, fun _ => r_call (t := litT) rfl rfl Tryz.func52 (fun W M E => hs ▸ p_node x (hO x) W), st mo ?_⟩
      have hs' := snd_H hs rfl
      repeat refine st mo ?_
      show _ = _; rw [e1]; simp [hl', o1, o2, hs']
  repeat refine st mo ?_
  refine ⟨fun h6 => ?_, fun h6 => ?_⟩
  · have e1 := nde6 h6
    repeat refine st mo ?_
    refine ⟨fun hl => ?_, fun hl => ?_⟩
    rotate_left
    · repeat refine st mo ?_
      have hl' : ¬ x.a.length = 3 := by omega
      show _ = _; rw [e1]; simp [hl']
    repeat refine st mo ?_
    have hl' : x.a.length = 3 := by omega
    cases hs : snd x (h0 x) with
    | false =>
      refine ⟨_, fun _ => r_call (t := litF) rfl rfl Tryz.func52 (fun W M E => hs ▸ p_node x (h0 x) W), st mo ?_⟩
      have hs' := snd_H hs rfl
      repeat refine st mo ?_
      show _ = _; rw [e1]; simp [hl', hs']
    | true =>
      refine ⟨_, fun _ => r_call (t := litT) rfl rfl Tryz.func52 (fun W M E => hs ▸ p_node x (h0 x) W), st mo ?_⟩
      have hs' := snd_H hs rfl
      repeat refine st mo ?_
      show _ = _; rw [e1]; simp [hl', hs']
  repeat refine st mo ?_
  refine ⟨fun h7 => ?_, fun h7 => ?_⟩
  · have e1 := nde7 h7
    repeat refine st mo ?_
    refine ⟨dk, st mo ?_⟩
    repeat refine st mo ?_
    cases hc : isI x.s with
    | false =>
      refine ⟨_, fun _ => r_call (t := litF) rfl rfl Tryz.func157 (fun W M E => p_isI hc W), st mo ?_⟩
      repeat refine st mo ?_
      show _ = _; rw [e1]; simp [hc]
    | true =>
      refine ⟨_, fun _ => r_call (t := litT) rfl rfl Tryz.func157 (fun W M E => p_isI hc W), st mo ?_⟩
      repeat refine st mo ?_
      cases hd : isP x.pl with
      | false =>
        refine ⟨_, fun _ => r_call (t := litF) rfl rfl Tryz.func158 (fun W M E => p_isP hd W), st mo ?_⟩
        repeat refine st mo ?_
        show _ = _; rw [e1]; simp [hd]
      | true =>
      refine ⟨_, fun _ => r_call (t := litT) rfl rfl Tryz.func158 (fun W M E => p_isP hd W), st mo ?_⟩
      repeat refine st mo ?_
      refine ⟨fun hl => ?_, fun hl => ?_⟩
      rotate_left
      · repeat refine st mo ?_
        have hl' : ¬ x.a.length = 1 := by omega
        show _ = _; rw [e1]; simp [hc, hd, hl']
      repeat refine st mo ?_
      have hl' : x.a.length = 1 := by omega
      cases hs : snd x (hR x) with
      | false =>
        refine ⟨_, fun _ => r_call (t := litF) rfl rfl Tryz.func52 (fun W M E => hs ▸ p_node x (hR x) W), st mo ?_⟩
        have hs' := snd_H hs rfl
        repeat refine st mo ?_
        show _ = _; rw [e1]; simp [hc, hd, hl', hs']
      | true =>
        refine ⟨_, fun _ => r_call (t := litT) rfl rfl Tryz.func52 (fun W M E => hs ▸ p_node x (hR x) W), st mo ?_⟩
        have hs' := snd_H hs rfl
        repeat refine st mo ?_
        show _ = _; rw [e1]; simp [hc, hd, hl', hs']
  repeat refine st mo ?_
  refine ⟨fun h8 => ?_, fun h8 => ?_⟩
  · have e1 := nde8 h8
    repeat refine st mo ?_
    cases hc : fre x.nm with
    | false =>
      refine ⟨_, fun _ => r_call (t := litF) rfl rfl Tryz.func70 (fun W M E => p_fre hc hn W), st mo ?_⟩
      repeat refine st mo ?_
      refine ⟨dk, st mo ?_⟩
      repeat refine st mo ?_
      show _ = _; rw [e1]; simp [hc]
    | true =>
      refine ⟨_, fun _ => r_call (t := litT) rfl rfl Tryz.func70 (fun W M E => p_fre hc hn W), st mo ?_⟩
      repeat refine st mo ?_
      refine ⟨dk, st mo ?_⟩
      repeat refine st mo ?_
      refine ⟨fun hl => ?_, fun hl => ?_⟩
      rotate_left
      · repeat refine st mo ?_
        have hl' : ¬ x.a.length = 1 := by omega
        show _ = _; rw [e1]; simp [hc, hl']
      repeat refine st mo ?_
      have hl' : x.a.length = 1 := by omega
      cases hs : snd x (hN x) with
      | false =>
        refine ⟨_, fun _ => r_call (t := litF) rfl rfl Tryz.func52 (fun W M E => hs ▸ p_node x (hN x) W), st mo ?_⟩
        have hs' := snd_H hs rfl
        repeat refine st mo ?_
        show _ = _; rw [e1]; simp [hc, hl', hs']
      | true =>
        refine ⟨_, fun _ => r_call (t := litT) rfl rfl Tryz.func52 (fun W M E => hs ▸ p_node x (hN x) W), st mo ?_⟩
        have hs' := snd_H hs rfl
        repeat refine st mo ?_
        show _ = _; rw [e1]; simp [hc, hl', hs']
  repeat refine st mo ?_
  refine ⟨fun h10 => ?_, fun h10 => ?_⟩
  · have e1 := nde10 h10
    repeat refine st mo ?_
    cases hc : col x.op x.nm x.sc with
    | false =>
      refine ⟨_, fun _ => r_call (t := litF) rfl rfl Tryz.func159 (fun W M E => p_col x hx hc W), st mo ?_⟩
      repeat refine st mo ?_
      refine ⟨dk, st mo ?_⟩
      repeat refine st mo ?_
      show _ = _; rw [e1]; simp [hc]
    | true =>
      refine ⟨_, fun _ => r_call (t := litT) rfl rfl Tryz.func159 (fun W M E => p_col x hx hc W), st mo ?_⟩
      repeat refine st mo ?_
      refine ⟨dk, st mo ?_⟩
      repeat refine st mo ?_
      refine ⟨fun hl => ?_, fun hl => ?_⟩
      rotate_left
      · repeat refine st mo ?_
        have hl' : ¬ x.a.length = 0 := by omega
        show _ = _; rw [e1]; simp [hc, hl']
      repeat refine st mo ?_
      have hl' : x.a.length = 0 := by omega
      cases hs : snd x (hA x) with
      | false =>
        refine ⟨_, fun _ => r_call (t := litF) rfl rfl Tryz.func52 (fun W M E => hs ▸ p_node x (hA x) W), st mo ?_⟩
        have hs' := snd_H hs rfl
        repeat refine st mo ?_
        show _ = _; rw [e1]; simp [hc, hl', hs']
      | true =>
        refine ⟨_, fun _ => r_call (t := litT) rfl rfl Tryz.func52 (fun W M E => hs ▸ p_node x (hA x) W), st mo ?_⟩
        have hs' := snd_H hs rfl
        repeat refine st mo ?_
        show _ = _; rw [e1]; simp [hc, hl', hs']
  repeat refine st mo ?_
  show _ = _; simp [nde, h1, h2, h3, h4, h5, h6, h7, h8, h9, h10]
def vE : Nat -> Ex -> Bool
  | 0, x => nde x
  | d + 1, x => nde x && x.a.all (vE d)
theorem all_take {g : Ex -> Bool} {l : List Ex} {i : Nat} {y : Ex} (h : l[i]? = some y) : (l.take (i + 1)).all g = ((l.take i).all g && g y) := by
  rw [List.take_add_one, h, List.all_append]; simp
def Each (f : FuncId) (w : World) (p : Option Addr) (l : List Ex) (g : Ex -> Bool) : Prop := ∀ i y, l[i]? = some y -> (∃ b o, p = some ⟨b, o, none⟩ /\ Lies w b (o + i * 17) y.c) /\ ∀ W, (∀ a u, w.cell? a = some u -> W.cell? a = some u) -> Calls Tryz.prog f #[y.w] W fun e W' => e = .returned (.bool (g y)) /\ Mb W W'
theorem Each.mono {f : FuncId} {w w' : World} {p : Option Addr} {l : List Ex} {g : Ex -> Bool} (h : Each f w p l g) (E : ∀ a u, w.cell? a = some u -> w'.cell? a = some u) : Each f w' p l g := fun i y hy => by
  obtain ⟨⟨b, o, h1, h2⟩, h3⟩ := h i y hy
  exact ⟨⟨b, o, h1, fun j u hj => E _ _ (h2 j u hj)⟩, fun W E' => h3 W fun a u hu => E' a u (E a u hu)⟩
abbrev fnv (f : Nat) : Value := .func (.func f) #[] #[]
set_option maxRecDepth 20000 in
theorem p_all (p : Option Addr) (cl : Nat) (l : List Ex) (g : Ex -> Bool) (hl : l.length <= 9223372036854775806) {r : Value} (hr : (r = litT /\ l.all g = true) ∨ (r = litF /\ l.all g = false)) (X : World) (hE : Each 35 X p l g) : Ctr Tryz.prog X 88 [raw (.slice p l.length cl), fnv 35] [] 0 0 r [] 0 := by
  refine fn_c _ Tryz.func88 rfl rfl rfl rfl (fun w ll tw X' hX => run_ok (st mo ?_))
  have hE' := hE.mono (xce hX)
  repeat refine st mo ?_
  refine w_loop (fun i : Nat => ⟨⟨18, [(1, fnv 35), (7, raw (.slice p l.length cl)), (8, .int .i64 (l.length : Int)), (9, .int .i64 (i : Int))]⟩, [], 0, X'⟩) (fun i => i <= l.length /\ (l.take i).all g = true) (fun i => l.length - i) 0 ⟨Nat.zero_le _, rfl⟩ [] ⟨rfl, ⟨by exact ff (l := []) (m := []) rfl, fv, fv, fv, trivial⟩, trivial, xf, rfl, rfl⟩ ?_
  intro i hi
  repeat refine st mo ?_
  refine ⟨fun hlt => ?_, fun hge => ?_⟩
  · have hil : i < l.length := by omega
    obtain ⟨y, hy⟩ : ∃ y, l[i]? = some y := ⟨_, List.getElem?_eq_getElem hil⟩
    obtain ⟨⟨b, o, h4, h5⟩, h6⟩ := hE' i y hy
    have hst := all_take (g := g) hy
    repeat refine st mo ?_
    refine ⟨b, o, i, h4, rfl, hil, ?_⟩
    repeat refine st mo ?_
    refine ⟨y.c, rfl, h5, ?_⟩
    repeat refine st mo ?_
    cases hg : g y with
    | false =>
      refine ⟨_, fun _ => r_callF (t := litF) rfl rfl Tryz.func35 (fun W M E => hg ▸ h6 W E), st mo ?_⟩
      repeat refine st mo ?_
      rcases hr with ⟨rfl, hr⟩ | ⟨rfl, _⟩
      · have := List.all_eq_true.1 hr y (List.mem_of_getElem? hy)
        rw [hg] at this; cases this
      · exact ⟨rfl, [], fv, trivial, rfl, rfl⟩
    | true =>
      refine ⟨_, fun _ => r_callF (t := litT) rfl rfl Tryz.func35 (fun W M E => hg ▸ h6 W E), st mo ?_⟩
      repeat refine st mo ?_
      refine ⟨_, wz (i + 1) rfl, st mo ?_⟩
      exact ⟨i + 1, ⟨hil, by rw [hst, hi.2, hg]; rfl⟩, by show l.length - (i + 1) < l.length - i; omega, [], rfl, ⟨by exact ff (l := []) (m := []) rfl, fv, fv, fv, trivial⟩, trivial, xf, rfl, rfl⟩
  · repeat refine st mo ?_
    have : i = l.length := by omega
    subst this
    rw [List.take_length] at hi
    rcases hr with ⟨rfl, _⟩ | ⟨rfl, hr⟩
    · exact ⟨rfl, [], fv, trivial, rfl, rfl⟩
    · rw [hi.2] at hr; cases hr
theorem LT.each {f : FuncId} {w : World} {d : Nat} {x : Ex} {g : Ex -> Bool} (hL : LT w (d + 1) x) (h : ∀ y, ∀ W, LT W d y -> Calls Tryz.prog f #[y.w] W fun e W' => e = .returned (.bool (g y)) /\ Mb W W') : Each f w x.p x.a g := fun i y hy => by
  obtain ⟨h1, h2⟩ := hL.2 i y hy
  exact ⟨h1, fun W E => h y W (h2.mono E)⟩
theorem Each.none {f : FuncId} {w : World} {p : Option Addr} {g : Ex -> Bool} : Each f w p [] g := fun i y hy => by cases hy
set_option maxRecDepth 20000 in
theorem p_exp1 (x : Ex) (hx : x.ok) (g : Ex -> Bool) (w : World) (hE : Each 35 w x.p x.a g) : Calls Tryz.prog 35 #[x.w] w fun e W => e = .returned (.bool (nde x && x.a.all g)) /\ Mb w W := by
  have hal := hx.2.2.2.2
  refine fn_pure [x.y] Tryz.func35 rfl rfl rfl (run_ok (st mo ?_))
  repeat refine st mo ?_
  cases hn : nde x with
  | false =>
    refine ⟨_, fun _ => r_call (t := litF) rfl rfl Tryz.func87 (fun W M E => hn ▸ p_nde x hx W), st mo ?_⟩
    repeat refine st mo ?_
    rfl
  | true =>
    refine ⟨_, fun _ => r_call (t := litT) rfl rfl Tryz.func87 (fun W M E => hn ▸ p_nde x hx W), st mo ?_⟩
    repeat refine st mo ?_
    cases ha : x.a.all g with
    | false =>
      refine ⟨_, fun _ => r_c (tc := litF) [] [] [] rfl rfl (p_all x.p x.cl x.a g hal (Or.inr ⟨rfl, ha⟩) w hE) (by exact fitL_cons fv (fitL_cons (ff (l := []) (m := []) (by rfl)) (by rfl))) trivial uv trivial, st mo ?_⟩
      repeat refine st mo ?_
      rfl
    | true =>
      refine ⟨_, fun _ => r_c (tc := litT) [] [] [] rfl rfl (p_all x.p x.cl x.a g hal (Or.inl ⟨rfl, ha⟩) w hE) (by exact fitL_cons fv (fitL_cons (ff (l := []) (m := []) (by rfl)) (by rfl))) trivial uv trivial, st mo ?_⟩
      repeat refine st mo ?_
      rfl
theorem p_exp : ∀ (d : Nat) (x : Ex) (w : World), LT w d x -> Calls Tryz.prog 35 #[x.w] w fun e W => e = .returned (.bool (vE d x)) /\ Mb w W
  | 0, x, w, h => by
    have := p_exp1 x h.1 (fun _ => true) w (by rw [h.2]; exact Each.none)
    rw [show (nde x && x.a.all fun _ => true) = vE 0 x by rw [h.2]; simp [vE]] at this
    exact this
  | d + 1, x, w, h => p_exp1 x h.1 (vE d) w (h.each fun y W hL => p_exp d y W hL)
set_option maxHeartbeats 4000000 in
set_option maxRecDepth 20000 in
theorem q_exp1 (x : Ex) (hx : x.ok) (g : Ex -> Bool) (w : World) (hE : Each 37 w x.p x.a g) : Calls Tryz.prog 37 #[x.w] w fun e W => e = .returned (.bool (nde x && x.a.all g)) /\ Mb w W := by
  obtain ⟨hv, hn, hsc, _, hal⟩ := id hx
  refine fn_pure [x.y] Tryz.func37 rfl rfl rfl (run_ok (st mo ?_))
  repeat refine st mo ?_
  refine ⟨fun h1 => ?_, fun h1 => ?_⟩
  · have e1 := nde1 h1
    repeat refine st mo ?_
    cases hc : cst x.v with
    | false =>
      refine ⟨_, fun _ => r_call (t := litF) rfl rfl Tryz.func91 (fun W M E => q_cst x.v hc hv W), st mo ?_⟩
      repeat refine st mo ?_
      show _ = _; rw [e1]; simp [hc]
    | true =>
      refine ⟨_, fun _ => r_call (t := litT) rfl rfl Tryz.func91 (fun W M E => q_cst x.v hc hv W), st mo ?_⟩
      repeat refine st mo ?_
      cases hs : pln x (⟨0, 0, E0, E0, x.v, 0, 0, none, 0, []⟩) with
      | false =>
        refine ⟨_, fun _ => r_call (t := litF) rfl rfl Tryz.func29 (fun W M E => hs ▸ q_plain x (⟨0, 0, E0, E0, x.v, 0, 0, none, 0, []⟩) W), st mo ?_⟩
        have hs' : pln x (hV x) = false := hs
        repeat refine st mo ?_
        show _ = _; rw [e1]; simp [hs']
      | true =>
        refine ⟨_, fun _ => r_call (t := litT) rfl rfl Tryz.func29 (fun W M E => hs ▸ q_plain x (⟨0, 0, E0, E0, x.v, 0, 0, none, 0, []⟩) W), st mo ?_⟩
        have hs' : pln x (hV x) = true := hs
        repeat refine st mo ?_
        refine ⟨fun hl => ?_, fun hl => ?_⟩
        · repeat refine st mo ?_
          have hl' : ¬ x.a.length = 0 := by omega
          show _ = _; rw [e1]; simp [hl']
        have hl' : x.a.length = 0 := by omega
        have hn : nde x = true := by rw [e1]; simp [hc, hl', hs']
        repeat refine st mo ?_
        refine w_loop (fun i : Nat => ⟨⟨145, [(1, .pointer (some ⟨0, 0, none⟩)), (3, .int .i64 0), (6, .int .i64 (i : Int))]⟩, [(0, some (x.c.map rel1))], 1, w⟩) (fun i => i <= 0 /\ (x.a.take i).all g = true) (fun i => 0 - i) 0 ⟨Nat.zero_le _, rfl⟩ [0] ⟨rfl, ⟨fp, fv, fv, trivial⟩, ⟨flr rfl, trivial⟩, xf, rfl, rfl⟩ ?_
        intro i hi
        repeat refine st mo ?_
        refine ⟨fun hlt => ?_, fun hge => ?_⟩
        · have hil : i < x.a.length := by omega
          obtain ⟨y, hy⟩ : ∃ y, x.a[i]? = some y := ⟨_, List.getElem?_eq_getElem hil⟩
          obtain ⟨⟨b, o, h4, h5⟩, h6⟩ := hE i y hy
          have hst := all_take (g := g) hy
          repeat refine st mo ?_
          refine ⟨b, o, i, h4, rfl, hil, ?_⟩
          repeat refine st mo ?_
          refine ⟨y.c, rfl, h5, ?_⟩
          repeat refine st mo ?_
          cases hg : g y with
          | false =>
            refine ⟨_, fun _ => r_call (t := litF) rfl rfl Tryz.func37 (fun W M E => hg ▸ h6 W E), st mo ?_⟩
            repeat refine st mo ?_
            show _ = _
            rw [show x.a.all g = false from Bool.eq_false_iff.2 fun h => by have := List.all_eq_true.1 h y (List.mem_of_getElem? hy); rw [hg] at this; cases this]
            simp
          | true =>
            refine ⟨_, fun _ => r_call (t := litT) rfl rfl Tryz.func37 (fun W M E => hg ▸ h6 W E), st mo ?_⟩
            repeat refine st mo ?_
            refine ⟨_, wz (i + 1) rfl, st mo ?_⟩
            exact ⟨i + 1, ⟨by omega, by rw [hst, hi.2, hg]; rfl⟩, by show 0 - (i + 1) < 0 - i; omega, [0], rfl, ⟨fp, fv, fv, trivial⟩, ⟨flr rfl, trivial⟩, xf, rfl, rfl⟩
        · repeat refine st mo ?_
          have : i = x.a.length := by omega
          subst this
          rw [List.take_length] at hi
          show _ = _
          rw [hn, hi.2]; rfl
  repeat refine st mo ?_
  refine ⟨fun h2 => ?_, fun h2 => ?_⟩
  · have e1 := nde2 h2
    repeat refine st mo ?_
    cases hc : fre x.nm with
    | false =>
      refine ⟨_, fun _ => r_call (t := litF) rfl rfl Tryz.func80 (fun W M E => q_fre hc hn W), st mo ?_⟩
      repeat refine st mo ?_
      show _ = _; rw [e1]; simp [hc]
    | true =>
      refine ⟨_, fun _ => r_call (t := litT) rfl rfl Tryz.func80 (fun W M E => q_fre hc hn W), st mo ?_⟩
      repeat refine st mo ?_
      cases hs : pln x (⟨0, 0, x.nm, E0, v0, 0, 0, none, 0, []⟩) with
      | false =>
        refine ⟨_, fun _ => r_call (t := litF) rfl rfl Tryz.func29 (fun W M E => hs ▸ q_plain x (⟨0, 0, x.nm, E0, v0, 0, 0, none, 0, []⟩) W), st mo ?_⟩
        have hs' : pln x (hN x) = false := hs
        repeat refine st mo ?_
        show _ = _; rw [e1]; simp [hs']
      | true =>
        refine ⟨_, fun _ => r_call (t := litT) rfl rfl Tryz.func29 (fun W M E => hs ▸ q_plain x (⟨0, 0, x.nm, E0, v0, 0, 0, none, 0, []⟩) W), st mo ?_⟩
        have hs' : pln x (hN x) = true := hs
        repeat refine st mo ?_
        refine ⟨fun hl => ?_, fun hl => ?_⟩
        · repeat refine st mo ?_
          have hl' : ¬ x.a.length = 0 := by omega
          show _ = _; rw [e1]; simp [hl']
        have hl' : x.a.length = 0 := by omega
        have hn : nde x = true := by rw [e1]; simp [hc, hl', hs']
        repeat refine st mo ?_
        refine w_loop (fun i : Nat => ⟨⟨145, [(1, .pointer (some ⟨0, 0, none⟩)), (3, .int .i64 0), (6, .int .i64 (i : Int))]⟩, [(0, some (x.c.map rel1))], 1, w⟩) (fun i => i <= 0 /\ (x.a.take i).all g = true) (fun i => 0 - i) 0 ⟨Nat.zero_le _, rfl⟩ [0] ⟨rfl, ⟨fp, fv, fv, trivial⟩, ⟨flr rfl, trivial⟩, xf, rfl, rfl⟩ ?_
        intro i hi
        repeat refine st mo ?_
        refine ⟨fun hlt => ?_, fun hge => ?_⟩
        · have hil : i < x.a.length := by omega
          obtain ⟨y, hy⟩ : ∃ y, x.a[i]? = some y := ⟨_, List.getElem?_eq_getElem hil⟩
          obtain ⟨⟨b, o, h4, h5⟩, h6⟩ := hE i y hy
          have hst := all_take (g := g) hy
          repeat refine st mo ?_
          refine ⟨b, o, i, h4, rfl, hil, ?_⟩
          repeat refine st mo ?_
          refine ⟨y.c, rfl, h5, ?_⟩
          repeat refine st mo ?_
          cases hg : g y with
          | false =>
            refine ⟨_, fun _ => r_call (t := litF) rfl rfl Tryz.func37 (fun W M E => hg ▸ h6 W E), st mo ?_⟩
            repeat refine st mo ?_
            show _ = _
            rw [show x.a.all g = false from Bool.eq_false_iff.2 fun h => by have := List.all_eq_true.1 h y (List.mem_of_getElem? hy); rw [hg] at this; cases this]
            simp
          | true =>
            refine ⟨_, fun _ => r_call (t := litT) rfl rfl Tryz.func37 (fun W M E => hg ▸ h6 W E), st mo ?_⟩
            repeat refine st mo ?_
            refine ⟨_, wz (i + 1) rfl, st mo ?_⟩
            exact ⟨i + 1, ⟨by omega, by rw [hst, hi.2, hg]; rfl⟩, by show 0 - (i + 1) < 0 - i; omega, [0], rfl, ⟨fp, fv, fv, trivial⟩, ⟨flr rfl, trivial⟩, xf, rfl, rfl⟩
        · repeat refine st mo ?_
          have : i = x.a.length := by omega
          subst this
          rw [List.take_length] at hi
          show _ = _
          rw [hn, hi.2]; rfl
  repeat refine st mo ?_
  refine ⟨fun h3 => ?_, fun h3 => ?_⟩
  · have e1 := nde3 (x := x) (by omega)
    repeat refine st mo ?_
    cases hs : pln x (⟨0, 0, E0, E0, v0, 0, 0, none, 0, []⟩) with
    | false =>
      refine ⟨_, fun _ => r_call (t := litF) rfl rfl Tryz.func29 (fun W M E => hs ▸ q_plain x (⟨0, 0, E0, E0, v0, 0, 0, none, 0, []⟩) W), st mo ?_⟩
      have hs' : pln x (h0 x) = false := hs
      repeat refine st mo ?_
      show _ = _; rw [e1]; simp [hs']
    | true =>
      refine ⟨_, fun _ => r_call (t := litT) rfl rfl Tryz.func29 (fun W M E => hs ▸ q_plain x (⟨0, 0, E0, E0, v0, 0, 0, none, 0, []⟩) W), st mo ?_⟩
      have hs' : pln x (h0 x) = true := hs
      repeat refine st mo ?_
      refine ⟨fun hl => ?_, fun hl => ?_⟩
      · repeat refine st mo ?_
        have hl' : ¬ x.a.length = 1 := by omega
        show _ = _; rw [e1]; simp [hl']
      have hl' : x.a.length = 1 := by omega
      have hn : nde x = true := by rw [e1]; simp [hl', hs']
      repeat refine st mo ?_
      refine w_loop (fun i : Nat => ⟨⟨145, [(1, .pointer (some ⟨0, 0, none⟩)), (3, .int .i64 1), (6, .int .i64 (i : Int))]⟩, [(0, some (x.c.map rel1))], 1, w⟩) (fun i => i <= 1 /\ (x.a.take i).all g = true) (fun i => 1 - i) 0 ⟨Nat.zero_le _, rfl⟩ [0] ⟨rfl, ⟨fp, fv, fv, trivial⟩, ⟨flr rfl, trivial⟩, xf, rfl, rfl⟩ ?_
      intro i hi
      repeat refine st mo ?_
      refine ⟨fun hlt => ?_, fun hge => ?_⟩
      · have hil : i < x.a.length := by omega
        obtain ⟨y, hy⟩ : ∃ y, x.a[i]? = some y := ⟨_, List.getElem?_eq_getElem hil⟩
        obtain ⟨⟨b, o, h4, h5⟩, h6⟩ := hE i y hy
        have hst := all_take (g := g) hy
        repeat refine st mo ?_
        refine ⟨b, o, i, h4, rfl, hil, ?_⟩
        repeat refine st mo ?_
        refine ⟨y.c, rfl, h5, ?_⟩
        repeat refine st mo ?_
        cases hg : g y with
        | false =>
          refine ⟨_, fun _ => r_call (t := litF) rfl rfl Tryz.func37 (fun W M E => hg ▸ h6 W E), st mo ?_⟩
          repeat refine st mo ?_
          show _ = _
          rw [show x.a.all g = false from Bool.eq_false_iff.2 fun h => by have := List.all_eq_true.1 h y (List.mem_of_getElem? hy); rw [hg] at this; cases this]
          simp
        | true =>
          refine ⟨_, fun _ => r_call (t := litT) rfl rfl Tryz.func37 (fun W M E => hg ▸ h6 W E), st mo ?_⟩
          repeat refine st mo ?_
          refine ⟨_, wz (i + 1) rfl, st mo ?_⟩
          exact ⟨i + 1, ⟨by omega, by rw [hst, hi.2, hg]; rfl⟩, by show 1 - (i + 1) < 1 - i; omega, [0], rfl, ⟨fp, fv, fv, trivial⟩, ⟨flr rfl, trivial⟩, xf, rfl, rfl⟩
      · repeat refine st mo ?_
        have : i = x.a.length := by omega
        subst this
        rw [List.take_length] at hi
        show _ = _
        rw [hn, hi.2]; rfl
  repeat refine st mo ?_
  refine ⟨fun h4 => ?_, fun h4 => ?_⟩
  · have e1 := nde3 (x := x) (by omega)
    repeat refine st mo ?_
    cases hs : pln x (⟨0, 0, E0, E0, v0, 0, 0, none, 0, []⟩) with
    | false =>
      refine ⟨_, fun _ => r_call (t := litF) rfl rfl Tryz.func29 (fun W M E => hs ▸ q_plain x (⟨0, 0, E0, E0, v0, 0, 0, none, 0, []⟩) W), st mo ?_⟩
      have hs' : pln x (h0 x) = false := hs
      repeat refine st mo ?_
      show _ = _; rw [e1]; simp [hs']
    | true =>
      refine ⟨_, fun _ => r_call (t := litT) rfl rfl Tryz.func29 (fun W M E => hs ▸ q_plain x (⟨0, 0, E0, E0, v0, 0, 0, none, 0, []⟩) W), st mo ?_⟩
      have hs' : pln x (h0 x) = true := hs
      repeat refine st mo ?_
      refine ⟨fun hl => ?_, fun hl => ?_⟩
      · repeat refine st mo ?_
        have hl' : ¬ x.a.length = 1 := by omega
        show _ = _; rw [e1]; simp [hl']
      have hl' : x.a.length = 1 := by omega
      have hn : nde x = true := by rw [e1]; simp [hl', hs']
      repeat refine st mo ?_
      refine w_loop (fun i : Nat => ⟨⟨145, [(1, .pointer (some ⟨0, 0, none⟩)), (3, .int .i64 1), (6, .int .i64 (i : Int))]⟩, [(0, some (x.c.map rel1))], 1, w⟩) (fun i => i <= 1 /\ (x.a.take i).all g = true) (fun i => 1 - i) 0 ⟨Nat.zero_le _, rfl⟩ [0] ⟨rfl, ⟨fp, fv, fv, trivial⟩, ⟨flr rfl, trivial⟩, xf, rfl, rfl⟩ ?_
      intro i hi
      repeat refine st mo ?_
      refine ⟨fun hlt => ?_, fun hge => ?_⟩
      · have hil : i < x.a.length := by omega
        obtain ⟨y, hy⟩ : ∃ y, x.a[i]? = some y := ⟨_, List.getElem?_eq_getElem hil⟩
        obtain ⟨⟨b, o, h4, h5⟩, h6⟩ := hE i y hy
        have hst := all_take (g := g) hy
        repeat refine st mo ?_
        refine ⟨b, o, i, h4, rfl, hil, ?_⟩
        repeat refine st mo ?_
        refine ⟨y.c, rfl, h5, ?_⟩
        repeat refine st mo ?_
        cases hg : g y with
        | false =>
          refine ⟨_, fun _ => r_call (t := litF) rfl rfl Tryz.func37 (fun W M E => hg ▸ h6 W E), st mo ?_⟩
          repeat refine st mo ?_
          show _ = _
          rw [show x.a.all g = false from Bool.eq_false_iff.2 fun h => by have := List.all_eq_true.1 h y (List.mem_of_getElem? hy); rw [hg] at this; cases this]
          simp
        | true =>
          refine ⟨_, fun _ => r_call (t := litT) rfl rfl Tryz.func37 (fun W M E => hg ▸ h6 W E), st mo ?_⟩
          repeat refine st mo ?_
          refine ⟨_, wz (i + 1) rfl, st mo ?_⟩
          exact ⟨i + 1, ⟨by omega, by rw [hst, hi.2, hg]; rfl⟩, by show 1 - (i + 1) < 1 - i; omega, [0], rfl, ⟨fp, fv, fv, trivial⟩, ⟨flr rfl, trivial⟩, xf, rfl, rfl⟩
      · repeat refine st mo ?_
        have : i = x.a.length := by omega
        subst this
        rw [List.take_length] at hi
        show _ = _
        rw [hn, hi.2]; rfl
  repeat refine st mo ?_
  refine ⟨fun h9 => ?_, fun h9 => ?_⟩
  · have e1 := nde3 (x := x) (by omega)
    repeat refine st mo ?_
    cases hs : pln x (⟨0, 0, E0, E0, v0, 0, 0, none, 0, []⟩) with
    | false =>
      refine ⟨_, fun _ => r_call (t := litF) rfl rfl Tryz.func29 (fun W M E => hs ▸ q_plain x (⟨0, 0, E0, E0, v0, 0, 0, none, 0, []⟩) W), st mo ?_⟩
      have hs' : pln x (h0 x) = false := hs
      repeat refine st mo ?_
      show _ = _; rw [e1]; simp [hs']
    | true =>
      refine ⟨_, fun _ => r_call (t := litT) rfl rfl Tryz.func29 (fun W M E => hs ▸ q_plain x (⟨0, 0, E0, E0, v0, 0, 0, none, 0, []⟩) W), st mo ?_⟩
      have hs' : pln x (h0 x) = true := hs
      repeat refine st mo ?_
      refine ⟨fun hl => ?_, fun hl => ?_⟩
      · repeat refine st mo ?_
        have hl' : ¬ x.a.length = 1 := by omega
        show _ = _; rw [e1]; simp [hl']
      have hl' : x.a.length = 1 := by omega
      have hn : nde x = true := by rw [e1]; simp [hl', hs']
      repeat refine st mo ?_
      refine w_loop (fun i : Nat => ⟨⟨145, [(1, .pointer (some ⟨0, 0, none⟩)), (3, .int .i64 1), (6, .int .i64 (i : Int))]⟩, [(0, some (x.c.map rel1))], 1, w⟩) (fun i => i <= 1 /\ (x.a.take i).all g = true) (fun i => 1 - i) 0 ⟨Nat.zero_le _, rfl⟩ [0] ⟨rfl, ⟨fp, fv, fv, trivial⟩, ⟨flr rfl, trivial⟩, xf, rfl, rfl⟩ ?_
      intro i hi
      repeat refine st mo ?_
      refine ⟨fun hlt => ?_, fun hge => ?_⟩
      · have hil : i < x.a.length := by omega
        obtain ⟨y, hy⟩ : ∃ y, x.a[i]? = some y := ⟨_, List.getElem?_eq_getElem hil⟩
        obtain ⟨⟨b, o, h4, h5⟩, h6⟩ := hE i y hy
        have hst := all_take (g := g) hy
        repeat refine st mo ?_
        refine ⟨b, o, i, h4, rfl, hil, ?_⟩
        repeat refine st mo ?_
        refine ⟨y.c, rfl, h5, ?_⟩
        repeat refine st mo ?_
        cases hg : g y with
        | false =>
          refine ⟨_, fun _ => r_call (t := litF) rfl rfl Tryz.func37 (fun W M E => hg ▸ h6 W E), st mo ?_⟩
          repeat refine st mo ?_
          show _ = _
          rw [show x.a.all g = false from Bool.eq_false_iff.2 fun h => by have := List.all_eq_true.1 h y (List.mem_of_getElem? hy); rw [hg] at this; cases this]
          simp
        | true =>
          refine ⟨_, fun _ => r_call (t := litT) rfl rfl Tryz.func37 (fun W M E => hg ▸ h6 W E), st mo ?_⟩
          repeat refine st mo ?_
          refine ⟨_, wz (i + 1) rfl, st mo ?_⟩
          exact ⟨i + 1, ⟨by omega, by rw [hst, hi.2, hg]; rfl⟩, by show 1 - (i + 1) < 1 - i; omega, [0], rfl, ⟨fp, fv, fv, trivial⟩, ⟨flr rfl, trivial⟩, xf, rfl, rfl⟩
      · repeat refine st mo ?_
        have : i = x.a.length := by omega
        subst this
        rw [List.take_length] at hi
        show _ = _
        rw [hn, hi.2]; rfl
  repeat refine st mo ?_
  refine ⟨fun h5 => ?_, fun h5 => ?_⟩
  · have e1 := nde5 h5
    repeat refine st mo ?_
    refine ⟨fun o1 => ?_, fun o1 => ?_⟩
    rotate_left
    · repeat refine st mo ?_
      have o1' : ¬ 1 <= x.op := by omega
      show _ = _; rw [e1]; simp [o1']
    repeat refine st mo ?_
    refine ⟨fun o2 => ?_, fun o2 => ?_⟩
    rotate_left
    · repeat refine st mo ?_
      have o2' : ¬ x.op <= 11 := by omega
      show _ = _; rw [e1]; simp [o2']
    repeat refine st mo ?_
    cases hs : pln x (⟨0, x.op, E0, E0, v0, 0, 0, none, 0, []⟩) with
    | false =>
      refine ⟨_, fun _ => r_call (t := litF) rfl rfl Tryz.func29 (fun W M E => hs ▸ q_plain x (⟨0, x.op, E0, E0, v0, 0, 0, none, 0, []⟩) W), st mo ?_⟩
      have hs' : pln x (hO x) = false := hs
      repeat refine st mo ?_
      show _ = _; rw [e1]; simp [hs']
    | true =>
      refine ⟨_, fun _ => r_call (t := litT) rfl rfl Tryz.func29 (fun W M E => hs ▸ q_plain x (⟨0, x.op, E0, E0, v0, 0, 0, none, 0, []⟩) W), st mo ?_⟩
      have hs' : pln x (hO x) = true := hs
      repeat refine st mo ?_
      refine ⟨fun hl => ?_, fun hl => ?_⟩
      · repeat refine st mo ?_
        have hl' : ¬ x.a.length = 2 := by omega
        show _ = _; rw [e1]; simp [hl']
      have hl' : x.a.length = 2 := by omega
      have hn : nde x = true := by rw [e1]; simp [o1, o2, hl', hs']
      repeat refine st mo ?_
      refine w_loop (fun i : Nat => ⟨⟨145, [(1, .pointer (some ⟨0, 0, none⟩)), (3, .int .i64 2), (6, .int .i64 (i : Int))]⟩, [(0, some (x.c.map rel1))], 1, w⟩) (fun i => i <= 2 /\ (x.a.take i).all g = true) (fun i => 2 - i) 0 ⟨Nat.zero_le _, rfl⟩ [0] ⟨rfl, ⟨fp, fv, fv, trivial⟩, ⟨flr rfl, trivial⟩, xf, rfl, rfl⟩ ?_
      intro i hi
      repeat refine st mo ?_
      refine ⟨fun hlt => ?_, fun hge => ?_⟩
      · have hil : i < x.a.length := by omega
        obtain ⟨y, hy⟩ : ∃ y, x.a[i]? = some y := ⟨_, List.getElem?_eq_getElem hil⟩
        obtain ⟨⟨b, o, h4, h5⟩, h6⟩ := hE i y hy
        have hst := all_take (g := g) hy
        repeat refine st mo ?_
        refine ⟨b, o, i, h4, rfl, hil, ?_⟩
        repeat refine st mo ?_
        refine ⟨y.c, rfl, h5, ?_⟩
        repeat refine st mo ?_
        cases hg : g y with
        | false =>
          refine ⟨_, fun _ => r_call (t := litF) rfl rfl Tryz.func37 (fun W M E => hg ▸ h6 W E), st mo ?_⟩
          repeat refine st mo ?_
          show _ = _
          rw [show x.a.all g = false from Bool.eq_false_iff.2 fun h => by have := List.all_eq_true.1 h y (List.mem_of_getElem? hy); rw [hg] at this; cases this]
          simp
        | true =>
          refine ⟨_, fun _ => r_call (t := litT) rfl rfl Tryz.func37 (fun W M E => hg ▸ h6 W E), st mo ?_⟩
          repeat refine st mo ?_
          refine ⟨_, wz (i + 1) rfl, st mo ?_⟩
          exact ⟨i + 1, ⟨by omega, by rw [hst, hi.2, hg]; rfl⟩, by show 2 - (i + 1) < 2 - i; omega, [0], rfl, ⟨fp, fv, fv, trivial⟩, ⟨flr rfl, trivial⟩, xf, rfl, rfl⟩
      · repeat refine st mo ?_
        have : i = x.a.length := by omega
        subst this
        rw [List.take_length] at hi
        show _ = _
        rw [hn, hi.2]; rfl
  repeat refine st mo ?_
  refine ⟨fun h6 => ?_, fun h6 => ?_⟩
  · have e1 := nde6 h6
    repeat refine st mo ?_
    cases hs : pln x (⟨0, 0, E0, E0, v0, 0, 0, none, 0, []⟩) with
    | false =>
      refine ⟨_, fun _ => r_call (t := litF) rfl rfl Tryz.func29 (fun W M E => hs ▸ q_plain x (⟨0, 0, E0, E0, v0, 0, 0, none, 0, []⟩) W), st mo ?_⟩
      have hs' : pln x (h0 x) = false := hs
      repeat refine st mo ?_
      show _ = _; rw [e1]; simp [hs']
    | true =>
      refine ⟨_, fun _ => r_call (t := litT) rfl rfl Tryz.func29 (fun W M E => hs ▸ q_plain x (⟨0, 0, E0, E0, v0, 0, 0, none, 0, []⟩) W), st mo ?_⟩
      have hs' : pln x (h0 x) = true := hs
      repeat refine st mo ?_
      refine ⟨fun hl => ?_, fun hl => ?_⟩
      · repeat refine st mo ?_
        have hl' : ¬ x.a.length = 3 := by omega
        show _ = _; rw [e1]; simp [hl']
      have hl' : x.a.length = 3 := by omega
      have hn : nde x = true := by rw [e1]; simp [hl', hs']
      repeat refine st mo ?_
      refine w_loop (fun i : Nat => ⟨⟨145, [(1, .pointer (some ⟨0, 0, none⟩)), (3, .int .i64 3), (6, .int .i64 (i : Int))]⟩, [(0, some (x.c.map rel1))], 1, w⟩) (fun i => i <= 3 /\ (x.a.take i).all g = true) (fun i => 3 - i) 0 ⟨Nat.zero_le _, rfl⟩ [0] ⟨rfl, ⟨fp, fv, fv, trivial⟩, ⟨flr rfl, trivial⟩, xf, rfl, rfl⟩ ?_
      intro i hi
      repeat refine st mo ?_
      refine ⟨fun hlt => ?_, fun hge => ?_⟩
      · have hil : i < x.a.length := by omega
        obtain ⟨y, hy⟩ : ∃ y, x.a[i]? = some y := ⟨_, List.getElem?_eq_getElem hil⟩
        obtain ⟨⟨b, o, h4, h5⟩, h6⟩ := hE i y hy
        have hst := all_take (g := g) hy
        repeat refine st mo ?_
        refine ⟨b, o, i, h4, rfl, hil, ?_⟩
        repeat refine st mo ?_
        refine ⟨y.c, rfl, h5, ?_⟩
        repeat refine st mo ?_
        cases hg : g y with
        | false =>
          refine ⟨_, fun _ => r_call (t := litF) rfl rfl Tryz.func37 (fun W M E => hg ▸ h6 W E), st mo ?_⟩
          repeat refine st mo ?_
          show _ = _
          rw [show x.a.all g = false from Bool.eq_false_iff.2 fun h => by have := List.all_eq_true.1 h y (List.mem_of_getElem? hy); rw [hg] at this; cases this]
          simp
        | true =>
          refine ⟨_, fun _ => r_call (t := litT) rfl rfl Tryz.func37 (fun W M E => hg ▸ h6 W E), st mo ?_⟩
          repeat refine st mo ?_
          refine ⟨_, wz (i + 1) rfl, st mo ?_⟩
          exact ⟨i + 1, ⟨by omega, by rw [hst, hi.2, hg]; rfl⟩, by show 3 - (i + 1) < 3 - i; omega, [0], rfl, ⟨fp, fv, fv, trivial⟩, ⟨flr rfl, trivial⟩, xf, rfl, rfl⟩
      · repeat refine st mo ?_
        have : i = x.a.length := by omega
        subst this
        rw [List.take_length] at hi
        show _ = _
        rw [hn, hi.2]; rfl
  repeat refine st mo ?_
  refine ⟨fun h7 => ?_, fun h7 => ?_⟩
  · have e1 := nde7 h7
    repeat refine st mo ?_
    refine ⟨fun s1 => ?_, fun s1 => ?_⟩
    rotate_left
    · repeat refine st mo ?_
      have hc : isI x.s = false := by unfold isI; simp; omega
      show _ = _; rw [e1]; simp [hc]
    repeat refine st mo ?_
    refine ⟨fun s2 => ?_, fun s2 => ?_⟩
    rotate_left
    · repeat refine st mo ?_
      have hc : isI x.s = false := by unfold isI; simp; omega
      show _ = _; rw [e1]; simp [hc]
    repeat refine st mo ?_
    refine ⟨fun s3 => ?_, fun s3 => ?_⟩
    rotate_left
    · repeat refine st mo ?_
      have hc : isP x.pl = false := by unfold isP; simp; omega
      show _ = _; rw [e1]; simp [hc]
    repeat refine st mo ?_
    refine ⟨fun s4 => ?_, fun s4 => ?_⟩
    rotate_left
    · repeat refine st mo ?_
      have hc : isP x.pl = false := by unfold isP; simp; omega
      show _ = _; rw [e1]; simp [hc]
    repeat refine st mo ?_
    have hc : isI x.s = true := isI_iff.2 ⟨s1, s2⟩
    have hd : isP x.pl = true := isP_iff.2 ⟨s3, s4⟩
    cases hs : pln x (⟨0, 0, E0, E0, v0, x.s, x.pl, none, 0, []⟩) with
    | false =>
      refine ⟨_, fun _ => r_call (t := litF) rfl rfl Tryz.func29 (fun W M E => hs ▸ q_plain x (⟨0, 0, E0, E0, v0, x.s, x.pl, none, 0, []⟩) W), st mo ?_⟩
      have hs' : pln x (hR x) = false := hs
      repeat refine st mo ?_
      show _ = _; rw [e1]; simp [hs']
    | true =>
      refine ⟨_, fun _ => r_call (t := litT) rfl rfl Tryz.func29 (fun W M E => hs ▸ q_plain x (⟨0, 0, E0, E0, v0, x.s, x.pl, none, 0, []⟩) W), st mo ?_⟩
      have hs' : pln x (hR x) = true := hs
      repeat refine st mo ?_
      refine ⟨fun hl => ?_, fun hl => ?_⟩
      · repeat refine st mo ?_
        have hl' : ¬ x.a.length = 1 := by omega
        show _ = _; rw [e1]; simp [hl']
      have hl' : x.a.length = 1 := by omega
      have hn : nde x = true := by rw [e1]; simp [hc, hd, hl', hs']
      repeat refine st mo ?_
      refine w_loop (fun i : Nat => ⟨⟨145, [(1, .pointer (some ⟨0, 0, none⟩)), (3, .int .i64 1), (6, .int .i64 (i : Int))]⟩, [(0, some (x.c.map rel1))], 1, w⟩) (fun i => i <= 1 /\ (x.a.take i).all g = true) (fun i => 1 - i) 0 ⟨Nat.zero_le _, rfl⟩ [0] ⟨rfl, ⟨fp, fv, fv, trivial⟩, ⟨flr rfl, trivial⟩, xf, rfl, rfl⟩ ?_
      intro i hi
      repeat refine st mo ?_
      refine ⟨fun hlt => ?_, fun hge => ?_⟩
      · have hil : i < x.a.length := by omega
        obtain ⟨y, hy⟩ : ∃ y, x.a[i]? = some y := ⟨_, List.getElem?_eq_getElem hil⟩
        obtain ⟨⟨b, o, h4, h5⟩, h6⟩ := hE i y hy
        have hst := all_take (g := g) hy
        repeat refine st mo ?_
        refine ⟨b, o, i, h4, rfl, hil, ?_⟩
        repeat refine st mo ?_
        refine ⟨y.c, rfl, h5, ?_⟩
        repeat refine st mo ?_
        cases hg : g y with
        | false =>
          refine ⟨_, fun _ => r_call (t := litF) rfl rfl Tryz.func37 (fun W M E => hg ▸ h6 W E), st mo ?_⟩
          repeat refine st mo ?_
          show _ = _
          rw [show x.a.all g = false from Bool.eq_false_iff.2 fun h => by have := List.all_eq_true.1 h y (List.mem_of_getElem? hy); rw [hg] at this; cases this]
          simp
        | true =>
          refine ⟨_, fun _ => r_call (t := litT) rfl rfl Tryz.func37 (fun W M E => hg ▸ h6 W E), st mo ?_⟩
          repeat refine st mo ?_
          refine ⟨_, wz (i + 1) rfl, st mo ?_⟩
          exact ⟨i + 1, ⟨by omega, by rw [hst, hi.2, hg]; rfl⟩, by show 1 - (i + 1) < 1 - i; omega, [0], rfl, ⟨fp, fv, fv, trivial⟩, ⟨flr rfl, trivial⟩, xf, rfl, rfl⟩
      · repeat refine st mo ?_
        have : i = x.a.length := by omega
        subst this
        rw [List.take_length] at hi
        show _ = _
        rw [hn, hi.2]; rfl
  repeat refine st mo ?_
  refine ⟨fun h8 => ?_, fun h8 => ?_⟩
  · have e1 := nde8 h8
    repeat refine st mo ?_
    cases hc : fre x.nm with
    | false =>
      refine ⟨_, fun _ => r_call (t := litF) rfl rfl Tryz.func80 (fun W M E => q_fre hc hn W), st mo ?_⟩
      repeat refine st mo ?_
      show _ = _; rw [e1]; simp [hc]
    | true =>
      refine ⟨_, fun _ => r_call (t := litT) rfl rfl Tryz.func80 (fun W M E => q_fre hc hn W), st mo ?_⟩
      repeat refine st mo ?_
      cases hs : pln x (⟨0, 0, x.nm, E0, v0, 0, 0, none, 0, []⟩) with
      | false =>
        refine ⟨_, fun _ => r_call (t := litF) rfl rfl Tryz.func29 (fun W M E => hs ▸ q_plain x (⟨0, 0, x.nm, E0, v0, 0, 0, none, 0, []⟩) W), st mo ?_⟩
        have hs' : pln x (hN x) = false := hs
        repeat refine st mo ?_
        show _ = _; rw [e1]; simp [hs']
      | true =>
        refine ⟨_, fun _ => r_call (t := litT) rfl rfl Tryz.func29 (fun W M E => hs ▸ q_plain x (⟨0, 0, x.nm, E0, v0, 0, 0, none, 0, []⟩) W), st mo ?_⟩
        have hs' : pln x (hN x) = true := hs
        repeat refine st mo ?_
        refine ⟨fun hl => ?_, fun hl => ?_⟩
        · repeat refine st mo ?_
          have hl' : ¬ x.a.length = 1 := by omega
          show _ = _; rw [e1]; simp [hl']
        have hl' : x.a.length = 1 := by omega
        have hn : nde x = true := by rw [e1]; simp [hc, hl', hs']
        repeat refine st mo ?_
        refine w_loop (fun i : Nat => ⟨⟨145, [(1, .pointer (some ⟨0, 0, none⟩)), (3, .int .i64 1), (6, .int .i64 (i : Int))]⟩, [(0, some (x.c.map rel1))], 1, w⟩) (fun i => i <= 1 /\ (x.a.take i).all g = true) (fun i => 1 - i) 0 ⟨Nat.zero_le _, rfl⟩ [0] ⟨rfl, ⟨fp, fv, fv, trivial⟩, ⟨flr rfl, trivial⟩, xf, rfl, rfl⟩ ?_
        intro i hi
        repeat refine st mo ?_
        refine ⟨fun hlt => ?_, fun hge => ?_⟩
        · have hil : i < x.a.length := by omega
          obtain ⟨y, hy⟩ : ∃ y, x.a[i]? = some y := ⟨_, List.getElem?_eq_getElem hil⟩
          obtain ⟨⟨b, o, h4, h5⟩, h6⟩ := hE i y hy
          have hst := all_take (g := g) hy
          repeat refine st mo ?_
          refine ⟨b, o, i, h4, rfl, hil, ?_⟩
          repeat refine st mo ?_
          refine ⟨y.c, rfl, h5, ?_⟩
          repeat refine st mo ?_
          cases hg : g y with
          | false =>
            refine ⟨_, fun _ => r_call (t := litF) rfl rfl Tryz.func37 (fun W M E => hg ▸ h6 W E), st mo ?_⟩
            repeat refine st mo ?_
            show _ = _
            rw [show x.a.all g = false from Bool.eq_false_iff.2 fun h => by have := List.all_eq_true.1 h y (List.mem_of_getElem? hy); rw [hg] at this; cases this]
            simp
          | true =>
            refine ⟨_, fun _ => r_call (t := litT) rfl rfl Tryz.func37 (fun W M E => hg ▸ h6 W E), st mo ?_⟩
            repeat refine st mo ?_
            refine ⟨_, wz (i + 1) rfl, st mo ?_⟩
            exact ⟨i + 1, ⟨by omega, by rw [hst, hi.2, hg]; rfl⟩, by show 1 - (i + 1) < 1 - i; omega, [0], rfl, ⟨fp, fv, fv, trivial⟩, ⟨flr rfl, trivial⟩, xf, rfl, rfl⟩
        · repeat refine st mo ?_
          have : i = x.a.length := by omega
          subst this
          rw [List.take_length] at hi
          show _ = _
          rw [hn, hi.2]; rfl
  repeat refine st mo ?_
  refine ⟨fun h10 => ?_, fun h10 => ?_⟩
  · have e1 := nde10 h10
    repeat refine st mo ?_
    cases hf : fre x.sc with
    | false =>
      refine ⟨_, fun _ => r_call (t := litF) rfl rfl Tryz.func80 (fun W M E => q_fre hf hsc W), st mo ?_⟩
      repeat refine st mo ?_
      have hc : col x.op x.nm x.sc = false := by unfold col; split <;> simp [hf]
      show _ = _; rw [e1]; simp [hc]
    | true =>
      refine ⟨_, fun _ => r_call (t := litT) rfl rfl Tryz.func80 (fun W M E => q_fre hf hsc W), st mo ?_⟩
      repeat refine st mo ?_
      refine ⟨fun p1 => ?_, fun p1 => ?_⟩
      · repeat refine st mo ?_
        refine ⟨fun p2 => ?_, fun p2 => ?_⟩
        · repeat refine st mo ?_
          have hc : col x.op x.nm x.sc = true := by unfold col; rw [if_pos p1]; simp [hf, p2]
          cases hs : pln x (⟨0, x.op, x.nm, x.sc, v0, 0, 0, none, 0, []⟩) with
          | false =>
            refine ⟨_, fun _ => r_call (t := litF) rfl rfl Tryz.func29 (fun W M E => hs ▸ q_plain x (⟨0, x.op, x.nm, x.sc, v0, 0, 0, none, 0, []⟩) W), st mo ?_⟩
            have hs' : pln x (hA x) = false := hs
            repeat refine st mo ?_
            show _ = _; rw [e1]; simp [hs']
          | true =>
            refine ⟨_, fun _ => r_call (t := litT) rfl rfl Tryz.func29 (fun W M E => hs ▸ q_plain x (⟨0, x.op, x.nm, x.sc, v0, 0, 0, none, 0, []⟩) W), st mo ?_⟩
            have hs' : pln x (hA x) = true := hs
            repeat refine st mo ?_
            refine ⟨fun hl => ?_, fun hl => ?_⟩
            · repeat refine st mo ?_
              have hl' : ¬ x.a.length = 0 := by omega
              show _ = _; rw [e1]; simp [hl']
            have hl' : x.a.length = 0 := by omega
            have hn : nde x = true := by rw [e1]; simp [hc, hl', hs']
            repeat refine st mo ?_
            refine w_loop (fun i : Nat => ⟨⟨145, [(1, .pointer (some ⟨0, 0, none⟩)), (3, .int .i64 0), (6, .int .i64 (i : Int))]⟩, [(0, some (x.c.map rel1))], 1, w⟩) (fun i => i <= 0 /\ (x.a.take i).all g = true) (fun i => 0 - i) 0 ⟨Nat.zero_le _, rfl⟩ [0] ⟨rfl, ⟨fp, fv, fv, trivial⟩, ⟨flr rfl, trivial⟩, xf, rfl, rfl⟩ ?_
            intro i hi
            repeat refine st mo ?_
            refine ⟨fun hlt => ?_, fun hge => ?_⟩
            · have hil : i < x.a.length := by omega
              obtain ⟨y, hy⟩ : ∃ y, x.a[i]? = some y := ⟨_, List.getElem?_eq_getElem hil⟩
              obtain ⟨⟨b, o, h4, h5⟩, h6⟩ := hE i y hy
              have hst := all_take (g := g) hy
              repeat refine st mo ?_
              refine ⟨b, o, i, h4, rfl, hil, ?_⟩
              repeat refine st mo ?_
              refine ⟨y.c, rfl, h5, ?_⟩
              repeat refine st mo ?_
              cases hg : g y with
              | false =>
                refine ⟨_, fun _ => r_call (t := litF) rfl rfl Tryz.func37 (fun W M E => hg ▸ h6 W E), st mo ?_⟩
                repeat refine st mo ?_
                show _ = _
                rw [show x.a.all g = false from Bool.eq_false_iff.2 fun h => by have := List.all_eq_true.1 h y (List.mem_of_getElem? hy); rw [hg] at this; cases this]
                simp
              | true =>
                refine ⟨_, fun _ => r_call (t := litT) rfl rfl Tryz.func37 (fun W M E => hg ▸ h6 W E), st mo ?_⟩
                repeat refine st mo ?_
                refine ⟨_, wz (i + 1) rfl, st mo ?_⟩
                exact ⟨i + 1, ⟨by omega, by rw [hst, hi.2, hg]; rfl⟩, by show 0 - (i + 1) < 0 - i; omega, [0], rfl, ⟨fp, fv, fv, trivial⟩, ⟨flr rfl, trivial⟩, xf, rfl, rfl⟩
            · repeat refine st mo ?_
              have : i = x.a.length := by omega
              subst this
              rw [List.take_length] at hi
              show _ = _
              rw [hn, hi.2]; rfl
        · repeat refine st mo ?_
          have hc : col x.op x.nm x.sc = false := by unfold col; rw [if_pos p1]; simp [p2]
          refine ⟨fun p4 => ?_, fun p4 => absurd p4 (by omega)⟩
          repeat refine st mo ?_
          refine ⟨fun p5 => absurd p5 (by omega), fun p5 => ?_⟩
          repeat refine st mo ?_
          show _ = _; rw [e1]; simp [hc]
      repeat refine st mo ?_
      refine ⟨fun p2 => ?_, fun p2 => ?_⟩
      rotate_left
      · repeat refine st mo ?_
        have hc : col x.op x.nm x.sc = false := by unfold col; rw [if_neg p1]; simp; omega
        show _ = _; rw [e1]; simp [hc]
      repeat refine st mo ?_
      refine ⟨fun p3 => ?_, fun p3 => ?_⟩
      rotate_left
      · repeat refine st mo ?_
        have hc : col x.op x.nm x.sc = false := by unfold col; rw [if_neg p1]; simp; omega
        show _ = _; rw [e1]; simp [hc]
      repeat refine st mo ?_
      cases hh : fre x.nm with
      | false =>
        refine ⟨_, fun _ => r_call (t := litF) rfl rfl Tryz.func80 (fun W M E => q_fre hh hn W), st mo ?_⟩
        repeat refine st mo ?_
        have hc : col x.op x.nm x.sc = false := by unfold col; rw [if_neg p1]; simp [hh]
        show _ = _; rw [e1]; simp [hc]
      | true =>
        refine ⟨_, fun _ => r_call (t := litT) rfl rfl Tryz.func80 (fun W M E => q_fre hh hn W), st mo ?_⟩
        repeat refine st mo ?_
        have hc : col x.op x.nm x.sc = true := by unfold col; rw [if_neg p1]; simp [hf, hh, p2, p3]
        cases hs : pln x (⟨0, x.op, x.nm, x.sc, v0, 0, 0, none, 0, []⟩) with
        | false =>
          refine ⟨_, fun _ => r_call (t := litF) rfl rfl Tryz.func29 (fun W M E => hs ▸ q_plain x (⟨0, x.op, x.nm, x.sc, v0, 0, 0, none, 0, []⟩) W), st mo ?_⟩
          have hs' : pln x (hA x) = false := hs
          repeat refine st mo ?_
          show _ = _; rw [e1]; simp [hs']
        | true =>
          refine ⟨_, fun _ => r_call (t := litT) rfl rfl Tryz.func29 (fun W M E => hs ▸ q_plain x (⟨0, x.op, x.nm, x.sc, v0, 0, 0, none, 0, []⟩) W), st mo ?_⟩
          have hs' : pln x (hA x) = true := hs
          repeat refine st mo ?_
          refine ⟨fun hl => ?_, fun hl => ?_⟩
          · repeat refine st mo ?_
            have hl' : ¬ x.a.length = 0 := by omega
            show _ = _; rw [e1]; simp [hl']
          have hl' : x.a.length = 0 := by omega
          have hn : nde x = true := by rw [e1]; simp [hc, hl', hs']
          repeat refine st mo ?_
          refine w_loop (fun i : Nat => ⟨⟨145, [(1, .pointer (some ⟨0, 0, none⟩)), (3, .int .i64 0), (6, .int .i64 (i : Int))]⟩, [(0, some (x.c.map rel1))], 1, w⟩) (fun i => i <= 0 /\ (x.a.take i).all g = true) (fun i => 0 - i) 0 ⟨Nat.zero_le _, rfl⟩ [0] ⟨rfl, ⟨fp, fv, fv, trivial⟩, ⟨flr rfl, trivial⟩, xf, rfl, rfl⟩ ?_
          intro i hi
          repeat refine st mo ?_
          refine ⟨fun hlt => ?_, fun hge => ?_⟩
          · have hil : i < x.a.length := by omega
            obtain ⟨y, hy⟩ : ∃ y, x.a[i]? = some y := ⟨_, List.getElem?_eq_getElem hil⟩
            obtain ⟨⟨b, o, h4, h5⟩, h6⟩ := hE i y hy
            have hst := all_take (g := g) hy
            repeat refine st mo ?_
            refine ⟨b, o, i, h4, rfl, hil, ?_⟩
            repeat refine st mo ?_
            refine ⟨y.c, rfl, h5, ?_⟩
            repeat refine st mo ?_
            cases hg : g y with
            | false =>
              refine ⟨_, fun _ => r_call (t := litF) rfl rfl Tryz.func37 (fun W M E => hg ▸ h6 W E), st mo ?_⟩
              repeat refine st mo ?_
              show _ = _
              rw [show x.a.all g = false from Bool.eq_false_iff.2 fun h => by have := List.all_eq_true.1 h y (List.mem_of_getElem? hy); rw [hg] at this; cases this]
              simp
            | true =>
              refine ⟨_, fun _ => r_call (t := litT) rfl rfl Tryz.func37 (fun W M E => hg ▸ h6 W E), st mo ?_⟩
              repeat refine st mo ?_
              refine ⟨_, wz (i + 1) rfl, st mo ?_⟩
              exact ⟨i + 1, ⟨by omega, by rw [hst, hi.2, hg]; rfl⟩, by show 0 - (i + 1) < 0 - i; omega, [0], rfl, ⟨fp, fv, fv, trivial⟩, ⟨flr rfl, trivial⟩, xf, rfl, rfl⟩
          · repeat refine st mo ?_
            have : i = x.a.length := by omega
            subst this
            rw [List.take_length] at hi
            show _ = _
            rw [hn, hi.2]; rfl
  repeat refine st mo ?_
  show _ = _; simp [nde, h1, h2, h3, h4, h5, h6, h7, h8, h9, h10]
theorem q_exp : ∀ (d : Nat) (x : Ex) (w : World), LT w d x -> Calls Tryz.prog 37 #[x.w] w fun e W => e = .returned (.bool (vE d x)) /\ Mb w W
  | 0, x, w, h => by
    have := q_exp1 x h.1 (fun _ => true) w (by rw [h.2]; exact Each.none)
    rw [show (nde x && x.a.all fun _ => true) = vE 0 x by rw [h.2]; simp [vE]] at this
    exact this
  | d + 1, x, w, h => q_exp1 x h.1 (vE d) w (h.each fun y W hL => q_exp d y W hL)
structure Ws where
  t : ByteArray
  n : Nat
  J : List Value
def Ws.ok (s : Ws) : Prop := s.J.all pur1 = true /\ (s.t.size <= 16384 /\ s.t.size <= s.n) /\ ((s.t.size = 0 /\ s.n = 0) ∨ (1 <= s.t.size /\ 1 <= s.n))
def c0 (a : Nat) (s : Ws) : List Value := if s.t.size = 0 then [.pointer none, nS, .int .i64 (s.n : Int)] else [P0, bT a s.t.size, .int .i64 (s.n : Int)]
def c1 (s : Ws) : List Value := if s.t.size = 0 then s.J else bcs s.t
abbrev hW (s : Ws) : HT := [(0 + 4096, none), (0, some (c0 1 s)), (1 + 4096, none), (1, some (c1 s))]
def wad (s : Ws) (w : ByteArray) : Ws := ⟨if s.n + w.size <= 16384 then s.t ++ w else s.t, s.n + w.size, s.J⟩
theorem c0_f {a : Nat} {s : Ws} (h : s.t.size = 0) : c0 a s = [.pointer none, nS, .int .i64 (s.n : Int)] := if_pos h
theorem c0_u {a : Nat} {s : Ws} (h : 1 <= s.t.size) : c0 a s = [P0, bT a s.t.size, .int .i64 (s.n : Int)] := if_neg (by omega)
theorem c1_f {s : Ws} (h : s.t.size = 0) : c1 s = s.J := if_pos h
theorem c1_u {s : Ws} (h : 1 <= s.t.size) : c1 s = bcs s.t := if_neg (by omega)
theorem c1_pur {s : Ws} (h : s.ok) : (c1 s).all pur1 = true := by
  unfold c1; split
  · exact h.1
  · exact bcs_pur _
theorem c0_fit {σ : List Nat} {i j : Nat} (s : Ws) (h0 : σ[0]? = some 0 := by rfl) (h : σ[j]? = some i := by rfl) : fitL σ (c0 i s) (c0 j s) := by
  unfold c0; split
  · exact fitL_cons fv (fitL_cons fv (fitL_cons fv (by rfl)))
  · exact fitL_cons (fp h0) (fitL_cons (fT rfl h) (fitL_cons fv (by rfl)))
theorem c0_un {τ : List Nat} {i j : Nat} (s : Ws) (h0 : τ[0]? = some 0 := by rfl) (h : τ[j]? = some i := by rfl) : unL τ (c0 j s) (c0 i s) := by
  unfold c0; split
  · exact unL_cons uv (unL_cons uv (unL_cons uv (by rfl)))
  · exact unL_cons (S.up h0) (unL_cons (uT rfl h) (unL_cons uv (by rfl)))
theorem wad_ok {s : Ws} {w : ByteArray} (h : s.ok) (h1 : 1 <= w.size) (h2 : w.size <= 16384) : (wad s w).ok := by
  obtain ⟨hj, ⟨ht, hb⟩, h⟩ := h
  refine ⟨hj, ⟨?_, ?_⟩, Or.inr ⟨?_, by show 1 <= s.n + w.size; omega⟩⟩
  · unfold wad; split
    · show (s.t ++ w).size <= _; rw [ByteArray.size_append]; omega
    · exact ht
  · unfold wad; split
    · show (s.t ++ w).size <= s.n + w.size; rw [ByteArray.size_append]; omega
    · show s.t.size <= s.n + w.size; omega
  · unfold wad; split
    · show 1 <= (s.t ++ w).size; rw [ByteArray.size_append]; omega
    · rcases h with h | h
      · omega
      · exact h.1
set_option maxRecDepth 20000 in
theorem add_f (s : Ws) (w : ByteArray) (hs : s.ok) (hf : s.t.size = 0) (h1 : 1 <= w.size) (h2 : w.size <= 16384) (X : World) : CtrT Tryz.prog 95 3 X 145 [P0, .string w] (hW s) 2 1 (.tuple #[]) (hW (wad s w)) 2 := by
  have hn : s.n = 0 := by rcases hs.2.2 with h | h <;> omega
  have ht : s.t = E0 := size0.1 hf
  have hw : (wad s w).t = w := by unfold wad; rw [if_pos (by omega), ht]; exact ByteArray.empty_append
  have hu : 1 <= (wad s w).t.size := by rw [hw]; exact h1
  show CtrT Tryz.prog 95 3 X 145 [P0, .string w] [(0 + 4096, none), (0, some (c0 1 s)), (1 + 4096, none), (1, some (c1 s))] 2 1 (.tuple #[]) [(0 + 4096, none), (0, some (c0 1 (wad s w))), (1 + 4096, none), (1, some (c1 (wad s w)))] 2
  rw [c0_f hf, c1_f hf, c0_u hu, c1_u hu, hw, show (wad s w).n = w.size by unfold wad; simp [hn], hn]
  have hJ := hs.1
  generalize s.J = J at *
  refine fn_cT _ Tryz.func145 rfl rfl rfl rfl rfl (fun w' l tw X' hX hT => run_ok (st mo ?_))
  repeat refine st mo ?_
  refine ⟨_, rfl, st mo ?_⟩
  repeat refine st mo ?_
  refine ⟨(w.size : Int), wz w.size (by omega), st mo ⟨by show 0 + 2 + 1 <= _; simp, _, rfl, st mo ?_⟩⟩
  repeat refine st mo ?_
  refine ⟨_, rfl, st mo ?_⟩
  repeat refine st mo ?_
  refine ⟨fun _ => ?_, fun h => absurd h (by omega)⟩
  repeat refine st mo ?_
  refine ⟨_, fun _ => r_cT (tc := .tuple #[.int .i64 (w.size : Int), .nilIface]) [0, 1] [some [P0, bT 2 w.size, .int .i64 (w.size : Int)], some (bcs w)] [0, 2] rfl rfl hT (ws_fresh 95 3 (Or.inr ⟨rfl, rfl⟩) (tl := [.int .i64 (w.size : Int)]) rfl hJ w h1 (by omega) X') (by exact fitL_cons fp (fitL_cons fv (by rfl))) ⟨trivial, fitL_cons fv (fitL_cons fv (fitL_cons fv (by rfl))), trivial, fl rfl hJ, trivial⟩ uv ⟨unL_cons S.up (unL_cons uT (unL_cons uv (by rfl))), ul rfl (bcs_pur w), trivial⟩, st mo ?_⟩
  repeat refine st mo ?_
  exact ⟨rfl, [0, 2], ft0, ⟨trivial, fitL_cons fp (fitL_cons fT (fitL_cons fv (by rfl))), trivial, fl rfl (bcs_pur w), trivial⟩, rfl, rfl⟩
set_option maxRecDepth 20000 in
theorem add_u (s : Ws) (w : ByteArray) (hs : s.ok) (hf : 1 <= s.t.size) (h2 : w.size <= 16384) (hb : s.n + w.size <= 4611686018427387904) (X : World) : Ctr Tryz.prog X 145 [P0, .string w] (hW s) 2 1 (.tuple #[]) (hW (wad s w)) 2 := by
  have hu : 1 <= (wad s w).t.size := by
    unfold wad; split
    · show 1 <= (s.t ++ w).size; rw [ByteArray.size_append]; omega
    · exact hf
  have ht := hs.2.1
  show Ctr Tryz.prog X 145 [P0, .string w] [(0 + 4096, none), (0, some (c0 1 s)), (1 + 4096, none), (1, some (c1 s))] 2 1 (.tuple #[]) [(0 + 4096, none), (0, some (c0 1 (wad s w))), (1 + 4096, none), (1, some (c1 (wad s w)))] 2
  rw [c0_u hf, c1_u hf, c0_u hu, c1_u hu, show (wad s w).n = s.n + w.size from rfl]
  refine fn_c _ Tryz.func145 rfl rfl rfl rfl (fun w' l tw X' hX => run_ok (st mo ?_))
  repeat refine st mo ?_
  refine ⟨_, rfl, st mo ?_⟩
  repeat refine st mo ?_
  refine ⟨((s.n + w.size : Nat) : Int), wz (s.n + w.size) (by omega), st mo ⟨by show 0 + 2 + 1 <= _; simp, _, rfl, st mo ?_⟩⟩
  repeat refine st mo ?_
  refine ⟨_, rfl, st mo ?_⟩
  repeat refine st mo ?_
  refine ⟨fun h => ?_, fun h => ?_⟩
  · have e : (wad s w).t = s.t ++ w := by unfold wad; rw [if_pos (by omega)]
    rw [e]
    repeat refine st mo ?_
    refine ⟨_, fun _ => r_c (tc := .tuple #[.int .i64 (w.size : Int), .nilIface]) [0, 1] [some [P0, bT 2 (s.t ++ w).size, .int .i64 ((s.n + w.size : Nat) : Int)], some (bcs (s.t ++ w))] [0, 2] rfl rfl (ws_used (tl := [.int .i64 ((s.n + w.size : Nat) : Int)]) rfl s.t w (by omega) X') (by exact fitL_cons fp (fitL_cons fv (by rfl))) ⟨trivial, fitL_cons fp (fitL_cons fT (fitL_cons fv (by rfl))), trivial, fl rfl (bcs_pur s.t), trivial⟩ uv ⟨unL_cons S.up (unL_cons uT (unL_cons uv (by rfl))), ul rfl (bcs_pur _), trivial⟩, st mo ?_⟩
    repeat refine st mo ?_
    exact ⟨rfl, [0, 2], ft0, ⟨trivial, fitL_cons fp (fitL_cons fT (fitL_cons fv (by rfl))), trivial, fl rfl (bcs_pur _), trivial⟩, rfl, rfl⟩
  · have e : (wad s w).t = s.t := by unfold wad; rw [if_neg (by omega)]
    rw [e]
    repeat refine st mo ?_
    exact ⟨rfl, [0, 1], ft0, ⟨trivial, fitL_cons fp (fitL_cons fT (fitL_cons fv (by rfl))), trivial, fl rfl (bcs_pur _), trivial⟩, rfl, rfl⟩
theorem Ctr.T {P : Program} {T N : Nat} {X : World} {f : FuncId} {vs : List Value} {h h' : HT} {n m n' : Nat} {t : Value} (c : Ctr P X f vs h n m t h' n') : CtrT P T N X f vs h n m t h' n' := fun W k _ => c W k
def wok (w : ByteArray) : Prop := 1 <= w.size /\ w.size <= 16384
theorem c_add (s : Ws) (w : ByteArray) (hs : s.ok) (hw : wok w) (hb : s.n + w.size <= 4611686018427387904) (X : World) : CtrT Tryz.prog 95 3 X 145 [P0, .string w] (hW s) 2 1 (.tuple #[]) (hW (wad s w)) 2 := by
  rcases Nat.eq_zero_or_pos s.t.size with h | h
  · exact add_f s w hs h hw.1 hw.2 X
  · exact Ctr.T (add_u s w hs h hw.2 hb X)
end Go.Proofs.YtpabcmaeaiaknaaGreatDoor
