/-
  A part of the proof.
-/
import Derived.Test.YtoiiekmkcpcbgaaR4
/-
  limb.isDigits, whatever the text: the walk.
-/
namespace Go.Proofs.Ytoiiekmkcpcbgaa
open Go.RowKit
/-- Is a byte a digit? -/
def isD (c : UInt8) : Bool := decide (48 ≤ (c.toNat : Int)) && decide ((c.toNat : Int) ≤ 57)
/-- Digits, with no 0 ahead of others. -/
def digs (l : List UInt8) : Bool := !(l.isEmpty) && !(decide (1 < l.length) && (l.headD 0 == 48)) && l.all isD
theorem take_snoc' (s : ByteArray) (k : Nat) (h : k < s.size) : s.data.toList.take (k + 1) = s.data.toList.take k ++ [s[k]] := by
  rw [List.take_succ_eq_append_getElem (by simpa using h)]; rfl
set_option maxHeartbeats 1000000 in
theorem isd_yes (s : ByteArray) (w : World) (hs : s.size ≤ maxLen) (h0 : s.toList.isEmpty = false) (hd : Hid (∀ (k : Nat) (h : k < s.size), 48 ≤ (s[k].toNat : Int) ∧ (s[k].toNat : Int) ≤ 57)) (hp : 0 < s.size) (hz : s.size = 1 ∨ ((s[0].toNat : Int) == 48) = false) :
    Calls Try.prog 67 #[.string s] w fun e w' => e = .returned (.bool true) ∧ w' = w := by
  unfold maxLen at hs
  rcases hz with hz | hz
  · have h1 : ¬ (1 < (s.size : Int)) := by omega
    clear hz
    go_enter Try.func67, Try.ntmps67
    go_wp2
    go_loop [18] (fun i => ∃ k : Nat, k ≤ s.size ∧ i = .int .i64 k) (fun i => s.size - (intOf i).toNat)
    case atStart => exact ⟨0, Nat.zero_le _, rfl⟩
    case round =>
      obtain ⟨k, hk, rfl⟩ := hrel
      by_cases hlt : k < s.size
      · obtain ⟨b1, b2⟩ := hd.out k hlt
        go_wp2
        go_round
        case rel => exact ⟨k + 1, by omega, by go_num⟩
        case measure => simp [intOf]; omega
      · go_wp2
        go_ret
        exact ⟨rfl, rfl⟩
  · by_cases h1 : 1 < (s.size : Int)
    all_goals
      go_enter Try.func67, Try.ntmps67
      go_wp2
      go_loop [18] (fun i => ∃ k : Nat, k ≤ s.size ∧ i = .int .i64 k) (fun i => s.size - (intOf i).toNat)
      case atStart => exact ⟨0, Nat.zero_le _, rfl⟩
      case round =>
        obtain ⟨k, hk, rfl⟩ := hrel
        by_cases hlt : k < s.size
        · obtain ⟨b1, b2⟩ := hd.out k hlt
          go_wp2
          go_round
          case rel => exact ⟨k + 1, by omega, by go_num⟩
          case measure => simp [intOf]; omega
        · go_wp2
          go_ret
          exact ⟨rfl, rfl⟩
end Go.Proofs.Ytoiiekmkcpcbgaa
/-
  limb.appendDigit, whatever the number and the digit: the walk.
-/
namespace Go.Proofs.Ytoiiekmkcpcbgaa
open Go.RowKit
/-- A number with one digit more fits. -/
def fits (A d : Int) : Bool := decide (A * 10 + d < MM)
theorem At0.st {w : World} {k j : Nat} (h : At0 w j) (hk : j ≠ k) (z : Int) : At0 (st4 w k z) j := by
  obtain ⟨⟨b0, b1, b2, b3⟩, f, s⟩ := h
  refine ⟨by simp [At4, go_sem, *], fun o => by simp [World.frozen?_setCell, f o], by simpa [World.setCell] using s⟩
set_option maxHeartbeats 1000000 in
theorem apd_any (A c : Int) (w : World) (hA0 : 0 ≤ A) (hAM : A < MM) (hc0 : 48 ≤ c) (hc1 : c ≤ 57) :
    Calls Try.prog 68 #[nv A, .int .u8 c] w fun e w' =>
      e = .returned (.tuple #[nv (A * 10 + (c - 48)), .bool (fits A (c - 48))]) ∧ Mo w w' := by
  have hT : (A * 10 / MM = 0 ∧ (!ov (A * 10 % MM + (c - 48))) = fits A (c - 48)) ∨ (A * 10 / MM ≠ 0 ∧ fits A (c - 48) = false) := by
    by_cases h : A * 10 / MM = 0
    · refine Or.inl ⟨h, ?_⟩
      unfold ov fits
      rw [Bool.eq_iff_iff]
      simp
      unfold MM at *
      omega
    · refine Or.inr ⟨h, decide_eq_false ?_⟩
      unfold MM at *
      omega
  have H1 : Hid (nv (A * 10 % MM + (c - 48) % MM) = nv (A * 10 + (c - 48))) := nv_add_mod _ _
  have H2 : Hid ((c - 48) % MM = c - 48) := by show _ = _; unfold MM; omega
  have hu : U1 (c - 48) := ⟨by omega, by omega⟩
  have w8 : IntKind.u8.wrap (c - 48) = c - 48 := by rw [IntKind.wrap_u8]; omega
  have w64 : IntKind.u64.wrap (c - 48) = c - 48 := by rw [IntKind.wrap_u64]; omega
  go_enter Try.func68, Try.ntmps68
  go_wp2_with fail
  refine (mulLimb_any (l0 A) (l1 A) (l2 A) (l3 A) 10 _ (u4_lb A) ⟨by decide, by decide⟩).mono ?_
  rintro e w1 ⟨rfl, hm1⟩
  rw [vl_lb A hA0 hAM]
  have Z1 : At0 w1 (w.heap.size + 1) := At0.mo ⟨by simp [At4, go_sem], fun o => by simp [go_sem], by simp⟩ hm1
  have M1 : Mo w w1 := (((Mo.refl _).alloc _ _).alloc _ _).trans hm1
  have a : Mo w1 (w1.alloc (.cells #[.int .u64 (l0 (A * 10)), .int .u64 (l1 (A * 10)), .int .u64 (l2 (A * 10)), .int .u64 (l3 (A * 10))] 24)) := (Mo.refl _).alloc _ _
  have Z2 := Z1.mo a
  have M2 := M1.trans a
  have n2 := AtN.new w1 (A * 10)
  have hz : w.heap.size + 1 < w1.heap.size := Z1.2.2
  clear hm1 a M1 Z1
  go_upto_region 2 with fail
  revert Z2 M2 n2
  generalize w1.alloc (.cells #[.int .u64 (l0 (A * 10)), .int .u64 (l1 (A * 10)), .int .u64 (l2 (A * 10)), .int .u64 (l3 (A * 10))] 24) = W0
  intro Z2 M2 n2
  go_cut [8, 9] from 15 to 23 (fun s8 s9 wx => ∃ k, s8 = .pointer (some ⟨k, 0, none⟩) ∧ s9 = .bool (ov (A * 10 % MM + (c - 48))) ∧ w.heap.size + 1 < k ∧ Mo w wx ∧ At0 wx (w.heap.size + 1) ∧ AtN wx k (A * 10 + (c - 48)))
  case first =>
    have nz := n2
    obtain ⟨⟨i0, i1, i2, i3⟩, _, x0⟩ := nz
    go_region_held3 (fun w' => w'.cell? ⟨w1.heap.size, 0, none⟩ = some (.int .u64 (l0 (A * 10))) ∧ w'.cell? ⟨w1.heap.size, 1, none⟩ = some (.int .u64 (l1 (A * 10))) ∧ w'.cell? ⟨w1.heap.size, 2, none⟩ = some (.int .u64 (l2 (A * 10))) ∧ w'.cell? ⟨w1.heap.size, 3, none⟩ = some (.int .u64 (l3 (A * 10)))) (simp [go_sem, World.cell?_alloc_past, *])
      (first | (go_at_call 56; refine (from20_any (c - 48) _ hu).mono ?_; rintro e w2 ⟨rfl, hm2⟩; have m2 : Mo W0 w2 := Mo.trans (by repeat (first | with_reducible exact Mo.refl _ | with_reducible apply Mo.drew | with_reducible apply Mo.alloc)) hm2; (try (with_reducible have k2 := At0.mk1 hm2)); obtain ⟨⟨e0, e1, e2, e3⟩, _, y1⟩ := n2.mo m2) | (go_at_call 60; refine (add_any (l0 (A * 10)) (l1 (A * 10)) (l2 (A * 10)) (l3 (A * 10)) (l0 (c - 48)) (l1 (c - 48)) (l2 (c - 48)) (l3 (c - 48)) _ (u4_lb _) (u4_lb _)).mono ?_; rintro e w3 ⟨rfl, hm3⟩; rw [vl_nv (A * 10), vl_nv (c - 48), H1.out, H2.out]; have m3 : Mo w2 w3 := Mo.trans (by repeat (first | with_reducible exact Mo.refl _ | with_reducible apply Mo.drew | with_reducible apply Mo.alloc)) hm3; (try (with_reducible have k3 := At0.mk2 hm3)); (try (with_reducible have k3 := k2.mo m3)); (try have k4 := k3); (try obtain ⟨⟨g0, g1, g2, g3⟩, ff, y9⟩ := k3); (try have ff := fun o => ff o); obtain ⟨⟨f0, f1, f2, f3⟩, _, y2⟩ := n2.mo (m2.trans m3)))
    all_goals
      go_wp2
      go_meet
      case rel =>
        have m := m2.trans m3
        have z1 := m2.size
        have z2 := m3.size
        refine ⟨_, rfl, rfl, by omega, ?_, ?_, ?_⟩
        · first | with_reducible exact (M2.trans m).alloc _ _ | exact (M2.trans m).st4 (by omega) _
        · first | with_reducible exact (Z2.mo m).mo ((Mo.refl _).alloc _ _) | exact (Z2.mo m).st (by omega) _
        · first | with_reducible exact AtN.new _ _ | exact k4.same _
  case rest =>
    obtain ⟨k, rfl, rfl, hk, M, Z, n⟩ := hcut
    obtain ⟨⟨i0, i1, i2, i3⟩, _, x0⟩ := n
    have Zz := Z
    obtain ⟨⟨c0, c1, c2, c3⟩, fc, zc⟩ := Zz
    have fc := fun o => fc o
    clear Z2 M2 n2
    rcases hT with ⟨hT, hf⟩ | ⟨hT, hf⟩
    · have tb : (A * 10 / MM == 0) = true := by rw [hT]; rfl
      have HF : Hid _ := hf
      clear hT hf
      go_wp2
      refine bodyPost_ret (v := .tuple #[nv (A * 10 + (c - 48)), .bool (!ov (A * 10 % MM + (c - 48)))]) (by simp [results, Try.results68, go_sem, c0, c1, c2, c3]) rfl ?_
      exact ⟨by rw [HF.out], M.st4 (by omega) _⟩
    · have tb : (A * 10 / MM == 0) = false := by simp [hT]
      have HF : Hid _ := hf
      clear hT hf
      go_wp2
      refine bodyPost_ret (v := .tuple #[nv (A * 10 + (c - 48)), .bool false]) (by simp [results, Try.results68, go_sem, c0, c1, c2, c3]) rfl ?_
      exact ⟨by rw [HF.out], M.st4 (by omega) _⟩
end Go.Proofs.Ytoiiekmkcpcbgaa
/-
  limb.Parse of a text of digits whose number has room: the walk.
-/
namespace Go.Proofs.Ytoiiekmkcpcbgaa
open Go.RowKit
/-- The number that bytes say, as decimal digits. -/
def pv (l : List UInt8) : Int := l.foldl (fun v c => v * 10 + ((c.toNat : Int) - 48)) 0
theorem pv_snoc (l : List UInt8) (c : UInt8) : pv (l ++ [c]) = pv l * 10 + ((c.toNat : Int) - 48) := by unfold pv; rw [List.foldl_append]; rfl
/-- The world between two bytes. -/
def PW (w wr : World) (v : Int) : Prop := Mo w wr ∧ At0 wr w.heap.size ∧ AtN wr (w.heap.size + 1) v
theorem PW.mo {w wr w1 : World} {v : Int} (h : PW w wr v) (m : Mo wr w1) : PW w w1 v := ⟨h.1.trans m, h.2.1.mo m, h.2.2.mo m⟩
theorem PW.put {w w1 : World} {v : Int} (h : PW w w1 v) (z : Int) : PW w (st4 w1 (w.heap.size + 1) z) z :=
  ⟨h.1.st4 (by omega) z, h.2.1.st (by omega) z, h.2.2.same z⟩
theorem PW.start (w : World) : PW w ((w.alloc (.cells #[.int .u64 0, .int .u64 0, .int .u64 0, .int .u64 0] 24)).alloc (.cells #[.int .u64 0, .int .u64 0, .int .u64 0, .int .u64 0] 24)) 0 := by
  have z0 : l0 0 = 0 := by decide
  have z1 : l1 0 = 0 := by decide
  have z2 : l2 0 = 0 := by decide
  have z3 : l3 0 = 0 := by decide
  exact ⟨((Mo.refl _).alloc _ _).alloc _ _, ⟨by simp [At4, go_sem], fun o => by simp [go_sem], by simp <;> omega⟩, ⟨by simp [At4, go_sem, z0, z1, z2, z3], fun o => by simp [go_sem], by simp⟩⟩
set_option maxHeartbeats 1000000 in
theorem parse_yes (s : ByteArray) (w : World) (hs : s.size ≤ maxLen) (h0 : s.toList.isEmpty = false) (hd : Hid (∀ (k : Nat) (h : k < s.size), 48 ≤ (s[k].toNat : Int) ∧ (s[k].toNat : Int) ≤ 57)) (hp : 0 < s.size) (hz : Hid (s.size = 1 ∨ ((s[0].toNat : Int) == 48) = false))
    (hv : Hid (∀ k, k ≤ s.size → 0 ≤ pv (s.data.toList.take k) ∧ pv (s.data.toList.take k) < MM)) :
    Calls Try.prog 20 #[.string s] w fun e w' => e = .returned (.tuple #[nv (pv s.data.toList), .int .i64 0]) ∧ Mo w w' := by
  have HS := PW.start w
  have HS' : Hid _ := HS
  have hs' := hs
  unfold maxLen at hs
  clear HS
  go_enter Try.func20, Try.ntmps20
  go_wp2_with fail
  refine (isd_yes s _ hs' h0 hd hp hz.out).mono ?_
  rintro e w1 ⟨rfl, rfl⟩
  clear h0
  go_wp2
  go_loopw [13] (fun i wr => ∃ k : Nat, k ≤ s.size ∧ i = .int .i64 k ∧ PW w wr (pv (s.data.toList.take k))) (fun i _ => s.size - (intOf i).toNat)
  case atStart => exact ⟨0, Nat.zero_le _, rfl, HS'.out⟩
  case round =>
    obtain ⟨k, hk, rfl, hw⟩ := hrel
    by_cases hlt : k < s.size
    · obtain ⟨b1, b2⟩ := hd.out k hlt
      have hw0 := hw
      obtain ⟨_, _, ⟨⟨c0, c1, c2, c3⟩, _, _⟩⟩ := hw
      have v1 := hv.out k hk
      have v2 := hv.out (k + 1) hlt
      rw [take_snoc' s k hlt, pv_snoc] at v2
      have Hf : Hid (fits (pv (s.data.toList.take k)) ((s[k].toNat : Int) - 48) = true) := decide_eq_true v2.2
      have Hn : Hid (pv (s.data.toList.take k) * 10 + ((s[k].toNat : Int) - 48) = pv (s.data.toList.take (k + 1))) := by
        show _ = _
        rw [take_snoc' s k hlt, pv_snoc]
      have V1 : Hid _ := v1
      clear v1 v2
      generalize pv (s.data.toList.take k) = V at *
      go_wp2
      go_region_with
        (first | (go_at_call 68; refine (apd_any V (s[k].toNat : Int) _ V1.out.1 V1.out.2 b1 b2).mono ?_; rintro e w2 ⟨rfl, hm2⟩; rw [Hf.out, Hn.out]; have hw1 := hw0.mo (Mo.trans (by repeat (first | with_reducible exact Mo.refl _ | with_reducible apply Mo.drew)) hm2); have hw2 := hw1; obtain ⟨_, _, ⟨⟨c0, c1, c2, c3⟩, ff, _⟩⟩ := hw2; have ff := fun o => ff o))
      all_goals
        go_wp2
        go_roundw
        case rel => exact ⟨k + 1, by omega, by go_num, hw1.put _⟩
        case measure => simp [intOf]; omega
    · obtain ⟨m, ⟨⟨d0, d1, d2, d3⟩, fd, zd⟩, ⟨⟨c0, c1, c2, c3⟩, _, _⟩⟩ := hw
      have fd := fun o => fd o
      have Hk : Hid (s.data.toList.take k = s.data.toList) := List.take_of_length_le (by simp; omega)
      rw [Hk.out] at c0 c1 c2 c3
      clear Hk
      go_wp2
      refine bodyPost_ret (v := .tuple #[nv (pv s.data.toList), .int .i64 0]) (by simp [results, Try.results20, go_sem, d0, d1, d2, d3]) rfl ?_
      exact ⟨rfl, m.st4 (Nat.le_refl _) _⟩
end Go.Proofs.Ytoiiekmkcpcbgaa
/-
  Plain facts on decimal digits: what Text writes is digits, and says its number.
-/
namespace Go.Proofs.Ytoiiekmkcpcbgaa
theorem strOf_list (ns : List Int) : (strOf ns).data.toList = ns.map (fun n => UInt8.ofNat n.toNat) := by
  have g : ∀ (l : List Int) (b : ByteArray), (l.foldl (fun r n => r.push (UInt8.ofNat n.toNat)) b).data.toList = b.data.toList ++ l.map (fun n => UInt8.ofNat n.toNat) := by
    intro l
    induction l with
    | nil => intro b; simp
    | cons x l ih => intro b; rw [List.foldl_cons, ih]; simp [ByteArray.push]
  unfold strOf
  rw [g]
  simp
theorem decF_digits : ∀ (f : Nat) (n : Int), ∀ d ∈ decF f n, 48 ≤ d ∧ d ≤ 57
  | 0, _, d, h => by simp [decF] at h
  | f + 1, n, d, h => by
    unfold decF at h
    split at h
    · simp at h; omega
    · rw [List.mem_append] at h
      rcases h with h | h
      · exact decF_digits f _ d h
      · simp at h; omega
theorem decF_len : ∀ (f : Nat) (n : Int), (decF f n).length ≤ f
  | 0, _ => by simp [decF]
  | f + 1, n => by
    unfold decF
    split
    · simp
    · have := decF_len f (n / 10)
      simp
      omega
theorem decF_ne {f : Nat} (n : Int) : decF (f + 1) n ≠ [] := by
  unfold decF
  split <;> simp
/-- The number of digits. -/
def dv (l : List Int) : Int := l.foldl (fun v d => v * 10 + (d - 48)) 0
theorem dv_snoc (l : List Int) (d : Int) : dv (l ++ [d]) = dv l * 10 + (d - 48) := by unfold dv; rw [List.foldl_append]; rfl
theorem decF_dv : ∀ (f : Nat) (n : Int), 0 ≤ n → n < 10 ^ f → dv (decF f n) = n
  | 0, n, h0, h => by simp at h; unfold decF dv; simp; omega
  | f + 1, n, h0, h => by
    unfold decF
    split
    · rw [show [48 + n % 10] = [] ++ [48 + n % 10] from rfl, dv_snoc]; unfold dv; simp; omega
    · rw [dv_snoc, decF_dv f (n / 10) (by omega) (by rw [Int.pow_succ] at h; omega)]; omega
theorem decF_head : ∀ (f : Nat) (n : Int), 0 < n → n < 10 ^ f → (decF f n).headD 0 ≠ 48
  | 0, n, h0, h => by simp at h; omega
  | f + 1, n, h0, h => by
    unfold decF
    split
    · simp; omega
    · rename_i hq
      have e := decF_head f (n / 10) (by omega) (by rw [Int.pow_succ] at h; omega)
      cases hf : decF f (n / 10) with
      | nil => rw [hf] at e; simp at e ⊢; cases f with
        | zero => simp at h; omega
        | succ g => exact absurd hf (decF_ne _)
      | cons a l => rw [hf] at e; simpa using e
theorem dv_from (l : List Int) : ∀ v : Int, 0 ≤ v → (∀ d ∈ l, 48 ≤ d ∧ d ≤ 57) → v ≤ l.foldl (fun v d => v * 10 + (d - 48)) v := by
  induction l with
  | nil => intro v _ _; exact Int.le_refl _
  | cons x l ih =>
    intro v hv h
    have hx := h x (by simp)
    have := ih (v * 10 + (x - 48)) (by omega) (fun d hd => h d (by simp [hd]))
    rw [List.foldl_cons]
    omega
theorem dv_take (l : List Int) (h : ∀ d ∈ l, 48 ≤ d ∧ d ≤ 57) (k : Nat) : 0 ≤ dv (l.take k) ∧ dv (l.take k) ≤ dv l := by
  have a : 0 ≤ dv (l.take k) := dv_from (l.take k) 0 (Int.le_refl 0) (fun d hd => h d (List.mem_of_mem_take hd))
  refine ⟨a, ?_⟩
  have e : dv l = (l.drop k).foldl (fun v d => v * 10 + (d - 48)) (dv (l.take k)) := by
    unfold dv; rw [← List.foldl_append, List.take_append_drop]
  rw [e]
  exact dv_from _ _ a (fun d hd => h d (List.mem_of_mem_drop hd))
end Go.Proofs.Ytoiiekmkcpcbgaa
/-
  Texts: isDigits, Parse, and the document's Parse, at every text.
-/
namespace Go.Proofs.Ytoiiekmkcpcbgaa
open Go.RowKit
theorem eqe_run {s : ByteArray} {r : Bool} (h : s.toList.isEmpty = r) (x y : Operand) (w : World) : (do eqGuard .eql 9 x y (.string s) (.string ⟨#[]⟩); binOp .eql 9 (.string s) (.string ⟨#[]⟩)).run Try.prog w = .ok (.bool r) w := by
  subst h; simp [go_sem]
theorem idx_s (s : ByteArray) (k : Nat) (h : k < s.size) (w : World) : (Instr.index 9 (.string s) (.int .i64 (k : Int))).run Try.prog w = .ok (.int .u8 (s[k].toNat : Int)) w := by
  simp [go_sem, h]
theorem len_run (ρ : Operand → Value) (x : Operand) (s : ByteArray) (hx : ρ x = .string s) (dst : Option Tmp) (type : TypeId) (pos : String) (after : Array Edge) (guard : Option (Nat × Bool)) (w : World) : (execOp ρ { dst, op := .call { callee := .builtin .len, args := #[x], argTypes := #[9] }, type, pos, after, guard }).run Try.prog w = .ok (.value (.int .i64 (s.size : Int))) w := by
  simp [go_sem, hx]
theorem ls5 {a b : Int} {r : Bool} (h : decide (a < b) = r) (x y : Operand) (w : World) : (do eqGuard .lss 5 x y (.int .u8 a) (.int .u8 b); binOp .lss 5 (.int .u8 a) (.int .u8 b)).run Try.prog w = .ok (.bool r) w := by
  subst h; kernel_rfl
theorem add1_run {k : Nat} (hk : k ≤ 9223372036854775806) (x y : Operand) (w : World) : (do eqGuard .add 3 x y (.int .i64 (k : Int)) (.int .i64 1); binOp .add 3 (.int .i64 (k : Int)) (.int .i64 1)).run Try.prog w = .ok (.int .i64 ((k + 1 : Nat) : Int)) w := by
  have e : (do eqGuard .add 3 x y (.int .i64 (k : Int)) (.int .i64 1); binOp .add 3 (.int .i64 (k : Int)) (.int .i64 1)).run Try.prog w = .ok (.int .i64 (IntKind.i64.wrap ((k : Int) + 1))) w := by kernel_rfl
  have h : IntKind.i64.wrap ((k : Int) + 1) = ((k + 1 : Nat) : Int) := by rw [IntKind.wrap_i64]; omega
  rw [e, h]
theorem gt5_run {a b : Int} {r : Bool} (h : decide (a > b) = r) (x y : Operand) (w : World) : (do eqGuard .gtr 5 x y (.int .u8 a) (.int .u8 b); binOp .gtr 5 (.int .u8 a) (.int .u8 b)).run Try.prog w = .ok (.bool r) w := by
  subst h; kernel_rfl
theorem eq5_run {a b : Int} {r : Bool} (h : (a == b) = r) (x y : Operand) (w : World) : (do eqGuard .eql 5 x y (.int .u8 a) (.int .u8 b); binOp .eql 5 (.int .u8 a) (.int .u8 b)).run Try.prog w = .ok (.bool r) w := by
  subst h; kernel_rfl
theorem lt3_run {a b : Int} {r : Bool} (h : decide (a < b) = r) (x y : Operand) (w : World) : (do eqGuard .lss 3 x y (.int .i64 a) (.int .i64 b); binOp .lss 3 (.int .i64 a) (.int .i64 b)).run Try.prog w = .ok (.bool r) w := by
  subst h; kernel_rfl
theorem gt3_run {a b : Int} {r : Bool} (h : decide (a > b) = r) (x y : Operand) (w : World) : (do eqGuard .gtr 3 x y (.int .i64 a) (.int .i64 b); binOp .gtr 3 (.int .i64 a) (.int .i64 b)).run Try.prog w = .ok (.bool r) w := by
  subst h; kernel_rfl
theorem idx_0 (s : ByteArray) (h : 0 < s.size) (w : World) : (Instr.index 9 (.string s) (.int .i64 0)).run Try.prog w = .ok (.int .u8 (s[0].toNat : Int)) w := idx_s s 0 h w
/-- The first k bytes are digits. -/
def dgs (s : ByteArray) (k : Nat) : Prop := ∀ (j : Nat) (h : j < s.size), j < k → 48 ≤ (s[j].toNat : Int) ∧ (s[j].toNat : Int) ≤ 57
/-- A text of digits with no 0 ahead of others. -/
def isT (s : ByteArray) : Prop := ∃ h : 0 < s.size, ¬ (s.size > 1 ∧ (s[0].toNat : Int) = 48) ∧ dgs s s.size
theorem isT_mk {s : ByteArray} {k : Nat} (hp : 0 < s.size) (hl : ¬ (s.size > 1 ∧ (s[0].toNat : Int) = 48)) (hk : k = s.size) (hd : dgs s k) : isT s := ⟨hp, hl, by rw [← hk]; exact hd⟩
theorem emp_iff (s : ByteArray) : s.toList.isEmpty = decide (s.size = 0) := by
  rw [ByteArray.toList_eq]
  have e : s.size = s.data.toList.length := by rw [Array.length_toList]; rfl
  rw [e]
  cases s.data.toList <;> rfl
theorem dgs_succ {s : ByteArray} {k : Nat} (h : k < s.size) (hd : dgs s k) (a : 48 ≤ (s[k].toNat : Int)) (b : (s[k].toNat : Int) ≤ 57) : dgs s (k + 1) := fun j hj hjk => by
  by_cases e : j = k
  · subst e; exact ⟨a, b⟩
  · exact hd j hj (by omega)
theorem isd_emp (s : ByteArray) (w : World) (h0 : s.toList.isEmpty = true) : Calls Try.prog 67 #[.string s] w fun e w' => e = .returned (.bool false) ∧ Mo w w' := by
  refine w_enter 32 Try.func67 Try.ntmps67 rfl rfl ?_
  have M : Mo w w := Mo.refl _
  refine w_seq ?_
  refine w_reg ?_
  refine wl_mv (.const (.bool false)) (.bool false) (fun _ => rfl) rfl rfl ?_
  refine w_nil ?_
  refine xn_then ?_
  refine w_seq ?_
  refine w_seq ?_
  refine w_reg ?_
  refine wl_mv (.tmp 0) (.string s) (fun _ => rfl) rfl rfl ?_
  refine wl_bin (fun x y => do eqGuard .eql 9 (.tmp 4) (.const (.string ⟨#[]⟩)) x y; binOp .eql 9 x y) (.tmp 4) (.const (.string ⟨#[]⟩)) (.string s) (.string ⟨#[]⟩) (.bool true) (fun _ => rfl) rfl rfl (eqe_run h0 _ _ _) rfl ?_
  refine wl_mv (.tmp 5) (.bool true) (fun _ => rfl) rfl rfl ?_
  refine wl_skip rfl ?_
  refine wl_skip rfl ?_
  refine wl_skip rfl ?_
  refine wl_skip rfl ?_
  refine wl_skip rfl ?_
  refine wl_skip rfl ?_
  refine wl_skip rfl ?_
  refine wl_skip rfl ?_
  refine wl_pick (.tmp 6) (.const (.bool true)) (.tmp 14) true (.bool true) (fun _ => rfl) rfl rfl rfl ?_
  refine w_nil ?_
  refine xn_then ?_
  refine w_condT rfl ?_
  refine w_seq ?_
  refine w_reg ?_
  refine wl_mv (.const (.bool false)) (.bool false) (fun _ => rfl) rfl rfl ?_
  refine w_nil ?_
  refine xn_then ?_
  refine w_ret ?_
  refine xr_then ?_
  exact w_ret1 _ (.bool false) rfl rfl ⟨rfl, M⟩
theorem isd_lead (s : ByteArray) (w : World) (h0 : s.toList.isEmpty = false) (hp : 0 < s.size) (h1 : decide ((s.size : Int) > 1) = true) (hz : ((s[0].toNat : Int) == 48) = true) : Calls Try.prog 67 #[.string s] w fun e w' => e = .returned (.bool false) ∧ Mo w w' := by
  refine w_enter 32 Try.func67 Try.ntmps67 rfl rfl ?_
  have M : Mo w w := Mo.refl _
  refine w_seq ?_
  refine w_reg ?_
  refine wl_mv (.const (.bool false)) (.bool false) (fun _ => rfl) rfl rfl ?_
  refine w_nil ?_
  refine xn_then ?_
  refine w_seq ?_
  refine w_seq ?_
  refine w_reg ?_
  refine wl_mv (.tmp 0) (.string s) (fun _ => rfl) rfl rfl ?_
  refine wl_bin (fun x y => do eqGuard .eql 9 (.tmp 4) (.const (.string ⟨#[]⟩)) x y; binOp .eql 9 x y) (.tmp 4) (.const (.string ⟨#[]⟩)) (.string s) (.string ⟨#[]⟩) (.bool false) (fun _ => rfl) rfl rfl (eqe_run h0 _ _ _) rfl ?_
  refine wl_mv (.tmp 5) (.bool false) (fun _ => rfl) rfl rfl ?_
  refine wl_mv (.tmp 0) (.string s) (fun _ => rfl) rfl rfl ?_
  refine wl_val (.int .i64 ((s.size : Int))) (len_run _ _ s rfl _ _ _ _ _ _) rfl ?_
  refine wl_bin (fun x y => do eqGuard .gtr 3 (.tmp 8) (.const (.int .i64 (1))) x y; binOp .gtr 3 x y) (.tmp 8) (.const (.int .i64 (1))) (.int .i64 ((s.size : Int))) (.int .i64 (1)) (.bool true) (fun _ => rfl) rfl rfl (gt3_run h1 _ _ _) rfl ?_
  refine wl_mv (.tmp 9) (.bool true) (fun _ => rfl) rfl rfl ?_
  refine wl_mv (.tmp 0) (.string s) (fun _ => rfl) rfl rfl ?_
  refine wl_bin (fun x y => Instr.index 9 x y) (.tmp 11) (.const (.int .i64 (0))) (.string s) (.int .i64 (0)) (.int .u8 (s[0].toNat : Int)) (fun _ => rfl) rfl rfl (idx_0 s hp _) rfl ?_
  refine wl_bin (fun x y => do eqGuard .eql 5 (.tmp 12) (.const (.int .u8 (48))) x y; binOp .eql 5 x y) (.tmp 12) (.const (.int .u8 (48))) (.int .u8 (s[0].toNat : Int)) (.int .u8 (48)) (.bool true) (fun _ => rfl) rfl rfl (eq5_run hz _ _ _) rfl ?_
  refine wl_pick (.tmp 10) (.tmp 13) (.const (.bool false)) true (.bool true) (fun _ => rfl) rfl rfl rfl ?_
  refine wl_pick (.tmp 6) (.const (.bool true)) (.tmp 14) false (.bool true) (fun _ => rfl) rfl rfl rfl ?_
  refine w_nil ?_
  refine xn_then ?_
  refine w_condT rfl ?_
  refine w_seq ?_
  refine w_reg ?_
  refine wl_mv (.const (.bool false)) (.bool false) (fun _ => rfl) rfl rfl ?_
  refine w_nil ?_
  refine xn_then ?_
  refine w_ret ?_
  refine xr_then ?_
  exact w_ret1 _ (.bool false) rfl rfl ⟨rfl, M⟩
theorem isd_l1 (s : ByteArray) (w : World) [Decidable (isT s)] (hs : s.size ≤ maxLen) (h0 : s.toList.isEmpty = false) (hp : 0 < s.size) (hlead : ¬ (s.size > 1 ∧ (s[0].toNat : Int) = 48)) (h1 : decide ((s.size : Int) > 1) = false) : Calls Try.prog 67 #[.string s] w fun e w' => e = .returned (.bool (decide (isT s))) ∧ Mo w w' := by
  refine w_enter 32 Try.func67 Try.ntmps67 rfl rfl ?_
  have M : Mo w w := Mo.refl _
  refine w_seq ?_
  refine w_reg ?_
  refine wl_mv (.const (.bool false)) (.bool false) (fun _ => rfl) rfl rfl ?_
  refine w_nil ?_
  refine xn_then ?_
  refine w_seq ?_
  refine w_seq ?_
  refine w_reg ?_
  refine wl_mv (.tmp 0) (.string s) (fun _ => rfl) rfl rfl ?_
  refine wl_bin (fun x y => do eqGuard .eql 9 (.tmp 4) (.const (.string ⟨#[]⟩)) x y; binOp .eql 9 x y) (.tmp 4) (.const (.string ⟨#[]⟩)) (.string s) (.string ⟨#[]⟩) (.bool false) (fun _ => rfl) rfl rfl (eqe_run h0 _ _ _) rfl ?_
  refine wl_mv (.tmp 5) (.bool false) (fun _ => rfl) rfl rfl ?_
  refine wl_mv (.tmp 0) (.string s) (fun _ => rfl) rfl rfl ?_
  refine wl_val (.int .i64 ((s.size : Int))) (len_run _ _ s rfl _ _ _ _ _ _) rfl ?_
  refine wl_bin (fun x y => do eqGuard .gtr 3 (.tmp 8) (.const (.int .i64 (1))) x y; binOp .gtr 3 x y) (.tmp 8) (.const (.int .i64 (1))) (.int .i64 ((s.size : Int))) (.int .i64 (1)) (.bool false) (fun _ => rfl) rfl rfl (gt3_run h1 _ _ _) rfl ?_
  refine wl_mv (.tmp 9) (.bool false) (fun _ => rfl) rfl rfl ?_
  refine wl_skip rfl ?_
  refine wl_skip rfl ?_
  refine wl_skip rfl ?_
  refine wl_pick (.tmp 10) (.tmp 13) (.const (.bool false)) false (.bool false) (fun _ => rfl) rfl rfl rfl ?_
  refine wl_pick (.tmp 6) (.const (.bool true)) (.tmp 14) false (.bool false) (fun _ => rfl) rfl rfl rfl ?_
  refine w_nil ?_
  refine xn_then ?_
  refine w_condF rfl ?_
  refine w_skip ?_
  refine xn_then ?_
  refine w_seq ?_
  refine w_seq ?_
  refine w_reg ?_
  refine wl_mv (.tmp 0) (.string s) (fun _ => rfl) rfl rfl ?_
  refine wl_val (.int .i64 ((s.size : Int))) (len_run _ _ s rfl _ _ _ _ _ _) rfl ?_
  refine wl_mv (.const (.int .i64 (0))) (.int .i64 (0)) (fun _ => rfl) rfl rfl ?_
  refine w_nil ?_
  refine xn_then ?_
  refine w_block ?_
  refine w_loop (fun m l w1 => ∃ k : Nat, k + m = s.size ∧ look l 0 = .string s ∧ look l 17 = .int .i64 (s.size : Int) ∧ look l 18 = .int .i64 (k : Int) ∧ dgs s k ∧ Mo w w1) s.size ⟨0, by omega, rfl, rfl, rfl, fun j _ h => absurd h (Nat.not_lt_zero _), M⟩ ?_
  clear M
  rintro m l wl ⟨k, hk, e0, e17, e18, hd, M⟩
  by_cases hlt : k < s.size
  · have hl : decide ((k : Int) < (s.size : Int)) = true := decide_eq_true (by omega)
    cases ha : decide ((s[k].toNat : Int) < 48) with
    | true =>
      refine w_seq ?_
      refine w_reg ?_
      refine wl_bin (fun x y => do eqGuard .lss 3 (.tmp 18) (.tmp 17) x y; binOp .lss 3 x y) (.tmp 18) (.tmp 17) (.int .i64 ((k : Int))) (.int .i64 ((s.size : Int))) (.bool true) (fun _ => rfl) e18 e17 (lt3_run hl _ _ _) rfl ?_
      refine w_nil ?_
      refine xn_then ?_
      refine w_seq ?_
      refine w_condT rfl ?_
      refine w_skip ?_
      refine xn_then ?_
      refine w_seq ?_
      refine w_block ?_
      refine w_seq ?_
      refine w_reg ?_
      refine wl_mv (.tmp 18) (.int .i64 ((k : Int))) (fun _ => rfl) e18 rfl ?_
      refine wl_mv (.tmp 20) (.int .i64 ((k : Int))) (fun _ => rfl) rfl rfl ?_
      refine w_nil ?_
      refine xn_then ?_
      refine w_seq ?_
      refine w_reg ?_
      refine wl_mv (.tmp 0) (.string s) (fun _ => rfl) e0 rfl ?_
      refine wl_mv (.tmp 3) (.int .i64 ((k : Int))) (fun _ => rfl) rfl rfl ?_
      refine wl_bin (fun x y => Instr.index 9 x y) (.tmp 21) (.tmp 22) (.string s) (.int .i64 ((k : Int))) (.int .u8 (s[k].toNat : Int)) (fun _ => rfl) rfl rfl (idx_s s k hlt _) rfl ?_
      refine wl_bin (fun x y => do eqGuard .lss 5 (.tmp 23) (.const (.int .u8 (48))) x y; binOp .lss 5 x y) (.tmp 23) (.const (.int .u8 (48))) (.int .u8 (s[k].toNat : Int)) (.int .u8 (48)) (.bool true) (fun _ => rfl) rfl rfl (ls5 ha _ _ _) rfl ?_
      refine wl_mv (.tmp 24) (.bool true) (fun _ => rfl) rfl rfl ?_
      refine wl_skip rfl ?_
      refine wl_skip rfl ?_
      refine wl_skip rfl ?_
      refine wl_skip rfl ?_
      refine wl_pick (.tmp 25) (.const (.bool true)) (.tmp 29) true (.bool true) (fun _ => rfl) rfl rfl rfl ?_
      refine w_nil ?_
      refine xn_then ?_
      refine w_condT rfl ?_
      refine w_seq ?_
      refine w_reg ?_
      refine wl_mv (.const (.bool false)) (.bool false) (fun _ => rfl) rfl rfl ?_
      refine w_nil ?_
      refine xn_then ?_
      refine w_ret ?_
      refine xr_blk ?_
      refine xr_then ?_
      refine xr_then ?_
      refine xr_blk ?_
      refine xr_then ?_
      exact w_ret1 _ (.bool false) rfl rfl ⟨by rw [decide_eq_false (fun hT : isT s => by obtain ⟨_, _, h3⟩ := hT; have := h3 k hlt hlt; have := of_decide_eq_true ha; omega)], M⟩
    | false =>
      cases hb : decide ((s[k].toNat : Int) > 57) with
      | true =>
        refine w_seq ?_
        refine w_reg ?_
        refine wl_bin (fun x y => do eqGuard .lss 3 (.tmp 18) (.tmp 17) x y; binOp .lss 3 x y) (.tmp 18) (.tmp 17) (.int .i64 ((k : Int))) (.int .i64 ((s.size : Int))) (.bool true) (fun _ => rfl) e18 e17 (lt3_run hl _ _ _) rfl ?_
        refine w_nil ?_
        refine xn_then ?_
        refine w_seq ?_
        refine w_condT rfl ?_
        refine w_skip ?_
        refine xn_then ?_
        refine w_seq ?_
        refine w_block ?_
        refine w_seq ?_
        refine w_reg ?_
        refine wl_mv (.tmp 18) (.int .i64 ((k : Int))) (fun _ => rfl) e18 rfl ?_
        refine wl_mv (.tmp 20) (.int .i64 ((k : Int))) (fun _ => rfl) rfl rfl ?_
        refine w_nil ?_
        refine xn_then ?_
        refine w_seq ?_
        refine w_reg ?_
        refine wl_mv (.tmp 0) (.string s) (fun _ => rfl) e0 rfl ?_
        refine wl_mv (.tmp 3) (.int .i64 ((k : Int))) (fun _ => rfl) rfl rfl ?_
        refine wl_bin (fun x y => Instr.index 9 x y) (.tmp 21) (.tmp 22) (.string s) (.int .i64 ((k : Int))) (.int .u8 (s[k].toNat : Int)) (fun _ => rfl) rfl rfl (idx_s s k hlt _) rfl ?_
        refine wl_bin (fun x y => do eqGuard .lss 5 (.tmp 23) (.const (.int .u8 (48))) x y; binOp .lss 5 x y) (.tmp 23) (.const (.int .u8 (48))) (.int .u8 (s[k].toNat : Int)) (.int .u8 (48)) (.bool false) (fun _ => rfl) rfl rfl (ls5 ha _ _ _) rfl ?_
        refine wl_mv (.tmp 24) (.bool false) (fun _ => rfl) rfl rfl ?_
        refine wl_mv (.tmp 0) (.string s) (fun _ => rfl) e0 rfl ?_
        refine wl_mv (.tmp 3) (.int .i64 ((k : Int))) (fun _ => rfl) rfl rfl ?_
        refine wl_bin (fun x y => Instr.index 9 x y) (.tmp 26) (.tmp 27) (.string s) (.int .i64 ((k : Int))) (.int .u8 (s[k].toNat : Int)) (fun _ => rfl) rfl rfl (idx_s s k hlt _) rfl ?_
        refine wl_bin (fun x y => do eqGuard .gtr 5 (.tmp 28) (.const (.int .u8 (57))) x y; binOp .gtr 5 x y) (.tmp 28) (.const (.int .u8 (57))) (.int .u8 (s[k].toNat : Int)) (.int .u8 (57)) (.bool true) (fun _ => rfl) rfl rfl (gt5_run hb _ _ _) rfl ?_
        refine wl_pick (.tmp 25) (.const (.bool true)) (.tmp 29) false (.bool true) (fun _ => rfl) rfl rfl rfl ?_
        refine w_nil ?_
        refine xn_then ?_
        refine w_condT rfl ?_
        refine w_seq ?_
        refine w_reg ?_
        refine wl_mv (.const (.bool false)) (.bool false) (fun _ => rfl) rfl rfl ?_
        refine w_nil ?_
        refine xn_then ?_
        refine w_ret ?_
        refine xr_blk ?_
        refine xr_then ?_
        refine xr_then ?_
        refine xr_blk ?_
        refine xr_then ?_
        exact w_ret1 _ (.bool false) rfl rfl ⟨by rw [decide_eq_false (fun hT : isT s => by obtain ⟨_, _, h3⟩ := hT; have := h3 k hlt hlt; have := of_decide_eq_true hb; omega)], M⟩
      | false =>
        refine w_seq ?_
        refine w_reg ?_
        refine wl_bin (fun x y => do eqGuard .lss 3 (.tmp 18) (.tmp 17) x y; binOp .lss 3 x y) (.tmp 18) (.tmp 17) (.int .i64 ((k : Int))) (.int .i64 ((s.size : Int))) (.bool true) (fun _ => rfl) e18 e17 (lt3_run hl _ _ _) rfl ?_
        refine w_nil ?_
        refine xn_then ?_
        refine w_seq ?_
        refine w_condT rfl ?_
        refine w_skip ?_
        refine xn_then ?_
        refine w_seq ?_
        refine w_block ?_
        refine w_seq ?_
        refine w_reg ?_
        refine wl_mv (.tmp 18) (.int .i64 ((k : Int))) (fun _ => rfl) e18 rfl ?_
        refine wl_mv (.tmp 20) (.int .i64 ((k : Int))) (fun _ => rfl) rfl rfl ?_
        refine w_nil ?_
        refine xn_then ?_
        refine w_seq ?_
        refine w_reg ?_
        refine wl_mv (.tmp 0) (.string s) (fun _ => rfl) e0 rfl ?_
        refine wl_mv (.tmp 3) (.int .i64 ((k : Int))) (fun _ => rfl) rfl rfl ?_
        refine wl_bin (fun x y => Instr.index 9 x y) (.tmp 21) (.tmp 22) (.string s) (.int .i64 ((k : Int))) (.int .u8 (s[k].toNat : Int)) (fun _ => rfl) rfl rfl (idx_s s k hlt _) rfl ?_
        refine wl_bin (fun x y => do eqGuard .lss 5 (.tmp 23) (.const (.int .u8 (48))) x y; binOp .lss 5 x y) (.tmp 23) (.const (.int .u8 (48))) (.int .u8 (s[k].toNat : Int)) (.int .u8 (48)) (.bool false) (fun _ => rfl) rfl rfl (ls5 ha _ _ _) rfl ?_
        refine wl_mv (.tmp 24) (.bool false) (fun _ => rfl) rfl rfl ?_
        refine wl_mv (.tmp 0) (.string s) (fun _ => rfl) e0 rfl ?_
        refine wl_mv (.tmp 3) (.int .i64 ((k : Int))) (fun _ => rfl) rfl rfl ?_
        refine wl_bin (fun x y => Instr.index 9 x y) (.tmp 26) (.tmp 27) (.string s) (.int .i64 ((k : Int))) (.int .u8 (s[k].toNat : Int)) (fun _ => rfl) rfl rfl (idx_s s k hlt _) rfl ?_
        refine wl_bin (fun x y => do eqGuard .gtr 5 (.tmp 28) (.const (.int .u8 (57))) x y; binOp .gtr 5 x y) (.tmp 28) (.const (.int .u8 (57))) (.int .u8 (s[k].toNat : Int)) (.int .u8 (57)) (.bool false) (fun _ => rfl) rfl rfl (gt5_run hb _ _ _) rfl ?_
        refine wl_pick (.tmp 25) (.const (.bool true)) (.tmp 29) false (.bool false) (fun _ => rfl) rfl rfl rfl ?_
        refine w_nil ?_
        refine xn_then ?_
        refine w_condF rfl ?_
        refine w_skip ?_
        refine xn_blk ?_
        refine xn_then ?_
        refine w_reg ?_
        refine wl_bin (fun x y => do eqGuard .add 3 (.tmp 18) (.const (.int .i64 (1))) x y; binOp .add 3 x y) (.tmp 18) (.const (.int .i64 (1))) (.int .i64 ((k : Int))) (.int .i64 (1)) (.int .i64 (((k + 1 : Nat) : Int))) (fun _ => rfl) e18 rfl (add1_run (by unfold maxLen at hs; omega) _ _ _) rfl ?_
        refine wl_mv (.tmp 31) (.int .i64 (((k + 1 : Nat) : Int))) (fun _ => rfl) rfl rfl ?_
        refine w_nil ?_
        exact xn_loop (s.size - (k + 1)) (by omega) ⟨k + 1, by omega, e0, e17, rfl, dgs_succ hlt hd (by have := of_decide_eq_false ha; omega) (by have := of_decide_eq_false hb; omega), M⟩
  · have hl : decide ((k : Int) < (s.size : Int)) = false := decide_eq_false (by omega)
    refine w_seq ?_
    refine w_reg ?_
    refine wl_bin (fun x y => do eqGuard .lss 3 (.tmp 18) (.tmp 17) x y; binOp .lss 3 x y) (.tmp 18) (.tmp 17) (.int .i64 ((k : Int))) (.int .i64 ((s.size : Int))) (.bool false) (fun _ => rfl) e18 e17 (lt3_run hl _ _ _) rfl ?_
    refine w_nil ?_
    refine xn_then ?_
    refine w_seq ?_
    refine w_condF rfl ?_
    refine w_exit ?_
    refine xx_then ?_
    refine xx_then ?_
    refine xx_blk ?_
    refine xn_then ?_
    refine w_seq ?_
    refine w_reg ?_
    refine wl_mv (.const (.bool true)) (.bool true) (fun _ => rfl) rfl rfl ?_
    refine w_nil ?_
    refine xn_then ?_
    refine w_ret ?_
    exact w_ret1 _ (.bool true) rfl rfl ⟨by rw [decide_eq_true (isT_mk hp hlead (by omega) hd)], M⟩
theorem isd_l2 (s : ByteArray) (w : World) [Decidable (isT s)] (hs : s.size ≤ maxLen) (h0 : s.toList.isEmpty = false) (hp : 0 < s.size) (hlead : ¬ (s.size > 1 ∧ (s[0].toNat : Int) = 48)) (h1 : decide ((s.size : Int) > 1) = true) (hz : ((s[0].toNat : Int) == 48) = false) : Calls Try.prog 67 #[.string s] w fun e w' => e = .returned (.bool (decide (isT s))) ∧ Mo w w' := by
  refine w_enter 32 Try.func67 Try.ntmps67 rfl rfl ?_
  have M : Mo w w := Mo.refl _
  refine w_seq ?_
  refine w_reg ?_
  refine wl_mv (.const (.bool false)) (.bool false) (fun _ => rfl) rfl rfl ?_
  refine w_nil ?_
  refine xn_then ?_
  refine w_seq ?_
  refine w_seq ?_
  refine w_reg ?_
  refine wl_mv (.tmp 0) (.string s) (fun _ => rfl) rfl rfl ?_
  refine wl_bin (fun x y => do eqGuard .eql 9 (.tmp 4) (.const (.string ⟨#[]⟩)) x y; binOp .eql 9 x y) (.tmp 4) (.const (.string ⟨#[]⟩)) (.string s) (.string ⟨#[]⟩) (.bool false) (fun _ => rfl) rfl rfl (eqe_run h0 _ _ _) rfl ?_
  refine wl_mv (.tmp 5) (.bool false) (fun _ => rfl) rfl rfl ?_
  refine wl_mv (.tmp 0) (.string s) (fun _ => rfl) rfl rfl ?_
  refine wl_val (.int .i64 ((s.size : Int))) (len_run _ _ s rfl _ _ _ _ _ _) rfl ?_
  refine wl_bin (fun x y => do eqGuard .gtr 3 (.tmp 8) (.const (.int .i64 (1))) x y; binOp .gtr 3 x y) (.tmp 8) (.const (.int .i64 (1))) (.int .i64 ((s.size : Int))) (.int .i64 (1)) (.bool true) (fun _ => rfl) rfl rfl (gt3_run h1 _ _ _) rfl ?_
  refine wl_mv (.tmp 9) (.bool true) (fun _ => rfl) rfl rfl ?_
  refine wl_mv (.tmp 0) (.string s) (fun _ => rfl) rfl rfl ?_
  refine wl_bin (fun x y => Instr.index 9 x y) (.tmp 11) (.const (.int .i64 (0))) (.string s) (.int .i64 (0)) (.int .u8 (s[0].toNat : Int)) (fun _ => rfl) rfl rfl (idx_0 s hp _) rfl ?_
  refine wl_bin (fun x y => do eqGuard .eql 5 (.tmp 12) (.const (.int .u8 (48))) x y; binOp .eql 5 x y) (.tmp 12) (.const (.int .u8 (48))) (.int .u8 (s[0].toNat : Int)) (.int .u8 (48)) (.bool false) (fun _ => rfl) rfl rfl (eq5_run hz _ _ _) rfl ?_
  refine wl_pick (.tmp 10) (.tmp 13) (.const (.bool false)) true (.bool false) (fun _ => rfl) rfl rfl rfl ?_
  refine wl_pick (.tmp 6) (.const (.bool true)) (.tmp 14) false (.bool false) (fun _ => rfl) rfl rfl rfl ?_
  refine w_nil ?_
  refine xn_then ?_
  refine w_condF rfl ?_
  refine w_skip ?_
  refine xn_then ?_
  refine w_seq ?_
  refine w_seq ?_
  refine w_reg ?_
  refine wl_mv (.tmp 0) (.string s) (fun _ => rfl) rfl rfl ?_
  refine wl_val (.int .i64 ((s.size : Int))) (len_run _ _ s rfl _ _ _ _ _ _) rfl ?_
  refine wl_mv (.const (.int .i64 (0))) (.int .i64 (0)) (fun _ => rfl) rfl rfl ?_
  refine w_nil ?_
  refine xn_then ?_
  refine w_block ?_
  refine w_loop (fun m l w1 => ∃ k : Nat, k + m = s.size ∧ look l 0 = .string s ∧ look l 17 = .int .i64 (s.size : Int) ∧ look l 18 = .int .i64 (k : Int) ∧ dgs s k ∧ Mo w w1) s.size ⟨0, by omega, rfl, rfl, rfl, fun j _ h => absurd h (Nat.not_lt_zero _), M⟩ ?_
  clear M
  rintro m l wl ⟨k, hk, e0, e17, e18, hd, M⟩
  by_cases hlt : k < s.size
  · have hl : decide ((k : Int) < (s.size : Int)) = true := decide_eq_true (by omega)
    cases ha : decide ((s[k].toNat : Int) < 48) with
    | true =>
      refine w_seq ?_
      refine w_reg ?_
      refine wl_bin (fun x y => do eqGuard .lss 3 (.tmp 18) (.tmp 17) x y; binOp .lss 3 x y) (.tmp 18) (.tmp 17) (.int .i64 ((k : Int))) (.int .i64 ((s.size : Int))) (.bool true) (fun _ => rfl) e18 e17 (lt3_run hl _ _ _) rfl ?_
      refine w_nil ?_
      refine xn_then ?_
      refine w_seq ?_
      refine w_condT rfl ?_
      refine w_skip ?_
      refine xn_then ?_
      refine w_seq ?_
      refine w_block ?_
      refine w_seq ?_
      refine w_reg ?_
      refine wl_mv (.tmp 18) (.int .i64 ((k : Int))) (fun _ => rfl) e18 rfl ?_
      refine wl_mv (.tmp 20) (.int .i64 ((k : Int))) (fun _ => rfl) rfl rfl ?_
      refine w_nil ?_
      refine xn_then ?_
      refine w_seq ?_
      refine w_reg ?_
      refine wl_mv (.tmp 0) (.string s) (fun _ => rfl) e0 rfl ?_
      refine wl_mv (.tmp 3) (.int .i64 ((k : Int))) (fun _ => rfl) rfl rfl ?_
      refine wl_bin (fun x y => Instr.index 9 x y) (.tmp 21) (.tmp 22) (.string s) (.int .i64 ((k : Int))) (.int .u8 (s[k].toNat : Int)) (fun _ => rfl) rfl rfl (idx_s s k hlt _) rfl ?_
      refine wl_bin (fun x y => do eqGuard .lss 5 (.tmp 23) (.const (.int .u8 (48))) x y; binOp .lss 5 x y) (.tmp 23) (.const (.int .u8 (48))) (.int .u8 (s[k].toNat : Int)) (.int .u8 (48)) (.bool true) (fun _ => rfl) rfl rfl (ls5 ha _ _ _) rfl ?_
      refine wl_mv (.tmp 24) (.bool true) (fun _ => rfl) rfl rfl ?_
      refine wl_skip rfl ?_
      refine wl_skip rfl ?_
      refine wl_skip rfl ?_
      refine wl_skip rfl ?_
      refine wl_pick (.tmp 25) (.const (.bool true)) (.tmp 29) true (.bool true) (fun _ => rfl) rfl rfl rfl ?_
      refine w_nil ?_
      refine xn_then ?_
      refine w_condT rfl ?_
      refine w_seq ?_
      refine w_reg ?_
      refine wl_mv (.const (.bool false)) (.bool false) (fun _ => rfl) rfl rfl ?_
      refine w_nil ?_
      refine xn_then ?_
      refine w_ret ?_
      refine xr_blk ?_
      refine xr_then ?_
      refine xr_then ?_
      refine xr_blk ?_
      refine xr_then ?_
      exact w_ret1 _ (.bool false) rfl rfl ⟨by rw [decide_eq_false (fun hT : isT s => by obtain ⟨_, _, h3⟩ := hT; have := h3 k hlt hlt; have := of_decide_eq_true ha; omega)], M⟩
    | false =>
      cases hb : decide ((s[k].toNat : Int) > 57) with
      | true =>
        refine w_seq ?_
        refine w_reg ?_
        refine wl_bin (fun x y => do eqGuard .lss 3 (.tmp 18) (.tmp 17) x y; binOp .lss 3 x y) (.tmp 18) (.tmp 17) (.int .i64 ((k : Int))) (.int .i64 ((s.size : Int))) (.bool true) (fun _ => rfl) e18 e17 (lt3_run hl _ _ _) rfl ?_
        refine w_nil ?_
        refine xn_then ?_
        refine w_seq ?_
        refine w_condT rfl ?_
        refine w_skip ?_
        refine xn_then ?_
        refine w_seq ?_
        refine w_block ?_
        refine w_seq ?_
        refine w_reg ?_
        refine wl_mv (.tmp 18) (.int .i64 ((k : Int))) (fun _ => rfl) e18 rfl ?_
        refine wl_mv (.tmp 20) (.int .i64 ((k : Int))) (fun _ => rfl) rfl rfl ?_
        refine w_nil ?_
        refine xn_then ?_
        refine w_seq ?_
        refine w_reg ?_
        refine wl_mv (.tmp 0) (.string s) (fun _ => rfl) e0 rfl ?_
        refine wl_mv (.tmp 3) (.int .i64 ((k : Int))) (fun _ => rfl) rfl rfl ?_
        refine wl_bin (fun x y => Instr.index 9 x y) (.tmp 21) (.tmp 22) (.string s) (.int .i64 ((k : Int))) (.int .u8 (s[k].toNat : Int)) (fun _ => rfl) rfl rfl (idx_s s k hlt _) rfl ?_
        refine wl_bin (fun x y => do eqGuard .lss 5 (.tmp 23) (.const (.int .u8 (48))) x y; binOp .lss 5 x y) (.tmp 23) (.const (.int .u8 (48))) (.int .u8 (s[k].toNat : Int)) (.int .u8 (48)) (.bool false) (fun _ => rfl) rfl rfl (ls5 ha _ _ _) rfl ?_
        refine wl_mv (.tmp 24) (.bool false) (fun _ => rfl) rfl rfl ?_
        refine wl_mv (.tmp 0) (.string s) (fun _ => rfl) e0 rfl ?_
        refine wl_mv (.tmp 3) (.int .i64 ((k : Int))) (fun _ => rfl) rfl rfl ?_
        refine wl_bin (fun x y => Instr.index 9 x y) (.tmp 26) (.tmp 27) (.string s) (.int .i64 ((k : Int))) (.int .u8 (s[k].toNat : Int)) (fun _ => rfl) rfl rfl (idx_s s k hlt _) rfl ?_
        refine wl_bin (fun x y => do eqGuard .gtr 5 (.tmp 28) (.const (.int .u8 (57))) x y; binOp .gtr 5 x y) (.tmp 28) (.const (.int .u8 (57))) (.int .u8 (s[k].toNat : Int)) (.int .u8 (57)) (.bool true) (fun _ => rfl) rfl rfl (gt5_run hb _ _ _) rfl ?_
        refine wl_pick (.tmp 25) (.const (.bool true)) (.tmp 29) false (.bool true) (fun _ => rfl) rfl rfl rfl ?_
        refine w_nil ?_
        refine xn_then ?_
        refine w_condT rfl ?_
        refine w_seq ?_
        refine w_reg ?_
        refine wl_mv (.const (.bool false)) (.bool false) (fun _ => rfl) rfl rfl ?_
        refine w_nil ?_
        refine xn_then ?_
        refine w_ret ?_
        refine xr_blk ?_
        refine xr_then ?_
        refine xr_then ?_
        refine xr_blk ?_
        refine xr_then ?_
        exact w_ret1 _ (.bool false) rfl rfl ⟨by rw [decide_eq_false (fun hT : isT s => by obtain ⟨_, _, h3⟩ := hT; have := h3 k hlt hlt; have := of_decide_eq_true hb; omega)], M⟩
      | false =>
        refine w_seq ?_
        refine w_reg ?_
        refine wl_bin (fun x y => do eqGuard .lss 3 (.tmp 18) (.tmp 17) x y; binOp .lss 3 x y) (.tmp 18) (.tmp 17) (.int .i64 ((k : Int))) (.int .i64 ((s.size : Int))) (.bool true) (fun _ => rfl) e18 e17 (lt3_run hl _ _ _) rfl ?_
        refine w_nil ?_
        refine xn_then ?_
        refine w_seq ?_
        refine w_condT rfl ?_
        refine w_skip ?_
        refine xn_then ?_
        refine w_seq ?_
        refine w_block ?_
        refine w_seq ?_
        refine w_reg ?_
        refine wl_mv (.tmp 18) (.int .i64 ((k : Int))) (fun _ => rfl) e18 rfl ?_
        refine wl_mv (.tmp 20) (.int .i64 ((k : Int))) (fun _ => rfl) rfl rfl ?_
        refine w_nil ?_
        refine xn_then ?_
        refine w_seq ?_
        refine w_reg ?_
        refine wl_mv (.tmp 0) (.string s) (fun _ => rfl) e0 rfl ?_
        refine wl_mv (.tmp 3) (.int .i64 ((k : Int))) (fun _ => rfl) rfl rfl ?_
        refine wl_bin (fun x y => Instr.index 9 x y) (.tmp 21) (.tmp 22) (.string s) (.int .i64 ((k : Int))) (.int .u8 (s[k].toNat : Int)) (fun _ => rfl) rfl rfl (idx_s s k hlt _) rfl ?_
        refine wl_bin (fun x y => do eqGuard .lss 5 (.tmp 23) (.const (.int .u8 (48))) x y; binOp .lss 5 x y) (.tmp 23) (.const (.int .u8 (48))) (.int .u8 (s[k].toNat : Int)) (.int .u8 (48)) (.bool false) (fun _ => rfl) rfl rfl (ls5 ha _ _ _) rfl ?_
        refine wl_mv (.tmp 24) (.bool false) (fun _ => rfl) rfl rfl ?_
        refine wl_mv (.tmp 0) (.string s) (fun _ => rfl) e0 rfl ?_
        refine wl_mv (.tmp 3) (.int .i64 ((k : Int))) (fun _ => rfl) rfl rfl ?_
        refine wl_bin (fun x y => Instr.index 9 x y) (.tmp 26) (.tmp 27) (.string s) (.int .i64 ((k : Int))) (.int .u8 (s[k].toNat : Int)) (fun _ => rfl) rfl rfl (idx_s s k hlt _) rfl ?_
        refine wl_bin (fun x y => do eqGuard .gtr 5 (.tmp 28) (.const (.int .u8 (57))) x y; binOp .gtr 5 x y) (.tmp 28) (.const (.int .u8 (57))) (.int .u8 (s[k].toNat : Int)) (.int .u8 (57)) (.bool false) (fun _ => rfl) rfl rfl (gt5_run hb _ _ _) rfl ?_
        refine wl_pick (.tmp 25) (.const (.bool true)) (.tmp 29) false (.bool false) (fun _ => rfl) rfl rfl rfl ?_
        refine w_nil ?_
        refine xn_then ?_
        refine w_condF rfl ?_
        refine w_skip ?_
        refine xn_blk ?_
        refine xn_then ?_
        refine w_reg ?_
        refine wl_bin (fun x y => do eqGuard .add 3 (.tmp 18) (.const (.int .i64 (1))) x y; binOp .add 3 x y) (.tmp 18) (.const (.int .i64 (1))) (.int .i64 ((k : Int))) (.int .i64 (1)) (.int .i64 (((k + 1 : Nat) : Int))) (fun _ => rfl) e18 rfl (add1_run (by unfold maxLen at hs; omega) _ _ _) rfl ?_
        refine wl_mv (.tmp 31) (.int .i64 (((k + 1 : Nat) : Int))) (fun _ => rfl) rfl rfl ?_
        refine w_nil ?_
        exact xn_loop (s.size - (k + 1)) (by omega) ⟨k + 1, by omega, e0, e17, rfl, dgs_succ hlt hd (by have := of_decide_eq_false ha; omega) (by have := of_decide_eq_false hb; omega), M⟩
  · have hl : decide ((k : Int) < (s.size : Int)) = false := decide_eq_false (by omega)
    refine w_seq ?_
    refine w_reg ?_
    refine wl_bin (fun x y => do eqGuard .lss 3 (.tmp 18) (.tmp 17) x y; binOp .lss 3 x y) (.tmp 18) (.tmp 17) (.int .i64 ((k : Int))) (.int .i64 ((s.size : Int))) (.bool false) (fun _ => rfl) e18 e17 (lt3_run hl _ _ _) rfl ?_
    refine w_nil ?_
    refine xn_then ?_
    refine w_seq ?_
    refine w_condF rfl ?_
    refine w_exit ?_
    refine xx_then ?_
    refine xx_then ?_
    refine xx_blk ?_
    refine xn_then ?_
    refine w_seq ?_
    refine w_reg ?_
    refine wl_mv (.const (.bool true)) (.bool true) (fun _ => rfl) rfl rfl ?_
    refine w_nil ?_
    refine xn_then ?_
    refine w_ret ?_
    exact w_ret1 _ (.bool true) rfl rfl ⟨by rw [decide_eq_true (isT_mk hp hlead (by omega) hd)], M⟩
theorem isd_n (s : ByteArray) (w : World) [Decidable (isT s)] (hs : s.size ≤ maxLen) : Calls Try.prog 67 #[.string s] w fun e w' => e = .returned (.bool (decide (isT s))) ∧ Mo w w' := by
  by_cases hp : 0 < s.size
  · have h0 : s.toList.isEmpty = false := by rw [emp_iff]; exact decide_eq_false (by omega)
    cases h1 : decide ((s.size : Int) > 1) with
    | false => exact isd_l1 s w hs h0 hp (fun h => by have := of_decide_eq_false h1; omega) h1
    | true =>
      cases hz : ((s[0].toNat : Int) == 48) with
      | false => exact isd_l2 s w hs h0 hp (fun h => by rw [h.2] at hz; simp at hz) h1 hz
      | true =>
        rw [decide_eq_false (fun hT : isT s => by obtain ⟨_, h, _⟩ := hT; exact h ⟨by have := of_decide_eq_true h1; omega, by simpa using hz⟩)]
        exact isd_lead s w h0 hp h1 hz
  · rw [decide_eq_false (fun hT : isT s => by obtain ⟨h, _⟩ := hT; exact hp h)]
    exact isd_emp s w (by rw [emp_iff]; exact decide_eq_true (by omega))
end Go.Proofs.Ytoiiekmkcpcbgaa
/-
  Texts: Parse, the program's and the document's, at every text.
-/
namespace Go.Proofs.Ytoiiekmkcpcbgaa
open Go.RowKit
/-- What the first k digits say. -/
def pvk (s : ByteArray) (k : Nat) : Int := pv (s.data.toList.take k)
theorem pvk_z (s : ByteArray) : pvk s 0 = 0 := by unfold pvk pv; simp
theorem pvk_succ (s : ByteArray) (k : Nat) (h : k < s.size) : pvk s (k + 1) = pvk s k * 10 + ((s[k].toNat : Int) - 48) := by
  unfold pvk; rw [take_snoc' s k h, pv_snoc]
theorem pvk_nn {s : ByteArray} (hd : dgs s s.size) : ∀ k, k ≤ s.size → 0 ≤ pvk s k
  | 0, _ => by unfold pvk pv; simp
  | k + 1, h => by
    rw [pvk_succ s k (by omega)]
    have := pvk_nn hd k (by omega)
    have := hd k (by omega) (by omega)
    omega
theorem pvk_le {s : ByteArray} (hd : dgs s s.size) : ∀ d k, k + d = s.size → pvk s k ≤ pvk s s.size
  | 0, k, h => by rw [show k = s.size by omega]; exact Int.le_refl _
  | d + 1, k, h => by
    have a := pvk_le hd d (k + 1) (by omega)
    rw [pvk_succ s k (by omega)] at a
    have := pvk_nn hd k (by omega)
    have := hd k (by omega) (by omega)
    omega
/-- A number and an error. -/
abbrev ez (e : Int) : Value := .tuple #[.agg #[.int .u64 0, .int .u64 0, .int .u64 0, .int .u64 0], .int .i64 e]
/-- What a text of digits says. -/
def resP (s : ByteArray) : Value := if pvk s s.size < MM then .tuple #[nv (pvk s s.size), .int .i64 0] else ez 7
theorem resP_over {s : ByteArray} (hd : dgs s s.size) {k : Nat} (hlt : k < s.size) (h : ¬ pvk s k * 10 + ((s[k].toNat : Int) - 48) < MM) : resP s = ez 7 := by
  unfold resP
  rw [if_neg]
  have a := pvk_le hd (s.size - (k + 1)) (k + 1) (by omega)
  rw [pvk_succ s k hlt] at a
  omega
theorem resP_ok {s : ByteArray} (h : pvk s s.size < MM) : resP s = .tuple #[nv (pvk s s.size), .int .i64 0] := by unfold resP; rw [if_pos h]
theorem subu8_run {c : Int} (h0 : 48 ≤ c) (h1 : c ≤ 57) (x y : Operand) (w : World) : (do eqGuard .sub 5 x y (.int .u8 c) (.int .u8 48); binOp .sub 5 (.int .u8 c) (.int .u8 48)).run Try.prog w = .ok (.int .u8 (c - 48)) w := by
  have e : (do eqGuard .sub 5 x y (.int .u8 c) (.int .u8 48); binOp .sub 5 (.int .u8 c) (.int .u8 48)).run Try.prog w = .ok (.int .u8 (IntKind.u8.wrap (c - 48))) w := by kernel_rfl
  have h : IntKind.u8.wrap (c - 48) = c - 48 := by rw [IntKind.wrap_u8]; omega
  rw [e, h]
theorem cv8_run {c : Int} (h0 : 0 ≤ c) (h1 : c ≤ 57) (w : World) : (convert 5 22 (.int .u8 c)).run Try.prog w = .ok (.int .u64 c) w := by
  have e : (convert 5 22 (.int .u8 c)).run Try.prog w = .ok (.int .u64 (IntKind.u64.wrap c)) w := by kernel_rfl
  have h : IntKind.u64.wrap c = c := by rw [IntKind.wrap_u64]; omega
  rw [e, h]
theorem Ds.one {sp : List Sp} {f : Nat → Value} {w : World} (i : Nat) (h : ∀ q, spNew (spAt sp q) = true → q = i) (h1 : ∀ k, f i = pt k 0 → k < w.heap.size) : Ds sp f w := by
  refine ⟨fun q hq k hk => ?_, fun q r hq hr hne k hk hk2 => ?_⟩
  · rw [h q hq] at hk; exact h1 k hk
  · exact hne ((h q hq).trans (h r hr).symm)
theorem parse_no (s : ByteArray) (w : World) (hi : ∀ w, Calls Try.prog 67 #[.string s] w fun e w' => e = .returned (.bool false) ∧ Mo w w') : Calls Try.prog 20 #[.string s] w fun e w' => e = .returned (ez 10) ∧ Mo w w' := by
  refine w_enter 29 Try.func20 Try.ntmps20 rfl rfl ?_
  have M : Mo w w := Mo.refl _
  refine w_seq ?_
  refine w_reg ?_
  refine wl_alloc 24 #[.int .u64 0, .int .u64 0, .int .u64 0, .int .u64 0] rfl (fun _ => by kernel_rfl) rfl ?_
  intro k1 w1 hk hz hq Q1
  have N_k1 : w.heap.size ≤ k1 := by have := M.size; omega
  replace M := M.trans hq
  clear hk hz hq
  refine wl_mv (.const (.int .i64 (0))) (.int .i64 (0)) (fun _ => rfl) rfl rfl ?_
  refine w_nil ?_
  refine xn_then ?_
  refine w_seq ?_
  refine w_seq ?_
  refine w_reg ?_
  refine wl_mv (.tmp 0) (.string s) (fun _ => rfl) rfl rfl ?_
  refine wl_call 67 [(.tmp 7)] _ [.string s] (.bool false) rfl rfl (fun _ _ => by kernel_rfl) (hi _) rfl ?_
  intro w2 hq
  replace Q1 := Q1.mo hq
  replace M := M.trans hq
  clear hq
  refine wl_un (fun v => Op.unary .not v) (.tmp 8) (.bool false) (.bool true) (fun _ => rfl) rfl (by kernel_rfl) rfl ?_
  refine w_nil ?_
  refine xn_then ?_
  refine w_condT rfl ?_
  refine w_seq ?_
  refine w_reg ?_
  refine wl_build 24 [] [] (.agg #[.int .u64 0, .int .u64 0, .int .u64 0, .int .u64 0]) rfl rfl (by kernel_rfl) rfl ?_
  refine wl_st 24 (.tmp 2) (.tmp 10) k1 0 #[.int .u64 0, .int .u64 0, .int .u64 0, .int .u64 0] [.int .u64 0, .int .u64 0, .int .u64 0, .int .u64 0] [.int .u64 0, .int .u64 0, .int .u64 0, .int .u64 0] Q1 rfl rfl rfl rfl rfl sz24 rfl rfl rfl ?_
  intro w3 hS Qn
  replace Q1 := Qn
  clear Qn
  replace M := hS.mo _ N_k1 M
  clear hS
  refine wl_mv (.const (.int .i64 (10))) (.int .i64 (10)) (fun _ => rfl) rfl rfl ?_
  refine w_nil ?_
  refine xn_then ?_
  refine w_ret ?_
  refine xr_then ?_
  exact w_ret2 _ _ (.agg #[.int .u64 0, .int .u64 0, .int .u64 0, .int .u64 0]) (.int .i64 (10)) rfl ⟨k1, rfl, (run_row Q1 24 0 4 [.int .u64 0, .int .u64 0, .int .u64 0, .int .u64 0] rfl Try.underlying24 rfl sz24)⟩ rfl ⟨rfl, M⟩
theorem apd_c (s : ByteArray) (k : Nat) (w : World) {b : Bool} {h : k < s.size} (h0 : 0 ≤ pvk s k) (hv : pvk s k < MM) (h1 : 48 ≤ (s[k].toNat : Int)) (h2 : (s[k].toNat : Int) ≤ 57) (hf : decide (pvk s k * 10 + ((s[k].toNat : Int) - 48) < MM) = b) : Calls Try.prog 68 #[nv (pvk s k), .int .u8 (s[k].toNat : Int)] w fun e w' => e = .returned (.tuple #[nv (pvk s k * 10 + ((s[k].toNat : Int) - 48)), .bool b]) ∧ Mo w w' := by
  have := apd_any (pvk s k) (s[k].toNat : Int) w h0 hv h1 h2
  unfold fits at this
  rw [hf] at this
  exact this
theorem pvk_eq {s : ByteArray} {k m : Nat} (hk : k + m = s.size) (h : ¬ k < s.size) : pvk s k = pvk s s.size := by rw [show k = s.size by omega]
theorem pvk_end {s : ByteArray} {k m : Nat} (hk : k + m = s.size) (h : ¬ k < s.size) (hv : pvk s k < MM) : pvk s s.size < MM := by rw [← pvk_eq hk h]; exact hv
theorem parse_yes2 (s : ByteArray) (w : World) (hs : s.size ≤ maxLen) (hT : dgs s s.size) (hi : ∀ w, Calls Try.prog 67 #[.string s] w fun e w' => e = .returned (.bool true) ∧ Mo w w') : Calls Try.prog 20 #[.string s] w fun e w' => e = .returned (resP s) ∧ Mo w w' := by
  refine w_enter 29 Try.func20 Try.ntmps20 rfl rfl ?_
  have M : Mo w w := Mo.refl _
  refine w_seq ?_
  refine w_reg ?_
  refine wl_alloc 24 #[.int .u64 0, .int .u64 0, .int .u64 0, .int .u64 0] rfl (fun _ => by kernel_rfl) rfl ?_
  intro k1 w1 hk hz hq Q1
  have N_k1 : w.heap.size ≤ k1 := by have := M.size; omega
  replace M := M.trans hq
  clear hk hz hq
  refine wl_mv (.const (.int .i64 (0))) (.int .i64 (0)) (fun _ => rfl) rfl rfl ?_
  refine w_nil ?_
  refine xn_then ?_
  refine w_seq ?_
  refine w_seq ?_
  refine w_reg ?_
  refine wl_mv (.tmp 0) (.string s) (fun _ => rfl) rfl rfl ?_
  refine wl_call 67 [(.tmp 7)] _ [.string s] (.bool true) rfl rfl (fun _ _ => by kernel_rfl) (hi _) rfl ?_
  intro w2 hq
  replace Q1 := Q1.mo hq
  replace M := M.trans hq
  clear hq
  refine wl_un (fun v => Op.unary .not v) (.tmp 8) (.bool true) (.bool false) (fun _ => rfl) rfl (by kernel_rfl) rfl ?_
  refine w_nil ?_
  refine xn_then ?_
  refine w_condF rfl ?_
  refine w_skip ?_
  refine xn_then ?_
  refine w_seq ?_
  refine w_reg ?_
  refine wl_alloc 24 #[.int .u64 0, .int .u64 0, .int .u64 0, .int .u64 0] rfl (fun _ => by kernel_rfl) rfl ?_
  intro k2 w3 hk hz hq Q2
  have ne_k1_k2 : k1 ≠ k2 := by have := Q1.lt; omega
  have N_k2 : w.heap.size ≤ k2 := by have := M.size; omega
  replace Q1 := Q1.mo hq
  replace M := M.trans hq
  clear hk hz hq
  refine w_nil ?_
  refine xn_then ?_
  refine w_seq ?_
  refine w_seq ?_
  refine w_reg ?_
  refine wl_mv (.tmp 0) (.string s) (fun _ => rfl) rfl rfl ?_
  refine wl_val (.int .i64 ((s.size : Int))) (len_run _ _ s rfl _ _ _ _ _ _) rfl ?_
  refine wl_mv (.const (.int .i64 (0))) (.int .i64 (0)) (fun _ => rfl) rfl rfl ?_
  refine w_nil ?_
  refine xn_then ?_
  refine w_block ?_
  refine w_loop (fun m l w1 => ∃ k : Nat, k + m = s.size ∧ look l 0 = .string s ∧ look l 12 = .int .i64 (s.size : Int) ∧ look l 13 = .int .i64 (k : Int) ∧ look l 2 = pt k1 0 ∧ look l 4 = pt k2 0 ∧ At w1 k1 [.int .u64 0, .int .u64 0, .int .u64 0, .int .u64 0] ∧ At w1 k2 (nvli (pvk s k)) ∧ pvk s k < MM ∧ Mo w w1) s.size ⟨0, by omega, rfl, rfl, rfl, rfl, rfl, Q1, Q2, by rw [pvk_z]; decide, M⟩ ?_
  clear M Q1 Q2
  rintro m l wl ⟨k, hk, e0, e12, e13, e2, e4, Q1, Q2, hv, M⟩
  have hv0 := pvk_nn hT k (by omega)
  by_cases hlt : k < s.size
  · have hl : decide ((k : Int) < (s.size : Int)) = true := decide_eq_true (by omega)
    have hc := hT k hlt hlt
    cases hf : decide (pvk s k * 10 + ((s[k].toNat : Int) - 48) < MM) with
    | true =>
      refine w_seq ?_
      refine w_reg ?_
      refine wl_bin (fun x y => do eqGuard .lss 3 (.tmp 13) (.tmp 12) x y; binOp .lss 3 x y) (.tmp 13) (.tmp 12) (.int .i64 ((k : Int))) (.int .i64 ((s.size : Int))) (.bool true) (fun _ => rfl) e13 e12 (lt3_run hl _ _ _) rfl ?_
      refine w_nil ?_
      refine xn_then ?_
      refine w_seq ?_
      refine w_condT rfl ?_
      refine w_skip ?_
      refine xn_then ?_
      refine w_seq ?_
      refine w_block ?_
      refine w_seq ?_
      refine w_reg ?_
      refine wl_mv (.tmp 13) (.int .i64 ((k : Int))) (fun _ => rfl) e13 rfl ?_
      refine wl_mv (.tmp 15) (.int .i64 ((k : Int))) (fun _ => rfl) rfl rfl ?_
      refine w_nil ?_
      refine xn_then ?_
      refine w_seq ?_
      refine w_reg ?_
      refine wl_mv (.const (.bool false)) (.bool false) (fun _ => rfl) rfl rfl ?_
      refine w_nil ?_
      refine xn_then ?_
      refine w_seq ?_
      refine w_any 8 [.inl (nv (pvk s k)), .inl (.string s), .inl (.int .i64 ((k : Int))), .inl (.int .u8 (s[k].toNat : Int)), .inl (.tuple #[nv (pvk s k * 10 + ((s[k].toNat : Int) - 48)), .bool true]), .inl (.tuple #[nv (pvk s k * 10 + ((s[k].toNat : Int) - 48)), .bool true]), .inl (nv (pvk s k * 10 + ((s[k].toNat : Int) - 48))), .inl (.bool true)] [7] (by kernel_rfl) (by kernel_rfl) (by kernel_rfl) (by kernel_rfl) rfl (by kernel_rfl) (by kernel_rfl) (late_cons ⟨_, _, rfl, rfl, fun _ _ _ _ h => h, fun f hd => ⟨rfl, la_un (fun v => Instr.extract v 1) (.tmp 16) (.tuple #[nv (pvk s k * 10 + ((s[k].toNat : Int) - 48)), .bool true]) (.bool true) (fun _ => rfl) (hd 5 rfl _ rfl) (fun w => by kernel_rfl)⟩⟩ late_nil) ?_ ?_ ?_
      · exact Ds.none rfl
      · refine ea_cons ?_ (ea_cons ?_ (ea_cons ?_ (ea_cons ?_ (ea_cons ?_ (ea_cons ?_ (ea_cons ?_ (ea_cons ?_ (ea_nil))))))))
        · exact og_eq (nv (pvk s k)) rfl (fun f wf hq hd K hK => have Q2 := Q2.mo hq; go_run rfl (wo_load 24 (.tmp 4) (pt k2 0) (nv (pvk s k)) rfl e4 (run_row Q2 24 0 4 (nvli (pvk s k)) rfl Try.underlying24 rfl sz24) (hK _ (Mo.refl _))))
        · exact og_eq (.string s) rfl (fun f wf hq hd K hK => go_run rfl (wo_mv (.tmp 0) (.string s) (fun _ => rfl) e0 (hK _ (Mo.refl _))))
        · exact og_eq (.int .i64 ((k : Int))) rfl (fun f wf hq hd K hK => go_run rfl (wo_mv (.tmp 5) (.int .i64 ((k : Int))) (fun _ => rfl) rfl (hK _ (Mo.refl _))))
        · exact og_eq (.int .u8 (s[k].toNat : Int)) rfl (fun f wf hq hd K hK => go_run rfl (wo_bin (fun x y => Instr.index 9 x y) (.tmp 18) (.tmp 19) (.string s) (.int .i64 ((k : Int))) (.int .u8 (s[k].toNat : Int)) (fun _ => rfl) (hd 1 rfl) (hd 2 rfl) (idx_s s k hlt _) (hK _ (Mo.refl _))))
        · exact og_eq (.tuple #[nv (pvk s k * 10 + ((s[k].toNat : Int) - 48)), .bool true]) rfl (fun f wf hq hd K hK => go_run rfl (wo_call 68 [(.tmp 17), (.tmp 20)] _ [nv (pvk s k), .int .u8 (s[k].toNat : Int)] (.tuple #[nv (pvk s k * 10 + ((s[k].toNat : Int) - 48)), .bool true]) rfl (li2 (hd 0 rfl) (hd 3 rfl)) (fun _ _ => by kernel_rfl) (apd_c s k _ hv0 hv hc.1 hc.2 hf) hK))
        · exact og_eq (.tuple #[nv (pvk s k * 10 + ((s[k].toNat : Int) - 48)), .bool true]) rfl (fun f wf hq hd K hK => go_run rfl (wo_mv (.tmp 21) (.tuple #[nv (pvk s k * 10 + ((s[k].toNat : Int) - 48)), .bool true]) (fun _ => rfl) (hd 4 rfl) (hK _ (Mo.refl _))))
        · exact og_eq (nv (pvk s k * 10 + ((s[k].toNat : Int) - 48))) rfl (fun f wf hq hd K hK => go_run rfl (wo_un (fun v => Instr.extract v 0) (.tmp 16) (.tuple #[nv (pvk s k * 10 + ((s[k].toNat : Int) - 48)), .bool true]) (nv (pvk s k * 10 + ((s[k].toNat : Int) - 48))) (fun _ => rfl) (hd 5 rfl) (by kernel_rfl) (hK _ (Mo.refl _))))
        · exact og_eq (.bool true) rfl (fun f wf hq hd K hK => go_run rfl (wo_un (fun v => Instr.extract v 1) (.tmp 16) (.tuple #[nv (pvk s k * 10 + ((s[k].toNat : Int) - 48)), .bool true]) (.bool true) (fun _ => rfl) (hd 5 rfl) (by kernel_rfl) (hK _ (Mo.refl _))))
      intro kf51 w51 hq hR hne
      replace Q1 := Q1.mo hq
      replace Q2 := Q2.mo hq
      replace M := M.trans hq
      clear hq hR hne
      refine wl_st 24 (.tmp 4) (.tmp 22) k2 0 (nvar (pvk s k * 10 + ((s[k].toNat : Int) - 48))) (nvli (pvk s k)) (nvli (pvk s k * 10 + ((s[k].toNat : Int) - 48))) Q2 rfl rfl e4 rfl rfl sz24 rfl rfl rfl ?_
      intro w52 hS Qn
      replace Q2 := Qn
      clear Qn
      replace Q1 := hS.other _ _ ne_k1_k2 Q1
      replace M := hS.mo _ N_k2 M
      clear hS
      refine wl_mv (.tmp 23) (.bool true) (fun _ => rfl) rfl rfl ?_
      refine w_nil ?_
      refine xn_then ?_
      refine w_seq ?_
      refine w_reg ?_
      refine wl_mv (.tmp 6) (.bool true) (fun _ => rfl) rfl rfl ?_
      refine wl_un (fun v => Op.unary .not v) (.tmp 24) (.bool true) (.bool false) (fun _ => rfl) rfl (by kernel_rfl) rfl ?_
      refine w_nil ?_
      refine xn_then ?_
      refine w_condF rfl ?_
      refine w_skip ?_
      refine xn_blk ?_
      refine xn_then ?_
      refine w_reg ?_
      refine wl_bin (fun x y => do eqGuard .add 3 (.tmp 13) (.const (.int .i64 (1))) x y; binOp .add 3 x y) (.tmp 13) (.const (.int .i64 (1))) (.int .i64 ((k : Int))) (.int .i64 (1)) (.int .i64 (((k + 1 : Nat) : Int))) (fun _ => rfl) e13 rfl (add1_run (by unfold maxLen at hs; omega) _ _ _) rfl ?_
      refine wl_mv (.tmp 27) (.int .i64 (((k + 1 : Nat) : Int))) (fun _ => rfl) rfl rfl ?_
      refine w_nil ?_
      exact xn_loop (s.size - (k + 1)) (by omega) ⟨k + 1, by omega, e0, e12, rfl, e2, e4, Q1, by rw [pvk_succ s k hlt]; exact Q2, by rw [pvk_succ s k hlt]; exact of_decide_eq_true hf, M⟩
    | false =>
      refine w_seq ?_
      refine w_reg ?_
      refine wl_bin (fun x y => do eqGuard .lss 3 (.tmp 13) (.tmp 12) x y; binOp .lss 3 x y) (.tmp 13) (.tmp 12) (.int .i64 ((k : Int))) (.int .i64 ((s.size : Int))) (.bool true) (fun _ => rfl) e13 e12 (lt3_run hl _ _ _) rfl ?_
      refine w_nil ?_
      refine xn_then ?_
      refine w_seq ?_
      refine w_condT rfl ?_
      refine w_skip ?_
      refine xn_then ?_
      refine w_seq ?_
      refine w_block ?_
      refine w_seq ?_
      refine w_reg ?_
      refine wl_mv (.tmp 13) (.int .i64 ((k : Int))) (fun _ => rfl) e13 rfl ?_
      refine wl_mv (.tmp 15) (.int .i64 ((k : Int))) (fun _ => rfl) rfl rfl ?_
      refine w_nil ?_
      refine xn_then ?_
      refine w_seq ?_
      refine w_reg ?_
      refine wl_mv (.const (.bool false)) (.bool false) (fun _ => rfl) rfl rfl ?_
      refine w_nil ?_
      refine xn_then ?_
      refine w_seq ?_
      refine w_any 8 [.inl (nv (pvk s k)), .inl (.string s), .inl (.int .i64 ((k : Int))), .inl (.int .u8 (s[k].toNat : Int)), .inl (.tuple #[nv (pvk s k * 10 + ((s[k].toNat : Int) - 48)), .bool false]), .inl (.tuple #[nv (pvk s k * 10 + ((s[k].toNat : Int) - 48)), .bool false]), .inl (nv (pvk s k * 10 + ((s[k].toNat : Int) - 48))), .inl (.bool false)] [7] (by kernel_rfl) (by kernel_rfl) (by kernel_rfl) (by kernel_rfl) rfl (by kernel_rfl) (by kernel_rfl) (late_cons ⟨_, _, rfl, rfl, fun _ _ _ _ h => h, fun f hd => ⟨rfl, la_un (fun v => Instr.extract v 1) (.tmp 16) (.tuple #[nv (pvk s k * 10 + ((s[k].toNat : Int) - 48)), .bool false]) (.bool false) (fun _ => rfl) (hd 5 rfl _ rfl) (fun w => by kernel_rfl)⟩⟩ late_nil) ?_ ?_ ?_
      · exact Ds.none rfl
      · refine ea_cons ?_ (ea_cons ?_ (ea_cons ?_ (ea_cons ?_ (ea_cons ?_ (ea_cons ?_ (ea_cons ?_ (ea_cons ?_ (ea_nil))))))))
        · exact og_eq (nv (pvk s k)) rfl (fun f wf hq hd K hK => have Q2 := Q2.mo hq; go_run rfl (wo_load 24 (.tmp 4) (pt k2 0) (nv (pvk s k)) rfl e4 (run_row Q2 24 0 4 (nvli (pvk s k)) rfl Try.underlying24 rfl sz24) (hK _ (Mo.refl _))))
        · exact og_eq (.string s) rfl (fun f wf hq hd K hK => go_run rfl (wo_mv (.tmp 0) (.string s) (fun _ => rfl) e0 (hK _ (Mo.refl _))))
        · exact og_eq (.int .i64 ((k : Int))) rfl (fun f wf hq hd K hK => go_run rfl (wo_mv (.tmp 5) (.int .i64 ((k : Int))) (fun _ => rfl) rfl (hK _ (Mo.refl _))))
        · exact og_eq (.int .u8 (s[k].toNat : Int)) rfl (fun f wf hq hd K hK => go_run rfl (wo_bin (fun x y => Instr.index 9 x y) (.tmp 18) (.tmp 19) (.string s) (.int .i64 ((k : Int))) (.int .u8 (s[k].toNat : Int)) (fun _ => rfl) (hd 1 rfl) (hd 2 rfl) (idx_s s k hlt _) (hK _ (Mo.refl _))))
        · exact og_eq (.tuple #[nv (pvk s k * 10 + ((s[k].toNat : Int) - 48)), .bool false]) rfl (fun f wf hq hd K hK => go_run rfl (wo_call 68 [(.tmp 17), (.tmp 20)] _ [nv (pvk s k), .int .u8 (s[k].toNat : Int)] (.tuple #[nv (pvk s k * 10 + ((s[k].toNat : Int) - 48)), .bool false]) rfl (li2 (hd 0 rfl) (hd 3 rfl)) (fun _ _ => by kernel_rfl) (apd_c s k _ hv0 hv hc.1 hc.2 hf) hK))
        · exact og_eq (.tuple #[nv (pvk s k * 10 + ((s[k].toNat : Int) - 48)), .bool false]) rfl (fun f wf hq hd K hK => go_run rfl (wo_mv (.tmp 21) (.tuple #[nv (pvk s k * 10 + ((s[k].toNat : Int) - 48)), .bool false]) (fun _ => rfl) (hd 4 rfl) (hK _ (Mo.refl _))))
        · exact og_eq (nv (pvk s k * 10 + ((s[k].toNat : Int) - 48))) rfl (fun f wf hq hd K hK => go_run rfl (wo_un (fun v => Instr.extract v 0) (.tmp 16) (.tuple #[nv (pvk s k * 10 + ((s[k].toNat : Int) - 48)), .bool false]) (nv (pvk s k * 10 + ((s[k].toNat : Int) - 48))) (fun _ => rfl) (hd 5 rfl) (by kernel_rfl) (hK _ (Mo.refl _))))
        · exact og_eq (.bool false) rfl (fun f wf hq hd K hK => go_run rfl (wo_un (fun v => Instr.extract v 1) (.tmp 16) (.tuple #[nv (pvk s k * 10 + ((s[k].toNat : Int) - 48)), .bool false]) (.bool false) (fun _ => rfl) (hd 5 rfl) (by kernel_rfl) (hK _ (Mo.refl _))))
      intro kf51 w51 hq hR hne
      replace Q1 := Q1.mo hq
      replace Q2 := Q2.mo hq
      replace M := M.trans hq
      clear hq hR hne
      refine wl_st 24 (.tmp 4) (.tmp 22) k2 0 (nvar (pvk s k * 10 + ((s[k].toNat : Int) - 48))) (nvli (pvk s k)) (nvli (pvk s k * 10 + ((s[k].toNat : Int) - 48))) Q2 rfl rfl e4 rfl rfl sz24 rfl rfl rfl ?_
      intro w52 hS Qn
      replace Q2 := Qn
      clear Qn
      replace Q1 := hS.other _ _ ne_k1_k2 Q1
      replace M := hS.mo _ N_k2 M
      clear hS
      refine wl_mv (.tmp 23) (.bool false) (fun _ => rfl) rfl rfl ?_
      refine w_nil ?_
      refine xn_then ?_
      refine w_seq ?_
      refine w_reg ?_
      refine wl_mv (.tmp 6) (.bool false) (fun _ => rfl) rfl rfl ?_
      refine wl_un (fun v => Op.unary .not v) (.tmp 24) (.bool false) (.bool true) (fun _ => rfl) rfl (by kernel_rfl) rfl ?_
      refine w_nil ?_
      refine xn_then ?_
      refine w_condT rfl ?_
      refine w_seq ?_
      refine w_reg ?_
      refine wl_build 24 [] [] (.agg #[.int .u64 0, .int .u64 0, .int .u64 0, .int .u64 0]) rfl rfl (by kernel_rfl) rfl ?_
      refine wl_st 24 (.tmp 2) (.tmp 26) k1 0 #[.int .u64 0, .int .u64 0, .int .u64 0, .int .u64 0] [.int .u64 0, .int .u64 0, .int .u64 0, .int .u64 0] [.int .u64 0, .int .u64 0, .int .u64 0, .int .u64 0] Q1 rfl rfl e2 rfl rfl sz24 rfl rfl rfl ?_
      intro w53 hS Qn
      replace Q1 := Qn
      clear Qn
      replace Q2 := hS.other _ _ ne_k1_k2.symm Q2
      replace M := hS.mo _ N_k1 M
      clear hS
      refine wl_mv (.const (.int .i64 (7))) (.int .i64 (7)) (fun _ => rfl) rfl rfl ?_
      refine w_nil ?_
      refine xn_then ?_
      refine w_ret ?_
      refine xr_blk ?_
      refine xr_then ?_
      refine xr_then ?_
      refine xr_blk ?_
      refine xr_then ?_
      exact w_ret2 _ _ (.agg #[.int .u64 0, .int .u64 0, .int .u64 0, .int .u64 0]) (.int .i64 (7)) rfl ⟨k1, e2, (run_row Q1 24 0 4 [.int .u64 0, .int .u64 0, .int .u64 0, .int .u64 0] rfl Try.underlying24 rfl sz24)⟩ rfl ⟨by rw [resP_over hT hlt (of_decide_eq_false hf)], M⟩
  · have hl : decide ((k : Int) < (s.size : Int)) = false := decide_eq_false (by omega)
    refine w_seq ?_
    refine w_reg ?_
    refine wl_bin (fun x y => do eqGuard .lss 3 (.tmp 13) (.tmp 12) x y; binOp .lss 3 x y) (.tmp 13) (.tmp 12) (.int .i64 ((k : Int))) (.int .i64 ((s.size : Int))) (.bool false) (fun _ => rfl) e13 e12 (lt3_run hl _ _ _) rfl ?_
    refine w_nil ?_
    refine xn_then ?_
    refine w_seq ?_
    refine w_condF rfl ?_
    refine w_exit ?_
    refine xx_then ?_
    refine xx_then ?_
    refine xx_blk ?_
    refine xn_then ?_
    refine w_seq ?_
    refine w_reg ?_
    refine wl_load 24 (.tmp 4) (pt k2 0) (nv (pvk s k)) rfl e4 (run_row Q2 24 0 4 (nvli (pvk s k)) rfl Try.underlying24 rfl sz24) rfl ?_
    refine wl_st 24 (.tmp 2) (.tmp 28) k1 0 (nvar (pvk s k)) [.int .u64 0, .int .u64 0, .int .u64 0, .int .u64 0] (nvli (pvk s k)) Q1 rfl rfl e2 rfl rfl sz24 rfl rfl rfl ?_
    intro w51 hS Qn
    replace Q1 := Qn
    clear Qn
    replace Q2 := hS.other _ _ ne_k1_k2.symm Q2
    replace M := hS.mo _ N_k1 M
    clear hS
    refine wl_mv (.const (.int .i64 (0))) (.int .i64 (0)) (fun _ => rfl) rfl rfl ?_
    refine w_nil ?_
    refine xn_then ?_
    refine w_ret ?_
    exact w_ret2 _ _ (nv (pvk s k)) (.int .i64 (0)) rfl ⟨k1, e2, (run_row Q1 24 0 4 (nvli (pvk s k)) rfl Try.underlying24 rfl sz24)⟩ rfl ⟨by rw [resP_ok (pvk_end hk hlt hv), ← pvk_eq hk hlt], M⟩
theorem parse_n (s : ByteArray) (w : World) [Decidable (isT s)] (hs : s.size ≤ maxLen) : Calls Try.prog 20 #[.string s] w fun e w' => e = .returned (if isT s then resP s else ez 10) ∧ Mo w w' := by
  have hi := fun w => isd_n s w hs
  by_cases h : isT s
  · rw [if_pos h]
    rw [decide_eq_true h] at hi
    exact parse_yes2 s w hs h.2.2 hi
  · rw [if_neg h]
    rw [decide_eq_false h] at hi
    exact parse_no s w hi
theorem rparse_emp (s : ByteArray) (w : World) (h0 : s.toList.isEmpty = true) : Calls Try.prog 21 #[.string s] w fun e w' => e = .returned (ez 10) ∧ Mo w w' := by
  refine w_enter 77 Try.func21 Try.ntmps21 rfl rfl ?_
  have M : Mo w w := Mo.refl _
  refine w_seq ?_
  refine w_reg ?_
  refine wl_alloc 24 #[.int .u64 0, .int .u64 0, .int .u64 0, .int .u64 0] rfl (fun _ => by kernel_rfl) rfl ?_
  intro k1 w1 hk hz hq Q1
  have N_k1 : w.heap.size ≤ k1 := by have := M.size; omega
  replace M := M.trans hq
  clear hk hz hq
  refine wl_mv (.const (.int .i64 (0))) (.int .i64 (0)) (fun _ => rfl) rfl rfl ?_
  refine w_nil ?_
  refine xn_then ?_
  refine w_seq ?_
  refine w_seq ?_
  refine w_reg ?_
  refine wl_mv (.tmp 0) (.string s) (fun _ => rfl) rfl rfl ?_
  refine wl_bin (fun x y => do eqGuard .eql 9 (.tmp 11) (.const (.string ⟨#[]⟩)) x y; binOp .eql 9 x y) (.tmp 11) (.const (.string ⟨#[]⟩)) (.string s) (.string ⟨#[]⟩) (.bool true) (fun _ => rfl) rfl rfl (eqe_run h0 _ _ _) rfl ?_
  refine wl_mv (.tmp 12) (.bool true) (fun _ => rfl) rfl rfl ?_
  refine wl_skip rfl ?_
  refine wl_skip rfl ?_
  refine wl_skip rfl ?_
  refine wl_skip rfl ?_
  refine wl_skip rfl ?_
  refine wl_skip rfl ?_
  refine wl_skip rfl ?_
  refine wl_skip rfl ?_
  refine wl_pick (.tmp 13) (.const (.bool true)) (.tmp 21) true (.bool true) (fun _ => rfl) rfl rfl rfl ?_
  refine w_nil ?_
  refine xn_then ?_
  refine w_condT rfl ?_
  refine w_seq ?_
  refine w_reg ?_
  refine wl_build 24 [] [] (.agg #[.int .u64 0, .int .u64 0, .int .u64 0, .int .u64 0]) rfl rfl (by kernel_rfl) rfl ?_
  refine wl_st 24 (.tmp 2) (.tmp 23) k1 0 #[.int .u64 0, .int .u64 0, .int .u64 0, .int .u64 0] [.int .u64 0, .int .u64 0, .int .u64 0, .int .u64 0] [.int .u64 0, .int .u64 0, .int .u64 0, .int .u64 0] Q1 rfl rfl rfl rfl rfl sz24 rfl rfl rfl ?_
  intro w2 hS Qn
  replace Q1 := Qn
  clear Qn
  replace M := hS.mo _ N_k1 M
  clear hS
  refine wl_mv (.const (.int .i64 (10))) (.int .i64 (10)) (fun _ => rfl) rfl rfl ?_
  refine w_nil ?_
  refine xn_then ?_
  refine w_ret ?_
  refine xr_then ?_
  exact w_ret2 _ _ (.agg #[.int .u64 0, .int .u64 0, .int .u64 0, .int .u64 0]) (.int .i64 (10)) rfl ⟨k1, rfl, (run_row Q1 24 0 4 [.int .u64 0, .int .u64 0, .int .u64 0, .int .u64 0] rfl Try.underlying24 rfl sz24)⟩ rfl ⟨rfl, M⟩
theorem rparse_lead (s : ByteArray) (w : World) (h0 : s.toList.isEmpty = false) (hp : 0 < s.size) (h1 : decide ((s.size : Int) > 1) = true) (hz : ((s[0].toNat : Int) == 48) = true) : Calls Try.prog 21 #[.string s] w fun e w' => e = .returned (ez 10) ∧ Mo w w' := by
  refine w_enter 77 Try.func21 Try.ntmps21 rfl rfl ?_
  have M : Mo w w := Mo.refl _
  refine w_seq ?_
  refine w_reg ?_
  refine wl_alloc 24 #[.int .u64 0, .int .u64 0, .int .u64 0, .int .u64 0] rfl (fun _ => by kernel_rfl) rfl ?_
  intro k1 w1 hk hz hq Q1
  have N_k1 : w.heap.size ≤ k1 := by have := M.size; omega
  replace M := M.trans hq
  clear hk hz hq
  refine wl_mv (.const (.int .i64 (0))) (.int .i64 (0)) (fun _ => rfl) rfl rfl ?_
  refine w_nil ?_
  refine xn_then ?_
  refine w_seq ?_
  refine w_seq ?_
  refine w_reg ?_
  refine wl_mv (.tmp 0) (.string s) (fun _ => rfl) rfl rfl ?_
  refine wl_bin (fun x y => do eqGuard .eql 9 (.tmp 11) (.const (.string ⟨#[]⟩)) x y; binOp .eql 9 x y) (.tmp 11) (.const (.string ⟨#[]⟩)) (.string s) (.string ⟨#[]⟩) (.bool false) (fun _ => rfl) rfl rfl (eqe_run h0 _ _ _) rfl ?_
  refine wl_mv (.tmp 12) (.bool false) (fun _ => rfl) rfl rfl ?_
  refine wl_mv (.tmp 0) (.string s) (fun _ => rfl) rfl rfl ?_
  refine wl_bin (fun x y => Instr.index 9 x y) (.tmp 14) (.const (.int .i64 (0))) (.string s) (.int .i64 (0)) (.int .u8 (s[0].toNat : Int)) (fun _ => rfl) rfl rfl (idx_0 s hp _) rfl ?_
  refine wl_bin (fun x y => do eqGuard .eql 5 (.tmp 15) (.const (.int .u8 (48))) x y; binOp .eql 5 x y) (.tmp 15) (.const (.int .u8 (48))) (.int .u8 (s[0].toNat : Int)) (.int .u8 (48)) (.bool true) (fun _ => rfl) rfl rfl (eq5_run hz _ _ _) rfl ?_
  refine wl_mv (.tmp 16) (.bool true) (fun _ => rfl) rfl rfl ?_
  refine wl_mv (.tmp 0) (.string s) (fun _ => rfl) rfl rfl ?_
  refine wl_val (.int .i64 ((s.size : Int))) (len_run _ _ s rfl _ _ _ _ _ _) rfl ?_
  refine wl_bin (fun x y => do eqGuard .gtr 3 (.tmp 19) (.const (.int .i64 (1))) x y; binOp .gtr 3 x y) (.tmp 19) (.const (.int .i64 (1))) (.int .i64 ((s.size : Int))) (.int .i64 (1)) (.bool true) (fun _ => rfl) rfl rfl (gt3_run h1 _ _ _) rfl ?_
  refine wl_pick (.tmp 17) (.tmp 20) (.const (.bool false)) true (.bool true) (fun _ => rfl) rfl rfl rfl ?_
  refine wl_pick (.tmp 13) (.const (.bool true)) (.tmp 21) false (.bool true) (fun _ => rfl) rfl rfl rfl ?_
  refine w_nil ?_
  refine xn_then ?_
  refine w_condT rfl ?_
  refine w_seq ?_
  refine w_reg ?_
  refine wl_build 24 [] [] (.agg #[.int .u64 0, .int .u64 0, .int .u64 0, .int .u64 0]) rfl rfl (by kernel_rfl) rfl ?_
  refine wl_st 24 (.tmp 2) (.tmp 23) k1 0 #[.int .u64 0, .int .u64 0, .int .u64 0, .int .u64 0] [.int .u64 0, .int .u64 0, .int .u64 0, .int .u64 0] [.int .u64 0, .int .u64 0, .int .u64 0, .int .u64 0] Q1 rfl rfl rfl rfl rfl sz24 rfl rfl rfl ?_
  intro w2 hS Qn
  replace Q1 := Qn
  clear Qn
  replace M := hS.mo _ N_k1 M
  clear hS
  refine wl_mv (.const (.int .i64 (10))) (.int .i64 (10)) (fun _ => rfl) rfl rfl ?_
  refine w_nil ?_
  refine xn_then ?_
  refine w_ret ?_
  refine xr_then ?_
  exact w_ret2 _ _ (.agg #[.int .u64 0, .int .u64 0, .int .u64 0, .int .u64 0]) (.int .i64 (10)) rfl ⟨k1, rfl, (run_row Q1 24 0 4 [.int .u64 0, .int .u64 0, .int .u64 0, .int .u64 0] rfl Try.underlying24 rfl sz24)⟩ rfl ⟨rfl, M⟩
theorem dgs_end {s : ByteArray} {k m : Nat} (hk : k + m = s.size) (h : ¬ k < s.size) (hd : dgs s k) : dgs s s.size := by rw [show s.size = k by omega]; exact hd
theorem npt {v : Value} {k : Nat} (h : isPt v = false) (e : v = pt k 0) : False := by rw [e] at h; cases h
theorem hi0z {X : Int} (h0 : 0 ≤ X) (h : X < MM) : (l0 (X / MM) == 0 && (l1 (X / MM) == 0 && (l2 (X / MM) == 0 && l3 (X / MM) == 0))) = true := by
  rw [Int.ediv_eq_zero_of_lt h0 h]; rfl
theorem hi1z {X : Int} (h : MM ≤ X) (h2 : X < MM * MM) : (l0 (X / MM) == 0 && (l1 (X / MM) == 0 && (l2 (X / MM) == 0 && l3 (X / MM) == 0))) = false := by
  have p : (0 : Int) < MM := by decide
  have a : 1 ≤ X / MM := Int.le_ediv_of_mul_le p (by omega)
  rw [zb (by omega) (Int.ediv_lt_of_lt_mul p h2)]; exact decide_eq_false (by omega)
theorem rsum_any (A d : Int) : ∃ (Z : Int) (o : Bool), ∀ w, Calls Try.prog 64 #[nv A, nv d] w fun e w' => e = .returned (.tuple #[nv Z, .bool o]) ∧ Mo w w' := ⟨_, _, fun w => radd_m A d w⟩
theorem rsum_ok (A d Z : Int) (w : World) (h0 : 0 ≤ A) (hd : 0 ≤ d) (hZ : Z = A + d) (h : A < MM) (h2 : A + d < MM) : Calls Try.prog 64 #[nv A, nv d] w fun e w' => e = .returned (.tuple #[nv Z, .bool false]) ∧ Mo w w' := by
  have := radd_n A d w h0 h hd (by omega)
  have e : ov (A + d) = false := decide_eq_false (by omega)
  rw [e, ← hZ] at this
  exact this
theorem rsum_ov (A d : Int) (h0 : 0 ≤ A) (hd : 0 ≤ d) (hd2 : d < 10) (h : A < MM) (h2 : ¬ A + d < MM) : ∃ Z : Int, ∀ w, Calls Try.prog 64 #[nv A, nv d] w fun e w' => e = .returned (.tuple #[nv Z, .bool true]) ∧ Mo w w' := ⟨A + d, fun w => by
  have := radd_n A d w h0 h hd (by unfold MM; omega)
  have e : ov (A + d) = true := decide_eq_true (by omega)
  rw [e] at this
  exact this⟩
theorem pvk_big {s : ByteArray} (hp : 0 < s.size) (hd : dgs s s.size) (hz : (s[0].toNat : Int) ≠ 48) : ∀ k, k + 1 ≤ s.size → (10 : Int) ^ k ≤ pvk s (k + 1)
  | 0, _ => by
    rw [pvk_succ s 0 hp]
    have := hd 0 hp hp
    have e : pvk s 0 = 0 := by unfold pvk pv; simp
    rw [e]; simp; omega
  | k + 1, h => by
    rw [pvk_succ s (k + 1) (by omega), Int.pow_succ]
    have := pvk_big hp hd hz k (by omega)
    have := hd (k + 1) (by omega) (by omega)
    omega
theorem resP_long {s : ByteArray} (hp : 0 < s.size) (hd : dgs s s.size) (hz : s.size > 1 → (s[0].toNat : Int) ≠ 48) (h : s.size > 78) : resP s = ez 7 := by
  unfold resP
  rw [if_neg]
  have a : (10 : Int) ^ 78 ≤ pvk s 79 := pvk_big hp hd (hz (by omega)) 78 (by omega)
  have b := pvk_le hd (s.size - 79) 79 (by omega)
  have c : MM ≤ (10 : Int) ^ 78 := by decide
  omega
theorem rparse_a (s : ByteArray) (w : World) [Decidable (isT s)] (hs : s.size ≤ maxLen) (h0 : s.toList.isEmpty = false) (hp : 0 < s.size) (hlead : ¬ (s.size > 1 ∧ (s[0].toNat : Int) = 48)) (hz0 : s.size > 1 → (s[0].toNat : Int) ≠ 48) (h1 : ((s[0].toNat : Int) == 48) = false) : Calls Try.prog 21 #[.string s] w fun e w' => e = .returned (if isT s then resP s else ez 10) ∧ Mo w w' := by
  refine w_enter 77 Try.func21 Try.ntmps21 rfl rfl ?_
  have M : Mo w w := Mo.refl _
  refine w_seq ?_
  refine w_reg ?_
  refine wl_alloc 24 #[.int .u64 0, .int .u64 0, .int .u64 0, .int .u64 0] rfl (fun _ => by kernel_rfl) rfl ?_
  intro k1 w1 hk hz hq Q1
  have N_k1 : w.heap.size ≤ k1 := by have := M.size; omega
  replace M := M.trans hq
  clear hk hz hq
  refine wl_mv (.const (.int .i64 (0))) (.int .i64 (0)) (fun _ => rfl) rfl rfl ?_
  refine w_nil ?_
  refine xn_then ?_
  refine w_seq ?_
  refine w_seq ?_
  refine w_reg ?_
  refine wl_mv (.tmp 0) (.string s) (fun _ => rfl) rfl rfl ?_
  refine wl_bin (fun x y => do eqGuard .eql 9 (.tmp 11) (.const (.string ⟨#[]⟩)) x y; binOp .eql 9 x y) (.tmp 11) (.const (.string ⟨#[]⟩)) (.string s) (.string ⟨#[]⟩) (.bool false) (fun _ => rfl) rfl rfl (eqe_run h0 _ _ _) rfl ?_
  refine wl_mv (.tmp 12) (.bool false) (fun _ => rfl) rfl rfl ?_
  refine wl_mv (.tmp 0) (.string s) (fun _ => rfl) rfl rfl ?_
  refine wl_bin (fun x y => Instr.index 9 x y) (.tmp 14) (.const (.int .i64 (0))) (.string s) (.int .i64 (0)) (.int .u8 (s[0].toNat : Int)) (fun _ => rfl) rfl rfl (idx_0 s hp _) rfl ?_
  refine wl_bin (fun x y => do eqGuard .eql 5 (.tmp 15) (.const (.int .u8 (48))) x y; binOp .eql 5 x y) (.tmp 15) (.const (.int .u8 (48))) (.int .u8 (s[0].toNat : Int)) (.int .u8 (48)) (.bool false) (fun _ => rfl) rfl rfl (eq5_run h1 _ _ _) rfl ?_
  refine wl_mv (.tmp 16) (.bool false) (fun _ => rfl) rfl rfl ?_
  refine wl_skip rfl ?_
  refine wl_skip rfl ?_
  refine wl_skip rfl ?_
  refine wl_pick (.tmp 17) (.tmp 20) (.const (.bool false)) false (.bool false) (fun _ => rfl) rfl rfl rfl ?_
  refine wl_pick (.tmp 13) (.const (.bool true)) (.tmp 21) false (.bool false) (fun _ => rfl) rfl rfl rfl ?_
  refine w_nil ?_
  refine xn_then ?_
  refine w_condF rfl ?_
  refine w_skip ?_
  refine xn_then ?_
  refine w_seq ?_
  refine w_seq ?_
  refine w_reg ?_
  refine wl_mv (.const (.int .i64 (0))) (.int .i64 (0)) (fun _ => rfl) rfl rfl ?_
  refine w_nil ?_
  refine xn_then ?_
  refine w_block ?_
  refine w_loop (fun m l w1 => ∃ k : Nat, k + m = s.size ∧ look l 0 = .string s ∧ look l 4 = .int .i64 (k : Int) ∧ look l 2 = pt k1 0 ∧ At w1 k1 [.int .u64 0, .int .u64 0, .int .u64 0, .int .u64 0] ∧ dgs s k ∧ Mo w w1 ∧ (isPt (look l 7) = false ∧ isPt (look l 8) = false ∧ isPt (look l 9) = false)) s.size ⟨0, by omega, rfl, rfl, rfl, Q1, fun j _ h => absurd h (Nat.not_lt_zero _), M, rfl, rfl, rfl⟩ ?_
  clear M Q1
  rintro m l wl ⟨k, hk, e0, e4, e2, Q1, hd, M, i7, i8, i9⟩
  by_cases hlt : k < s.size
  · have hl : decide ((k : Int) < (s.size : Int)) = true := decide_eq_true (by omega)
    cases ha : decide ((s[k].toNat : Int) < 48) with
    | true =>
      refine w_seq ?_
      refine w_seq ?_
      refine w_reg ?_
      refine wl_mv (.tmp 4) (.int .i64 ((k : Int))) (fun _ => rfl) e4 rfl ?_
      refine wl_mv (.tmp 0) (.string s) (fun _ => rfl) e0 rfl ?_
      refine wl_val (.int .i64 ((s.size : Int))) (len_run _ _ s rfl _ _ _ _ _ _) rfl ?_
      refine wl_bin (fun x y => do eqGuard .lss 3 (.tmp 24) (.tmp 26) x y; binOp .lss 3 x y) (.tmp 24) (.tmp 26) (.int .i64 ((k : Int))) (.int .i64 ((s.size : Int))) (.bool true) (fun _ => rfl) rfl rfl (lt3_run hl _ _ _) rfl ?_
      refine w_nil ?_
      refine xn_then ?_
      refine w_condT rfl ?_
      refine w_skip ?_
      refine xn_then ?_
      refine w_seq ?_
      refine w_block ?_
      refine w_seq ?_
      refine w_reg ?_
      refine wl_mv (.tmp 0) (.string s) (fun _ => rfl) e0 rfl ?_
      refine wl_mv (.tmp 4) (.int .i64 ((k : Int))) (fun _ => rfl) e4 rfl ?_
      refine wl_bin (fun x y => Instr.index 9 x y) (.tmp 30) (.tmp 31) (.string s) (.int .i64 ((k : Int))) (.int .u8 (s[k].toNat : Int)) (fun _ => rfl) rfl rfl (idx_s s k hlt _) rfl ?_
      refine wl_bin (fun x y => do eqGuard .lss 5 (.tmp 32) (.const (.int .u8 (48))) x y; binOp .lss 5 x y) (.tmp 32) (.const (.int .u8 (48))) (.int .u8 (s[k].toNat : Int)) (.int .u8 (48)) (.bool true) (fun _ => rfl) rfl rfl (ls5 ha _ _ _) rfl ?_
      refine wl_mv (.tmp 33) (.bool true) (fun _ => rfl) rfl rfl ?_
      refine wl_skip rfl ?_
      refine wl_skip rfl ?_
      refine wl_skip rfl ?_
      refine wl_skip rfl ?_
      refine wl_pick (.tmp 34) (.const (.bool true)) (.tmp 38) true (.bool true) (fun _ => rfl) rfl rfl rfl ?_
      refine w_nil ?_
      refine xn_then ?_
      refine w_condT rfl ?_
      refine w_seq ?_
      refine w_reg ?_
      refine wl_build 24 [] [] (.agg #[.int .u64 0, .int .u64 0, .int .u64 0, .int .u64 0]) rfl rfl (by kernel_rfl) rfl ?_
      refine wl_st 24 (.tmp 2) (.tmp 40) k1 0 #[.int .u64 0, .int .u64 0, .int .u64 0, .int .u64 0] [.int .u64 0, .int .u64 0, .int .u64 0, .int .u64 0] [.int .u64 0, .int .u64 0, .int .u64 0, .int .u64 0] Q1 rfl rfl e2 rfl rfl sz24 rfl rfl rfl ?_
      intro w21 hS Qn
      replace Q1 := Qn
      clear Qn
      replace M := hS.mo _ N_k1 M
      clear hS
      refine wl_mv (.const (.int .i64 (10))) (.int .i64 (10)) (fun _ => rfl) rfl rfl ?_
      refine w_nil ?_
      refine xn_then ?_
      refine w_ret ?_
      refine xr_blk ?_
      refine xr_then ?_
      refine xr_then ?_
      refine xr_blk ?_
      refine xr_then ?_
      exact w_ret2 _ _ (.agg #[.int .u64 0, .int .u64 0, .int .u64 0, .int .u64 0]) (.int .i64 (10)) rfl ⟨k1, e2, (run_row Q1 24 0 4 [.int .u64 0, .int .u64 0, .int .u64 0, .int .u64 0] rfl Try.underlying24 rfl sz24)⟩ rfl ⟨by rw [if_neg (fun hT : isT s => by obtain ⟨_, _, h3⟩ := hT; have := h3 k hlt hlt; have := of_decide_eq_true ha; omega)], M⟩
    | false =>
      cases hb : decide ((s[k].toNat : Int) > 57) with
      | true =>
        refine w_seq ?_
        refine w_seq ?_
        refine w_reg ?_
        refine wl_mv (.tmp 4) (.int .i64 ((k : Int))) (fun _ => rfl) e4 rfl ?_
        refine wl_mv (.tmp 0) (.string s) (fun _ => rfl) e0 rfl ?_
        refine wl_val (.int .i64 ((s.size : Int))) (len_run _ _ s rfl _ _ _ _ _ _) rfl ?_
        refine wl_bin (fun x y => do eqGuard .lss 3 (.tmp 24) (.tmp 26) x y; binOp .lss 3 x y) (.tmp 24) (.tmp 26) (.int .i64 ((k : Int))) (.int .i64 ((s.size : Int))) (.bool true) (fun _ => rfl) rfl rfl (lt3_run hl _ _ _) rfl ?_
        refine w_nil ?_
        refine xn_then ?_
        refine w_condT rfl ?_
        refine w_skip ?_
        refine xn_then ?_
        refine w_seq ?_
        refine w_block ?_
        refine w_seq ?_
        refine w_reg ?_
        refine wl_mv (.tmp 0) (.string s) (fun _ => rfl) e0 rfl ?_
        refine wl_mv (.tmp 4) (.int .i64 ((k : Int))) (fun _ => rfl) e4 rfl ?_
        refine wl_bin (fun x y => Instr.index 9 x y) (.tmp 30) (.tmp 31) (.string s) (.int .i64 ((k : Int))) (.int .u8 (s[k].toNat : Int)) (fun _ => rfl) rfl rfl (idx_s s k hlt _) rfl ?_
        refine wl_bin (fun x y => do eqGuard .lss 5 (.tmp 32) (.const (.int .u8 (48))) x y; binOp .lss 5 x y) (.tmp 32) (.const (.int .u8 (48))) (.int .u8 (s[k].toNat : Int)) (.int .u8 (48)) (.bool false) (fun _ => rfl) rfl rfl (ls5 ha _ _ _) rfl ?_
        refine wl_mv (.tmp 33) (.bool false) (fun _ => rfl) rfl rfl ?_
        refine wl_mv (.tmp 0) (.string s) (fun _ => rfl) e0 rfl ?_
        refine wl_mv (.tmp 4) (.int .i64 ((k : Int))) (fun _ => rfl) e4 rfl ?_
        refine wl_bin (fun x y => Instr.index 9 x y) (.tmp 35) (.tmp 36) (.string s) (.int .i64 ((k : Int))) (.int .u8 (s[k].toNat : Int)) (fun _ => rfl) rfl rfl (idx_s s k hlt _) rfl ?_
        refine wl_bin (fun x y => do eqGuard .gtr 5 (.tmp 37) (.const (.int .u8 (57))) x y; binOp .gtr 5 x y) (.tmp 37) (.const (.int .u8 (57))) (.int .u8 (s[k].toNat : Int)) (.int .u8 (57)) (.bool true) (fun _ => rfl) rfl rfl (gt5_run hb _ _ _) rfl ?_
        refine wl_pick (.tmp 34) (.const (.bool true)) (.tmp 38) false (.bool true) (fun _ => rfl) rfl rfl rfl ?_
        refine w_nil ?_
        refine xn_then ?_
        refine w_condT rfl ?_
        refine w_seq ?_
        refine w_reg ?_
        refine wl_build 24 [] [] (.agg #[.int .u64 0, .int .u64 0, .int .u64 0, .int .u64 0]) rfl rfl (by kernel_rfl) rfl ?_
        refine wl_st 24 (.tmp 2) (.tmp 40) k1 0 #[.int .u64 0, .int .u64 0, .int .u64 0, .int .u64 0] [.int .u64 0, .int .u64 0, .int .u64 0, .int .u64 0] [.int .u64 0, .int .u64 0, .int .u64 0, .int .u64 0] Q1 rfl rfl e2 rfl rfl sz24 rfl rfl rfl ?_
        intro w21 hS Qn
        replace Q1 := Qn
        clear Qn
        replace M := hS.mo _ N_k1 M
        clear hS
        refine wl_mv (.const (.int .i64 (10))) (.int .i64 (10)) (fun _ => rfl) rfl rfl ?_
        refine w_nil ?_
        refine xn_then ?_
        refine w_ret ?_
        refine xr_blk ?_
        refine xr_then ?_
        refine xr_then ?_
        refine xr_blk ?_
        refine xr_then ?_
        exact w_ret2 _ _ (.agg #[.int .u64 0, .int .u64 0, .int .u64 0, .int .u64 0]) (.int .i64 (10)) rfl ⟨k1, e2, (run_row Q1 24 0 4 [.int .u64 0, .int .u64 0, .int .u64 0, .int .u64 0] rfl Try.underlying24 rfl sz24)⟩ rfl ⟨by rw [if_neg (fun hT : isT s => by obtain ⟨_, _, h3⟩ := hT; have := h3 k hlt hlt; have := of_decide_eq_true hb; omega)], M⟩
      | false =>
        refine w_seq ?_
        refine w_seq ?_
        refine w_reg ?_
        refine wl_mv (.tmp 4) (.int .i64 ((k : Int))) (fun _ => rfl) e4 rfl ?_
        refine wl_mv (.tmp 0) (.string s) (fun _ => rfl) e0 rfl ?_
        refine wl_val (.int .i64 ((s.size : Int))) (len_run _ _ s rfl _ _ _ _ _ _) rfl ?_
        refine wl_bin (fun x y => do eqGuard .lss 3 (.tmp 24) (.tmp 26) x y; binOp .lss 3 x y) (.tmp 24) (.tmp 26) (.int .i64 ((k : Int))) (.int .i64 ((s.size : Int))) (.bool true) (fun _ => rfl) rfl rfl (lt3_run hl _ _ _) rfl ?_
        refine w_nil ?_
        refine xn_then ?_
        refine w_condT rfl ?_
        refine w_skip ?_
        refine xn_then ?_
        refine w_seq ?_
        refine w_block ?_
        refine w_seq ?_
        refine w_reg ?_
        refine wl_mv (.tmp 0) (.string s) (fun _ => rfl) e0 rfl ?_
        refine wl_mv (.tmp 4) (.int .i64 ((k : Int))) (fun _ => rfl) e4 rfl ?_
        refine wl_bin (fun x y => Instr.index 9 x y) (.tmp 30) (.tmp 31) (.string s) (.int .i64 ((k : Int))) (.int .u8 (s[k].toNat : Int)) (fun _ => rfl) rfl rfl (idx_s s k hlt _) rfl ?_
        refine wl_bin (fun x y => do eqGuard .lss 5 (.tmp 32) (.const (.int .u8 (48))) x y; binOp .lss 5 x y) (.tmp 32) (.const (.int .u8 (48))) (.int .u8 (s[k].toNat : Int)) (.int .u8 (48)) (.bool false) (fun _ => rfl) rfl rfl (ls5 ha _ _ _) rfl ?_
        refine wl_mv (.tmp 33) (.bool false) (fun _ => rfl) rfl rfl ?_
        refine wl_mv (.tmp 0) (.string s) (fun _ => rfl) e0 rfl ?_
        refine wl_mv (.tmp 4) (.int .i64 ((k : Int))) (fun _ => rfl) e4 rfl ?_
        refine wl_bin (fun x y => Instr.index 9 x y) (.tmp 35) (.tmp 36) (.string s) (.int .i64 ((k : Int))) (.int .u8 (s[k].toNat : Int)) (fun _ => rfl) rfl rfl (idx_s s k hlt _) rfl ?_
        refine wl_bin (fun x y => do eqGuard .gtr 5 (.tmp 37) (.const (.int .u8 (57))) x y; binOp .gtr 5 x y) (.tmp 37) (.const (.int .u8 (57))) (.int .u8 (s[k].toNat : Int)) (.int .u8 (57)) (.bool false) (fun _ => rfl) rfl rfl (gt5_run hb _ _ _) rfl ?_
        refine wl_pick (.tmp 34) (.const (.bool true)) (.tmp 38) false (.bool false) (fun _ => rfl) rfl rfl rfl ?_
        refine w_nil ?_
        refine xn_then ?_
        refine w_condF rfl ?_
        refine w_skip ?_
        refine xn_blk ?_
        refine xn_then ?_
        refine w_reg ?_
        refine wl_mv (.tmp 4) (.int .i64 ((k : Int))) (fun _ => rfl) e4 rfl ?_
        refine wl_bin (fun x y => do eqGuard .add 3 (.tmp 28) (.const (.int .i64 (1))) x y; binOp .add 3 x y) (.tmp 28) (.const (.int .i64 (1))) (.int .i64 ((k : Int))) (.int .i64 (1)) (.int .i64 (((k + 1 : Nat) : Int))) (fun _ => rfl) rfl rfl (add1_run (by unfold maxLen at hs; omega) _ _ _) rfl ?_
        refine wl_mv (.tmp 29) (.int .i64 (((k + 1 : Nat) : Int))) (fun _ => rfl) rfl rfl ?_
        refine w_nil ?_
        exact xn_loop (s.size - (k + 1)) (by omega) ⟨k + 1, by omega, e0, rfl, e2, Q1, dgs_succ hlt hd (by have := of_decide_eq_false ha; omega) (by have := of_decide_eq_false hb; omega), M, i7, i8, i9⟩
  · have hl : decide ((k : Int) < (s.size : Int)) = false := decide_eq_false (by omega)
    cases h78 : decide ((s.size : Int) > 78) with
    | true =>
      refine w_seq ?_
      refine w_seq ?_
      refine w_reg ?_
      refine wl_mv (.tmp 4) (.int .i64 ((k : Int))) (fun _ => rfl) e4 rfl ?_
      refine wl_mv (.tmp 0) (.string s) (fun _ => rfl) e0 rfl ?_
      refine wl_val (.int .i64 ((s.size : Int))) (len_run _ _ s rfl _ _ _ _ _ _) rfl ?_
      refine wl_bin (fun x y => do eqGuard .lss 3 (.tmp 24) (.tmp 26) x y; binOp .lss 3 x y) (.tmp 24) (.tmp 26) (.int .i64 ((k : Int))) (.int .i64 ((s.size : Int))) (.bool false) (fun _ => rfl) rfl rfl (lt3_run hl _ _ _) rfl ?_
      refine w_nil ?_
      refine xn_then ?_
      refine w_condF rfl ?_
      refine w_exit ?_
      refine xx_then ?_
      refine xx_then ?_
      refine xx_blk ?_
      refine xn_then ?_
      refine w_seq ?_
      refine w_seq ?_
      refine w_reg ?_
      refine wl_mv (.tmp 0) (.string s) (fun _ => rfl) e0 rfl ?_
      refine wl_val (.int .i64 ((s.size : Int))) (len_run _ _ s rfl _ _ _ _ _ _) rfl ?_
      refine wl_bin (fun x y => do eqGuard .gtr 3 (.tmp 42) (.const (.int .i64 (78))) x y; binOp .gtr 3 x y) (.tmp 42) (.const (.int .i64 (78))) (.int .i64 ((s.size : Int))) (.int .i64 (78)) (.bool true) (fun _ => rfl) rfl rfl (gt3_run h78 _ _ _) rfl ?_
      refine w_nil ?_
      refine xn_then ?_
      refine w_condT rfl ?_
      refine w_seq ?_
      refine w_reg ?_
      refine wl_build 24 [] [] (.agg #[.int .u64 0, .int .u64 0, .int .u64 0, .int .u64 0]) rfl rfl (by kernel_rfl) rfl ?_
      refine wl_st 24 (.tmp 2) (.tmp 44) k1 0 #[.int .u64 0, .int .u64 0, .int .u64 0, .int .u64 0] [.int .u64 0, .int .u64 0, .int .u64 0, .int .u64 0] [.int .u64 0, .int .u64 0, .int .u64 0, .int .u64 0] Q1 rfl rfl e2 rfl rfl sz24 rfl rfl rfl ?_
      intro w21 hS Qn
      replace Q1 := Qn
      clear Qn
      replace M := hS.mo _ N_k1 M
      clear hS
      refine wl_mv (.const (.int .i64 (7))) (.int .i64 (7)) (fun _ => rfl) rfl rfl ?_
      refine w_nil ?_
      refine xn_then ?_
      refine w_ret ?_
      refine xr_then ?_
      exact w_ret2 _ _ (.agg #[.int .u64 0, .int .u64 0, .int .u64 0, .int .u64 0]) (.int .i64 (7)) rfl ⟨k1, e2, (run_row Q1 24 0 4 [.int .u64 0, .int .u64 0, .int .u64 0, .int .u64 0] rfl Try.underlying24 rfl sz24)⟩ rfl ⟨by rw [if_pos (isT_mk hp hlead (by omega) hd), resP_long hp (dgs_end hk hlt hd) hz0 (by have := of_decide_eq_true h78; omega)], M⟩
    | false =>
      refine w_seq ?_
      refine w_seq ?_
      refine w_reg ?_
      refine wl_mv (.tmp 4) (.int .i64 ((k : Int))) (fun _ => rfl) e4 rfl ?_
      refine wl_mv (.tmp 0) (.string s) (fun _ => rfl) e0 rfl ?_
      refine wl_val (.int .i64 ((s.size : Int))) (len_run _ _ s rfl _ _ _ _ _ _) rfl ?_
      refine wl_bin (fun x y => do eqGuard .lss 3 (.tmp 24) (.tmp 26) x y; binOp .lss 3 x y) (.tmp 24) (.tmp 26) (.int .i64 ((k : Int))) (.int .i64 ((s.size : Int))) (.bool false) (fun _ => rfl) rfl rfl (lt3_run hl _ _ _) rfl ?_
      refine w_nil ?_
      refine xn_then ?_
      refine w_condF rfl ?_
      refine w_exit ?_
      refine xx_then ?_
      refine xx_then ?_
      refine xx_blk ?_
      refine xn_then ?_
      refine w_seq ?_
      refine w_seq ?_
      refine w_reg ?_
      refine wl_mv (.tmp 0) (.string s) (fun _ => rfl) e0 rfl ?_
      refine wl_val (.int .i64 ((s.size : Int))) (len_run _ _ s rfl _ _ _ _ _ _) rfl ?_
      refine wl_bin (fun x y => do eqGuard .gtr 3 (.tmp 42) (.const (.int .i64 (78))) x y; binOp .gtr 3 x y) (.tmp 42) (.const (.int .i64 (78))) (.int .i64 ((s.size : Int))) (.int .i64 (78)) (.bool false) (fun _ => rfl) rfl rfl (gt3_run h78 _ _ _) rfl ?_
      refine w_nil ?_
      refine xn_then ?_
      refine w_condF rfl ?_
      refine w_skip ?_
      refine xn_then ?_
      refine w_seq ?_
      refine w_reg ?_
      refine wl_alloc 24 #[.int .u64 0, .int .u64 0, .int .u64 0, .int .u64 0] rfl (fun _ => by kernel_rfl) rfl ?_
      intro k21 w21 hk hz hq Q21
      have ne_k1_k21 : k1 ≠ k21 := by have := Q1.lt; omega
      have N_k21 : w.heap.size ≤ k21 := by have := M.size; omega
      replace Q1 := Q1.mo hq
      replace M := M.trans hq
      clear hk hz hq
      refine w_nil ?_
      refine xn_then ?_
      refine w_seq ?_
      refine w_seq ?_
      refine w_reg ?_
      refine wl_mv (.const (.int .i64 (0))) (.int .i64 (0)) (fun _ => rfl) rfl rfl ?_
      refine w_nil ?_
      refine xn_then ?_
      refine w_block ?_
      rw [if_pos (isT_mk hp hlead (by omega) hd)]
      have hT := dgs_end hk hlt hd
      refine w_loop (fun m l w1 => ∃ k : Nat, k + m = s.size ∧ look l 0 = .string s ∧ look l 6 = .int .i64 (k : Int) ∧ look l 2 = pt k1 0 ∧ look l 5 = pt k21 0 ∧ At w1 k1 [.int .u64 0, .int .u64 0, .int .u64 0, .int .u64 0] ∧ At w1 k21 (nvli (pvk s k)) ∧ pvk s k < MM ∧ Mo w w1 ∧ (∀ k, look l 7 = pt k 0 → k < w1.heap.size) ∧ (∀ k, look l 8 = pt k 0 → k < w1.heap.size) ∧ (∀ k, look l 7 = pt k 0 → look l 8 ≠ pt k 0) ∧ (∀ k, look l 9 = pt k 0 → k < w1.heap.size)) s.size ⟨0, by omega, e0, rfl, e2, rfl, Q1, Q21, by rw [pvk_z]; decide, M, (fun k h => (npt i7 h).elim), (fun k h => (npt i8 h).elim), (fun k h => (npt i7 h).elim), (fun k h => (npt i9 h).elim)⟩ ?_
      clear M Q1 Q21 hd hl h78 hk e0 e2 e4 i7 i8 i9 hlt
      rintro m2 l2 wl2 ⟨k, hk, e0, e6, e2, e5, Q1, Q21, hv, M, d7, d8, d78, d9⟩
      have hv0 := pvk_nn hT k (by omega)
      by_cases hlt : k < s.size
      · have hl : decide ((k : Int) < (s.size : Int)) = true := decide_eq_true (by omega)
        have hc := hT k hlt hlt
        have hsz := M.size
        by_cases hhi : pvk s k * 10 < MM
        · have hz := hi0z (show 0 ≤ pvk s k * 10 by omega) hhi
          by_cases hsm : pvk s k * 10 + ((s[k].toNat : Int) - 48) < MM
          · obtain ⟨Z, hZ⟩ : ∃ Z, Z = pvk s k * 10 + ((s[k].toNat : Int) - 48) := ⟨_, rfl⟩
            have hsum := fun w => rsum_ok (pvk s k * 10) ((s[k].toNat : Int) - 48) Z w (by omega) (by omega) hZ hhi hsm
            refine w_seq ?_
            refine w_seq ?_
            refine w_reg ?_
            refine wl_mv (.tmp 6) (.int .i64 ((k : Int))) (fun _ => rfl) e6 rfl ?_
            refine wl_mv (.tmp 0) (.string s) (fun _ => rfl) e0 rfl ?_
            refine wl_val (.int .i64 ((s.size : Int))) (len_run _ _ s rfl _ _ _ _ _ _) rfl ?_
            refine wl_bin (fun x y => do eqGuard .lss 3 (.tmp 45) (.tmp 47) x y; binOp .lss 3 x y) (.tmp 45) (.tmp 47) (.int .i64 ((k : Int))) (.int .i64 ((s.size : Int))) (.bool true) (fun _ => rfl) rfl rfl (lt3_run hl _ _ _) rfl ?_
            refine w_nil ?_
            refine xn_then ?_
            refine w_condT rfl ?_
            refine w_skip ?_
            refine xn_then ?_
            refine w_seq ?_
            refine w_block ?_
            refine w_seq ?_
            refine w_any 8 [.inl (nv (pvk s k)), .inl (nv (10)), .inl (.tuple #[nv (pvk s k * 10 / MM), nv (pvk s k * 10)]), .inl (.tuple #[nv (pvk s k * 10 / MM), nv (pvk s k * 10)]), .inl (nv (pvk s k * 10 / MM)), .inl (nv (pvk s k * 10)), .inr [.int .u64 0, .int .u64 0, .int .u64 0, .int .u64 0], .inr [.int .u64 0, .int .u64 0, .int .u64 0, .int .u64 0]] [5] (by kernel_rfl) (by kernel_rfl) (by kernel_rfl) (by kernel_rfl) rfl (by kernel_rfl) (by kernel_rfl) (late_cons ⟨_, _, rfl, rfl, fun _ _ _ _ h => h, fun f hd => ⟨rfl, la_un (fun v => Instr.extract v 1) (.tmp 51) (.tuple #[nv (pvk s k * 10 / MM), nv (pvk s k * 10)]) (nv (pvk s k * 10)) (fun _ => rfl) (hd 3 rfl _ rfl) (fun w => by kernel_rfl)⟩⟩ late_nil) ?_ ?_ ?_
            · exact Ds.two 6 7 (fun q hq => by rcases q with _ | _ | _ | _ | _ | _ | _ | _ | q <;> first | (left; rfl) | (right; rfl) | cases hq) d7 d8 d78
            · refine ea_cons ?_ (ea_cons ?_ (ea_cons ?_ (ea_cons ?_ (ea_cons ?_ (ea_cons ?_ (ea_cons ?_ (ea_cons ?_ (ea_nil))))))))
              · exact og_eq (nv (pvk s k)) rfl (fun f wf hq hd K hK => have Q21 := Q21.mo hq; go_run rfl (wo_load 24 (.tmp 5) (pt k21 0) (nv (pvk s k)) rfl e5 (run_row Q21 24 0 4 (nvli (pvk s k)) rfl Try.underlying24 rfl sz24) (hK _ (Mo.refl _))))
              · exact og_eq (nv (10)) rfl (fun f wf hq hd K hK => go_run rfl (wo_call 69 [(.const (.int .u64 (10)))] _ [.int .u64 (10)] (nv (10)) rfl rfl (fun _ _ => by kernel_rfl) (from69_n _) hK))
              · exact og_eq (.tuple #[nv (pvk s k * 10 / MM), nv (pvk s k * 10)]) rfl (fun f wf hq hd K hK => go_run rfl (wo_call 16 [(.tmp 52), (.tmp 53)] _ [nv (pvk s k), nv (10)] (.tuple #[nv (pvk s k * 10 / MM), nv (pvk s k * 10)]) rfl (li2 (hd 0 rfl) (hd 1 rfl)) (fun _ _ => by kernel_rfl) (rmul_n (pvk s k) 10 _ hv0 hv (by decide) (by decide)) hK))
              · exact og_eq (.tuple #[nv (pvk s k * 10 / MM), nv (pvk s k * 10)]) rfl (fun f wf hq hd K hK => go_run rfl (wo_mv (.tmp 54) (.tuple #[nv (pvk s k * 10 / MM), nv (pvk s k * 10)]) (fun _ => rfl) (hd 2 rfl) (hK _ (Mo.refl _))))
              · exact og_eq (nv (pvk s k * 10 / MM)) rfl (fun f wf hq hd K hK => go_run rfl (wo_un (fun v => Instr.extract v 0) (.tmp 51) (.tuple #[nv (pvk s k * 10 / MM), nv (pvk s k * 10)]) (nv (pvk s k * 10 / MM)) (fun _ => rfl) (hd 3 rfl) (by kernel_rfl) (hK _ (Mo.refl _))))
              · exact og_eq (nv (pvk s k * 10)) rfl (fun f wf hq hd K hK => go_run rfl (wo_un (fun v => Instr.extract v 1) (.tmp 51) (.tuple #[nv (pvk s k * 10 / MM), nv (pvk s k * 10)]) (nv (pvk s k * 10)) (fun _ => rfl) (hd 3 rfl) (by kernel_rfl) (hK _ (Mo.refl _))))
              · exact og_new [.int .u64 0, .int .u64 0, .int .u64 0, .int .u64 0] rfl (fun f wf hq hd K hK => go_run rfl (wo_alloc 24 #[.int .u64 0, .int .u64 0, .int .u64 0, .int .u64 0] rfl (fun _ => by kernel_rfl) hK))
              · exact og_new [.int .u64 0, .int .u64 0, .int .u64 0, .int .u64 0] rfl (fun f wf hq hd K hK => go_run rfl (wo_alloc 24 #[.int .u64 0, .int .u64 0, .int .u64 0, .int .u64 0] rfl (fun _ => by kernel_rfl) hK))
            intro kf51 w51 hq hR hne
            obtain ⟨N_k51, Q51⟩ := hR 6 _ rfl rfl
            obtain ⟨N_k52, Q52⟩ := hR 7 _ rfl rfl
            have ne_k1_k51 : k1 ≠ (kf51 6) := by have := Q1.lt; omega
            have ne_k21_k51 : k21 ≠ (kf51 6) := by have := Q21.lt; omega
            have ne_k51_k52 := hne 6 7 rfl rfl rfl rfl (by decide)
            replace N_k51 := Nat.le_trans M.size N_k51
            have ne_k1_k52 : k1 ≠ (kf51 7) := by have := Q1.lt; omega
            have ne_k21_k52 : k21 ≠ (kf51 7) := by have := Q21.lt; omega
            replace N_k52 := Nat.le_trans M.size N_k52
            replace d9 := fun k h => Nat.lt_of_lt_of_le (d9 k h) hq.size
            replace Q1 := Q1.mo hq
            replace Q21 := Q21.mo hq
            replace M := M.trans hq
            clear hq hR hne
            refine wl_st 24 (.tmp 7) (.tmp 55) (kf51 6) 0 (nvar (pvk s k * 10 / MM)) [.int .u64 0, .int .u64 0, .int .u64 0, .int .u64 0] (nvli (pvk s k * 10 / MM)) Q51 rfl rfl rfl rfl rfl sz24 rfl rfl rfl ?_
            intro w52 hS Qn
            replace Q51 := Qn
            clear Qn
            replace Q1 := hS.other _ _ ne_k1_k51 Q1
            replace Q21 := hS.other _ _ ne_k21_k51 Q21
            replace Q52 := hS.other _ _ ne_k51_k52.symm Q52
            replace d9 := fun k h => Nat.lt_of_lt_of_le (d9 k h) (Nat.le_of_eq hS.size.symm)
            replace M := hS.mo _ N_k51 M
            clear hS
            refine wl_st 24 (.tmp 8) (.tmp 56) (kf51 7) 0 (nvar (pvk s k * 10)) [.int .u64 0, .int .u64 0, .int .u64 0, .int .u64 0] (nvli (pvk s k * 10)) Q52 rfl rfl rfl rfl rfl sz24 rfl rfl rfl ?_
            intro w53 hS Qn
            replace Q52 := Qn
            clear Qn
            replace Q1 := hS.other _ _ ne_k1_k52 Q1
            replace Q21 := hS.other _ _ ne_k21_k52 Q21
            replace Q51 := hS.other _ _ ne_k51_k52 Q51
            replace d9 := fun k h => Nat.lt_of_lt_of_le (d9 k h) (Nat.le_of_eq hS.size.symm)
            replace M := hS.mo _ N_k52 M
            clear hS
            refine w_nil ?_
            refine xn_then ?_
            refine w_seq ?_
            refine w_any 12 [.inl (nv (pvk s k * 10)), .inl (.string s), .inl (.int .i64 ((k : Int))), .inl (.int .u8 (s[k].toNat : Int)), .inl (.int .u8 ((s[k].toNat : Int) - 48)), .inl (.int .u64 ((s[k].toNat : Int) - 48)), .inl (nv (((s[k].toNat : Int) - 48))), .inl (.tuple #[nv (Z), .bool false]), .inl (.tuple #[nv (Z), .bool false]), .inl (nv (Z)), .inl (.bool false), .inr [.int .u64 0, .int .u64 0, .int .u64 0, .int .u64 0]] [10] (by kernel_rfl) (by kernel_rfl) (by kernel_rfl) (by kernel_rfl) rfl (by kernel_rfl) (by kernel_rfl) (late_cons ⟨_, _, rfl, rfl, fun _ _ _ _ h => h, fun f hd => ⟨rfl, la_un (fun v => Instr.extract v 1) (.tmp 57) (.tuple #[nv (Z), .bool false]) (.bool false) (fun _ => rfl) (hd 8 rfl _ rfl) (fun w => by kernel_rfl)⟩⟩ late_nil) ?_ ?_ ?_
            · exact Ds.one 11 (fun q hq => by rcases q with _ | _ | _ | _ | _ | _ | _ | _ | _ | _ | _ | _ | q <;> first | rfl | cases hq) d9
            · refine ea_cons ?_ (ea_cons ?_ (ea_cons ?_ (ea_cons ?_ (ea_cons ?_ (ea_cons ?_ (ea_cons ?_ (ea_cons ?_ (ea_cons ?_ (ea_cons ?_ (ea_cons ?_ (ea_cons ?_ (ea_nil))))))))))))
              · exact og_eq (nv (pvk s k * 10)) rfl (fun f wf hq hd K hK => have Q52 := Q52.mo hq; go_run rfl (wo_load 24 (.tmp 8) (pt (kf51 7) 0) (nv (pvk s k * 10)) rfl rfl (run_row Q52 24 0 4 (nvli (pvk s k * 10)) rfl Try.underlying24 rfl sz24) (hK _ (Mo.refl _))))
              · exact og_eq (.string s) rfl (fun f wf hq hd K hK => go_run rfl (wo_mv (.tmp 0) (.string s) (fun _ => rfl) e0 (hK _ (Mo.refl _))))
              · exact og_eq (.int .i64 ((k : Int))) rfl (fun f wf hq hd K hK => go_run rfl (wo_mv (.tmp 6) (.int .i64 ((k : Int))) (fun _ => rfl) e6 (hK _ (Mo.refl _))))
              · exact og_eq (.int .u8 (s[k].toNat : Int)) rfl (fun f wf hq hd K hK => go_run rfl (wo_bin (fun x y => Instr.index 9 x y) (.tmp 59) (.tmp 60) (.string s) (.int .i64 ((k : Int))) (.int .u8 (s[k].toNat : Int)) (fun _ => rfl) (hd 1 rfl) (hd 2 rfl) (idx_s s k hlt _) (hK _ (Mo.refl _))))
              · exact og_eq (.int .u8 ((s[k].toNat : Int) - 48)) rfl (fun f wf hq hd K hK => go_run rfl (wo_bin (fun x y => do eqGuard .sub 5 (.tmp 61) (.const (.int .u8 (48))) x y; binOp .sub 5 x y) (.tmp 61) (.const (.int .u8 (48))) (.int .u8 (s[k].toNat : Int)) (.int .u8 (48)) (.int .u8 ((s[k].toNat : Int) - 48)) (fun _ => rfl) (hd 3 rfl) rfl (subu8_run hc.1 hc.2 _ _ _) (hK _ (Mo.refl _))))
              · exact og_eq (.int .u64 ((s[k].toNat : Int) - 48)) rfl (fun f wf hq hd K hK => go_run rfl (wo_un (fun v => convert 5 22 v) (.tmp 62) (.int .u8 ((s[k].toNat : Int) - 48)) (.int .u64 ((s[k].toNat : Int) - 48)) (fun _ => rfl) (hd 4 rfl) (cv8_run (by omega) (by omega) _) (hK _ (Mo.refl _))))
              · exact og_eq (nv (((s[k].toNat : Int) - 48))) rfl (fun f wf hq hd K hK => go_run rfl (wo_call 69 [(.tmp 63)] _ [.int .u64 ((s[k].toNat : Int) - 48)] (nv (((s[k].toNat : Int) - 48))) rfl (li1 (hd 5 rfl)) (fun _ _ => by kernel_rfl) (from34_any ((s[k].toNat : Int) - 48) _ ⟨by omega, by omega⟩) hK))
              · exact og_eq (.tuple #[nv (Z), .bool false]) rfl (fun f wf hq hd K hK => go_run rfl (wo_call 64 [(.tmp 58), (.tmp 64)] _ [nv (pvk s k * 10), nv (((s[k].toNat : Int) - 48))] (.tuple #[nv (Z), .bool false]) rfl (li2 (hd 0 rfl) (hd 6 rfl)) (fun _ _ => by kernel_rfl) (hsum _) hK))
              · exact og_eq (.tuple #[nv (Z), .bool false]) rfl (fun f wf hq hd K hK => go_run rfl (wo_mv (.tmp 65) (.tuple #[nv (Z), .bool false]) (fun _ => rfl) (hd 7 rfl) (hK _ (Mo.refl _))))
              · exact og_eq (nv (Z)) rfl (fun f wf hq hd K hK => go_run rfl (wo_un (fun v => Instr.extract v 0) (.tmp 57) (.tuple #[nv (Z), .bool false]) (nv (Z)) (fun _ => rfl) (hd 8 rfl) (by kernel_rfl) (hK _ (Mo.refl _))))
              · exact og_eq (.bool false) rfl (fun f wf hq hd K hK => go_run rfl (wo_un (fun v => Instr.extract v 1) (.tmp 57) (.tuple #[nv (Z), .bool false]) (.bool false) (fun _ => rfl) (hd 8 rfl) (by kernel_rfl) (hK _ (Mo.refl _))))
              · exact og_new [.int .u64 0, .int .u64 0, .int .u64 0, .int .u64 0] rfl (fun f wf hq hd K hK => go_run rfl (wo_alloc 24 #[.int .u64 0, .int .u64 0, .int .u64 0, .int .u64 0] rfl (fun _ => by kernel_rfl) hK))
            intro kf54 w54 hq hR hne
            obtain ⟨N_k53, Q53⟩ := hR 11 _ rfl rfl
            have ne_k1_k53 : k1 ≠ (kf54 11) := by have := Q1.lt; omega
            have ne_k21_k53 : k21 ≠ (kf54 11) := by have := Q21.lt; omega
            have ne_k51_k53 : (kf51 6) ≠ (kf54 11) := by have := Q51.lt; omega
            have ne_k52_k53 : (kf51 7) ≠ (kf54 11) := by have := Q52.lt; omega
            replace N_k53 := Nat.le_trans M.size N_k53
            replace d9 := fun k h => Nat.lt_of_lt_of_le (d9 k h) hq.size
            replace Q1 := Q1.mo hq
            replace Q21 := Q21.mo hq
            replace Q51 := Q51.mo hq
            replace Q52 := Q52.mo hq
            replace M := M.trans hq
            clear hq hR hne
            refine wl_st 24 (.tmp 9) (.tmp 66) (kf54 11) 0 (nvar (Z)) [.int .u64 0, .int .u64 0, .int .u64 0, .int .u64 0] (nvli (Z)) Q53 rfl rfl rfl rfl rfl sz24 rfl rfl rfl ?_
            intro w55 hS Qn
            replace Q53 := Qn
            clear Qn
            replace Q1 := hS.other _ _ ne_k1_k53 Q1
            replace Q21 := hS.other _ _ ne_k21_k53 Q21
            replace Q51 := hS.other _ _ ne_k51_k53 Q51
            replace Q52 := hS.other _ _ ne_k52_k53 Q52
            replace d9 := fun k h => Nat.lt_of_lt_of_le (d9 k h) (Nat.le_of_eq hS.size.symm)
            replace M := hS.mo _ N_k53 M
            clear hS
            refine wl_mv (.tmp 67) (.bool false) (fun _ => rfl) rfl rfl ?_
            refine w_nil ?_
            refine xn_then ?_
            refine w_seq ?_
            refine w_seq ?_
            refine w_reg ?_
            refine wl_load 24 (.tmp 7) (pt (kf51 6) 0) (nv (pvk s k * 10 / MM)) rfl rfl (run_row Q51 24 0 4 (nvli (pvk s k * 10 / MM)) rfl Try.underlying24 rfl sz24) rfl ?_
            refine wl_build 24 [] [] (.agg #[.int .u64 0, .int .u64 0, .int .u64 0, .int .u64 0]) rfl rfl (by kernel_rfl) rfl ?_
            refine wl_bin (fun x y => do eqGuard .neq 24 (.tmp 68) (.tmp 69) x y; binOp .neq 24 x y) (.tmp 68) (.tmp 69) (nv (pvk s k * 10 / MM)) (.agg #[.int .u64 0, .int .u64 0, .int .u64 0, .int .u64 0]) (.bool false) (fun _ => rfl) rfl rfl (nen_run (r := true) hz _ _ _) rfl ?_
            refine wl_mv (.tmp 70) (.bool false) (fun _ => rfl) rfl rfl ?_
            refine wl_mv (.tmp 10) (.bool false) (fun _ => rfl) rfl rfl ?_
            refine wl_pick (.tmp 71) (.const (.bool true)) (.tmp 72) false (.bool false) (fun _ => rfl) rfl rfl rfl ?_
            refine w_nil ?_
            refine xn_then ?_
            refine w_condF rfl ?_
            refine w_skip ?_
            refine xn_then ?_
            refine w_reg ?_
            refine wl_load 24 (.tmp 9) (pt (kf54 11) 0) (nv (Z)) rfl rfl (run_row Q53 24 0 4 (nvli (Z)) rfl Try.underlying24 rfl sz24) rfl ?_
            refine wl_st 24 (.tmp 5) (.tmp 75) k21 0 (nvar (Z)) (nvli (pvk s k)) (nvli (Z)) Q21 rfl rfl e5 rfl rfl sz24 rfl rfl rfl ?_
            intro w56 hS Qn
            replace Q21 := Qn
            clear Qn
            replace Q1 := hS.other _ _ ne_k1_k21 Q1
            replace Q51 := hS.other _ _ ne_k21_k51.symm Q51
            replace Q52 := hS.other _ _ ne_k21_k52.symm Q52
            replace Q53 := hS.other _ _ ne_k21_k53.symm Q53
            replace d9 := fun k h => Nat.lt_of_lt_of_le (d9 k h) (Nat.le_of_eq hS.size.symm)
            replace M := hS.mo _ N_k21 M
            clear hS
            refine w_nil ?_
            refine xn_blk ?_
            refine xn_then ?_
            refine w_reg ?_
            refine wl_mv (.tmp 6) (.int .i64 ((k : Int))) (fun _ => rfl) e6 rfl ?_
            refine wl_bin (fun x y => do eqGuard .add 3 (.tmp 49) (.const (.int .i64 (1))) x y; binOp .add 3 x y) (.tmp 49) (.const (.int .i64 (1))) (.int .i64 ((k : Int))) (.int .i64 (1)) (.int .i64 (((k + 1 : Nat) : Int))) (fun _ => rfl) rfl rfl (add1_run (by unfold maxLen at hs; omega) _ _ _) rfl ?_
            refine wl_mv (.tmp 50) (.int .i64 (((k + 1 : Nat) : Int))) (fun _ => rfl) rfl rfl ?_
            refine w_nil ?_
            exact xn_loop (s.size - (k + 1)) (by omega) ⟨k + 1, by omega, e0, rfl, e2, e5, Q1, by rw [pvk_succ s k hlt, ← hZ]; exact Q21, by rw [pvk_succ s k hlt]; exact hsm, M, (fun k h => by have e : pt (kf51 6) 0 = pt k 0 := h; rw [← pt_inj e]; exact Q51.lt), (fun k h => by have e : pt (kf51 7) 0 = pt k 0 := h; rw [← pt_inj e]; exact Q52.lt), (fun k h h2 => by have e : pt (kf51 6) 0 = pt k 0 := h; have e2 : pt (kf51 7) 0 = pt k 0 := h2; exact ne_k51_k52 (pt_inj (e.trans e2.symm))), (fun k h => by have e : pt (kf54 11) 0 = pt k 0 := h; rw [← pt_inj e]; exact Q53.lt)⟩
          · obtain ⟨Z, hsum⟩ := rsum_ov (pvk s k * 10) ((s[k].toNat : Int) - 48) (by omega) (by omega) (by omega) hhi hsm
            have hbig : ¬ pvk s k * 10 + ((s[k].toNat : Int) - 48) < MM := hsm
            refine w_seq ?_
            refine w_seq ?_
            refine w_reg ?_
            refine wl_mv (.tmp 6) (.int .i64 ((k : Int))) (fun _ => rfl) e6 rfl ?_
            refine wl_mv (.tmp 0) (.string s) (fun _ => rfl) e0 rfl ?_
            refine wl_val (.int .i64 ((s.size : Int))) (len_run _ _ s rfl _ _ _ _ _ _) rfl ?_
            refine wl_bin (fun x y => do eqGuard .lss 3 (.tmp 45) (.tmp 47) x y; binOp .lss 3 x y) (.tmp 45) (.tmp 47) (.int .i64 ((k : Int))) (.int .i64 ((s.size : Int))) (.bool true) (fun _ => rfl) rfl rfl (lt3_run hl _ _ _) rfl ?_
            refine w_nil ?_
            refine xn_then ?_
            refine w_condT rfl ?_
            refine w_skip ?_
            refine xn_then ?_
            refine w_seq ?_
            refine w_block ?_
            refine w_seq ?_
            refine w_any 8 [.inl (nv (pvk s k)), .inl (nv (10)), .inl (.tuple #[nv (pvk s k * 10 / MM), nv (pvk s k * 10)]), .inl (.tuple #[nv (pvk s k * 10 / MM), nv (pvk s k * 10)]), .inl (nv (pvk s k * 10 / MM)), .inl (nv (pvk s k * 10)), .inr [.int .u64 0, .int .u64 0, .int .u64 0, .int .u64 0], .inr [.int .u64 0, .int .u64 0, .int .u64 0, .int .u64 0]] [5] (by kernel_rfl) (by kernel_rfl) (by kernel_rfl) (by kernel_rfl) rfl (by kernel_rfl) (by kernel_rfl) (late_cons ⟨_, _, rfl, rfl, fun _ _ _ _ h => h, fun f hd => ⟨rfl, la_un (fun v => Instr.extract v 1) (.tmp 51) (.tuple #[nv (pvk s k * 10 / MM), nv (pvk s k * 10)]) (nv (pvk s k * 10)) (fun _ => rfl) (hd 3 rfl _ rfl) (fun w => by kernel_rfl)⟩⟩ late_nil) ?_ ?_ ?_
            · exact Ds.two 6 7 (fun q hq => by rcases q with _ | _ | _ | _ | _ | _ | _ | _ | q <;> first | (left; rfl) | (right; rfl) | cases hq) d7 d8 d78
            · refine ea_cons ?_ (ea_cons ?_ (ea_cons ?_ (ea_cons ?_ (ea_cons ?_ (ea_cons ?_ (ea_cons ?_ (ea_cons ?_ (ea_nil))))))))
              · exact og_eq (nv (pvk s k)) rfl (fun f wf hq hd K hK => have Q21 := Q21.mo hq; go_run rfl (wo_load 24 (.tmp 5) (pt k21 0) (nv (pvk s k)) rfl e5 (run_row Q21 24 0 4 (nvli (pvk s k)) rfl Try.underlying24 rfl sz24) (hK _ (Mo.refl _))))
              · exact og_eq (nv (10)) rfl (fun f wf hq hd K hK => go_run rfl (wo_call 69 [(.const (.int .u64 (10)))] _ [.int .u64 (10)] (nv (10)) rfl rfl (fun _ _ => by kernel_rfl) (from69_n _) hK))
              · exact og_eq (.tuple #[nv (pvk s k * 10 / MM), nv (pvk s k * 10)]) rfl (fun f wf hq hd K hK => go_run rfl (wo_call 16 [(.tmp 52), (.tmp 53)] _ [nv (pvk s k), nv (10)] (.tuple #[nv (pvk s k * 10 / MM), nv (pvk s k * 10)]) rfl (li2 (hd 0 rfl) (hd 1 rfl)) (fun _ _ => by kernel_rfl) (rmul_n (pvk s k) 10 _ hv0 hv (by decide) (by decide)) hK))
              · exact og_eq (.tuple #[nv (pvk s k * 10 / MM), nv (pvk s k * 10)]) rfl (fun f wf hq hd K hK => go_run rfl (wo_mv (.tmp 54) (.tuple #[nv (pvk s k * 10 / MM), nv (pvk s k * 10)]) (fun _ => rfl) (hd 2 rfl) (hK _ (Mo.refl _))))
              · exact og_eq (nv (pvk s k * 10 / MM)) rfl (fun f wf hq hd K hK => go_run rfl (wo_un (fun v => Instr.extract v 0) (.tmp 51) (.tuple #[nv (pvk s k * 10 / MM), nv (pvk s k * 10)]) (nv (pvk s k * 10 / MM)) (fun _ => rfl) (hd 3 rfl) (by kernel_rfl) (hK _ (Mo.refl _))))
              · exact og_eq (nv (pvk s k * 10)) rfl (fun f wf hq hd K hK => go_run rfl (wo_un (fun v => Instr.extract v 1) (.tmp 51) (.tuple #[nv (pvk s k * 10 / MM), nv (pvk s k * 10)]) (nv (pvk s k * 10)) (fun _ => rfl) (hd 3 rfl) (by kernel_rfl) (hK _ (Mo.refl _))))
              · exact og_new [.int .u64 0, .int .u64 0, .int .u64 0, .int .u64 0] rfl (fun f wf hq hd K hK => go_run rfl (wo_alloc 24 #[.int .u64 0, .int .u64 0, .int .u64 0, .int .u64 0] rfl (fun _ => by kernel_rfl) hK))
              · exact og_new [.int .u64 0, .int .u64 0, .int .u64 0, .int .u64 0] rfl (fun f wf hq hd K hK => go_run rfl (wo_alloc 24 #[.int .u64 0, .int .u64 0, .int .u64 0, .int .u64 0] rfl (fun _ => by kernel_rfl) hK))
            intro kf51 w51 hq hR hne
            obtain ⟨N_k51, Q51⟩ := hR 6 _ rfl rfl
            obtain ⟨N_k52, Q52⟩ := hR 7 _ rfl rfl
            have ne_k1_k51 : k1 ≠ (kf51 6) := by have := Q1.lt; omega
            have ne_k21_k51 : k21 ≠ (kf51 6) := by have := Q21.lt; omega
            have ne_k51_k52 := hne 6 7 rfl rfl rfl rfl (by decide)
            replace N_k51 := Nat.le_trans M.size N_k51
            have ne_k1_k52 : k1 ≠ (kf51 7) := by have := Q1.lt; omega
            have ne_k21_k52 : k21 ≠ (kf51 7) := by have := Q21.lt; omega
            replace N_k52 := Nat.le_trans M.size N_k52
            replace d9 := fun k h => Nat.lt_of_lt_of_le (d9 k h) hq.size
            replace Q1 := Q1.mo hq
            replace Q21 := Q21.mo hq
            replace M := M.trans hq
            clear hq hR hne
            refine wl_st 24 (.tmp 7) (.tmp 55) (kf51 6) 0 (nvar (pvk s k * 10 / MM)) [.int .u64 0, .int .u64 0, .int .u64 0, .int .u64 0] (nvli (pvk s k * 10 / MM)) Q51 rfl rfl rfl rfl rfl sz24 rfl rfl rfl ?_
            intro w52 hS Qn
            replace Q51 := Qn
            clear Qn
            replace Q1 := hS.other _ _ ne_k1_k51 Q1
            replace Q21 := hS.other _ _ ne_k21_k51 Q21
            replace Q52 := hS.other _ _ ne_k51_k52.symm Q52
            replace d9 := fun k h => Nat.lt_of_lt_of_le (d9 k h) (Nat.le_of_eq hS.size.symm)
            replace M := hS.mo _ N_k51 M
            clear hS
            refine wl_st 24 (.tmp 8) (.tmp 56) (kf51 7) 0 (nvar (pvk s k * 10)) [.int .u64 0, .int .u64 0, .int .u64 0, .int .u64 0] (nvli (pvk s k * 10)) Q52 rfl rfl rfl rfl rfl sz24 rfl rfl rfl ?_
            intro w53 hS Qn
            replace Q52 := Qn
            clear Qn
            replace Q1 := hS.other _ _ ne_k1_k52 Q1
            replace Q21 := hS.other _ _ ne_k21_k52 Q21
            replace Q51 := hS.other _ _ ne_k51_k52 Q51
            replace d9 := fun k h => Nat.lt_of_lt_of_le (d9 k h) (Nat.le_of_eq hS.size.symm)
            replace M := hS.mo _ N_k52 M
            clear hS
            refine w_nil ?_
            refine xn_then ?_
            refine w_seq ?_
            refine w_any 12 [.inl (nv (pvk s k * 10)), .inl (.string s), .inl (.int .i64 ((k : Int))), .inl (.int .u8 (s[k].toNat : Int)), .inl (.int .u8 ((s[k].toNat : Int) - 48)), .inl (.int .u64 ((s[k].toNat : Int) - 48)), .inl (nv (((s[k].toNat : Int) - 48))), .inl (.tuple #[nv (Z), .bool true]), .inl (.tuple #[nv (Z), .bool true]), .inl (nv (Z)), .inl (.bool true), .inr [.int .u64 0, .int .u64 0, .int .u64 0, .int .u64 0]] [10] (by kernel_rfl) (by kernel_rfl) (by kernel_rfl) (by kernel_rfl) rfl (by kernel_rfl) (by kernel_rfl) (late_cons ⟨_, _, rfl, rfl, fun _ _ _ _ h => h, fun f hd => ⟨rfl, la_un (fun v => Instr.extract v 1) (.tmp 57) (.tuple #[nv (Z), .bool true]) (.bool true) (fun _ => rfl) (hd 8 rfl _ rfl) (fun w => by kernel_rfl)⟩⟩ late_nil) ?_ ?_ ?_
            · exact Ds.one 11 (fun q hq => by rcases q with _ | _ | _ | _ | _ | _ | _ | _ | _ | _ | _ | _ | q <;> first | rfl | cases hq) d9
            · refine ea_cons ?_ (ea_cons ?_ (ea_cons ?_ (ea_cons ?_ (ea_cons ?_ (ea_cons ?_ (ea_cons ?_ (ea_cons ?_ (ea_cons ?_ (ea_cons ?_ (ea_cons ?_ (ea_cons ?_ (ea_nil))))))))))))
              · exact og_eq (nv (pvk s k * 10)) rfl (fun f wf hq hd K hK => have Q52 := Q52.mo hq; go_run rfl (wo_load 24 (.tmp 8) (pt (kf51 7) 0) (nv (pvk s k * 10)) rfl rfl (run_row Q52 24 0 4 (nvli (pvk s k * 10)) rfl Try.underlying24 rfl sz24) (hK _ (Mo.refl _))))
              · exact og_eq (.string s) rfl (fun f wf hq hd K hK => go_run rfl (wo_mv (.tmp 0) (.string s) (fun _ => rfl) e0 (hK _ (Mo.refl _))))
              · exact og_eq (.int .i64 ((k : Int))) rfl (fun f wf hq hd K hK => go_run rfl (wo_mv (.tmp 6) (.int .i64 ((k : Int))) (fun _ => rfl) e6 (hK _ (Mo.refl _))))
              · exact og_eq (.int .u8 (s[k].toNat : Int)) rfl (fun f wf hq hd K hK => go_run rfl (wo_bin (fun x y => Instr.index 9 x y) (.tmp 59) (.tmp 60) (.string s) (.int .i64 ((k : Int))) (.int .u8 (s[k].toNat : Int)) (fun _ => rfl) (hd 1 rfl) (hd 2 rfl) (idx_s s k hlt _) (hK _ (Mo.refl _))))
              · exact og_eq (.int .u8 ((s[k].toNat : Int) - 48)) rfl (fun f wf hq hd K hK => go_run rfl (wo_bin (fun x y => do eqGuard .sub 5 (.tmp 61) (.const (.int .u8 (48))) x y; binOp .sub 5 x y) (.tmp 61) (.const (.int .u8 (48))) (.int .u8 (s[k].toNat : Int)) (.int .u8 (48)) (.int .u8 ((s[k].toNat : Int) - 48)) (fun _ => rfl) (hd 3 rfl) rfl (subu8_run hc.1 hc.2 _ _ _) (hK _ (Mo.refl _))))
              · exact og_eq (.int .u64 ((s[k].toNat : Int) - 48)) rfl (fun f wf hq hd K hK => go_run rfl (wo_un (fun v => convert 5 22 v) (.tmp 62) (.int .u8 ((s[k].toNat : Int) - 48)) (.int .u64 ((s[k].toNat : Int) - 48)) (fun _ => rfl) (hd 4 rfl) (cv8_run (by omega) (by omega) _) (hK _ (Mo.refl _))))
              · exact og_eq (nv (((s[k].toNat : Int) - 48))) rfl (fun f wf hq hd K hK => go_run rfl (wo_call 69 [(.tmp 63)] _ [.int .u64 ((s[k].toNat : Int) - 48)] (nv (((s[k].toNat : Int) - 48))) rfl (li1 (hd 5 rfl)) (fun _ _ => by kernel_rfl) (from34_any ((s[k].toNat : Int) - 48) _ ⟨by omega, by omega⟩) hK))
              · exact og_eq (.tuple #[nv (Z), .bool true]) rfl (fun f wf hq hd K hK => go_run rfl (wo_call 64 [(.tmp 58), (.tmp 64)] _ [nv (pvk s k * 10), nv (((s[k].toNat : Int) - 48))] (.tuple #[nv (Z), .bool true]) rfl (li2 (hd 0 rfl) (hd 6 rfl)) (fun _ _ => by kernel_rfl) (hsum _) hK))
              · exact og_eq (.tuple #[nv (Z), .bool true]) rfl (fun f wf hq hd K hK => go_run rfl (wo_mv (.tmp 65) (.tuple #[nv (Z), .bool true]) (fun _ => rfl) (hd 7 rfl) (hK _ (Mo.refl _))))
              · exact og_eq (nv (Z)) rfl (fun f wf hq hd K hK => go_run rfl (wo_un (fun v => Instr.extract v 0) (.tmp 57) (.tuple #[nv (Z), .bool true]) (nv (Z)) (fun _ => rfl) (hd 8 rfl) (by kernel_rfl) (hK _ (Mo.refl _))))
              · exact og_eq (.bool true) rfl (fun f wf hq hd K hK => go_run rfl (wo_un (fun v => Instr.extract v 1) (.tmp 57) (.tuple #[nv (Z), .bool true]) (.bool true) (fun _ => rfl) (hd 8 rfl) (by kernel_rfl) (hK _ (Mo.refl _))))
              · exact og_new [.int .u64 0, .int .u64 0, .int .u64 0, .int .u64 0] rfl (fun f wf hq hd K hK => go_run rfl (wo_alloc 24 #[.int .u64 0, .int .u64 0, .int .u64 0, .int .u64 0] rfl (fun _ => by kernel_rfl) hK))
            intro kf54 w54 hq hR hne
            obtain ⟨N_k53, Q53⟩ := hR 11 _ rfl rfl
            have ne_k1_k53 : k1 ≠ (kf54 11) := by have := Q1.lt; omega
            have ne_k21_k53 : k21 ≠ (kf54 11) := by have := Q21.lt; omega
            have ne_k51_k53 : (kf51 6) ≠ (kf54 11) := by have := Q51.lt; omega
            have ne_k52_k53 : (kf51 7) ≠ (kf54 11) := by have := Q52.lt; omega
            replace N_k53 := Nat.le_trans M.size N_k53
            replace d9 := fun k h => Nat.lt_of_lt_of_le (d9 k h) hq.size
            replace Q1 := Q1.mo hq
            replace Q21 := Q21.mo hq
            replace Q51 := Q51.mo hq
            replace Q52 := Q52.mo hq
            replace M := M.trans hq
            clear hq hR hne
            refine wl_st 24 (.tmp 9) (.tmp 66) (kf54 11) 0 (nvar (Z)) [.int .u64 0, .int .u64 0, .int .u64 0, .int .u64 0] (nvli (Z)) Q53 rfl rfl rfl rfl rfl sz24 rfl rfl rfl ?_
            intro w55 hS Qn
            replace Q53 := Qn
            clear Qn
            replace Q1 := hS.other _ _ ne_k1_k53 Q1
            replace Q21 := hS.other _ _ ne_k21_k53 Q21
            replace Q51 := hS.other _ _ ne_k51_k53 Q51
            replace Q52 := hS.other _ _ ne_k52_k53 Q52
            replace d9 := fun k h => Nat.lt_of_lt_of_le (d9 k h) (Nat.le_of_eq hS.size.symm)
            replace M := hS.mo _ N_k53 M
            clear hS
            refine wl_mv (.tmp 67) (.bool true) (fun _ => rfl) rfl rfl ?_
            refine w_nil ?_
            refine xn_then ?_
            refine w_seq ?_
            refine w_seq ?_
            refine w_reg ?_
            refine wl_load 24 (.tmp 7) (pt (kf51 6) 0) (nv (pvk s k * 10 / MM)) rfl rfl (run_row Q51 24 0 4 (nvli (pvk s k * 10 / MM)) rfl Try.underlying24 rfl sz24) rfl ?_
            refine wl_build 24 [] [] (.agg #[.int .u64 0, .int .u64 0, .int .u64 0, .int .u64 0]) rfl rfl (by kernel_rfl) rfl ?_
            refine wl_bin (fun x y => do eqGuard .neq 24 (.tmp 68) (.tmp 69) x y; binOp .neq 24 x y) (.tmp 68) (.tmp 69) (nv (pvk s k * 10 / MM)) (.agg #[.int .u64 0, .int .u64 0, .int .u64 0, .int .u64 0]) (.bool false) (fun _ => rfl) rfl rfl (nen_run (r := true) hz _ _ _) rfl ?_
            refine wl_mv (.tmp 70) (.bool false) (fun _ => rfl) rfl rfl ?_
            refine wl_mv (.tmp 10) (.bool true) (fun _ => rfl) rfl rfl ?_
            refine wl_pick (.tmp 71) (.const (.bool true)) (.tmp 72) false (.bool true) (fun _ => rfl) rfl rfl rfl ?_
            refine w_nil ?_
            refine xn_then ?_
            refine w_condT rfl ?_
            refine w_seq ?_
            refine w_reg ?_
            refine wl_build 24 [] [] (.agg #[.int .u64 0, .int .u64 0, .int .u64 0, .int .u64 0]) rfl rfl (by kernel_rfl) rfl ?_
            refine wl_st 24 (.tmp 2) (.tmp 74) k1 0 #[.int .u64 0, .int .u64 0, .int .u64 0, .int .u64 0] [.int .u64 0, .int .u64 0, .int .u64 0, .int .u64 0] [.int .u64 0, .int .u64 0, .int .u64 0, .int .u64 0] Q1 rfl rfl e2 rfl rfl sz24 rfl rfl rfl ?_
            intro w56 hS Qn
            replace Q1 := Qn
            clear Qn
            replace Q21 := hS.other _ _ ne_k1_k21.symm Q21
            replace Q51 := hS.other _ _ ne_k1_k51.symm Q51
            replace Q52 := hS.other _ _ ne_k1_k52.symm Q52
            replace Q53 := hS.other _ _ ne_k1_k53.symm Q53
            replace d9 := fun k h => Nat.lt_of_lt_of_le (d9 k h) (Nat.le_of_eq hS.size.symm)
            replace M := hS.mo _ N_k1 M
            clear hS
            refine wl_mv (.const (.int .i64 (7))) (.int .i64 (7)) (fun _ => rfl) rfl rfl ?_
            refine w_nil ?_
            refine xn_then ?_
            refine w_ret ?_
            refine xr_then ?_
            refine xr_blk ?_
            refine xr_then ?_
            refine xr_then ?_
            refine xr_blk ?_
            refine xr_then ?_
            exact w_ret2 _ _ (.agg #[.int .u64 0, .int .u64 0, .int .u64 0, .int .u64 0]) (.int .i64 (7)) rfl ⟨k1, e2, (run_row Q1 24 0 4 [.int .u64 0, .int .u64 0, .int .u64 0, .int .u64 0] rfl Try.underlying24 rfl sz24)⟩ rfl ⟨by rw [resP_over hT hlt hbig], M⟩
        · have hz := hi1z (show MM ≤ pvk s k * 10 by omega) (show pvk s k * 10 < MM * MM by unfold MM at *; omega)
          obtain ⟨Z, o, hsum⟩ := rsum_any (pvk s k * 10) ((s[k].toNat : Int) - 48)
          have hbig : ¬ pvk s k * 10 + ((s[k].toNat : Int) - 48) < MM := by omega
          refine w_seq ?_
          refine w_seq ?_
          refine w_reg ?_
          refine wl_mv (.tmp 6) (.int .i64 ((k : Int))) (fun _ => rfl) e6 rfl ?_
          refine wl_mv (.tmp 0) (.string s) (fun _ => rfl) e0 rfl ?_
          refine wl_val (.int .i64 ((s.size : Int))) (len_run _ _ s rfl _ _ _ _ _ _) rfl ?_
          refine wl_bin (fun x y => do eqGuard .lss 3 (.tmp 45) (.tmp 47) x y; binOp .lss 3 x y) (.tmp 45) (.tmp 47) (.int .i64 ((k : Int))) (.int .i64 ((s.size : Int))) (.bool true) (fun _ => rfl) rfl rfl (lt3_run hl _ _ _) rfl ?_
          refine w_nil ?_
          refine xn_then ?_
          refine w_condT rfl ?_
          refine w_skip ?_
          refine xn_then ?_
          refine w_seq ?_
          refine w_block ?_
          refine w_seq ?_
          refine w_any 8 [.inl (nv (pvk s k)), .inl (nv (10)), .inl (.tuple #[nv (pvk s k * 10 / MM), nv (pvk s k * 10)]), .inl (.tuple #[nv (pvk s k * 10 / MM), nv (pvk s k * 10)]), .inl (nv (pvk s k * 10 / MM)), .inl (nv (pvk s k * 10)), .inr [.int .u64 0, .int .u64 0, .int .u64 0, .int .u64 0], .inr [.int .u64 0, .int .u64 0, .int .u64 0, .int .u64 0]] [5] (by kernel_rfl) (by kernel_rfl) (by kernel_rfl) (by kernel_rfl) rfl (by kernel_rfl) (by kernel_rfl) (late_cons ⟨_, _, rfl, rfl, fun _ _ _ _ h => h, fun f hd => ⟨rfl, la_un (fun v => Instr.extract v 1) (.tmp 51) (.tuple #[nv (pvk s k * 10 / MM), nv (pvk s k * 10)]) (nv (pvk s k * 10)) (fun _ => rfl) (hd 3 rfl _ rfl) (fun w => by kernel_rfl)⟩⟩ late_nil) ?_ ?_ ?_
          · exact Ds.two 6 7 (fun q hq => by rcases q with _ | _ | _ | _ | _ | _ | _ | _ | q <;> first | (left; rfl) | (right; rfl) | cases hq) d7 d8 d78
          · refine ea_cons ?_ (ea_cons ?_ (ea_cons ?_ (ea_cons ?_ (ea_cons ?_ (ea_cons ?_ (ea_cons ?_ (ea_cons ?_ (ea_nil))))))))
            · exact og_eq (nv (pvk s k)) rfl (fun f wf hq hd K hK => have Q21 := Q21.mo hq; go_run rfl (wo_load 24 (.tmp 5) (pt k21 0) (nv (pvk s k)) rfl e5 (run_row Q21 24 0 4 (nvli (pvk s k)) rfl Try.underlying24 rfl sz24) (hK _ (Mo.refl _))))
            · exact og_eq (nv (10)) rfl (fun f wf hq hd K hK => go_run rfl (wo_call 69 [(.const (.int .u64 (10)))] _ [.int .u64 (10)] (nv (10)) rfl rfl (fun _ _ => by kernel_rfl) (from69_n _) hK))
            · exact og_eq (.tuple #[nv (pvk s k * 10 / MM), nv (pvk s k * 10)]) rfl (fun f wf hq hd K hK => go_run rfl (wo_call 16 [(.tmp 52), (.tmp 53)] _ [nv (pvk s k), nv (10)] (.tuple #[nv (pvk s k * 10 / MM), nv (pvk s k * 10)]) rfl (li2 (hd 0 rfl) (hd 1 rfl)) (fun _ _ => by kernel_rfl) (rmul_n (pvk s k) 10 _ hv0 hv (by decide) (by decide)) hK))
            · exact og_eq (.tuple #[nv (pvk s k * 10 / MM), nv (pvk s k * 10)]) rfl (fun f wf hq hd K hK => go_run rfl (wo_mv (.tmp 54) (.tuple #[nv (pvk s k * 10 / MM), nv (pvk s k * 10)]) (fun _ => rfl) (hd 2 rfl) (hK _ (Mo.refl _))))
            · exact og_eq (nv (pvk s k * 10 / MM)) rfl (fun f wf hq hd K hK => go_run rfl (wo_un (fun v => Instr.extract v 0) (.tmp 51) (.tuple #[nv (pvk s k * 10 / MM), nv (pvk s k * 10)]) (nv (pvk s k * 10 / MM)) (fun _ => rfl) (hd 3 rfl) (by kernel_rfl) (hK _ (Mo.refl _))))
            · exact og_eq (nv (pvk s k * 10)) rfl (fun f wf hq hd K hK => go_run rfl (wo_un (fun v => Instr.extract v 1) (.tmp 51) (.tuple #[nv (pvk s k * 10 / MM), nv (pvk s k * 10)]) (nv (pvk s k * 10)) (fun _ => rfl) (hd 3 rfl) (by kernel_rfl) (hK _ (Mo.refl _))))
            · exact og_new [.int .u64 0, .int .u64 0, .int .u64 0, .int .u64 0] rfl (fun f wf hq hd K hK => go_run rfl (wo_alloc 24 #[.int .u64 0, .int .u64 0, .int .u64 0, .int .u64 0] rfl (fun _ => by kernel_rfl) hK))
            · exact og_new [.int .u64 0, .int .u64 0, .int .u64 0, .int .u64 0] rfl (fun f wf hq hd K hK => go_run rfl (wo_alloc 24 #[.int .u64 0, .int .u64 0, .int .u64 0, .int .u64 0] rfl (fun _ => by kernel_rfl) hK))
          intro kf51 w51 hq hR hne
          obtain ⟨N_k51, Q51⟩ := hR 6 _ rfl rfl
          obtain ⟨N_k52, Q52⟩ := hR 7 _ rfl rfl
          have ne_k1_k51 : k1 ≠ (kf51 6) := by have := Q1.lt; omega
          have ne_k21_k51 : k21 ≠ (kf51 6) := by have := Q21.lt; omega
          have ne_k51_k52 := hne 6 7 rfl rfl rfl rfl (by decide)
          replace N_k51 := Nat.le_trans M.size N_k51
          have ne_k1_k52 : k1 ≠ (kf51 7) := by have := Q1.lt; omega
          have ne_k21_k52 : k21 ≠ (kf51 7) := by have := Q21.lt; omega
          replace N_k52 := Nat.le_trans M.size N_k52
          replace d9 := fun k h => Nat.lt_of_lt_of_le (d9 k h) hq.size
          replace Q1 := Q1.mo hq
          replace Q21 := Q21.mo hq
          replace M := M.trans hq
          clear hq hR hne
          refine wl_st 24 (.tmp 7) (.tmp 55) (kf51 6) 0 (nvar (pvk s k * 10 / MM)) [.int .u64 0, .int .u64 0, .int .u64 0, .int .u64 0] (nvli (pvk s k * 10 / MM)) Q51 rfl rfl rfl rfl rfl sz24 rfl rfl rfl ?_
          intro w52 hS Qn
          replace Q51 := Qn
          clear Qn
          replace Q1 := hS.other _ _ ne_k1_k51 Q1
          replace Q21 := hS.other _ _ ne_k21_k51 Q21
          replace Q52 := hS.other _ _ ne_k51_k52.symm Q52
          replace d9 := fun k h => Nat.lt_of_lt_of_le (d9 k h) (Nat.le_of_eq hS.size.symm)
          replace M := hS.mo _ N_k51 M
          clear hS
          refine wl_st 24 (.tmp 8) (.tmp 56) (kf51 7) 0 (nvar (pvk s k * 10)) [.int .u64 0, .int .u64 0, .int .u64 0, .int .u64 0] (nvli (pvk s k * 10)) Q52 rfl rfl rfl rfl rfl sz24 rfl rfl rfl ?_
          intro w53 hS Qn
          replace Q52 := Qn
          clear Qn
          replace Q1 := hS.other _ _ ne_k1_k52 Q1
          replace Q21 := hS.other _ _ ne_k21_k52 Q21
          replace Q51 := hS.other _ _ ne_k51_k52 Q51
          replace d9 := fun k h => Nat.lt_of_lt_of_le (d9 k h) (Nat.le_of_eq hS.size.symm)
          replace M := hS.mo _ N_k52 M
          clear hS
          refine w_nil ?_
          refine xn_then ?_
          refine w_seq ?_
          refine w_any 12 [.inl (nv (pvk s k * 10)), .inl (.string s), .inl (.int .i64 ((k : Int))), .inl (.int .u8 (s[k].toNat : Int)), .inl (.int .u8 ((s[k].toNat : Int) - 48)), .inl (.int .u64 ((s[k].toNat : Int) - 48)), .inl (nv (((s[k].toNat : Int) - 48))), .inl (.tuple #[nv (Z), .bool (o)]), .inl (.tuple #[nv (Z), .bool (o)]), .inl (nv (Z)), .inl (.bool (o)), .inr [.int .u64 0, .int .u64 0, .int .u64 0, .int .u64 0]] [10] (by kernel_rfl) (by kernel_rfl) (by kernel_rfl) (by kernel_rfl) rfl (by kernel_rfl) (by kernel_rfl) (late_cons ⟨_, _, rfl, rfl, fun _ _ _ _ h => h, fun f hd => ⟨rfl, la_un (fun v => Instr.extract v 1) (.tmp 57) (.tuple #[nv (Z), .bool (o)]) (.bool (o)) (fun _ => rfl) (hd 8 rfl _ rfl) (fun w => by kernel_rfl)⟩⟩ late_nil) ?_ ?_ ?_
          · exact Ds.one 11 (fun q hq => by rcases q with _ | _ | _ | _ | _ | _ | _ | _ | _ | _ | _ | _ | q <;> first | rfl | cases hq) d9
          · refine ea_cons ?_ (ea_cons ?_ (ea_cons ?_ (ea_cons ?_ (ea_cons ?_ (ea_cons ?_ (ea_cons ?_ (ea_cons ?_ (ea_cons ?_ (ea_cons ?_ (ea_cons ?_ (ea_cons ?_ (ea_nil))))))))))))
            · exact og_eq (nv (pvk s k * 10)) rfl (fun f wf hq hd K hK => have Q52 := Q52.mo hq; go_run rfl (wo_load 24 (.tmp 8) (pt (kf51 7) 0) (nv (pvk s k * 10)) rfl rfl (run_row Q52 24 0 4 (nvli (pvk s k * 10)) rfl Try.underlying24 rfl sz24) (hK _ (Mo.refl _))))
            · exact og_eq (.string s) rfl (fun f wf hq hd K hK => go_run rfl (wo_mv (.tmp 0) (.string s) (fun _ => rfl) e0 (hK _ (Mo.refl _))))
            · exact og_eq (.int .i64 ((k : Int))) rfl (fun f wf hq hd K hK => go_run rfl (wo_mv (.tmp 6) (.int .i64 ((k : Int))) (fun _ => rfl) e6 (hK _ (Mo.refl _))))
            · exact og_eq (.int .u8 (s[k].toNat : Int)) rfl (fun f wf hq hd K hK => go_run rfl (wo_bin (fun x y => Instr.index 9 x y) (.tmp 59) (.tmp 60) (.string s) (.int .i64 ((k : Int))) (.int .u8 (s[k].toNat : Int)) (fun _ => rfl) (hd 1 rfl) (hd 2 rfl) (idx_s s k hlt _) (hK _ (Mo.refl _))))
            · exact og_eq (.int .u8 ((s[k].toNat : Int) - 48)) rfl (fun f wf hq hd K hK => go_run rfl (wo_bin (fun x y => do eqGuard .sub 5 (.tmp 61) (.const (.int .u8 (48))) x y; binOp .sub 5 x y) (.tmp 61) (.const (.int .u8 (48))) (.int .u8 (s[k].toNat : Int)) (.int .u8 (48)) (.int .u8 ((s[k].toNat : Int) - 48)) (fun _ => rfl) (hd 3 rfl) rfl (subu8_run hc.1 hc.2 _ _ _) (hK _ (Mo.refl _))))
            · exact og_eq (.int .u64 ((s[k].toNat : Int) - 48)) rfl (fun f wf hq hd K hK => go_run rfl (wo_un (fun v => convert 5 22 v) (.tmp 62) (.int .u8 ((s[k].toNat : Int) - 48)) (.int .u64 ((s[k].toNat : Int) - 48)) (fun _ => rfl) (hd 4 rfl) (cv8_run (by omega) (by omega) _) (hK _ (Mo.refl _))))
            · exact og_eq (nv (((s[k].toNat : Int) - 48))) rfl (fun f wf hq hd K hK => go_run rfl (wo_call 69 [(.tmp 63)] _ [.int .u64 ((s[k].toNat : Int) - 48)] (nv (((s[k].toNat : Int) - 48))) rfl (li1 (hd 5 rfl)) (fun _ _ => by kernel_rfl) (from34_any ((s[k].toNat : Int) - 48) _ ⟨by omega, by omega⟩) hK))
            · exact og_eq (.tuple #[nv (Z), .bool (o)]) rfl (fun f wf hq hd K hK => go_run rfl (wo_call 64 [(.tmp 58), (.tmp 64)] _ [nv (pvk s k * 10), nv (((s[k].toNat : Int) - 48))] (.tuple #[nv (Z), .bool (o)]) rfl (li2 (hd 0 rfl) (hd 6 rfl)) (fun _ _ => by kernel_rfl) (hsum _) hK))
            · exact og_eq (.tuple #[nv (Z), .bool (o)]) rfl (fun f wf hq hd K hK => go_run rfl (wo_mv (.tmp 65) (.tuple #[nv (Z), .bool (o)]) (fun _ => rfl) (hd 7 rfl) (hK _ (Mo.refl _))))
            · exact og_eq (nv (Z)) rfl (fun f wf hq hd K hK => go_run rfl (wo_un (fun v => Instr.extract v 0) (.tmp 57) (.tuple #[nv (Z), .bool (o)]) (nv (Z)) (fun _ => rfl) (hd 8 rfl) (by kernel_rfl) (hK _ (Mo.refl _))))
            · exact og_eq (.bool (o)) rfl (fun f wf hq hd K hK => go_run rfl (wo_un (fun v => Instr.extract v 1) (.tmp 57) (.tuple #[nv (Z), .bool (o)]) (.bool (o)) (fun _ => rfl) (hd 8 rfl) (by kernel_rfl) (hK _ (Mo.refl _))))
            · exact og_new [.int .u64 0, .int .u64 0, .int .u64 0, .int .u64 0] rfl (fun f wf hq hd K hK => go_run rfl (wo_alloc 24 #[.int .u64 0, .int .u64 0, .int .u64 0, .int .u64 0] rfl (fun _ => by kernel_rfl) hK))
          intro kf54 w54 hq hR hne
          obtain ⟨N_k53, Q53⟩ := hR 11 _ rfl rfl
          have ne_k1_k53 : k1 ≠ (kf54 11) := by have := Q1.lt; omega
          have ne_k21_k53 : k21 ≠ (kf54 11) := by have := Q21.lt; omega
          have ne_k51_k53 : (kf51 6) ≠ (kf54 11) := by have := Q51.lt; omega
          have ne_k52_k53 : (kf51 7) ≠ (kf54 11) := by have := Q52.lt; omega
          replace N_k53 := Nat.le_trans M.size N_k53
          replace d9 := fun k h => Nat.lt_of_lt_of_le (d9 k h) hq.size
          replace Q1 := Q1.mo hq
          replace Q21 := Q21.mo hq
          replace Q51 := Q51.mo hq
          replace Q52 := Q52.mo hq
          replace M := M.trans hq
          clear hq hR hne
          refine wl_st 24 (.tmp 9) (.tmp 66) (kf54 11) 0 (nvar (Z)) [.int .u64 0, .int .u64 0, .int .u64 0, .int .u64 0] (nvli (Z)) Q53 rfl rfl rfl rfl rfl sz24 rfl rfl rfl ?_
          intro w55 hS Qn
          replace Q53 := Qn
          clear Qn
          replace Q1 := hS.other _ _ ne_k1_k53 Q1
          replace Q21 := hS.other _ _ ne_k21_k53 Q21
          replace Q51 := hS.other _ _ ne_k51_k53 Q51
          replace Q52 := hS.other _ _ ne_k52_k53 Q52
          replace d9 := fun k h => Nat.lt_of_lt_of_le (d9 k h) (Nat.le_of_eq hS.size.symm)
          replace M := hS.mo _ N_k53 M
          clear hS
          refine wl_mv (.tmp 67) (.bool (o)) (fun _ => rfl) rfl rfl ?_
          refine w_nil ?_
          refine xn_then ?_
          refine w_seq ?_
          refine w_seq ?_
          refine w_reg ?_
          refine wl_load 24 (.tmp 7) (pt (kf51 6) 0) (nv (pvk s k * 10 / MM)) rfl rfl (run_row Q51 24 0 4 (nvli (pvk s k * 10 / MM)) rfl Try.underlying24 rfl sz24) rfl ?_
          refine wl_build 24 [] [] (.agg #[.int .u64 0, .int .u64 0, .int .u64 0, .int .u64 0]) rfl rfl (by kernel_rfl) rfl ?_
          refine wl_bin (fun x y => do eqGuard .neq 24 (.tmp 68) (.tmp 69) x y; binOp .neq 24 x y) (.tmp 68) (.tmp 69) (nv (pvk s k * 10 / MM)) (.agg #[.int .u64 0, .int .u64 0, .int .u64 0, .int .u64 0]) (.bool true) (fun _ => rfl) rfl rfl (nen_run (r := false) hz _ _ _) rfl ?_
          refine wl_mv (.tmp 70) (.bool true) (fun _ => rfl) rfl rfl ?_
          refine wl_skip rfl ?_
          refine wl_pick (.tmp 71) (.const (.bool true)) (.tmp 72) true (.bool true) (fun _ => rfl) rfl rfl rfl ?_
          refine w_nil ?_
          refine xn_then ?_
          refine w_condT rfl ?_
          refine w_seq ?_
          refine w_reg ?_
          refine wl_build 24 [] [] (.agg #[.int .u64 0, .int .u64 0, .int .u64 0, .int .u64 0]) rfl rfl (by kernel_rfl) rfl ?_
          refine wl_st 24 (.tmp 2) (.tmp 74) k1 0 #[.int .u64 0, .int .u64 0, .int .u64 0, .int .u64 0] [.int .u64 0, .int .u64 0, .int .u64 0, .int .u64 0] [.int .u64 0, .int .u64 0, .int .u64 0, .int .u64 0] Q1 rfl rfl e2 rfl rfl sz24 rfl rfl rfl ?_
          intro w56 hS Qn
          replace Q1 := Qn
          clear Qn
          replace Q21 := hS.other _ _ ne_k1_k21.symm Q21
          replace Q51 := hS.other _ _ ne_k1_k51.symm Q51
          replace Q52 := hS.other _ _ ne_k1_k52.symm Q52
          replace Q53 := hS.other _ _ ne_k1_k53.symm Q53
          replace d9 := fun k h => Nat.lt_of_lt_of_le (d9 k h) (Nat.le_of_eq hS.size.symm)
          replace M := hS.mo _ N_k1 M
          clear hS
          refine wl_mv (.const (.int .i64 (7))) (.int .i64 (7)) (fun _ => rfl) rfl rfl ?_
          refine w_nil ?_
          refine xn_then ?_
          refine w_ret ?_
          refine xr_then ?_
          refine xr_blk ?_
          refine xr_then ?_
          refine xr_then ?_
          refine xr_blk ?_
          refine xr_then ?_
          exact w_ret2 _ _ (.agg #[.int .u64 0, .int .u64 0, .int .u64 0, .int .u64 0]) (.int .i64 (7)) rfl ⟨k1, e2, (run_row Q1 24 0 4 [.int .u64 0, .int .u64 0, .int .u64 0, .int .u64 0] rfl Try.underlying24 rfl sz24)⟩ rfl ⟨by rw [resP_over hT hlt hbig], M⟩
      · have hl : decide ((k : Int) < (s.size : Int)) = false := decide_eq_false (by omega)
        refine w_seq ?_
        refine w_seq ?_
        refine w_reg ?_
        refine wl_mv (.tmp 6) (.int .i64 ((k : Int))) (fun _ => rfl) e6 rfl ?_
        refine wl_mv (.tmp 0) (.string s) (fun _ => rfl) e0 rfl ?_
        refine wl_val (.int .i64 ((s.size : Int))) (len_run _ _ s rfl _ _ _ _ _ _) rfl ?_
        refine wl_bin (fun x y => do eqGuard .lss 3 (.tmp 45) (.tmp 47) x y; binOp .lss 3 x y) (.tmp 45) (.tmp 47) (.int .i64 ((k : Int))) (.int .i64 ((s.size : Int))) (.bool false) (fun _ => rfl) rfl rfl (lt3_run hl _ _ _) rfl ?_
        refine w_nil ?_
        refine xn_then ?_
        refine w_condF rfl ?_
        refine w_exit ?_
        refine xx_then ?_
        refine xx_then ?_
        refine xx_blk ?_
        refine xn_then ?_
        refine w_seq ?_
        refine w_reg ?_
        refine wl_load 24 (.tmp 5) (pt k21 0) (nv (pvk s k)) rfl e5 (run_row Q21 24 0 4 (nvli (pvk s k)) rfl Try.underlying24 rfl sz24) rfl ?_
        refine wl_st 24 (.tmp 2) (.tmp 76) k1 0 (nvar (pvk s k)) [.int .u64 0, .int .u64 0, .int .u64 0, .int .u64 0] (nvli (pvk s k)) Q1 rfl rfl e2 rfl rfl sz24 rfl rfl rfl ?_
        intro w51 hS Qn
        replace Q1 := Qn
        clear Qn
        replace Q21 := hS.other _ _ ne_k1_k21.symm Q21
        replace d9 := fun k h => Nat.lt_of_lt_of_le (d9 k h) (Nat.le_of_eq hS.size.symm)
        replace M := hS.mo _ N_k1 M
        clear hS
        refine wl_mv (.const (.int .i64 (0))) (.int .i64 (0)) (fun _ => rfl) rfl rfl ?_
        refine w_nil ?_
        refine xn_then ?_
        refine w_ret ?_
        exact w_ret2 _ _ (nv (pvk s k)) (.int .i64 (0)) rfl ⟨k1, e2, (run_row Q1 24 0 4 (nvli (pvk s k)) rfl Try.underlying24 rfl sz24)⟩ rfl ⟨by rw [resP_ok (pvk_end hk hlt hv), ← pvk_eq hk hlt], M⟩
theorem rparse_b (s : ByteArray) (w : World) [Decidable (isT s)] (hs : s.size ≤ maxLen) (h0 : s.toList.isEmpty = false) (hp : 0 < s.size) (hlead : ¬ (s.size > 1 ∧ (s[0].toNat : Int) = 48)) (hz0 : s.size > 1 → (s[0].toNat : Int) ≠ 48) (h1 : ((s[0].toNat : Int) == 48) = true) (h2 : decide ((s.size : Int) > 1) = false) : Calls Try.prog 21 #[.string s] w fun e w' => e = .returned (if isT s then resP s else ez 10) ∧ Mo w w' := by
  refine w_enter 77 Try.func21 Try.ntmps21 rfl rfl ?_
  have M : Mo w w := Mo.refl _
  refine w_seq ?_
  refine w_reg ?_
  refine wl_alloc 24 #[.int .u64 0, .int .u64 0, .int .u64 0, .int .u64 0] rfl (fun _ => by kernel_rfl) rfl ?_
  intro k1 w1 hk hz hq Q1
  have N_k1 : w.heap.size ≤ k1 := by have := M.size; omega
  replace M := M.trans hq
  clear hk hz hq
  refine wl_mv (.const (.int .i64 (0))) (.int .i64 (0)) (fun _ => rfl) rfl rfl ?_
  refine w_nil ?_
  refine xn_then ?_
  refine w_seq ?_
  refine w_seq ?_
  refine w_reg ?_
  refine wl_mv (.tmp 0) (.string s) (fun _ => rfl) rfl rfl ?_
  refine wl_bin (fun x y => do eqGuard .eql 9 (.tmp 11) (.const (.string ⟨#[]⟩)) x y; binOp .eql 9 x y) (.tmp 11) (.const (.string ⟨#[]⟩)) (.string s) (.string ⟨#[]⟩) (.bool false) (fun _ => rfl) rfl rfl (eqe_run h0 _ _ _) rfl ?_
  refine wl_mv (.tmp 12) (.bool false) (fun _ => rfl) rfl rfl ?_
  refine wl_mv (.tmp 0) (.string s) (fun _ => rfl) rfl rfl ?_
  refine wl_bin (fun x y => Instr.index 9 x y) (.tmp 14) (.const (.int .i64 (0))) (.string s) (.int .i64 (0)) (.int .u8 (s[0].toNat : Int)) (fun _ => rfl) rfl rfl (idx_0 s hp _) rfl ?_
  refine wl_bin (fun x y => do eqGuard .eql 5 (.tmp 15) (.const (.int .u8 (48))) x y; binOp .eql 5 x y) (.tmp 15) (.const (.int .u8 (48))) (.int .u8 (s[0].toNat : Int)) (.int .u8 (48)) (.bool true) (fun _ => rfl) rfl rfl (eq5_run h1 _ _ _) rfl ?_
  refine wl_mv (.tmp 16) (.bool true) (fun _ => rfl) rfl rfl ?_
  refine wl_mv (.tmp 0) (.string s) (fun _ => rfl) rfl rfl ?_
  refine wl_val (.int .i64 ((s.size : Int))) (len_run _ _ s rfl _ _ _ _ _ _) rfl ?_
  refine wl_bin (fun x y => do eqGuard .gtr 3 (.tmp 19) (.const (.int .i64 (1))) x y; binOp .gtr 3 x y) (.tmp 19) (.const (.int .i64 (1))) (.int .i64 ((s.size : Int))) (.int .i64 (1)) (.bool false) (fun _ => rfl) rfl rfl (gt3_run h2 _ _ _) rfl ?_
  refine wl_pick (.tmp 17) (.tmp 20) (.const (.bool false)) true (.bool false) (fun _ => rfl) rfl rfl rfl ?_
  refine wl_pick (.tmp 13) (.const (.bool true)) (.tmp 21) false (.bool false) (fun _ => rfl) rfl rfl rfl ?_
  refine w_nil ?_
  refine xn_then ?_
  refine w_condF rfl ?_
  refine w_skip ?_
  refine xn_then ?_
  refine w_seq ?_
  refine w_seq ?_
  refine w_reg ?_
  refine wl_mv (.const (.int .i64 (0))) (.int .i64 (0)) (fun _ => rfl) rfl rfl ?_
  refine w_nil ?_
  refine xn_then ?_
  refine w_block ?_
  refine w_loop (fun m l w1 => ∃ k : Nat, k + m = s.size ∧ look l 0 = .string s ∧ look l 4 = .int .i64 (k : Int) ∧ look l 2 = pt k1 0 ∧ At w1 k1 [.int .u64 0, .int .u64 0, .int .u64 0, .int .u64 0] ∧ dgs s k ∧ Mo w w1 ∧ (isPt (look l 7) = false ∧ isPt (look l 8) = false ∧ isPt (look l 9) = false)) s.size ⟨0, by omega, rfl, rfl, rfl, Q1, fun j _ h => absurd h (Nat.not_lt_zero _), M, rfl, rfl, rfl⟩ ?_
  clear M Q1
  rintro m l wl ⟨k, hk, e0, e4, e2, Q1, hd, M, i7, i8, i9⟩
  by_cases hlt : k < s.size
  · have hl : decide ((k : Int) < (s.size : Int)) = true := decide_eq_true (by omega)
    cases ha : decide ((s[k].toNat : Int) < 48) with
    | true =>
      refine w_seq ?_
      refine w_seq ?_
      refine w_reg ?_
      refine wl_mv (.tmp 4) (.int .i64 ((k : Int))) (fun _ => rfl) e4 rfl ?_
      refine wl_mv (.tmp 0) (.string s) (fun _ => rfl) e0 rfl ?_
      refine wl_val (.int .i64 ((s.size : Int))) (len_run _ _ s rfl _ _ _ _ _ _) rfl ?_
      refine wl_bin (fun x y => do eqGuard .lss 3 (.tmp 24) (.tmp 26) x y; binOp .lss 3 x y) (.tmp 24) (.tmp 26) (.int .i64 ((k : Int))) (.int .i64 ((s.size : Int))) (.bool true) (fun _ => rfl) rfl rfl (lt3_run hl _ _ _) rfl ?_
      refine w_nil ?_
      refine xn_then ?_
      refine w_condT rfl ?_
      refine w_skip ?_
      refine xn_then ?_
      refine w_seq ?_
      refine w_block ?_
      refine w_seq ?_
      refine w_reg ?_
      refine wl_mv (.tmp 0) (.string s) (fun _ => rfl) e0 rfl ?_
      refine wl_mv (.tmp 4) (.int .i64 ((k : Int))) (fun _ => rfl) e4 rfl ?_
      refine wl_bin (fun x y => Instr.index 9 x y) (.tmp 30) (.tmp 31) (.string s) (.int .i64 ((k : Int))) (.int .u8 (s[k].toNat : Int)) (fun _ => rfl) rfl rfl (idx_s s k hlt _) rfl ?_
      refine wl_bin (fun x y => do eqGuard .lss 5 (.tmp 32) (.const (.int .u8 (48))) x y; binOp .lss 5 x y) (.tmp 32) (.const (.int .u8 (48))) (.int .u8 (s[k].toNat : Int)) (.int .u8 (48)) (.bool true) (fun _ => rfl) rfl rfl (ls5 ha _ _ _) rfl ?_
      refine wl_mv (.tmp 33) (.bool true) (fun _ => rfl) rfl rfl ?_
      refine wl_skip rfl ?_
      refine wl_skip rfl ?_
      refine wl_skip rfl ?_
      refine wl_skip rfl ?_
      refine wl_pick (.tmp 34) (.const (.bool true)) (.tmp 38) true (.bool true) (fun _ => rfl) rfl rfl rfl ?_
      refine w_nil ?_
      refine xn_then ?_
      refine w_condT rfl ?_
      refine w_seq ?_
      refine w_reg ?_
      refine wl_build 24 [] [] (.agg #[.int .u64 0, .int .u64 0, .int .u64 0, .int .u64 0]) rfl rfl (by kernel_rfl) rfl ?_
      refine wl_st 24 (.tmp 2) (.tmp 40) k1 0 #[.int .u64 0, .int .u64 0, .int .u64 0, .int .u64 0] [.int .u64 0, .int .u64 0, .int .u64 0, .int .u64 0] [.int .u64 0, .int .u64 0, .int .u64 0, .int .u64 0] Q1 rfl rfl e2 rfl rfl sz24 rfl rfl rfl ?_
      intro w21 hS Qn
      replace Q1 := Qn
      clear Qn
      replace M := hS.mo _ N_k1 M
      clear hS
      refine wl_mv (.const (.int .i64 (10))) (.int .i64 (10)) (fun _ => rfl) rfl rfl ?_
      refine w_nil ?_
      refine xn_then ?_
      refine w_ret ?_
      refine xr_blk ?_
      refine xr_then ?_
      refine xr_then ?_
      refine xr_blk ?_
      refine xr_then ?_
      exact w_ret2 _ _ (.agg #[.int .u64 0, .int .u64 0, .int .u64 0, .int .u64 0]) (.int .i64 (10)) rfl ⟨k1, e2, (run_row Q1 24 0 4 [.int .u64 0, .int .u64 0, .int .u64 0, .int .u64 0] rfl Try.underlying24 rfl sz24)⟩ rfl ⟨by rw [if_neg (fun hT : isT s => by obtain ⟨_, _, h3⟩ := hT; have := h3 k hlt hlt; have := of_decide_eq_true ha; omega)], M⟩
    | false =>
      cases hb : decide ((s[k].toNat : Int) > 57) with
      | true =>
        refine w_seq ?_
        refine w_seq ?_
        refine w_reg ?_
        refine wl_mv (.tmp 4) (.int .i64 ((k : Int))) (fun _ => rfl) e4 rfl ?_
        refine wl_mv (.tmp 0) (.string s) (fun _ => rfl) e0 rfl ?_
        refine wl_val (.int .i64 ((s.size : Int))) (len_run _ _ s rfl _ _ _ _ _ _) rfl ?_
        refine wl_bin (fun x y => do eqGuard .lss 3 (.tmp 24) (.tmp 26) x y; binOp .lss 3 x y) (.tmp 24) (.tmp 26) (.int .i64 ((k : Int))) (.int .i64 ((s.size : Int))) (.bool true) (fun _ => rfl) rfl rfl (lt3_run hl _ _ _) rfl ?_
        refine w_nil ?_
        refine xn_then ?_
        refine w_condT rfl ?_
        refine w_skip ?_
        refine xn_then ?_
        refine w_seq ?_
        refine w_block ?_
        refine w_seq ?_
        refine w_reg ?_
        refine wl_mv (.tmp 0) (.string s) (fun _ => rfl) e0 rfl ?_
        refine wl_mv (.tmp 4) (.int .i64 ((k : Int))) (fun _ => rfl) e4 rfl ?_
        refine wl_bin (fun x y => Instr.index 9 x y) (.tmp 30) (.tmp 31) (.string s) (.int .i64 ((k : Int))) (.int .u8 (s[k].toNat : Int)) (fun _ => rfl) rfl rfl (idx_s s k hlt _) rfl ?_
        refine wl_bin (fun x y => do eqGuard .lss 5 (.tmp 32) (.const (.int .u8 (48))) x y; binOp .lss 5 x y) (.tmp 32) (.const (.int .u8 (48))) (.int .u8 (s[k].toNat : Int)) (.int .u8 (48)) (.bool false) (fun _ => rfl) rfl rfl (ls5 ha _ _ _) rfl ?_
        refine wl_mv (.tmp 33) (.bool false) (fun _ => rfl) rfl rfl ?_
        refine wl_mv (.tmp 0) (.string s) (fun _ => rfl) e0 rfl ?_
        refine wl_mv (.tmp 4) (.int .i64 ((k : Int))) (fun _ => rfl) e4 rfl ?_
        refine wl_bin (fun x y => Instr.index 9 x y) (.tmp 35) (.tmp 36) (.string s) (.int .i64 ((k : Int))) (.int .u8 (s[k].toNat : Int)) (fun _ => rfl) rfl rfl (idx_s s k hlt _) rfl ?_
        refine wl_bin (fun x y => do eqGuard .gtr 5 (.tmp 37) (.const (.int .u8 (57))) x y; binOp .gtr 5 x y) (.tmp 37) (.const (.int .u8 (57))) (.int .u8 (s[k].toNat : Int)) (.int .u8 (57)) (.bool true) (fun _ => rfl) rfl rfl (gt5_run hb _ _ _) rfl ?_
        refine wl_pick (.tmp 34) (.const (.bool true)) (.tmp 38) false (.bool true) (fun _ => rfl) rfl rfl rfl ?_
        refine w_nil ?_
        refine xn_then ?_
        refine w_condT rfl ?_
        refine w_seq ?_
        refine w_reg ?_
        refine wl_build 24 [] [] (.agg #[.int .u64 0, .int .u64 0, .int .u64 0, .int .u64 0]) rfl rfl (by kernel_rfl) rfl ?_
        refine wl_st 24 (.tmp 2) (.tmp 40) k1 0 #[.int .u64 0, .int .u64 0, .int .u64 0, .int .u64 0] [.int .u64 0, .int .u64 0, .int .u64 0, .int .u64 0] [.int .u64 0, .int .u64 0, .int .u64 0, .int .u64 0] Q1 rfl rfl e2 rfl rfl sz24 rfl rfl rfl ?_
        intro w21 hS Qn
        replace Q1 := Qn
        clear Qn
        replace M := hS.mo _ N_k1 M
        clear hS
        refine wl_mv (.const (.int .i64 (10))) (.int .i64 (10)) (fun _ => rfl) rfl rfl ?_
        refine w_nil ?_
        refine xn_then ?_
        refine w_ret ?_
        refine xr_blk ?_
        refine xr_then ?_
        refine xr_then ?_
        refine xr_blk ?_
        refine xr_then ?_
        exact w_ret2 _ _ (.agg #[.int .u64 0, .int .u64 0, .int .u64 0, .int .u64 0]) (.int .i64 (10)) rfl ⟨k1, e2, (run_row Q1 24 0 4 [.int .u64 0, .int .u64 0, .int .u64 0, .int .u64 0] rfl Try.underlying24 rfl sz24)⟩ rfl ⟨by rw [if_neg (fun hT : isT s => by obtain ⟨_, _, h3⟩ := hT; have := h3 k hlt hlt; have := of_decide_eq_true hb; omega)], M⟩
      | false =>
        refine w_seq ?_
        refine w_seq ?_
        refine w_reg ?_
        refine wl_mv (.tmp 4) (.int .i64 ((k : Int))) (fun _ => rfl) e4 rfl ?_
        refine wl_mv (.tmp 0) (.string s) (fun _ => rfl) e0 rfl ?_
        refine wl_val (.int .i64 ((s.size : Int))) (len_run _ _ s rfl _ _ _ _ _ _) rfl ?_
        refine wl_bin (fun x y => do eqGuard .lss 3 (.tmp 24) (.tmp 26) x y; binOp .lss 3 x y) (.tmp 24) (.tmp 26) (.int .i64 ((k : Int))) (.int .i64 ((s.size : Int))) (.bool true) (fun _ => rfl) rfl rfl (lt3_run hl _ _ _) rfl ?_
        refine w_nil ?_
        refine xn_then ?_
        refine w_condT rfl ?_
        refine w_skip ?_
        refine xn_then ?_
        refine w_seq ?_
        refine w_block ?_
        refine w_seq ?_
        refine w_reg ?_
        refine wl_mv (.tmp 0) (.string s) (fun _ => rfl) e0 rfl ?_
        refine wl_mv (.tmp 4) (.int .i64 ((k : Int))) (fun _ => rfl) e4 rfl ?_
        refine wl_bin (fun x y => Instr.index 9 x y) (.tmp 30) (.tmp 31) (.string s) (.int .i64 ((k : Int))) (.int .u8 (s[k].toNat : Int)) (fun _ => rfl) rfl rfl (idx_s s k hlt _) rfl ?_
        refine wl_bin (fun x y => do eqGuard .lss 5 (.tmp 32) (.const (.int .u8 (48))) x y; binOp .lss 5 x y) (.tmp 32) (.const (.int .u8 (48))) (.int .u8 (s[k].toNat : Int)) (.int .u8 (48)) (.bool false) (fun _ => rfl) rfl rfl (ls5 ha _ _ _) rfl ?_
        refine wl_mv (.tmp 33) (.bool false) (fun _ => rfl) rfl rfl ?_
        refine wl_mv (.tmp 0) (.string s) (fun _ => rfl) e0 rfl ?_
        refine wl_mv (.tmp 4) (.int .i64 ((k : Int))) (fun _ => rfl) e4 rfl ?_
        refine wl_bin (fun x y => Instr.index 9 x y) (.tmp 35) (.tmp 36) (.string s) (.int .i64 ((k : Int))) (.int .u8 (s[k].toNat : Int)) (fun _ => rfl) rfl rfl (idx_s s k hlt _) rfl ?_
        refine wl_bin (fun x y => do eqGuard .gtr 5 (.tmp 37) (.const (.int .u8 (57))) x y; binOp .gtr 5 x y) (.tmp 37) (.const (.int .u8 (57))) (.int .u8 (s[k].toNat : Int)) (.int .u8 (57)) (.bool false) (fun _ => rfl) rfl rfl (gt5_run hb _ _ _) rfl ?_
        refine wl_pick (.tmp 34) (.const (.bool true)) (.tmp 38) false (.bool false) (fun _ => rfl) rfl rfl rfl ?_
        refine w_nil ?_
        refine xn_then ?_
        refine w_condF rfl ?_
        refine w_skip ?_
        refine xn_blk ?_
        refine xn_then ?_
        refine w_reg ?_
        refine wl_mv (.tmp 4) (.int .i64 ((k : Int))) (fun _ => rfl) e4 rfl ?_
        refine wl_bin (fun x y => do eqGuard .add 3 (.tmp 28) (.const (.int .i64 (1))) x y; binOp .add 3 x y) (.tmp 28) (.const (.int .i64 (1))) (.int .i64 ((k : Int))) (.int .i64 (1)) (.int .i64 (((k + 1 : Nat) : Int))) (fun _ => rfl) rfl rfl (add1_run (by unfold maxLen at hs; omega) _ _ _) rfl ?_
        refine wl_mv (.tmp 29) (.int .i64 (((k + 1 : Nat) : Int))) (fun _ => rfl) rfl rfl ?_
        refine w_nil ?_
        exact xn_loop (s.size - (k + 1)) (by omega) ⟨k + 1, by omega, e0, rfl, e2, Q1, dgs_succ hlt hd (by have := of_decide_eq_false ha; omega) (by have := of_decide_eq_false hb; omega), M, i7, i8, i9⟩
  · have hl : decide ((k : Int) < (s.size : Int)) = false := decide_eq_false (by omega)
    cases h78 : decide ((s.size : Int) > 78) with
    | true =>
      refine w_seq ?_
      refine w_seq ?_
      refine w_reg ?_
      refine wl_mv (.tmp 4) (.int .i64 ((k : Int))) (fun _ => rfl) e4 rfl ?_
      refine wl_mv (.tmp 0) (.string s) (fun _ => rfl) e0 rfl ?_
      refine wl_val (.int .i64 ((s.size : Int))) (len_run _ _ s rfl _ _ _ _ _ _) rfl ?_
      refine wl_bin (fun x y => do eqGuard .lss 3 (.tmp 24) (.tmp 26) x y; binOp .lss 3 x y) (.tmp 24) (.tmp 26) (.int .i64 ((k : Int))) (.int .i64 ((s.size : Int))) (.bool false) (fun _ => rfl) rfl rfl (lt3_run hl _ _ _) rfl ?_
      refine w_nil ?_
      refine xn_then ?_
      refine w_condF rfl ?_
      refine w_exit ?_
      refine xx_then ?_
      refine xx_then ?_
      refine xx_blk ?_
      refine xn_then ?_
      refine w_seq ?_
      refine w_seq ?_
      refine w_reg ?_
      refine wl_mv (.tmp 0) (.string s) (fun _ => rfl) e0 rfl ?_
      refine wl_val (.int .i64 ((s.size : Int))) (len_run _ _ s rfl _ _ _ _ _ _) rfl ?_
      refine wl_bin (fun x y => do eqGuard .gtr 3 (.tmp 42) (.const (.int .i64 (78))) x y; binOp .gtr 3 x y) (.tmp 42) (.const (.int .i64 (78))) (.int .i64 ((s.size : Int))) (.int .i64 (78)) (.bool true) (fun _ => rfl) rfl rfl (gt3_run h78 _ _ _) rfl ?_
      refine w_nil ?_
      refine xn_then ?_
      refine w_condT rfl ?_
      refine w_seq ?_
      refine w_reg ?_
      refine wl_build 24 [] [] (.agg #[.int .u64 0, .int .u64 0, .int .u64 0, .int .u64 0]) rfl rfl (by kernel_rfl) rfl ?_
      refine wl_st 24 (.tmp 2) (.tmp 44) k1 0 #[.int .u64 0, .int .u64 0, .int .u64 0, .int .u64 0] [.int .u64 0, .int .u64 0, .int .u64 0, .int .u64 0] [.int .u64 0, .int .u64 0, .int .u64 0, .int .u64 0] Q1 rfl rfl e2 rfl rfl sz24 rfl rfl rfl ?_
      intro w21 hS Qn
      replace Q1 := Qn
      clear Qn
      replace M := hS.mo _ N_k1 M
      clear hS
      refine wl_mv (.const (.int .i64 (7))) (.int .i64 (7)) (fun _ => rfl) rfl rfl ?_
      refine w_nil ?_
      refine xn_then ?_
      refine w_ret ?_
      refine xr_then ?_
      exact w_ret2 _ _ (.agg #[.int .u64 0, .int .u64 0, .int .u64 0, .int .u64 0]) (.int .i64 (7)) rfl ⟨k1, e2, (run_row Q1 24 0 4 [.int .u64 0, .int .u64 0, .int .u64 0, .int .u64 0] rfl Try.underlying24 rfl sz24)⟩ rfl ⟨by rw [if_pos (isT_mk hp hlead (by omega) hd), resP_long hp (dgs_end hk hlt hd) hz0 (by have := of_decide_eq_true h78; omega)], M⟩
    | false =>
      refine w_seq ?_
      refine w_seq ?_
      refine w_reg ?_
      refine wl_mv (.tmp 4) (.int .i64 ((k : Int))) (fun _ => rfl) e4 rfl ?_
      refine wl_mv (.tmp 0) (.string s) (fun _ => rfl) e0 rfl ?_
      refine wl_val (.int .i64 ((s.size : Int))) (len_run _ _ s rfl _ _ _ _ _ _) rfl ?_
      refine wl_bin (fun x y => do eqGuard .lss 3 (.tmp 24) (.tmp 26) x y; binOp .lss 3 x y) (.tmp 24) (.tmp 26) (.int .i64 ((k : Int))) (.int .i64 ((s.size : Int))) (.bool false) (fun _ => rfl) rfl rfl (lt3_run hl _ _ _) rfl ?_
      refine w_nil ?_
      refine xn_then ?_
      refine w_condF rfl ?_
      refine w_exit ?_
      refine xx_then ?_
      refine xx_then ?_
      refine xx_blk ?_
      refine xn_then ?_
      refine w_seq ?_
      refine w_seq ?_
      refine w_reg ?_
      refine wl_mv (.tmp 0) (.string s) (fun _ => rfl) e0 rfl ?_
      refine wl_val (.int .i64 ((s.size : Int))) (len_run _ _ s rfl _ _ _ _ _ _) rfl ?_
      refine wl_bin (fun x y => do eqGuard .gtr 3 (.tmp 42) (.const (.int .i64 (78))) x y; binOp .gtr 3 x y) (.tmp 42) (.const (.int .i64 (78))) (.int .i64 ((s.size : Int))) (.int .i64 (78)) (.bool false) (fun _ => rfl) rfl rfl (gt3_run h78 _ _ _) rfl ?_
      refine w_nil ?_
      refine xn_then ?_
      refine w_condF rfl ?_
      refine w_skip ?_
      refine xn_then ?_
      refine w_seq ?_
      refine w_reg ?_
      refine wl_alloc 24 #[.int .u64 0, .int .u64 0, .int .u64 0, .int .u64 0] rfl (fun _ => by kernel_rfl) rfl ?_
      intro k21 w21 hk hz hq Q21
      have ne_k1_k21 : k1 ≠ k21 := by have := Q1.lt; omega
      have N_k21 : w.heap.size ≤ k21 := by have := M.size; omega
      replace Q1 := Q1.mo hq
      replace M := M.trans hq
      clear hk hz hq
      refine w_nil ?_
      refine xn_then ?_
      refine w_seq ?_
      refine w_seq ?_
      refine w_reg ?_
      refine wl_mv (.const (.int .i64 (0))) (.int .i64 (0)) (fun _ => rfl) rfl rfl ?_
      refine w_nil ?_
      refine xn_then ?_
      refine w_block ?_
      rw [if_pos (isT_mk hp hlead (by omega) hd)]
      have hT := dgs_end hk hlt hd
      refine w_loop (fun m l w1 => ∃ k : Nat, k + m = s.size ∧ look l 0 = .string s ∧ look l 6 = .int .i64 (k : Int) ∧ look l 2 = pt k1 0 ∧ look l 5 = pt k21 0 ∧ At w1 k1 [.int .u64 0, .int .u64 0, .int .u64 0, .int .u64 0] ∧ At w1 k21 (nvli (pvk s k)) ∧ pvk s k < MM ∧ Mo w w1 ∧ (∀ k, look l 7 = pt k 0 → k < w1.heap.size) ∧ (∀ k, look l 8 = pt k 0 → k < w1.heap.size) ∧ (∀ k, look l 7 = pt k 0 → look l 8 ≠ pt k 0) ∧ (∀ k, look l 9 = pt k 0 → k < w1.heap.size)) s.size ⟨0, by omega, e0, rfl, e2, rfl, Q1, Q21, by rw [pvk_z]; decide, M, (fun k h => (npt i7 h).elim), (fun k h => (npt i8 h).elim), (fun k h => (npt i7 h).elim), (fun k h => (npt i9 h).elim)⟩ ?_
      clear M Q1 Q21 hd hl h78 hk e0 e2 e4 i7 i8 i9 hlt
      rintro m2 l2 wl2 ⟨k, hk, e0, e6, e2, e5, Q1, Q21, hv, M, d7, d8, d78, d9⟩
      have hv0 := pvk_nn hT k (by omega)
      by_cases hlt : k < s.size
      · have hl : decide ((k : Int) < (s.size : Int)) = true := decide_eq_true (by omega)
        have hc := hT k hlt hlt
        have hsz := M.size
        by_cases hhi : pvk s k * 10 < MM
        · have hz := hi0z (show 0 ≤ pvk s k * 10 by omega) hhi
          by_cases hsm : pvk s k * 10 + ((s[k].toNat : Int) - 48) < MM
          · obtain ⟨Z, hZ⟩ : ∃ Z, Z = pvk s k * 10 + ((s[k].toNat : Int) - 48) := ⟨_, rfl⟩
            have hsum := fun w => rsum_ok (pvk s k * 10) ((s[k].toNat : Int) - 48) Z w (by omega) (by omega) hZ hhi hsm
            refine w_seq ?_
            refine w_seq ?_
            refine w_reg ?_
            refine wl_mv (.tmp 6) (.int .i64 ((k : Int))) (fun _ => rfl) e6 rfl ?_
            refine wl_mv (.tmp 0) (.string s) (fun _ => rfl) e0 rfl ?_
            refine wl_val (.int .i64 ((s.size : Int))) (len_run _ _ s rfl _ _ _ _ _ _) rfl ?_
            refine wl_bin (fun x y => do eqGuard .lss 3 (.tmp 45) (.tmp 47) x y; binOp .lss 3 x y) (.tmp 45) (.tmp 47) (.int .i64 ((k : Int))) (.int .i64 ((s.size : Int))) (.bool true) (fun _ => rfl) rfl rfl (lt3_run hl _ _ _) rfl ?_
            refine w_nil ?_
            refine xn_then ?_
            refine w_condT rfl ?_
            refine w_skip ?_
            refine xn_then ?_
            refine w_seq ?_
            refine w_block ?_
            refine w_seq ?_
            refine w_any 8 [.inl (nv (pvk s k)), .inl (nv (10)), .inl (.tuple #[nv (pvk s k * 10 / MM), nv (pvk s k * 10)]), .inl (.tuple #[nv (pvk s k * 10 / MM), nv (pvk s k * 10)]), .inl (nv (pvk s k * 10 / MM)), .inl (nv (pvk s k * 10)), .inr [.int .u64 0, .int .u64 0, .int .u64 0, .int .u64 0], .inr [.int .u64 0, .int .u64 0, .int .u64 0, .int .u64 0]] [5] (by kernel_rfl) (by kernel_rfl) (by kernel_rfl) (by kernel_rfl) rfl (by kernel_rfl) (by kernel_rfl) (late_cons ⟨_, _, rfl, rfl, fun _ _ _ _ h => h, fun f hd => ⟨rfl, la_un (fun v => Instr.extract v 1) (.tmp 51) (.tuple #[nv (pvk s k * 10 / MM), nv (pvk s k * 10)]) (nv (pvk s k * 10)) (fun _ => rfl) (hd 3 rfl _ rfl) (fun w => by kernel_rfl)⟩⟩ late_nil) ?_ ?_ ?_
            · exact Ds.two 6 7 (fun q hq => by rcases q with _ | _ | _ | _ | _ | _ | _ | _ | q <;> first | (left; rfl) | (right; rfl) | cases hq) d7 d8 d78
            · refine ea_cons ?_ (ea_cons ?_ (ea_cons ?_ (ea_cons ?_ (ea_cons ?_ (ea_cons ?_ (ea_cons ?_ (ea_cons ?_ (ea_nil))))))))
              · exact og_eq (nv (pvk s k)) rfl (fun f wf hq hd K hK => have Q21 := Q21.mo hq; go_run rfl (wo_load 24 (.tmp 5) (pt k21 0) (nv (pvk s k)) rfl e5 (run_row Q21 24 0 4 (nvli (pvk s k)) rfl Try.underlying24 rfl sz24) (hK _ (Mo.refl _))))
              · exact og_eq (nv (10)) rfl (fun f wf hq hd K hK => go_run rfl (wo_call 69 [(.const (.int .u64 (10)))] _ [.int .u64 (10)] (nv (10)) rfl rfl (fun _ _ => by kernel_rfl) (from69_n _) hK))
              · exact og_eq (.tuple #[nv (pvk s k * 10 / MM), nv (pvk s k * 10)]) rfl (fun f wf hq hd K hK => go_run rfl (wo_call 16 [(.tmp 52), (.tmp 53)] _ [nv (pvk s k), nv (10)] (.tuple #[nv (pvk s k * 10 / MM), nv (pvk s k * 10)]) rfl (li2 (hd 0 rfl) (hd 1 rfl)) (fun _ _ => by kernel_rfl) (rmul_n (pvk s k) 10 _ hv0 hv (by decide) (by decide)) hK))
              · exact og_eq (.tuple #[nv (pvk s k * 10 / MM), nv (pvk s k * 10)]) rfl (fun f wf hq hd K hK => go_run rfl (wo_mv (.tmp 54) (.tuple #[nv (pvk s k * 10 / MM), nv (pvk s k * 10)]) (fun _ => rfl) (hd 2 rfl) (hK _ (Mo.refl _))))
              · exact og_eq (nv (pvk s k * 10 / MM)) rfl (fun f wf hq hd K hK => go_run rfl (wo_un (fun v => Instr.extract v 0) (.tmp 51) (.tuple #[nv (pvk s k * 10 / MM), nv (pvk s k * 10)]) (nv (pvk s k * 10 / MM)) (fun _ => rfl) (hd 3 rfl) (by kernel_rfl) (hK _ (Mo.refl _))))
              · exact og_eq (nv (pvk s k * 10)) rfl (fun f wf hq hd K hK => go_run rfl (wo_un (fun v => Instr.extract v 1) (.tmp 51) (.tuple #[nv (pvk s k * 10 / MM), nv (pvk s k * 10)]) (nv (pvk s k * 10)) (fun _ => rfl) (hd 3 rfl) (by kernel_rfl) (hK _ (Mo.refl _))))
              · exact og_new [.int .u64 0, .int .u64 0, .int .u64 0, .int .u64 0] rfl (fun f wf hq hd K hK => go_run rfl (wo_alloc 24 #[.int .u64 0, .int .u64 0, .int .u64 0, .int .u64 0] rfl (fun _ => by kernel_rfl) hK))
              · exact og_new [.int .u64 0, .int .u64 0, .int .u64 0, .int .u64 0] rfl (fun f wf hq hd K hK => go_run rfl (wo_alloc 24 #[.int .u64 0, .int .u64 0, .int .u64 0, .int .u64 0] rfl (fun _ => by kernel_rfl) hK))
            intro kf51 w51 hq hR hne
            obtain ⟨N_k51, Q51⟩ := hR 6 _ rfl rfl
            obtain ⟨N_k52, Q52⟩ := hR 7 _ rfl rfl
            have ne_k1_k51 : k1 ≠ (kf51 6) := by have := Q1.lt; omega
            have ne_k21_k51 : k21 ≠ (kf51 6) := by have := Q21.lt; omega
            have ne_k51_k52 := hne 6 7 rfl rfl rfl rfl (by decide)
            replace N_k51 := Nat.le_trans M.size N_k51
            have ne_k1_k52 : k1 ≠ (kf51 7) := by have := Q1.lt; omega
            have ne_k21_k52 : k21 ≠ (kf51 7) := by have := Q21.lt; omega
            replace N_k52 := Nat.le_trans M.size N_k52
            replace d9 := fun k h => Nat.lt_of_lt_of_le (d9 k h) hq.size
            replace Q1 := Q1.mo hq
            replace Q21 := Q21.mo hq
            replace M := M.trans hq
            clear hq hR hne
            refine wl_st 24 (.tmp 7) (.tmp 55) (kf51 6) 0 (nvar (pvk s k * 10 / MM)) [.int .u64 0, .int .u64 0, .int .u64 0, .int .u64 0] (nvli (pvk s k * 10 / MM)) Q51 rfl rfl rfl rfl rfl sz24 rfl rfl rfl ?_
            intro w52 hS Qn
            replace Q51 := Qn
            clear Qn
            replace Q1 := hS.other _ _ ne_k1_k51 Q1
            replace Q21 := hS.other _ _ ne_k21_k51 Q21
            replace Q52 := hS.other _ _ ne_k51_k52.symm Q52
            replace d9 := fun k h => Nat.lt_of_lt_of_le (d9 k h) (Nat.le_of_eq hS.size.symm)
            replace M := hS.mo _ N_k51 M
            clear hS
            refine wl_st 24 (.tmp 8) (.tmp 56) (kf51 7) 0 (nvar (pvk s k * 10)) [.int .u64 0, .int .u64 0, .int .u64 0, .int .u64 0] (nvli (pvk s k * 10)) Q52 rfl rfl rfl rfl rfl sz24 rfl rfl rfl ?_
            intro w53 hS Qn
            replace Q52 := Qn
            clear Qn
            replace Q1 := hS.other _ _ ne_k1_k52 Q1
            replace Q21 := hS.other _ _ ne_k21_k52 Q21
            replace Q51 := hS.other _ _ ne_k51_k52 Q51
            replace d9 := fun k h => Nat.lt_of_lt_of_le (d9 k h) (Nat.le_of_eq hS.size.symm)
            replace M := hS.mo _ N_k52 M
            clear hS
            refine w_nil ?_
            refine xn_then ?_
            refine w_seq ?_
            refine w_any 12 [.inl (nv (pvk s k * 10)), .inl (.string s), .inl (.int .i64 ((k : Int))), .inl (.int .u8 (s[k].toNat : Int)), .inl (.int .u8 ((s[k].toNat : Int) - 48)), .inl (.int .u64 ((s[k].toNat : Int) - 48)), .inl (nv (((s[k].toNat : Int) - 48))), .inl (.tuple #[nv (Z), .bool false]), .inl (.tuple #[nv (Z), .bool false]), .inl (nv (Z)), .inl (.bool false), .inr [.int .u64 0, .int .u64 0, .int .u64 0, .int .u64 0]] [10] (by kernel_rfl) (by kernel_rfl) (by kernel_rfl) (by kernel_rfl) rfl (by kernel_rfl) (by kernel_rfl) (late_cons ⟨_, _, rfl, rfl, fun _ _ _ _ h => h, fun f hd => ⟨rfl, la_un (fun v => Instr.extract v 1) (.tmp 57) (.tuple #[nv (Z), .bool false]) (.bool false) (fun _ => rfl) (hd 8 rfl _ rfl) (fun w => by kernel_rfl)⟩⟩ late_nil) ?_ ?_ ?_
            · exact Ds.one 11 (fun q hq => by rcases q with _ | _ | _ | _ | _ | _ | _ | _ | _ | _ | _ | _ | q <;> first | rfl | cases hq) d9
            · refine ea_cons ?_ (ea_cons ?_ (ea_cons ?_ (ea_cons ?_ (ea_cons ?_ (ea_cons ?_ (ea_cons ?_ (ea_cons ?_ (ea_cons ?_ (ea_cons ?_ (ea_cons ?_ (ea_cons ?_ (ea_nil))))))))))))
              · exact og_eq (nv (pvk s k * 10)) rfl (fun f wf hq hd K hK => have Q52 := Q52.mo hq; go_run rfl (wo_load 24 (.tmp 8) (pt (kf51 7) 0) (nv (pvk s k * 10)) rfl rfl (run_row Q52 24 0 4 (nvli (pvk s k * 10)) rfl Try.underlying24 rfl sz24) (hK _ (Mo.refl _))))
              · exact og_eq (.string s) rfl (fun f wf hq hd K hK => go_run rfl (wo_mv (.tmp 0) (.string s) (fun _ => rfl) e0 (hK _ (Mo.refl _))))
              · exact og_eq (.int .i64 ((k : Int))) rfl (fun f wf hq hd K hK => go_run rfl (wo_mv (.tmp 6) (.int .i64 ((k : Int))) (fun _ => rfl) e6 (hK _ (Mo.refl _))))
              · exact og_eq (.int .u8 (s[k].toNat : Int)) rfl (fun f wf hq hd K hK => go_run rfl (wo_bin (fun x y => Instr.index 9 x y) (.tmp 59) (.tmp 60) (.string s) (.int .i64 ((k : Int))) (.int .u8 (s[k].toNat : Int)) (fun _ => rfl) (hd 1 rfl) (hd 2 rfl) (idx_s s k hlt _) (hK _ (Mo.refl _))))
              · exact og_eq (.int .u8 ((s[k].toNat : Int) - 48)) rfl (fun f wf hq hd K hK => go_run rfl (wo_bin (fun x y => do eqGuard .sub 5 (.tmp 61) (.const (.int .u8 (48))) x y; binOp .sub 5 x y) (.tmp 61) (.const (.int .u8 (48))) (.int .u8 (s[k].toNat : Int)) (.int .u8 (48)) (.int .u8 ((s[k].toNat : Int) - 48)) (fun _ => rfl) (hd 3 rfl) rfl (subu8_run hc.1 hc.2 _ _ _) (hK _ (Mo.refl _))))
              · exact og_eq (.int .u64 ((s[k].toNat : Int) - 48)) rfl (fun f wf hq hd K hK => go_run rfl (wo_un (fun v => convert 5 22 v) (.tmp 62) (.int .u8 ((s[k].toNat : Int) - 48)) (.int .u64 ((s[k].toNat : Int) - 48)) (fun _ => rfl) (hd 4 rfl) (cv8_run (by omega) (by omega) _) (hK _ (Mo.refl _))))
              · exact og_eq (nv (((s[k].toNat : Int) - 48))) rfl (fun f wf hq hd K hK => go_run rfl (wo_call 69 [(.tmp 63)] _ [.int .u64 ((s[k].toNat : Int) - 48)] (nv (((s[k].toNat : Int) - 48))) rfl (li1 (hd 5 rfl)) (fun _ _ => by kernel_rfl) (from34_any ((s[k].toNat : Int) - 48) _ ⟨by omega, by omega⟩) hK))
              · exact og_eq (.tuple #[nv (Z), .bool false]) rfl (fun f wf hq hd K hK => go_run rfl (wo_call 64 [(.tmp 58), (.tmp 64)] _ [nv (pvk s k * 10), nv (((s[k].toNat : Int) - 48))] (.tuple #[nv (Z), .bool false]) rfl (li2 (hd 0 rfl) (hd 6 rfl)) (fun _ _ => by kernel_rfl) (hsum _) hK))
              · exact og_eq (.tuple #[nv (Z), .bool false]) rfl (fun f wf hq hd K hK => go_run rfl (wo_mv (.tmp 65) (.tuple #[nv (Z), .bool false]) (fun _ => rfl) (hd 7 rfl) (hK _ (Mo.refl _))))
              · exact og_eq (nv (Z)) rfl (fun f wf hq hd K hK => go_run rfl (wo_un (fun v => Instr.extract v 0) (.tmp 57) (.tuple #[nv (Z), .bool false]) (nv (Z)) (fun _ => rfl) (hd 8 rfl) (by kernel_rfl) (hK _ (Mo.refl _))))
              · exact og_eq (.bool false) rfl (fun f wf hq hd K hK => go_run rfl (wo_un (fun v => Instr.extract v 1) (.tmp 57) (.tuple #[nv (Z), .bool false]) (.bool false) (fun _ => rfl) (hd 8 rfl) (by kernel_rfl) (hK _ (Mo.refl _))))
              · exact og_new [.int .u64 0, .int .u64 0, .int .u64 0, .int .u64 0] rfl (fun f wf hq hd K hK => go_run rfl (wo_alloc 24 #[.int .u64 0, .int .u64 0, .int .u64 0, .int .u64 0] rfl (fun _ => by kernel_rfl) hK))
            intro kf54 w54 hq hR hne
            obtain ⟨N_k53, Q53⟩ := hR 11 _ rfl rfl
            have ne_k1_k53 : k1 ≠ (kf54 11) := by have := Q1.lt; omega
            have ne_k21_k53 : k21 ≠ (kf54 11) := by have := Q21.lt; omega
            have ne_k51_k53 : (kf51 6) ≠ (kf54 11) := by have := Q51.lt; omega
            have ne_k52_k53 : (kf51 7) ≠ (kf54 11) := by have := Q52.lt; omega
            replace N_k53 := Nat.le_trans M.size N_k53
            replace d9 := fun k h => Nat.lt_of_lt_of_le (d9 k h) hq.size
            replace Q1 := Q1.mo hq
            replace Q21 := Q21.mo hq
            replace Q51 := Q51.mo hq
            replace Q52 := Q52.mo hq
            replace M := M.trans hq
            clear hq hR hne
            refine wl_st 24 (.tmp 9) (.tmp 66) (kf54 11) 0 (nvar (Z)) [.int .u64 0, .int .u64 0, .int .u64 0, .int .u64 0] (nvli (Z)) Q53 rfl rfl rfl rfl rfl sz24 rfl rfl rfl ?_
            intro w55 hS Qn
            replace Q53 := Qn
            clear Qn
            replace Q1 := hS.other _ _ ne_k1_k53 Q1
            replace Q21 := hS.other _ _ ne_k21_k53 Q21
            replace Q51 := hS.other _ _ ne_k51_k53 Q51
            replace Q52 := hS.other _ _ ne_k52_k53 Q52
            replace d9 := fun k h => Nat.lt_of_lt_of_le (d9 k h) (Nat.le_of_eq hS.size.symm)
            replace M := hS.mo _ N_k53 M
            clear hS
            refine wl_mv (.tmp 67) (.bool false) (fun _ => rfl) rfl rfl ?_
            refine w_nil ?_
            refine xn_then ?_
            refine w_seq ?_
            refine w_seq ?_
            refine w_reg ?_
            refine wl_load 24 (.tmp 7) (pt (kf51 6) 0) (nv (pvk s k * 10 / MM)) rfl rfl (run_row Q51 24 0 4 (nvli (pvk s k * 10 / MM)) rfl Try.underlying24 rfl sz24) rfl ?_
            refine wl_build 24 [] [] (.agg #[.int .u64 0, .int .u64 0, .int .u64 0, .int .u64 0]) rfl rfl (by kernel_rfl) rfl ?_
            refine wl_bin (fun x y => do eqGuard .neq 24 (.tmp 68) (.tmp 69) x y; binOp .neq 24 x y) (.tmp 68) (.tmp 69) (nv (pvk s k * 10 / MM)) (.agg #[.int .u64 0, .int .u64 0, .int .u64 0, .int .u64 0]) (.bool false) (fun _ => rfl) rfl rfl (nen_run (r := true) hz _ _ _) rfl ?_
            refine wl_mv (.tmp 70) (.bool false) (fun _ => rfl) rfl rfl ?_
            refine wl_mv (.tmp 10) (.bool false) (fun _ => rfl) rfl rfl ?_
            refine wl_pick (.tmp 71) (.const (.bool true)) (.tmp 72) false (.bool false) (fun _ => rfl) rfl rfl rfl ?_
            refine w_nil ?_
            refine xn_then ?_
            refine w_condF rfl ?_
            refine w_skip ?_
            refine xn_then ?_
            refine w_reg ?_
            refine wl_load 24 (.tmp 9) (pt (kf54 11) 0) (nv (Z)) rfl rfl (run_row Q53 24 0 4 (nvli (Z)) rfl Try.underlying24 rfl sz24) rfl ?_
            refine wl_st 24 (.tmp 5) (.tmp 75) k21 0 (nvar (Z)) (nvli (pvk s k)) (nvli (Z)) Q21 rfl rfl e5 rfl rfl sz24 rfl rfl rfl ?_
            intro w56 hS Qn
            replace Q21 := Qn
            clear Qn
            replace Q1 := hS.other _ _ ne_k1_k21 Q1
            replace Q51 := hS.other _ _ ne_k21_k51.symm Q51
            replace Q52 := hS.other _ _ ne_k21_k52.symm Q52
            replace Q53 := hS.other _ _ ne_k21_k53.symm Q53
            replace d9 := fun k h => Nat.lt_of_lt_of_le (d9 k h) (Nat.le_of_eq hS.size.symm)
            replace M := hS.mo _ N_k21 M
            clear hS
            refine w_nil ?_
            refine xn_blk ?_
            refine xn_then ?_
            refine w_reg ?_
            refine wl_mv (.tmp 6) (.int .i64 ((k : Int))) (fun _ => rfl) e6 rfl ?_
            refine wl_bin (fun x y => do eqGuard .add 3 (.tmp 49) (.const (.int .i64 (1))) x y; binOp .add 3 x y) (.tmp 49) (.const (.int .i64 (1))) (.int .i64 ((k : Int))) (.int .i64 (1)) (.int .i64 (((k + 1 : Nat) : Int))) (fun _ => rfl) rfl rfl (add1_run (by unfold maxLen at hs; omega) _ _ _) rfl ?_
            refine wl_mv (.tmp 50) (.int .i64 (((k + 1 : Nat) : Int))) (fun _ => rfl) rfl rfl ?_
            refine w_nil ?_
            exact xn_loop (s.size - (k + 1)) (by omega) ⟨k + 1, by omega, e0, rfl, e2, e5, Q1, by rw [pvk_succ s k hlt, ← hZ]; exact Q21, by rw [pvk_succ s k hlt]; exact hsm, M, (fun k h => by have e : pt (kf51 6) 0 = pt k 0 := h; rw [← pt_inj e]; exact Q51.lt), (fun k h => by have e : pt (kf51 7) 0 = pt k 0 := h; rw [← pt_inj e]; exact Q52.lt), (fun k h h2 => by have e : pt (kf51 6) 0 = pt k 0 := h; have e2 : pt (kf51 7) 0 = pt k 0 := h2; exact ne_k51_k52 (pt_inj (e.trans e2.symm))), (fun k h => by have e : pt (kf54 11) 0 = pt k 0 := h; rw [← pt_inj e]; exact Q53.lt)⟩
          · obtain ⟨Z, hsum⟩ := rsum_ov (pvk s k * 10) ((s[k].toNat : Int) - 48) (by omega) (by omega) (by omega) hhi hsm
            have hbig : ¬ pvk s k * 10 + ((s[k].toNat : Int) - 48) < MM := hsm
            refine w_seq ?_
            refine w_seq ?_
            refine w_reg ?_
            refine wl_mv (.tmp 6) (.int .i64 ((k : Int))) (fun _ => rfl) e6 rfl ?_
            refine wl_mv (.tmp 0) (.string s) (fun _ => rfl) e0 rfl ?_
            refine wl_val (.int .i64 ((s.size : Int))) (len_run _ _ s rfl _ _ _ _ _ _) rfl ?_
            refine wl_bin (fun x y => do eqGuard .lss 3 (.tmp 45) (.tmp 47) x y; binOp .lss 3 x y) (.tmp 45) (.tmp 47) (.int .i64 ((k : Int))) (.int .i64 ((s.size : Int))) (.bool true) (fun _ => rfl) rfl rfl (lt3_run hl _ _ _) rfl ?_
            refine w_nil ?_
            refine xn_then ?_
            refine w_condT rfl ?_
            refine w_skip ?_
            refine xn_then ?_
            refine w_seq ?_
            refine w_block ?_
            refine w_seq ?_
            refine w_any 8 [.inl (nv (pvk s k)), .inl (nv (10)), .inl (.tuple #[nv (pvk s k * 10 / MM), nv (pvk s k * 10)]), .inl (.tuple #[nv (pvk s k * 10 / MM), nv (pvk s k * 10)]), .inl (nv (pvk s k * 10 / MM)), .inl (nv (pvk s k * 10)), .inr [.int .u64 0, .int .u64 0, .int .u64 0, .int .u64 0], .inr [.int .u64 0, .int .u64 0, .int .u64 0, .int .u64 0]] [5] (by kernel_rfl) (by kernel_rfl) (by kernel_rfl) (by kernel_rfl) rfl (by kernel_rfl) (by kernel_rfl) (late_cons ⟨_, _, rfl, rfl, fun _ _ _ _ h => h, fun f hd => ⟨rfl, la_un (fun v => Instr.extract v 1) (.tmp 51) (.tuple #[nv (pvk s k * 10 / MM), nv (pvk s k * 10)]) (nv (pvk s k * 10)) (fun _ => rfl) (hd 3 rfl _ rfl) (fun w => by kernel_rfl)⟩⟩ late_nil) ?_ ?_ ?_
            · exact Ds.two 6 7 (fun q hq => by rcases q with _ | _ | _ | _ | _ | _ | _ | _ | q <;> first | (left; rfl) | (right; rfl) | cases hq) d7 d8 d78
            · refine ea_cons ?_ (ea_cons ?_ (ea_cons ?_ (ea_cons ?_ (ea_cons ?_ (ea_cons ?_ (ea_cons ?_ (ea_cons ?_ (ea_nil))))))))
              · exact og_eq (nv (pvk s k)) rfl (fun f wf hq hd K hK => have Q21 := Q21.mo hq; go_run rfl (wo_load 24 (.tmp 5) (pt k21 0) (nv (pvk s k)) rfl e5 (run_row Q21 24 0 4 (nvli (pvk s k)) rfl Try.underlying24 rfl sz24) (hK _ (Mo.refl _))))
              · exact og_eq (nv (10)) rfl (fun f wf hq hd K hK => go_run rfl (wo_call 69 [(.const (.int .u64 (10)))] _ [.int .u64 (10)] (nv (10)) rfl rfl (fun _ _ => by kernel_rfl) (from69_n _) hK))
              · exact og_eq (.tuple #[nv (pvk s k * 10 / MM), nv (pvk s k * 10)]) rfl (fun f wf hq hd K hK => go_run rfl (wo_call 16 [(.tmp 52), (.tmp 53)] _ [nv (pvk s k), nv (10)] (.tuple #[nv (pvk s k * 10 / MM), nv (pvk s k * 10)]) rfl (li2 (hd 0 rfl) (hd 1 rfl)) (fun _ _ => by kernel_rfl) (rmul_n (pvk s k) 10 _ hv0 hv (by decide) (by decide)) hK))
              · exact og_eq (.tuple #[nv (pvk s k * 10 / MM), nv (pvk s k * 10)]) rfl (fun f wf hq hd K hK => go_run rfl (wo_mv (.tmp 54) (.tuple #[nv (pvk s k * 10 / MM), nv (pvk s k * 10)]) (fun _ => rfl) (hd 2 rfl) (hK _ (Mo.refl _))))
              · exact og_eq (nv (pvk s k * 10 / MM)) rfl (fun f wf hq hd K hK => go_run rfl (wo_un (fun v => Instr.extract v 0) (.tmp 51) (.tuple #[nv (pvk s k * 10 / MM), nv (pvk s k * 10)]) (nv (pvk s k * 10 / MM)) (fun _ => rfl) (hd 3 rfl) (by kernel_rfl) (hK _ (Mo.refl _))))
              · exact og_eq (nv (pvk s k * 10)) rfl (fun f wf hq hd K hK => go_run rfl (wo_un (fun v => Instr.extract v 1) (.tmp 51) (.tuple #[nv (pvk s k * 10 / MM), nv (pvk s k * 10)]) (nv (pvk s k * 10)) (fun _ => rfl) (hd 3 rfl) (by kernel_rfl) (hK _ (Mo.refl _))))
              · exact og_new [.int .u64 0, .int .u64 0, .int .u64 0, .int .u64 0] rfl (fun f wf hq hd K hK => go_run rfl (wo_alloc 24 #[.int .u64 0, .int .u64 0, .int .u64 0, .int .u64 0] rfl (fun _ => by kernel_rfl) hK))
              · exact og_new [.int .u64 0, .int .u64 0, .int .u64 0, .int .u64 0] rfl (fun f wf hq hd K hK => go_run rfl (wo_alloc 24 #[.int .u64 0, .int .u64 0, .int .u64 0, .int .u64 0] rfl (fun _ => by kernel_rfl) hK))
            intro kf51 w51 hq hR hne
            obtain ⟨N_k51, Q51⟩ := hR 6 _ rfl rfl
            obtain ⟨N_k52, Q52⟩ := hR 7 _ rfl rfl
            have ne_k1_k51 : k1 ≠ (kf51 6) := by have := Q1.lt; omega
            have ne_k21_k51 : k21 ≠ (kf51 6) := by have := Q21.lt; omega
            have ne_k51_k52 := hne 6 7 rfl rfl rfl rfl (by decide)
            replace N_k51 := Nat.le_trans M.size N_k51
            have ne_k1_k52 : k1 ≠ (kf51 7) := by have := Q1.lt; omega
            have ne_k21_k52 : k21 ≠ (kf51 7) := by have := Q21.lt; omega
            replace N_k52 := Nat.le_trans M.size N_k52
            replace d9 := fun k h => Nat.lt_of_lt_of_le (d9 k h) hq.size
            replace Q1 := Q1.mo hq
            replace Q21 := Q21.mo hq
            replace M := M.trans hq
            clear hq hR hne
            refine wl_st 24 (.tmp 7) (.tmp 55) (kf51 6) 0 (nvar (pvk s k * 10 / MM)) [.int .u64 0, .int .u64 0, .int .u64 0, .int .u64 0] (nvli (pvk s k * 10 / MM)) Q51 rfl rfl rfl rfl rfl sz24 rfl rfl rfl ?_
            intro w52 hS Qn
            replace Q51 := Qn
            clear Qn
            replace Q1 := hS.other _ _ ne_k1_k51 Q1
            replace Q21 := hS.other _ _ ne_k21_k51 Q21
            replace Q52 := hS.other _ _ ne_k51_k52.symm Q52
            replace d9 := fun k h => Nat.lt_of_lt_of_le (d9 k h) (Nat.le_of_eq hS.size.symm)
            replace M := hS.mo _ N_k51 M
            clear hS
            refine wl_st 24 (.tmp 8) (.tmp 56) (kf51 7) 0 (nvar (pvk s k * 10)) [.int .u64 0, .int .u64 0, .int .u64 0, .int .u64 0] (nvli (pvk s k * 10)) Q52 rfl rfl rfl rfl rfl sz24 rfl rfl rfl ?_
            intro w53 hS Qn
            replace Q52 := Qn
            clear Qn
            replace Q1 := hS.other _ _ ne_k1_k52 Q1
            replace Q21 := hS.other _ _ ne_k21_k52 Q21
            replace Q51 := hS.other _ _ ne_k51_k52 Q51
            replace d9 := fun k h => Nat.lt_of_lt_of_le (d9 k h) (Nat.le_of_eq hS.size.symm)
            replace M := hS.mo _ N_k52 M
            clear hS
            refine w_nil ?_
            refine xn_then ?_
            refine w_seq ?_
            refine w_any 12 [.inl (nv (pvk s k * 10)), .inl (.string s), .inl (.int .i64 ((k : Int))), .inl (.int .u8 (s[k].toNat : Int)), .inl (.int .u8 ((s[k].toNat : Int) - 48)), .inl (.int .u64 ((s[k].toNat : Int) - 48)), .inl (nv (((s[k].toNat : Int) - 48))), .inl (.tuple #[nv (Z), .bool true]), .inl (.tuple #[nv (Z), .bool true]), .inl (nv (Z)), .inl (.bool true), .inr [.int .u64 0, .int .u64 0, .int .u64 0, .int .u64 0]] [10] (by kernel_rfl) (by kernel_rfl) (by kernel_rfl) (by kernel_rfl) rfl (by kernel_rfl) (by kernel_rfl) (late_cons ⟨_, _, rfl, rfl, fun _ _ _ _ h => h, fun f hd => ⟨rfl, la_un (fun v => Instr.extract v 1) (.tmp 57) (.tuple #[nv (Z), .bool true]) (.bool true) (fun _ => rfl) (hd 8 rfl _ rfl) (fun w => by kernel_rfl)⟩⟩ late_nil) ?_ ?_ ?_
            · exact Ds.one 11 (fun q hq => by rcases q with _ | _ | _ | _ | _ | _ | _ | _ | _ | _ | _ | _ | q <;> first | rfl | cases hq) d9
            · refine ea_cons ?_ (ea_cons ?_ (ea_cons ?_ (ea_cons ?_ (ea_cons ?_ (ea_cons ?_ (ea_cons ?_ (ea_cons ?_ (ea_cons ?_ (ea_cons ?_ (ea_cons ?_ (ea_cons ?_ (ea_nil))))))))))))
              · exact og_eq (nv (pvk s k * 10)) rfl (fun f wf hq hd K hK => have Q52 := Q52.mo hq; go_run rfl (wo_load 24 (.tmp 8) (pt (kf51 7) 0) (nv (pvk s k * 10)) rfl rfl (run_row Q52 24 0 4 (nvli (pvk s k * 10)) rfl Try.underlying24 rfl sz24) (hK _ (Mo.refl _))))
              · exact og_eq (.string s) rfl (fun f wf hq hd K hK => go_run rfl (wo_mv (.tmp 0) (.string s) (fun _ => rfl) e0 (hK _ (Mo.refl _))))
              · exact og_eq (.int .i64 ((k : Int))) rfl (fun f wf hq hd K hK => go_run rfl (wo_mv (.tmp 6) (.int .i64 ((k : Int))) (fun _ => rfl) e6 (hK _ (Mo.refl _))))
              · exact og_eq (.int .u8 (s[k].toNat : Int)) rfl (fun f wf hq hd K hK => go_run rfl (wo_bin (fun x y => Instr.index 9 x y) (.tmp 59) (.tmp 60) (.string s) (.int .i64 ((k : Int))) (.int .u8 (s[k].toNat : Int)) (fun _ => rfl) (hd 1 rfl) (hd 2 rfl) (idx_s s k hlt _) (hK _ (Mo.refl _))))
              · exact og_eq (.int .u8 ((s[k].toNat : Int) - 48)) rfl (fun f wf hq hd K hK => go_run rfl (wo_bin (fun x y => do eqGuard .sub 5 (.tmp 61) (.const (.int .u8 (48))) x y; binOp .sub 5 x y) (.tmp 61) (.const (.int .u8 (48))) (.int .u8 (s[k].toNat : Int)) (.int .u8 (48)) (.int .u8 ((s[k].toNat : Int) - 48)) (fun _ => rfl) (hd 3 rfl) rfl (subu8_run hc.1 hc.2 _ _ _) (hK _ (Mo.refl _))))
              · exact og_eq (.int .u64 ((s[k].toNat : Int) - 48)) rfl (fun f wf hq hd K hK => go_run rfl (wo_un (fun v => convert 5 22 v) (.tmp 62) (.int .u8 ((s[k].toNat : Int) - 48)) (.int .u64 ((s[k].toNat : Int) - 48)) (fun _ => rfl) (hd 4 rfl) (cv8_run (by omega) (by omega) _) (hK _ (Mo.refl _))))
              · exact og_eq (nv (((s[k].toNat : Int) - 48))) rfl (fun f wf hq hd K hK => go_run rfl (wo_call 69 [(.tmp 63)] _ [.int .u64 ((s[k].toNat : Int) - 48)] (nv (((s[k].toNat : Int) - 48))) rfl (li1 (hd 5 rfl)) (fun _ _ => by kernel_rfl) (from34_any ((s[k].toNat : Int) - 48) _ ⟨by omega, by omega⟩) hK))
              · exact og_eq (.tuple #[nv (Z), .bool true]) rfl (fun f wf hq hd K hK => go_run rfl (wo_call 64 [(.tmp 58), (.tmp 64)] _ [nv (pvk s k * 10), nv (((s[k].toNat : Int) - 48))] (.tuple #[nv (Z), .bool true]) rfl (li2 (hd 0 rfl) (hd 6 rfl)) (fun _ _ => by kernel_rfl) (hsum _) hK))
              · exact og_eq (.tuple #[nv (Z), .bool true]) rfl (fun f wf hq hd K hK => go_run rfl (wo_mv (.tmp 65) (.tuple #[nv (Z), .bool true]) (fun _ => rfl) (hd 7 rfl) (hK _ (Mo.refl _))))
              · exact og_eq (nv (Z)) rfl (fun f wf hq hd K hK => go_run rfl (wo_un (fun v => Instr.extract v 0) (.tmp 57) (.tuple #[nv (Z), .bool true]) (nv (Z)) (fun _ => rfl) (hd 8 rfl) (by kernel_rfl) (hK _ (Mo.refl _))))
              · exact og_eq (.bool true) rfl (fun f wf hq hd K hK => go_run rfl (wo_un (fun v => Instr.extract v 1) (.tmp 57) (.tuple #[nv (Z), .bool true]) (.bool true) (fun _ => rfl) (hd 8 rfl) (by kernel_rfl) (hK _ (Mo.refl _))))
              · exact og_new [.int .u64 0, .int .u64 0, .int .u64 0, .int .u64 0] rfl (fun f wf hq hd K hK => go_run rfl (wo_alloc 24 #[.int .u64 0, .int .u64 0, .int .u64 0, .int .u64 0] rfl (fun _ => by kernel_rfl) hK))
            intro kf54 w54 hq hR hne
            obtain ⟨N_k53, Q53⟩ := hR 11 _ rfl rfl
            have ne_k1_k53 : k1 ≠ (kf54 11) := by have := Q1.lt; omega
            have ne_k21_k53 : k21 ≠ (kf54 11) := by have := Q21.lt; omega
            have ne_k51_k53 : (kf51 6) ≠ (kf54 11) := by have := Q51.lt; omega
            have ne_k52_k53 : (kf51 7) ≠ (kf54 11) := by have := Q52.lt; omega
            replace N_k53 := Nat.le_trans M.size N_k53
            replace d9 := fun k h => Nat.lt_of_lt_of_le (d9 k h) hq.size
            replace Q1 := Q1.mo hq
            replace Q21 := Q21.mo hq
            replace Q51 := Q51.mo hq
            replace Q52 := Q52.mo hq
            replace M := M.trans hq
            clear hq hR hne
            refine wl_st 24 (.tmp 9) (.tmp 66) (kf54 11) 0 (nvar (Z)) [.int .u64 0, .int .u64 0, .int .u64 0, .int .u64 0] (nvli (Z)) Q53 rfl rfl rfl rfl rfl sz24 rfl rfl rfl ?_
            intro w55 hS Qn
            replace Q53 := Qn
            clear Qn
            replace Q1 := hS.other _ _ ne_k1_k53 Q1
            replace Q21 := hS.other _ _ ne_k21_k53 Q21
            replace Q51 := hS.other _ _ ne_k51_k53 Q51
            replace Q52 := hS.other _ _ ne_k52_k53 Q52
            replace d9 := fun k h => Nat.lt_of_lt_of_le (d9 k h) (Nat.le_of_eq hS.size.symm)
            replace M := hS.mo _ N_k53 M
            clear hS
            refine wl_mv (.tmp 67) (.bool true) (fun _ => rfl) rfl rfl ?_
            refine w_nil ?_
            refine xn_then ?_
            refine w_seq ?_
            refine w_seq ?_
            refine w_reg ?_
            refine wl_load 24 (.tmp 7) (pt (kf51 6) 0) (nv (pvk s k * 10 / MM)) rfl rfl (run_row Q51 24 0 4 (nvli (pvk s k * 10 / MM)) rfl Try.underlying24 rfl sz24) rfl ?_
            refine wl_build 24 [] [] (.agg #[.int .u64 0, .int .u64 0, .int .u64 0, .int .u64 0]) rfl rfl (by kernel_rfl) rfl ?_
            refine wl_bin (fun x y => do eqGuard .neq 24 (.tmp 68) (.tmp 69) x y; binOp .neq 24 x y) (.tmp 68) (.tmp 69) (nv (pvk s k * 10 / MM)) (.agg #[.int .u64 0, .int .u64 0, .int .u64 0, .int .u64 0]) (.bool false) (fun _ => rfl) rfl rfl (nen_run (r := true) hz _ _ _) rfl ?_
            refine wl_mv (.tmp 70) (.bool false) (fun _ => rfl) rfl rfl ?_
            refine wl_mv (.tmp 10) (.bool true) (fun _ => rfl) rfl rfl ?_
            refine wl_pick (.tmp 71) (.const (.bool true)) (.tmp 72) false (.bool true) (fun _ => rfl) rfl rfl rfl ?_
            refine w_nil ?_
            refine xn_then ?_
            refine w_condT rfl ?_
            refine w_seq ?_
            refine w_reg ?_
            refine wl_build 24 [] [] (.agg #[.int .u64 0, .int .u64 0, .int .u64 0, .int .u64 0]) rfl rfl (by kernel_rfl) rfl ?_
            refine wl_st 24 (.tmp 2) (.tmp 74) k1 0 #[.int .u64 0, .int .u64 0, .int .u64 0, .int .u64 0] [.int .u64 0, .int .u64 0, .int .u64 0, .int .u64 0] [.int .u64 0, .int .u64 0, .int .u64 0, .int .u64 0] Q1 rfl rfl e2 rfl rfl sz24 rfl rfl rfl ?_
            intro w56 hS Qn
            replace Q1 := Qn
            clear Qn
            replace Q21 := hS.other _ _ ne_k1_k21.symm Q21
            replace Q51 := hS.other _ _ ne_k1_k51.symm Q51
            replace Q52 := hS.other _ _ ne_k1_k52.symm Q52
            replace Q53 := hS.other _ _ ne_k1_k53.symm Q53
            replace d9 := fun k h => Nat.lt_of_lt_of_le (d9 k h) (Nat.le_of_eq hS.size.symm)
            replace M := hS.mo _ N_k1 M
            clear hS
            refine wl_mv (.const (.int .i64 (7))) (.int .i64 (7)) (fun _ => rfl) rfl rfl ?_
            refine w_nil ?_
            refine xn_then ?_
            refine w_ret ?_
            refine xr_then ?_
            refine xr_blk ?_
            refine xr_then ?_
            refine xr_then ?_
            refine xr_blk ?_
            refine xr_then ?_
            exact w_ret2 _ _ (.agg #[.int .u64 0, .int .u64 0, .int .u64 0, .int .u64 0]) (.int .i64 (7)) rfl ⟨k1, e2, (run_row Q1 24 0 4 [.int .u64 0, .int .u64 0, .int .u64 0, .int .u64 0] rfl Try.underlying24 rfl sz24)⟩ rfl ⟨by rw [resP_over hT hlt hbig], M⟩
        · have hz := hi1z (show MM ≤ pvk s k * 10 by omega) (show pvk s k * 10 < MM * MM by unfold MM at *; omega)
          obtain ⟨Z, o, hsum⟩ := rsum_any (pvk s k * 10) ((s[k].toNat : Int) - 48)
          have hbig : ¬ pvk s k * 10 + ((s[k].toNat : Int) - 48) < MM := by omega
          refine w_seq ?_
          refine w_seq ?_
          refine w_reg ?_
          refine wl_mv (.tmp 6) (.int .i64 ((k : Int))) (fun _ => rfl) e6 rfl ?_
          refine wl_mv (.tmp 0) (.string s) (fun _ => rfl) e0 rfl ?_
          refine wl_val (.int .i64 ((s.size : Int))) (len_run _ _ s rfl _ _ _ _ _ _) rfl ?_
          refine wl_bin (fun x y => do eqGuard .lss 3 (.tmp 45) (.tmp 47) x y; binOp .lss 3 x y) (.tmp 45) (.tmp 47) (.int .i64 ((k : Int))) (.int .i64 ((s.size : Int))) (.bool true) (fun _ => rfl) rfl rfl (lt3_run hl _ _ _) rfl ?_
          refine w_nil ?_
          refine xn_then ?_
          refine w_condT rfl ?_
          refine w_skip ?_
          refine xn_then ?_
          refine w_seq ?_
          refine w_block ?_
          refine w_seq ?_
          refine w_any 8 [.inl (nv (pvk s k)), .inl (nv (10)), .inl (.tuple #[nv (pvk s k * 10 / MM), nv (pvk s k * 10)]), .inl (.tuple #[nv (pvk s k * 10 / MM), nv (pvk s k * 10)]), .inl (nv (pvk s k * 10 / MM)), .inl (nv (pvk s k * 10)), .inr [.int .u64 0, .int .u64 0, .int .u64 0, .int .u64 0], .inr [.int .u64 0, .int .u64 0, .int .u64 0, .int .u64 0]] [5] (by kernel_rfl) (by kernel_rfl) (by kernel_rfl) (by kernel_rfl) rfl (by kernel_rfl) (by kernel_rfl) (late_cons ⟨_, _, rfl, rfl, fun _ _ _ _ h => h, fun f hd => ⟨rfl, la_un (fun v => Instr.extract v 1) (.tmp 51) (.tuple #[nv (pvk s k * 10 / MM), nv (pvk s k * 10)]) (nv (pvk s k * 10)) (fun _ => rfl) (hd 3 rfl _ rfl) (fun w => by kernel_rfl)⟩⟩ late_nil) ?_ ?_ ?_
          · exact Ds.two 6 7 (fun q hq => by rcases q with _ | _ | _ | _ | _ | _ | _ | _ | q <;> first | (left; rfl) | (right; rfl) | cases hq) d7 d8 d78
          · refine ea_cons ?_ (ea_cons ?_ (ea_cons ?_ (ea_cons ?_ (ea_cons ?_ (ea_cons ?_ (ea_cons ?_ (ea_cons ?_ (ea_nil))))))))
            · exact og_eq (nv (pvk s k)) rfl (fun f wf hq hd K hK => have Q21 := Q21.mo hq; go_run rfl (wo_load 24 (.tmp 5) (pt k21 0) (nv (pvk s k)) rfl e5 (run_row Q21 24 0 4 (nvli (pvk s k)) rfl Try.underlying24 rfl sz24) (hK _ (Mo.refl _))))
            · exact og_eq (nv (10)) rfl (fun f wf hq hd K hK => go_run rfl (wo_call 69 [(.const (.int .u64 (10)))] _ [.int .u64 (10)] (nv (10)) rfl rfl (fun _ _ => by kernel_rfl) (from69_n _) hK))
            · exact og_eq (.tuple #[nv (pvk s k * 10 / MM), nv (pvk s k * 10)]) rfl (fun f wf hq hd K hK => go_run rfl (wo_call 16 [(.tmp 52), (.tmp 53)] _ [nv (pvk s k), nv (10)] (.tuple #[nv (pvk s k * 10 / MM), nv (pvk s k * 10)]) rfl (li2 (hd 0 rfl) (hd 1 rfl)) (fun _ _ => by kernel_rfl) (rmul_n (pvk s k) 10 _ hv0 hv (by decide) (by decide)) hK))
            · exact og_eq (.tuple #[nv (pvk s k * 10 / MM), nv (pvk s k * 10)]) rfl (fun f wf hq hd K hK => go_run rfl (wo_mv (.tmp 54) (.tuple #[nv (pvk s k * 10 / MM), nv (pvk s k * 10)]) (fun _ => rfl) (hd 2 rfl) (hK _ (Mo.refl _))))
            · exact og_eq (nv (pvk s k * 10 / MM)) rfl (fun f wf hq hd K hK => go_run rfl (wo_un (fun v => Instr.extract v 0) (.tmp 51) (.tuple #[nv (pvk s k * 10 / MM), nv (pvk s k * 10)]) (nv (pvk s k * 10 / MM)) (fun _ => rfl) (hd 3 rfl) (by kernel_rfl) (hK _ (Mo.refl _))))
            · exact og_eq (nv (pvk s k * 10)) rfl (fun f wf hq hd K hK => go_run rfl (wo_un (fun v => Instr.extract v 1) (.tmp 51) (.tuple #[nv (pvk s k * 10 / MM), nv (pvk s k * 10)]) (nv (pvk s k * 10)) (fun _ => rfl) (hd 3 rfl) (by kernel_rfl) (hK _ (Mo.refl _))))
            · exact og_new [.int .u64 0, .int .u64 0, .int .u64 0, .int .u64 0] rfl (fun f wf hq hd K hK => go_run rfl (wo_alloc 24 #[.int .u64 0, .int .u64 0, .int .u64 0, .int .u64 0] rfl (fun _ => by kernel_rfl) hK))
            · exact og_new [.int .u64 0, .int .u64 0, .int .u64 0, .int .u64 0] rfl (fun f wf hq hd K hK => go_run rfl (wo_alloc 24 #[.int .u64 0, .int .u64 0, .int .u64 0, .int .u64 0] rfl (fun _ => by kernel_rfl) hK))
          intro kf51 w51 hq hR hne
          obtain ⟨N_k51, Q51⟩ := hR 6 _ rfl rfl
          obtain ⟨N_k52, Q52⟩ := hR 7 _ rfl rfl
          have ne_k1_k51 : k1 ≠ (kf51 6) := by have := Q1.lt; omega
          have ne_k21_k51 : k21 ≠ (kf51 6) := by have := Q21.lt; omega
          have ne_k51_k52 := hne 6 7 rfl rfl rfl rfl (by decide)
          replace N_k51 := Nat.le_trans M.size N_k51
          have ne_k1_k52 : k1 ≠ (kf51 7) := by have := Q1.lt; omega
          have ne_k21_k52 : k21 ≠ (kf51 7) := by have := Q21.lt; omega
          replace N_k52 := Nat.le_trans M.size N_k52
          replace d9 := fun k h => Nat.lt_of_lt_of_le (d9 k h) hq.size
          replace Q1 := Q1.mo hq
          replace Q21 := Q21.mo hq
          replace M := M.trans hq
          clear hq hR hne
          refine wl_st 24 (.tmp 7) (.tmp 55) (kf51 6) 0 (nvar (pvk s k * 10 / MM)) [.int .u64 0, .int .u64 0, .int .u64 0, .int .u64 0] (nvli (pvk s k * 10 / MM)) Q51 rfl rfl rfl rfl rfl sz24 rfl rfl rfl ?_
          intro w52 hS Qn
          replace Q51 := Qn
          clear Qn
          replace Q1 := hS.other _ _ ne_k1_k51 Q1
          replace Q21 := hS.other _ _ ne_k21_k51 Q21
          replace Q52 := hS.other _ _ ne_k51_k52.symm Q52
          replace d9 := fun k h => Nat.lt_of_lt_of_le (d9 k h) (Nat.le_of_eq hS.size.symm)
          replace M := hS.mo _ N_k51 M
          clear hS
          refine wl_st 24 (.tmp 8) (.tmp 56) (kf51 7) 0 (nvar (pvk s k * 10)) [.int .u64 0, .int .u64 0, .int .u64 0, .int .u64 0] (nvli (pvk s k * 10)) Q52 rfl rfl rfl rfl rfl sz24 rfl rfl rfl ?_
          intro w53 hS Qn
          replace Q52 := Qn
          clear Qn
          replace Q1 := hS.other _ _ ne_k1_k52 Q1
          replace Q21 := hS.other _ _ ne_k21_k52 Q21
          replace Q51 := hS.other _ _ ne_k51_k52 Q51
          replace d9 := fun k h => Nat.lt_of_lt_of_le (d9 k h) (Nat.le_of_eq hS.size.symm)
          replace M := hS.mo _ N_k52 M
          clear hS
          refine w_nil ?_
          refine xn_then ?_
          refine w_seq ?_
          refine w_any 12 [.inl (nv (pvk s k * 10)), .inl (.string s), .inl (.int .i64 ((k : Int))), .inl (.int .u8 (s[k].toNat : Int)), .inl (.int .u8 ((s[k].toNat : Int) - 48)), .inl (.int .u64 ((s[k].toNat : Int) - 48)), .inl (nv (((s[k].toNat : Int) - 48))), .inl (.tuple #[nv (Z), .bool (o)]), .inl (.tuple #[nv (Z), .bool (o)]), .inl (nv (Z)), .inl (.bool (o)), .inr [.int .u64 0, .int .u64 0, .int .u64 0, .int .u64 0]] [10] (by kernel_rfl) (by kernel_rfl) (by kernel_rfl) (by kernel_rfl) rfl (by kernel_rfl) (by kernel_rfl) (late_cons ⟨_, _, rfl, rfl, fun _ _ _ _ h => h, fun f hd => ⟨rfl, la_un (fun v => Instr.extract v 1) (.tmp 57) (.tuple #[nv (Z), .bool (o)]) (.bool (o)) (fun _ => rfl) (hd 8 rfl _ rfl) (fun w => by kernel_rfl)⟩⟩ late_nil) ?_ ?_ ?_
          · exact Ds.one 11 (fun q hq => by rcases q with _ | _ | _ | _ | _ | _ | _ | _ | _ | _ | _ | _ | q <;> first | rfl | cases hq) d9
          · refine ea_cons ?_ (ea_cons ?_ (ea_cons ?_ (ea_cons ?_ (ea_cons ?_ (ea_cons ?_ (ea_cons ?_ (ea_cons ?_ (ea_cons ?_ (ea_cons ?_ (ea_cons ?_ (ea_cons ?_ (ea_nil))))))))))))
            · exact og_eq (nv (pvk s k * 10)) rfl (fun f wf hq hd K hK => have Q52 := Q52.mo hq; go_run rfl (wo_load 24 (.tmp 8) (pt (kf51 7) 0) (nv (pvk s k * 10)) rfl rfl (run_row Q52 24 0 4 (nvli (pvk s k * 10)) rfl Try.underlying24 rfl sz24) (hK _ (Mo.refl _))))
            · exact og_eq (.string s) rfl (fun f wf hq hd K hK => go_run rfl (wo_mv (.tmp 0) (.string s) (fun _ => rfl) e0 (hK _ (Mo.refl _))))
            · exact og_eq (.int .i64 ((k : Int))) rfl (fun f wf hq hd K hK => go_run rfl (wo_mv (.tmp 6) (.int .i64 ((k : Int))) (fun _ => rfl) e6 (hK _ (Mo.refl _))))
            · exact og_eq (.int .u8 (s[k].toNat : Int)) rfl (fun f wf hq hd K hK => go_run rfl (wo_bin (fun x y => Instr.index 9 x y) (.tmp 59) (.tmp 60) (.string s) (.int .i64 ((k : Int))) (.int .u8 (s[k].toNat : Int)) (fun _ => rfl) (hd 1 rfl) (hd 2 rfl) (idx_s s k hlt _) (hK _ (Mo.refl _))))
            · exact og_eq (.int .u8 ((s[k].toNat : Int) - 48)) rfl (fun f wf hq hd K hK => go_run rfl (wo_bin (fun x y => do eqGuard .sub 5 (.tmp 61) (.const (.int .u8 (48))) x y; binOp .sub 5 x y) (.tmp 61) (.const (.int .u8 (48))) (.int .u8 (s[k].toNat : Int)) (.int .u8 (48)) (.int .u8 ((s[k].toNat : Int) - 48)) (fun _ => rfl) (hd 3 rfl) rfl (subu8_run hc.1 hc.2 _ _ _) (hK _ (Mo.refl _))))
            · exact og_eq (.int .u64 ((s[k].toNat : Int) - 48)) rfl (fun f wf hq hd K hK => go_run rfl (wo_un (fun v => convert 5 22 v) (.tmp 62) (.int .u8 ((s[k].toNat : Int) - 48)) (.int .u64 ((s[k].toNat : Int) - 48)) (fun _ => rfl) (hd 4 rfl) (cv8_run (by omega) (by omega) _) (hK _ (Mo.refl _))))
            · exact og_eq (nv (((s[k].toNat : Int) - 48))) rfl (fun f wf hq hd K hK => go_run rfl (wo_call 69 [(.tmp 63)] _ [.int .u64 ((s[k].toNat : Int) - 48)] (nv (((s[k].toNat : Int) - 48))) rfl (li1 (hd 5 rfl)) (fun _ _ => by kernel_rfl) (from34_any ((s[k].toNat : Int) - 48) _ ⟨by omega, by omega⟩) hK))
            · exact og_eq (.tuple #[nv (Z), .bool (o)]) rfl (fun f wf hq hd K hK => go_run rfl (wo_call 64 [(.tmp 58), (.tmp 64)] _ [nv (pvk s k * 10), nv (((s[k].toNat : Int) - 48))] (.tuple #[nv (Z), .bool (o)]) rfl (li2 (hd 0 rfl) (hd 6 rfl)) (fun _ _ => by kernel_rfl) (hsum _) hK))
            · exact og_eq (.tuple #[nv (Z), .bool (o)]) rfl (fun f wf hq hd K hK => go_run rfl (wo_mv (.tmp 65) (.tuple #[nv (Z), .bool (o)]) (fun _ => rfl) (hd 7 rfl) (hK _ (Mo.refl _))))
            · exact og_eq (nv (Z)) rfl (fun f wf hq hd K hK => go_run rfl (wo_un (fun v => Instr.extract v 0) (.tmp 57) (.tuple #[nv (Z), .bool (o)]) (nv (Z)) (fun _ => rfl) (hd 8 rfl) (by kernel_rfl) (hK _ (Mo.refl _))))
            · exact og_eq (.bool (o)) rfl (fun f wf hq hd K hK => go_run rfl (wo_un (fun v => Instr.extract v 1) (.tmp 57) (.tuple #[nv (Z), .bool (o)]) (.bool (o)) (fun _ => rfl) (hd 8 rfl) (by kernel_rfl) (hK _ (Mo.refl _))))
            · exact og_new [.int .u64 0, .int .u64 0, .int .u64 0, .int .u64 0] rfl (fun f wf hq hd K hK => go_run rfl (wo_alloc 24 #[.int .u64 0, .int .u64 0, .int .u64 0, .int .u64 0] rfl (fun _ => by kernel_rfl) hK))
          intro kf54 w54 hq hR hne
          obtain ⟨N_k53, Q53⟩ := hR 11 _ rfl rfl
          have ne_k1_k53 : k1 ≠ (kf54 11) := by have := Q1.lt; omega
          have ne_k21_k53 : k21 ≠ (kf54 11) := by have := Q21.lt; omega
          have ne_k51_k53 : (kf51 6) ≠ (kf54 11) := by have := Q51.lt; omega
          have ne_k52_k53 : (kf51 7) ≠ (kf54 11) := by have := Q52.lt; omega
          replace N_k53 := Nat.le_trans M.size N_k53
          replace d9 := fun k h => Nat.lt_of_lt_of_le (d9 k h) hq.size
          replace Q1 := Q1.mo hq
          replace Q21 := Q21.mo hq
          replace Q51 := Q51.mo hq
          replace Q52 := Q52.mo hq
          replace M := M.trans hq
          clear hq hR hne
          refine wl_st 24 (.tmp 9) (.tmp 66) (kf54 11) 0 (nvar (Z)) [.int .u64 0, .int .u64 0, .int .u64 0, .int .u64 0] (nvli (Z)) Q53 rfl rfl rfl rfl rfl sz24 rfl rfl rfl ?_
          intro w55 hS Qn
          replace Q53 := Qn
          clear Qn
          replace Q1 := hS.other _ _ ne_k1_k53 Q1
          replace Q21 := hS.other _ _ ne_k21_k53 Q21
          replace Q51 := hS.other _ _ ne_k51_k53 Q51
          replace Q52 := hS.other _ _ ne_k52_k53 Q52
          replace d9 := fun k h => Nat.lt_of_lt_of_le (d9 k h) (Nat.le_of_eq hS.size.symm)
          replace M := hS.mo _ N_k53 M
          clear hS
          refine wl_mv (.tmp 67) (.bool (o)) (fun _ => rfl) rfl rfl ?_
          refine w_nil ?_
          refine xn_then ?_
          refine w_seq ?_
          refine w_seq ?_
          refine w_reg ?_
          refine wl_load 24 (.tmp 7) (pt (kf51 6) 0) (nv (pvk s k * 10 / MM)) rfl rfl (run_row Q51 24 0 4 (nvli (pvk s k * 10 / MM)) rfl Try.underlying24 rfl sz24) rfl ?_
          refine wl_build 24 [] [] (.agg #[.int .u64 0, .int .u64 0, .int .u64 0, .int .u64 0]) rfl rfl (by kernel_rfl) rfl ?_
          refine wl_bin (fun x y => do eqGuard .neq 24 (.tmp 68) (.tmp 69) x y; binOp .neq 24 x y) (.tmp 68) (.tmp 69) (nv (pvk s k * 10 / MM)) (.agg #[.int .u64 0, .int .u64 0, .int .u64 0, .int .u64 0]) (.bool true) (fun _ => rfl) rfl rfl (nen_run (r := false) hz _ _ _) rfl ?_
          refine wl_mv (.tmp 70) (.bool true) (fun _ => rfl) rfl rfl ?_
          refine wl_skip rfl ?_
          refine wl_pick (.tmp 71) (.const (.bool true)) (.tmp 72) true (.bool true) (fun _ => rfl) rfl rfl rfl ?_
          refine w_nil ?_
          refine xn_then ?_
          refine w_condT rfl ?_
          refine w_seq ?_
          refine w_reg ?_
          refine wl_build 24 [] [] (.agg #[.int .u64 0, .int .u64 0, .int .u64 0, .int .u64 0]) rfl rfl (by kernel_rfl) rfl ?_
          refine wl_st 24 (.tmp 2) (.tmp 74) k1 0 #[.int .u64 0, .int .u64 0, .int .u64 0, .int .u64 0] [.int .u64 0, .int .u64 0, .int .u64 0, .int .u64 0] [.int .u64 0, .int .u64 0, .int .u64 0, .int .u64 0] Q1 rfl rfl e2 rfl rfl sz24 rfl rfl rfl ?_
          intro w56 hS Qn
          replace Q1 := Qn
          clear Qn
          replace Q21 := hS.other _ _ ne_k1_k21.symm Q21
          replace Q51 := hS.other _ _ ne_k1_k51.symm Q51
          replace Q52 := hS.other _ _ ne_k1_k52.symm Q52
          replace Q53 := hS.other _ _ ne_k1_k53.symm Q53
          replace d9 := fun k h => Nat.lt_of_lt_of_le (d9 k h) (Nat.le_of_eq hS.size.symm)
          replace M := hS.mo _ N_k1 M
          clear hS
          refine wl_mv (.const (.int .i64 (7))) (.int .i64 (7)) (fun _ => rfl) rfl rfl ?_
          refine w_nil ?_
          refine xn_then ?_
          refine w_ret ?_
          refine xr_then ?_
          refine xr_blk ?_
          refine xr_then ?_
          refine xr_then ?_
          refine xr_blk ?_
          refine xr_then ?_
          exact w_ret2 _ _ (.agg #[.int .u64 0, .int .u64 0, .int .u64 0, .int .u64 0]) (.int .i64 (7)) rfl ⟨k1, e2, (run_row Q1 24 0 4 [.int .u64 0, .int .u64 0, .int .u64 0, .int .u64 0] rfl Try.underlying24 rfl sz24)⟩ rfl ⟨by rw [resP_over hT hlt hbig], M⟩
      · have hl : decide ((k : Int) < (s.size : Int)) = false := decide_eq_false (by omega)
        refine w_seq ?_
        refine w_seq ?_
        refine w_reg ?_
        refine wl_mv (.tmp 6) (.int .i64 ((k : Int))) (fun _ => rfl) e6 rfl ?_
        refine wl_mv (.tmp 0) (.string s) (fun _ => rfl) e0 rfl ?_
        refine wl_val (.int .i64 ((s.size : Int))) (len_run _ _ s rfl _ _ _ _ _ _) rfl ?_
        refine wl_bin (fun x y => do eqGuard .lss 3 (.tmp 45) (.tmp 47) x y; binOp .lss 3 x y) (.tmp 45) (.tmp 47) (.int .i64 ((k : Int))) (.int .i64 ((s.size : Int))) (.bool false) (fun _ => rfl) rfl rfl (lt3_run hl _ _ _) rfl ?_
        refine w_nil ?_
        refine xn_then ?_
        refine w_condF rfl ?_
        refine w_exit ?_
        refine xx_then ?_
        refine xx_then ?_
        refine xx_blk ?_
        refine xn_then ?_
        refine w_seq ?_
        refine w_reg ?_
        refine wl_load 24 (.tmp 5) (pt k21 0) (nv (pvk s k)) rfl e5 (run_row Q21 24 0 4 (nvli (pvk s k)) rfl Try.underlying24 rfl sz24) rfl ?_
        refine wl_st 24 (.tmp 2) (.tmp 76) k1 0 (nvar (pvk s k)) [.int .u64 0, .int .u64 0, .int .u64 0, .int .u64 0] (nvli (pvk s k)) Q1 rfl rfl e2 rfl rfl sz24 rfl rfl rfl ?_
        intro w51 hS Qn
        replace Q1 := Qn
        clear Qn
        replace Q21 := hS.other _ _ ne_k1_k21.symm Q21
        replace d9 := fun k h => Nat.lt_of_lt_of_le (d9 k h) (Nat.le_of_eq hS.size.symm)
        replace M := hS.mo _ N_k1 M
        clear hS
        refine wl_mv (.const (.int .i64 (0))) (.int .i64 (0)) (fun _ => rfl) rfl rfl ?_
        refine w_nil ?_
        refine xn_then ?_
        refine w_ret ?_
        exact w_ret2 _ _ (nv (pvk s k)) (.int .i64 (0)) rfl ⟨k1, e2, (run_row Q1 24 0 4 (nvli (pvk s k)) rfl Try.underlying24 rfl sz24)⟩ rfl ⟨by rw [resP_ok (pvk_end hk hlt hv), ← pvk_eq hk hlt], M⟩
theorem rparse_n (s : ByteArray) (w : World) [Decidable (isT s)] (hs : s.size ≤ maxLen) : Calls Try.prog 21 #[.string s] w fun e w' => e = .returned (if isT s then resP s else ez 10) ∧ Mo w w' := by
  by_cases hp : 0 < s.size
  · have h0 : s.toList.isEmpty = false := by rw [emp_iff]; exact decide_eq_false (by omega)
    cases hz : ((s[0].toNat : Int) == 48) with
    | false =>
      have hz' : (s[0].toNat : Int) ≠ 48 := by simpa using hz
      exact rparse_a s w hs h0 hp (fun h => hz' h.2) (fun _ => hz') hz
    | true =>
      cases h1 : decide ((s.size : Int) > 1) with
      | false =>
        have := of_decide_eq_false h1
        exact rparse_b s w hs h0 hp (fun h => by omega) (fun h => by omega) hz h1
      | true =>
        rw [if_neg (fun hT : isT s => by obtain ⟨_, h, _⟩ := hT; exact h ⟨by have := of_decide_eq_true h1; omega, by simpa using hz⟩)]
        exact rparse_lead s w h0 hp h1 hz
  · rw [if_neg (fun hT : isT s => by obtain ⟨h, _⟩ := hT; exact hp h)]
    exact rparse_emp s w (by rw [emp_iff]; exact decide_eq_true (by omega))
end Go.Proofs.Ytoiiekmkcpcbgaa
