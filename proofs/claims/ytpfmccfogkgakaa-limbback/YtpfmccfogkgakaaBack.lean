/-
  exciselaw01.LimbBack answers true for every two numbers: there and back.
-/
import Derived.Test.YtpfmccfogkgakaaPrs
import Derived.Test.YtpfmccfogkgakaaDgm
namespace Go.Proofs.Ytpfmccfogkgakaa
open Go.RowKit
theorem byte_of {d : Int} (h : 48 ≤ d ∧ d ≤ 57) : ((UInt8.ofNat d.toNat).toNat : Int) = d := by
  rw [UInt8.toNat_ofNat']; omega
theorem pv_map (l : List Int) (h : ∀ d ∈ l, 48 ≤ d ∧ d ≤ 57) : pv (l.map (fun n => UInt8.ofNat n.toNat)) = dv l := by
  unfold pv dv
  have g : ∀ (l : List Int) (v : Int), (∀ d ∈ l, 48 ≤ d ∧ d ≤ 57) → (l.map (fun n => UInt8.ofNat n.toNat)).foldl (fun v c => v * 10 + ((c.toNat : Int) - 48)) v = l.foldl (fun v d => v * 10 + (d - 48)) v := by
    intro l
    induction l with
    | nil => intro v _; rfl
    | cons x l ih =>
      intro v h
      rw [List.map_cons, List.foldl_cons, List.foldl_cons, byte_of (h x (by simp))]
      exact ih _ (fun d hd => h d (by simp [hd]))
  exact g l 0 h
theorem parse_ds (ds : List Int) (w : World) (hdg : ∀ d ∈ ds, 48 ≤ d ∧ d ≤ 57) (hlen : ds.length ≤ 78) (hne : ds ≠ []) (hh : ds.length = 1 ∨ ds.headD 0 ≠ 48) (hM : dv ds < MM) :
    Calls Try.prog 25 #[.string (strOf ds)] w fun e w' => e = .returned (.tuple #[nv (dv ds), .int .i64 0]) ∧ Mo w w' := by
  have hl := strOf_list ds
  have hpv : ∀ k, pv ((strOf ds).data.toList.take k) = dv (ds.take k) := fun k => by
    rw [hl, ← List.map_take]
    exact pv_map _ (fun d hd => hdg d (List.mem_of_mem_take hd))
  have hall : pv (strOf ds).data.toList = dv ds := by rw [hl, pv_map _ hdg]
  have hsz : (strOf ds).size = ds.length := by
    have e : (strOf ds).data.toList.length = ds.length := by rw [hl, List.length_map]
    rw [← e]; rfl
  have hget : ∀ (k : Nat) (hk : k < (strOf ds).size), ((strOf ds)[k].toNat : Int) = ds[k]'(by omega) := fun k hk => by
    have hk2 : k < (strOf ds).data.toList.length := by rw [hl, List.length_map]; omega
    have e : (strOf ds)[k] = (strOf ds).data.toList[k]'hk2 := rfl
    have e2 : (strOf ds).data.toList[k]'hk2 = UInt8.ofNat (ds[k]'(by omega)).toNat := by
      simp only [hl, List.getElem_map]
    rw [e, e2]
    exact byte_of (hdg _ (List.getElem_mem _))
  have hpos : 0 < ds.length := List.length_pos_iff.2 hne
  rw [← hall]
  refine parse_yes (strOf ds) w (by unfold maxLen; omega) ?_ (fun k hk => ?_) (by omega) ?_ (fun k _ => ?_)
  · rw [ByteArray.toList_eq, hl]
    cases ds with
    | nil => exact absurd rfl hne
    | cons a t => rfl
  · rw [hget k hk]
    exact hdg _ (List.getElem_mem _)
  · rcases hh with hh | hh
    · exact Or.inl (hsz.trans hh)
    · refine Or.inr ?_
      rw [hget 0 (by omega)]
      cases ds with
      | nil => exact absurd rfl hne
      | cons a t => exact beq_eq_false_iff_ne.2 hh
  · rw [hpv k]
    have := dv_take ds hdg k
    exact ⟨this.1, by omega⟩
theorem parse_text (n : Int) (w : World) (h0 : 0 ≤ n) (h : n < MM) :
    Calls Try.prog 25 #[.string (strOf (decF 78 n))] w fun e w' => e = .returned (.tuple #[nv n, .int .i64 0]) ∧ Mo w w' := by
  have hlt : n < 10 ^ 78 := by unfold MM at h; omega
  have hdv := decF_dv 78 n h0 hlt
  have hk := parse_ds (decF 78 n) w (decF_digits 78 n) (decF_len 78 n) (decF_ne n) ?_ (by rw [hdv]; exact h)
  · rw [hdv] at hk
    exact hk
  · by_cases hz : n = 0
    · refine Or.inl ?_
      rw [text_end (by rw [hz]; decide)]; rfl
    · exact Or.inr (decF_head 78 n (by omega) hlt)

set_option maxHeartbeats 4000000 in
theorem back_z (A B : Int) (w : World) (hA0 : 0 ≤ A) (hAM : A < MM) (hB0 : 0 ≤ B) (hBM : B < MM) (HS : Hid (nv (((A + B) % MM - B) % MM) = nv A)) (hz : Hid (B = 0)) :
    Calls Try.prog 7 #[nv A, nv B] w fun e w' => e = .returned (.bool true) ∧ Mo w w' := by
  have q4 := eq4
  have z4 : (l0 B == 0 && (l1 B == 0 && (l2 B == 0 && l3 B == 0))) = true := by rw [zero4 hB0 hBM]; first | exact decide_eq_true hz.out | exact decide_eq_false hz.out
  have y0 : l0 0 = 0 := by decide
  have y1 : l1 0 = 0 := by decide
  have y2 : l2 0 = 0 := by decide
  have y3 : l3 0 = 0 := by decide
  go_enter Try.func7, Try.ntmps7
  go_wp2_with fail
  refine (add_any (l0 A) (l1 A) (l2 A) (l3 A) (l0 B) (l1 B) (l2 B) (l3 B) _ (u4_lb A) (u4_lb B)).mono ?_
  rintro e w1 ⟨rfl, hm1⟩
  rw [vl_lb A hA0 hAM, vl_lb B hB0 hBM]
  have hz1 := hm1.size
  simp only [World.size_alloc] at hz1
  have Qa : At4 w1 (w.heap.size) (l0 A) (l1 A) (l2 A) (l3 A) := At4.mo (by simp [At4, go_sem]) hm1 (by first | omega | (simp <;> omega))
  have sa : w.heap.size < w1.heap.size := by omega
  have sax : w.heap.size < w1.heap.size + 1 := by omega
  have Oa := Qa
  obtain ⟨oa0, oa1, oa2, oa3⟩ := Oa
  have Qb : At4 w1 (w.heap.size + 1) (l0 B) (l1 B) (l2 B) (l3 B) := At4.mo (by simp [At4, go_sem]) hm1 (by first | omega | (simp <;> omega))
  have sb : w.heap.size + 1 < w1.heap.size := by omega
  have sbx : w.heap.size + 1 < w1.heap.size + 1 := by omega
  have Ob := Qb
  obtain ⟨ob0, ob1, ob2, ob3⟩ := Ob
  go_wp2_with fail
  refine (sub_any (l0 (A + B)) (l1 (A + B)) (l2 (A + B)) (l3 (A + B)) (l0 B) (l1 B) (l2 B) (l3 B) _ (u4_lb _) (u4_lb B)).mono ?_
  rintro e w2 ⟨rfl, hm2⟩
  rw [vl_nv (A + B), vl_lb B hB0 hBM, HS.out]
  have hz2 := hm2.size
  simp only [World.size_alloc] at hz2
  clear oa0 oa1 oa2 oa3 ob0 ob1 ob2 ob3
  have Qa := (Qa.al1 sa _ _).mo hm2 (by first | omega | (simp <;> omega))
  have sa : w.heap.size < w2.heap.size := by omega
  have sax : w.heap.size < w2.heap.size + 1 := by omega
  have Oa := Qa
  obtain ⟨oa0, oa1, oa2, oa3⟩ := Oa
  have Qb := (Qb.al1 sb _ _).mo hm2 (by first | omega | (simp <;> omega))
  have sb : w.heap.size + 1 < w2.heap.size := by omega
  have sbx : w.heap.size + 1 < w2.heap.size + 1 := by omega
  have Ob := Qb
  obtain ⟨ob0, ob1, ob2, ob3⟩ := Ob
  have Qs : At4 w2 (w1.heap.size) (l0 (A + B)) (l1 (A + B)) (l2 (A + B)) (l3 (A + B)) := At4.mo (by simp [At4, go_sem]) hm2 (by first | omega | (simp <;> omega))
  have ss : w1.heap.size < w2.heap.size := by omega
  have ssx : w1.heap.size < w2.heap.size + 1 := by omega
  have Os := Qs
  obtain ⟨os0, os1, os2, os3⟩ := Os
  go_wp2_with fail
  refine (live_any _).mono ?_
  rintro e w3 ⟨rfl, hm3⟩
  have hz3 := hm3.size
  simp only [World.size_alloc] at hz3
  clear oa0 oa1 oa2 oa3 ob0 ob1 ob2 ob3 os0 os1 os2 os3
  have Qa := (Qa.al1 sa _ _).mo hm3 (by first | omega | (simp <;> omega))
  have sa : w.heap.size < w3.heap.size := by omega
  have sax : w.heap.size < w3.heap.size + 1 := by omega
  have Oa := Qa
  obtain ⟨oa0, oa1, oa2, oa3⟩ := Oa
  have Qb := (Qb.al1 sb _ _).mo hm3 (by first | omega | (simp <;> omega))
  have sb : w.heap.size + 1 < w3.heap.size := by omega
  have sbx : w.heap.size + 1 < w3.heap.size + 1 := by omega
  have Ob := Qb
  obtain ⟨ob0, ob1, ob2, ob3⟩ := Ob
  have Qs := (Qs.al1 ss _ _).mo hm3 (by first | omega | (simp <;> omega))
  have ss : w1.heap.size < w3.heap.size := by omega
  have ssx : w1.heap.size < w3.heap.size + 1 := by omega
  have Os := Qs
  obtain ⟨os0, os1, os2, os3⟩ := Os
  have Qd : At4 w3 (w2.heap.size) (l0 A) (l1 A) (l2 A) (l3 A) := At4.mo (by simp [At4, go_sem]) hm3 (by first | omega | (simp <;> omega))
  have sd : w2.heap.size < w3.heap.size := by omega
  have sdx : w2.heap.size < w3.heap.size + 1 := by omega
  have Od := Qd
  obtain ⟨od0, od1, od2, od3⟩ := Od
  go_wp2_with fail
  refine (mul_any (l0 A) (l1 A) (l2 A) (l3 A) (l0 B) (l1 B) (l2 B) (l3 B) _ (u4_lb A) (u4_lb B)).mono ?_
  rintro e w4 ⟨rfl, hm4⟩
  rw [vl_lb A hA0 hAM, vl_lb B hB0 hBM]
  have hz4 := hm4.size
  clear oa0 oa1 oa2 oa3 ob0 ob1 ob2 ob3 os0 os1 os2 os3 od0 od1 od2 od3
  have Qa := (Qa).mo hm4 (by first | omega | (simp <;> omega))
  have sa : w.heap.size < w4.heap.size := by omega
  have sax : w.heap.size < w4.heap.size + 1 := by omega
  have Oa := Qa
  obtain ⟨oa0, oa1, oa2, oa3⟩ := Oa
  have Qb := (Qb).mo hm4 (by first | omega | (simp <;> omega))
  have sb : w.heap.size + 1 < w4.heap.size := by omega
  have sbx : w.heap.size + 1 < w4.heap.size + 1 := by omega
  have Ob := Qb
  obtain ⟨ob0, ob1, ob2, ob3⟩ := Ob
  have Qs := (Qs).mo hm4 (by first | omega | (simp <;> omega))
  have ss : w1.heap.size < w4.heap.size := by omega
  have ssx : w1.heap.size < w4.heap.size + 1 := by omega
  have Os := Qs
  obtain ⟨os0, os1, os2, os3⟩ := Os
  have Qd := (Qd).mo hm4 (by first | omega | (simp <;> omega))
  have sd : w2.heap.size < w4.heap.size := by omega
  have sdx : w2.heap.size < w4.heap.size + 1 := by omega
  have Od := Qd
  obtain ⟨od0, od1, od2, od3⟩ := Od
  go_wp2_with fail
  refine (text_n A _ hA0 hAM).mono ?_
  rintro e w5 ⟨rfl, hm5⟩
  have hz5 := hm5.size
  simp only [World.size_alloc] at hz5
  clear oa0 oa1 oa2 oa3 ob0 ob1 ob2 ob3 os0 os1 os2 os3 od0 od1 od2 od3
  have Qa := (Qa.al2 sa _ _ _ _).mo hm5 (by first | omega | (simp <;> omega))
  have sa : w.heap.size < w5.heap.size := by omega
  have sax : w.heap.size < w5.heap.size + 1 := by omega
  have Oa := Qa
  obtain ⟨oa0, oa1, oa2, oa3⟩ := Oa
  have Qb := (Qb.al2 sb _ _ _ _).mo hm5 (by first | omega | (simp <;> omega))
  have sb : w.heap.size + 1 < w5.heap.size := by omega
  have sbx : w.heap.size + 1 < w5.heap.size + 1 := by omega
  have Ob := Qb
  obtain ⟨ob0, ob1, ob2, ob3⟩ := Ob
  have Qs := (Qs.al2 ss _ _ _ _).mo hm5 (by first | omega | (simp <;> omega))
  have ss : w1.heap.size < w5.heap.size := by omega
  have ssx : w1.heap.size < w5.heap.size + 1 := by omega
  have Os := Qs
  obtain ⟨os0, os1, os2, os3⟩ := Os
  have Qd := (Qd.al2 sd _ _ _ _).mo hm5 (by first | omega | (simp <;> omega))
  have sd : w2.heap.size < w5.heap.size := by omega
  have sdx : w2.heap.size < w5.heap.size + 1 := by omega
  have Od := Qd
  obtain ⟨od0, od1, od2, od3⟩ := Od
  have Qh : At4 w5 (w4.heap.size) (l0 (A * B / MM)) (l1 (A * B / MM)) (l2 (A * B / MM)) (l3 (A * B / MM)) := At4.mo (by simp [At4, go_sem]) hm5 (by first | omega | (simp <;> omega))
  have sh : w4.heap.size < w5.heap.size := by omega
  have shx : w4.heap.size < w5.heap.size + 1 := by omega
  have Oh := Qh
  obtain ⟨oh0, oh1, oh2, oh3⟩ := Oh
  have Ql : At4 w5 (w4.heap.size + 1) (l0 (A * B)) (l1 (A * B)) (l2 (A * B)) (l3 (A * B)) := At4.mo (by simp [At4, go_sem]) hm5 (by first | omega | (simp <;> omega))
  have sl : w4.heap.size + 1 < w5.heap.size := by omega
  have slx : w4.heap.size + 1 < w5.heap.size + 1 := by omega
  have Ol := Ql
  obtain ⟨ol0, ol1, ol2, ol3⟩ := Ol
  go_wp2_with fail
  refine (parse_text A _ hA0 hAM).mono ?_
  rintro e w6 ⟨rfl, hm6⟩
  have hz6 := hm6.size
  clear oa0 oa1 oa2 oa3 ob0 ob1 ob2 ob3 os0 os1 os2 os3 od0 od1 od2 od3 oh0 oh1 oh2 oh3 ol0 ol1 ol2 ol3
  have Qa := (Qa).mo hm6 (by first | omega | (simp <;> omega))
  have sa : w.heap.size < w6.heap.size := by omega
  have sax : w.heap.size < w6.heap.size + 1 := by omega
  have Oa := Qa
  obtain ⟨oa0, oa1, oa2, oa3⟩ := Oa
  have Qb := (Qb).mo hm6 (by first | omega | (simp <;> omega))
  have sb : w.heap.size + 1 < w6.heap.size := by omega
  have sbx : w.heap.size + 1 < w6.heap.size + 1 := by omega
  have Ob := Qb
  obtain ⟨ob0, ob1, ob2, ob3⟩ := Ob
  have Qs := (Qs).mo hm6 (by first | omega | (simp <;> omega))
  have ss : w1.heap.size < w6.heap.size := by omega
  have ssx : w1.heap.size < w6.heap.size + 1 := by omega
  have Os := Qs
  obtain ⟨os0, os1, os2, os3⟩ := Os
  have Qd := (Qd).mo hm6 (by first | omega | (simp <;> omega))
  have sd : w2.heap.size < w6.heap.size := by omega
  have sdx : w2.heap.size < w6.heap.size + 1 := by omega
  have Od := Qd
  obtain ⟨od0, od1, od2, od3⟩ := Od
  have Qh := (Qh).mo hm6 (by first | omega | (simp <;> omega))
  have sh : w4.heap.size < w6.heap.size := by omega
  have shx : w4.heap.size < w6.heap.size + 1 := by omega
  have Oh := Qh
  obtain ⟨oh0, oh1, oh2, oh3⟩ := Oh
  have Ql := (Ql).mo hm6 (by first | omega | (simp <;> omega))
  have sl : w4.heap.size + 1 < w6.heap.size := by omega
  have slx : w4.heap.size + 1 < w6.heap.size + 1 := by omega
  have Ol := Ql
  obtain ⟨ol0, ol1, ol2, ol3⟩ := Ol
  go_wp2_with fail
  go_ret
  refine ⟨rfl, ?_⟩
  repeat (first | with_reducible exact Mo.refl _ | with_reducible apply Mo.drew | with_reducible apply Mo.drewN | with_reducible apply Mo.alloc | with_reducible refine Mo.trans ?_ (by with_reducible assumption))

set_option maxHeartbeats 4000000 in
theorem back_n (A B : Int) (w : World) (hA0 : 0 ≤ A) (hAM : A < MM) (hB0 : 0 ≤ B) (hBM : B < MM) (HS : Hid (nv (((A + B) % MM - B) % MM) = nv A)) (HQ : Hid (dq (A * B / MM % MM) (A * B % MM) B = A)) (HR : Hid (dr (A * B / MM % MM) (A * B % MM) B = 0)) (HO : Hid (dok (A * B / MM % MM) B = true)) (hz : Hid (B ≠ 0)) :
    Calls Try.prog 7 #[nv A, nv B] w fun e w' => e = .returned (.bool true) ∧ Mo w w' := by
  have q4 := eq4
  have z4 : (l0 B == 0 && (l1 B == 0 && (l2 B == 0 && l3 B == 0))) = false := by rw [zero4 hB0 hBM]; first | exact decide_eq_true hz.out | exact decide_eq_false hz.out
  have y0 : l0 0 = 0 := by decide
  have y1 : l1 0 = 0 := by decide
  have y2 : l2 0 = 0 := by decide
  have y3 : l3 0 = 0 := by decide
  go_enter Try.func7, Try.ntmps7
  go_wp2_with fail
  refine (add_any (l0 A) (l1 A) (l2 A) (l3 A) (l0 B) (l1 B) (l2 B) (l3 B) _ (u4_lb A) (u4_lb B)).mono ?_
  rintro e w1 ⟨rfl, hm1⟩
  rw [vl_lb A hA0 hAM, vl_lb B hB0 hBM]
  have hz1 := hm1.size
  simp only [World.size_alloc] at hz1
  have Qa : At4 w1 (w.heap.size) (l0 A) (l1 A) (l2 A) (l3 A) := At4.mo (by simp [At4, go_sem]) hm1 (by first | omega | (simp <;> omega))
  have sa : w.heap.size < w1.heap.size := by omega
  have sax : w.heap.size < w1.heap.size + 1 := by omega
  have Oa := Qa
  obtain ⟨oa0, oa1, oa2, oa3⟩ := Oa
  have Qb : At4 w1 (w.heap.size + 1) (l0 B) (l1 B) (l2 B) (l3 B) := At4.mo (by simp [At4, go_sem]) hm1 (by first | omega | (simp <;> omega))
  have sb : w.heap.size + 1 < w1.heap.size := by omega
  have sbx : w.heap.size + 1 < w1.heap.size + 1 := by omega
  have Ob := Qb
  obtain ⟨ob0, ob1, ob2, ob3⟩ := Ob
  go_wp2_with fail
  refine (sub_any (l0 (A + B)) (l1 (A + B)) (l2 (A + B)) (l3 (A + B)) (l0 B) (l1 B) (l2 B) (l3 B) _ (u4_lb _) (u4_lb B)).mono ?_
  rintro e w2 ⟨rfl, hm2⟩
  rw [vl_nv (A + B), vl_lb B hB0 hBM, HS.out]
  have hz2 := hm2.size
  simp only [World.size_alloc] at hz2
  clear oa0 oa1 oa2 oa3 ob0 ob1 ob2 ob3
  have Qa := (Qa.al1 sa _ _).mo hm2 (by first | omega | (simp <;> omega))
  have sa : w.heap.size < w2.heap.size := by omega
  have sax : w.heap.size < w2.heap.size + 1 := by omega
  have Oa := Qa
  obtain ⟨oa0, oa1, oa2, oa3⟩ := Oa
  have Qb := (Qb.al1 sb _ _).mo hm2 (by first | omega | (simp <;> omega))
  have sb : w.heap.size + 1 < w2.heap.size := by omega
  have sbx : w.heap.size + 1 < w2.heap.size + 1 := by omega
  have Ob := Qb
  obtain ⟨ob0, ob1, ob2, ob3⟩ := Ob
  have Qs : At4 w2 (w1.heap.size) (l0 (A + B)) (l1 (A + B)) (l2 (A + B)) (l3 (A + B)) := At4.mo (by simp [At4, go_sem]) hm2 (by first | omega | (simp <;> omega))
  have ss : w1.heap.size < w2.heap.size := by omega
  have ssx : w1.heap.size < w2.heap.size + 1 := by omega
  have Os := Qs
  obtain ⟨os0, os1, os2, os3⟩ := Os
  go_wp2_with fail
  refine (live_any _).mono ?_
  rintro e w3 ⟨rfl, hm3⟩
  have hz3 := hm3.size
  simp only [World.size_alloc] at hz3
  clear oa0 oa1 oa2 oa3 ob0 ob1 ob2 ob3 os0 os1 os2 os3
  have Qa := (Qa.al1 sa _ _).mo hm3 (by first | omega | (simp <;> omega))
  have sa : w.heap.size < w3.heap.size := by omega
  have sax : w.heap.size < w3.heap.size + 1 := by omega
  have Oa := Qa
  obtain ⟨oa0, oa1, oa2, oa3⟩ := Oa
  have Qb := (Qb.al1 sb _ _).mo hm3 (by first | omega | (simp <;> omega))
  have sb : w.heap.size + 1 < w3.heap.size := by omega
  have sbx : w.heap.size + 1 < w3.heap.size + 1 := by omega
  have Ob := Qb
  obtain ⟨ob0, ob1, ob2, ob3⟩ := Ob
  have Qs := (Qs.al1 ss _ _).mo hm3 (by first | omega | (simp <;> omega))
  have ss : w1.heap.size < w3.heap.size := by omega
  have ssx : w1.heap.size < w3.heap.size + 1 := by omega
  have Os := Qs
  obtain ⟨os0, os1, os2, os3⟩ := Os
  have Qd : At4 w3 (w2.heap.size) (l0 A) (l1 A) (l2 A) (l3 A) := At4.mo (by simp [At4, go_sem]) hm3 (by first | omega | (simp <;> omega))
  have sd : w2.heap.size < w3.heap.size := by omega
  have sdx : w2.heap.size < w3.heap.size + 1 := by omega
  have Od := Qd
  obtain ⟨od0, od1, od2, od3⟩ := Od
  go_wp2_with fail
  refine (mul_any (l0 A) (l1 A) (l2 A) (l3 A) (l0 B) (l1 B) (l2 B) (l3 B) _ (u4_lb A) (u4_lb B)).mono ?_
  rintro e w4 ⟨rfl, hm4⟩
  rw [vl_lb A hA0 hAM, vl_lb B hB0 hBM]
  have hz4 := hm4.size
  clear oa0 oa1 oa2 oa3 ob0 ob1 ob2 ob3 os0 os1 os2 os3 od0 od1 od2 od3
  have Qa := (Qa).mo hm4 (by first | omega | (simp <;> omega))
  have sa : w.heap.size < w4.heap.size := by omega
  have sax : w.heap.size < w4.heap.size + 1 := by omega
  have Oa := Qa
  obtain ⟨oa0, oa1, oa2, oa3⟩ := Oa
  have Qb := (Qb).mo hm4 (by first | omega | (simp <;> omega))
  have sb : w.heap.size + 1 < w4.heap.size := by omega
  have sbx : w.heap.size + 1 < w4.heap.size + 1 := by omega
  have Ob := Qb
  obtain ⟨ob0, ob1, ob2, ob3⟩ := Ob
  have Qs := (Qs).mo hm4 (by first | omega | (simp <;> omega))
  have ss : w1.heap.size < w4.heap.size := by omega
  have ssx : w1.heap.size < w4.heap.size + 1 := by omega
  have Os := Qs
  obtain ⟨os0, os1, os2, os3⟩ := Os
  have Qd := (Qd).mo hm4 (by first | omega | (simp <;> omega))
  have sd : w2.heap.size < w4.heap.size := by omega
  have sdx : w2.heap.size < w4.heap.size + 1 := by omega
  have Od := Qd
  obtain ⟨od0, od1, od2, od3⟩ := Od
  go_wp2_with fail
  refine (div_any (l0 (A * B / MM)) (l1 (A * B / MM)) (l2 (A * B / MM)) (l3 (A * B / MM)) (l0 (A * B)) (l1 (A * B)) (l2 (A * B)) (l3 (A * B)) (l0 B) (l1 B) (l2 B) (l3 B) _ (u4_lb _) (u4_lb _) (u4_lb B)).mono ?_
  rintro e w5 ⟨rfl, hm5⟩
  rw [vl_nv (A * B / MM), vl_nv (A * B), vl_lb B hB0 hBM, HQ.out, HR.out, HO.out]
  have hz5 := hm5.size
  simp only [World.size_alloc] at hz5
  clear oa0 oa1 oa2 oa3 ob0 ob1 ob2 ob3 os0 os1 os2 os3 od0 od1 od2 od3
  have Qa := (Qa.al2 sa _ _ _ _).mo hm5 (by first | omega | (simp <;> omega))
  have sa : w.heap.size < w5.heap.size := by omega
  have sax : w.heap.size < w5.heap.size + 1 := by omega
  have Oa := Qa
  obtain ⟨oa0, oa1, oa2, oa3⟩ := Oa
  have Qb := (Qb.al2 sb _ _ _ _).mo hm5 (by first | omega | (simp <;> omega))
  have sb : w.heap.size + 1 < w5.heap.size := by omega
  have sbx : w.heap.size + 1 < w5.heap.size + 1 := by omega
  have Ob := Qb
  obtain ⟨ob0, ob1, ob2, ob3⟩ := Ob
  have Qs := (Qs.al2 ss _ _ _ _).mo hm5 (by first | omega | (simp <;> omega))
  have ss : w1.heap.size < w5.heap.size := by omega
  have ssx : w1.heap.size < w5.heap.size + 1 := by omega
  have Os := Qs
  obtain ⟨os0, os1, os2, os3⟩ := Os
  have Qd := (Qd.al2 sd _ _ _ _).mo hm5 (by first | omega | (simp <;> omega))
  have sd : w2.heap.size < w5.heap.size := by omega
  have sdx : w2.heap.size < w5.heap.size + 1 := by omega
  have Od := Qd
  obtain ⟨od0, od1, od2, od3⟩ := Od
  have Qh : At4 w5 (w4.heap.size) (l0 (A * B / MM)) (l1 (A * B / MM)) (l2 (A * B / MM)) (l3 (A * B / MM)) := At4.mo (by simp [At4, go_sem]) hm5 (by first | omega | (simp <;> omega))
  have sh : w4.heap.size < w5.heap.size := by omega
  have shx : w4.heap.size < w5.heap.size + 1 := by omega
  have Oh := Qh
  obtain ⟨oh0, oh1, oh2, oh3⟩ := Oh
  have Ql : At4 w5 (w4.heap.size + 1) (l0 (A * B)) (l1 (A * B)) (l2 (A * B)) (l3 (A * B)) := At4.mo (by simp [At4, go_sem]) hm5 (by first | omega | (simp <;> omega))
  have sl : w4.heap.size + 1 < w5.heap.size := by omega
  have slx : w4.heap.size + 1 < w5.heap.size + 1 := by omega
  have Ol := Ql
  obtain ⟨ol0, ol1, ol2, ol3⟩ := Ol
  go_wp2_with fail
  refine (text_n A _ hA0 hAM).mono ?_
  rintro e w6 ⟨rfl, hm6⟩
  have hz6 := hm6.size
  simp only [World.size_alloc] at hz6
  clear oa0 oa1 oa2 oa3 ob0 ob1 ob2 ob3 os0 os1 os2 os3 od0 od1 od2 od3 oh0 oh1 oh2 oh3 ol0 ol1 ol2 ol3
  have Qa := (Qa.al2 sa _ _ _ _).mo hm6 (by first | omega | (simp <;> omega))
  have sa : w.heap.size < w6.heap.size := by omega
  have sax : w.heap.size < w6.heap.size + 1 := by omega
  have Oa := Qa
  obtain ⟨oa0, oa1, oa2, oa3⟩ := Oa
  have Qb := (Qb.al2 sb _ _ _ _).mo hm6 (by first | omega | (simp <;> omega))
  have sb : w.heap.size + 1 < w6.heap.size := by omega
  have sbx : w.heap.size + 1 < w6.heap.size + 1 := by omega
  have Ob := Qb
  obtain ⟨ob0, ob1, ob2, ob3⟩ := Ob
  have Qs := (Qs.al2 ss _ _ _ _).mo hm6 (by first | omega | (simp <;> omega))
  have ss : w1.heap.size < w6.heap.size := by omega
  have ssx : w1.heap.size < w6.heap.size + 1 := by omega
  have Os := Qs
  obtain ⟨os0, os1, os2, os3⟩ := Os
  have Qd := (Qd.al2 sd _ _ _ _).mo hm6 (by first | omega | (simp <;> omega))
  have sd : w2.heap.size < w6.heap.size := by omega
  have sdx : w2.heap.size < w6.heap.size + 1 := by omega
  have Od := Qd
  obtain ⟨od0, od1, od2, od3⟩ := Od
  have Qh := (Qh.al2 sh _ _ _ _).mo hm6 (by first | omega | (simp <;> omega))
  have sh : w4.heap.size < w6.heap.size := by omega
  have shx : w4.heap.size < w6.heap.size + 1 := by omega
  have Oh := Qh
  obtain ⟨oh0, oh1, oh2, oh3⟩ := Oh
  have Ql := (Ql.al2 sl _ _ _ _).mo hm6 (by first | omega | (simp <;> omega))
  have sl : w4.heap.size + 1 < w6.heap.size := by omega
  have slx : w4.heap.size + 1 < w6.heap.size + 1 := by omega
  have Ol := Ql
  obtain ⟨ol0, ol1, ol2, ol3⟩ := Ol
  have Qq : At4 w6 (w5.heap.size) (l0 A) (l1 A) (l2 A) (l3 A) := At4.mo (by simp [At4, go_sem]) hm6 (by first | omega | (simp <;> omega))
  have sq : w5.heap.size < w6.heap.size := by omega
  have sqx : w5.heap.size < w6.heap.size + 1 := by omega
  have Oq := Qq
  obtain ⟨oq0, oq1, oq2, oq3⟩ := Oq
  have Qr : At4 w6 (w5.heap.size + 1) 0 0 0 0 := At4.mo (by simp [At4, go_sem]) hm6 (by first | omega | (simp <;> omega))
  have sr : w5.heap.size + 1 < w6.heap.size := by omega
  have srx : w5.heap.size + 1 < w6.heap.size + 1 := by omega
  have Or := Qr
  obtain ⟨or0, or1, or2, or3⟩ := Or
  go_wp2_with fail
  refine (parse_text A _ hA0 hAM).mono ?_
  rintro e w7 ⟨rfl, hm7⟩
  have hz7 := hm7.size
  clear oa0 oa1 oa2 oa3 ob0 ob1 ob2 ob3 os0 os1 os2 os3 od0 od1 od2 od3 oh0 oh1 oh2 oh3 ol0 ol1 ol2 ol3 oq0 oq1 oq2 oq3 or0 or1 or2 or3
  have Qa := (Qa).mo hm7 (by first | omega | (simp <;> omega))
  have sa : w.heap.size < w7.heap.size := by omega
  have sax : w.heap.size < w7.heap.size + 1 := by omega
  have Oa := Qa
  obtain ⟨oa0, oa1, oa2, oa3⟩ := Oa
  have Qb := (Qb).mo hm7 (by first | omega | (simp <;> omega))
  have sb : w.heap.size + 1 < w7.heap.size := by omega
  have sbx : w.heap.size + 1 < w7.heap.size + 1 := by omega
  have Ob := Qb
  obtain ⟨ob0, ob1, ob2, ob3⟩ := Ob
  have Qs := (Qs).mo hm7 (by first | omega | (simp <;> omega))
  have ss : w1.heap.size < w7.heap.size := by omega
  have ssx : w1.heap.size < w7.heap.size + 1 := by omega
  have Os := Qs
  obtain ⟨os0, os1, os2, os3⟩ := Os
  have Qd := (Qd).mo hm7 (by first | omega | (simp <;> omega))
  have sd : w2.heap.size < w7.heap.size := by omega
  have sdx : w2.heap.size < w7.heap.size + 1 := by omega
  have Od := Qd
  obtain ⟨od0, od1, od2, od3⟩ := Od
  have Qh := (Qh).mo hm7 (by first | omega | (simp <;> omega))
  have sh : w4.heap.size < w7.heap.size := by omega
  have shx : w4.heap.size < w7.heap.size + 1 := by omega
  have Oh := Qh
  obtain ⟨oh0, oh1, oh2, oh3⟩ := Oh
  have Ql := (Ql).mo hm7 (by first | omega | (simp <;> omega))
  have sl : w4.heap.size + 1 < w7.heap.size := by omega
  have slx : w4.heap.size + 1 < w7.heap.size + 1 := by omega
  have Ol := Ql
  obtain ⟨ol0, ol1, ol2, ol3⟩ := Ol
  have Qq := (Qq).mo hm7 (by first | omega | (simp <;> omega))
  have sq : w5.heap.size < w7.heap.size := by omega
  have sqx : w5.heap.size < w7.heap.size + 1 := by omega
  have Oq := Qq
  obtain ⟨oq0, oq1, oq2, oq3⟩ := Oq
  have Qr := (Qr).mo hm7 (by first | omega | (simp <;> omega))
  have sr : w5.heap.size + 1 < w7.heap.size := by omega
  have srx : w5.heap.size + 1 < w7.heap.size + 1 := by omega
  have Or := Qr
  obtain ⟨or0, or1, or2, or3⟩ := Or
  go_wp2_with fail
  go_ret
  refine ⟨rfl, ?_⟩
  repeat (first | with_reducible exact Mo.refl _ | with_reducible apply Mo.drew | with_reducible apply Mo.drewN | with_reducible apply Mo.alloc | with_reducible refine Mo.trans ?_ (by with_reducible assumption))

theorem back_walk (a0 a1 a2 a3 b0 b1 b2 b3 : Int) (w : World) (ha : U4 a0 a1 a2 a3) (hb : U4 b0 b1 b2 b3) :
    Calls Try.prog 7 #[.agg #[.int .u64 a0, .int .u64 a1, .int .u64 a2, .int .u64 a3], .agg #[.int .u64 b0, .int .u64 b1, .int .u64 b2, .int .u64 b3]] w fun e w' => e = .returned (.bool true) ∧ Mo w w' := by
  obtain ⟨a1', a2'⟩ := vl_bd ha
  obtain ⟨b1', b2'⟩ := vl_bd hb
  rw [← nv_vl ha, ← nv_vl hb]
  generalize vl a0 a1 a2 a3 = A at *
  generalize vl b0 b1 b2 b3 = B at *
  have hs : nv (((A + B) % MM - B) % MM) = nv A := by
    rw [nv_mod, ← nv_mod, Int.emod_sub_emod, Int.add_sub_cancel, nv_mod]
  by_cases hB : B = 0
  · exact back_z A B w a1' a2' b1' b2' hs hB
  · have hAB : 0 ≤ A * B := Int.mul_nonneg a1' b1'
    have hlt : A * B / MM < B := by
      apply Int.ediv_lt_of_lt_mul (by decide)
      rw [Int.mul_comm B]
      exact Int.mul_lt_mul_of_pos_right a2' (by omega)
    have q0 : 0 ≤ A * B / MM := Int.ediv_nonneg hAB (by decide)
    have e1 : A * B / MM % MM = A * B / MM := Int.emod_eq_of_lt q0 (by omega)
    have e2 : A * B / MM * MM + A * B % MM = A * B := by
      have := Int.mul_ediv_add_emod (A * B) MM
      rw [Int.mul_comm MM] at this
      exact this
    refine back_n A B w a1' a2' b1' b2' hs ?_ ?_ ?_ hB
    · show dq _ _ _ = _
      unfold dq; rw [e1, if_neg (by omega), e2, Int.mul_ediv_cancel _ hB]
    · show dr _ _ _ = _
      unfold dr; rw [e1, if_neg (by omega), e2, Int.mul_emod_left]
    · show dok _ _ = _
      rw [e1]; exact decide_eq_true hlt
end Go.Proofs.Ytpfmccfogkgakaa
