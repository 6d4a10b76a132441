/-
  limb.Div, whatever the numbers: the walk.
-/
import Derived.Test.YthpekbohmfmffaaDvw
import Derived.Test.YthpekbohmfmffaaDst
import Derived.Test.YthpekbohmfmffaaShb
import Derived.Test.YthpekbohmfmffaaBits
import Derived.Test.YthpekbohmfmffaaCmp
import Derived.Test.YthpekbohmfmffaaAddb
import Derived.Deep.CutRange
namespace Go.Proofs.Ythpekbohmfmffaa
open Go.RowKit
/-- The block k holds four zeros. -/
def At0 (w : World) (k : Nat) : Prop := At4 w k 0 0 0 0 ∧ Fz w k ∧ k < w.heap.size
theorem At0.mo {w w' : World} {k : Nat} (h : At0 w k) (m : Mo w w') : At0 w' k := ⟨h.1.mo m h.2.2, h.2.1.mo m, Nat.lt_of_lt_of_le h.2.2 m.size⟩
theorem At0.new (w : World) : At0 (w.alloc (.cells #[.int .u64 0, .int .u64 0, .int .u64 0, .int .u64 0] 24)) w.heap.size :=
  ⟨by simp [At4, go_sem], fun o => by simp [go_sem], by simp⟩
theorem At0.mk1 {w w' : World} (m : Mo ((w.alloc (.cells #[.int .u64 0, .int .u64 0, .int .u64 0, .int .u64 0] 24)).drew) w') : At0 w' w.heap.size :=
  (At0.new w).mo (((Mo.refl _).drew).trans m)
theorem At0.mk2 {w w' : World} (m : Mo (w.alloc (.cells #[.int .u64 0, .int .u64 0, .int .u64 0, .int .u64 0] 24)) w') : At0 w' w.heap.size := (At0.new w).mo m
theorem At0.same {w : World} {k : Nat} (h : At0 w k) (z : Int) : AtN (st4 w k z) k z := by
  obtain ⟨⟨b0, b1, b2, b3⟩, f, s⟩ := h
  refine ⟨by simp [At4, go_sem, *], fun o => by simp [World.frozen?_setCell, f o], by simpa [World.setCell] using s⟩

/-- The world between two steps. -/
def LW (w wr : World) (kr kq : Nat) (H low D P c0 c1 c2 c3 : Int) : Prop := VW w wr H low D ∧ AtN wr kr P ∧ At4 wr kq c0 c1 c2 c3 ∧ Fz wr kq ∧ kq < wr.heap.size ∧ w.heap.size + 1 + 1 + 1 + 1 < kr ∧ kr < kq
theorem LW.mo {w wr w1 : World} {kr kq : Nat} {H low D P c0 c1 c2 c3 : Int} (h : LW w wr kr kq H low D P c0 c1 c2 c3) (m : Mo wr w1) : LW w w1 kr kq H low D P c0 c1 c2 c3 := by
  obtain ⟨h1, h2, h3, h4, h5, h6, h7⟩ := h
  exact ⟨h1.mo m, h2.mo m, h3.mo m h5, h4.mo m, Nat.lt_of_lt_of_le h5 m.size, h6, h7⟩
theorem AtN.cell {w : World} {k j o : Nat} {n : Int} (h : AtN w j n) (hk : j ≠ k) (v : Value) : AtN (w.setCell ⟨k, o, none⟩ v) j n := by
  obtain ⟨⟨b0, b1, b2, b3⟩, f, s⟩ := h
  refine ⟨by simp [At4, go_sem, *], fun o => by simp [World.frozen?_setCell, f o], by simpa [World.setCell] using s⟩
theorem VW.cell {w wx : World} {h l d : Int} (v : VW w wx h l d) {k o : Nat} (hk : w.heap.size + 1 + 1 + 1 + 1 < k) (x : Value) : VW w (wx.setCell ⟨k, o, none⟩ x) h l d := by
  obtain ⟨v1, v2, v3, v4, v5, v6⟩ := v
  exact ⟨v1.setCell (by show w.heap.size ≤ k; omega) _, v2.cell (by omega) _, v3.cell (by omega) _, v4.cell (by omega) _, v5.cell (by omega) _, v6.cell (by omega) _⟩
theorem LW.put0 {w w1 : World} {kr kq : Nat} {H low D P c0 c1 c2 c3 : Int} (h : LW w w1 kr kq H low D P c0 c1 c2 c3) (q P' : Int) : LW w (st4 (w1.setCell ⟨kq, 0, none⟩ (.int .u64 q)) kr P') kr kq H low D P' q c1 c2 c3 := by
  obtain ⟨h1, h2, ⟨d0, d1, d2, d3⟩, h4, h5, h6, h7⟩ := h
  have n1 : kr ≠ kq := by omega
  have n2 : kq ≠ kr := by omega
  refine ⟨(h1.cell (by omega) _).setk h6 _, (h2.cell n1 _).same _, ?_, ?_, ?_, h6, h7⟩
  · simp [At4, go_sem, *]
  · intro o; simp [World.frozen?_setCell, h4 o]
  · simpa [World.setCell] using h5
theorem LW.put1 {w w1 : World} {kr kq : Nat} {H low D P c0 c1 c2 c3 : Int} (h : LW w w1 kr kq H low D P c0 c1 c2 c3) (q P' : Int) : LW w (st4 (w1.setCell ⟨kq, 1, none⟩ (.int .u64 q)) kr P') kr kq H low D P' c0 q c2 c3 := by
  obtain ⟨h1, h2, ⟨d0, d1, d2, d3⟩, h4, h5, h6, h7⟩ := h
  have n1 : kr ≠ kq := by omega
  have n2 : kq ≠ kr := by omega
  refine ⟨(h1.cell (by omega) _).setk h6 _, (h2.cell n1 _).same _, ?_, ?_, ?_, h6, h7⟩
  · simp [At4, go_sem, *]
  · intro o; simp [World.frozen?_setCell, h4 o]
  · simpa [World.setCell] using h5
theorem LW.put2 {w w1 : World} {kr kq : Nat} {H low D P c0 c1 c2 c3 : Int} (h : LW w w1 kr kq H low D P c0 c1 c2 c3) (q P' : Int) : LW w (st4 (w1.setCell ⟨kq, 2, none⟩ (.int .u64 q)) kr P') kr kq H low D P' c0 c1 q c3 := by
  obtain ⟨h1, h2, ⟨d0, d1, d2, d3⟩, h4, h5, h6, h7⟩ := h
  have n1 : kr ≠ kq := by omega
  have n2 : kq ≠ kr := by omega
  refine ⟨(h1.cell (by omega) _).setk h6 _, (h2.cell n1 _).same _, ?_, ?_, ?_, h6, h7⟩
  · simp [At4, go_sem, *]
  · intro o; simp [World.frozen?_setCell, h4 o]
  · simpa [World.setCell] using h5
theorem LW.put3 {w w1 : World} {kr kq : Nat} {H low D P c0 c1 c2 c3 : Int} (h : LW w w1 kr kq H low D P c0 c1 c2 c3) (q P' : Int) : LW w (st4 (w1.setCell ⟨kq, 3, none⟩ (.int .u64 q)) kr P') kr kq H low D P' c0 c1 c2 q := by
  obtain ⟨h1, h2, ⟨d0, d1, d2, d3⟩, h4, h5, h6, h7⟩ := h
  have n1 : kr ≠ kq := by omega
  have n2 : kq ≠ kr := by omega
  refine ⟨(h1.cell (by omega) _).setk h6 _, (h2.cell n1 _).same _, ?_, ?_, ?_, h6, h7⟩
  · simp [At4, go_sem, *]
  · intro o; simp [World.frozen?_setCell, h4 o]
  · simpa [World.setCell] using h5

/-- What Div answers. -/
def dq (H L D : Int) : Int := if D ≤ H then 0 else (H * MM + L) / D
def dr (H L D : Int) : Int := if D ≤ H then 0 else (H * MM + L) % D
def dok (H D : Int) : Bool := decide (H < D)
theorem dq_bd {H L D : Int} (h0 : 0 ≤ H) (hL0 : 0 ≤ L) (hL : L < MM) : 0 ≤ dq H L D ∧ dq H L D < MM := by
  unfold dq
  split
  · exact ⟨by decide, by decide⟩
  · refine ⟨Int.ediv_nonneg (by unfold MM; omega) (by omega), Int.ediv_lt_of_lt_mul (by omega) ?_⟩
    have : (H + 1) * MM ≤ D * MM := Int.mul_le_mul_of_nonneg_right (by omega) (by decide)
    rw [Int.add_mul, Int.one_mul, Int.mul_comm D] at this
    omega
theorem dr_bd {H L D : Int} (h0 : 0 ≤ H) (hD : D < MM) : 0 ≤ dr H L D ∧ dr H L D < MM := by
  unfold dr
  split
  · exact ⟨by decide, by decide⟩
  · have a := Int.emod_nonneg (H * MM + L) (show D ≠ 0 by omega)
    have b := Int.emod_lt_of_pos (H * MM + L) (show 0 < D by omega)
    omega
end Go.Proofs.Ythpekbohmfmffaa
