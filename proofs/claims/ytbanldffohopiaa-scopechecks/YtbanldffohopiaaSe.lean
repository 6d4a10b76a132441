/-
  The definitions that live holds: what Check says of them.
-/
import Derived.Test.YtbanldffohopiaaSd
namespace Go.Proofs.Ytbanldffohopiaa
open Go.RowKit D
/-! The definitions that live holds. -/
def zEx : Ex := .mk 0 0 ⟨#[]⟩ ⟨#[]⟩ ⟨0, ⟨false, 0, 0, 0, 0, 0⟩, false, ⟨#[]⟩, 0⟩ 0 0 none 0 []
def lIt (s : ByteArray) : It := ⟨s, 1, 0, 0, false, 0, zEx⟩
def lKd (k2 : Nat) (s : ByteArray) : Se := .mk ⟨#[115]⟩ 3 (some ⟨k2, 0, none⟩) 1 [lIt s] none 0 []
def lRt (k1 k2 k3 : Nat) (s : ByteArray) : Se := .mk ⟨#[]⟩ 0 (some ⟨k1, 0, none⟩) 1 [lIt ⟨#[120]⟩] (some ⟨k3, 0, none⟩) 1 [lKd k2 s]
def lDf (k1 k2 k3 : Nat) (s : ByteArray) : Df := ⟨⟨#[114]⟩, lRt k1 k2 k3 s, none, 0, [], none, 0, []⟩
def lS0 (k1 : Nat) : S5 := ⟨-1, 1, ⟨#[]⟩, 0, some ⟨k1, 0, none⟩, 1, [lIt ⟨#[120]⟩]⟩
def lS1 (k2 : Nat) (s : ByteArray) : S5 := ⟨0, 2, ⟨#[115]⟩, 3, some ⟨k2, 0, none⟩, 1, [lIt s]⟩
theorem fla_l (k1 k2 k3 : Nat) (s : ByteArray) : fla (lDf k1 k2 k3 s) = [lS0 k1, lS1 k2 s] := by
  show flt (lRt k1 k2 k3 s) [] (-1) 1 = _
  rw [flt_eq, if_neg (by simp)]
  show flt (lKd k2 s) [lS0 k1] ((0 : Nat) : Int) (1 + 1) = _
  rw [flt_eq, if_neg (by simp)]
  rfl
theorem nam_1 (c : UInt8) (h : ltr (c.toNat : Int) = true) : nam ⟨#[c]⟩ = true := by
  have hs : (⟨#[c]⟩ : ByteArray).size = 1 := rfl
  have hb : bt ⟨#[c]⟩ 0 = (c.toNat : Int) := by rw [bt_in (by rw [hs]; decide)]; rfl
  unfold nam
  rw [nmA_in (by rw [hs]; decide), nmA_end (by rw [hs]; decide), hb, h, hs]
  rfl
theorem may_r : may ⟨#[114]⟩ = true := by unfold may; rw [nam_1 114 (by decide)]; decide
theorem may_s : may ⟨#[115]⟩ = true := by unfold may; rw [nam_1 115 (by decide)]; decide
theorem may_x : may ⟨#[120]⟩ = true := by unfold may; rw [nam_1 120 (by decide)]; decide
theorem may_y : may ⟨#[121]⟩ = true := by unfold may; rw [nam_1 121 (by decide)]; decide
section
variable {k1 k2 : Nat} {s : ByteArray}
theorem anc_l0 : anc [lS0 k1, lS1 k2 s] 0 = [0] := by rw [anc, dif_neg (by simp)]
theorem anc_l1 : anc [lS0 k1, lS1 k2 s] 1 = [1, 0] := by
  rw [anc, dif_pos (by simp [prn, lS1])]
  show [1] ++ anc [lS0 k1, lS1 k2 s] 0 = _
  rw [anc_l0]; rfl
theorem se_l0 (T : List (ByteArray × Int)) : seG T [lS0 k1, lS1 k2 s] 0 = none := by
  have h0 : ([lS0 k1, lS1 k2 s] : List S5)[0]? = some (lS0 k1) := rfl
  rw [seG_of h0, er_0 (by unfold seE nsE; rfl), Option.none_or]
  refine fs_none (fun j hj => ?_)
  have e : j = 0 := by have : j < 1 := hj; omega
  subst e
  rw [ixG_of h0 (y := lIt ⟨#[120]⟩) rfl]
  refine er_0 ?_
  unfold itE
  rw [show (lIt ⟨#[120]⟩).nm = ⟨#[120]⟩ from rfl, may_x, show tkn [lS0 k1, lS1 k2 s] (stI [lS0 k1, lS1 k2 s] 0 0) 0 ⟨#[120]⟩ = false by unfold tkn; rw [anc_l0]; rfl]
  rfl
theorem se_l1 (T : List (ByteArray × Int)) : seE [lS0 k1, lS1 k2 s] ⟨T, stI [lS0 k1, lS1 k2 s] 1 0, stK [lS0 k1, lS1 k2 s] 1⟩ 1 (lS1 k2 s) = 0 := by
  have h : nsE [lS0 k1, lS1 k2 s] ⟨T, stI [lS0 k1, lS1 k2 s] 1 0, stK [lS0 k1, lS1 k2 s] 1⟩ 1 (lS1 k2 s) = 0 := by
    unfold nsE
    rw [if_neg (by decide), show (lS1 k2 s).nm = ⟨#[115]⟩ from rfl, may_s, show tkn [lS0 k1, lS1 k2 s] (stI [lS0 k1, lS1 k2 s] 1 0) (lS1 k2 s).pr.toNat ⟨#[115]⟩ = false by show tkn _ _ 0 _ = _; unfold tkn; rw [anc_l0]; rfl]
    rfl
  unfold seE
  rw [if_pos h]
  rfl
theorem tk_x : tkn [lS0 k1, lS1 k2 ⟨#[120]⟩] (stI [lS0 k1, lS1 k2 ⟨#[120]⟩] 1 0) 1 ⟨#[120]⟩ = true := by unfold tkn; rw [anc_l1]; rfl
theorem tk_y : tkn [lS0 k1, lS1 k2 ⟨#[121]⟩] (stI [lS0 k1, lS1 k2 ⟨#[121]⟩] 1 0) 1 ⟨#[121]⟩ = false := by unfold tkn; rw [anc_l1]; rfl
theorem wh_l (k3 : Nat) : whE (lDf k1 k2 k3 s) [lS0 k1, lS1 k2 s] = 0 := by
  unfold whE
  rw [show (lDf k1 k2 k3 s).nm = ⟨#[114]⟩ from rfl, may_r]
  rfl
end
theorem chk_x (k1 k2 k3 : Nat) : chk (lDf k1 k2 k3 ⟨#[120]⟩) = some (plc 3 1 0 0 0, 5) := by
  unfold chk
  rw [fla_l, er_0 (wh_l k3), Option.none_or, show tbR (lDf k1 k2 k3 ⟨#[120]⟩).tb = none from rfl, Option.none_or]
  have h1 : ([lS0 k1, lS1 k2 ⟨#[120]⟩] : List S5)[1]? = some (lS1 k2 ⟨#[120]⟩) := rfl
  have h : seR (tbA (lDf k1 k2 k3 ⟨#[120]⟩).tb (lDf k1 k2 k3 ⟨#[120]⟩).tb.length) [lS0 k1, lS1 k2 ⟨#[120]⟩] = some (plc 3 1 0 0 0, 5) := by
    unfold seR
    refine fs_hit (n := 1) (fun j hj => by rw [show j = 0 by omega]; exact se_l0 _) ?_ (show 1 < 2 by decide)
    rw [seG_of h1, er_0 (se_l1 _), Option.none_or]
    refine fs_hit (n := 0) (fun j hj => by omega) ?_ (show 0 < 1 by decide)
    rw [ixG_of h1 (y := lIt ⟨#[120]⟩) rfl]
    have e : itE [lS0 k1, lS1 k2 ⟨#[120]⟩] (stI [lS0 k1, lS1 k2 ⟨#[120]⟩] 1 0) 1 (lIt ⟨#[120]⟩) = 5 := by
      unfold itE
      rw [show (lIt ⟨#[120]⟩).nm = ⟨#[120]⟩ from rfl, may_x, tk_x]; rfl
    rw [e]; rfl
  rw [h]; rfl
theorem chk_y (k1 k2 k3 : Nat) : chk (lDf k1 k2 k3 ⟨#[121]⟩) = none := by
  unfold chk alF
  rw [fla_l, er_0 (wh_l k3), Option.none_or, show tbR (lDf k1 k2 k3 ⟨#[121]⟩).tb = none from rfl, Option.none_or]
  have h1 : ([lS0 k1, lS1 k2 ⟨#[121]⟩] : List S5)[1]? = some (lS1 k2 ⟨#[121]⟩) := rfl
  have h : seR (tbA (lDf k1 k2 k3 ⟨#[121]⟩).tb (lDf k1 k2 k3 ⟨#[121]⟩).tb.length) [lS0 k1, lS1 k2 ⟨#[121]⟩] = none := by
    unfold seR
    refine fs_none (fun j hj => ?_)
    have hj2 : j = 0 ∨ j = 1 := by have : j < 2 := hj; omega
    rcases hj2 with rfl | rfl
    · exact se_l0 _
    · rw [seG_of h1, er_0 (se_l1 _), Option.none_or]
      refine fs_none (fun j hj => ?_)
      have e : j = 0 := by have : j < 1 := hj; omega
      subst e
      rw [ixG_of h1 (y := lIt ⟨#[121]⟩) rfl]
      refine er_0 ?_
      unfold itE
      rw [show (lIt ⟨#[121]⟩).nm = ⟨#[121]⟩ from rfl, may_y, tk_y]; rfl
  rw [h, Option.none_or]
  rfl
theorem ab_z : AB zEx := .mk (Nat.zero_le _) (fun o h => by cases h)
theorem lex_z (w : World) : LEx w zEx := .mk (Nat.zero_le _) (Nat.zero_le _) ⟨Nat.zero_le _, fun i o h => by simp [zEx] at h⟩ (fun o h => by cases h)
theorem SL.one {w : World} {k n : Nat} {α : Type} {cells : α → List Value} (hl : ∀ x, (cells x).length = n) {x : α} (h : At w k (cells x)) : SL w n cells (some ⟨k, 0, none⟩) [x] := SL.of_at hl (show 1 ≤ maxLen by decide) (by rw [List.flatMap_cons, List.flatMap_nil, List.append_nil]; exact h)
theorem SL.nil {w : World} {n : Nat} {α : Type} {cells : α → List Value} {pa : Option Addr} : SL w n cells pa ([] : List α) := ⟨Nat.zero_le _, fun i o h => by simp at h⟩
theorem l_lies {w : World} {k1 k2 k3 : Nat} {s : ByteArray} (h1 : At w k1 (lIt ⟨#[120]⟩).cells) (h2 : At w k2 (lIt s).cells) (h3 : At w k3 (lKd k2 s).cells) : LDf w (lDf k1 k2 k3 s) := by
  refine ⟨.mk (SL.one It.len h1) (fun o ho => ?_) (SL.one Se.len h3) (fun o ho => ?_), SL.nil, (fun o h => by cases h), SL.nil, (fun o h => by cases h), (fun o h => by cases h), (fun o h => by cases h)⟩
  · rw [List.mem_singleton.1 ho]; exact lex_z w
  · rw [List.mem_singleton.1 ho]
    refine .mk (SL.one It.len h2) (fun o ho => ?_) SL.nil (fun o h => by cases h)
    rw [List.mem_singleton.1 ho]; exact lex_z w
end Go.Proofs.Ytbanldffohopiaa
