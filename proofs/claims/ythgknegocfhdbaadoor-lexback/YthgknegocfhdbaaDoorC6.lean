/-
  A part of the proof.
-/
import Derived.Test.YthgknegocfhdbaaDoorC5
import Derived.Test.YthgknegocfhdbaaDoorC2
import Derived.Test.YthgknegocfhdbaaDoorC4
import Derived.Test.YthgknegocfhdbaaDoorC3
import Derived.Maps.AppendAt
import Derived.Deep.AppendLies
import Derived.Laws.BytesString
/-
 Symbol and the document's; Blank where there is no such place.
-/
namespace Go.Proofs.YthgknegocfhdbaaDoor
open Go.RowKit
def sys : List ByteArray := [⟨#[123]⟩, ⟨#[125]⟩, ⟨#[40]⟩, ⟨#[41]⟩, ⟨#[44]⟩, ⟨#[59]⟩, ⟨#[58]⟩, ⟨#[46]⟩, ⟨#[61]⟩, ⟨#[33, 61]⟩, ⟨#[60]⟩, ⟨#[60, 61]⟩, ⟨#[62]⟩, ⟨#[62, 61]⟩, ⟨#[43]⟩, ⟨#[45]⟩, ⟨#[42]⟩]
def symb (s : ByteArray) : Bool := sys.any (fun x => s.toList == x.toList)
set_option maxRecDepth 10000 in
theorem sym_n (s : ByteArray) (w : World) : Calls Tryd.prog 18 #[.string s] w fun e w' => e = .returned (.bool (symb s)) ∧ Mo w w' := by
 refine w_enter 22 Tryd.func18 Tryd.ntmps18 rfl rfl ?_
 have M : Mo w w := Mo.refl _
 refine w_seq (w_reg ?_)
 refine wl_m (.const (.bool false)) (.bool false) ?_
 refine w_nil (xn_then (w_seq (w_seq (w_reg ?_))))
 refine wl_m (.tmp 0) (.string s) ?_
 refine w_nil (xn_then (w_block (w_seq (w_seq ?_))))
 cases hf0 : (s.toList == (⟨#[123]⟩ : ByteArray).toList) with
 | true =>
  refine w_reg ?_
  refine wl_b .eql 9 (.tmp 3) (.const (.string ⟨#[123]⟩)) (.string s) (.string ⟨#[123]⟩) (.bool true) (eq9 hf0 _ _ _) ?_
  refine wl_m (.tmp 5) (.bool true) ?_
  refine w_nil (xn_then (w_condT rfl (w_skip (xn_then (w_condT rfl (w_seq (w_reg ?_)))))))
  refine wl_m (.const (.bool true)) (.bool true) ?_
  refine w_nil (xn_then (w_ret (xr_blk (xr_then ?_))))
  exact w_ret1 _ (.bool true) rfl rfl ⟨by unfold symb sys; simp only [List.any_cons, List.any_nil]; rw [hf0]; rfl, M⟩
 | false =>
  refine w_reg ?_
  refine wl_b .eql 9 (.tmp 3) (.const (.string ⟨#[123]⟩)) (.string s) (.string ⟨#[123]⟩) (.bool false) (eq9 hf0 _ _ _) ?_
  refine wl_m (.tmp 5) (.bool false) ?_
  refine w_nil (xn_then (w_condF rfl (w_seq ?_)))
  cases hf1 : (s.toList == (⟨#[125]⟩ : ByteArray).toList) with
  | true =>
   refine w_reg ?_
   refine wl_b .eql 9 (.tmp 3) (.const (.string ⟨#[125]⟩)) (.string s) (.string ⟨#[125]⟩) (.bool true) (eq9 hf1 _ _ _) ?_
   refine wl_m (.tmp 6) (.bool true) ?_
   refine w_nil (xn_then (w_condT rfl (w_skip (xn_then (w_condT rfl (w_seq (w_reg ?_)))))))
   refine wl_m (.const (.bool true)) (.bool true) ?_
   refine w_nil (xn_then (w_ret (xr_blk (xr_then ?_))))
   exact w_ret1 _ (.bool true) rfl rfl ⟨by unfold symb sys; simp only [List.any_cons, List.any_nil]; rw [hf0, hf1]; rfl, M⟩
  | false =>
   refine w_reg ?_
   refine wl_b .eql 9 (.tmp 3) (.const (.string ⟨#[125]⟩)) (.string s) (.string ⟨#[125]⟩) (.bool false) (eq9 hf1 _ _ _) ?_
   refine wl_m (.tmp 6) (.bool false) ?_
   refine w_nil (xn_then (w_condF rfl (w_seq ?_)))
   cases hf2 : (s.toList == (⟨#[40]⟩ : ByteArray).toList) with
   | true =>
    refine w_reg ?_
    refine wl_b .eql 9 (.tmp 3) (.const (.string ⟨#[40]⟩)) (.string s) (.string ⟨#[40]⟩) (.bool true) (eq9 hf2 _ _ _) ?_
    refine wl_m (.tmp 7) (.bool true) ?_
    refine w_nil (xn_then (w_condT rfl (w_skip (xn_then (w_condT rfl (w_seq (w_reg ?_)))))))
    refine wl_m (.const (.bool true)) (.bool true) ?_
    refine w_nil (xn_then (w_ret (xr_blk (xr_then ?_))))
    exact w_ret1 _ (.bool true) rfl rfl ⟨by unfold symb sys; simp only [List.any_cons, List.any_nil]; rw [hf0, hf1, hf2]; rfl, M⟩
   | false =>
    refine w_reg ?_
    refine wl_b .eql 9 (.tmp 3) (.const (.string ⟨#[40]⟩)) (.string s) (.string ⟨#[40]⟩) (.bool false) (eq9 hf2 _ _ _) ?_
    refine wl_m (.tmp 7) (.bool false) ?_
    refine w_nil (xn_then (w_condF rfl (w_seq ?_)))
    cases hf3 : (s.toList == (⟨#[41]⟩ : ByteArray).toList) with
    | true =>
     refine w_reg ?_
     refine wl_b .eql 9 (.tmp 3) (.const (.string ⟨#[41]⟩)) (.string s) (.string ⟨#[41]⟩) (.bool true) (eq9 hf3 _ _ _) ?_
     refine wl_m (.tmp 8) (.bool true) ?_
     refine w_nil (xn_then (w_condT rfl (w_skip (xn_then (w_condT rfl (w_seq (w_reg ?_)))))))
     refine wl_m (.const (.bool true)) (.bool true) ?_
     refine w_nil (xn_then (w_ret (xr_blk (xr_then ?_))))
     exact w_ret1 _ (.bool true) rfl rfl ⟨by unfold symb sys; simp only [List.any_cons, List.any_nil]; rw [hf0, hf1, hf2, hf3]; rfl, M⟩
    | false =>
     refine w_reg ?_
     refine wl_b .eql 9 (.tmp 3) (.const (.string ⟨#[41]⟩)) (.string s) (.string ⟨#[41]⟩) (.bool false) (eq9 hf3 _ _ _) ?_
     refine wl_m (.tmp 8) (.bool false) ?_
     refine w_nil (xn_then (w_condF rfl (w_seq ?_)))
     cases hf4 : (s.toList == (⟨#[44]⟩ : ByteArray).toList) with
     | true =>
      refine w_reg ?_
      refine wl_b .eql 9 (.tmp 3) (.const (.string ⟨#[44]⟩)) (.string s) (.string ⟨#[44]⟩) (.bool true) (eq9 hf4 _ _ _) ?_
      refine wl_m (.tmp 9) (.bool true) ?_
      refine w_nil (xn_then (w_condT rfl (w_skip (xn_then (w_condT rfl (w_seq (w_reg ?_)))))))
      refine wl_m (.const (.bool true)) (.bool true) ?_
      refine w_nil (xn_then (w_ret (xr_blk (xr_then ?_))))
      exact w_ret1 _ (.bool true) rfl rfl ⟨by unfold symb sys; simp only [List.any_cons, List.any_nil]; rw [hf0, hf1, hf2, hf3, hf4]; rfl, M⟩
     | false =>
      refine w_reg ?_
      refine wl_b .eql 9 (.tmp 3) (.const (.string ⟨#[44]⟩)) (.string s) (.string ⟨#[44]⟩) (.bool false) (eq9 hf4 _ _ _) ?_
      refine wl_m (.tmp 9) (.bool false) ?_
      refine w_nil (xn_then (w_condF rfl (w_seq ?_)))
      cases hf5 : (s.toList == (⟨#[59]⟩ : ByteArray).toList) with
      | true =>
       refine w_reg ?_
       refine wl_b .eql 9 (.tmp 3) (.const (.string ⟨#[59]⟩)) (.string s) (.string ⟨#[59]⟩) (.bool true) (eq9 hf5 _ _ _) ?_
       refine wl_m (.tmp 10) (.bool true) ?_
       refine w_nil (xn_then (w_condT rfl (w_skip (xn_then (w_condT rfl (w_seq (w_reg ?_)))))))
       refine wl_m (.const (.bool true)) (.bool true) ?_
       refine w_nil (xn_then (w_ret (xr_blk (xr_then ?_))))
       exact w_ret1 _ (.bool true) rfl rfl ⟨by unfold symb sys; simp only [List.any_cons, List.any_nil]; rw [hf0, hf1, hf2, hf3, hf4, hf5]; rfl, M⟩
      | false =>
       refine w_reg ?_
       refine wl_b .eql 9 (.tmp 3) (.const (.string ⟨#[59]⟩)) (.string s) (.string ⟨#[59]⟩) (.bool false) (eq9 hf5 _ _ _) ?_
       refine wl_m (.tmp 10) (.bool false) ?_
       refine w_nil (xn_then (w_condF rfl (w_seq ?_)))
       cases hf6 : (s.toList == (⟨#[58]⟩ : ByteArray).toList) with
       | true =>
        refine w_reg ?_
        refine wl_b .eql 9 (.tmp 3) (.const (.string ⟨#[58]⟩)) (.string s) (.string ⟨#[58]⟩) (.bool true) (eq9 hf6 _ _ _) ?_
        refine wl_m (.tmp 11) (.bool true) ?_
        refine w_nil (xn_then (w_condT rfl (w_skip (xn_then (w_condT rfl (w_seq (w_reg ?_)))))))
        refine wl_m (.const (.bool true)) (.bool true) ?_
        refine w_nil (xn_then (w_ret (xr_blk (xr_then ?_))))
        exact w_ret1 _ (.bool true) rfl rfl ⟨by unfold symb sys; simp only [List.any_cons, List.any_nil]; rw [hf0, hf1, hf2, hf3, hf4, hf5, hf6]; rfl, M⟩
       | false =>
        refine w_reg ?_
        refine wl_b .eql 9 (.tmp 3) (.const (.string ⟨#[58]⟩)) (.string s) (.string ⟨#[58]⟩) (.bool false) (eq9 hf6 _ _ _) ?_
        refine wl_m (.tmp 11) (.bool false) ?_
        refine w_nil (xn_then (w_condF rfl (w_seq ?_)))
        cases hf7 : (s.toList == (⟨#[46]⟩ : ByteArray).toList) with
        | true =>
         refine w_reg ?_
         refine wl_b .eql 9 (.tmp 3) (.const (.string ⟨#[46]⟩)) (.string s) (.string ⟨#[46]⟩) (.bool true) (eq9 hf7 _ _ _) ?_
         refine wl_m (.tmp 12) (.bool true) ?_
         refine w_nil (xn_then (w_condT rfl (w_skip (xn_then (w_condT rfl (w_seq (w_reg ?_)))))))
         refine wl_m (.const (.bool true)) (.bool true) ?_
         refine w_nil (xn_then (w_ret (xr_blk (xr_then ?_))))
         exact w_ret1 _ (.bool true) rfl rfl ⟨by unfold symb sys; simp only [List.any_cons, List.any_nil]; rw [hf0, hf1, hf2, hf3, hf4, hf5, hf6, hf7]; rfl, M⟩
        | false =>
         refine w_reg ?_
         refine wl_b .eql 9 (.tmp 3) (.const (.string ⟨#[46]⟩)) (.string s) (.string ⟨#[46]⟩) (.bool false) (eq9 hf7 _ _ _) ?_
         refine wl_m (.tmp 12) (.bool false) ?_
         refine w_nil (xn_then (w_condF rfl (w_seq ?_)))
         cases hf8 : (s.toList == (⟨#[61]⟩ : ByteArray).toList) with
         | true =>
          refine w_reg ?_
          refine wl_b .eql 9 (.tmp 3) (.const (.string ⟨#[61]⟩)) (.string s) (.string ⟨#[61]⟩) (.bool true) (eq9 hf8 _ _ _) ?_
          refine wl_m (.tmp 13) (.bool true) ?_
          refine w_nil (xn_then (w_condT rfl (w_skip (xn_then (w_condT rfl (w_seq (w_reg ?_)))))))
          refine wl_m (.const (.bool true)) (.bool true) ?_
          refine w_nil (xn_then (w_ret (xr_blk (xr_then ?_))))
          exact w_ret1 _ (.bool true) rfl rfl ⟨by unfold symb sys; simp only [List.any_cons, List.any_nil]; rw [hf0, hf1, hf2, hf3, hf4, hf5, hf6, hf7, hf8]; rfl, M⟩
         | false =>
          refine w_reg ?_
          refine wl_b .eql 9 (.tmp 3) (.const (.string ⟨#[61]⟩)) (.string s) (.string ⟨#[61]⟩) (.bool false) (eq9 hf8 _ _ _) ?_
          refine wl_m (.tmp 13) (.bool false) ?_
          refine w_nil (xn_then (w_condF rfl (w_seq ?_)))
          cases hf9 : (s.toList == (⟨#[33, 61]⟩ : ByteArray).toList) with
          | true =>
           refine w_reg ?_
           refine wl_b .eql 9 (.tmp 3) (.const (.string ⟨#[33, 61]⟩)) (.string s) (.string ⟨#[33, 61]⟩) (.bool true) (eq9 hf9 _ _ _) ?_
           refine wl_m (.tmp 14) (.bool true) ?_
           refine w_nil (xn_then (w_condT rfl (w_skip (xn_then (w_condT rfl (w_seq (w_reg ?_)))))))
           refine wl_m (.const (.bool true)) (.bool true) ?_
           refine w_nil (xn_then (w_ret (xr_blk (xr_then ?_))))
           exact w_ret1 _ (.bool true) rfl rfl ⟨by unfold symb sys; simp only [List.any_cons, List.any_nil]; rw [hf0, hf1, hf2, hf3, hf4, hf5, hf6, hf7, hf8, hf9]; rfl, M⟩
          | false =>
           refine w_reg ?_
           refine wl_b .eql 9 (.tmp 3) (.const (.string ⟨#[33, 61]⟩)) (.string s) (.string ⟨#[33, 61]⟩) (.bool false) (eq9 hf9 _ _ _) ?_
           refine wl_m (.tmp 14) (.bool false) ?_
           refine w_nil (xn_then (w_condF rfl (w_seq ?_)))
           cases hf10 : (s.toList == (⟨#[60]⟩ : ByteArray).toList) with
           | true =>
            refine w_reg ?_
            refine wl_b .eql 9 (.tmp 3) (.const (.string ⟨#[60]⟩)) (.string s) (.string ⟨#[60]⟩) (.bool true) (eq9 hf10 _ _ _) ?_
            refine wl_m (.tmp 15) (.bool true) ?_
            refine w_nil (xn_then (w_condT rfl (w_skip (xn_then (w_condT rfl (w_seq (w_reg ?_)))))))
            refine wl_m (.const (.bool true)) (.bool true) ?_
            refine w_nil (xn_then (w_ret (xr_blk (xr_then ?_))))
            exact w_ret1 _ (.bool true) rfl rfl ⟨by unfold symb sys; simp only [List.any_cons, List.any_nil]; rw [hf0, hf1, hf2, hf3, hf4, hf5, hf6, hf7, hf8, hf9, hf10]; rfl, M⟩
           | false =>
            refine w_reg ?_
            refine wl_b .eql 9 (.tmp 3) (.const (.string ⟨#[60]⟩)) (.string s) (.string ⟨#[60]⟩) (.bool false) (eq9 hf10 _ _ _) ?_
            refine wl_m (.tmp 15) (.bool false) ?_
            refine w_nil (xn_then (w_condF rfl (w_seq ?_)))
            cases hf11 : (s.toList == (⟨#[60, 61]⟩ : ByteArray).toList) with
            | true =>
             refine w_reg ?_
             refine wl_b .eql 9 (.tmp 3) (.const (.string ⟨#[60, 61]⟩)) (.string s) (.string ⟨#[60, 61]⟩) (.bool true) (eq9 hf11 _ _ _) ?_
             refine wl_m (.tmp 16) (.bool true) ?_
             refine w_nil (xn_then (w_condT rfl (w_skip (xn_then (w_condT rfl (w_seq (w_reg ?_)))))))
             refine wl_m (.const (.bool true)) (.bool true) ?_
             refine w_nil (xn_then (w_ret (xr_blk (xr_then ?_))))
             exact w_ret1 _ (.bool true) rfl rfl ⟨by unfold symb sys; simp only [List.any_cons, List.any_nil]; rw [hf0, hf1, hf2, hf3, hf4, hf5, hf6, hf7, hf8, hf9, hf10, hf11]; rfl, M⟩
            | false =>
             refine w_reg ?_
             refine wl_b .eql 9 (.tmp 3) (.const (.string ⟨#[60, 61]⟩)) (.string s) (.string ⟨#[60, 61]⟩) (.bool false) (eq9 hf11 _ _ _) ?_
             refine wl_m (.tmp 16) (.bool false) ?_
             refine w_nil (xn_then (w_condF rfl (w_seq ?_)))
             cases hf12 : (s.toList == (⟨#[62]⟩ : ByteArray).toList) with
             | true =>
              refine w_reg ?_
              refine wl_b .eql 9 (.tmp 3) (.const (.string ⟨#[62]⟩)) (.string s) (.string ⟨#[62]⟩) (.bool true) (eq9 hf12 _ _ _) ?_
              refine wl_m (.tmp 17) (.bool true) ?_
              refine w_nil (xn_then (w_condT rfl (w_skip (xn_then (w_condT rfl (w_seq (w_reg ?_)))))))
              refine wl_m (.const (.bool true)) (.bool true) ?_
              refine w_nil (xn_then (w_ret (xr_blk (xr_then ?_))))
              exact w_ret1 _ (.bool true) rfl rfl ⟨by unfold symb sys; simp only [List.any_cons, List.any_nil]; rw [hf0, hf1, hf2, hf3, hf4, hf5, hf6, hf7, hf8, hf9, hf10, hf11, hf12]; rfl, M⟩
             | false =>
              refine w_reg ?_
              refine wl_b .eql 9 (.tmp 3) (.const (.string ⟨#[62]⟩)) (.string s) (.string ⟨#[62]⟩) (.bool false) (eq9 hf12 _ _ _) ?_
              refine wl_m (.tmp 17) (.bool false) ?_
              refine w_nil (xn_then (w_condF rfl (w_seq ?_)))
              cases hf13 : (s.toList == (⟨#[62, 61]⟩ : ByteArray).toList) with
              | true =>
               refine w_reg ?_
               refine wl_b .eql 9 (.tmp 3) (.const (.string ⟨#[62, 61]⟩)) (.string s) (.string ⟨#[62, 61]⟩) (.bool true) (eq9 hf13 _ _ _) ?_
               refine wl_m (.tmp 18) (.bool true) ?_
               refine w_nil (xn_then (w_condT rfl (w_skip (xn_then (w_condT rfl (w_seq (w_reg ?_)))))))
               refine wl_m (.const (.bool true)) (.bool true) ?_
               refine w_nil (xn_then (w_ret (xr_blk (xr_then ?_))))
               exact w_ret1 _ (.bool true) rfl rfl ⟨by unfold symb sys; simp only [List.any_cons, List.any_nil]; rw [hf0, hf1, hf2, hf3, hf4, hf5, hf6, hf7, hf8, hf9, hf10, hf11, hf12, hf13]; rfl, M⟩
              | false =>
               refine w_reg ?_
               refine wl_b .eql 9 (.tmp 3) (.const (.string ⟨#[62, 61]⟩)) (.string s) (.string ⟨#[62, 61]⟩) (.bool false) (eq9 hf13 _ _ _) ?_
               refine wl_m (.tmp 18) (.bool false) ?_
               refine w_nil (xn_then (w_condF rfl (w_seq ?_)))
               cases hf14 : (s.toList == (⟨#[43]⟩ : ByteArray).toList) with
               | true =>
                refine w_reg ?_
                refine wl_b .eql 9 (.tmp 3) (.const (.string ⟨#[43]⟩)) (.string s) (.string ⟨#[43]⟩) (.bool true) (eq9 hf14 _ _ _) ?_
                refine wl_m (.tmp 19) (.bool true) ?_
                refine w_nil (xn_then (w_condT rfl (w_skip (xn_then (w_condT rfl (w_seq (w_reg ?_)))))))
                refine wl_m (.const (.bool true)) (.bool true) ?_
                refine w_nil (xn_then (w_ret (xr_blk (xr_then ?_))))
                exact w_ret1 _ (.bool true) rfl rfl ⟨by unfold symb sys; simp only [List.any_cons, List.any_nil]; rw [hf0, hf1, hf2, hf3, hf4, hf5, hf6, hf7, hf8, hf9, hf10, hf11, hf12, hf13, hf14]; rfl, M⟩
               | false =>
                refine w_reg ?_
                refine wl_b .eql 9 (.tmp 3) (.const (.string ⟨#[43]⟩)) (.string s) (.string ⟨#[43]⟩) (.bool false) (eq9 hf14 _ _ _) ?_
                refine wl_m (.tmp 19) (.bool false) ?_
                refine w_nil (xn_then (w_condF rfl (w_seq ?_)))
                cases hf15 : (s.toList == (⟨#[45]⟩ : ByteArray).toList) with
                | true =>
                 refine w_reg ?_
                 refine wl_b .eql 9 (.tmp 3) (.const (.string ⟨#[45]⟩)) (.string s) (.string ⟨#[45]⟩) (.bool true) (eq9 hf15 _ _ _) ?_
                 refine wl_m (.tmp 20) (.bool true) ?_
                 refine w_nil (xn_then (w_condT rfl (w_skip (xn_then (w_condT rfl (w_seq (w_reg ?_)))))))
                 refine wl_m (.const (.bool true)) (.bool true) ?_
                 refine w_nil (xn_then (w_ret (xr_blk (xr_then ?_))))
                 exact w_ret1 _ (.bool true) rfl rfl ⟨by unfold symb sys; simp only [List.any_cons, List.any_nil]; rw [hf0, hf1, hf2, hf3, hf4, hf5, hf6, hf7, hf8, hf9, hf10, hf11, hf12, hf13, hf14, hf15]; rfl, M⟩
                | false =>
                 refine w_reg ?_
                 refine wl_b .eql 9 (.tmp 3) (.const (.string ⟨#[45]⟩)) (.string s) (.string ⟨#[45]⟩) (.bool false) (eq9 hf15 _ _ _) ?_
                 refine wl_m (.tmp 20) (.bool false) ?_
                 refine w_nil (xn_then (w_condF rfl ?_))
                 cases hf16 : (s.toList == (⟨#[42]⟩ : ByteArray).toList) with
                 | true =>
                  refine w_reg ?_
                  refine wl_b .eql 9 (.tmp 3) (.const (.string ⟨#[42]⟩)) (.string s) (.string ⟨#[42]⟩) (.bool true) (eq9 hf16 _ _ _) ?_
                  refine wl_m (.tmp 21) (.bool true) ?_
                  refine w_nil (xn_then (w_condT rfl (w_seq (w_reg ?_))))
                  refine wl_m (.const (.bool true)) (.bool true) ?_
                  refine w_nil (xn_then (w_ret (xr_blk (xr_then ?_))))
                  exact w_ret1 _ (.bool true) rfl rfl ⟨by unfold symb sys; simp only [List.any_cons, List.any_nil]; rw [hf0, hf1, hf2, hf3, hf4, hf5, hf6, hf7, hf8, hf9, hf10, hf11, hf12, hf13, hf14, hf15, hf16]; rfl, M⟩
                 | false =>
                  refine w_reg ?_
                  refine wl_b .eql 9 (.tmp 3) (.const (.string ⟨#[42]⟩)) (.string s) (.string ⟨#[42]⟩) (.bool false) (eq9 hf16 _ _ _) ?_
                  refine wl_m (.tmp 21) (.bool false) ?_
                  refine w_nil (xn_then (w_condF rfl (w_skip (xn_blk (xn_then (w_seq (w_reg ?_)))))))
                  refine wl_m (.const (.bool false)) (.bool false) ?_
                  refine w_nil (xn_then (w_ret ?_))
                  exact w_ret1 _ (.bool false) rfl rfl ⟨by unfold symb sys; simp only [List.any_cons, List.any_nil]; rw [hf0, hf1, hf2, hf3, hf4, hf5, hf6, hf7, hf8, hf9, hf10, hf11, hf12, hf13, hf14, hf15, hf16]; rfl, M⟩
theorem ix60 (g j n c : Nat) (h : j < n) (w : World) : (Instr.indexAt 60 (.slice (some ⟨g, 0, none⟩) n c) (.int .i64 (j : Int))).run Tryd.prog w = .ok (pt g j) w := by
 have e : (Instr.indexAt 60 (.slice (some ⟨g, 0, none⟩) n c) (.int .i64 (j : Int))).run Tryd.prog w = .ok (.pointer (some ((⟨g, 0, none⟩ : Addr).add (j * 1)))) w := by simp [go_sem, h]
 rw [e, Addr.add_mid, Nat.mul_one, Nat.zero_add]
end Go.Proofs.YthgknegocfhdbaaDoor
/-
 hexByte and firstByte.
-/
namespace Go.Proofs.YthgknegocfhdbaaDoor
open Go.RowKit

set_option maxRecDepth 100000 in
theorem bits16 : ∀ a : Fin 16, ∀ b : Fin 16, bits BinOp.or IntKind.i64 (16 * ((a.val : Nat) : Int)) ((b.val : Nat) : Int) = 16 * ((a.val : Nat) : Int) + ((b.val : Nat) : Int) := by decide +kernel
theorem or16 {a b : Nat} (ha : a < 16) (hb : b < 16) (x y : Operand) (w : World) : (do eqGuard .or 3 x y (.int .i64 ((16 * a : Nat) : Int)) (.int .i64 (b : Int)); binOp .or 3 (.int .i64 ((16 * a : Nat) : Int)) (.int .i64 (b : Int))).run Tryd.prog w = .ok (.int .i64 ((16 * a + b : Nat) : Int)) w := by
 have h := bits16 ⟨a, ha⟩ ⟨b, hb⟩
 simp [go_sem]; exact h
theorem shl4 {a : Nat} (ha : a < 16) (x y : Operand) (w : World) : (do eqGuard .shl 3 x y (.int .i64 (a : Int)) (.int .u64 4); binOp .shl 3 (.int .i64 (a : Int)) (.int .u64 4)).run Tryd.prog w = .ok (.int .i64 ((16 * a : Nat) : Int)) w := by
 simp [go_sem]; rw [IntKind.wrap_i64]; omega
theorem cv35 {a : Nat} (ha : a < 256) (w : World) : (convert 3 5 (.int .i64 (a : Int))).run Tryd.prog w = .ok (.int .u8 (a : Int)) w := by
 have h : IntKind.u8.wrap (a : Int) = (a : Int) := by rw [IntKind.wrap_u8]; omega
 simp [go_sem, h]
def hxd (c : Int) : Int := Lib.indexByte (by8 ⟨#[48, 49, 50, 51, 52, 53, 54, 55, 56, 57, 97, 98, 99, 100, 101, 102]⟩) c.toNat.toUInt8
theorem hxd_cases (c : Int) : hxd c = -1 ∨ ∃ a : Nat, a < 16 ∧ hxd c = (a : Int) := by
 have h := Lib.indexByte_ge (by8 ⟨#[48, 49, 50, 51, 52, 53, 54, 55, 56, 57, 97, 98, 99, 100, 101, 102]⟩) c.toNat.toUInt8
 by_cases h1 : hxd c = -1
 ·exact Or.inl h1
 ·obtain ⟨a, ha⟩ : ∃ a : Nat, hxd c = (a : Int) := ⟨(hxd c).toNat, by unfold hxd at h1 ⊢; omega⟩
  refine Or.inr ⟨a, ?_, ha⟩
  have := (List.getElem?_eq_some_iff.1 (Lib.indexByte_some ha).1).1
  exact this
def hexB (h l : Int) : Int × Int := if hxd h < 0 ∨ hxd l < 0 then (0, 0) else if prn (16 * hxd h + hxd l) then (0, 0) else (16 * hxd h + hxd l, 4)
theorem hxd_n {c r : Int} (h : hxd c = r) (w : World) : Calls Tryd.prog 36 #[.string ⟨#[48, 49, 50, 51, 52, 53, 54, 55, 56, 57, 97, 98, 99, 100, 101, 102]⟩, .int .u8 c] w fun e w' => e = .returned (.int .i64 r) ∧ Mo w w' := h ▸ ixb_n ⟨#[48, 49, 50, 51, 52, 53, 54, 55, 56, 57, 97, 98, 99, 100, 101, 102]⟩ c w
theorem prn_c {c : Int} {r : Bool} (h : prn c = r) (w : World) : Calls Tryd.prog 43 #[.int .u8 c] w fun e w' => e = .returned (.bool r) ∧ Mo w w' := h ▸ isPrinted_n c w
theorem hexByte_n (h l : Int) (w : World) : Calls Tryd.prog 53 #[.int .u8 h, .int .u8 l] w fun e w' => e = .returned (.tuple #[.int .u8 (hexB h l).1, .int .i64 (hexB h l).2]) ∧ Mo w w' := by
 rcases hxd_cases h with h1 | ⟨a, ha, h1⟩
 ·obtain ⟨r2, h2⟩ : ∃ r, hxd l = r := ⟨_, rfl⟩
  refine w_enter 27 Tryd.func53 Tryd.ntmps53 rfl rfl ?_
  have M : Mo w w := Mo.refl _
  refine w_seq (w_reg ?_)
  refine wl_m (.const (.int .u8 (0))) (.int .u8 (0)) ?_
  refine wl_m (.const (.int .i64 (0))) (.int .i64 (0)) ?_
  refine w_nil (xn_then (w_seq (w_reg ?_)))
  refine wl_m (.tmp 0) (.int .u8 (h)) ?_
  refine wl_call 36 [(.const (.string ⟨#[48, 49, 50, 51, 52, 53, 54, 55, 56, 57, 97, 98, 99, 100, 101, 102]⟩)), (.tmp 9)] _ [.string ⟨#[48, 49, 50, 51, 52, 53, 54, 55, 56, 57, 97, 98, 99, 100, 101, 102]⟩, .int .u8 (h)] (.int .i64 (-1)) rfl rfl (fun _ _ => by kernel_rfl) (hxd_n h1 _) rfl ?_
  intro w1 hq
  replace M := M.trans hq
  clear hq
  refine wl_m (.tmp 1) (.int .u8 (l)) ?_
  refine wl_call 36 [(.const (.string ⟨#[48, 49, 50, 51, 52, 53, 54, 55, 56, 57, 97, 98, 99, 100, 101, 102]⟩)), (.tmp 11)] _ [.string ⟨#[48, 49, 50, 51, 52, 53, 54, 55, 56, 57, 97, 98, 99, 100, 101, 102]⟩, .int .u8 (l)] (.int .i64 (r2)) rfl rfl (fun _ _ => by kernel_rfl) (hxd_n h2 _) rfl ?_
  intro w2 hq
  replace M := M.trans hq
  clear hq
  refine wl_m (.tmp 10) (.int .i64 (-1)) ?_
  refine wl_m (.tmp 12) (.int .i64 (r2)) ?_
  refine w_nil (xn_then (w_seq (w_seq (w_reg ?_))))
  refine wl_m (.tmp 6) (.int .i64 (-1)) ?_
  refine wl_b .lss 3 (.tmp 13) (.const (.int .i64 (0))) (.int .i64 (-1)) (.int .i64 (0)) (.bool true) (lt3_run (r := true) (by decide) _ _ _) ?_
  refine wl_m (.tmp 14) (.bool true) ?_
  refine wl_skip rfl (wl_skip rfl ?_)
  refine wl_pick (.tmp 15) (.const (.bool true)) (.tmp 17) true (.bool true) (fun _ => rfl) rfl rfl rfl ?_
  refine w_nil (xn_then (w_condT rfl (w_seq (w_reg ?_))))
  refine wl_m (.const (.int .u8 (0))) (.int .u8 (0)) ?_
  refine wl_m (.const (.int .i64 (0))) (.int .i64 (0)) ?_
  refine w_nil (xn_then (w_ret (xr_then ?_)))
  exact w_ret2 _ _ (.int .u8 (0)) (.int .i64 (0)) rfl rfl rfl ⟨by unfold hexB; rw [if_pos (by omega)], M⟩
 ·rcases hxd_cases l with h2 | ⟨b, hb, h2⟩
  ·skip
   refine w_enter 27 Tryd.func53 Tryd.ntmps53 rfl rfl ?_
   have M : Mo w w := Mo.refl _
   refine w_seq (w_reg ?_)
   refine wl_m (.const (.int .u8 (0))) (.int .u8 (0)) ?_
   refine wl_m (.const (.int .i64 (0))) (.int .i64 (0)) ?_
   refine w_nil (xn_then (w_seq (w_reg ?_)))
   refine wl_m (.tmp 0) (.int .u8 (h)) ?_
   refine wl_call 36 [(.const (.string ⟨#[48, 49, 50, 51, 52, 53, 54, 55, 56, 57, 97, 98, 99, 100, 101, 102]⟩)), (.tmp 9)] _ [.string ⟨#[48, 49, 50, 51, 52, 53, 54, 55, 56, 57, 97, 98, 99, 100, 101, 102]⟩, .int .u8 (h)] (.int .i64 ((a : Nat) : Int)) rfl rfl (fun _ _ => by kernel_rfl) (hxd_n h1 _) rfl ?_
   intro w1 hq
   replace M := M.trans hq
   clear hq
   refine wl_m (.tmp 1) (.int .u8 (l)) ?_
   refine wl_call 36 [(.const (.string ⟨#[48, 49, 50, 51, 52, 53, 54, 55, 56, 57, 97, 98, 99, 100, 101, 102]⟩)), (.tmp 11)] _ [.string ⟨#[48, 49, 50, 51, 52, 53, 54, 55, 56, 57, 97, 98, 99, 100, 101, 102]⟩, .int .u8 (l)] (.int .i64 (-1)) rfl rfl (fun _ _ => by kernel_rfl) (hxd_n h2 _) rfl ?_
   intro w2 hq
   replace M := M.trans hq
   clear hq
   refine wl_m (.tmp 10) (.int .i64 ((a : Nat) : Int)) ?_
   refine wl_m (.tmp 12) (.int .i64 (-1)) ?_
   refine w_nil (xn_then (w_seq (w_seq (w_reg ?_))))
   refine wl_m (.tmp 6) (.int .i64 ((a : Nat) : Int)) ?_
   refine wl_b .lss 3 (.tmp 13) (.const (.int .i64 (0))) (.int .i64 ((a : Nat) : Int)) (.int .i64 (0)) (.bool false) (lt3_run (r := false) (decide_eq_false (by omega)) _ _ _) ?_
   refine wl_m (.tmp 14) (.bool false) ?_
   refine wl_m (.tmp 7) (.int .i64 (-1)) ?_
   refine wl_b .lss 3 (.tmp 16) (.const (.int .i64 (0))) (.int .i64 (-1)) (.int .i64 (0)) (.bool true) (lt3_run (r := true) (by decide) _ _ _) ?_
   refine wl_pick (.tmp 15) (.const (.bool true)) (.tmp 17) false (.bool true) (fun _ => rfl) rfl rfl rfl ?_
   refine w_nil (xn_then (w_condT rfl (w_seq (w_reg ?_))))
   refine wl_m (.const (.int .u8 (0))) (.int .u8 (0)) ?_
   refine wl_m (.const (.int .i64 (0))) (.int .i64 (0)) ?_
   refine w_nil (xn_then (w_ret (xr_then ?_)))
   exact w_ret2 _ _ (.int .u8 (0)) (.int .i64 (0)) rfl rfl rfl ⟨by unfold hexB; rw [if_pos (by omega)], M⟩
  ·skip
   refine w_enter 27 Tryd.func53 Tryd.ntmps53 rfl rfl ?_
   have M : Mo w w := Mo.refl _
   refine w_seq (w_reg ?_)
   refine wl_m (.const (.int .u8 (0))) (.int .u8 (0)) ?_
   refine wl_m (.const (.int .i64 (0))) (.int .i64 (0)) ?_
   refine w_nil (xn_then (w_seq (w_reg ?_)))
   refine wl_m (.tmp 0) (.int .u8 (h)) ?_
   refine wl_call 36 [(.const (.string ⟨#[48, 49, 50, 51, 52, 53, 54, 55, 56, 57, 97, 98, 99, 100, 101, 102]⟩)), (.tmp 9)] _ [.string ⟨#[48, 49, 50, 51, 52, 53, 54, 55, 56, 57, 97, 98, 99, 100, 101, 102]⟩, .int .u8 (h)] (.int .i64 ((a : Nat) : Int)) rfl rfl (fun _ _ => by kernel_rfl) (hxd_n h1 _) rfl ?_
   intro w1 hq
   replace M := M.trans hq
   clear hq
   refine wl_m (.tmp 1) (.int .u8 (l)) ?_
   refine wl_call 36 [(.const (.string ⟨#[48, 49, 50, 51, 52, 53, 54, 55, 56, 57, 97, 98, 99, 100, 101, 102]⟩)), (.tmp 11)] _ [.string ⟨#[48, 49, 50, 51, 52, 53, 54, 55, 56, 57, 97, 98, 99, 100, 101, 102]⟩, .int .u8 (l)] (.int .i64 ((b : Nat) : Int)) rfl rfl (fun _ _ => by kernel_rfl) (hxd_n h2 _) rfl ?_
   intro w2 hq
   replace M := M.trans hq
   clear hq
   refine wl_m (.tmp 10) (.int .i64 ((a : Nat) : Int)) ?_
   refine wl_m (.tmp 12) (.int .i64 ((b : Nat) : Int)) ?_
   refine w_nil (xn_then (w_seq (w_seq (w_reg ?_))))
   refine wl_m (.tmp 6) (.int .i64 ((a : Nat) : Int)) ?_
   refine wl_b .lss 3 (.tmp 13) (.const (.int .i64 (0))) (.int .i64 ((a : Nat) : Int)) (.int .i64 (0)) (.bool false) (lt3_run (r := false) (decide_eq_false (by omega)) _ _ _) ?_
   refine wl_m (.tmp 14) (.bool false) ?_
   refine wl_m (.tmp 7) (.int .i64 ((b : Nat) : Int)) ?_
   refine wl_b .lss 3 (.tmp 16) (.const (.int .i64 (0))) (.int .i64 ((b : Nat) : Int)) (.int .i64 (0)) (.bool false) (lt3_run (r := false) (decide_eq_false (by omega)) _ _ _) ?_
   refine wl_pick (.tmp 15) (.const (.bool true)) (.tmp 17) false (.bool false) (fun _ => rfl) rfl rfl rfl ?_
   refine w_nil (xn_then (w_condF rfl (w_skip (xn_then (w_seq (w_reg ?_))))))
   refine wl_m (.tmp 6) (.int .i64 ((a : Nat) : Int)) ?_
   refine wl_b .shl 3 (.tmp 19) (.const (.int .u64 (4))) (.int .i64 ((a : Nat) : Int)) (.int .u64 (4)) (.int .i64 ((16 * a : Nat) : Int)) (shl4 ha _ _ _) ?_
   refine wl_m (.tmp 7) (.int .i64 ((b : Nat) : Int)) ?_
   refine wl_b .or 3 (.tmp 20) (.tmp 21) (.int .i64 ((16 * a : Nat) : Int)) (.int .i64 ((b : Nat) : Int)) (.int .i64 ((16 * a + b : Nat) : Int)) (or16 ha hb _ _ _) ?_
   refine wl_un (fun v => convert 3 5 v) (.tmp 22) (.int .i64 ((16 * a + b : Nat) : Int)) (.int .u8 ((16 * a + b : Nat) : Int)) (fun _ => rfl) rfl (cv35 (by omega) _) rfl ?_
   refine wl_m (.tmp 23) (.int .u8 ((16 * a + b : Nat) : Int)) ?_
   refine w_nil (xn_then (w_seq (w_seq ?_)))
   cases hf0 : prn ((16 * a + b : Nat) : Int) with
   | true =>
    refine w_reg ?_
    refine wl_m (.tmp 8) (.int .u8 ((16 * a + b : Nat) : Int)) ?_
    refine wl_call 43 [(.tmp 24)] _ [.int .u8 ((16 * a + b : Nat) : Int)] (.bool true) rfl rfl (fun _ _ => by kernel_rfl) (prn_c hf0 _) rfl ?_
    intro w3 hq
    replace M := M.trans hq
    clear hq
    refine w_nil (xn_then (w_condT rfl (w_seq (w_reg ?_))))
    refine wl_m (.const (.int .u8 (0))) (.int .u8 (0)) ?_
    refine wl_m (.const (.int .i64 (0))) (.int .i64 (0)) ?_
    refine w_nil (xn_then (w_ret (xr_then ?_)))
    exact w_ret2 _ _ (.int .u8 (0)) (.int .i64 (0)) rfl rfl rfl ⟨by unfold hexB; rw [if_neg (by omega), h1, h2, show (16 * (a : Int) + (b : Int)) = ((16 * a + b : Nat) : Int) by omega, if_pos hf0], M⟩
   | false =>
    refine w_reg ?_
    refine wl_m (.tmp 8) (.int .u8 ((16 * a + b : Nat) : Int)) ?_
    refine wl_call 43 [(.tmp 24)] _ [.int .u8 ((16 * a + b : Nat) : Int)] (.bool false) rfl rfl (fun _ _ => by kernel_rfl) (prn_c hf0 _) rfl ?_
    intro w3 hq
    replace M := M.trans hq
    clear hq
    refine w_nil (xn_then (w_condF rfl (w_skip (xn_then (w_seq (w_reg ?_))))))
    refine wl_m (.tmp 8) (.int .u8 ((16 * a + b : Nat) : Int)) ?_
    refine wl_m (.tmp 26) (.int .u8 ((16 * a + b : Nat) : Int)) ?_
    refine wl_m (.const (.int .i64 (4))) (.int .i64 (4)) ?_
    refine w_nil (xn_then (w_ret ?_))
    exact w_ret2 _ _ (.int .u8 ((16 * a + b : Nat) : Int)) (.int .i64 (4)) rfl rfl rfl ⟨by unfold hexB; rw [if_neg (by omega), h1, h2, show (16 * (a : Int) + (b : Int)) = ((16 * a + b : Nat) : Int) by omega, if_neg (by rw [hf0]; simp)], M⟩
def fb (s : ByteArray) : Int × Int :=
 if (bt s 0 == 92) = false then (if (bt s 0 == 34) = true ∨ prn (bt s 0) = false then (0, 0) else (bt s 0, 1))
 else if s.size < 2 then (0, 0) else if (bt s 1 == 34) = true ∨ (bt s 1 == 92) = true then (bt s 1, 2)
 else if (bt s 1 == 120) = true ∧ 4 ≤ s.size then hexB (bt s 2) (bt s 3) else (0, 0)
theorem geN {a b : Nat} {r : Bool} (h : decide (b ≤ a) = r) (x y : Operand) (w : World) : (do eqGuard .geq 3 x y (.int .i64 (a : Int)) (.int .i64 (b : Int)); binOp .geq 3 (.int .i64 (a : Int)) (.int .i64 (b : Int))).run Tryd.prog w = .ok (.bool r) w := by
 subst h; simp [go_sem]
theorem firstByte_n (s : ByteArray) (w : World) (h0 : 0 < s.size) : Calls Tryd.prog 39 #[.string s] w fun e w' => e = .returned (.tuple #[.int .u8 (fb s).1, .int .i64 (fb s).2]) ∧ Mo w w' := by
 refine w_enter 50 Tryd.func39 Tryd.ntmps39 rfl rfl ?_
 have M : Mo w w := Mo.refl _
 refine w_seq (w_reg ?_)
 refine wl_m (.const (.int .u8 (0))) (.int .u8 (0)) ?_
 refine wl_m (.const (.int .i64 (0))) (.int .i64 (0)) ?_
 refine w_nil (xn_then (w_seq (w_block (w_seq ?_))))
 cases hf0 : (bt s (0) == 92) with
 | true =>
  refine w_reg ?_
  refine wl_m (.tmp 0) (.string s) ?_
  refine wl_bin (fun x y => Instr.index 9 x y) (.tmp 5) (.const (.int .i64 (0))) (.string s) (.int .i64 (0)) (.int .u8 (bt s (0))) (fun _ => rfl) rfl rfl (idx_b (k := 0) (by omega) _) rfl ?_
  refine wl_b .neq 5 (.tmp 6) (.const (.int .u8 (92))) (.int .u8 (bt s (0))) (.int .u8 (92)) (.bool false) (ne5r hf0 _ _ _) ?_
  refine wl_m (.tmp 7) (.bool false) ?_
  refine w_nil (xn_then (w_condF rfl (w_seq ?_)))
  cases hf1 : decide (s.size < 2) with
  | true =>
   have hf1p := of_decide_eq_true hf1
   refine w_reg ?_
   refine wl_m (.tmp 0) (.string s) ?_
   refine wl_val (.int .i64 ((s.size : Nat) : Int)) (len_s _ _ s (by exact rfl) _ _ _ _ _ _) rfl ?_
   refine wl_b .lss 3 (.tmp 21) (.const (.int .i64 (2))) (.int .i64 ((s.size : Nat) : Int)) (.int .i64 (2)) (.bool true) (ltN hf1 _ _ _) ?_
   refine wl_m (.tmp 22) (.bool true) ?_
   refine w_nil (xn_then (w_condT rfl (w_seq (w_reg ?_))))
   refine wl_m (.const (.int .u8 (0))) (.int .u8 (0)) ?_
   refine wl_m (.const (.int .i64 (0))) (.int .i64 (0)) ?_
   refine w_nil (xn_then (w_ret (xr_blk (xr_then ?_))))
   exact w_ret2 _ _ (.int .u8 (0)) (.int .i64 (0)) rfl rfl rfl ⟨by unfold fb; rw [if_neg (by rw [hf0]; simp), if_pos hf1p], M⟩
  | false =>
   have hf1p := of_decide_eq_false hf1
   refine w_reg ?_
   refine wl_m (.tmp 0) (.string s) ?_
   refine wl_val (.int .i64 ((s.size : Nat) : Int)) (len_s _ _ s (by exact rfl) _ _ _ _ _ _) rfl ?_
   refine wl_b .lss 3 (.tmp 21) (.const (.int .i64 (2))) (.int .i64 ((s.size : Nat) : Int)) (.int .i64 (2)) (.bool false) (ltN hf1 _ _ _) ?_
   refine wl_m (.tmp 22) (.bool false) ?_
   refine w_nil (xn_then (w_condF rfl (w_seq ?_)))
   cases hf2 : (bt s (1) == 34) with
   | true =>
    refine w_reg ?_
    refine wl_m (.tmp 0) (.string s) ?_
    refine wl_bin (fun x y => Instr.index 9 x y) (.tmp 24) (.const (.int .i64 (1))) (.string s) (.int .i64 (1)) (.int .u8 (bt s (1))) (fun _ => rfl) rfl rfl (idx_b (k := 1) (by omega) _) rfl ?_
    refine wl_b .eql 5 (.tmp 25) (.const (.int .u8 (34))) (.int .u8 (bt s (1))) (.int .u8 (34)) (.bool true) (eq5r hf2 _ _ _) ?_
    refine wl_m (.tmp 26) (.bool true) ?_
    refine wl_skip rfl (wl_skip rfl (wl_skip rfl ?_))
    refine wl_pick (.tmp 27) (.const (.bool true)) (.tmp 30) true (.bool true) (fun _ => rfl) rfl rfl rfl ?_
    refine wl_m (.tmp 31) (.bool true) ?_
    refine w_nil (xn_then (w_condT rfl (w_seq (w_reg ?_))))
    refine wl_m (.tmp 0) (.string s) ?_
    refine wl_bin (fun x y => Instr.index 9 x y) (.tmp 32) (.const (.int .i64 (1))) (.string s) (.int .i64 (1)) (.int .u8 (bt s (1))) (fun _ => rfl) rfl rfl (idx_b (k := 1) (by omega) _) rfl ?_
    refine wl_m (.tmp 33) (.int .u8 (bt s (1))) ?_
    refine wl_m (.const (.int .i64 (2))) (.int .i64 (2)) ?_
    refine w_nil (xn_then (w_ret (xr_blk (xr_then ?_))))
    exact w_ret2 _ _ (.int .u8 (bt s (1))) (.int .i64 (2)) rfl rfl rfl ⟨by unfold fb; rw [if_neg (by rw [hf0]; simp), if_neg hf1p, if_pos (Or.inl hf2)], M⟩
   | false =>
    cases hf3 : (bt s (1) == 92) with
    | true =>
     refine w_reg ?_
     refine wl_m (.tmp 0) (.string s) ?_
     refine wl_bin (fun x y => Instr.index 9 x y) (.tmp 24) (.const (.int .i64 (1))) (.string s) (.int .i64 (1)) (.int .u8 (bt s (1))) (fun _ => rfl) rfl rfl (idx_b (k := 1) (by omega) _) rfl ?_
     refine wl_b .eql 5 (.tmp 25) (.const (.int .u8 (34))) (.int .u8 (bt s (1))) (.int .u8 (34)) (.bool false) (eq5r hf2 _ _ _) ?_
     refine wl_m (.tmp 26) (.bool false) ?_
     refine wl_m (.tmp 0) (.string s) ?_
     refine wl_bin (fun x y => Instr.index 9 x y) (.tmp 28) (.const (.int .i64 (1))) (.string s) (.int .i64 (1)) (.int .u8 (bt s (1))) (fun _ => rfl) rfl rfl (idx_b (k := 1) (by omega) _) rfl ?_
     refine wl_b .eql 5 (.tmp 29) (.const (.int .u8 (92))) (.int .u8 (bt s (1))) (.int .u8 (92)) (.bool true) (eq5r hf3 _ _ _) ?_
     refine wl_pick (.tmp 27) (.const (.bool true)) (.tmp 30) false (.bool true) (fun _ => rfl) rfl rfl rfl ?_
     refine wl_m (.tmp 31) (.bool true) ?_
     refine w_nil (xn_then (w_condT rfl (w_seq (w_reg ?_))))
     refine wl_m (.tmp 0) (.string s) ?_
     refine wl_bin (fun x y => Instr.index 9 x y) (.tmp 32) (.const (.int .i64 (1))) (.string s) (.int .i64 (1)) (.int .u8 (bt s (1))) (fun _ => rfl) rfl rfl (idx_b (k := 1) (by omega) _) rfl ?_
     refine wl_m (.tmp 33) (.int .u8 (bt s (1))) ?_
     refine wl_m (.const (.int .i64 (2))) (.int .i64 (2)) ?_
     refine w_nil (xn_then (w_ret (xr_blk (xr_then ?_))))
     exact w_ret2 _ _ (.int .u8 (bt s (1))) (.int .i64 (2)) rfl rfl rfl ⟨by unfold fb; rw [if_neg (by rw [hf0]; simp), if_neg hf1p, if_pos (Or.inr hf3)], M⟩
    | false =>
     refine w_reg ?_
     refine wl_m (.tmp 0) (.string s) ?_
     refine wl_bin (fun x y => Instr.index 9 x y) (.tmp 24) (.const (.int .i64 (1))) (.string s) (.int .i64 (1)) (.int .u8 (bt s (1))) (fun _ => rfl) rfl rfl (idx_b (k := 1) (by omega) _) rfl ?_
     refine wl_b .eql 5 (.tmp 25) (.const (.int .u8 (34))) (.int .u8 (bt s (1))) (.int .u8 (34)) (.bool false) (eq5r hf2 _ _ _) ?_
     refine wl_m (.tmp 26) (.bool false) ?_
     refine wl_m (.tmp 0) (.string s) ?_
     refine wl_bin (fun x y => Instr.index 9 x y) (.tmp 28) (.const (.int .i64 (1))) (.string s) (.int .i64 (1)) (.int .u8 (bt s (1))) (fun _ => rfl) rfl rfl (idx_b (k := 1) (by omega) _) rfl ?_
     refine wl_b .eql 5 (.tmp 29) (.const (.int .u8 (92))) (.int .u8 (bt s (1))) (.int .u8 (92)) (.bool false) (eq5r hf3 _ _ _) ?_
     refine wl_pick (.tmp 27) (.const (.bool true)) (.tmp 30) false (.bool false) (fun _ => rfl) rfl rfl rfl ?_
     refine wl_m (.tmp 31) (.bool false) ?_
     refine w_nil (xn_then (w_condF rfl (w_seq ?_)))
     cases hf4 : (bt s (1) == 120) with
     | true =>
      cases hf5 : decide (4 ≤ s.size) with
      | true =>
       have hf5p := of_decide_eq_true hf5
       refine w_reg ?_
       refine wl_m (.tmp 0) (.string s) ?_
       refine wl_bin (fun x y => Instr.index 9 x y) (.tmp 35) (.const (.int .i64 (1))) (.string s) (.int .i64 (1)) (.int .u8 (bt s (1))) (fun _ => rfl) rfl rfl (idx_b (k := 1) (by omega) _) rfl ?_
       refine wl_b .eql 5 (.tmp 36) (.const (.int .u8 (120))) (.int .u8 (bt s (1))) (.int .u8 (120)) (.bool true) (eq5r hf4 _ _ _) ?_
       refine wl_m (.tmp 37) (.bool true) ?_
       refine wl_m (.tmp 0) (.string s) ?_
       refine wl_val (.int .i64 ((s.size : Nat) : Int)) (len_s _ _ s (by exact rfl) _ _ _ _ _ _) rfl ?_
       refine wl_b .geq 3 (.tmp 40) (.const (.int .i64 (4))) (.int .i64 ((s.size : Nat) : Int)) (.int .i64 (4)) (.bool true) (geN hf5 _ _ _) ?_
       refine wl_pick (.tmp 38) (.tmp 41) (.const (.bool false)) true (.bool true) (fun _ => rfl) rfl rfl rfl ?_
       refine wl_m (.tmp 42) (.bool true) ?_
       refine w_nil (xn_then (w_condT rfl (w_seq ?_)))
       refine w_any 7 [.inl (.string s), .inl (.int .u8 (bt s (2))), .inl (.string s), .inl (.int .u8 (bt s (3))), .inl (.tuple #[.int .u8 ((hexB (bt s (2)) (bt s (3))).1), .int .i64 ((hexB (bt s (2)) (bt s (3))).2)]), .inl (.int .u8 ((hexB (bt s (2)) (bt s (3))).1)), .inl (.int .i64 ((hexB (bt s (2)) (bt s (3))).2))] [] (by kernel_rfl) (by kernel_rfl) (by kernel_rfl) (by kernel_rfl) rfl (by kernel_rfl) (by kernel_rfl) late_nil ?_ ?_ ?_
       ·exact Ds.none rfl
       ·refine ea_cons ?_ (ea_cons ?_ (ea_cons ?_ (ea_cons ?_ (ea_cons ?_ (ea_cons ?_ (ea_cons ?_ (ea_nil)))))))
        ·exact og_eq _ rfl (fun f wf hq hd K hK => go_run rfl (wo_mv (.tmp 0) (.string s) (fun _ => rfl) rfl (hK _ (Mo.refl _))))
        ·exact og_eq _ rfl (fun f wf hq hd K hK => go_run rfl (wo_bin (fun x y => Instr.index 9 x y) (.tmp 43) (.const (.int .i64 (2))) (.string s) (.int .i64 (2)) (.int .u8 (bt s (2))) (fun _ => rfl) (hd 0 rfl) rfl (idx_b (k := 2) (by omega) _) (hK _ (Mo.refl _))))
        ·exact og_eq _ rfl (fun f wf hq hd K hK => go_run rfl (wo_mv (.tmp 0) (.string s) (fun _ => rfl) rfl (hK _ (Mo.refl _))))
        ·exact og_eq _ rfl (fun f wf hq hd K hK => go_run rfl (wo_bin (fun x y => Instr.index 9 x y) (.tmp 45) (.const (.int .i64 (3))) (.string s) (.int .i64 (3)) (.int .u8 (bt s (3))) (fun _ => rfl) (hd 2 rfl) rfl (idx_b (k := 3) (by omega) _) (hK _ (Mo.refl _))))
        ·exact og_eq _ rfl (fun f wf hq hd K hK => go_run rfl (wo_call 53 [(.tmp 44), (.tmp 46)] _ [.int .u8 (bt s (2)), .int .u8 (bt s (3))] (.tuple #[.int .u8 ((hexB (bt s (2)) (bt s (3))).1), .int .i64 ((hexB (bt s (2)) (bt s (3))).2)]) rfl (li2 (hd 1 rfl) (hd 3 rfl)) (fun _ _ => by kernel_rfl) (hexByte_n (bt s (2)) (bt s (3)) _) hK))
        ·exact og_eq _ rfl (fun f wf hq hd K hK => go_run rfl (wo_un (fun v => Instr.extract v 0) (.tmp 47) (.tuple #[.int .u8 ((hexB (bt s (2)) (bt s (3))).1), .int .i64 ((hexB (bt s (2)) (bt s (3))).2)]) (.int .u8 ((hexB (bt s (2)) (bt s (3))).1)) (fun _ => rfl) (hd 4 rfl) (by kernel_rfl) (hK _ (Mo.refl _))))
        ·exact og_eq _ rfl (fun f wf hq hd K hK => go_run rfl (wo_un (fun v => Instr.extract v 1) (.tmp 47) (.tuple #[.int .u8 ((hexB (bt s (2)) (bt s (3))).1), .int .i64 ((hexB (bt s (2)) (bt s (3))).2)]) (.int .i64 ((hexB (bt s (2)) (bt s (3))).2)) (fun _ => rfl) (hd 4 rfl) (by kernel_rfl) (hK _ (Mo.refl _))))
       intro kf1 w1 hq hR hne
       replace M := M.trans hq
       clear hq hR hne
       refine wl_m (.tmp 48) (.int .u8 ((hexB (bt s (2)) (bt s (3))).1)) ?_
       refine wl_m (.tmp 49) (.int .i64 ((hexB (bt s (2)) (bt s (3))).2)) ?_
       refine w_nil (xn_then (w_ret (xr_blk (xr_then ?_))))
       exact w_ret2 _ _ (.int .u8 ((hexB (bt s (2)) (bt s (3))).1)) (.int .i64 ((hexB (bt s (2)) (bt s (3))).2)) rfl rfl rfl ⟨by unfold fb; rw [if_neg (by rw [hf0]; simp), if_neg hf1p, if_neg (fun e => by rcases e with e | e; (rw [hf2] at e; cases e); (rw [hf3] at e; cases e)), if_pos ⟨hf4, hf5p⟩], M⟩
      | false =>
       have hf5p := of_decide_eq_false hf5
       refine w_reg ?_
       refine wl_m (.tmp 0) (.string s) ?_
       refine wl_bin (fun x y => Instr.index 9 x y) (.tmp 35) (.const (.int .i64 (1))) (.string s) (.int .i64 (1)) (.int .u8 (bt s (1))) (fun _ => rfl) rfl rfl (idx_b (k := 1) (by omega) _) rfl ?_
       refine wl_b .eql 5 (.tmp 36) (.const (.int .u8 (120))) (.int .u8 (bt s (1))) (.int .u8 (120)) (.bool true) (eq5r hf4 _ _ _) ?_
       refine wl_m (.tmp 37) (.bool true) ?_
       refine wl_m (.tmp 0) (.string s) ?_
       refine wl_val (.int .i64 ((s.size : Nat) : Int)) (len_s _ _ s (by exact rfl) _ _ _ _ _ _) rfl ?_
       refine wl_b .geq 3 (.tmp 40) (.const (.int .i64 (4))) (.int .i64 ((s.size : Nat) : Int)) (.int .i64 (4)) (.bool false) (geN hf5 _ _ _) ?_
       refine wl_pick (.tmp 38) (.tmp 41) (.const (.bool false)) true (.bool false) (fun _ => rfl) rfl rfl rfl ?_
       refine wl_m (.tmp 42) (.bool false) ?_
       refine w_nil (xn_then (w_condF rfl (w_skip (xn_blk (xn_then (w_seq (w_reg ?_)))))))
       refine wl_m (.const (.int .u8 (0))) (.int .u8 (0)) ?_
       refine wl_m (.const (.int .i64 (0))) (.int .i64 (0)) ?_
       refine w_nil (xn_then (w_ret ?_))
       exact w_ret2 _ _ (.int .u8 (0)) (.int .i64 (0)) rfl rfl rfl ⟨by unfold fb; rw [if_neg (by rw [hf0]; simp), if_neg hf1p, if_neg (fun e => by rcases e with e | e; (rw [hf2] at e; cases e); (rw [hf3] at e; cases e)), if_neg (fun e => hf5p e.2)], M⟩
     | false =>
      refine w_reg ?_
      refine wl_m (.tmp 0) (.string s) ?_
      refine wl_bin (fun x y => Instr.index 9 x y) (.tmp 35) (.const (.int .i64 (1))) (.string s) (.int .i64 (1)) (.int .u8 (bt s (1))) (fun _ => rfl) rfl rfl (idx_b (k := 1) (by omega) _) rfl ?_
      refine wl_b .eql 5 (.tmp 36) (.const (.int .u8 (120))) (.int .u8 (bt s (1))) (.int .u8 (120)) (.bool false) (eq5r hf4 _ _ _) ?_
      refine wl_m (.tmp 37) (.bool false) ?_
      refine wl_skip rfl (wl_skip rfl (wl_skip rfl ?_))
      refine wl_pick (.tmp 38) (.tmp 41) (.const (.bool false)) false (.bool false) (fun _ => rfl) rfl rfl rfl ?_
      refine wl_m (.tmp 42) (.bool false) ?_
      refine w_nil (xn_then (w_condF rfl (w_skip (xn_blk (xn_then (w_seq (w_reg ?_)))))))
      refine wl_m (.const (.int .u8 (0))) (.int .u8 (0)) ?_
      refine wl_m (.const (.int .i64 (0))) (.int .i64 (0)) ?_
      refine w_nil (xn_then (w_ret ?_))
      exact w_ret2 _ _ (.int .u8 (0)) (.int .i64 (0)) rfl rfl rfl ⟨by unfold fb; rw [if_neg (by rw [hf0]; simp), if_neg hf1p, if_neg (fun e => by rcases e with e | e; (rw [hf2] at e; cases e); (rw [hf3] at e; cases e)), if_neg (fun e => by rw [hf4] at e; cases e.1)], M⟩
 | false =>
  refine w_reg ?_
  refine wl_m (.tmp 0) (.string s) ?_
  refine wl_bin (fun x y => Instr.index 9 x y) (.tmp 5) (.const (.int .i64 (0))) (.string s) (.int .i64 (0)) (.int .u8 (bt s (0))) (fun _ => rfl) rfl rfl (idx_b (k := 0) (by omega) _) rfl ?_
  refine wl_b .neq 5 (.tmp 6) (.const (.int .u8 (92))) (.int .u8 (bt s (0))) (.int .u8 (92)) (.bool true) (ne5r hf0 _ _ _) ?_
  refine wl_m (.tmp 7) (.bool true) ?_
  refine w_nil (xn_then (w_condT rfl (w_seq (w_seq ?_))))
  cases hf1 : (bt s (0) == 34) with
  | true =>
   refine w_reg ?_
   refine wl_m (.tmp 0) (.string s) ?_
   refine wl_bin (fun x y => Instr.index 9 x y) (.tmp 8) (.const (.int .i64 (0))) (.string s) (.int .i64 (0)) (.int .u8 (bt s (0))) (fun _ => rfl) rfl rfl (idx_b (k := 0) (by omega) _) rfl ?_
   refine wl_b .eql 5 (.tmp 9) (.const (.int .u8 (34))) (.int .u8 (bt s (0))) (.int .u8 (34)) (.bool true) (eq5r hf1 _ _ _) ?_
   refine wl_m (.tmp 10) (.bool true) ?_
   refine wl_skip rfl (wl_skip rfl (wl_skip rfl (wl_skip rfl ?_)))
   refine wl_pick (.tmp 11) (.const (.bool true)) (.tmp 15) true (.bool true) (fun _ => rfl) rfl rfl rfl ?_
   refine w_nil (xn_then (w_condT rfl (w_seq (w_reg ?_))))
   refine wl_m (.const (.int .u8 (0))) (.int .u8 (0)) ?_
   refine wl_m (.const (.int .i64 (0))) (.int .i64 (0)) ?_
   refine w_nil (xn_then (w_ret (xr_then (xr_blk (xr_then ?_)))))
   exact w_ret2 _ _ (.int .u8 (0)) (.int .i64 (0)) rfl rfl rfl ⟨by unfold fb; rw [if_pos hf0, if_pos (Or.inl hf1)], M⟩
  | false =>
   cases hf2 : prn (bt s (0)) with
   | true =>
    refine w_reg ?_
    refine wl_m (.tmp 0) (.string s) ?_
    refine wl_bin (fun x y => Instr.index 9 x y) (.tmp 8) (.const (.int .i64 (0))) (.string s) (.int .i64 (0)) (.int .u8 (bt s (0))) (fun _ => rfl) rfl rfl (idx_b (k := 0) (by omega) _) rfl ?_
    refine wl_b .eql 5 (.tmp 9) (.const (.int .u8 (34))) (.int .u8 (bt s (0))) (.int .u8 (34)) (.bool false) (eq5r hf1 _ _ _) ?_
    refine wl_m (.tmp 10) (.bool false) ?_
    refine wl_m (.tmp 0) (.string s) ?_
    refine wl_bin (fun x y => Instr.index 9 x y) (.tmp 12) (.const (.int .i64 (0))) (.string s) (.int .i64 (0)) (.int .u8 (bt s (0))) (fun _ => rfl) rfl rfl (idx_b (k := 0) (by omega) _) rfl ?_
    refine wl_call 43 [(.tmp 13)] _ [.int .u8 (bt s (0))] (.bool true) rfl rfl (fun _ _ => by kernel_rfl) (prn_c hf2 _) rfl ?_
    intro w1 hq
    replace M := M.trans hq
    clear hq
    refine wl_un (fun v => Op.unary .not v) (.tmp 14) (.bool true) (.bool false) (fun _ => rfl) rfl (by kernel_rfl) rfl ?_
    refine wl_pick (.tmp 11) (.const (.bool true)) (.tmp 15) false (.bool false) (fun _ => rfl) rfl rfl rfl ?_
    refine w_nil (xn_then (w_condF rfl (w_skip (xn_then (w_seq (w_reg ?_))))))
    refine wl_m (.tmp 0) (.string s) ?_
    refine wl_bin (fun x y => Instr.index 9 x y) (.tmp 17) (.const (.int .i64 (0))) (.string s) (.int .i64 (0)) (.int .u8 (bt s (0))) (fun _ => rfl) rfl rfl (idx_b (k := 0) (by omega) _) rfl ?_
    refine wl_m (.tmp 18) (.int .u8 (bt s (0))) ?_
    refine wl_m (.const (.int .i64 (1))) (.int .i64 (1)) ?_
    refine w_nil (xn_then (w_ret (xr_blk (xr_then ?_))))
    exact w_ret2 _ _ (.int .u8 (bt s (0))) (.int .i64 (1)) rfl rfl rfl ⟨by unfold fb; rw [if_pos hf0, if_neg (fun e => by rcases e with e | e; (rw [hf1] at e; cases e); (rw [hf2] at e; cases e))], M⟩
   | false =>
    refine w_reg ?_
    refine wl_m (.tmp 0) (.string s) ?_
    refine wl_bin (fun x y => Instr.index 9 x y) (.tmp 8) (.const (.int .i64 (0))) (.string s) (.int .i64 (0)) (.int .u8 (bt s (0))) (fun _ => rfl) rfl rfl (idx_b (k := 0) (by omega) _) rfl ?_
    refine wl_b .eql 5 (.tmp 9) (.const (.int .u8 (34))) (.int .u8 (bt s (0))) (.int .u8 (34)) (.bool false) (eq5r hf1 _ _ _) ?_
    refine wl_m (.tmp 10) (.bool false) ?_
    refine wl_m (.tmp 0) (.string s) ?_
    refine wl_bin (fun x y => Instr.index 9 x y) (.tmp 12) (.const (.int .i64 (0))) (.string s) (.int .i64 (0)) (.int .u8 (bt s (0))) (fun _ => rfl) rfl rfl (idx_b (k := 0) (by omega) _) rfl ?_
    refine wl_call 43 [(.tmp 13)] _ [.int .u8 (bt s (0))] (.bool false) rfl rfl (fun _ _ => by kernel_rfl) (prn_c hf2 _) rfl ?_
    intro w1 hq
    replace M := M.trans hq
    clear hq
    refine wl_un (fun v => Op.unary .not v) (.tmp 14) (.bool false) (.bool true) (fun _ => rfl) rfl (by kernel_rfl) rfl ?_
    refine wl_pick (.tmp 11) (.const (.bool true)) (.tmp 15) false (.bool true) (fun _ => rfl) rfl rfl rfl ?_
    refine w_nil (xn_then (w_condT rfl (w_seq (w_reg ?_))))
    refine wl_m (.const (.int .u8 (0))) (.int .u8 (0)) ?_
    refine wl_m (.const (.int .i64 (0))) (.int .i64 (0)) ?_
    refine w_nil (xn_then (w_ret (xr_then (xr_blk (xr_then ?_)))))
    exact w_ret2 _ _ (.int .u8 (0)) (.int .i64 (0)) rfl rfl rfl ⟨by unfold fb; rw [if_pos hf0, if_pos (Or.inr hf2)], M⟩
end Go.Proofs.YthgknegocfhdbaaDoor
/-
 A decimal text and its parts.
-/
namespace Go.Proofs.YthgknegocfhdbaaDoor
open Go.RowKit
def sg8 (b : Bool) : List UInt8 := if b then [45] else []
def tn (o : Option UInt8) : Int := match o with | none => 0 | some x => (x.toNat : Int)
theorem bt_tn (s : ByteArray) (k : Nat) : bt s k = tn ((by8 s)[k]?) := by
 by_cases h : k < s.size
 ·rw [bt_in h]
  have h2 : k < (by8 s).length := by rw [by8_len]; exact h
  rw [List.getElem?_eq_getElem h2]
  rfl
 ·rw [bt_out h]
  have h2 : ¬ k < (by8 s).length := by rw [by8_len]; exact h
  rw [List.getElem?_eq_none (by omega)]
  rfl
structure Df (l : List UInt8) (b : Bool) (A B : List UInt8) : Prop where
 eq : l = sg8 b ++ (A ++ (if B = [] then [] else 46 :: B))
 ne : A ≠ []
 ad : ∀ x ∈ A, isD x = true
 bd : ∀ x ∈ B, isD x = true
 ld : A.length = 1 ∨ A.head? ≠ some 48
 some : b = true → ∃ x ∈ A ++ B, x ≠ 48
theorem run_dig {s : ByteArray} {k n : Nat} (hn : k + n ≤ re s k) {x : UInt8} (hx : x ∈ ((by8 s).drop k).take n) : isD x = true := by
 obtain ⟨j, hj, rfl⟩ := List.getElem_of_mem hx
 have h1 : j < n := by simp at hj; omega
 have h2 := re_in (s := s) (k := k) (j := k + j) (by omega) (by omega)
 rw [bt_tn] at h2
 have h3 : k + j < (by8 s).length := by simp at hj ⊢; omega
 rw [List.getElem?_eq_getElem h3] at h2
 have e : (((by8 s).drop k).take n)[j] = (by8 s)[k + j] := by simp
 rw [e]; exact h2
theorem drop_run (l : List UInt8) (k e : Nat) (h : k ≤ e) : l.drop k = (l.drop k).take (e - k) ++ l.drop e := by
 conv => lhs; rw [← List.take_append_drop (e - k) (l.drop k)]
 rw [List.drop_drop, show k + (e - k) = e by omega]
theorem tn48 {o : Option UInt8} (h : tn o ≠ 48) : o ≠ some 48 := fun e => h (by rw [e]; rfl)
theorem nz_of {s : ByteArray} {k : Nat} (hk : k ≤ s.size) (h : az s k = false) : ∃ x ∈ ((by8 s).drop k).take (re s k - k), x ≠ 48 := by
 have h1 : ¬ ∀ j, k ≤ j → j < re s k → bt s j = 48 := fun h2 => by rw [az_iff.2 h2] at h; cases h
 simp only [Classical.not_forall] at h1
 obtain ⟨j, h2, h3, h4⟩ := h1
 have h5 := re_le hk
 have h6 : j < (by8 s).length := by rw [by8_len]; omega
 rw [bt_tn, List.getElem?_eq_getElem h6] at h4
 refine ⟨(by8 s)[j], ?_, fun e => h4 (by rw [e]; rfl)⟩
 rw [List.mem_iff_getElem]
 exact ⟨j - k, by simp; rw [← by8_len] at h5; simp at h5 h6; omega, by simp only [List.getElem_take, List.getElem_drop]; congr 1; omega⟩
theorem df_of {s : ByteArray} {p : Nat} {b : Bool} (hp : p ≤ s.size) (hsg : by8 s = sg8 b ++ (by8 s).drop p) (h : whp s p b = true) : ∃ A B, Df (by8 s) b A B ∧ (by8 s).drop p = A ++ (if B = [] then [] else 46 :: B) := by
 unfold whp at h
 simp only [Bool.and_eq_true, decide_eq_true_iff, Bool.not_eq_true'] at h
 obtain ⟨⟨h1, h2⟩, h3⟩ := h
 have hge := re_ge s p
 have hle := re_le hp
 have hl := by8_len s
 have hA : ((by8 s).drop p).take (re s p - p) ≠ [] := fun e => by
  have := congrArg List.length e; simp only [List.length_take, List.length_drop, List.length_nil, hl] at this; omega
 have had : ∀ x ∈ ((by8 s).drop p).take (re s p - p), isD x = true := fun x hx => run_dig (by omega) hx
 have hld : (((by8 s).drop p).take (re s p - p)).length = 1 ∨ (((by8 s).drop p).take (re s p - p)).head? ≠ some 48 := by
  by_cases h48 : bt s p = 48
  ·left
   rw [h48] at h2; simp at h2
   simp only [List.length_take, List.length_drop, hl]; omega
  ·right
   rw [bt_tn] at h48
   rw [List.head?_eq_getElem?, List.getElem?_take_of_lt (by omega), List.getElem?_drop]
   exact tn48 h48
 by_cases he : re s p < s.size
 ·rw [if_pos he] at h3
  simp only [Bool.and_eq_true, decide_eq_true_iff, beq_iff_eq, Bool.or_eq_true, Bool.not_eq_true'] at h3
  obtain ⟨⟨⟨h4, h5⟩, h6⟩, h7⟩ := h3
  have hlt : re s p < (by8 s).length := by omega
  have e1 : (by8 s).drop (re s p) = 46 :: (by8 s).drop (re s p + 1) := by
   rw [List.drop_eq_getElem_cons hlt]
   rw [bt_tn, List.getElem?_eq_getElem hlt] at h4
   congr 1
   have h8 : (((by8 s)[re s p]).toNat : Int) = 46 := h4
   apply UInt8.toNat_inj.1
   have : (46 : UInt8).toNat = 46 := rfl
   omega
  have hB : (by8 s).drop (re s p + 1) ≠ [] := fun e => by
   have := congrArg List.length e; simp only [List.length_drop, List.length_nil, hl] at this; omega
  have hBt : ((by8 s).drop (re s p + 1)).take (re s (re s p + 1) - (re s p + 1)) = (by8 s).drop (re s p + 1) := by
   rw [List.take_of_length_le]; simp only [List.length_drop, hl]; omega
  have e2 : (by8 s).drop p = ((by8 s).drop p).take (re s p - p) ++ (if (by8 s).drop (re s p + 1) = [] then [] else 46 :: (by8 s).drop (re s p + 1)) := by
   rw [if_neg hB, ← e1]; exact drop_run _ _ _ hge
  refine ⟨_, (by8 s).drop (re s p + 1), ⟨?_, hA, had, fun x hx => ?_, hld, fun hb => ?_⟩, e2⟩
  ·exact hsg.trans (congrArg (sg8 b ++ ·) e2)
  ·rw [← hBt] at hx; exact run_dig (by omega) hx
  ·rcases h7 with (h7 | h7) | h7
   ·obtain ⟨x, hx, hn⟩ := nz_of hp h7
    exact ⟨x, List.mem_append_left _ hx, hn⟩
   ·obtain ⟨x, hx, hn⟩ := nz_of (by omega) h7
    rw [hBt] at hx
    exact ⟨x, List.mem_append_right _ hx, hn⟩
   ·rw [hb] at h7; cases h7
 ·rw [if_neg he] at h3
  have e2 : (by8 s).drop p = ((by8 s).drop p).take (re s p - p) ++ (if ([] : List UInt8) = [] then [] else 46 :: []) := by
   rw [if_pos rfl, List.append_nil, List.take_of_length_le]; simp only [List.length_drop, hl]; omega
  refine ⟨_, [], ⟨?_, hA, had, fun x hx => (by cases hx), hld, fun hb => ?_⟩, e2⟩
  ·exact hsg.trans (congrArg (sg8 b ++ ·) e2)
  ·rw [hb] at h3
   simp only [Bool.or_eq_true, Bool.not_eq_true', Bool.not_true, Bool.false_eq_true, or_false] at h3
   obtain ⟨x, hx, hn⟩ := nz_of hp h3
   exact ⟨x, List.mem_append_left _ hx, hn⟩
theorem df_dec {s : ByteArray} (h : isDec s = true) : ∃ b A B, Df (by8 s) b A B := by
 rw [← whl_dec] at h
 unfold whl at h
 cases hb : (bt s 0 == 45) with
 | true =>
  rw [hb, if_pos rfl] at h
  have hin := eq_in (by decide) hb
  have h45 : by8 s = sg8 true ++ (by8 s).drop 1 := by
   have h0 : 0 < (by8 s).length := by rw [by8_len]; exact hin
   rw [bt_tn, List.getElem?_eq_getElem h0] at hb
   have h8 : (((by8 s)[0]).toNat : Int) = 45 := eq_of_beq hb
   have e : (by8 s)[0] = 45 := by
    apply UInt8.toNat_inj.1
    have : (45 : UInt8).toNat = 45 := rfl
    omega
   have e2 := List.drop_eq_getElem_cons h0
   rw [e] at e2
   exact e2
  obtain ⟨A, B, h1, _⟩ := df_of (by omega) h45 h
  exact ⟨true, A, B, h1⟩
 | false =>
  rw [hb, if_neg (by simp)] at h
  obtain ⟨A, B, h1, _⟩ := df_of (b := false) (by omega) rfl h
  exact ⟨false, A, B, h1⟩
theorem tn_in {x : UInt8} (h : isD x = true) : dgt (tn (some x)) = true := h
theorem dec_df {s : ByteArray} {b : Bool} {A B : List UInt8} (h : Df (by8 s) b A B) : isDec s = true := by
 have hl := by8_len s
 obtain ⟨heq, hne, had, hbd, hld, hsome⟩ := h
 have hApos : 0 < A.length := List.length_pos_iff.2 hne
 -- the letters
 have hA : ∀ (p : Nat) (S : List UInt8), by8 s = S ++ (A ++ (if B = [] then [] else 46 :: B)) → p = S.length →
   whp s p b = true := fun p S e hp => by
  have hgA : ∀ j, (hj : j < A.length) → bt s (p + j) = tn (some A[j]) := fun j hj => by
   rw [bt_tn, e, List.getElem?_append_right (by omega), hp, Nat.add_sub_cancel_left, List.getElem?_append_left hj, List.getElem?_eq_getElem hj]
  have hsz : s.size = p + A.length + (if B = [] then 0 else B.length + 1) := by
   rw [← hl, e]; simp only [List.length_append, hp]; split <;> simp <;> omega
  have hend : dgt (bt s (p + A.length)) = false := by
   rw [bt_tn, e, List.getElem?_append_right (by omega), hp, Nat.add_sub_cancel_left, List.getElem?_append_right (Nat.le_refl _), Nat.sub_self]
   split <;> rfl
  have hre : re s p = p + A.length := re_eq (by omega) (fun j h1 h2 => by
   have := hgA (j - p) (by omega)
   rw [show p + (j - p) = j by omega] at this
   rw [this]; exact tn_in (had _ (List.getElem_mem _))) hend
  have haz : az s p = true → ∀ x ∈ A, x = 48 := fun h x hx => by
   obtain ⟨j, hj, rfl⟩ := List.getElem_of_mem hx
   have h1 := az_iff.1 h (p + j) (by omega) (by omega)
   rw [hgA j hj] at h1
   apply UInt8.toNat_inj.1
   have e48 : (48 : UInt8).toNat = 48 := rfl
   have h1' : ((A[j]).toNat : Int) = 48 := h1
   omega
  unfold whp
  rw [hre]
  have h48 : ((bt s p == 48) && decide (p + A.length > p + 1)) = false := by
   rcases hld with hl1 | hl1
   ·rw [hl1]; simp
   ·have : (bt s p == 48) = false := beq_eq_false_iff_ne.2 fun e2 => hl1 (by
     have h0 := hgA 0 hApos
     rw [Nat.add_zero, e2] at h0
     rw [List.head?_eq_getElem?, List.getElem?_eq_getElem hApos]
     congr 1
     apply UInt8.toNat_inj.1
     have e48 : (48 : UInt8).toNat = 48 := rfl
     have h1' : (48 : Int) = ((A[0]).toNat : Int) := h0
     omega)
    rw [this]; rfl
  rw [h48]
  have hne2 : decide (p + A.length ≠ p) = true := decide_eq_true (by omega)
  rw [hne2]
  by_cases hB : B = []
  ·rw [if_pos hB] at hsz
   rw [if_neg (by omega)]
   cases hb : b with
   | false => simp
   | true =>
    obtain ⟨x, hx, hn⟩ := hsome hb
    rw [hB, List.append_nil] at hx
    cases ha : az s p with
    | false => simp
    | true => exact absurd (haz ha x hx) hn
  ·rw [if_neg hB] at hsz
   have hBpos : 0 < B.length := List.length_pos_iff.2 hB
   rw [if_pos (by omega)]
   have hgB : ∀ j, (hj : j < B.length) → bt s (p + A.length + 1 + j) = tn (some B[j]) := fun j hj => by
    rw [bt_tn, e, List.getElem?_append_right (by omega), hp, show S.length + A.length + 1 + j - S.length = A.length + (1 + j) by omega, List.getElem?_append_right (by omega), Nat.add_sub_cancel_left, if_neg hB, Nat.add_comm 1 j, List.getElem?_cons_succ, List.getElem?_eq_getElem hj]
   have h46 : (bt s (p + A.length) == 46) = true := by
    rw [bt_tn, e, List.getElem?_append_right (by omega), hp, Nat.add_sub_cancel_left, List.getElem?_append_right (Nat.le_refl _), Nat.sub_self, if_neg hB]
    rfl
   have hre2 : re s (p + A.length + 1) = s.size := re_eq (by omega) (fun j h1 h2 => by
    have := hgB (j - (p + A.length + 1)) (by omega)
    rw [show p + A.length + 1 + (j - (p + A.length + 1)) = j by omega] at this
    rw [this]; exact tn_in (hbd _ (List.getElem_mem _))) (by rw [bt_out (by omega)]; rfl)
   have haz2 : az s (p + A.length + 1) = true → ∀ x ∈ B, x = 48 := fun h x hx => by
    obtain ⟨j, hj, rfl⟩ := List.getElem_of_mem hx
    have h1 := az_iff.1 h (p + A.length + 1 + j) (by omega) (by omega)
    rw [hgB j hj] at h1
    apply UInt8.toNat_inj.1
    have e48 : (48 : UInt8).toNat = 48 := rfl
    have h1' : ((B[j]).toNat : Int) = 48 := h1
    omega
   rw [h46, hre2, decide_eq_true (show p + A.length + 1 ≠ s.size by omega)]
   cases hb : b with
   | false => simp
   | true =>
    obtain ⟨x, hx, hn⟩ := hsome hb
    cases ha : az s p with
    | false => simp
    | true =>
     cases ha2 : az s (p + A.length + 1) with
     | false => simp
     | true =>
      rcases List.mem_append.1 hx with hx | hx
      ·exact absurd (haz ha x hx) hn
      ·exact absurd (haz2 ha2 x hx) hn
 have h0 : ∀ x y : UInt8, x = y → True := fun _ _ _ => trivial
 rw [← whl_dec]
 unfold whl
 cases hb : b with
 | true =>
  rw [hb] at heq hA
  have : (bt s 0 == 45) = true := by rw [bt_tn, heq]; rfl
  rw [this, if_pos rfl]
  exact hA 1 _ heq rfl
 | false =>
  rw [hb] at heq hA
  have : (bt s 0 == 45) = false := by
   rw [bt_tn, heq]
   cases A with
   | nil => exact absurd rfl hne
   | cons a r =>
    have h1 := had a (by simp)
    refine beq_eq_false_iff_ne.2 fun e => ?_
    have e2 : (a.toNat : Int) = 45 := e
    unfold isD at h1
    rw [e2] at h1
    cases h1
  rw [this, if_neg (by simp)]
  exact hA 0 _ heq rfl
end Go.Proofs.YthgknegocfhdbaaDoor

/-
 The longest beginning that is a decimal text: it is one, and no longer one is.
-/
namespace Go.Proofs.YthgknegocfhdbaaDoor
open Go.RowKit
theorem bt_pre {s t : ByteArray} {i : Nat} (h : by8 t = (by8 s).take i) (k : Nat) : bt t k = if k < i then bt s k else 0 := by
 rw [bt_tn, bt_tn, h]
 by_cases hk : k < i
 ·rw [List.getElem?_take_of_lt hk, if_pos hk]
 ·rw [List.getElem?_take, if_neg hk, if_neg hk]; rfl
theorem sz_pre {s t : ByteArray} {i : Nat} (h : by8 t = (by8 s).take i) (hi : i ≤ s.size) : t.size = i := by
 rw [← by8_len, h, List.length_take, by8_len]; omega
theorem re_pre {s t : ByteArray} {i k : Nat} (h : by8 t = (by8 s).take i) (hk : k ≤ i) : re t k = min (re s k) i := by
 have hge := re_ge s k
 refine re_eq (by omega) (fun j h1 h2 => ?_) ?_
 ·rw [bt_pre h, if_pos (by omega)]; exact re_in h1 (by omega)
 ·rw [bt_pre h]
  split
  ·rw [show min (re s k) i = re s k by omega]; exact re_stop s k
  ·rfl
theorem az_pre {s t : ByteArray} {i k : Nat} (h : by8 t = (by8 s).take i) (hk : k ≤ i) (ha : az s k = true) : az t k = true := by
 rw [az_iff] at ha ⊢
 rw [re_pre h hk]
 intro j h1 h2
 rw [bt_pre h, if_pos (by omega)]
 exact ha j h1 (by omega)
theorem az_pre2 {s t : ByteArray} {i k : Nat} (h : by8 t = (by8 s).take i) (hk : k ≤ i) (hr : re s k ≤ i) : az t k = az s k := by
 rw [Bool.eq_iff_iff, az_iff, az_iff, re_pre h hk, Nat.min_eq_left hr]
 constructor
 ·intro a j h1 h2; have := a j h1 h2; rw [bt_pre h, if_pos (by omega)] at this; exact this
 ·intro a j h1 h2; rw [bt_pre h, if_pos (by omega)]; exact a j h1 h2
theorem fi_ge {s t : ByteArray} {i p : Nat} {b : Bool} (h : by8 t = (by8 s).take i) (hi : i ≤ s.size) (hw : whp t p b = true) (hp : p ≤ i) : i ≤ fi s p b := by
 have hsz := sz_pre h hi
 unfold whp at hw
 rw [re_pre h hp, hsz] at hw
 simp only [Bool.and_eq_true, decide_eq_true_iff, Bool.not_eq_true'] at hw
 obtain ⟨⟨h1, h2⟩, h3⟩ := hw
 have hge := re_ge s p
 have hpi : p < i := by omega
 have hrp : p < re s p := by omega
 have hd : dgt (bt s p) = true := re_in (Nat.le_refl _) hrp
 rw [bt_pre h, if_pos hpi] at h2
 unfold fi
 by_cases h48 : bt s p = 48
 ·rw [h48] at h2 ⊢
  simp only [beq_self_eq_true, if_true, Bool.true_and, decide_eq_false_iff_not] at h2 ⊢
  have haz : az t p = true := by
   rw [az_iff, re_pre h hp]
   intro j a b
   rw [show j = p by omega, bt_pre h, if_pos hpi, h48]
  rw [haz] at h3
  unfold ah
  by_cases hi1 : i = p + 1
  ·rw [if_neg (by omega)] at h3
   have hb : b = false := by simpa using h3
   rw [hb]
   split
   ·have := re_ge s (p + 1 + 1); simp; omega
   ·simp; omega
  ·have hre : re s p = p + 1 := by omega
   rw [show min (re s p) i = p + 1 by omega, if_pos (by omega)] at h3
   simp only [Bool.and_eq_true, decide_eq_true_iff, beq_iff_eq, Bool.or_eq_true, Bool.not_eq_true', Bool.not_true, Bool.false_eq_true, false_or] at h3
   obtain ⟨⟨⟨h4, h5⟩, h6⟩, h7⟩ := h3
   rw [bt_pre h, if_pos (by omega)] at h4
   rw [re_pre h (by omega)] at h6
   have hd2 : dgt (bt s (p + 1 + 1)) = true := re_in (Nat.le_refl _) (by omega)
   rw [h4, hd2]
   simp only [beq_self_eq_true, Bool.and_self, if_true]
   have hna : (b && az s (p + 1 + 1)) = false := by
    rcases h7 with h7 | h7
    ·cases hz : az s (p + 1 + 1) with
     | false => simp
     | true => rw [az_pre h (by omega) hz] at h7; cases h7
    ·rw [h7]; rfl
   rw [hna]
   simp; omega
 ·rw [show (bt s p == 48) = false from beq_eq_false_iff_ne.2 h48, if_neg (by simp), if_pos hd]
  unfold ah
  by_cases hri : i ≤ re s p
  ·split
   ·have := re_ge s (re s p + 1); simp; omega
   ·simp; omega
  ·rw [show min (re s p) i = re s p by omega, if_pos (by omega)] at h3
   simp only [Bool.and_eq_true, decide_eq_true_iff, beq_iff_eq] at h3
   obtain ⟨⟨⟨h4, h5⟩, h6⟩, _⟩ := h3
   rw [bt_pre h, if_pos (by omega)] at h4
   rw [re_pre h (by omega)] at h6
   have hd2 : dgt (bt s (re s p + 1)) = true := re_in (Nat.le_refl _) (by omega)
   rw [h4, hd2]
   simp; omega
theorem whp_fi {s t : ByteArray} {p : Nat} {b : Bool} (hps : p ≤ s.size) (h : by8 t = (by8 s).take (fi s p b)) (h0 : 0 < fi s p b) (hb : b = false → p = 0) : whp t p b = true ∧ p ≤ fi s p b := by
 unfold fi at h h0 ⊢
 by_cases h48 : bt s p = 48
 ·have hd : dgt (bt s p) = true := by rw [h48]; rfl
  have hin := dgt_in hd
  rw [h48] at h h0 ⊢
  simp only [beq_self_eq_true, if_true] at h h0 ⊢
  unfold ah at h h0 ⊢
  by_cases hc : ((bt s (p + 1) == 46) && dgt (bt s (p + 1 + 1))) = true
  ·rw [if_pos hc] at h h0 ⊢
   simp only [Bool.and_eq_true, beq_iff_eq] at hc
   have hnd : dgt (bt s (p + 1)) = false := by rw [hc.1]; rfl
   have hre : re s p = p + 1 := by rw [re_on hd, re_end hnd]
   by_cases hn : (b && az s (p + 1 + 1)) = true
   ·simp only [Bool.and_eq_true] at hn
    rw [hn.1, hn.2] at h0
    simp at h0
   ·rw [if_neg hn] at h h0 ⊢
    have hlt := re_lt hc.2
    have hle : re s (p + 1 + 1) ≤ s.size := re_le (by have := dgt_in hc.2; omega)
    have hsz := sz_pre h hle
    have r1 : re t p = p + 1 := by rw [re_pre h (by omega), hre]; omega
    have r2 : re t (p + 1 + 1) = re s (p + 1 + 1) := by rw [re_pre h (by omega)]; omega
    have a2 := az_pre2 h (k := p + 1 + 1) (by omega) (Nat.le_refl _)
    refine ⟨?_, by omega⟩
    unfold whp
    rw [r1, hsz, if_pos (by omega), r2, a2, bt_pre h (p + 1), if_pos (by omega), hc.1]
    simp only [Bool.not_eq_true] at hn
    cases b <;> simp_all <;> omega
  ·rw [if_neg hc] at h h0 ⊢
   cases hbb : b with
   | true => rw [hbb] at h0; simp at h0
   | false =>
    have hp0 := hb hbb
    rw [hbb] at h h0
    subst hp0
    simp only [Bool.false_eq_true, if_false] at h h0 ⊢
    have hsz := sz_pre h (by omega)
    have hge := re_lt hd
    have r1 : re t 0 = 1 := by rw [re_pre h (by omega)]; omega
    refine ⟨?_, by omega⟩
    unfold whp
    rw [r1, hsz]
    simp
 ·rw [show (bt s p == 48) = false from beq_eq_false_iff_ne.2 h48] at h h0 ⊢
  simp only [Bool.false_eq_true, if_false] at h h0 ⊢
  by_cases hd : dgt (bt s p) = true
  ·rw [if_pos hd] at h h0 ⊢
   have hlt := re_lt hd
   have hle := re_le hps
   unfold ah at h h0 ⊢
   by_cases hc : ((bt s (re s p) == 46) && dgt (bt s (re s p + 1))) = true
   ·rw [if_pos hc] at h h0 ⊢
    simp only [Bool.and_eq_true, beq_iff_eq] at hc
    simp only [Bool.false_and, Bool.false_eq_true, if_false] at h h0 ⊢
    have hlt2 := re_lt hc.2
    have hle2 : re s (re s p + 1) ≤ s.size := re_le (by have := dgt_in hc.2; omega)
    have hsz := sz_pre h hle2
    have r1 : re t p = re s p := by rw [re_pre h (by omega)]; omega
    have r2 : re t (re s p + 1) = re s (re s p + 1) := by rw [re_pre h (by omega)]; omega
    have a1 : az t p = false := by
     cases ha : az t p with
     | false => rfl
     | true =>
      have := az_iff.1 ha p (Nat.le_refl _) (by omega)
      rw [bt_pre h, if_pos (by omega)] at this; exact absurd this h48
    refine ⟨?_, by omega⟩
    unfold whp
    rw [r1, hsz, if_pos (by omega), r2, a1, bt_pre h (re s p), if_pos (by omega), hc.1, bt_pre h p, if_pos (by omega), show (bt s p == 48) = false from beq_eq_false_iff_ne.2 h48]
    simp; omega
   ·rw [if_neg hc] at h h0 ⊢
    simp only [Bool.false_eq_true, if_false] at h h0 ⊢
    have hsz := sz_pre h hle
    have r1 : re t p = re s p := by rw [re_pre h (by omega)]; omega
    have a1 : az t p = false := by
     cases ha : az t p with
     | false => rfl
     | true =>
      have := az_iff.1 ha p (Nat.le_refl _) (by omega)
      rw [bt_pre h, if_pos (by omega)] at this; exact absurd this h48
    refine ⟨?_, by omega⟩
    unfold whp
    rw [r1, hsz, if_neg (by omega), a1, bt_pre h p, if_pos (by omega), show (bt s p == 48) = false from beq_eq_false_iff_ne.2 h48]
    simp; omega
  ·rw [if_neg hd] at h0; omega
theorem pfx_ge {s t : ByteArray} {i : Nat} (h : by8 t = (by8 s).take i) (hi : i ≤ s.size) (hw : isDec t = true) : i ≤ pfx s := by
 have hsz := sz_pre h hi
 rw [← whl_dec] at hw
 unfold whl at hw
 unfold pfx
 by_cases h0 : 0 < i
 ·rw [bt_pre h, if_pos h0] at hw
  cases hb : (bt s 0 == 45) with
  | true => rw [hb, if_pos rfl] at hw; rw [if_pos rfl]; exact fi_ge h hi hw (by omega)
  | false => rw [hb, if_neg (by simp)] at hw; rw [if_neg (by simp)]; exact fi_ge h hi hw (by omega)
 ·omega
theorem pfx_dec {s t : ByteArray} (h : by8 t = (by8 s).take (pfx s)) (h0 : 0 < pfx s) : isDec t = true := by
 rw [← whl_dec]
 unfold whl
 rw [bt_pre h, if_pos h0]
 unfold pfx at h h0
 cases hb : (bt s 0 == 45) with
 | true =>
  rw [hb, if_pos rfl] at h h0
  rw [if_pos rfl]
  exact (whp_fi (by have := eq_in (by decide) hb; omega) h h0 (by simp)).1
 | false =>
  rw [hb, if_neg (by simp)] at h h0
  rw [if_neg (by simp)]
  exact (whp_fi (by omega) h h0 (by simp)).1
theorem fi_le {s : ByteArray} {p : Nat} {b : Bool} (hp : p ≤ s.size) : fi s p b ≤ s.size := by
 unfold fi
 split
 ·rename_i h
  have hin := eq_in (by decide) h
  unfold ah
  split
  ·rename_i h2
   simp only [Bool.and_eq_true] at h2
   have := dgt_in h2.2
   have := re_le (s := s) (k := p + 1 + 1) (by omega)
   split
   ·split <;> omega
   ·omega
  ·split <;> omega
 ·split
  ·have h1 := re_le hp
   unfold ah
   split
   ·rename_i h2
    simp only [Bool.and_eq_true] at h2
    have := dgt_in h2.2
    have := re_le (s := s) (k := re s p + 1) (by omega)
    simp; omega
   ·simp; omega
  ·omega
theorem pfx_le (s : ByteArray) : pfx s ≤ s.size := by
 unfold pfx
 split
 ·rename_i h
  have := eq_in (by decide) h
  exact fi_le (by omega)
 ·exact fi_le (by omega)
end Go.Proofs.YthgknegocfhdbaaDoor

/-
 lex.reach: of which kind a word is, and where it ends.
-/
namespace Go.Proofs.YthgknegocfhdbaaDoor
open Go.RowKit
theorem mid_run (ρ : Operand → Value) (x y z : Operand) (s : ByteArray) (a b : Nat) (hx : ρ x = .string s) (hy : ρ y = .int .i64 (a : Int)) (hz : ρ z = .int .i64 (b : Int)) (h1 : a ≤ b) (h2 : b ≤ s.size) (dst : Option Tmp) (type : TypeId) (pos : String) (after : Array Edge) (guard : Option (Nat × Bool)) (w : World) :
  (execOp ρ { dst, op := .slice 9 x (some y) (some z) none, type, pos, after, guard }).run Tryd.prog w = .ok (.value (.string (s.extract a b))) w := by
 have h3 : (a : Int) ≤ (b : Int) := by omega
 have h4 : (b : Int) ≤ (s.size : Int) := by omega
 simp [go_sem, hx, hy, hz, h3, h4]
theorem lo2_run (ρ : Operand → Value) (x y : Operand) (s : ByteArray) (a : Nat) (hx : ρ x = .string s) (hy : ρ y = .int .i64 (a : Int)) (h1 : a ≤ s.size) (dst : Option Tmp) (type : TypeId) (pos : String) (after : Array Edge) (guard : Option (Nat × Bool)) (w : World) :
  (execOp ρ { dst, op := .slice 9 x (some y) none none, type, pos, after, guard }).run Tryd.prog w = .ok (.value (.string (s.extract a s.size))) w := by
 have h3 : (a : Int) ≤ (s.size : Int) := by omega
 have h0 : (0 : Int) ≤ (a : Int) := by omega
 simp [go_sem, hx, hy, h3, h0]
theorem ltr_in {s : ByteArray} {k : Nat} (h : (ltr (bt s k) || dgt (bt s k)) = true) : k < s.size := by
 by_cases hk : k < s.size
 ·exact hk
 ·rw [bt_out hk] at h; cases h
def nme (s : ByteArray) (k : Nat) : Nat := if h : (ltr (bt s k) || dgt (bt s k)) = true then nme s (k + 1) else k
termination_by s.size - k
decreasing_by have := ltr_in h; omega
theorem nme_on {s : ByteArray} {k : Nat} (h : (ltr (bt s k) || dgt (bt s k)) = true) : nme s k = nme s (k + 1) := by rw [nme, dif_pos h]
theorem nme_end {s : ByteArray} {k : Nat} (h : (ltr (bt s k) || dgt (bt s k)) = false) : nme s k = k := by rw [nme, dif_neg (by rw [h]; simp)]
def qte (s : ByteArray) (a k : Nat) : Nat := if h : k + 1 < s.size then (if (bt s (k + 1) == 92) = true then qte s a (k + 2) else if (bt s (k + 1) == 34) = true then k + 2 else qte s a (k + 1)) else a
termination_by s.size - k
decreasing_by
 ·omega
 ·omega
def rch (s : ByteArray) (k : Nat) : Nat × Nat :=
 if ltr (bt s k) = true then (1, nme s (k + 1)) else if dgt (bt s k) = true then (2, k + pfx (s.extract k s.size))
 else if (bt s k == 34) = true then (3, qte s k k) else (4, if k + 2 ≤ s.size ∧ symb (s.extract k (k + 2)) = true then k + 2 else k + 1)
def RP (s : ByteArray) (k : Nat) : Nat → Nat → Prop
 | 0, e => e < s.size ∧ rch s k = (1, nme s (e + 1))
 | 1, _ => rch s k = (2, k + pfx (s.extract k s.size))
 | 2, e => e ≤ s.size ∧ rch s k = (3, qte s k e)
 | 3, _ => rch s k = (4, if k + 2 ≤ s.size ∧ symb (s.extract k (k + 2)) = true then k + 2 else k + 1)
 | _, _ => False
def RI (s : ByteArray) (k : Nat) (w : World) (i m : Nat) (l : List (Nat × Value)) (w1 : World) : Prop :=
 ∃ e : Nat, look l 0 = .string s ∧ look l 1 = .int .i64 (k : Int) ∧ look l 6 = .int .i64 (e : Int) ∧ m = s.size + 5 - e ∧ RP s k i e ∧ Mo w w1
theorem sym_c {s : ByteArray} {r : Bool} (h : symb s = r) (w : World) : Calls Tryd.prog 18 #[.string s] w fun e w' => e = .returned (.bool r) ∧ Mo w w' := h ▸ sym_n s w
theorem leN {a b : Nat} {r : Bool} (h : decide (a ≤ b) = r) (x y : Operand) (w : World) : (do eqGuard .leq 3 x y (.int .i64 (a : Int)) (.int .i64 (b : Int)); binOp .leq 3 (.int .i64 (a : Int)) (.int .i64 (b : Int))).run Tryd.prog w = .ok (.bool r) w := by
 subst h; simp [go_sem]
theorem reach_n (s : ByteArray) (k : Nat) (w : World) (hs : s.size ≤ maxLen - 8) (hk : k < s.size) : Calls Tryd.prog 27 #[.string s, .int .i64 ((k : Nat) : Int)] w fun e w' => e = .returned (.tuple #[.int .i64 ((rch s k).1 : Nat), .int .i64 ((rch s k).2 : Nat)]) ∧ Mo w w' := by
 unfold maxLen at hs
 refine w_enter 79 Tryd.func27 Tryd.ntmps27 rfl rfl ?_
 have M : Mo w w := Mo.refl _
 refine w_seq (w_reg ?_)
 refine wl_m (.const (.int .i64 (0))) (.int .i64 (0)) ?_
 refine wl_m (.const (.int .i64 (0))) (.int .i64 (0)) ?_
 refine w_nil (xn_then ?_)
 refine w_scope1 (RI s k w) ?_ ?_ ?_
 ·rintro i m l w1 ⟨e, _, _, _, _, hp, _⟩
  match i, hp with
  | 0, _ => rfl
  | 1, _ => rfl
  | 2, _ => rfl
  | 3, _ => rfl
 ·skip
  refine w_seq (w_reg ?_)
  refine wl_m (.tmp 1) (.int .i64 ((k : Nat) : Int)) ?_
  refine wl_m (.tmp 9) (.int .i64 ((k : Nat) : Int)) ?_
  refine w_nil (xn_then (w_seq (w_seq (w_reg ?_))))
  refine wl_m (.tmp 0) (.string s) ?_
  refine wl_m (.tmp 1) (.int .i64 ((k : Nat) : Int)) ?_
  refine wl_bin (fun x y => Instr.index 9 x y) (.tmp 10) (.tmp 11) (.string s) (.int .i64 ((k : Nat) : Int)) (.int .u8 (bt s (k))) (fun _ => rfl) rfl rfl (idx_b (k := k) (by omega) _) rfl ?_
  refine wl_m (.tmp 12) (.int .u8 (bt s (k))) ?_
  refine w_nil (xn_then (w_block (w_seq ?_)))
  cases hf0 : ltr (bt s (k)) with
  | true =>
   refine w_reg ?_
   refine wl_m (.tmp 7) (.int .u8 (bt s (k))) ?_
   refine wl_call 37 [(.tmp 14)] _ [.int .u8 (bt s (k))] (.bool true) rfl rfl (fun _ _ => by kernel_rfl) (ltr_c hf0 isLetter_n _) rfl ?_
   intro w1 hq
   replace M := M.trans hq
   clear hq
   refine wl_m (.tmp 15) (.bool true) ?_
   refine w_nil (xn_then (w_condT rfl ?_))
   refine w_goto ?_
   refine xg_blk ?_
   refine xg_then ?_
   exact xg_jump0 _ ⟨k, rfl, rfl, rfl, rfl, ⟨hk, by unfold rch; rw [if_pos hf0]⟩, M⟩
  | false =>
   refine w_reg ?_
   refine wl_m (.tmp 7) (.int .u8 (bt s (k))) ?_
   refine wl_call 37 [(.tmp 14)] _ [.int .u8 (bt s (k))] (.bool false) rfl rfl (fun _ _ => by kernel_rfl) (ltr_c hf0 isLetter_n _) rfl ?_
   intro w1 hq
   replace M := M.trans hq
   clear hq
   refine wl_m (.tmp 15) (.bool false) ?_
   refine w_nil (xn_then (w_condF rfl (w_seq ?_)))
   cases hf1 : dgt (bt s (k)) with
   | true =>
    refine w_reg ?_
    refine wl_m (.tmp 7) (.int .u8 (bt s (k))) ?_
    refine wl_call 38 [(.tmp 17)] _ [.int .u8 (bt s (k))] (.bool true) rfl rfl (fun _ _ => by kernel_rfl) (dgt_c hf1 lisDigit_n _) rfl ?_
    intro w2 hq
    replace M := M.trans hq
    clear hq
    refine wl_m (.tmp 18) (.bool true) ?_
    refine w_nil (xn_then (w_condT rfl ?_))
    refine w_goto ?_
    refine xg_blk ?_
    refine xg_then ?_
    exact xg_jump0 _ ⟨k, rfl, rfl, rfl, rfl, (by show rch s k = _; unfold rch; rw [if_neg (by rw [hf0]; simp), if_pos hf1]), M⟩
   | false =>
    refine w_reg ?_
    refine wl_m (.tmp 7) (.int .u8 (bt s (k))) ?_
    refine wl_call 38 [(.tmp 17)] _ [.int .u8 (bt s (k))] (.bool false) rfl rfl (fun _ _ => by kernel_rfl) (dgt_c hf1 lisDigit_n _) rfl ?_
    intro w2 hq
    replace M := M.trans hq
    clear hq
    refine wl_m (.tmp 18) (.bool false) ?_
    refine w_nil (xn_then (w_condF rfl (w_seq ?_)))
    cases hf2 : (bt s (k) == 34) with
    | true =>
     refine w_reg ?_
     refine wl_m (.tmp 7) (.int .u8 (bt s (k))) ?_
     refine wl_b .eql 5 (.tmp 20) (.const (.int .u8 (34))) (.int .u8 (bt s (k))) (.int .u8 (34)) (.bool true) (eq5r hf2 _ _ _) ?_
     refine wl_m (.tmp 21) (.bool true) ?_
     refine w_nil (xn_then (w_condT rfl ?_))
     refine w_goto ?_
     refine xg_blk ?_
     refine xg_then ?_
     exact xg_jump0 _ ⟨k, rfl, rfl, rfl, rfl, ⟨by omega, by unfold rch; rw [if_neg (by rw [hf0]; simp), if_neg (by rw [hf1]; simp), if_pos hf2]⟩, M⟩
    | false =>
     refine w_reg ?_
     refine wl_m (.tmp 7) (.int .u8 (bt s (k))) ?_
     refine wl_b .eql 5 (.tmp 20) (.const (.int .u8 (34))) (.int .u8 (bt s (k))) (.int .u8 (34)) (.bool false) (eq5r hf2 _ _ _) ?_
     refine wl_m (.tmp 21) (.bool false) ?_
     refine w_nil (xn_then (w_condF rfl (w_skip (xn_blk (xn_then (w_seq ?_))))))
     refine w_goto ?_
     refine xg_then ?_
     exact xg_jump0 _ ⟨k, rfl, rfl, rfl, rfl, (by show rch s k = _; unfold rch; rw [if_neg (by rw [hf0]; simp), if_neg (by rw [hf1]; simp), if_neg (by rw [hf2]; simp)]), M⟩
 ·clear M
  rintro i m l wl ⟨e, e0, e1, e6, hm, hp, M⟩
  subst hm
  match i, hp with
  | 0, hp =>
   obtain ⟨he, hr⟩ := hp
   refine w_seq (w_skip (xn_then (w_seq (w_reg ?_))))
   refine wl_mv (.tmp 6) (.int .i64 ((e : Nat) : Int)) (fun _ => rfl) e6 rfl ?_
   refine wl_b .add 3 (.tmp 22) (.const (.int .i64 (1))) (.int .i64 ((e : Nat) : Int)) (.int .i64 (1)) (.int .i64 ((e + 1 : Nat) : Int)) (addk (a := e) (b := 1) rfl (by omega) _ _ _) ?_
   refine wl_m (.tmp 23) (.int .i64 ((e + 1 : Nat) : Int)) ?_
   refine w_nil (xn_then (w_seq (w_seq (w_reg ?_))))
   refine wl_mv (.tmp 0) (.string s) (fun _ => rfl) e0 rfl ?_
   refine wl_m (.tmp 6) (.int .i64 ((e + 1 : Nat) : Int)) ?_
   refine wl_call 35 [(.tmp 24), (.tmp 25)] _ [.string s, .int .i64 ((e + 1 : Nat) : Int)] (.int .u8 (bt s (e + 1))) rfl rfl (fun _ _ => by kernel_rfl) (lbyteAt_n s (e + 1) _) rfl ?_
   intro w11 hq
   replace M := M.trans hq
   clear hq
   refine wl_m (.tmp 26) (.int .u8 (bt s (e + 1))) ?_
   refine w_nil (xn_then (w_seq ?_))
   cases hf0 : ltr (bt s (e + 1)) with
   | true =>
    refine w_reg ?_
    refine wl_m (.tmp 8) (.int .u8 (bt s (e + 1))) ?_
    refine wl_call 37 [(.tmp 27)] _ [.int .u8 (bt s (e + 1))] (.bool true) rfl rfl (fun _ _ => by kernel_rfl) (ltr_c hf0 isLetter_n _) rfl ?_
    intro w12 hq
    replace M := M.trans hq
    clear hq
    refine wl_m (.tmp 28) (.bool true) ?_
    refine wl_skip rfl (wl_skip rfl ?_)
    refine wl_pick (.tmp 29) (.const (.bool true)) (.tmp 31) true (.bool true) (fun _ => rfl) rfl rfl rfl ?_
    refine w_nil (xn_then (w_condT rfl ?_))
    refine w_goto ?_
    refine xg_then ?_
    exact xg_jump (s.size + 5 - (e + 1)) (by omega) ⟨e + 1, e0, e1, rfl, rfl, ⟨ltr_in (by rw [hf0]; rfl), by rw [hr, nme_on (by rw [hf0]; rfl)]⟩, M⟩
   | false =>
    cases hf1 : dgt (bt s (e + 1)) with
    | true =>
     refine w_reg ?_
     refine wl_m (.tmp 8) (.int .u8 (bt s (e + 1))) ?_
     refine wl_call 37 [(.tmp 27)] _ [.int .u8 (bt s (e + 1))] (.bool false) rfl rfl (fun _ _ => by kernel_rfl) (ltr_c hf0 isLetter_n _) rfl ?_
     intro w12 hq
     replace M := M.trans hq
     clear hq
     refine wl_m (.tmp 28) (.bool false) ?_
     refine wl_m (.tmp 8) (.int .u8 (bt s (e + 1))) ?_
     refine wl_call 38 [(.tmp 30)] _ [.int .u8 (bt s (e + 1))] (.bool true) rfl rfl (fun _ _ => by kernel_rfl) (dgt_c hf1 lisDigit_n _) rfl ?_
     intro w13 hq
     replace M := M.trans hq
     clear hq
     refine wl_pick (.tmp 29) (.const (.bool true)) (.tmp 31) false (.bool true) (fun _ => rfl) rfl rfl rfl ?_
     refine w_nil (xn_then (w_condT rfl ?_))
     refine w_goto ?_
     refine xg_then ?_
     exact xg_jump (s.size + 5 - (e + 1)) (by omega) ⟨e + 1, e0, e1, rfl, rfl, ⟨ltr_in (by rw [hf0, hf1]; rfl), by rw [hr, nme_on (by rw [hf0, hf1]; rfl)]⟩, M⟩
    | false =>
     refine w_reg ?_
     refine wl_m (.tmp 8) (.int .u8 (bt s (e + 1))) ?_
     refine wl_call 37 [(.tmp 27)] _ [.int .u8 (bt s (e + 1))] (.bool false) rfl rfl (fun _ _ => by kernel_rfl) (ltr_c hf0 isLetter_n _) rfl ?_
     intro w12 hq
     replace M := M.trans hq
     clear hq
     refine wl_m (.tmp 28) (.bool false) ?_
     refine wl_m (.tmp 8) (.int .u8 (bt s (e + 1))) ?_
     refine wl_call 38 [(.tmp 30)] _ [.int .u8 (bt s (e + 1))] (.bool false) rfl rfl (fun _ _ => by kernel_rfl) (dgt_c hf1 lisDigit_n _) rfl ?_
     intro w13 hq
     replace M := M.trans hq
     clear hq
     refine wl_pick (.tmp 29) (.const (.bool true)) (.tmp 31) false (.bool false) (fun _ => rfl) rfl rfl rfl ?_
     refine w_nil (xn_then (w_condF rfl (w_skip (xn_then (w_seq (w_seq (w_reg ?_)))))))
     refine wl_m (.tmp 6) (.int .i64 ((e + 1 : Nat) : Int)) ?_
     refine wl_m (.const (.int .i64 (1))) (.int .i64 (1)) ?_
     refine wl_m (.tmp 33) (.int .i64 ((e + 1 : Nat) : Int)) ?_
     refine w_nil (xn_then (w_ret (xr_then ?_)))
     refine xr_jumps ?_
     exact w_ret2 _ _ (.int .i64 (1)) (.int .i64 ((e + 1 : Nat) : Int)) rfl rfl rfl ⟨by rw [hr, nme_end (by rw [hf0, hf1]; rfl)] <;> rfl, M⟩
  | 1, hp =>
   replace hp : rch s k = (2, k + pfx (s.extract k s.size)) := hp
   have hpl := pfx_le (s.extract k s.size)
   rw [ByteArray.size_extract, Nat.min_self] at hpl
   refine w_seq (w_skip (xn_then (w_seq (w_seq (w_reg ?_)))))
   refine wl_mv (.tmp 1) (.int .i64 ((k : Nat) : Int)) (fun _ => rfl) e1 rfl ?_
   refine wl_mv (.tmp 0) (.string s) (fun _ => rfl) e0 rfl ?_
   refine wl_mv (.tmp 1) (.int .i64 ((k : Nat) : Int)) (fun _ => rfl) e1 rfl ?_
   refine wl_val (.string (s.extract (k) s.size)) (lo2_run _ _ _ s (k) (by exact rfl) (by exact rfl) (by omega) _ _ _ _ _ _) rfl ?_
   refine wl_call 47 [(.tmp 37)] _ [.string (s.extract (k) s.size)] (.int .i64 ((pfx (s.extract (k) s.size) : Nat) : Int)) rfl rfl (fun _ _ => by kernel_rfl) (prefix_n (s.extract (k) s.size) _ (by rw [ByteArray.size_extract, Nat.min_self]; unfold maxLen; omega)) rfl ?_
   intro w11 hq
   replace M := M.trans hq
   clear hq
   refine wl_b .add 3 (.tmp 34) (.tmp 38) (.int .i64 ((k : Nat) : Int)) (.int .i64 ((pfx (s.extract (k) s.size) : Nat) : Int)) (.int .i64 ((k + pfx (s.extract (k) s.size) : Nat) : Int)) (addk (a := k) (b := pfx (s.extract (k) s.size)) rfl (by omega) _ _ _) ?_
   refine wl_m (.const (.int .i64 (2))) (.int .i64 (2)) ?_
   refine wl_m (.tmp 39) (.int .i64 ((k + pfx (s.extract (k) s.size) : Nat) : Int)) ?_
   refine w_nil (xn_then (w_ret (xr_then ?_)))
   refine xr_jumps ?_
   exact w_ret2 _ _ (.int .i64 (2)) (.int .i64 ((k + pfx (s.extract (k) s.size) : Nat) : Int)) rfl rfl rfl ⟨by rw [hp] <;> rfl, M⟩
  | 2, hp =>
   obtain ⟨he, hr⟩ := hp
   refine w_seq (w_skip (xn_then (w_seq (w_reg ?_))))
   refine wl_mv (.tmp 6) (.int .i64 ((e : Nat) : Int)) (fun _ => rfl) e6 rfl ?_
   refine wl_b .add 3 (.tmp 40) (.const (.int .i64 (1))) (.int .i64 ((e : Nat) : Int)) (.int .i64 (1)) (.int .i64 ((e + 1 : Nat) : Int)) (addk (a := e) (b := 1) rfl (by omega) _ _ _) ?_
   refine wl_m (.tmp 41) (.int .i64 ((e + 1 : Nat) : Int)) ?_
   refine w_nil (xn_then (w_seq (w_block (w_seq ?_))))
   cases hf0 : decide (s.size ≤ e + 1) with
   | true =>
    have hf0p := of_decide_eq_true hf0
    refine w_reg ?_
    refine wl_m (.tmp 6) (.int .i64 ((e + 1 : Nat) : Int)) ?_
    refine wl_mv (.tmp 0) (.string s) (fun _ => rfl) e0 rfl ?_
    refine wl_val (.int .i64 ((s.size : Nat) : Int)) (len_s _ _ s (by exact rfl) _ _ _ _ _ _) rfl ?_
    refine wl_b .geq 3 (.tmp 43) (.tmp 45) (.int .i64 ((e + 1 : Nat) : Int)) (.int .i64 ((s.size : Nat) : Int)) (.bool true) (geN hf0 _ _ _) ?_
    refine wl_m (.tmp 46) (.bool true) ?_
    refine w_nil (xn_then (w_condT rfl (w_seq (w_reg ?_))))
    refine wl_mv (.tmp 1) (.int .i64 ((k : Nat) : Int)) (fun _ => rfl) e1 rfl ?_
    refine wl_m (.const (.int .i64 (3))) (.int .i64 (3)) ?_
    refine wl_m (.tmp 47) (.int .i64 ((k : Nat) : Int)) ?_
    refine w_nil (xn_then (w_ret (xr_blk (xr_then ?_))))
    refine xr_jumps ?_
    exact w_ret2 _ _ (.int .i64 (3)) (.int .i64 ((k : Nat) : Int)) rfl rfl rfl ⟨by rw [hr, qte, dif_neg (by omega)] <;> rfl, M⟩
   | false =>
    have hf0p := of_decide_eq_false hf0
    refine w_reg ?_
    refine wl_m (.tmp 6) (.int .i64 ((e + 1 : Nat) : Int)) ?_
    refine wl_mv (.tmp 0) (.string s) (fun _ => rfl) e0 rfl ?_
    refine wl_val (.int .i64 ((s.size : Nat) : Int)) (len_s _ _ s (by exact rfl) _ _ _ _ _ _) rfl ?_
    refine wl_b .geq 3 (.tmp 43) (.tmp 45) (.int .i64 ((e + 1 : Nat) : Int)) (.int .i64 ((s.size : Nat) : Int)) (.bool false) (geN hf0 _ _ _) ?_
    refine wl_m (.tmp 46) (.bool false) ?_
    refine w_nil (xn_then (w_condF rfl (w_seq ?_)))
    cases hf1 : (bt s (e + 1) == 92) with
    | true =>
     refine w_reg ?_
     refine wl_mv (.tmp 0) (.string s) (fun _ => rfl) e0 rfl ?_
     refine wl_m (.tmp 6) (.int .i64 ((e + 1 : Nat) : Int)) ?_
     refine wl_bin (fun x y => Instr.index 9 x y) (.tmp 49) (.tmp 50) (.string s) (.int .i64 ((e + 1 : Nat) : Int)) (.int .u8 (bt s (e + 1))) (fun _ => rfl) rfl rfl (idx_b (k := e + 1) (by omega) _) rfl ?_
     refine wl_b .eql 5 (.tmp 51) (.const (.int .u8 (92))) (.int .u8 (bt s (e + 1))) (.int .u8 (92)) (.bool true) (eq5r hf1 _ _ _) ?_
     refine wl_m (.tmp 52) (.bool true) ?_
     refine w_nil (xn_then (w_condT rfl (w_seq (w_reg ?_))))
     refine wl_m (.tmp 6) (.int .i64 ((e + 1 : Nat) : Int)) ?_
     refine wl_b .add 3 (.tmp 53) (.const (.int .i64 (1))) (.int .i64 ((e + 1 : Nat) : Int)) (.int .i64 (1)) (.int .i64 ((e + 1 + 1 : Nat) : Int)) (addk (a := e + 1) (b := 1) rfl (by omega) _ _ _) ?_
     refine wl_m (.tmp 54) (.int .i64 ((e + 1 + 1 : Nat) : Int)) ?_
     refine w_nil (xn_then ?_)
     refine w_goto ?_
     refine xg_blk ?_
     refine xg_then ?_
     exact xg_jump (s.size + 5 - (e + 1 + 1)) (by omega) ⟨e + 1 + 1, e0, e1, rfl, rfl, ⟨by omega, by rw [hr, show qte s k e = qte s k (e + 1 + 1) from (by rw [qte, dif_pos (by omega), if_pos hf1])]⟩, M⟩
    | false =>
     refine w_reg ?_
     refine wl_mv (.tmp 0) (.string s) (fun _ => rfl) e0 rfl ?_
     refine wl_m (.tmp 6) (.int .i64 ((e + 1 : Nat) : Int)) ?_
     refine wl_bin (fun x y => Instr.index 9 x y) (.tmp 49) (.tmp 50) (.string s) (.int .i64 ((e + 1 : Nat) : Int)) (.int .u8 (bt s (e + 1))) (fun _ => rfl) rfl rfl (idx_b (k := e + 1) (by omega) _) rfl ?_
     refine wl_b .eql 5 (.tmp 51) (.const (.int .u8 (92))) (.int .u8 (bt s (e + 1))) (.int .u8 (92)) (.bool false) (eq5r hf1 _ _ _) ?_
     refine wl_m (.tmp 52) (.bool false) ?_
     refine w_nil (xn_then (w_condF rfl (w_seq ?_)))
     cases hf2 : (bt s (e + 1) == 34) with
     | true =>
      refine w_reg ?_
      refine wl_mv (.tmp 0) (.string s) (fun _ => rfl) e0 rfl ?_
      refine wl_m (.tmp 6) (.int .i64 ((e + 1 : Nat) : Int)) ?_
      refine wl_bin (fun x y => Instr.index 9 x y) (.tmp 56) (.tmp 57) (.string s) (.int .i64 ((e + 1 : Nat) : Int)) (.int .u8 (bt s (e + 1))) (fun _ => rfl) rfl rfl (idx_b (k := e + 1) (by omega) _) rfl ?_
      refine wl_b .neq 5 (.tmp 58) (.const (.int .u8 (34))) (.int .u8 (bt s (e + 1))) (.int .u8 (34)) (.bool false) (ne5r hf2 _ _ _) ?_
      refine wl_m (.tmp 59) (.bool false) ?_
      refine w_nil (xn_then (w_condF rfl (w_skip (xn_blk (xn_then (w_seq (w_seq (w_reg ?_))))))))
      refine wl_m (.tmp 6) (.int .i64 ((e + 1 : Nat) : Int)) ?_
      refine wl_b .add 3 (.tmp 60) (.const (.int .i64 (1))) (.int .i64 ((e + 1 : Nat) : Int)) (.int .i64 (1)) (.int .i64 ((e + 1 + 1 : Nat) : Int)) (addk (a := e + 1) (b := 1) rfl (by omega) _ _ _) ?_
      refine wl_m (.const (.int .i64 (3))) (.int .i64 (3)) ?_
      refine wl_m (.tmp 61) (.int .i64 ((e + 1 + 1 : Nat) : Int)) ?_
      refine w_nil (xn_then (w_ret (xr_then ?_)))
      refine xr_jumps ?_
      exact w_ret2 _ _ (.int .i64 (3)) (.int .i64 ((e + 1 + 1 : Nat) : Int)) rfl rfl rfl ⟨by rw [hr, show qte s k e = e + 2 from (by rw [qte, dif_pos (by omega), if_neg (by rw [hf1]; simp), if_pos hf2])] <;> rfl, M⟩
     | false =>
      refine w_reg ?_
      refine wl_mv (.tmp 0) (.string s) (fun _ => rfl) e0 rfl ?_
      refine wl_m (.tmp 6) (.int .i64 ((e + 1 : Nat) : Int)) ?_
      refine wl_bin (fun x y => Instr.index 9 x y) (.tmp 56) (.tmp 57) (.string s) (.int .i64 ((e + 1 : Nat) : Int)) (.int .u8 (bt s (e + 1))) (fun _ => rfl) rfl rfl (idx_b (k := e + 1) (by omega) _) rfl ?_
      refine wl_b .neq 5 (.tmp 58) (.const (.int .u8 (34))) (.int .u8 (bt s (e + 1))) (.int .u8 (34)) (.bool true) (ne5r hf2 _ _ _) ?_
      refine wl_m (.tmp 59) (.bool true) ?_
      refine w_nil (xn_then (w_condT rfl ?_))
      refine w_goto ?_
      refine xg_blk ?_
      refine xg_then ?_
      exact xg_jump (s.size + 5 - (e + 1)) (by omega) ⟨e + 1, e0, e1, rfl, rfl, ⟨by omega, by rw [hr, show qte s k e = qte s k (e + 1) from (by rw [qte, dif_pos (by omega), if_neg (by rw [hf1]; simp), if_neg (by rw [hf2]; simp)])]⟩, M⟩
  | 3, hp =>
   replace hp : rch s k = (4, if k + 2 ≤ s.size ∧ symb (s.extract k (k + 2)) = true then k + 2 else k + 1) := hp
   refine w_seq (w_skip (xn_then (w_seq (w_seq ?_))))
   cases hf0 : decide (k + 2 ≤ s.size) with
   | true =>
    have hf0p := of_decide_eq_true hf0
    cases hf1 : symb (s.extract (k) (k + 2)) with
    | true =>
     refine w_reg ?_
     refine wl_mv (.tmp 1) (.int .i64 ((k : Nat) : Int)) (fun _ => rfl) e1 rfl ?_
     refine wl_b .add 3 (.tmp 62) (.const (.int .i64 (2))) (.int .i64 ((k : Nat) : Int)) (.int .i64 (2)) (.int .i64 ((k + 2 : Nat) : Int)) (addk (a := k) (b := 2) rfl (by omega) _ _ _) ?_
     refine wl_mv (.tmp 0) (.string s) (fun _ => rfl) e0 rfl ?_
     refine wl_val (.int .i64 ((s.size : Nat) : Int)) (len_s _ _ s (by exact rfl) _ _ _ _ _ _) rfl ?_
     refine wl_b .leq 3 (.tmp 63) (.tmp 65) (.int .i64 ((k + 2 : Nat) : Int)) (.int .i64 ((s.size : Nat) : Int)) (.bool true) (leN hf0 _ _ _) ?_
     refine wl_m (.tmp 66) (.bool true) ?_
     refine wl_mv (.tmp 0) (.string s) (fun _ => rfl) e0 rfl ?_
     refine wl_mv (.tmp 1) (.int .i64 ((k : Nat) : Int)) (fun _ => rfl) e1 rfl ?_
     refine wl_mv (.tmp 1) (.int .i64 ((k : Nat) : Int)) (fun _ => rfl) e1 rfl ?_
     refine wl_b .add 3 (.tmp 70) (.const (.int .i64 (2))) (.int .i64 ((k : Nat) : Int)) (.int .i64 (2)) (.int .i64 ((k + 2 : Nat) : Int)) (addk (a := k) (b := 2) rfl (by omega) _ _ _) ?_
     refine wl_val (.string (s.extract (k) (k + 2))) (mid_run _ _ _ _ s (k) (k + 2) (by exact rfl) (by exact rfl) (by exact rfl) (by omega) (by omega) _ _ _ _ _ _) rfl ?_
     refine wl_call 18 [(.tmp 72)] _ [.string (s.extract (k) (k + 2))] (.bool true) rfl rfl (fun _ _ => by kernel_rfl) (sym_c hf1 _) rfl ?_
     intro w11 hq
     replace M := M.trans hq
     clear hq
     refine wl_pick (.tmp 67) (.tmp 73) (.const (.bool false)) true (.bool true) (fun _ => rfl) rfl rfl rfl ?_
     refine w_nil (xn_then (w_condT rfl (w_seq (w_reg ?_))))
     refine wl_mv (.tmp 1) (.int .i64 ((k : Nat) : Int)) (fun _ => rfl) e1 rfl ?_
     refine wl_b .add 3 (.tmp 75) (.const (.int .i64 (2))) (.int .i64 ((k : Nat) : Int)) (.int .i64 (2)) (.int .i64 ((k + 2 : Nat) : Int)) (addk (a := k) (b := 2) rfl (by omega) _ _ _) ?_
     refine wl_m (.const (.int .i64 (4))) (.int .i64 (4)) ?_
     refine wl_m (.tmp 76) (.int .i64 ((k + 2 : Nat) : Int)) ?_
     refine w_nil (xn_then (w_ret (xr_then ?_)))
     refine xr_jumps ?_
     exact w_ret2 _ _ (.int .i64 (4)) (.int .i64 ((k + 2 : Nat) : Int)) rfl rfl rfl ⟨by rw [hp, if_pos ⟨hf0p, hf1⟩] <;> rfl, M⟩
    | false =>
     refine w_reg ?_
     refine wl_mv (.tmp 1) (.int .i64 ((k : Nat) : Int)) (fun _ => rfl) e1 rfl ?_
     refine wl_b .add 3 (.tmp 62) (.const (.int .i64 (2))) (.int .i64 ((k : Nat) : Int)) (.int .i64 (2)) (.int .i64 ((k + 2 : Nat) : Int)) (addk (a := k) (b := 2) rfl (by omega) _ _ _) ?_
     refine wl_mv (.tmp 0) (.string s) (fun _ => rfl) e0 rfl ?_
     refine wl_val (.int .i64 ((s.size : Nat) : Int)) (len_s _ _ s (by exact rfl) _ _ _ _ _ _) rfl ?_
     refine wl_b .leq 3 (.tmp 63) (.tmp 65) (.int .i64 ((k + 2 : Nat) : Int)) (.int .i64 ((s.size : Nat) : Int)) (.bool true) (leN hf0 _ _ _) ?_
     refine wl_m (.tmp 66) (.bool true) ?_
     refine wl_mv (.tmp 0) (.string s) (fun _ => rfl) e0 rfl ?_
     refine wl_mv (.tmp 1) (.int .i64 ((k : Nat) : Int)) (fun _ => rfl) e1 rfl ?_
     refine wl_mv (.tmp 1) (.int .i64 ((k : Nat) : Int)) (fun _ => rfl) e1 rfl ?_
     refine wl_b .add 3 (.tmp 70) (.const (.int .i64 (2))) (.int .i64 ((k : Nat) : Int)) (.int .i64 (2)) (.int .i64 ((k + 2 : Nat) : Int)) (addk (a := k) (b := 2) rfl (by omega) _ _ _) ?_
     refine wl_val (.string (s.extract (k) (k + 2))) (mid_run _ _ _ _ s (k) (k + 2) (by exact rfl) (by exact rfl) (by exact rfl) (by omega) (by omega) _ _ _ _ _ _) rfl ?_
     refine wl_call 18 [(.tmp 72)] _ [.string (s.extract (k) (k + 2))] (.bool false) rfl rfl (fun _ _ => by kernel_rfl) (sym_c hf1 _) rfl ?_
     intro w11 hq
     replace M := M.trans hq
     clear hq
     refine wl_pick (.tmp 67) (.tmp 73) (.const (.bool false)) true (.bool false) (fun _ => rfl) rfl rfl rfl ?_
     refine w_nil (xn_then (w_condF rfl (w_skip (xn_then (w_seq (w_reg ?_))))))
     refine wl_mv (.tmp 1) (.int .i64 ((k : Nat) : Int)) (fun _ => rfl) e1 rfl ?_
     refine wl_b .add 3 (.tmp 77) (.const (.int .i64 (1))) (.int .i64 ((k : Nat) : Int)) (.int .i64 (1)) (.int .i64 ((k + 1 : Nat) : Int)) (addk (a := k) (b := 1) rfl (by omega) _ _ _) ?_
     refine wl_m (.const (.int .i64 (4))) (.int .i64 (4)) ?_
     refine wl_m (.tmp 78) (.int .i64 ((k + 1 : Nat) : Int)) ?_
     refine w_nil (xn_then (w_ret ?_))
     refine xr_jumps ?_
     exact w_ret2 _ _ (.int .i64 (4)) (.int .i64 ((k + 1 : Nat) : Int)) rfl rfl rfl ⟨by rw [hp, if_neg (fun e => by rw [hf1] at e; cases e.2)] <;> rfl, M⟩
   | false =>
    have hf0p := of_decide_eq_false hf0
    refine w_reg ?_
    refine wl_mv (.tmp 1) (.int .i64 ((k : Nat) : Int)) (fun _ => rfl) e1 rfl ?_
    refine wl_b .add 3 (.tmp 62) (.const (.int .i64 (2))) (.int .i64 ((k : Nat) : Int)) (.int .i64 (2)) (.int .i64 ((k + 2 : Nat) : Int)) (addk (a := k) (b := 2) rfl (by omega) _ _ _) ?_
    refine wl_mv (.tmp 0) (.string s) (fun _ => rfl) e0 rfl ?_
    refine wl_val (.int .i64 ((s.size : Nat) : Int)) (len_s _ _ s (by exact rfl) _ _ _ _ _ _) rfl ?_
    refine wl_b .leq 3 (.tmp 63) (.tmp 65) (.int .i64 ((k + 2 : Nat) : Int)) (.int .i64 ((s.size : Nat) : Int)) (.bool false) (leN hf0 _ _ _) ?_
    refine wl_m (.tmp 66) (.bool false) ?_
    refine wl_skip rfl (wl_skip rfl (wl_skip rfl (wl_skip rfl (wl_skip rfl (wl_skip rfl ?_)))))
    refine wl_pick (.tmp 67) (.tmp 73) (.const (.bool false)) false (.bool false) (fun _ => rfl) rfl rfl rfl ?_
    refine w_nil (xn_then (w_condF rfl (w_skip (xn_then (w_seq (w_reg ?_))))))
    refine wl_mv (.tmp 1) (.int .i64 ((k : Nat) : Int)) (fun _ => rfl) e1 rfl ?_
    refine wl_b .add 3 (.tmp 77) (.const (.int .i64 (1))) (.int .i64 ((k : Nat) : Int)) (.int .i64 (1)) (.int .i64 ((k + 1 : Nat) : Int)) (addk (a := k) (b := 1) rfl (by omega) _ _ _) ?_
    refine wl_m (.const (.int .i64 (4))) (.int .i64 (4)) ?_
    refine wl_m (.tmp 78) (.int .i64 ((k + 1 : Nat) : Int)) ?_
    refine w_nil (xn_then (w_ret ?_))
    refine xr_jumps ?_
    exact w_ret2 _ _ (.int .i64 (4)) (.int .i64 ((k + 1 : Nat) : Int)) rfl rfl rfl ⟨by rw [hp, if_neg (fun e => hf0p e.1)] <;> rfl, M⟩
end Go.Proofs.YthgknegocfhdbaaDoor
/-
 The document's name and closes: where a name and a text in quotes end.
-/
namespace Go.Proofs.YthgknegocfhdbaaDoor
open Go.RowKit
def cl (s : ByteArray) (k : Nat) : Option Nat := if h : k < s.size then (if (bt s k == 92) = true then cl s (k + 2) else if (bt s k == 34) = true then some (k + 1) else cl s (k + 1)) else none
termination_by s.size - k
decreasing_by
 ·omega
 ·omega
theorem cl_end {s : ByteArray} {k : Nat} (h : ¬ k < s.size) : cl s k = none := by rw [cl, dif_neg h]
theorem cl_e {s : ByteArray} {k : Nat} (h : k < s.size) (h2 : (bt s k == 92) = true) : cl s k = cl s (k + 2) := by rw [cl, dif_pos h, if_pos h2]
theorem cl_q {s : ByteArray} {k : Nat} (h : k < s.size) (h2 : (bt s k == 92) = false) (h3 : (bt s k == 34) = true) : cl s k = some (k + 1) := by rw [cl, dif_pos h, if_neg (by rw [h2]; simp), if_pos h3]
theorem cl_o {s : ByteArray} {k : Nat} (h : k < s.size) (h2 : (bt s k == 92) = false) (h3 : (bt s k == 34) = false) : cl s k = cl s (k + 1) := by rw [cl, dif_pos h, if_neg (by rw [h2]; simp), if_neg (by rw [h3]; simp)]
theorem qte_cl (s : ByteArray) (a : Nat) : ∀ (d k : Nat), s.size - k ≤ d → qte s a k = (cl s (k + 1)).getD a := by
 intro d
 induction d with
 | zero => intro k hd; rw [qte, dif_neg (by omega), cl_end (by omega)]; rfl
 | succ d ih =>
  intro k hd
  by_cases h : k + 1 < s.size
  ·rw [qte, dif_pos h]
   cases h2 : (bt s (k + 1) == 92) with
   | true => rw [if_pos rfl, cl_e h h2]; exact ih (k + 2) (by omega)
   | false =>
    rw [if_neg (by simp)]
    cases h3 : (bt s (k + 1) == 34) with
    | true => rw [if_pos rfl, cl_q h h2 h3]; rfl
    | false => rw [if_neg (by simp), cl_o h h2 h3]; exact ih (k + 1) (by omega)
  ·rw [qte, dif_neg h, cl_end h]; rfl
end Go.Proofs.YthgknegocfhdbaaDoor
namespace Go.Proofs
open Go.Shelf
def Tryd.laysB_ren : Go.Shelf.Ren := ⟨fun | 156 => 45 | 167 => 40 | 165 => 55 | 166 => 44 | 169 => 41 | 240 => 54 | 241 => 68 | 276 => 67 | 277 => 75 | n => n, fun | 31 => 60 | 9 => 9 | 3 => 3 | 4 => 4 | 0 => 0 | 20 => 20 | 72 => 64 | 76 => 72 | 70 => 61 | 37 => 62 | 75 => 68 | 127 => 79 | 164 => 89 | 5 => 5 | 80 => 70 | n => n, fun | n => n⟩
theorem Tryd.lays167 : Go.Proofs.Lays.n167 Tryd.prog Tryd.laysB_ren := {
  mixed := by kernel_rfl
  f167 := Tryd.func40.trans (congrArg some (by kernel_rfl))
  f240 := Tryd.func54.trans (congrArg some (by kernel_rfl))
  f276 := Tryd.func67.trans (congrArg some (by kernel_rfl))
  t0 := Tryd.underlying0
  a0 := Tryd.isAgg0
  z0 := Tryd.sizeOf0
  v0 := Tryd.zeroValue0
  t4 := Tryd.underlying4
  a4 := Tryd.isAgg4
  z4 := Tryd.sizeOf4
  v4 := Tryd.zeroValue4
  t5 := Tryd.underlying5
  a5 := Tryd.isAgg5
  z5 := Tryd.sizeOf5
  v5 := Tryd.zeroValue5
  t9 := Tryd.underlying9
  a9 := Tryd.isAgg9
  z9 := Tryd.sizeOf9
  v9 := Tryd.zeroValue9
  t20 := Tryd.underlying20
  a20 := Tryd.isAgg20
  z20 := Tryd.sizeOf20
  v20 := Tryd.zeroValue20
  t37 := Tryd.underlying62
  a37 := Tryd.isAgg62
  z37 := Tryd.sizeOf62
  v37 := Tryd.zeroValue62
  t70 := Tryd.underlying61
  a70 := Tryd.isAgg61
  z70 := Tryd.sizeOf61
  v70 := Tryd.zeroValue61
  t72 := Tryd.underlying64
  a72 := Tryd.isAgg64
  z72 := Tryd.sizeOf64
  v72 := Tryd.zeroValue64
  t75 := Tryd.underlying68
  a75 := Tryd.isAgg68
  z75 := Tryd.sizeOf68
  v75 := Tryd.zeroValue68
  t164 := Tryd.underlying89
  a164 := Tryd.isAgg89
  z164 := Tryd.sizeOf89
  v164 := Tryd.zeroValue89 }
theorem Tryd.lays166 : Go.Proofs.Lays.n166 Tryd.prog Tryd.laysB_ren := {
  mixed := by kernel_rfl
  f166 := Tryd.func44.trans (congrArg some (by kernel_rfl))
  f240 := Tryd.func54.trans (congrArg some (by kernel_rfl))
  f276 := Tryd.func67.trans (congrArg some (by kernel_rfl))
  t0 := Tryd.underlying0
  a0 := Tryd.isAgg0
  z0 := Tryd.sizeOf0
  v0 := Tryd.zeroValue0
  t3 := Tryd.underlying3
  a3 := Tryd.isAgg3
  z3 := Tryd.sizeOf3
  v3 := Tryd.zeroValue3
  t4 := Tryd.underlying4
  a4 := Tryd.isAgg4
  z4 := Tryd.sizeOf4
  v4 := Tryd.zeroValue4
  t9 := Tryd.underlying9
  a9 := Tryd.isAgg9
  z9 := Tryd.sizeOf9
  v9 := Tryd.zeroValue9
  t20 := Tryd.underlying20
  a20 := Tryd.isAgg20
  z20 := Tryd.sizeOf20
  v20 := Tryd.zeroValue20
  t37 := Tryd.underlying62
  a37 := Tryd.isAgg62
  z37 := Tryd.sizeOf62
  v37 := Tryd.zeroValue62
  t70 := Tryd.underlying61
  a70 := Tryd.isAgg61
  z70 := Tryd.sizeOf61
  v70 := Tryd.zeroValue61
  t72 := Tryd.underlying64
  a72 := Tryd.isAgg64
  z72 := Tryd.sizeOf64
  v72 := Tryd.zeroValue64
  t75 := Tryd.underlying68
  a75 := Tryd.isAgg68
  z75 := Tryd.sizeOf68
  v75 := Tryd.zeroValue68
  t164 := Tryd.underlying89
  a164 := Tryd.isAgg89
  z164 := Tryd.sizeOf89
  v164 := Tryd.zeroValue89 }
theorem Tryd.Builder_Extra_B : Builder.Extra Tryd.prog Tryd.laysB_ren := {
  sizeBuilder := by kernel_rfl
  liesBuilder := by kernel_rfl
  t5 := Tryd.underlying5
  a5 := Tryd.isAgg5
  z5 := Tryd.sizeOf5
  v5 := Tryd.zeroValue5
  infoByte := by kernel_rfl
  cellsByte := by kernel_rfl
  sizeByte := by kernel_rfl
  neB5 := by decide }
open Go.RowKit in theorem Tryd.Builder_WriteByte (B b : Nat) (bs : List Value) (c : Int) (w : World) (h : Lib.IsBuilder 64 5 B b bs w) (hlen : bs.length + 1 ≤ 140737488355328) (hBw : B ≤ w.heap.size) :
    Calls Tryd.prog 40 #[.pointer (some ⟨b, 0, none⟩), .int .u8 c] w fun e w' => e = .returned .nilIface ∧ (Lib.BuilderAt 64 5 B b (.pointer (some ⟨b, 0, none⟩)) (bs ++ [.int .u8 c]) w' ∧ Below B w w') := Any.Builder_WriteByte Tryd.lays167 Tryd.Builder_Extra_B B b bs c w h hlen hBw
open Go.RowKit in theorem Tryd.Builder_WriteString (B b : Nat) (bs : List Value) (s : ByteArray) (w : World) (h : Lib.IsBuilder 64 5 B b bs w) (hlen : bs.length + s.size ≤ 140737488355328) (hBw : B ≤ w.heap.size) :
    Calls Tryd.prog 44 #[.pointer (some ⟨b, 0, none⟩), .string s] w fun e w' => e = .returned (.tuple #[.int .i64 s.size, .nilIface]) ∧ (Lib.BuilderAt 64 5 B b (.pointer (some ⟨b, 0, none⟩)) (bs ++ Lib.strCells s) w' ∧ Below B w w') := Any.Builder_WriteString Tryd.lays166 Tryd.Builder_Extra_B B b bs s w h hlen hBw
end Go.Proofs
/-
 lex.Unquote.
-/
namespace Go.Proofs.YthgknegocfhdbaaDoor.V
open Go.RowKit
section
variable {P : Program} {o : Oper} {n : Nat} {l : List (Nat × Value)} {w : World} {ops : Array Oper} {rest : List Oper} {Q : Exit → Act → World → Prop}
theorem wl_callx (g : FuncId) (xs : List Operand) (ats : Array TypeId) (args : List Value) {F : Ending → World → Prop} (ho : o.op = .call { callee := .value (.func g), args := xs.toArray, argTypes := ats }) (hx : xs.map (evl n l) = args)
  (h : ∀ args w, (callFunc g args).run P w = .ok (.enter g args) w)
  (hc : Calls P g args.toArray w F) (hg : wnt n l ops o = true) (hk : ∀ v w', F v w' → ∃ u, v = .returned u ∧ WL P ops Q rest n (ext l o.dst u) w') : WL P ops Q (o :: rest) n l w := by
 have e : (execOp (evl n l) o).run P w = .ok (.enter g args.toArray) w := by
  obtain ⟨dst, op, ty, pos, after, guard⟩ := o
  simp only at ho
  subst ho hx
  have e2 := execOp_call_go (fr n l) dst g xs.toArray ats ty pos after guard
  rw [fr_eval] at e2
  rw [e2, h]
  simp
 refine ⟨l_step hg ?_⟩
 unfold Oper.wp; rw [fr_eval, e, Oper.upon_enter]
 refine hc.mono ?_
 intro e w' hF
 obtain ⟨u, rfl, hW⟩ := hk e w' hF
 show wpList _ _ _ _ _ _
 rw [fr_put]
 exact hW.out
end
section
variable {o : Oper} {n : Nat} {l : List (Nat × Value)} {w : World} {ops : Array Oper} {rest : List Oper} {Q : Exit → Act → World → Prop}
theorem wl_new64 (ho : o.op = .alloc 64) (hg : wnt n l ops o = true) (hk : ∀ k w', w.heap.size = k → Mw w w' → (∀ B, B ≤ k → Lib.IsBuilder 64 5 B k [] w') → WL Tryd.prog ops Q rest n (ext l o.dst (pt k 0)) w') : WL Tryd.prog ops Q (o :: rest) n l w :=
 ⟨l_step hg (o_val (pt w.heap.size 0) (w' := w.alloc (.cells #[.pointer none, .slice none 0 0] 64)) (by unfold execOp; rw [ho]; kernel_rfl) (hk _ _ rfl ((Mw.refl _).alloc _ _) (fun B hB => Or.inl ⟨hB, .slice none 0 0, by show (w.heap.push _)[w.heap.size]? = _; rw [Array.getElem?_push, if_pos rfl], ⟨rfl, .inl ⟨rfl, rfl⟩⟩, by simp [Value.ownBlock]⟩)).out)⟩
end
theorem IB.mw {T e B b : Nat} {bs : List Value} {w w' : World} (h : Lib.IsBuilder T e B b bs w) (m : Mw w w') : Lib.IsBuilder T e B b bs w' := by
 have key : ∀ p, Lib.BuilderAt T e B b p bs w → Lib.BuilderAt T e B b p bs w' := fun p ⟨hB, v, hb, ho, hn⟩ =>
  ⟨hB, v, (m.block b (Array.getElem?_eq_some_iff.1 hb).1).trans hb, ho.kept (row := none) ⟨m.os, m.tape, m.output, m.size, fun k hk _ => m.block k hk⟩ (by cases e : v.ownBlock <;> simp), hn⟩
 rcases h with h | h
 ·exact Or.inl (key _ h)
 ·exact Or.inr (key _ h)
theorem bt_rg (s : ByteArray) (k : Nat) : 0 ≤ bt s k ∧ bt s k ≤ 255 := by
 unfold bt
 split
 ·have := UInt8.toNat_lt s[k]; omega
 ·omega
theorem hexB_ok (h l : Int) : 0 ≤ (hexB h l).1 ∧ (hexB h l).1 ≤ 255 ∧ 0 ≤ (hexB h l).2 ∧ (hexB h l).2 ≤ 4 := by
 unfold hexB
 split
 ·decide
 ·rename_i h0
  have h1 := hxd_cases h
  have h2 := hxd_cases l
  split
  ·decide
  ·show 0 ≤ 16 * hxd h + hxd l ∧ 16 * hxd h + hxd l ≤ 255 ∧ (0 : Int) ≤ 4 ∧ (4 : Int) ≤ 4
   rcases h1 with h1 | ⟨a, ha, h1⟩
   ·omega
   ·rcases h2 with h2 | ⟨b, hb, h2⟩ <;> omega
theorem fb_ok {s : ByteArray} (h0 : 0 < s.size) : 0 ≤ (fb s).1 ∧ (fb s).1 ≤ 255 ∧ 0 ≤ (fb s).2 ∧ (fb s).2 ≤ s.size := by
 have b0 := bt_rg s 0
 have b1 := bt_rg s 1
 unfold fb
 split
 ·split
  ·exact ⟨by decide, by decide, by decide, by omega⟩
  ·exact ⟨b0.1, b0.2, by show (0 : Int) ≤ 1; decide, by show (1 : Int) ≤ _; omega⟩
 ·split
  ·exact ⟨by decide, by decide, by decide, by omega⟩
  ·split
   ·exact ⟨b1.1, b1.2, by show (0 : Int) ≤ 2; decide, by show (2 : Int) ≤ _; omega⟩
   ·split
    ·rename_i h4
     have := hexB_ok (bt s 2) (bt s 3)
     omega
    ·exact ⟨by decide, by decide, by decide, by omega⟩
def uq (r : ByteArray) : Option (List UInt8) :=
 if r.size = 0 then some [] else if _h : (fb r).2 ≤ 0 then none else (uq (r.extract (fb r).2.toNat r.size)).map (fun t => (fb r).1.toNat.toUInt8 :: t)
termination_by r.size
decreasing_by rw [ByteArray.size_extract]; omega
def unq (s : ByteArray) : ByteArray × Bool :=
 if s.size < 2 ∨ (bt s 0 == 34) = false ∨ (bt s (s.size - 1) == 34) = false then (⟨#[]⟩, false)
 else match uq (s.extract 1 (s.size - 1)) with
  | none => (⟨#[]⟩, false)
  | some l => (⟨l.toArray⟩, true)
theorem uq_0 {r : ByteArray} (h : r.size = 0) : uq r = some [] := by rw [uq, if_pos h]
theorem uq_x {r : ByteArray} (h : ¬ r.size = 0) (h2 : (fb r).2 = 0) : uq r = none := by rw [uq, if_neg h, dif_pos (by omega)]
theorem uq_s {r : ByteArray} {c : Int} {u : Nat} (h : ¬ r.size = 0) (hc : (fb r).1 = c) (hu : (fb r).2 = (u : Int)) (h2 : u ≠ 0) : uq r = (uq (r.extract u r.size)).map (fun t => c.toNat.toUInt8 :: t) := by
 rw [uq, if_neg h, dif_neg (by omega), hc, hu]; rfl
theorem bc_snoc {L : List UInt8} {c : Int} (h : 0 ≤ c ∧ c ≤ 255) : Lib.byteCells L ++ [.int .u8 c] = Lib.byteCells (L ++ [c.toNat.toUInt8]) := by
 unfold Lib.byteCells
 rw [List.map_append]
 have e : ((c.toNat.toUInt8).toNat : Int) = c := by
  rw [Nat.toUInt8, UInt8.toNat_ofNat']
  omega
 show _ = _ ++ [Value.int .u8 ((c.toNat.toUInt8).toNat : Int)]
 rw [e]
theorem nez9 {s : ByteArray} {r : Bool} (h : decide (s.size = 0) = r) (x y : Operand) (w : World) : (do eqGuard .neq 9 x y (.string s) (.string ⟨#[]⟩); binOp .neq 9 (.string s) (.string ⟨#[]⟩)).run Tryd.prog w = .ok (.bool (!r)) w := by
 refine nee_run (r := r) ?_ _ _ _
 rw [← h, Lib.toList_data, Bool.eq_iff_iff, decide_eq_true_iff, ← by8_len, List.isEmpty_iff]
 exact List.length_eq_zero_iff.symm
theorem subN1 {a : Nat} (h : 1 ≤ a) (h2 : a ≤ 9223372036854775807) (x y : Operand) (w : World) : (do eqGuard .sub 3 x y (.int .i64 (a : Int)) (.int .i64 1); binOp .sub 3 (.int .i64 (a : Int)) (.int .i64 1)).run Tryd.prog w = .ok (.int .i64 ((a - 1 : Nat) : Int)) w := by
 have e : (do eqGuard .sub 3 x y (.int .i64 (a : Int)) (.int .i64 1); binOp .sub 3 (.int .i64 (a : Int)) (.int .i64 1)).run Tryd.prog w = .ok (.int .i64 (IntKind.i64.wrap ((a : Int) - 1))) w := by kernel_rfl
 have h3 : IntKind.i64.wrap ((a : Int) - 1) = ((a - 1 : Nat) : Int) := by rw [IntKind.wrap_i64]; omega
 rw [e, h3]
theorem fb_c {r : ByteArray} {c : Int} {u : Nat} (h0 : 0 < r.size) (hc : (fb r).1 = c) (hu : (fb r).2 = (u : Int)) (w : World) : Calls Tryd.prog 39 #[.string r] w fun e w' => e = .returned (.tuple #[.int .u8 c, .int .i64 (u : Int)]) ∧ Mw w w' := by
 have h := wk (firstByte_n r w h0)
 rw [hc, hu] at h; exact h
theorem unquote_n (s : ByteArray) (w : World) (hs : s.size ≤ 140737488355328) : Calls Tryd.prog 20 #[.string s] w fun e w' => e = .returned (.tuple #[.string (unq s).1, .bool (unq s).2]) ∧ Mw w w' := by
 refine w_enter 44 Tryd.func20 Tryd.ntmps20 rfl rfl ?_
 have M : Mw w w := Mw.refl _
 refine w_seq (w_reg ?_)
 refine wl_m (.const (.string ⟨#[]⟩)) (.string ⟨#[]⟩) ?_
 refine wl_m (.const (.bool false)) (.bool false) ?_
 refine w_nil (xn_then (w_seq (w_seq ?_)))
 cases hf0 : decide (s.size < 2) with
 | true =>
  have hf0p := of_decide_eq_true hf0
  refine w_reg ?_
  refine wl_m (.tmp 0) (.string s) ?_
  refine wl_val (.int .i64 ((s.size : Nat) : Int)) (len_s _ _ s (by exact rfl) _ _ _ _ _ _) rfl ?_
  refine wl_b .lss 3 (.tmp 9) (.const (.int .i64 (2))) (.int .i64 ((s.size : Nat) : Int)) (.int .i64 (2)) (.bool true) (ltN hf0 _ _ _) ?_
  refine wl_m (.tmp 10) (.bool true) ?_
  refine wl_skip rfl (wl_skip rfl (wl_skip rfl ?_))
  refine wl_pick (.tmp 11) (.const (.bool true)) (.tmp 14) true (.bool true) (fun _ => rfl) rfl rfl rfl ?_
  refine wl_m (.tmp 15) (.bool true) ?_
  refine wl_skip rfl (wl_skip rfl (wl_skip rfl (wl_skip rfl (wl_skip rfl (wl_skip rfl ?_)))))
  refine wl_pick (.tmp 16) (.const (.bool true)) (.tmp 22) true (.bool true) (fun _ => rfl) rfl rfl rfl ?_
  refine w_nil (xn_then (w_condT rfl (w_seq (w_reg ?_))))
  refine wl_m (.const (.string ⟨#[]⟩)) (.string ⟨#[]⟩) ?_
  refine wl_m (.const (.bool false)) (.bool false) ?_
  refine w_nil (xn_then (w_ret (xr_then ?_)))
  exact w_ret2 _ _ (.string ⟨#[]⟩) (.bool false) rfl rfl rfl ⟨by unfold unq; rw [if_pos (Or.inl hf0p)], M⟩
 | false =>
  have hf0p := of_decide_eq_false hf0
  cases hf1 : (bt s (0) == 34) with
  | true =>
   cases hf2 : (bt s (s.size - 1) == 34) with
   | true =>
    refine w_reg ?_
    refine wl_m (.tmp 0) (.string s) ?_
    refine wl_val (.int .i64 ((s.size : Nat) : Int)) (len_s _ _ s (by exact rfl) _ _ _ _ _ _) rfl ?_
    refine wl_b .lss 3 (.tmp 9) (.const (.int .i64 (2))) (.int .i64 ((s.size : Nat) : Int)) (.int .i64 (2)) (.bool false) (ltN hf0 _ _ _) ?_
    refine wl_m (.tmp 10) (.bool false) ?_
    refine wl_m (.tmp 0) (.string s) ?_
    refine wl_bin (fun x y => Instr.index 9 x y) (.tmp 12) (.const (.int .i64 (0))) (.string s) (.int .i64 (0)) (.int .u8 (bt s (0))) (fun _ => rfl) rfl rfl (idx_b (k := 0) (by omega) _) rfl ?_
    refine wl_b .neq 5 (.tmp 13) (.const (.int .u8 (34))) (.int .u8 (bt s (0))) (.int .u8 (34)) (.bool false) (ne5r hf1 _ _ _) ?_
    refine wl_pick (.tmp 11) (.const (.bool true)) (.tmp 14) false (.bool false) (fun _ => rfl) rfl rfl rfl ?_
    refine wl_m (.tmp 15) (.bool false) ?_
    refine wl_m (.tmp 0) (.string s) ?_
    refine wl_m (.tmp 0) (.string s) ?_
    refine wl_val (.int .i64 ((s.size : Nat) : Int)) (len_s _ _ s (by exact rfl) _ _ _ _ _ _) rfl ?_
    refine wl_b .sub 3 (.tmp 19) (.const (.int .i64 (1))) (.int .i64 ((s.size : Nat) : Int)) (.int .i64 (1)) (.int .i64 ((s.size - 1 : Nat) : Int)) (subN1 (by omega) (by omega) _ _ _) ?_
    refine wl_bin (fun x y => Instr.index 9 x y) (.tmp 17) (.tmp 20) (.string s) (.int .i64 ((s.size - 1 : Nat) : Int)) (.int .u8 (bt s (s.size - 1))) (fun _ => rfl) rfl rfl (idx_b (k := s.size - 1) (by omega) _) rfl ?_
    refine wl_b .neq 5 (.tmp 21) (.const (.int .u8 (34))) (.int .u8 (bt s (s.size - 1))) (.int .u8 (34)) (.bool false) (ne5r hf2 _ _ _) ?_
    refine wl_pick (.tmp 16) (.const (.bool true)) (.tmp 22) false (.bool false) (fun _ => rfl) rfl rfl rfl ?_
    refine w_nil (xn_then (w_condF rfl (w_skip (xn_then (w_seq (w_reg ?_))))))
    refine wl_new64 rfl rfl ?_
    intro kb wb hkb hq hIB
    replace hIB := hIB w.heap.size (by have := M.size; omega)
    replace M := M.trans hq
    clear hq
    refine w_nil (xn_then (w_seq (w_seq (w_reg ?_))))
    refine wl_m (.tmp 0) (.string s) ?_
    refine wl_m (.tmp 0) (.string s) ?_
    refine wl_val (.int .i64 ((s.size : Nat) : Int)) (len_s _ _ s (by exact rfl) _ _ _ _ _ _) rfl ?_
    refine wl_b .sub 3 (.tmp 26) (.const (.int .i64 (1))) (.int .i64 ((s.size : Nat) : Int)) (.int .i64 (1)) (.int .i64 ((s.size - 1 : Nat) : Int)) (subN1 (by omega) (by omega) _ _ _) ?_
    refine wl_val (.string (s.extract (1) (s.size - 1))) (mid_run _ _ _ _ s (1) (s.size - 1) (by exact rfl) (by exact rfl) (by exact rfl) (by omega) (by omega) _ _ _ _ _ _) rfl ?_
    refine wl_m (.tmp 28) (.string (s.extract (1) (s.size - 1))) ?_
    refine w_nil (xn_then (w_block ?_))
    have hun : unq s = (match uq (s.extract 1 (s.size - 1)) with | none => (⟨#[]⟩, false) | some l => (⟨l.toArray⟩, true)) := by unfold unq; rw [if_neg (fun e => by rcases e with e | e | e; (exact hf0p e); (rw [hf1] at e; cases e); (rw [hf2] at e; cases e))]
    refine w_loop (fun m l w1 => ∃ (r : ByteArray) (L : List UInt8), m = r.size ∧ look l 4 = pt kb 0 ∧ look l 5 = .string r ∧ Lib.IsBuilder 64 5 w.heap.size kb (Lib.byteCells L) w1 ∧ uq (s.extract 1 (s.size - 1)) = (uq r).map (L ++ ·) ∧ L.length + r.size ≤ s.size ∧ Mw w w1) _ ⟨s.extract 1 (s.size - 1), [], rfl, rfl, rfl, hIB, by cases uq (s.extract 1 (s.size - 1)) <;> rfl, by rw [ByteArray.size_extract]; simp only [List.length_nil]; omega, M⟩ ?_
    clear M hIB
    rintro m l wl ⟨r, L, rfl, e4, e5, hIB, hU, hL, M⟩
    by_cases hr : r.size = 0
    ·have hrd := decide_eq_true hr
     rw [uq_0 hr] at hU
     rw [hU] at hun
     refine w_seq (w_seq (w_reg ?_))
     refine wl_mv (.tmp 5) (.string r) (fun _ => rfl) e5 rfl ?_
     refine wl_b .neq 9 (.tmp 29) (.const (.string ⟨#[]⟩)) (.string r) (.string ⟨#[]⟩) (.bool false) (nez9 hrd _ _ _) ?_
     refine w_nil (xn_then (w_condF rfl (w_exit (xx_then (xx_then (xx_blk (xn_then (w_seq (w_reg ?_)))))))))
     refine wl_callx 41 [(.tmp 4)] _ [pt kb 0] rfl (li1 e4) (fun _ _ => by kernel_rfl) (Tryd.Builder_String_any w.heap.size kb L _ hIB M.size) rfl ?_
     rintro _ w11 ⟨rfl, hq⟩
     refine ⟨_, rfl, ?_⟩
     replace M := Below.trans M hq
     refine wl_m (.tmp 43) (.string ⟨L.toArray⟩) ?_
     refine wl_m (.const (.bool true)) (.bool true) ?_
     refine w_nil (xn_then (w_ret ?_))
     exact w_ret2 _ _ (.string ⟨L.toArray⟩) (.bool true) rfl rfl rfl ⟨by rw [hun]; simp, M⟩
    ·have hrd := decide_eq_false hr
     have hr0 : 0 < r.size := by omega
     have hfb := fb_ok hr0
     obtain ⟨c, hc⟩ : ∃ c, (fb r).1 = c := ⟨_, rfl⟩
     obtain ⟨u, hu⟩ : ∃ u : Nat, (fb r).2 = (u : Int) := ⟨(fb r).2.toNat, by omega⟩
     rw [hc, hu] at hfb
     have hcr : 0 ≤ c ∧ c ≤ 255 := ⟨hfb.1, hfb.2.1⟩
     refine w_seq (w_seq (w_reg ?_))
     refine wl_mv (.tmp 5) (.string r) (fun _ => rfl) e5 rfl ?_
     refine wl_b .neq 9 (.tmp 29) (.const (.string ⟨#[]⟩)) (.string r) (.string ⟨#[]⟩) (.bool true) (nez9 hrd _ _ _) ?_
     refine w_nil (xn_then (w_condT rfl (w_skip (xn_then (w_block (w_seq (w_reg ?_)))))))
     refine wl_mv (.tmp 5) (.string r) (fun _ => rfl) e5 rfl ?_
     refine wl_call 39 [(.tmp 32)] _ [.string r] (.tuple #[.int .u8 (c), .int .i64 ((u : Nat) : Int)]) rfl rfl (fun _ _ => by kernel_rfl) (fb_c hr0 hc hu _) rfl ?_
     intro w11 hq
     replace hIB := IB.mw hIB hq
     replace M := M.trans hq
     clear hq
     refine wl_m (.tmp 33) (.tuple #[.int .u8 (c), .int .i64 ((u : Nat) : Int)]) ?_
     refine wl_un (fun v => Instr.extract v 0) (.tmp 31) (.tuple #[.int .u8 (c), .int .i64 ((u : Nat) : Int)]) (.int .u8 (c)) (fun _ => rfl) rfl (by kernel_rfl) rfl ?_
     refine wl_un (fun v => Instr.extract v 1) (.tmp 31) (.tuple #[.int .u8 (c), .int .i64 ((u : Nat) : Int)]) (.int .i64 ((u : Nat) : Int)) (fun _ => rfl) rfl (by kernel_rfl) rfl ?_
     refine wl_m (.tmp 34) (.int .u8 (c)) ?_
     refine wl_m (.tmp 35) (.int .i64 ((u : Nat) : Int)) ?_
     refine w_nil (xn_then (w_seq (w_seq ?_)))
     cases hf20 : decide (u = 0) with
     | true =>
      have hf20p := of_decide_eq_true hf20
      refine w_reg ?_
      refine wl_m (.tmp 7) (.int .i64 ((u : Nat) : Int)) ?_
      refine wl_b .eql 3 (.tmp 36) (.const (.int .i64 (0))) (.int .i64 ((u : Nat) : Int)) (.int .i64 (0)) (.bool true) (eqN hf20 _ _ _) ?_
      refine w_nil (xn_then (w_condT rfl (w_seq (w_reg ?_))))
      refine wl_m (.const (.string ⟨#[]⟩)) (.string ⟨#[]⟩) ?_
      refine wl_m (.const (.bool false)) (.bool false) ?_
      refine w_nil (xn_then (w_ret (xr_then (xr_blk (xr_then (xr_blk (xr_then ?_)))))))
      exact w_ret2 _ _ (.string ⟨#[]⟩) (.bool false) rfl rfl rfl ⟨by rw [hun, hU, uq_x hr (by omega)]; rfl, M⟩
     | false =>
      have hf20p := of_decide_eq_false hf20
      refine w_reg ?_
      refine wl_m (.tmp 7) (.int .i64 ((u : Nat) : Int)) ?_
      refine wl_b .eql 3 (.tmp 36) (.const (.int .i64 (0))) (.int .i64 ((u : Nat) : Int)) (.int .i64 (0)) (.bool false) (eqN hf20 _ _ _) ?_
      refine w_nil (xn_then (w_condF rfl (w_skip (xn_then (w_seq (w_reg ?_))))))
      refine wl_m (.tmp 6) (.int .u8 (c)) ?_
      refine wl_callx 40 [(.tmp 4), (.tmp 38)] _ [pt kb 0, .int .u8 (c)] rfl (li2 e4 rfl) (fun _ _ => by kernel_rfl) (Tryd.Builder_WriteByte w.heap.size kb (Lib.byteCells L) c _ hIB (by rw [Lib.byteCells_length]; omega) M.size) rfl ?_
      rintro _ w12 ⟨rfl, hBA, hq⟩
      refine ⟨_, rfl, ?_⟩
      rw [bc_snoc hcr] at hBA
      have hIB : Lib.IsBuilder 64 5 w.heap.size kb (Lib.byteCells (L ++ [c.toNat.toUInt8])) w12 := Or.inr hBA
      replace M := Below.trans M hq
      refine w_nil (xn_then (w_reg ?_))
      refine wl_mv (.tmp 5) (.string r) (fun _ => rfl) e5 rfl ?_
      refine wl_m (.tmp 7) (.int .i64 ((u : Nat) : Int)) ?_
      refine wl_val (.string (r.extract (u) r.size)) (lo2_run _ _ _ r (u) (by exact rfl) (by exact rfl) (by omega) _ _ _ _ _ _) rfl ?_
      refine wl_m (.tmp 42) (.string (r.extract (u) r.size)) ?_
      refine w_nil (xn_blk ?_)
      exact xn_loop (r.extract u r.size).size (by rw [ByteArray.size_extract]; omega) ⟨r.extract u r.size, L ++ [c.toNat.toUInt8], rfl, e4, rfl, hIB, by rw [hU, uq_s hr hc hu (by omega)]; cases uq (r.extract u r.size) <;> simp, by rw [ByteArray.size_extract, List.length_append]; simp only [List.length_singleton]; omega, M⟩
   | false =>
    refine w_reg ?_
    refine wl_m (.tmp 0) (.string s) ?_
    refine wl_val (.int .i64 ((s.size : Nat) : Int)) (len_s _ _ s (by exact rfl) _ _ _ _ _ _) rfl ?_
    refine wl_b .lss 3 (.tmp 9) (.const (.int .i64 (2))) (.int .i64 ((s.size : Nat) : Int)) (.int .i64 (2)) (.bool false) (ltN hf0 _ _ _) ?_
    refine wl_m (.tmp 10) (.bool false) ?_
    refine wl_m (.tmp 0) (.string s) ?_
    refine wl_bin (fun x y => Instr.index 9 x y) (.tmp 12) (.const (.int .i64 (0))) (.string s) (.int .i64 (0)) (.int .u8 (bt s (0))) (fun _ => rfl) rfl rfl (idx_b (k := 0) (by omega) _) rfl ?_
    refine wl_b .neq 5 (.tmp 13) (.const (.int .u8 (34))) (.int .u8 (bt s (0))) (.int .u8 (34)) (.bool false) (ne5r hf1 _ _ _) ?_
    refine wl_pick (.tmp 11) (.const (.bool true)) (.tmp 14) false (.bool false) (fun _ => rfl) rfl rfl rfl ?_
    refine wl_m (.tmp 15) (.bool false) ?_
    refine wl_m (.tmp 0) (.string s) ?_
    refine wl_m (.tmp 0) (.string s) ?_
    refine wl_val (.int .i64 ((s.size : Nat) : Int)) (len_s _ _ s (by exact rfl) _ _ _ _ _ _) rfl ?_
    refine wl_b .sub 3 (.tmp 19) (.const (.int .i64 (1))) (.int .i64 ((s.size : Nat) : Int)) (.int .i64 (1)) (.int .i64 ((s.size - 1 : Nat) : Int)) (subN1 (by omega) (by omega) _ _ _) ?_
    refine wl_bin (fun x y => Instr.index 9 x y) (.tmp 17) (.tmp 20) (.string s) (.int .i64 ((s.size - 1 : Nat) : Int)) (.int .u8 (bt s (s.size - 1))) (fun _ => rfl) rfl rfl (idx_b (k := s.size - 1) (by omega) _) rfl ?_
    refine wl_b .neq 5 (.tmp 21) (.const (.int .u8 (34))) (.int .u8 (bt s (s.size - 1))) (.int .u8 (34)) (.bool true) (ne5r hf2 _ _ _) ?_
    refine wl_pick (.tmp 16) (.const (.bool true)) (.tmp 22) false (.bool true) (fun _ => rfl) rfl rfl rfl ?_
    refine w_nil (xn_then (w_condT rfl (w_seq (w_reg ?_))))
    refine wl_m (.const (.string ⟨#[]⟩)) (.string ⟨#[]⟩) ?_
    refine wl_m (.const (.bool false)) (.bool false) ?_
    refine w_nil (xn_then (w_ret (xr_then ?_)))
    exact w_ret2 _ _ (.string ⟨#[]⟩) (.bool false) rfl rfl rfl ⟨by unfold unq; rw [if_pos (Or.inr (Or.inr hf2))], M⟩
  | false =>
   refine w_reg ?_
   refine wl_m (.tmp 0) (.string s) ?_
   refine wl_val (.int .i64 ((s.size : Nat) : Int)) (len_s _ _ s (by exact rfl) _ _ _ _ _ _) rfl ?_
   refine wl_b .lss 3 (.tmp 9) (.const (.int .i64 (2))) (.int .i64 ((s.size : Nat) : Int)) (.int .i64 (2)) (.bool false) (ltN hf0 _ _ _) ?_
   refine wl_m (.tmp 10) (.bool false) ?_
   refine wl_m (.tmp 0) (.string s) ?_
   refine wl_bin (fun x y => Instr.index 9 x y) (.tmp 12) (.const (.int .i64 (0))) (.string s) (.int .i64 (0)) (.int .u8 (bt s (0))) (fun _ => rfl) rfl rfl (idx_b (k := 0) (by omega) _) rfl ?_
   refine wl_b .neq 5 (.tmp 13) (.const (.int .u8 (34))) (.int .u8 (bt s (0))) (.int .u8 (34)) (.bool true) (ne5r hf1 _ _ _) ?_
   refine wl_pick (.tmp 11) (.const (.bool true)) (.tmp 14) false (.bool true) (fun _ => rfl) rfl rfl rfl ?_
   refine wl_m (.tmp 15) (.bool true) ?_
   refine wl_skip rfl (wl_skip rfl (wl_skip rfl (wl_skip rfl (wl_skip rfl (wl_skip rfl ?_)))))
   refine wl_pick (.tmp 16) (.const (.bool true)) (.tmp 22) true (.bool true) (fun _ => rfl) rfl rfl rfl ?_
   refine w_nil (xn_then (w_condT rfl (w_seq (w_reg ?_))))
   refine wl_m (.const (.string ⟨#[]⟩)) (.string ⟨#[]⟩) ?_
   refine wl_m (.const (.bool false)) (.bool false) ?_
   refine w_nil (xn_then (w_ret (xr_then ?_)))
   exact w_ret2 _ _ (.string ⟨#[]⟩) (.bool false) rfl rfl rfl ⟨by unfold unq; rw [if_pos (Or.inr (Or.inl hf1))], M⟩
end Go.Proofs.YthgknegocfhdbaaDoor.V
/-
 A decimal text's parts: what the program's cuts make of them; digits with no 0 ahead.
-/
namespace Go.Proofs.YthgknegocfhdbaaDoor
open Go.RowKit
theorem dig_ne {x : UInt8} (h : isD x = true) (c : UInt8) (hc : isD c = false) : x ≠ c := fun e => by rw [e, hc] at h; cases h
theorem d45 : isD 45 = false := rfl
theorem d46 : isD 46 = false := rfl
theorem isD_b {x : UInt8} (h : isD x = true) : 48 ≤ (x.toNat : Int) ∧ (x.toNat : Int) ≤ 57 := by
 unfold isD at h; simpa using h
/-! The program's cuts. -/
theorem ixb_hit : ∀ (A B : List UInt8), (∀ x ∈ A, isD x = true) → Lib.indexByte (A ++ 46 :: B) 46 = (A.length : Int)
 | [], B, _ => by simp [Lib.indexByte]
 | a :: A, B, h => by
  have ha := dig_ne (h a (by simp)) 46 d46
  have ih := ixb_hit A B (fun x hx => h x (by simp [hx]))
  simp only [List.cons_append, Lib.indexByte, ih]
  rw [if_neg (by simpa using ha), if_neg (by simp)]
  simp
theorem ixb_miss : ∀ (A : List UInt8), (∀ x ∈ A, isD x = true) → Lib.indexByte A 46 = -1
 | [], _ => rfl
 | a :: A, h => by
  have ha := dig_ne (h a (by simp)) 46 d46
  have ih := ixb_miss A (fun x hx => h x (by simp [hx]))
  simp only [Lib.indexByte, ih]
  rw [if_neg (by simpa using ha)]
  rfl
theorem cut_df {A B : List UInt8} (h : ∀ x ∈ A, isD x = true) : (Lib.cut (A ++ (if B = [] then [] else 46 :: B)) [46]).1 = A ∧ (Lib.cut (A ++ (if B = [] then [] else 46 :: B)) [46]).2.1 = B := by
 unfold Lib.cut
 rw [Lib.index_one]
 by_cases hB : B = []
 ·subst hB
  rw [if_pos rfl, List.append_nil, ixb_miss A h]
  exact ⟨rfl, rfl⟩
 ·rw [if_neg hB, ixb_hit A B h, if_pos (by omega)]
  simp
theorem pre_df {l A B : List UInt8} {b : Bool} (h : Df l b A B) : Lib.hasPrefix l [45] = b ∧ Lib.trimPrefix l [45] = A ++ (if B = [] then [] else 46 :: B) := by
 have hp : Lib.hasPrefix l [45] = b := by
  rw [h.eq]
  unfold Lib.hasPrefix
  cases b with
  | true => rfl
  | false =>
   cases hA : A with
   | nil => exact absurd hA h.ne
   | cons a r =>
    have := dig_ne (h.ad a (by rw [hA]; simp)) 45 d45
    simp [sg8, List.isPrefixOf]
    exact fun e => this e.symm
 refine ⟨hp, ?_⟩
 unfold Lib.trimPrefix
 rw [hp]
 cases b with
 | true => rw [if_pos rfl, h.eq]; rfl
 | false => rw [if_neg (by simp), h.eq]; rfl
/-! Digits with no 0 ahead. -/
abbrev nl (l : List UInt8) : List Int := l.map fun x => (x.toNat : Int)
abbrev dw0 (l : List UInt8) : List UInt8 := l.dropWhile (· == 48)
structure Cn (z : List UInt8) : Prop where
 ne : z ≠ []
 dg : ∀ x ∈ z, isD x = true
 hd : z.length = 1 ∨ z.head? ≠ some 48
theorem dw0_mem {l : List UInt8} {x : UInt8} (h : x ∈ dw0 l) : x ∈ l := (List.dropWhile_sublist _).subset h
theorem dw0_head {l : List UInt8} : (dw0 l).head? ≠ some 48 := by
 intro h
 cases hd : dw0 l with
 | nil => rw [hd] at h; cases h
 | cons a r =>
  rw [hd] at h
  cases h
  have := List.head_dropWhile_not (p := (· == (48 : UInt8))) (l := l) (by rw [show l.dropWhile (· == 48) = 48 :: r from hd]; simp)
  simp only [show l.dropWhile (· == 48) = 48 :: r from hd] at this
  simp at this
theorem cn_woz {L : List UInt8} (h : ∀ x ∈ L, isD x = true) : Cn (woz L) := by
 unfold woz
 by_cases hz : L.dropWhile (· == 48) = []
 ·rw [if_pos hz]
  exact ⟨by simp, by intro x hx; simp at hx; subst hx; rfl, Or.inl rfl⟩
 ·rw [if_neg hz]
  exact ⟨hz, fun x hx => h x (dw0_mem hx), Or.inr dw0_head⟩
theorem cn_isT {z : List UInt8} (h : Cn z) : isT ⟨z.toArray⟩ := by
 have hl : (⟨z.toArray⟩ : ByteArray).size = z.length := tx_size z
 have hp : 0 < z.length := List.length_pos_iff.2 h.ne
 refine ⟨by omega, fun hh => ?_, fun j hj _ => ?_⟩
 ·obtain ⟨h1, h2⟩ := hh
  rcases h.hd with h3 | h3
  ·omega
  ·apply h3
   rw [List.head?_eq_getElem?, List.getElem?_eq_getElem hp]
   congr 1
   apply UInt8.toNat_inj.1
   have e48 : (48 : UInt8).toNat = 48 := rfl
   have h2' : ((z[0]).toNat : Int) = 48 := h2
   omega
 ·have hj' : j < z.length := by omega
  exact isD_b (h.dg (z[j]) (List.getElem_mem hj'))
theorem pvk_z8 (z : List UInt8) : pvk ⟨z.toArray⟩ (⟨z.toArray⟩ : ByteArray).size = pv z := by
 unfold pvk
 rw [tx_size]
 simp
theorem pv_nn : ∀ (z : List UInt8) (v : Int), (∀ x ∈ z, isD x = true) → 0 ≤ v → v ≤ z.foldl (fun v c => v * 10 + ((c.toNat : Int) - 48)) v
 | [], v, _, _ => by simp
 | x :: z, v, h, hv => by
  have hx := isD_b (h x (by simp))
  have := pv_nn z (v * 10 + ((x.toNat : Int) - 48)) (fun y hy => h y (by simp [hy])) (by omega)
  simp only [List.foldl_cons]
  omega
theorem pv_0 {z : List UInt8} (h : ∀ x ∈ z, isD x = true) : 0 ≤ pv z := pv_nn z 0 h (by omega)
theorem pv_pos {z : List UInt8} (h : ∀ x ∈ z, isD x = true) (hne : z ≠ []) (hh : z.head? ≠ some 48) : 0 < pv z := by
 cases z with
 | nil => exact absurd rfl hne
 | cons x r =>
  have hx := isD_b (h x (by simp))
  have hx48 : (x.toNat : Int) ≠ 48 := fun e => hh (by
   have : x = 48 := by
    apply UInt8.toNat_inj.1
    have e48 : (48 : UInt8).toNat = 48 := rfl
    omega
   rw [this]; rfl)
  have := pv_nn r (0 * 10 + ((x.toNat : Int) - 48)) (fun y hy => h y (by simp [hy])) (by omega)
  unfold pv
  simp only [List.foldl_cons]
  omega
theorem dw0_nil : ∀ (L : List UInt8), dw0 L = [] → ∀ y ∈ L, y = 48
 | [], _, y, hy => by cases hy
 | x :: L, e, y, hy => by
  by_cases hx : x = 48
  ·subst hx
   have e2 : dw0 L = [] := by simpa [dw0, List.dropWhile_cons] using e
   rcases List.mem_cons.1 hy with rfl | hy
   ·rfl
   ·exact dw0_nil L e2 y hy
  ·have : (x == 48) = false := beq_eq_false_iff_ne.2 hx
   simp [dw0, this] at e
theorem dw0_ne {L : List UInt8} (h : ∃ x ∈ L, x ≠ 48) : dw0 L ≠ [] := fun e => by
 obtain ⟨x, hx, hn⟩ := h
 exact hn (dw0_nil L e x hx)
abbrev nof (A B : List UInt8) : Int := pv (woz (A ++ B))
theorem Df.dg {l A B : List UInt8} {b : Bool} (h : Df l b A B) : ∀ x ∈ A ++ B, isD x = true := fun x hx => by
 rcases List.mem_append.1 hx with hx | hx
 ·exact h.ad x hx
 ·exact h.bd x hx
theorem Df.n0 {l A B : List UInt8} {b : Bool} (h : Df l b A B) : 0 ≤ nof A B := pv_0 (cn_woz h.dg).dg
theorem Df.ck {l A B : List UInt8} {b : Bool} (h : Df l b A B) (hk : B.length ≤ 18) : ck b (nof A B) (B.length : Int) = 0 := by
 unfold YthgknegocfhdbaaDoor.ck sc
 rw [decide_eq_true (show (0 : Int) ≤ (B.length : Int) by omega), decide_eq_true (show (B.length : Int) ≤ 18 by omega)]
 cases hb : b with
 | false => rfl
 | true =>
  have hne := dw0_ne (h.some hb)
  have : 0 < nof A B := by
   have hc := cn_woz h.dg
   refine pv_pos hc.dg hc.ne ?_
   unfold woz
   rw [if_neg hne]
   exact dw0_head
  rw [decide_eq_false (show ¬ nof A B = 0 by omega)]
  rfl
theorem nl_str (D : List UInt8) : strOf (nl D) = ⟨D.toArray⟩ := by
 have h := strOf_list (nl D)
 have e : (strOf (nl D)).data.toList = D := by
  rw [h, List.map_map]
  conv => rhs; rw [← List.map_id D]
  apply List.map_congr_left
  intro x _
  simp
 calc strOf (nl D) = ⟨(strOf (nl D)).data⟩ := rfl
  _ = ⟨(strOf (nl D)).data.toList.toArray⟩ := by rw [Array.toArray_toList]
  _ = ⟨D.toArray⟩ := by rw [e]
end Go.Proofs.YthgknegocfhdbaaDoor

/-
 Parse of a decimal text: what the program says.
-/
namespace Go.Proofs.YthgknegocfhdbaaDoor
open Go.RowKit
def pe (A B : List UInt8) : Int := if 18 < B.length then 31 else if nof A B < MM then 0 else 7
theorem lp_n {z : List UInt8} (hc : Cn z) (hl : z.length ≤ maxLen) (w : World) : Calls Tryd.prog 61 #[tx z] w fun e w' => e = .returned (.tuple #[nv (if pv z < MM then pv z else 0), .int .i64 (if pv z < MM then 0 else 7)]) ∧ Mo w w' := by
 haveI := Classical.propDecidable (isT ⟨z.toArray⟩)
 refine (parse_n ⟨z.toArray⟩ w (by rw [tx_size]; exact hl)).mono fun e w' ⟨he, hm⟩ => ⟨?_, hm⟩
 rw [he, if_pos (cn_isT hc)]
 unfold resP
 rw [pvk_z8]
 by_cases h : pv z < MM
 ·rw [if_pos h, if_pos h, if_pos h]
 ·rw [if_neg h, if_neg h, if_neg h]; rfl
theorem Df.len {l A B : List UInt8} {b : Bool} (h : Df l b A B) : A.length + B.length ≤ l.length := by
 rw [h.eq]
 by_cases hB : B = []
 ·rw [if_pos hB, hB]; simp
 ·rw [if_neg hB]; simp; omega
theorem woz_len2 {L : List UInt8} (h : L ≠ []) : (woz L).length ≤ L.length := by
 have hp := List.length_pos_iff.2 h
 unfold woz
 split
 ·simp; omega
 ·exact (List.dropWhile_sublist (p := (· == (48 : UInt8))) (l := L)).length_le
def pva (b : Bool) (A B : List UInt8) : Value := if pe A B = 0 then .tuple #[dc b (nof A B) (B.length : Int), .int .i64 0] else er (pe A B)
theorem parse13_df {s : ByteArray} {b : Bool} {A B : List UInt8} (h : Df (by8 s) b A B) (hs : s.size ≤ maxLen) (w : World) : Calls Tryd.prog 48 #[.string s] w fun e w' => e = .returned (pva b A B) ∧ Mo w w' := by
 have hi : ∀ w, Calls Tryd.prog 58 #[.string s] w fun e w' => e = .returned (.bool true) ∧ Mo w w' := fun w => by
  have := isDec_n s w hs; rw [dec_df h] at this; exact this
 obtain ⟨hp1, hp2⟩ := pre_df h
 have hC : ∀ w, Calls Tryd.prog 59 #[.string s, .string ⟨#[45]⟩] w fun e w' => e = .returned (.tuple #[tx (A ++ (if B = [] then [] else 46 :: B)), .bool b]) ∧ Mo w w' := fun w => by
  refine (Tryd.strings_CutPrefix s ⟨#[45]⟩ w).mono fun e w' ⟨he, hm⟩ => ⟨?_, by rw [hm]; exact Mo.refl _⟩
  rw [he]
  show Ending.returned (.tuple #[tx (Lib.trimPrefix (by8 s) [45]), .bool (Lib.hasPrefix (by8 s) [45])]) = _
  rw [hp1, hp2]
 have hlen := h.len
 rw [by8_len] at hlen
 have hlt : (A ++ (if B = [] then [] else 46 :: B)).length ≤ s.size := by
  rw [← by8_len, h.eq]; simp only [List.length_append]; omega
 obtain ⟨hc1, hc2⟩ := cut_df (B := B) h.ad
 have hD : ∀ w, Calls Tryd.prog 60 #[tx (A ++ (if B = [] then [] else 46 :: B)), .string ⟨#[46]⟩] w fun e w' => e = .returned (.tuple #[tx A, tx B, .bool (Lib.cut (A ++ (if B = [] then [] else 46 :: B)) [46]).2.2]) ∧ Mo w w' := fun w => by
  refine (cut_n ⟨(A ++ (if B = [] then [] else 46 :: B)).toArray⟩ 46 w (by rw [tx_size]; omega)).mono fun e w' ⟨he, hm⟩ => ⟨?_, hm⟩
  rw [he]
  show Ending.returned (.tuple #[tx (Lib.cut (A ++ (if B = [] then [] else 46 :: B)) [46]).1, tx (Lib.cut (A ++ (if B = [] then [] else 46 :: B)) [46]).2.1, .bool (Lib.cut (A ++ (if B = [] then [] else 46 :: B)) [46]).2.2]) = _
  rw [hc1, hc2]
 unfold pva pe
 by_cases h18 : 18 < B.length
 ·rw [if_pos h18, if_neg (by decide)]
  exact parse_b s w hi _ A B b _ hC hD (decide_eq_true (by omega))
 ·rw [if_neg h18]
  have hl : decide ((B.length : Int) > 18) = false := decide_eq_false (by omega)
  have hy : (⟨A.toArray⟩ : ByteArray) ++ ⟨B.toArray⟩ = ⟨(A ++ B).toArray⟩ := by
   have e : by8 ((⟨A.toArray⟩ : ByteArray) ++ ⟨B.toArray⟩) = A ++ B := by rw [by8_app]
   calc (⟨A.toArray⟩ : ByteArray) ++ ⟨B.toArray⟩ = ⟨((⟨A.toArray⟩ : ByteArray) ++ ⟨B.toArray⟩).data⟩ := rfl
    _ = ⟨(by8 ((⟨A.toArray⟩ : ByteArray) ++ ⟨B.toArray⟩)).toArray⟩ := by rw [Array.toArray_toList]
    _ = ⟨(A ++ B).toArray⟩ := by rw [e]
  have hZ : ∀ w, Calls Tryd.prog 62 #[.string ⟨(A ++ B).toArray⟩] w fun e w' => e = .returned (tx (woz (A ++ B))) ∧ Mo w w' := fun w => withoutZeros_n ⟨(A ++ B).toArray⟩ w
  have hwl := woz_len2 (L := A ++ B) (by simp [h.ne])
  simp only [List.length_append] at hwl
  have hP := fun w => lp_n (cn_woz h.dg) (by omega) w
  unfold maxLen at hs
  by_cases hM : nof A B < MM
  ·rw [if_pos hM, if_pos rfl]
   have hM' : pv (woz (A ++ B)) < MM := hM
   simp only [if_pos hM'] at hP
   exact parse_d s w hi _ A B b _ hC hD _ hl (by omega) _ hy hZ _ 0 hP rfl
  ·rw [if_neg hM, if_neg (by decide)]
   have hM' : ¬ pv (woz (A ++ B)) < MM := hM
   simp only [if_neg hM'] at hP
   exact parse_c s w hi _ A B b _ hC hD _ hl (by omega) _ hy hZ _ 7 hP rfl
theorem parse13_no {s : ByteArray} (h : isDec s = false) (hs : s.size ≤ maxLen) (w : World) : Calls Tryd.prog 48 #[.string s] w fun e w' => e = .returned (er 30) ∧ Mo w w' :=
 parse_a s w (fun w => by have := isDec_n s w hs; rw [h] at this; exact this)
end Go.Proofs.YthgknegocfhdbaaDoor

/-
 Bytes put behind a slice of one's own, and a slice's bytes as a text: the laws of the steps.
-/
namespace Go.Proofs.YthgknegocfhdbaaDoor
open Go.RowKit
theorem bsl (c : Int) (w : World) : (Instr.buildSlice 62 1 #[(0, .int .u8 c)]).run Tryd.prog w = .ok (.slice (some ⟨w.heap.size, 0, none⟩) 1 1) (w.alloc (.cells #[.int .u8 c] 5)) := by kernel_rfl
theorem inf5 : ∃ i, Tryd.prog.info? 5 = some i ∧ i.zero = some (.int .u8 0) ∧ i.size = 1 ∧ i.bytes = 1 := by
 have h : (Tryd.prog.info? 5).map (fun i => (i.zero, i.size, i.bytes)) = some (some (.int .u8 0), 1, 1) := by kernel_rfl
 cases hi : Tryd.prog.info? 5 with
 | none => rw [hi] at h; cases h
 | some i =>
  rw [hi] at h
  simp at h
  exact ⟨i, rfl, h.1, h.2.1, h.2.2⟩
structure AppW (v : Value) (w w' : World) : Prop where
 os : w'.os = w.os
 tape : w'.tape = w.tape
 output : w'.output = w.output
 size : w.heap.size ≤ w'.heap.size
 block : ∀ k, k < w.heap.size → v.ownBlock ≠ some k → w'.heap[k]? = w.heap[k]?
 fz : ∀ a, w'.frozen? a = w.frozen? a
theorem AppW.at {v : Value} {w w' : World} (h : AppW v w w') {j : Nat} {vs : List Value} (hA : At w j vs) (hn : v.ownBlock ≠ some j) : At w' j vs :=
 ⟨fun i u hu => (World.cell?_of_block (a := ⟨j, 0 + i, none⟩) (h.block j hA.2.2 hn)).trans (hA.1 i u hu), fun o => (h.fz _).trans (hA.2.1 o), Nat.lt_of_lt_of_le hA.2.2 h.size⟩
theorem AppW.mo {v : Value} {w w' a : World} (h : AppW v w w') (hM : Mo a w) (hn : ∀ k, v.ownBlock = some k → a.heap.size ≤ k) : Mo a w' :=
 ⟨⟨h.os.trans hM.1.os, h.tape.trans hM.1.tape, h.output.trans hM.1.output, Nat.le_trans hM.1.size h.size, fun k hk => (h.block k (Nat.lt_of_lt_of_le hk hM.1.size) (fun e => by have := hn k e; omega)).trans (hM.1.block k hk)⟩, fun x => (h.fz x).trans (hM.2 x)⟩
structure St2 (k : Nat) (w w' : World) : Prop extends St k w w' where
 os : w'.os = w.os
 tape : w'.tape = w.tape
 output : w'.output = w.output
 block : ∀ j, j ≠ k → w'.heap[j]? = w.heap[j]?
theorem heap_setCells (k j : Nat) (hj : j ≠ k) : ∀ (l : List Value) (o : Nat) (w : World), (w.setCells k o l).heap[j]? = w.heap[j]? ∧ (w.setCells k o l).os = w.os ∧ (w.setCells k o l).tape = w.tape ∧ (w.setCells k o l).output = w.output
 | [], _, _ => ⟨rfl, rfl, rfl, rfl⟩
 | v :: r, o, w => by
  have h := heap_setCells k j hj r (o + 1) (w.setCell ⟨k, o, none⟩ v)
  rw [World.setCells]
  refine ⟨h.1.trans ?_, h.2.1.trans rfl, h.2.2.1.trans rfl, h.2.2.2.trans rfl⟩
  simp [World.setCell, Array.getElem?_modify, Ne.symm hj]
theorem St2.mk2 (w : World) (k o : Nat) (l : List Value) : St2 k w (w.setCells k o l) :=
 { St.mk' w k o l with
  os := (heap_setCells k (k + 1) (by omega) l o w).2.1
  tape := (heap_setCells k (k + 1) (by omega) l o w).2.2.1
  output := (heap_setCells k (k + 1) (by omega) l o w).2.2.2
  block := fun j hj => (heap_setCells k j hj l o w).1 }
theorem own_st {w w' : World} {N k : Nat} {v : Value} {n : Nat} {xs : List Value} (m : St2 k w w') (h : w.ownsRow N 5 1 v n xs) (hne : v.ownBlock ≠ some k) : w'.ownsRow N 5 1 v n xs :=
 h.kept (row := some k) ⟨m.os, m.tape, m.output, Nat.le_of_eq m.size.symm, fun j _ hj => m.block j (fun e => hj (by rw [e]))⟩ (Or.inr hne)
section
variable {P : Program} {o : Oper} {n : Nat} {l : List (Nat × Value)} {w : World} {ops : Array Oper} {rest : List Oper} {Q : Exit → Act → World → Prop}
theorem wl_stx (ty : TypeId) (x y : Operand) (k off : Nat) (us : Array Value) (vs vs' : List Value) (hA : At w k vs) (ho : o.op = .store ty x y) (hd : o.dst = none) (hx : evl n l x = pt k off) (hy : evl n l y = .agg us)
  (hl : Nat.ble (off + us.size) vs.length = true) (hi : (P.info? ty).map (·.size) = some us.size) (h1 : us.toList.all (·.oneCell') = true) (hvs : vs' = vs.take off ++ us.toList ++ vs.drop (off + us.toList.length)) (hg : wnt n l ops o = true)
  (hk : ∀ w', St2 k w w' → At w' k vs' → WL P ops Q rest n l w') : WL P ops Q (o :: rest) n l w :=
 ⟨l_step hg (o_store ty x y _ _ ho hd hx hy (run_put hA ty off us (Nat.le_of_ble_eq_true hl) hi (by rw [← Array.all_toList]; exact h1)) (hk _ (St2.mk2 w k off us.toList) (hA.set off us.toList (by have := Nat.le_of_ble_eq_true hl; simpa using this) vs' hvs)).out)⟩
end
theorem own_mo {w w' : World} {N : Nat} {v : Value} {n : Nat} {xs : List Value} (h : w.ownsRow N 5 1 v n xs) (m : Mo w w') : w'.ownsRow N 5 1 v n xs :=
 h.kept (row := none) ⟨m.1.os, m.1.tape, m.1.output, m.1.size, fun k hk _ => m.1.block k hk⟩ (by cases e : v.ownBlock <;> simp)
section
variable {o : Oper} {n : Nat} {l : List (Nat × Value)} {w : World} {ops : Array Oper} {rest : List Oper} {Q : Exit → Act → World → Prop}
theorem wl_bsl (x : Operand) (c : Int) (ho : o.op = .buildSlice 62 1 #[(0, x)]) (hx : evl n l x = .int .u8 c) (hg : wnt n l ops o = true)
  (hk : ∀ k w', w.heap.size = k → w'.heap.size = k + 1 → Mo w w' → At w' k [.int .u8 c] → WL Tryd.prog ops Q rest n (ext l o.dst (.slice (some ⟨k, 0, none⟩) 1 1)) w') : WL Tryd.prog ops Q (o :: rest) n l w :=
 ⟨l_step hg (o_val (.slice (some ⟨w.heap.size, 0, none⟩) 1 1) (w' := w.alloc (.cells #[.int .u8 c] 5)) (by simp [execOp, ho, hx, bsl]) (hk _ _ rfl (by simp) ((Mo.refl _).alloc _ _) (At.new w #[.int .u8 c] 5)).out)⟩
end
theorem own_at {w : World} {N g cap n : Nat} {xs : List Value} (h : w.ownsRow N 5 1 (.slice (some ⟨g, 0, none⟩) n cap) n xs) : At w g xs := by
 have hl := h.1
 refine ⟨fun j v hv => ?_, fun o => h.frozenAt o, (h.lt g rfl).2⟩
 have hj : j < xs.length := (List.getElem?_eq_some_iff.1 hv).1
 rw [Nat.zero_add, h.cellAt j (by omega)]; exact hv
theorem str_run (w : World) (g c : Nat) (ns : List Int) (hA : At w g (ns.map (Value.int .u8))) (m : Nat) (hm : m = ns.length) : (convert 62 9 (.slice (some ⟨g, 0, none⟩) m c)).run Tryd.prog w = .ok (.string (strOf ns)) w := by
 subst hm
 rw [run_convert_bytes_string w 62 9 5 _ _ _ Tryd.underlying62 Tryd.underlying5 Tryd.underlying9, run_bytesToString w _ _ _ ns]
 ·rfl
 ·have := run_loadCells_list (P := Tryd.prog) w ⟨g, 0, none⟩ (ns.map (Value.int .u8)) (fun j v hv => by rw [Addr.add_mid]; exact hA.1 j v hv)
  simpa using this
end Go.Proofs.YthgknegocfhdbaaDoor

