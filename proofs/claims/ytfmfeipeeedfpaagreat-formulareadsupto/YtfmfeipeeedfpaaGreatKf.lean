/-
  Calls that the model stands in for; live. What live answers.
-/
import Derived.Test.YtfmfeipeeedfpaaGreatKe
import Derived.Laws.Externs
import Derived.KernelRfl
namespace Go.Proofs.YtfmfeipeeedfpaaGreat
namespace E
/-- math/bits.Add64. -/
def xadd (vs : List Value) : Option Value := match vs with
  | [.int .u64 x, .int .u64 y, .int .u64 c] => match x with
    | .ofNat x => match y with
      | .ofNat y => match c with
        | .ofNat c => bif Nat.ble c 1 then Go.CheckFast.force (Nat.add (Nat.add x y) c) fun s => Go.CheckFast.force (Nat.mod s 18446744073709551616) fun a => Go.CheckFast.force (Nat.div s 18446744073709551616) fun b => some (.tuple #[.int .u64 (.ofNat a), .int .u64 (.ofNat b)]) else none
        | _ => none
      | _ => none
    | _ => none
  | _ => none
def tbx : Tb := ⟨[], fun f vs => bif Nat.beq f 217 then xadd vs else none⟩
theorem tbx_ok : TbOk Tryz.prog tbx := by
  refine ⟨fun e h => (by cases h), fun f vs v h => ?_⟩
  obtain ⟨hf, h2⟩ := bif_some (show (bif Nat.beq f 217 then xadd vs else none) = some v from h)
  clear h
  have h := h2
  rw [Nat.beq_eq] at hf
  subst hf
  unfold xadd at h
  split at h
  · rename_i x y c
    split at h
    · rename_i x
      split at h
      · rename_i y
        split at h
        · rename_i c
          obtain ⟨hc, h⟩ := bif_some h
          rw [Nat.ble_eq] at hc
          simp only [Go.CheckFast.force_eq] at h
          cases h
          refine ⟨rfl, fun k => VX.tuple (cs := [_, _]) (us := [_, _]) ⟨_, _, rfl, VX.of0 rfl, _, _, rfl, VX.of0 rfl, rfl⟩, fun w => ?_⟩
          have := run_callFunc_extern (P := Tryz.prog) Tryz.func217 (by kernel_rfl) (by kernel_rfl) (by kernel_rfl) (e := add64Entry) (by kernel_rfl) #[.int .u64 (.ofNat x), .int .u64 (.ofNat y), .int .u64 (.ofNat c)] w
          have h2 := run_add64 (P := Tryz.prog) (.ofNat x) (.ofNat y) (.ofNat c) (Int.natCast_nonneg x) (Int.natCast_nonneg y) (Int.natCast_nonneg c) (by show (c : Int) ≤ 1; omega) w
          rw [this, h2]
          rfl
        · cases h
      · cases h
    · cases h
  · cases h
end E
end Go.Proofs.YtfmfeipeeedfpaaGreat
namespace Go.Proofs.YtfmfeipeeedfpaaGreat
namespace E
set_option maxRecDepth 100000 in
theorem lv_run : isTrue (call0 Tryz.prog (run Tryz.prog tbx 3000) 11 [] he12 0) = true := by kernel_rfl
theorem lv (W : World) : Calls Tryz.prog 11 #[] W fun r W' => r = .returned (.bool true) ∧ W.heap.size ≤ W'.heap.size ∧ W'.os = W.os ∧ Tp W' W ∧ W'.output = W.output ∧ (∀ b, b < W.heap.size → W'.heap[b]? = W.heap[b]?) ∧ ∀ a, W'.frozen? a = W.frozen? a := by
  obtain ⟨y, h1, h2⟩ := ok_true lv_run
  refine (closed tbx_ok rfl rfl h1 W).2.mono ?_
  rintro r W' ⟨u, k', rfl, hd, hv⟩
  rw [h2] at hv
  refine ⟨by rw [hv.bool_inv], hd.size, hd.os, hd.tape, hd.output, fun b hb => hd.frm b hb (fun j z _ hl => absurd hl (not_live (hget_new j))), hd.fz⟩
end E
end Go.Proofs.YtfmfeipeeedfpaaGreat
