/-
  The document's writer: operators by level. The document's writer: values. The document's writer: an argument. The document's writer: calls and columns. The document's writer: what stands between two. The document's writer: expressions. Expressions shown. Expressions shown: the functions. Nothing. Types and items that may be said. Items that may be said: both sides. Items that may be said: the document's. Types and items are written. Items are written. Definitions in memory; all of a list. Sections that may be said. Sections that may be said: the document's. Sections are written: the program's. Sections are written: the document's. Tables that may be said. Pages and definitions that may be said: the program's. Definitions that may be said: the document's. Tables are written: the program's. Pages are written: the program's. Definitions are written: the program's. Tables are written: the document's. Definitions are written and printed: the document's. Definitions printed: the document's; both print the same. The law of printing: its walk, of what begun comes to. How many words there are. What came in, cut: numbers, values, expressions; their weight.
-/
import Derived.Test.YtpabcmaeaiaknaaGreatDoorYc
import Derived.Test.YtpabcmaeaiaknaaGreatDoorRows
import Derived.ProofKit
import Derived.OpenShut
import Derived.ChangeArms
import Derived.Deep.Slices
import Derived.Deep.MidRow
import Derived.ReadAgain
import Derived.WideKeyArgs
import Derived.WideKeyElems2
import Derived.JoinedCond
import Derived.Carry
import Derived.ChangeMaps5
import Derived.SizedLaws
namespace Go.Proofs.YtpabcmaeaiaknaaGreatDoor
open S Go.RowKit
theorem ft2 {σ : List Nat} {u v u2 v2 : Value} (h : fitV σ u v) (g : fitV σ u2 v2) : fitV σ (.tuple #[u, u2]) (.tuple #[v, v2]) := fun k w hw => by
  obtain ⟨us, rfl, y, ys, e, h3, y2, ys2, e2, h4, e3⟩ := hw.tuple_inv
  exact VX.tuple (us := us) ⟨y, ys, e, h k _ h3, y2, ys2, e2, g k _ h4, e3⟩
theorem ut2 {τ : List Nat} {u v u2 v2 : Value} (h : unV τ u v) (g : unV τ u2 v2) : unV τ (.tuple #[u, u2]) (.tuple #[v, v2]) := fun k w hw => by
  obtain ⟨us, rfl, y, ys, e, h3, y2, ys2, e2, h4, e3⟩ := hw.tuple_inv
  exact VX.tuple (us := us) ⟨y, ys, e, h k _ h3, y2, ys2, e2, g k _ h4, e3⟩
def opL : Nat -> List Int
  | 0 => [11]
  | 1 => [10]
  | 3 => [4, 5, 6, 7, 8, 9]
  | 4 => [1, 2]
  | 5 => [3]
  | _ => []
def opS : Nat -> List ByteArray
  | 0 => [⟨#[111, 114]⟩]
  | 1 => [⟨#[97, 110, 100]⟩]
  | 3 => [⟨#[61]⟩, ⟨#[33, 61]⟩, ⟨#[60]⟩, ⟨#[60, 61]⟩, ⟨#[62]⟩, ⟨#[62, 61]⟩]
  | 4 => [⟨#[43]⟩, ⟨#[45]⟩]
  | 5 => [⟨#[42]⟩]
  | _ => []
abbrev oiV (l : List Int) : List Value := l.map (Value.int .i64)
abbrev osV (l : List ByteArray) : List Value := l.map Value.string
set_option maxRecDepth 20000 in
theorem c_ops0 (X : World) : Ctr Tryz.prog X 68 [.int .i64 0] [] 0 0 (.tuple #[.slice (some ⟨0, 0, none⟩) 1 1, .slice (some ⟨1, 0, none⟩) 1 1]) [(0 + 4096, none), (0, some (osV (opS 0))), (1 + 4096, none), (1, some (oiV (opL 0)))] 2 := by
  refine fn_c _ Tryz.func68 rfl rfl rfl rfl (fun w ll tw X' hX => run_ok (st mo ?_))
  repeat' (first | refine ⟨fun _ => ?_, fun h => absurd h (by decide)⟩ | refine ⟨fun h => absurd h (by decide), fun _ => ?_⟩ | refine st mo ?_)
  exact ⟨rfl, [0, 1], ft2 fs fs, ⟨trivial, fl rfl rfl, trivial, fl rfl rfl, trivial⟩, rfl, rfl⟩
set_option maxRecDepth 20000 in
theorem c_ops1 (X : World) : Ctr Tryz.prog X 68 [.int .i64 1] [] 0 0 (.tuple #[.slice (some ⟨0, 0, none⟩) 1 1, .slice (some ⟨1, 0, none⟩) 1 1]) [(0 + 4096, none), (0, some (osV (opS 1))), (1 + 4096, none), (1, some (oiV (opL 1)))] 2 := by
  refine fn_c _ Tryz.func68 rfl rfl rfl rfl (fun w ll tw X' hX => run_ok (st mo ?_))
  repeat' (first | refine ⟨fun _ => ?_, fun h => absurd h (by decide)⟩ | refine ⟨fun h => absurd h (by decide), fun _ => ?_⟩ | refine st mo ?_)
  exact ⟨rfl, [0, 1], ft2 fs fs, ⟨trivial, fl rfl rfl, trivial, fl rfl rfl, trivial⟩, rfl, rfl⟩
set_option maxRecDepth 20000 in
theorem c_ops3 (X : World) : Ctr Tryz.prog X 68 [.int .i64 3] [] 0 0 (.tuple #[.slice (some ⟨0, 0, none⟩) 6 1, .slice (some ⟨1, 0, none⟩) 6 1]) [(0 + 4096, none), (0, some (osV (opS 3))), (1 + 4096, none), (1, some (oiV (opL 3)))] 2 := by
  refine fn_c _ Tryz.func68 rfl rfl rfl rfl (fun w ll tw X' hX => run_ok (st mo ?_))
  repeat' (first | refine ⟨fun _ => ?_, fun h => absurd h (by decide)⟩ | refine ⟨fun h => absurd h (by decide), fun _ => ?_⟩ | refine st mo ?_)
  exact ⟨rfl, [0, 1], ft2 fs fs, ⟨trivial, fl rfl rfl, trivial, fl rfl rfl, trivial⟩, rfl, rfl⟩
set_option maxRecDepth 20000 in
theorem c_ops4 (X : World) : Ctr Tryz.prog X 68 [.int .i64 4] [] 0 0 (.tuple #[.slice (some ⟨0, 0, none⟩) 2 1, .slice (some ⟨1, 0, none⟩) 2 1]) [(0 + 4096, none), (0, some (osV (opS 4))), (1 + 4096, none), (1, some (oiV (opL 4)))] 2 := by
  refine fn_c _ Tryz.func68 rfl rfl rfl rfl (fun w ll tw X' hX => run_ok (st mo ?_))
  repeat' (first | refine ⟨fun _ => ?_, fun h => absurd h (by decide)⟩ | refine ⟨fun h => absurd h (by decide), fun _ => ?_⟩ | refine st mo ?_)
  exact ⟨rfl, [0, 1], ft2 fs fs, ⟨trivial, fl rfl rfl, trivial, fl rfl rfl, trivial⟩, rfl, rfl⟩
set_option maxRecDepth 20000 in
theorem c_ops5 (X : World) : Ctr Tryz.prog X 68 [.int .i64 5] [] 0 0 (.tuple #[.slice (some ⟨0, 0, none⟩) 1 1, .slice (some ⟨1, 0, none⟩) 1 1]) [(0 + 4096, none), (0, some (osV (opS 5))), (1 + 4096, none), (1, some (oiV (opL 5)))] 2 := by
  refine fn_c _ Tryz.func68 rfl rfl rfl rfl (fun w ll tw X' hX => run_ok (st mo ?_))
  repeat' (first | refine ⟨fun _ => ?_, fun h => absurd h (by decide)⟩ | refine ⟨fun h => absurd h (by decide), fun _ => ?_⟩ | refine st mo ?_)
  exact ⟨rfl, [0, 1], ft2 fs fs, ⟨trivial, fl rfl rfl, trivial, fl rfl rfl, trivial⟩, rfl, rfl⟩
set_option maxRecDepth 20000 in
theorem c_ops2 (w : World) : Calls Tryz.prog 68 #[.int .i64 2] w fun e W => e = .returned (.tuple #[.slice none 0 0, .slice none 0 0]) /\ Mb w W := by
  refine fn_pure [.int .i64 2] Tryz.func68 rfl rfl rfl (run_ok (st mo ?_))
  repeat' (first | refine ⟨fun _ => ?_, fun h => absurd h (by decide)⟩ | refine ⟨fun h => absurd h (by decide), fun _ => ?_⟩ | refine st mo ?_)
  rfl
def qlo (op : Int) : Int := if op = 11 then 0 else if op = 10 then 1 else if 4 <= op /\ op <= 9 then 3 else if op = 1 ∨ op = 2 then 4 else if op = 3 then 5 else 7
def qlv (x : Ex) : Int := if x.k = 4 then 2 else if x.k = 3 then 6 else if x.k = 5 then qlo x.op else 7
theorem opL_lev {i : Nat} {op : Int} (h : op ∈ opL i) : qlo op = i /\ i < 6 := by
  unfold opL at h
  split at h <;> simp at h <;> (try exact ⟨by unfold qlo; repeat' split <;> omega, by omega⟩)
theorem opL_no {op : Int} (h : ∀ i, i < 6 -> op ∉ opL i) : qlo op = 7 := by
  have h0 := h 0 (by omega); have h1 := h 1 (by omega); have h3 := h 3 (by omega); have h4 := h 4 (by omega); have h5 := h 5 (by omega)
  simp [opL] at h0 h1 h3 h4 h5
  unfold qlo; repeat' split <;> omega
theorem oiV_at {l : List Int} {j : Nat} {u : Int} (h : l[j]? = some u) : (oiV l)[j]? = some (.int .i64 u) := by rw [List.getElem?_map, h]; rfl
theorem osV_at {l : List ByteArray} {j : Nat} {u : ByteArray} (h : l[j]? = some u) : (osV l)[j]? = some (.string u) := by rw [List.getElem?_map, h]; rfl
set_option maxHeartbeats 2000000 in
set_option maxRecDepth 20000 in
theorem d_level (x : Ex) (w : World) : Calls Tryz.prog 94 #[x.w] w fun e W => e = .returned (.int .i64 (qlv x)) /\ Mb w W := by
  refine fn_pure [x.y] Tryz.func94 rfl rfl rfl (run_ok (st mo ?_))
  repeat refine st mo ?_
  refine ⟨fun h1 => ?_, fun h1 => ?_⟩
  · repeat refine st mo ?_
    show _ = _; unfold qlv; rw [if_pos h1]
  repeat refine st mo ?_
  refine ⟨fun h2 => ?_, fun h2 => ?_⟩
  · repeat refine st mo ?_
    show _ = _; unfold qlv; rw [if_neg h1, if_pos h2]
  repeat refine st mo ?_
  refine ⟨fun h3 => ?_, fun h3 => ?_⟩
  · repeat refine st mo ?_
    have e : qlv x = qlo x.op := by unfold qlv; rw [if_neg h1, if_neg h2, if_pos h3]
    rw [e]
    refine w_loop (fun i : Nat => ⟨⟨38, [(1, P0), (3, .int .i64 (i : Int))]⟩, [(0, some (x.c.map rel1))], 1, w⟩) (fun i => i <= 6 /\ ∀ j, j < i -> x.op ∉ opL j) (fun i => 6 - i) 0 ⟨by omega, fun j hj => by omega⟩ [0] ⟨rfl, ⟨fp, fv, trivial⟩, ⟨flr rfl, trivial⟩, xf, rfl, rfl⟩ ?_
    intro i hi
    repeat refine st mo ?_
    refine ⟨fun hlt => ?_, fun hge => ?_⟩
    · obtain ⟨hi1, hi2⟩ := hi
      have hi3 : i = 0 ∨ i = 1 ∨ i = 2 ∨ i = 3 ∨ i = 4 ∨ i = 5 := by omega
      rcases hi3 with rfl | rfl | rfl | rfl | rfl | rfl
      · repeat refine st mo ?_
        refine ⟨_, fun _ => r_c (tc := .tuple #[.slice (some ⟨1, 0, none⟩) 1 1, .slice (some ⟨2, 0, none⟩) 1 1]) [] [some (osV (opS 0)), some (oiV (opL 0))] [1, 2] rfl rfl (c_ops0 w) (by exact fitL_cons fv (by rfl)) trivial (ut2 us us) ⟨ul rfl rfl, ul rfl rfl, trivial⟩, st mo ?_⟩
        repeat refine st mo ?_
        refine w_loop (fun j : Nat => ⟨⟨38, [(1, P0), (3, .int .i64 0), (5, .slice (some ⟨1, 0, none⟩) 1 1), (6, .int .i64 (j : Int))]⟩, [(0, some (x.c.map rel1)), (1, some (oiV (opL 0)))], 2, w⟩) (fun j => j <= 1 /\ x.op ∉ (opL 0).take j) (fun j => 1 - j) 0 ⟨by omega, by simp⟩ [0, 2] ⟨rfl, ⟨fp, fv, fs, fv, trivial⟩, ⟨flr rfl, fl rfl rfl, trivial⟩, xf, rfl, rfl⟩ ?_
        intro j hj
        repeat refine st mo ?_
        refine ⟨fun hlt2 => ?_, fun hge2 => ?_⟩
        · have hjl : j < (opL 0).length := by show j < 1; omega
          obtain ⟨u, hu⟩ : ∃ u, (opL 0)[j]? = some u := ⟨_, List.getElem?_eq_getElem hjl⟩
          repeat refine st mo ?_
          refine ⟨j, rfl, by omega, st mo ⟨_, oiV_at hu, st mo ?_⟩⟩
          repeat refine st mo ?_
          refine ⟨fun h4 => ?_, fun h4 => ?_⟩
          · repeat refine st mo ?_
            refine ⟨dk, st mo ?_⟩
            repeat refine st mo ?_
            show _ = _
            rw [(opL_lev (i := 0) (by rw [← h4]; exact List.mem_of_getElem? hu)).1]; rfl
          · repeat refine st mo ?_
            refine ⟨dk, st mo ?_⟩
            repeat refine st mo ?_
            refine ⟨_, wz (j + 1) rfl, st mo ?_⟩
            exact ⟨j + 1, ⟨by omega, by rw [List.take_add_one, hu]; simp; exact ⟨hj.2, fun h => h4 h.symm⟩⟩, by show 1 - (j + 1) < 1 - j; omega, [0, 1], rfl, ⟨fp, fv, fs, fv, trivial⟩, ⟨flr rfl, fl rfl (by simp [pur1]), trivial⟩, xf, rfl, rfl⟩
        · repeat refine st mo ?_
          have hj1 : x.op ∉ opL 0 := by rw [show opL 0 = (opL 0).take j from (List.take_of_length_le (by show 1 <= j; omega)).symm]; exact hj.2
          refine ⟨_, wz (0 + 1) rfl, st mo ?_⟩
          exact ⟨0 + 1, ⟨by omega, fun j' hj' => by rcases Nat.lt_or_ge j' 0 with h | h; exact hi2 j' h; rw [show j' = 0 by omega]; exact hj1⟩, by show 6 - (0 + 1) < 6 - 0; omega, [0], rfl, ⟨fp, fv, trivial⟩, ⟨flr rfl, trivial⟩, xf, rfl, rfl⟩
      · repeat refine st mo ?_
        refine ⟨_, fun _ => r_c (tc := .tuple #[.slice (some ⟨1, 0, none⟩) 1 1, .slice (some ⟨2, 0, none⟩) 1 1]) [] [some (osV (opS 1)), some (oiV (opL 1))] [1, 2] rfl rfl (c_ops1 w) (by exact fitL_cons fv (by rfl)) trivial (ut2 us us) ⟨ul rfl rfl, ul rfl rfl, trivial⟩, st mo ?_⟩
        repeat refine st mo ?_
        refine w_loop (fun j : Nat => ⟨⟨38, [(1, P0), (3, .int .i64 1), (5, .slice (some ⟨1, 0, none⟩) 1 1), (6, .int .i64 (j : Int))]⟩, [(0, some (x.c.map rel1)), (1, some (oiV (opL 1)))], 2, w⟩) (fun j => j <= 1 /\ x.op ∉ (opL 1).take j) (fun j => 1 - j) 0 ⟨by omega, by simp⟩ [0, 2] ⟨rfl, ⟨fp, fv, fs, fv, trivial⟩, ⟨flr rfl, fl rfl rfl, trivial⟩, xf, rfl, rfl⟩ ?_
        intro j hj
        repeat refine st mo ?_
        refine ⟨fun hlt2 => ?_, fun hge2 => ?_⟩
        · have hjl : j < (opL 1).length := by show j < 1; omega
          obtain ⟨u, hu⟩ : ∃ u, (opL 1)[j]? = some u := ⟨_, List.getElem?_eq_getElem hjl⟩
          repeat refine st mo ?_
          refine ⟨j, rfl, by omega, st mo ⟨_, oiV_at hu, st mo ?_⟩⟩
          repeat refine st mo ?_
          refine ⟨fun h4 => ?_, fun h4 => ?_⟩
          · repeat refine st mo ?_
            refine ⟨dk, st mo ?_⟩
            repeat refine st mo ?_
            show _ = _
            rw [(opL_lev (i := 1) (by rw [← h4]; exact List.mem_of_getElem? hu)).1]; rfl
          · repeat refine st mo ?_
            refine ⟨dk, st mo ?_⟩
            repeat refine st mo ?_
            refine ⟨_, wz (j + 1) rfl, st mo ?_⟩
            exact ⟨j + 1, ⟨by omega, by rw [List.take_add_one, hu]; simp; exact ⟨hj.2, fun h => h4 h.symm⟩⟩, by show 1 - (j + 1) < 1 - j; omega, [0, 1], rfl, ⟨fp, fv, fs, fv, trivial⟩, ⟨flr rfl, fl rfl (by simp [pur1]), trivial⟩, xf, rfl, rfl⟩
        · repeat refine st mo ?_
          have hj1 : x.op ∉ opL 1 := by rw [show opL 1 = (opL 1).take j from (List.take_of_length_le (by show 1 <= j; omega)).symm]; exact hj.2
          refine ⟨_, wz (1 + 1) rfl, st mo ?_⟩
          exact ⟨1 + 1, ⟨by omega, fun j' hj' => by rcases Nat.lt_or_ge j' 1 with h | h; exact hi2 j' h; rw [show j' = 1 by omega]; exact hj1⟩, by show 6 - (1 + 1) < 6 - 1; omega, [0], rfl, ⟨fp, fv, trivial⟩, ⟨flr rfl, trivial⟩, xf, rfl, rfl⟩
      · repeat refine st mo ?_
        refine ⟨_, fun _ => r_call (t := .tuple #[.slice none 0 0, .slice none 0 0]) rfl rfl Tryz.func68 (fun W M E => c_ops2 W), st mo ?_⟩
        repeat refine st mo ?_
        refine w_loop (fun j : Nat => ⟨⟨38, [(1, P0), (3, .int .i64 2), (5, .slice none 0 0), (6, .int .i64 (j : Int))]⟩, [(0, some (x.c.map rel1))], 1, w⟩) (fun j => j = 0) (fun j => 0 - j) 0 rfl [0] ⟨rfl, ⟨fp, fv, fv, fv, trivial⟩, ⟨flr rfl, trivial⟩, xf, rfl, rfl⟩ ?_
        intro j hj
        subst hj
        repeat refine st mo ?_
        refine ⟨fun hlt2 => absurd hlt2 (by decide), fun hge2 => ?_⟩
        repeat refine st mo ?_
        refine ⟨_, wz 3 rfl, st mo ?_⟩
        exact ⟨3, ⟨by omega, fun j' hj' => by rcases Nat.lt_or_ge j' 2 with h | h; exact hi2 j' h; rw [show j' = 2 by omega]; simp [opL]⟩, by decide, [0], rfl, ⟨fp, fv, trivial⟩, ⟨flr rfl, trivial⟩, xf, rfl, rfl⟩
      · repeat refine st mo ?_
        refine ⟨_, fun _ => r_c (tc := .tuple #[.slice (some ⟨1, 0, none⟩) 6 1, .slice (some ⟨2, 0, none⟩) 6 1]) [] [some (osV (opS 3)), some (oiV (opL 3))] [1, 2] rfl rfl (c_ops3 w) (by exact fitL_cons fv (by rfl)) trivial (ut2 us us) ⟨ul rfl rfl, ul rfl rfl, trivial⟩, st mo ?_⟩
        repeat refine st mo ?_
        refine w_loop (fun j : Nat => ⟨⟨38, [(1, P0), (3, .int .i64 3), (5, .slice (some ⟨1, 0, none⟩) 6 1), (6, .int .i64 (j : Int))]⟩, [(0, some (x.c.map rel1)), (1, some (oiV (opL 3)))], 2, w⟩) (fun j => j <= 6 /\ x.op ∉ (opL 3).take j) (fun j => 6 - j) 0 ⟨by omega, by simp⟩ [0, 2] ⟨rfl, ⟨fp, fv, fs, fv, trivial⟩, ⟨flr rfl, fl rfl rfl, trivial⟩, xf, rfl, rfl⟩ ?_
        intro j hj
        repeat refine st mo ?_
        refine ⟨fun hlt2 => ?_, fun hge2 => ?_⟩
        · have hjl : j < (opL 3).length := by show j < 6; omega
          obtain ⟨u, hu⟩ : ∃ u, (opL 3)[j]? = some u := ⟨_, List.getElem?_eq_getElem hjl⟩
          repeat refine st mo ?_
          refine ⟨j, rfl, by omega, st mo ⟨_, oiV_at hu, st mo ?_⟩⟩
          repeat refine st mo ?_
          refine ⟨fun h4 => ?_, fun h4 => ?_⟩
          · repeat refine st mo ?_
            refine ⟨dk, st mo ?_⟩
            repeat refine st mo ?_
            show _ = _
            rw [(opL_lev (i := 3) (by rw [← h4]; exact List.mem_of_getElem? hu)).1]; rfl
          · repeat refine st mo ?_
            refine ⟨dk, st mo ?_⟩
            repeat refine st mo ?_
            refine ⟨_, wz (j + 1) rfl, st mo ?_⟩
            exact ⟨j + 1, ⟨by omega, by rw [List.take_add_one, hu]; simp; exact ⟨hj.2, fun h => h4 h.symm⟩⟩, by show 6 - (j + 1) < 6 - j; omega, [0, 1], rfl, ⟨fp, fv, fs, fv, trivial⟩, ⟨flr rfl, fl rfl (by simp [pur1]), trivial⟩, xf, rfl, rfl⟩
        · repeat refine st mo ?_
          have hj1 : x.op ∉ opL 3 := by rw [show opL 3 = (opL 3).take j from (List.take_of_length_le (by show 6 <= j; omega)).symm]; exact hj.2
          refine ⟨_, wz (3 + 1) rfl, st mo ?_⟩
          exact ⟨3 + 1, ⟨by omega, fun j' hj' => by rcases Nat.lt_or_ge j' 3 with h | h; exact hi2 j' h; rw [show j' = 3 by omega]; exact hj1⟩, by show 6 - (3 + 1) < 6 - 3; omega, [0], rfl, ⟨fp, fv, trivial⟩, ⟨flr rfl, trivial⟩, xf, rfl, rfl⟩
      · repeat refine st mo ?_
        refine ⟨_, fun _ => r_c (tc := .tuple #[.slice (some ⟨1, 0, none⟩) 2 1, .slice (some ⟨2, 0, none⟩) 2 1]) [] [some (osV (opS 4)), some (oiV (opL 4))] [1, 2] rfl rfl (c_ops4 w) (by exact fitL_cons fv (by rfl)) trivial (ut2 us us) ⟨ul rfl rfl, ul rfl rfl, trivial⟩, st mo ?_⟩
        repeat refine st mo ?_
        refine w_loop (fun j : Nat => ⟨⟨38, [(1, P0), (3, .int .i64 4), (5, .slice (some ⟨1, 0, none⟩) 2 1), (6, .int .i64 (j : Int))]⟩, [(0, some (x.c.map rel1)), (1, some (oiV (opL 4)))], 2, w⟩) (fun j => j <= 2 /\ x.op ∉ (opL 4).take j) (fun j => 2 - j) 0 ⟨by omega, by simp⟩ [0, 2] ⟨rfl, ⟨fp, fv, fs, fv, trivial⟩, ⟨flr rfl, fl rfl rfl, trivial⟩, xf, rfl, rfl⟩ ?_
        intro j hj
        repeat refine st mo ?_
        refine ⟨fun hlt2 => ?_, fun hge2 => ?_⟩
        · have hjl : j < (opL 4).length := by show j < 2; omega
          obtain ⟨u, hu⟩ : ∃ u, (opL 4)[j]? = some u := ⟨_, List.getElem?_eq_getElem hjl⟩
          repeat refine st mo ?_
          refine ⟨j, rfl, by omega, st mo ⟨_, oiV_at hu, st mo ?_⟩⟩
          repeat refine st mo ?_
          refine ⟨fun h4 => ?_, fun h4 => ?_⟩
          · repeat refine st mo ?_
            refine ⟨dk, st mo ?_⟩
            repeat refine st mo ?_
            show _ = _
            rw [(opL_lev (i := 4) (by rw [← h4]; exact List.mem_of_getElem? hu)).1]; rfl
          · repeat refine st mo ?_
            refine ⟨dk, st mo ?_⟩
            repeat refine st mo ?_
            refine ⟨_, wz (j + 1) rfl, st mo ?_⟩
            exact ⟨j + 1, ⟨by omega, by rw [List.take_add_one, hu]; simp; exact ⟨hj.2, fun h => h4 h.symm⟩⟩, by show 2 - (j + 1) < 2 - j; omega, [0, 1], rfl, ⟨fp, fv, fs, fv, trivial⟩, ⟨flr rfl, fl rfl (by simp [pur1]), trivial⟩, xf, rfl, rfl⟩
        · repeat refine st mo ?_
          have hj1 : x.op ∉ opL 4 := by rw [show opL 4 = (opL 4).take j from (List.take_of_length_le (by show 2 <= j; omega)).symm]; exact hj.2
          refine ⟨_, wz (4 + 1) rfl, st mo ?_⟩
          exact ⟨4 + 1, ⟨by omega, fun j' hj' => by rcases Nat.lt_or_ge j' 4 with h | h; exact hi2 j' h; rw [show j' = 4 by omega]; exact hj1⟩, by show 6 - (4 + 1) < 6 - 4; omega, [0], rfl, ⟨fp, fv, trivial⟩, ⟨flr rfl, trivial⟩, xf, rfl, rfl⟩
      · repeat refine st mo ?_
        refine ⟨_, fun _ => r_c (tc := .tuple #[.slice (some ⟨1, 0, none⟩) 1 1, .slice (some ⟨2, 0, none⟩) 1 1]) [] [some (osV (opS 5)), some (oiV (opL 5))] [1, 2] rfl rfl (c_ops5 w) (by exact fitL_cons fv (by rfl)) trivial (ut2 us us) ⟨ul rfl rfl, ul rfl rfl, trivial⟩, st mo ?_⟩
        repeat refine st mo ?_
        refine w_loop (fun j : Nat => ⟨⟨38, [(1, P0), (3, .int .i64 5), (5, .slice (some ⟨1, 0, none⟩) 1 1), (6, .int .i64 (j : Int))]⟩, [(0, some (x.c.map rel1)), (1, some (oiV (opL 5)))], 2, w⟩) (fun j => j <= 1 /\ x.op ∉ (opL 5).take j) (fun j => 1 - j) 0 ⟨by omega, by simp⟩ [0, 2] ⟨rfl, ⟨fp, fv, fs, fv, trivial⟩, ⟨flr rfl, fl rfl rfl, trivial⟩, xf, rfl, rfl⟩ ?_
        intro j hj
        repeat refine st mo ?_
        refine ⟨fun hlt2 => ?_, fun hge2 => ?_⟩
        · have hjl : j < (opL 5).length := by show j < 1; omega
          obtain ⟨u, hu⟩ : ∃ u, (opL 5)[j]? = some u := ⟨_, List.getElem?_eq_getElem hjl⟩
          repeat refine st mo ?_
          refine ⟨j, rfl, by omega, st mo ⟨_, oiV_at hu, st mo ?_⟩⟩
          repeat refine st mo ?_
          refine ⟨fun h4 => ?_, fun h4 => ?_⟩
          · repeat refine st mo ?_
            refine ⟨dk, st mo ?_⟩
            repeat refine st mo ?_
            show _ = _
            rw [(opL_lev (i := 5) (by rw [← h4]; exact List.mem_of_getElem? hu)).1]; rfl
          · repeat refine st mo ?_
            refine ⟨dk, st mo ?_⟩
            repeat refine st mo ?_
            refine ⟨_, wz (j + 1) rfl, st mo ?_⟩
            exact ⟨j + 1, ⟨by omega, by rw [List.take_add_one, hu]; simp; exact ⟨hj.2, fun h => h4 h.symm⟩⟩, by show 1 - (j + 1) < 1 - j; omega, [0, 1], rfl, ⟨fp, fv, fs, fv, trivial⟩, ⟨flr rfl, fl rfl (by simp [pur1]), trivial⟩, xf, rfl, rfl⟩
        · repeat refine st mo ?_
          have hj1 : x.op ∉ opL 5 := by rw [show opL 5 = (opL 5).take j from (List.take_of_length_le (by show 1 <= j; omega)).symm]; exact hj.2
          refine ⟨_, wz (5 + 1) rfl, st mo ?_⟩
          exact ⟨5 + 1, ⟨by omega, fun j' hj' => by rcases Nat.lt_or_ge j' 5 with h | h; exact hi2 j' h; rw [show j' = 5 by omega]; exact hj1⟩, by show 6 - (5 + 1) < 6 - 5; omega, [0], rfl, ⟨fp, fv, trivial⟩, ⟨flr rfl, trivial⟩, xf, rfl, rfl⟩
    · repeat refine st mo ?_
      show _ = _
      rw [opL_no fun j hj => hi.2 j (by omega)]
  · repeat refine st mo ?_
    show _ = _; unfold qlv; rw [if_neg h1, if_neg h2, if_neg h3]
abbrev CQ (X : World) (f : FuncId) (vs : List Value) (t : ByteArray) (l : List ByteArray) : Prop := Ctr Tryz.prog X f vs (hQ t) 1 1 (.tuple #[]) (hQ (qps t l)) 1
section
variable {w0 : B0} {X : World} {o : Oper} {fr : FT} {hc : HT} {nc : Nat} {xs : Array Operand} {ts : Array TypeId}
set_option maxRecDepth 20000 in
theorem r_q {f : FuncId} {fn : Func} {vs : List Value} (t t' : ByteArray) (ho : o.op = .call { callee := .value (.func f), args := xs, argTypes := ts }) (hctr : Ctr Tryz.prog X f vs (hQ t) 1 1 (.tuple #[]) (hQ t') 1) (hv : fitL [0] (evl fr xs.toList ++ []) vs)
    (hc0 : hget hc 0 = some (q0 t) := by rfl) (hf : Tryz.prog.funcs[f]? = some fn := by rfl) (hb : callB fn = true := by rfl) (hck : (apartL [0] && Nat.ble nc 4096 && ([0] : List Nat).all (Nat.blt · nc)) = true := by rfl) :
    Oa (Am w0 X) Tryz.prog o fr hc nc ⟨.tuple #[], mskL (setsH hc ([0].zip [some (q0 t')])) [0], nc, bitsL [0], bitsL [0]⟩ := by
  have key := r_c (w0 := w0) (X := X) (o := o) (fr := fr) (hc := hc) (nc := nc) (tc := .tuple #[]) [0] [some (q0 t')] [0] ho (y := .func f) rfl hctr hv
    (by
      refine ⟨trivial, ?_, trivial⟩
      show (match hget hc 0 with | some us => fitL [0] us _ | none => False)
      rw [hc0]; exact fl rfl (q0_pur t))
    ut0
    ⟨ul rfl (q0_pur t'), trivial⟩ hf hb
    (by simp only [Bool.and_eq_true] at hck ⊢; exact ⟨⟨⟨⟨⟨⟨⟨hck.1.1, rfl⟩, rfl⟩, rfl⟩, rfl⟩, rfl⟩, hck.1.2⟩, hck.2⟩)
  exact key
set_option maxRecDepth 20000 in
theorem r_qp (t : ByteArray) (l : List ByteArray) (b : Nat) (ht : t.size <= 40000) (hl : ∀ w ∈ l, wok w) (ho : o.op = .call { callee := .value (.func 84), args := xs, argTypes := ts } := by rfl) (hv : evl fr xs.toList = [P0, .slice (some ⟨b, 0, none⟩) l.length 1] := by rfl)
    (hc0 : hget hc 0 = some (q0 t) := by rfl) (hcb : hget hc b = some (l.map Value.string) := by rfl) (hll : Nat.ble l.length 1000 = true := by rfl) (hck : (apartL [0, b] && Nat.ble nc 4096 && ([0, b] : List Nat).all (Nat.blt · nc)) = true := by rfl) :
    Oa (Am w0 X) Tryz.prog o fr hc nc ⟨.tuple #[], mskL (setsH hc ([0].zip [some (q0 (qps t l))] ++ [(b, none)])) [0], nc, bitsL [0, b], bitsL [0, b]⟩ := by
  have key := r_c (w0 := w0) (X := X) (o := o) (fr := fr) (hc := hc) (nc := nc) (tc := .tuple #[]) [0, b] [some (q0 (qps t l))] [0] ho (y := .func 84) rfl (d_put t l ht hl (Nat.le_of_ble_eq_true hll) X)
    (by show fitL _ (evl fr xs.toList ++ []) _; rw [hv]; exact fitL_cons fp (fitL_cons fs (by rfl)))
    (by
      refine ⟨trivial, ?_, trivial, ?_, trivial⟩
      · show (match hget hc 0 with | some us => fitL [0, b] us _ | none => False)
        rw [hc0]; exact fl rfl (q0_pur t)
      · show (match hget hc b with | some us => fitL [0, b] us _ | none => False)
        rw [hcb]; exact fl rfl (str_pur l))
    ut0
    ⟨ul rfl (q0_pur _), trivial⟩ Tryz.func84 rfl
    (by simp only [Bool.and_eq_true] at hck ⊢; exact ⟨⟨⟨⟨⟨⟨⟨hck.1.1, rfl⟩, rfl⟩, rfl⟩, rfl⟩, rfl⟩, hck.1.2⟩, hck.2⟩)
  exact key
end
set_option maxRecDepth 20000 in
theorem d_value (t : ByteArray) (v : VL) (hv : v.ok) (hc : cst v = true) (ht : t.size <= 40000) (X : World) : CQ X 92 [P0, v.y] t [cw v] := by
  have hok := cw_ok hc
  refine fn_c _ Tryz.func92 rfl rfl rfl rfl (fun w l tw X' hX => run_ok (st mo ?_))
  repeat refine st mo ?_
  refine ⟨fun h1 => ?_, fun h1 => ?_⟩
  · have e : cw v = dtx v.b v.n v.s := by unfold cw; rw [if_pos h1]
    rw [e] at hok ⊢
    repeat refine st mo ?_
    refine ⟨_, fun _ => r_call (t := .string (dtx v.b v.n v.s)) rfl rfl Tryz.func155 (fun W M E => q_dtx v.b v.n v.s hv W), st mo ?_⟩
    repeat refine st mo ?_
    refine ⟨_, fun nn => r_qp t [dtx v.b v.n v.s] 2 ht (one_ok hok), st mo ?_⟩
    repeat refine st mo ?_
    exact ⟨rfl, [0], ft0, ⟨trivial, fl rfl (q0_pur _), trivial⟩, rfl, rfl⟩
  repeat refine st mo ?_
  refine ⟨fun h3 => ?_, fun h3 => ?_⟩
  · have e : cw v = quo v.t := by unfold cw; rw [if_neg h1, if_neg (by omega)]
    have hts : v.t.size <= 64 := by rcases cst_cases hc with h | h | h; omega; omega; exact h.2
    rw [e] at hok ⊢
    repeat refine st mo ?_
    refine ⟨_, fun _ => r_call (t := .string (quo v.t)) rfl rfl Tryz.func165 (fun W M E => q_quo v.t hts W), st mo ?_⟩
    repeat refine st mo ?_
    refine ⟨_, fun nn => r_qp t [quo v.t] 2 ht (one_ok hok), st mo ?_⟩
    repeat refine st mo ?_
    exact ⟨rfl, [0], ft0, ⟨trivial, fl rfl (q0_pur _), trivial⟩, rfl, rfl⟩
  repeat refine st mo ?_
  refine ⟨fun h2 => ?_, fun h2 => ?_⟩
  · have e : cw v = (if v.f then Tru else Fls) := by unfold cw; rw [if_neg h1, if_pos h2]
    rw [e] at hok ⊢
    repeat refine st mo ?_
    refine ⟨fun hf => ?_, fun hf => ?_⟩
    · rw [hf] at hok ⊢
      have hok' : ∀ w ∈ [Tru], wok w := one_ok hok
      repeat refine st mo ?_
      refine ⟨_, fun nn => r_qp t [Tru] 2 ht hok', st mo ?_⟩
      repeat refine st mo ?_
      exact ⟨rfl, [0], ft0, ⟨trivial, fl rfl (q0_pur _), trivial⟩, rfl, rfl⟩
    · rw [hf] at hok ⊢
      have hok' : ∀ w ∈ [Fls], wok w := one_ok hok
      repeat refine st mo ?_
      refine ⟨_, fun nn => r_qp t [Fls] 2 ht hok', st mo ?_⟩
      repeat refine st mo ?_
      exact ⟨rfl, [0], ft0, ⟨trivial, fl rfl (q0_pur _), trivial⟩, rfl, rfl⟩
  · rcases cst_cases hc with h | h | h
    · exact absurd h h1
    · exact absurd h h2
    · exact absurd h.1 h3
set_option maxRecDepth 20000 in
theorem d_pol (X : World) : Ctr Tryz.prog X 167 [] [] 0 0 (.slice (some ⟨0, 0, none⟩) 6 1) [(0 + 4096, none), (0, some (osV plw))] 1 := by
  refine fn_c _ Tryz.func167 rfl rfl rfl rfl (fun w ll tw X' hX => run_ok (st mo ?_))
  repeat refine st mo ?_
  exact ⟨rfl, [0], fs, ⟨trivial, fl rfl rfl, trivial⟩, rfl, rfl⟩
set_option maxRecDepth 20000 in
theorem d_word (L : List ByteArray) (i : Nat) (u : ByteArray) (h : L[i]? = some u) (X : World) : Ctr Tryz.prog X 166 [.slice (some ⟨0, 0, none⟩) L.length 1, .int .i64 (i : Int)] [(0 + 4096, none), (0, some (osV L))] 1 0 (.string u) [] 0 := by
  have hl : i < L.length := (List.getElem?_eq_some_iff.1 h).1
  refine fn_c _ Tryz.func166 rfl rfl rfl rfl (fun w ll tw X' hX => run_ok (st mo ?_))
  repeat refine st mo ?_
  refine ⟨fun h0 => absurd h0 (by omega), fun _ => ?_⟩
  repeat refine st mo ?_
  refine ⟨fun h0 => absurd h0 (by omega), fun _ => ?_⟩
  repeat refine st mo ?_
  refine ⟨i, rfl, hl, st mo ⟨_, osV_at h, st mo ?_⟩⟩
  repeat refine st mo ?_
  exact ⟨rfl, [], fvp, trivial, rfl, rfl⟩
def EachQ (X : World) (p : Option Addr) (l : List Ex) (r : Ex -> List ByteArray) : Prop := ∀ i y, l[i]? = some y -> (∃ b o, p = some ⟨b, o, none⟩ /\ Lies X b (o + i * 17) y.c) /\ (∀ w ∈ r y, wok w) /\ qlv y = lv y - 1 ∧
  ∀ (X' : World) (t : ByteArray), Xf X' X -> t.size <= 40000 -> CQ X' 38 [P0, y.y] t (r y)
theorem EachQ.xf {X X' : World} {p : Option Addr} {l : List Ex} {r : Ex -> List ByteArray} (h : EachQ X p l r) (hX : Xf X' X) : EachQ X' p l r := fun i y hy => by
  obtain ⟨⟨b, o, h1, h2⟩, h3, h4, h5⟩ := h i y hy
  exact ⟨⟨b, o, h1, fun j u hj => xce hX _ _ (h2 j u hj)⟩, h3, h4, fun X2 t hX2 => h5 X2 t (hX2.tr hX)⟩
set_option maxRecDepth 20000 in
theorem d_within (t : ByteArray) (x y : Ex) (i : Nat) (least m : Int) (r : Ex -> List ByteArray) (hm : m = least - 1) (hy : x.a[i]? = some y) (ht : t.size <= 40000) (X : World) (hE : EachQ X x.p x.a r) : CQ X 93 [P0, x.y, .int .i64 (i : Int), .int .i64 m] t (wXg r least y) := by
  have hil : i < x.a.length := (List.getElem?_eq_some_iff.1 hy).1
  refine fn_c _ Tryz.func93 rfl rfl rfl rfl (fun w l tw X' hX => run_ok (st mo ?_))
  obtain ⟨⟨b4, o4, h4, h5⟩, h6, h7, h8⟩ := (hE.xf hX) i y hy
  have hok := wXg_ok (least := least) h6
  repeat refine st mo ?_
  refine ⟨fun h0 => absurd h0 (by omega), fun _ => ?_⟩
  repeat refine st mo ?_
  refine ⟨b4, o4, i, h4, rfl, hil, ?_⟩
  repeat refine st mo ?_
  refine ⟨y.c, rfl, h5, ?_⟩
  repeat refine st mo ?_
  refine ⟨_, fun _ => r_call (t := .int .i64 (qlv y)) rfl rfl Tryz.func94 (fun W M E => d_level y W), st mo ?_⟩
  repeat refine st mo ?_
  refine ⟨fun h1 => ?_, fun h1 => ?_⟩
  · have e : wXg r least y = [Lpa] ++ (r y ++ [Rpa]) := by unfold wXg; rw [decide_eq_true (by omega)]; rfl
    rw [e, qps_app, qps_app]
    repeat refine st mo ?_
    refine ⟨_, fun nn => r_qp t [Lpa] 2 ht (one_ok sym_ok), st mo ?_⟩
    have ht1 := qps_size (l := [Lpa]) ht (one_ok sym_ok)
    generalize qps t [Lpa] = t1 at *
    repeat refine st mo ?_
    refine ⟨b4, o4, i, h4, rfl, hil, ?_⟩
    repeat refine st mo ?_
    refine ⟨y.c, rfl, h5, ?_⟩
    repeat refine st mo ?_
    refine ⟨_, fun nn => r_q t1 (qps t1 (r y)) rfl (h8 X' t1 xf ht1) (by exact fitL_cons fp (fitL_cons fv (by rfl))) (fn := Tryz.f38), st mo ?_⟩
    have ht2 := qps_size ht1 h6
    generalize qps t1 (r y) = t2 at *
    repeat refine st mo ?_
    refine ⟨_, fun nn => r_qp t2 [Rpa] 3 ht2 (one_ok sym_ok), st mo ?_⟩
    repeat refine st mo ?_
    exact ⟨rfl, [0], ft0, ⟨trivial, fl rfl (q0_pur _), trivial⟩, rfl, rfl⟩
  · have e : wXg r least y = r y := by unfold wXg; rw [decide_eq_false (by omega)]; rfl
    rw [e]
    repeat refine st mo ?_
    refine ⟨b4, o4, i, h4, rfl, hil, ?_⟩
    repeat refine st mo ?_
    refine ⟨y.c, rfl, h5, ?_⟩
    repeat refine st mo ?_
    refine ⟨_, fun nn => r_q t (qps t (r y)) rfl (h8 X' t xf ht) (by exact fitL_cons fp (fitL_cons fv (by rfl))) (fn := Tryz.f38), st mo ?_⟩
    repeat refine st mo ?_
    exact ⟨rfl, [0], ft0, ⟨trivial, fl rfl (q0_pur _), trivial⟩, rfl, rfl⟩
theorem len3 {x : Ex} (h : x.a.length = 3) : ∃ y z u, x.a = [y, z, u] := by
  match hx : x.a, h with
  | [y, z, u], _ => exact ⟨y, z, u, rfl⟩
theorem wB6' (r : Ex -> List ByteArray) {x y z u : Ex} (h : x.k = 6) (ha : x.a = [y, z, u]) : wBg r x = [IfW, Lpa] ++ (wXg r 1 y ++ ([Com] ++ (wXg r 1 z ++ ([Com] ++ (wXg r 1 u ++ [Rpa]))))) := by rw [wB6 r h, ha]; simp [wAr]
theorem wB7' (r : Ex -> List ByteArray) {x y : Ex} (h : x.k = 7) (ha : x.a = [y]) : wBg r x = [RouW, Lpa] ++ (wXg r 1 y ++ ([Com, ntx x.s, Com, plW x.pl] ++ [Rpa])) := by rw [wB7 r h ha]; rfl
theorem wB8' (r : Ex -> List ByteArray) {x y : Ex} (h : x.k = 8) (ha : x.a = [y]) : wBg r x = [x.nm, Lpa] ++ (wXg r 1 y ++ [Rpa]) := by rw [wB8 r h, ha]; rfl
theorem wB9' (r : Ex -> List ByteArray) {x y : Ex} (h : x.k = 9) (ha : x.a = [y]) : wBg r x = [BlaW, Lpa] ++ (wXg r 1 y ++ [Rpa]) := by rw [wB9 r h, ha]; rfl
abbrev RowW : ByteArray := ⟨#[114, 111, 119, 115]⟩
abbrev colL : List ByteArray := [⟨#[115, 117, 109]⟩, ⟨#[99, 111, 117, 110, 116]⟩, ⟨#[109, 105, 110]⟩, ⟨#[109, 97, 120]⟩]
theorem colL_at {op : Int} (h : 12 <= op) (h2 : op <= 15) : ∃ i : Nat, op - 12 = (i : Int) /\ colL[i]? = some (opW op) := by
  have : op = 12 ∨ op = 13 ∨ op = 14 ∨ op = 15 := by omega
  rcases this with rfl | rfl | rfl | rfl
  · exact ⟨0, rfl, rfl⟩
  · exact ⟨1, rfl, rfl⟩
  · exact ⟨2, rfl, rfl⟩
  · exact ⟨3, rfl, rfl⟩
set_option maxHeartbeats 2000000 in
set_option maxRecDepth 20000 in
theorem d_call (t : ByteArray) (x : Ex) (r : Ex -> List ByteArray) (hk : 6 <= x.k) (hn : nde x = true) (ht : t.size <= 40000) (X : World) (hE : EachQ X x.p x.a r) : CQ X 95 [P0, x.y] t (wBg r x) := by
  have hkk := nde_k hn
  refine fn_c _ Tryz.func95 rfl rfl rfl rfl (fun w l tw X' hX => run_ok (st mo ?_))
  repeat refine st mo ?_
  refine ⟨fun h6 => ?_, fun h6 => ?_⟩
  · rw [nde6 h6] at hn
    simp at hn
    obtain ⟨y, z, u, ha⟩ := len3 hn.1
    rw [wB6' r h6 ha]
    simp only [qps_app]
    have ok1 : ∀ w ∈ [IfW, Lpa], wok w := cons_ok ⟨by decide, by decide⟩ (one_ok sym_ok)
    have oky := wXg_ok (least := 1) (hE 0 y (by rw [ha]; rfl)).2.1
    have okz := wXg_ok (least := 1) (hE 1 z (by rw [ha]; rfl)).2.1
    have oku := wXg_ok (least := 1) (hE 2 u (by rw [ha]; rfl)).2.1
    repeat refine st mo ?_
    refine ⟨_, fun nn => r_qp t [IfW, Lpa] 2 ht ok1, st mo ?_⟩
    have ht1 := qps_size ht ok1
    generalize qps t [IfW, Lpa] = t1 at *
    repeat refine st mo ?_
    refine ⟨_, fun nn => r_q t1 (qps t1 (wXg r 1 y)) rfl (d_within t1 x y 0 1 0 r rfl (by rw [ha]; rfl) ht1 X' (hE.xf hX)) (by exact fitL_cons fp (fitL_cons fv (fitL_cons fv (fitL_cons fv (by rfl))))) (fn := Tryz.f93), st mo ?_⟩
    have ht2 := qps_size ht1 oky
    generalize qps t1 (wXg r 1 y) = t2 at *
    repeat refine st mo ?_
    refine ⟨_, fun nn => r_qp t2 [Com] 3 ht2 (one_ok sym_ok), st mo ?_⟩
    have ht3 := qps_size (l := [Com]) ht2 (one_ok sym_ok)
    generalize qps t2 [Com] = t3 at *
    repeat refine st mo ?_
    refine ⟨_, fun nn => r_q t3 (qps t3 (wXg r 1 z)) rfl (d_within t3 x z 1 1 0 r rfl (by rw [ha]; rfl) ht3 X' (hE.xf hX)) (by exact fitL_cons fp (fitL_cons fv (fitL_cons fv (fitL_cons fv (by rfl))))) (fn := Tryz.f93), st mo ?_⟩
    have ht4 := qps_size ht3 okz
    generalize qps t3 (wXg r 1 z) = t4 at *
    repeat refine st mo ?_
    refine ⟨_, fun nn => r_qp t4 [Com] 4 ht4 (one_ok sym_ok), st mo ?_⟩
    have ht5 := qps_size (l := [Com]) ht4 (one_ok sym_ok)
    generalize qps t4 [Com] = t5 at *
    repeat refine st mo ?_
    refine ⟨_, fun nn => r_q t5 (qps t5 (wXg r 1 u)) rfl (d_within t5 x u 2 1 0 r rfl (by rw [ha]; rfl) ht5 X' (hE.xf hX)) (by exact fitL_cons fp (fitL_cons fv (fitL_cons fv (fitL_cons fv (by rfl))))) (fn := Tryz.f93), st mo ?_⟩
    have ht6 := qps_size ht5 oku
    generalize qps t5 (wXg r 1 u) = t6 at *
    repeat refine st mo ?_
    refine ⟨_, fun nn => r_qp t6 [Rpa] 5 ht6 (one_ok sym_ok), st mo ?_⟩
    repeat refine st mo ?_
    exact ⟨rfl, [0], ft0, ⟨trivial, fl rfl (q0_pur _), trivial⟩, rfl, rfl⟩
  repeat refine st mo ?_
  refine ⟨fun h7 => ?_, fun h7 => ?_⟩
  · rw [nde7 h7] at hn
    simp at hn
    obtain ⟨y, ha⟩ := len1 hn.2.1
    have hI := isI_iff.1 hn.1.1
    have hP := isP_iff.1 hn.1.2
    obtain ⟨i, hi, hi2, hi3⟩ := plw_at (p := x.pl) (by omega) hP.2
    rw [wB7' r h7 ha]
    simp only [qps_app]
    have ok1 : ∀ w ∈ [RouW, Lpa], wok w := cons_ok ⟨by decide, by decide⟩ (one_ok sym_ok)
    have oky := wXg_ok (least := 1) (hE 0 y (by rw [ha]; rfl)).2.1
    have ok3 : ∀ w ∈ [Com, ntx x.s, Com, plW x.pl], wok w := cons_ok sym_ok (cons_ok (ntx_ok x.s) (cons_ok sym_ok (one_ok (plw_ok hP.1 hP.2))))
    repeat refine st mo ?_
    refine ⟨_, fun nn => r_qp t [RouW, Lpa] 2 ht ok1, st mo ?_⟩
    have ht1 := qps_size ht ok1
    generalize qps t [RouW, Lpa] = t1 at *
    repeat refine st mo ?_
    refine ⟨_, fun nn => r_q t1 (qps t1 (wXg r 1 y)) rfl (d_within t1 x y 0 1 0 r rfl (by rw [ha]; rfl) ht1 X' (hE.xf hX)) (by exact fitL_cons fp (fitL_cons fv (fitL_cons fv (fitL_cons fv (by rfl))))) (fn := Tryz.f93), st mo ?_⟩
    have ht2 := qps_size ht1 oky
    generalize qps t1 (wXg r 1 y) = t2 at *
    repeat refine st mo ?_
    refine ⟨_, fun _ => r_call (t := .string (ntx x.s)) rfl rfl Tryz.func154 (fun W M E => q_nat x.s hI.1 hI.2 W), st mo ?_⟩
    repeat refine st mo ?_
    refine ⟨_, fun _ => r_c (tc := .slice (some ⟨3, 0, none⟩) 6 1) [] [some (osV plw)] [3] rfl rfl (d_pol X') (by rfl) trivial us ⟨ul rfl rfl, trivial⟩, st mo ?_⟩
    repeat refine st mo ?_
    refine ⟨_, fun _ => r_c (tc := .string (plW x.pl)) [3] [] [] rfl rfl (d_word plw i (plW x.pl) hi3 X') (by exact fitL_cons fs (fitL_cons (fv (by rw [hi]; rfl)) (by rfl))) ⟨trivial, fl rfl rfl, trivial⟩ uv trivial, st mo ?_⟩
    repeat refine st mo ?_
    refine ⟨_, fun nn => r_qp t2 [Com, ntx x.s, Com, plW x.pl] 4 ht2 ok3, st mo ?_⟩
    have ht3 := qps_size ht2 ok3
    generalize qps t2 [Com, ntx x.s, Com, plW x.pl] = t3 at *
    repeat refine st mo ?_
    refine ⟨dk, st mo ?_⟩
    repeat refine st mo ?_
    refine ⟨_, fun nn => r_qp t3 [Rpa] 5 ht3 (one_ok sym_ok), st mo ?_⟩
    repeat refine st mo ?_
    exact ⟨rfl, [0], ft0, ⟨trivial, fl rfl (q0_pur _), trivial⟩, rfl, rfl⟩
  repeat refine st mo ?_
  refine ⟨fun h9 => ?_, fun h9 => ?_⟩
  · rw [nde3 (x := x) (by omega)] at hn
    simp at hn
    obtain ⟨y, ha⟩ := len1 (x := x) hn.1
    rw [wB9' r h9 ha]
    simp only [qps_app]
    have ok1 : ∀ w ∈ [BlaW, Lpa], wok w := cons_ok (⟨by decide, by decide⟩) (one_ok sym_ok)
    have oky := wXg_ok (least := 1) (hE 0 y (by rw [ha]; rfl)).2.1
    repeat refine st mo ?_
    refine ⟨_, fun nn => r_qp t [BlaW, Lpa] 2 ht ok1, st mo ?_⟩
    have ht1 := qps_size ht ok1
    generalize qps t [BlaW, Lpa] = t1 at *
    repeat refine st mo ?_
    refine ⟨_, fun nn => r_q t1 (qps t1 (wXg r 1 y)) rfl (d_within t1 x y 0 1 0 r rfl (by rw [ha]; rfl) ht1 X' (hE.xf hX)) (by exact fitL_cons fp (fitL_cons fv (fitL_cons fv (fitL_cons fv (by rfl))))) (fn := Tryz.f93), st mo ?_⟩
    have ht2 := qps_size ht1 oky
    generalize qps t1 (wXg r 1 y) = t2 at *
    repeat refine st mo ?_
    refine ⟨_, fun nn => r_qp t2 [Rpa] 3 ht2 (one_ok sym_ok), st mo ?_⟩
    repeat refine st mo ?_
    exact ⟨rfl, [0], ft0, ⟨trivial, fl rfl (q0_pur _), trivial⟩, rfl, rfl⟩
  repeat refine st mo ?_
  refine ⟨fun h8 => ?_, fun h8 => ?_⟩
  · rw [nde8 h8] at hn
    simp at hn
    obtain ⟨y, ha⟩ := len1 (x := x) hn.2.1
    rw [wB8' r h8 ha]
    simp only [qps_app]
    have ok1 : ∀ w ∈ [x.nm, Lpa], wok w := cons_ok (fre_ok hn.1) (one_ok sym_ok)
    have oky := wXg_ok (least := 1) (hE 0 y (by rw [ha]; rfl)).2.1
    repeat refine st mo ?_
    refine ⟨_, fun nn => r_qp t [x.nm, Lpa] 2 ht ok1, st mo ?_⟩
    have ht1 := qps_size ht ok1
    generalize qps t [x.nm, Lpa] = t1 at *
    repeat refine st mo ?_
    refine ⟨_, fun nn => r_q t1 (qps t1 (wXg r 1 y)) rfl (d_within t1 x y 0 1 0 r rfl (by rw [ha]; rfl) ht1 X' (hE.xf hX)) (by exact fitL_cons fp (fitL_cons fv (fitL_cons fv (fitL_cons fv (by rfl))))) (fn := Tryz.f93), st mo ?_⟩
    have ht2 := qps_size ht1 oky
    generalize qps t1 (wXg r 1 y) = t2 at *
    repeat refine st mo ?_
    refine ⟨_, fun nn => r_qp t2 [Rpa] 3 ht2 (one_ok sym_ok), st mo ?_⟩
    repeat refine st mo ?_
    exact ⟨rfl, [0], ft0, ⟨trivial, fl rfl (q0_pur _), trivial⟩, rfl, rfl⟩
  repeat refine st mo ?_
  refine ⟨fun h10 => ?_, fun h10 => ?_⟩
  · rw [nde10 h10] at hn
    simp at hn
    have hc := hn.1
    rw [wB10 r h10]
    repeat refine st mo ?_
    refine ⟨fun h1 => ?_, fun h1 => ?_⟩
    · have e : colw x = [RowW, Lpa, x.sc] ++ [Rpa] := by unfold colw; rw [if_pos h1, h1]; rfl
      have hsc : wok x.sc := by rcases col_cases hc with h | h; exact fre_ok h.2.1; exact fre_ok h.2.2.1
      have ok1 : ∀ w ∈ [RowW, Lpa, x.sc], wok w := cons_ok ⟨by decide, by decide⟩ (cons_ok sym_ok (one_ok hsc))
      rw [e, qps_app]
      repeat refine st mo ?_
      refine ⟨_, fun nn => r_qp t [RowW, Lpa, x.sc] 2 ht ok1, st mo ?_⟩
      have ht1 := qps_size ht ok1
      generalize qps t [RowW, Lpa, x.sc] = t1 at *
      repeat refine st mo ?_
      refine ⟨_, fun nn => r_qp t1 [Rpa] 3 ht1 (one_ok sym_ok), st mo ?_⟩
      repeat refine st mo ?_
      exact ⟨rfl, [0], ft0, ⟨trivial, fl rfl (q0_pur _), trivial⟩, rfl, rfl⟩
    · have e : colw x = [opW x.op, Lpa, x.sc, ⟨#[46]⟩, x.nm] ++ [Rpa] := by unfold colw; rw [if_neg h1]; rfl
      have h2 : 12 <= x.op /\ x.op <= 15 /\ fre x.sc = true /\ fre x.nm = true := by rcases col_cases hc with h | h; exact absurd h.1 h1; exact h
      obtain ⟨i, hi, hi3⟩ := colL_at h2.1 h2.2.1
      have ok1 : ∀ w ∈ [opW x.op, Lpa, x.sc, ⟨#[46]⟩, x.nm], wok w := cons_ok (opw_ok (by omega) (by omega)) (cons_ok sym_ok (cons_ok (fre_ok h2.2.2.1) (cons_ok sym_ok (one_ok (fre_ok h2.2.2.2)))))
      rw [e, qps_app]
      repeat refine st mo ?_
      refine ⟨_, wz i hi (by omega), st mo ?_⟩
      repeat refine st mo ?_
      refine ⟨_, fun _ => r_c (tc := .string (opW x.op)) [2] [] [] rfl rfl (d_word colL i (opW x.op) hi3 X') (by exact fitL_cons fs (fitL_cons fv (by rfl))) ⟨trivial, fl rfl rfl, trivial⟩ uv trivial, st mo ?_⟩
      repeat refine st mo ?_
      refine ⟨_, fun nn => r_qp t [opW x.op, Lpa, x.sc, ⟨#[46]⟩, x.nm] 3 ht ok1, st mo ?_⟩
      have ht1 := qps_size ht ok1
      generalize qps t [opW x.op, Lpa, x.sc, ⟨#[46]⟩, x.nm] = t1 at *
      repeat refine st mo ?_
      refine ⟨dk, st mo ?_⟩
      repeat refine st mo ?_
      refine ⟨_, fun nn => r_qp t1 [Rpa] 4 ht1 (one_ok sym_ok), st mo ?_⟩
      repeat refine st mo ?_
      exact ⟨rfl, [0], ft0, ⟨trivial, fl rfl (q0_pur _), trivial⟩, rfl, rfl⟩
  · omega
theorem opS_at {i j : Nat} {op : Int} (h : (opL i)[j]? = some op) : (opS i)[j]? = some (opW op) := by
  match i, h with
  | 0, h => match j, h with
    | 0, h => cases h; rfl
    | (_ + 1), h => simp [opL] at h
  | 1, h => match j, h with
    | 0, h => cases h; rfl
    | (_ + 1), h => simp [opL] at h
  | 2, h => simp [opL] at h
  | 3, h => match j, h with
    | 0, h => cases h; rfl
    | 1, h => cases h; rfl
    | 2, h => cases h; rfl
    | 3, h => cases h; rfl
    | 4, h => cases h; rfl
    | 5, h => cases h; rfl
    | (_ + 6), h => simp [opL] at h
  | 4, h => match j, h with
    | 0, h => cases h; rfl
    | 1, h => cases h; rfl
    | (_ + 2), h => simp [opL] at h
  | 5, h => match j, h with
    | 0, h => cases h; rfl
    | (_ + 1), h => simp [opL] at h
  | (_ + 6), h => simp [opL] at h
theorem opL_nd (i : Nat) : (opL i).Nodup := by unfold opL; split <;> decide
theorem nd_take {l : List Int} (h : l.Nodup) {j : Nat} {u : Int} (hu : l[j]? = some u) : u ∉ l.take j := fun hm => by
  obtain ⟨k, hk⟩ := List.mem_iff_getElem?.1 hm
  have hkj : k < j := by
    have := (List.getElem?_eq_some_iff.1 hk).1
    rw [List.length_take] at this; omega
  rw [List.getElem?_take, if_pos hkj] at hk
  have h1 := (List.getElem?_eq_some_iff.1 hk)
  have h2 := (List.getElem?_eq_some_iff.1 hu)
  exact List.pairwise_iff_getElem.1 h k j h1.1 h2.1 hkj (h1.2.trans h2.2.symm)
theorem lvo_0 {op : Int} (h : op ∈ opL 0) : lvo op = 0 + 1 := by simp [opL] at h; unfold lvo; repeat' split <;> omega
set_option maxHeartbeats 2000000 in
set_option maxRecDepth 20000 in
theorem d_bin0 (t : ByteArray) (x y z : Ex) (r : Ex -> List ByteArray) (hk : x.k = 5) (ha : x.a = [y, z]) (hop : x.op ∈ opL 0) (hop2 : 1 <= x.op /\ x.op <= 11) (ht : t.size <= 16384) (X : World) (hE : EachQ X x.p x.a r) : CQ X 38 [P0, x.y] t (wXg r (if lvo x.op = 4 then 5 else lvo x.op) y ++ ([opW x.op] ++ wXg r (lvo x.op + 1) z)) := by
  have hlv := lvo_0 hop
  have hql : qlv x = 0 := by unfold qlv; rw [if_neg (by omega), if_neg (by omega), if_pos hk]; exact (opL_lev hop).1
  have oky := wXg_ok (least := if lvo x.op = 4 then 5 else lvo x.op) (hE 0 y (by rw [ha]; rfl)).2.1
  have okz := wXg_ok (least := lvo x.op + 1) (hE 1 z (by rw [ha]; rfl)).2.1
  have okw := opw_ok (op := x.op) (by omega) (by omega)
  unfold CQ
  rw [qps_app, qps_app]
  refine fn_c _ Tryz.func38 rfl rfl rfl rfl (fun w l tw X' hX => run_ok (st mo ?_))
  have hq := q0_s (t := t) ht
  repeat refine st mo ?_
  refine ⟨_, by rw [hq]; rfl, st mo ?_⟩
  repeat refine st mo ?_
  refine ⟨fun h => absurd h (by omega), fun _ => ?_⟩
  repeat refine st mo ?_
  refine ⟨fun h => absurd h (by omega), fun _ => ?_⟩
  repeat refine st mo ?_
  refine ⟨fun h => absurd h (by omega), fun _ => ?_⟩
  repeat refine st mo ?_
  refine ⟨fun h => absurd h (by omega), fun _ => ?_⟩
  repeat refine st mo ?_
  refine ⟨fun _ => ?_, fun h => absurd hk h⟩
  repeat refine st mo ?_
  refine ⟨_, fun _ => r_call (t := .int .i64 0) rfl rfl Tryz.func94 (fun W M E => hql ▸ d_level x W), st mo ?_⟩
  repeat refine st mo ?_
  refine ⟨fun h => absurd h (by decide), fun _ => ?_⟩
  repeat refine st mo ?_
  refine ⟨_, fun nn => r_q t (qps t (wXg r (if lvo x.op = 4 then 5 else lvo x.op) y)) rfl (d_within t x y 0 (if lvo x.op = 4 then 5 else lvo x.op) 0 r (by rw [hlv]; rfl) (by rw [ha]; rfl) (by omega) X' (hE.xf hX)) (by exact fitL_cons fp (fitL_cons fv (fitL_cons fv (fitL_cons fv (by rfl))))) (fn := Tryz.f93), st mo ?_⟩
  have ht1 := qps_size (t := t) (by omega) oky
  generalize qps t (wXg r (if lvo x.op = 4 then 5 else lvo x.op) y) = t1 at *
  repeat refine st mo ?_
  refine ⟨_, fun _ => r_c (tc := .tuple #[.slice (some ⟨2, 0, none⟩) 1 1, .slice (some ⟨3, 0, none⟩) 1 1]) [] [some (osV (opS 0)), some (oiV (opL 0))] [2, 3] rfl rfl (c_ops0 X') (by exact fitL_cons fv (by rfl)) trivial (ut2 us us) ⟨ul rfl rfl, ul rfl rfl, trivial⟩, st mo ?_⟩
  repeat refine st mo ?_
  refine w_loop (fun j : Nat => ⟨⟨88, [(0, P0), (3, .pointer (some ⟨1, 0, none⟩)), (4, .int .i64 0), (6, .slice (some ⟨2, 0, none⟩) 1 1), (7, .slice (some ⟨3, 0, none⟩) 1 1), (8, .int .i64 (j : Int))]⟩, [(0 + 4096, none), (0, some (q0 (if x.op ∈ (opL 0).take j then qps t1 [opW x.op] else t1))), (1, some (x.c.map rel1)), (2, some (osV (opS 0))), (3, some (oiV (opL 0)))], 4, X'⟩) (fun j => j <= 1) (fun j => 1 - j) 0 (Nat.zero_le _) [0, 1, 2, 3] ⟨rfl, ⟨fp, fp, fv, fs, fs, fv, trivial⟩, ⟨trivial, fl rfl (q0_pur _), flr rfl, fl rfl rfl, fl rfl rfl, trivial⟩, xf, rfl, rfl⟩ ?_
  intro j hj
  repeat refine st mo ?_
  refine ⟨fun hlt2 => ?_, fun hge2 => ?_⟩
  · have hjl : j < (opL 0).length := by show j < 1; omega
    obtain ⟨u, hu⟩ : ∃ u, (opL 0)[j]? = some u := ⟨_, List.getElem?_eq_getElem hjl⟩
    have htk : (opL 0).take (j + 1) = (opL 0).take j ++ [u] := by rw [List.take_add_one, hu]; rfl
    repeat refine st mo ?_
    refine ⟨j, rfl, by omega, st mo ⟨_, oiV_at hu, st mo ?_⟩⟩
    repeat refine st mo ?_
    refine ⟨fun h4 => ?_, fun h4 => ?_⟩
    · have hno : x.op ∉ (opL 0).take j := by rw [← h4]; exact nd_take (opL_nd 0) hu
      have hS : (opS 0)[j]? = some (opW x.op) := opS_at (by rw [← h4]; exact hu)
      have hyes : x.op ∈ (opL 0).take (j + 1) := by rw [htk, h4]; simp
      rw [if_neg hno]
      repeat refine st mo ?_
      refine ⟨dk, st mo ?_⟩
      refine ⟨j, rfl, by omega, st mo ⟨_, osV_at hS, st mo ?_⟩⟩
      repeat refine st mo ?_
      refine ⟨_, fun nn => r_qp t1 [opW x.op] 4 ht1 (one_ok okw), st mo ?_⟩
      repeat refine st mo ?_
      refine ⟨_, wz (j + 1) rfl, st mo ?_⟩
      exact ⟨j + 1, by omega, by show 1 - (j + 1) < 1 - j; omega, [0, 1, 2, 3], rfl, ⟨fp, fp, fv, fs, fs, fv, trivial⟩, ⟨trivial, by simp only [if_pos hyes]; exact fl rfl (q0_pur _), flr rfl, fl rfl rfl, fl rfl rfl, trivial⟩, xf, rfl, rfl⟩
    · repeat refine st mo ?_
      refine ⟨dk, st mo ?_⟩
      repeat refine st mo ?_
      refine ⟨_, wz (j + 1) rfl, st mo ?_⟩
      have hsm : (x.op ∈ (opL 0).take (j + 1)) = (x.op ∈ (opL 0).take j) := by rw [htk]; simp; intro h; exact absurd h.symm h4
      exact ⟨j + 1, by omega, by show 1 - (j + 1) < 1 - j; omega, [0, 1, 2, 3], rfl, ⟨fp, fp, fv, fs, fs, fv, trivial⟩, ⟨trivial, by simp only [hsm]; exact fl rfl (q0_pur _), flr rfl, fl rfl rfl, fl rfl rfl, trivial⟩, xf, rfl, rfl⟩
  · have hall : x.op ∈ (opL 0).take j := by rw [List.take_of_length_le (by show 1 <= j; omega)]; exact hop
    rw [if_pos hall]
    have ht2 := qps_size ht1 (one_ok okw)
    generalize qps t1 [opW x.op] = t2 at *
    repeat refine st mo ?_
    refine ⟨_, wz (0 + 1) rfl, st mo ?_⟩
    repeat refine st mo ?_
    refine ⟨_, fun nn => r_q t2 (qps t2 (wXg r (lvo x.op + 1) z)) rfl (d_within t2 x z 1 (lvo x.op + 1) (0 + 1) r (by rw [hlv]; rfl) (by rw [ha]; rfl) ht2 X' (hE.xf hX)) (by exact fitL_cons fp (fitL_cons fv (fitL_cons fv (fitL_cons fv (by rfl))))) (fn := Tryz.f93), st mo ?_⟩
    repeat refine st mo ?_
    exact ⟨rfl, [0], ft0, ⟨trivial, fl rfl (q0_pur _), trivial⟩, rfl, rfl⟩
theorem lvo_1 {op : Int} (h : op ∈ opL 1) : lvo op = 1 + 1 := by simp [opL] at h; unfold lvo; repeat' split <;> omega
set_option maxHeartbeats 2000000 in
set_option maxRecDepth 20000 in
theorem d_bin1 (t : ByteArray) (x y z : Ex) (r : Ex -> List ByteArray) (hk : x.k = 5) (ha : x.a = [y, z]) (hop : x.op ∈ opL 1) (hop2 : 1 <= x.op /\ x.op <= 11) (ht : t.size <= 16384) (X : World) (hE : EachQ X x.p x.a r) : CQ X 38 [P0, x.y] t (wXg r (if lvo x.op = 4 then 5 else lvo x.op) y ++ ([opW x.op] ++ wXg r (lvo x.op + 1) z)) := by
  have hlv := lvo_1 hop
  have hql : qlv x = 1 := by unfold qlv; rw [if_neg (by omega), if_neg (by omega), if_pos hk]; exact (opL_lev hop).1
  have oky := wXg_ok (least := if lvo x.op = 4 then 5 else lvo x.op) (hE 0 y (by rw [ha]; rfl)).2.1
  have okz := wXg_ok (least := lvo x.op + 1) (hE 1 z (by rw [ha]; rfl)).2.1
  have okw := opw_ok (op := x.op) (by omega) (by omega)
  unfold CQ
  rw [qps_app, qps_app]
  refine fn_c _ Tryz.func38 rfl rfl rfl rfl (fun w l tw X' hX => run_ok (st mo ?_))
  have hq := q0_s (t := t) ht
  repeat refine st mo ?_
  refine ⟨_, by rw [hq]; rfl, st mo ?_⟩
  repeat refine st mo ?_
  refine ⟨fun h => absurd h (by omega), fun _ => ?_⟩
  repeat refine st mo ?_
  refine ⟨fun h => absurd h (by omega), fun _ => ?_⟩
  repeat refine st mo ?_
  refine ⟨fun h => absurd h (by omega), fun _ => ?_⟩
  repeat refine st mo ?_
  refine ⟨fun h => absurd h (by omega), fun _ => ?_⟩
  repeat refine st mo ?_
  refine ⟨fun _ => ?_, fun h => absurd hk h⟩
  repeat refine st mo ?_
  refine ⟨_, fun _ => r_call (t := .int .i64 1) rfl rfl Tryz.func94 (fun W M E => hql ▸ d_level x W), st mo ?_⟩
  repeat refine st mo ?_
  refine ⟨fun h => absurd h (by decide), fun _ => ?_⟩
  repeat refine st mo ?_
  refine ⟨_, fun nn => r_q t (qps t (wXg r (if lvo x.op = 4 then 5 else lvo x.op) y)) rfl (d_within t x y 0 (if lvo x.op = 4 then 5 else lvo x.op) 1 r (by rw [hlv]; rfl) (by rw [ha]; rfl) (by omega) X' (hE.xf hX)) (by exact fitL_cons fp (fitL_cons fv (fitL_cons fv (fitL_cons fv (by rfl))))) (fn := Tryz.f93), st mo ?_⟩
  have ht1 := qps_size (t := t) (by omega) oky
  generalize qps t (wXg r (if lvo x.op = 4 then 5 else lvo x.op) y) = t1 at *
  repeat refine st mo ?_
  refine ⟨_, fun _ => r_c (tc := .tuple #[.slice (some ⟨2, 0, none⟩) 1 1, .slice (some ⟨3, 0, none⟩) 1 1]) [] [some (osV (opS 1)), some (oiV (opL 1))] [2, 3] rfl rfl (c_ops1 X') (by exact fitL_cons fv (by rfl)) trivial (ut2 us us) ⟨ul rfl rfl, ul rfl rfl, trivial⟩, st mo ?_⟩
  repeat refine st mo ?_
  refine w_loop (fun j : Nat => ⟨⟨88, [(0, P0), (3, .pointer (some ⟨1, 0, none⟩)), (4, .int .i64 1), (6, .slice (some ⟨2, 0, none⟩) 1 1), (7, .slice (some ⟨3, 0, none⟩) 1 1), (8, .int .i64 (j : Int))]⟩, [(0 + 4096, none), (0, some (q0 (if x.op ∈ (opL 1).take j then qps t1 [opW x.op] else t1))), (1, some (x.c.map rel1)), (2, some (osV (opS 1))), (3, some (oiV (opL 1)))], 4, X'⟩) (fun j => j <= 1) (fun j => 1 - j) 0 (Nat.zero_le _) [0, 1, 2, 3] ⟨rfl, ⟨fp, fp, fv, fs, fs, fv, trivial⟩, ⟨trivial, fl rfl (q0_pur _), flr rfl, fl rfl rfl, fl rfl rfl, trivial⟩, xf, rfl, rfl⟩ ?_
  intro j hj
  repeat refine st mo ?_
  refine ⟨fun hlt2 => ?_, fun hge2 => ?_⟩
  · have hjl : j < (opL 1).length := by show j < 1; omega
    obtain ⟨u, hu⟩ : ∃ u, (opL 1)[j]? = some u := ⟨_, List.getElem?_eq_getElem hjl⟩
    have htk : (opL 1).take (j + 1) = (opL 1).take j ++ [u] := by rw [List.take_add_one, hu]; rfl
    repeat refine st mo ?_
    refine ⟨j, rfl, by omega, st mo ⟨_, oiV_at hu, st mo ?_⟩⟩
    repeat refine st mo ?_
    refine ⟨fun h4 => ?_, fun h4 => ?_⟩
    · have hno : x.op ∉ (opL 1).take j := by rw [← h4]; exact nd_take (opL_nd 1) hu
      have hS : (opS 1)[j]? = some (opW x.op) := opS_at (by rw [← h4]; exact hu)
      have hyes : x.op ∈ (opL 1).take (j + 1) := by rw [htk, h4]; simp
      rw [if_neg hno]
      repeat refine st mo ?_
      refine ⟨dk, st mo ?_⟩
      refine ⟨j, rfl, by omega, st mo ⟨_, osV_at hS, st mo ?_⟩⟩
      repeat refine st mo ?_
      refine ⟨_, fun nn => r_qp t1 [opW x.op] 4 ht1 (one_ok okw), st mo ?_⟩
      repeat refine st mo ?_
      refine ⟨_, wz (j + 1) rfl, st mo ?_⟩
      exact ⟨j + 1, by omega, by show 1 - (j + 1) < 1 - j; omega, [0, 1, 2, 3], rfl, ⟨fp, fp, fv, fs, fs, fv, trivial⟩, ⟨trivial, by simp only [if_pos hyes]; exact fl rfl (q0_pur _), flr rfl, fl rfl rfl, fl rfl rfl, trivial⟩, xf, rfl, rfl⟩
    · repeat refine st mo ?_
      refine ⟨dk, st mo ?_⟩
      repeat refine st mo ?_
      refine ⟨_, wz (j + 1) rfl, st mo ?_⟩
      have hsm : (x.op ∈ (opL 1).take (j + 1)) = (x.op ∈ (opL 1).take j) := by rw [htk]; simp; intro h; exact absurd h.symm h4
      exact ⟨j + 1, by omega, by show 1 - (j + 1) < 1 - j; omega, [0, 1, 2, 3], rfl, ⟨fp, fp, fv, fs, fs, fv, trivial⟩, ⟨trivial, by simp only [hsm]; exact fl rfl (q0_pur _), flr rfl, fl rfl rfl, fl rfl rfl, trivial⟩, xf, rfl, rfl⟩
  · have hall : x.op ∈ (opL 1).take j := by rw [List.take_of_length_le (by show 1 <= j; omega)]; exact hop
    rw [if_pos hall]
    have ht2 := qps_size ht1 (one_ok okw)
    generalize qps t1 [opW x.op] = t2 at *
    repeat refine st mo ?_
    refine ⟨_, wz (1 + 1) rfl, st mo ?_⟩
    repeat refine st mo ?_
    refine ⟨_, fun nn => r_q t2 (qps t2 (wXg r (lvo x.op + 1) z)) rfl (d_within t2 x z 1 (lvo x.op + 1) (1 + 1) r (by rw [hlv]; rfl) (by rw [ha]; rfl) ht2 X' (hE.xf hX)) (by exact fitL_cons fp (fitL_cons fv (fitL_cons fv (fitL_cons fv (by rfl))))) (fn := Tryz.f93), st mo ?_⟩
    repeat refine st mo ?_
    exact ⟨rfl, [0], ft0, ⟨trivial, fl rfl (q0_pur _), trivial⟩, rfl, rfl⟩
theorem lvo_3 {op : Int} (h : op ∈ opL 3) : lvo op = 3 + 1 := by simp [opL] at h; unfold lvo; repeat' split <;> omega
set_option maxHeartbeats 2000000 in
set_option maxRecDepth 20000 in
theorem d_bin3 (t : ByteArray) (x y z : Ex) (r : Ex -> List ByteArray) (hk : x.k = 5) (ha : x.a = [y, z]) (hop : x.op ∈ opL 3) (hop2 : 1 <= x.op /\ x.op <= 11) (ht : t.size <= 16384) (X : World) (hE : EachQ X x.p x.a r) : CQ X 38 [P0, x.y] t (wXg r (if lvo x.op = 4 then 5 else lvo x.op) y ++ ([opW x.op] ++ wXg r (lvo x.op + 1) z)) := by
  have hlv := lvo_3 hop
  have hql : qlv x = 3 := by unfold qlv; rw [if_neg (by omega), if_neg (by omega), if_pos hk]; exact (opL_lev hop).1
  have oky := wXg_ok (least := if lvo x.op = 4 then 5 else lvo x.op) (hE 0 y (by rw [ha]; rfl)).2.1
  have okz := wXg_ok (least := lvo x.op + 1) (hE 1 z (by rw [ha]; rfl)).2.1
  have okw := opw_ok (op := x.op) (by omega) (by omega)
  unfold CQ
  rw [qps_app, qps_app]
  refine fn_c _ Tryz.func38 rfl rfl rfl rfl (fun w l tw X' hX => run_ok (st mo ?_))
  have hq := q0_s (t := t) ht
  repeat refine st mo ?_
  refine ⟨_, by rw [hq]; rfl, st mo ?_⟩
  repeat refine st mo ?_
  refine ⟨fun h => absurd h (by omega), fun _ => ?_⟩
  repeat refine st mo ?_
  refine ⟨fun h => absurd h (by omega), fun _ => ?_⟩
  repeat refine st mo ?_
  refine ⟨fun h => absurd h (by omega), fun _ => ?_⟩
  repeat refine st mo ?_
  refine ⟨fun h => absurd h (by omega), fun _ => ?_⟩
  repeat refine st mo ?_
  refine ⟨fun _ => ?_, fun h => absurd hk h⟩
  repeat refine st mo ?_
  refine ⟨_, fun _ => r_call (t := .int .i64 3) rfl rfl Tryz.func94 (fun W M E => hql ▸ d_level x W), st mo ?_⟩
  repeat refine st mo ?_
  refine ⟨fun _ => ?_, fun h => absurd rfl h⟩
  repeat refine st mo ?_
  refine ⟨_, fun nn => r_q t (qps t (wXg r (if lvo x.op = 4 then 5 else lvo x.op) y)) rfl (d_within t x y 0 (if lvo x.op = 4 then 5 else lvo x.op) 4 r (by rw [hlv]; rfl) (by rw [ha]; rfl) (by omega) X' (hE.xf hX)) (by exact fitL_cons fp (fitL_cons fv (fitL_cons fv (fitL_cons fv (by rfl))))) (fn := Tryz.f93), st mo ?_⟩
  have ht1 := qps_size (t := t) (by omega) oky
  generalize qps t (wXg r (if lvo x.op = 4 then 5 else lvo x.op) y) = t1 at *
  repeat refine st mo ?_
  refine ⟨_, fun _ => r_c (tc := .tuple #[.slice (some ⟨2, 0, none⟩) 6 1, .slice (some ⟨3, 0, none⟩) 6 1]) [] [some (osV (opS 3)), some (oiV (opL 3))] [2, 3] rfl rfl (c_ops3 X') (by exact fitL_cons fv (by rfl)) trivial (ut2 us us) ⟨ul rfl rfl, ul rfl rfl, trivial⟩, st mo ?_⟩
  repeat refine st mo ?_
  refine w_loop (fun j : Nat => ⟨⟨88, [(0, P0), (3, .pointer (some ⟨1, 0, none⟩)), (4, .int .i64 3), (6, .slice (some ⟨2, 0, none⟩) 6 1), (7, .slice (some ⟨3, 0, none⟩) 6 1), (8, .int .i64 (j : Int))]⟩, [(0 + 4096, none), (0, some (q0 (if x.op ∈ (opL 3).take j then qps t1 [opW x.op] else t1))), (1, some (x.c.map rel1)), (2, some (osV (opS 3))), (3, some (oiV (opL 3)))], 4, X'⟩) (fun j => j <= 6) (fun j => 6 - j) 0 (Nat.zero_le _) [0, 1, 2, 3] ⟨rfl, ⟨fp, fp, fv, fs, fs, fv, trivial⟩, ⟨trivial, fl rfl (q0_pur _), flr rfl, fl rfl rfl, fl rfl rfl, trivial⟩, xf, rfl, rfl⟩ ?_
  intro j hj
  repeat refine st mo ?_
  refine ⟨fun hlt2 => ?_, fun hge2 => ?_⟩
  · have hjl : j < (opL 3).length := by show j < 6; omega
    obtain ⟨u, hu⟩ : ∃ u, (opL 3)[j]? = some u := ⟨_, List.getElem?_eq_getElem hjl⟩
    have htk : (opL 3).take (j + 1) = (opL 3).take j ++ [u] := by rw [List.take_add_one, hu]; rfl
    repeat refine st mo ?_
    refine ⟨j, rfl, by omega, st mo ⟨_, oiV_at hu, st mo ?_⟩⟩
    repeat refine st mo ?_
    refine ⟨fun h4 => ?_, fun h4 => ?_⟩
    · have hno : x.op ∉ (opL 3).take j := by rw [← h4]; exact nd_take (opL_nd 3) hu
      have hS : (opS 3)[j]? = some (opW x.op) := opS_at (by rw [← h4]; exact hu)
      have hyes : x.op ∈ (opL 3).take (j + 1) := by rw [htk, h4]; simp
      rw [if_neg hno]
      repeat refine st mo ?_
      refine ⟨dk, st mo ?_⟩
      refine ⟨j, rfl, by omega, st mo ⟨_, osV_at hS, st mo ?_⟩⟩
      repeat refine st mo ?_
      refine ⟨_, fun nn => r_qp t1 [opW x.op] 4 ht1 (one_ok okw), st mo ?_⟩
      repeat refine st mo ?_
      refine ⟨_, wz (j + 1) rfl, st mo ?_⟩
      exact ⟨j + 1, by omega, by show 6 - (j + 1) < 6 - j; omega, [0, 1, 2, 3], rfl, ⟨fp, fp, fv, fs, fs, fv, trivial⟩, ⟨trivial, by simp only [if_pos hyes]; exact fl rfl (q0_pur _), flr rfl, fl rfl rfl, fl rfl rfl, trivial⟩, xf, rfl, rfl⟩
    · repeat refine st mo ?_
      refine ⟨dk, st mo ?_⟩
      repeat refine st mo ?_
      refine ⟨_, wz (j + 1) rfl, st mo ?_⟩
      have hsm : (x.op ∈ (opL 3).take (j + 1)) = (x.op ∈ (opL 3).take j) := by rw [htk]; simp; intro h; exact absurd h.symm h4
      exact ⟨j + 1, by omega, by show 6 - (j + 1) < 6 - j; omega, [0, 1, 2, 3], rfl, ⟨fp, fp, fv, fs, fs, fv, trivial⟩, ⟨trivial, by simp only [hsm]; exact fl rfl (q0_pur _), flr rfl, fl rfl rfl, fl rfl rfl, trivial⟩, xf, rfl, rfl⟩
  · have hall : x.op ∈ (opL 3).take j := by rw [List.take_of_length_le (by show 6 <= j; omega)]; exact hop
    rw [if_pos hall]
    have ht2 := qps_size ht1 (one_ok okw)
    generalize qps t1 [opW x.op] = t2 at *
    repeat refine st mo ?_
    refine ⟨_, wz (3 + 1) rfl, st mo ?_⟩
    repeat refine st mo ?_
    refine ⟨_, fun nn => r_q t2 (qps t2 (wXg r (lvo x.op + 1) z)) rfl (d_within t2 x z 1 (lvo x.op + 1) (3 + 1) r (by rw [hlv]; rfl) (by rw [ha]; rfl) ht2 X' (hE.xf hX)) (by exact fitL_cons fp (fitL_cons fv (fitL_cons fv (fitL_cons fv (by rfl))))) (fn := Tryz.f93), st mo ?_⟩
    repeat refine st mo ?_
    exact ⟨rfl, [0], ft0, ⟨trivial, fl rfl (q0_pur _), trivial⟩, rfl, rfl⟩
theorem lvo_4 {op : Int} (h : op ∈ opL 4) : lvo op = 4 + 1 := by simp [opL] at h; unfold lvo; repeat' split <;> omega
set_option maxHeartbeats 2000000 in
set_option maxRecDepth 20000 in
theorem d_bin4 (t : ByteArray) (x y z : Ex) (r : Ex -> List ByteArray) (hk : x.k = 5) (ha : x.a = [y, z]) (hop : x.op ∈ opL 4) (hop2 : 1 <= x.op /\ x.op <= 11) (ht : t.size <= 16384) (X : World) (hE : EachQ X x.p x.a r) : CQ X 38 [P0, x.y] t (wXg r (if lvo x.op = 4 then 5 else lvo x.op) y ++ ([opW x.op] ++ wXg r (lvo x.op + 1) z)) := by
  have hlv := lvo_4 hop
  have hql : qlv x = 4 := by unfold qlv; rw [if_neg (by omega), if_neg (by omega), if_pos hk]; exact (opL_lev hop).1
  have oky := wXg_ok (least := if lvo x.op = 4 then 5 else lvo x.op) (hE 0 y (by rw [ha]; rfl)).2.1
  have okz := wXg_ok (least := lvo x.op + 1) (hE 1 z (by rw [ha]; rfl)).2.1
  have okw := opw_ok (op := x.op) (by omega) (by omega)
  unfold CQ
  rw [qps_app, qps_app]
  refine fn_c _ Tryz.func38 rfl rfl rfl rfl (fun w l tw X' hX => run_ok (st mo ?_))
  have hq := q0_s (t := t) ht
  repeat refine st mo ?_
  refine ⟨_, by rw [hq]; rfl, st mo ?_⟩
  repeat refine st mo ?_
  refine ⟨fun h => absurd h (by omega), fun _ => ?_⟩
  repeat refine st mo ?_
  refine ⟨fun h => absurd h (by omega), fun _ => ?_⟩
  repeat refine st mo ?_
  refine ⟨fun h => absurd h (by omega), fun _ => ?_⟩
  repeat refine st mo ?_
  refine ⟨fun h => absurd h (by omega), fun _ => ?_⟩
  repeat refine st mo ?_
  refine ⟨fun _ => ?_, fun h => absurd hk h⟩
  repeat refine st mo ?_
  refine ⟨_, fun _ => r_call (t := .int .i64 4) rfl rfl Tryz.func94 (fun W M E => hql ▸ d_level x W), st mo ?_⟩
  repeat refine st mo ?_
  refine ⟨fun h => absurd h (by decide), fun _ => ?_⟩
  repeat refine st mo ?_
  refine ⟨_, fun nn => r_q t (qps t (wXg r (if lvo x.op = 4 then 5 else lvo x.op) y)) rfl (d_within t x y 0 (if lvo x.op = 4 then 5 else lvo x.op) 4 r (by rw [hlv]; rfl) (by rw [ha]; rfl) (by omega) X' (hE.xf hX)) (by exact fitL_cons fp (fitL_cons fv (fitL_cons fv (fitL_cons fv (by rfl))))) (fn := Tryz.f93), st mo ?_⟩
  have ht1 := qps_size (t := t) (by omega) oky
  generalize qps t (wXg r (if lvo x.op = 4 then 5 else lvo x.op) y) = t1 at *
  repeat refine st mo ?_
  refine ⟨_, fun _ => r_c (tc := .tuple #[.slice (some ⟨2, 0, none⟩) 2 1, .slice (some ⟨3, 0, none⟩) 2 1]) [] [some (osV (opS 4)), some (oiV (opL 4))] [2, 3] rfl rfl (c_ops4 X') (by exact fitL_cons fv (by rfl)) trivial (ut2 us us) ⟨ul rfl rfl, ul rfl rfl, trivial⟩, st mo ?_⟩
  repeat refine st mo ?_
  refine w_loop (fun j : Nat => ⟨⟨88, [(0, P0), (3, .pointer (some ⟨1, 0, none⟩)), (4, .int .i64 4), (6, .slice (some ⟨2, 0, none⟩) 2 1), (7, .slice (some ⟨3, 0, none⟩) 2 1), (8, .int .i64 (j : Int))]⟩, [(0 + 4096, none), (0, some (q0 (if x.op ∈ (opL 4).take j then qps t1 [opW x.op] else t1))), (1, some (x.c.map rel1)), (2, some (osV (opS 4))), (3, some (oiV (opL 4)))], 4, X'⟩) (fun j => j <= 2) (fun j => 2 - j) 0 (Nat.zero_le _) [0, 1, 2, 3] ⟨rfl, ⟨fp, fp, fv, fs, fs, fv, trivial⟩, ⟨trivial, fl rfl (q0_pur _), flr rfl, fl rfl rfl, fl rfl rfl, trivial⟩, xf, rfl, rfl⟩ ?_
  intro j hj
  repeat refine st mo ?_
  refine ⟨fun hlt2 => ?_, fun hge2 => ?_⟩
  · have hjl : j < (opL 4).length := by show j < 2; omega
    obtain ⟨u, hu⟩ : ∃ u, (opL 4)[j]? = some u := ⟨_, List.getElem?_eq_getElem hjl⟩
    have htk : (opL 4).take (j + 1) = (opL 4).take j ++ [u] := by rw [List.take_add_one, hu]; rfl
    repeat refine st mo ?_
    refine ⟨j, rfl, by omega, st mo ⟨_, oiV_at hu, st mo ?_⟩⟩
    repeat refine st mo ?_
    refine ⟨fun h4 => ?_, fun h4 => ?_⟩
    · have hno : x.op ∉ (opL 4).take j := by rw [← h4]; exact nd_take (opL_nd 4) hu
      have hS : (opS 4)[j]? = some (opW x.op) := opS_at (by rw [← h4]; exact hu)
      have hyes : x.op ∈ (opL 4).take (j + 1) := by rw [htk, h4]; simp
      rw [if_neg hno]
      repeat refine st mo ?_
      refine ⟨dk, st mo ?_⟩
      refine ⟨j, rfl, by omega, st mo ⟨_, osV_at hS, st mo ?_⟩⟩
      repeat refine st mo ?_
      refine ⟨_, fun nn => r_qp t1 [opW x.op] 4 ht1 (one_ok okw), st mo ?_⟩
      repeat refine st mo ?_
      refine ⟨_, wz (j + 1) rfl, st mo ?_⟩
      exact ⟨j + 1, by omega, by show 2 - (j + 1) < 2 - j; omega, [0, 1, 2, 3], rfl, ⟨fp, fp, fv, fs, fs, fv, trivial⟩, ⟨trivial, by simp only [if_pos hyes]; exact fl rfl (q0_pur _), flr rfl, fl rfl rfl, fl rfl rfl, trivial⟩, xf, rfl, rfl⟩
    · repeat refine st mo ?_
      refine ⟨dk, st mo ?_⟩
      repeat refine st mo ?_
      refine ⟨_, wz (j + 1) rfl, st mo ?_⟩
      have hsm : (x.op ∈ (opL 4).take (j + 1)) = (x.op ∈ (opL 4).take j) := by rw [htk]; simp; intro h; exact absurd h.symm h4
      exact ⟨j + 1, by omega, by show 2 - (j + 1) < 2 - j; omega, [0, 1, 2, 3], rfl, ⟨fp, fp, fv, fs, fs, fv, trivial⟩, ⟨trivial, by simp only [hsm]; exact fl rfl (q0_pur _), flr rfl, fl rfl rfl, fl rfl rfl, trivial⟩, xf, rfl, rfl⟩
  · have hall : x.op ∈ (opL 4).take j := by rw [List.take_of_length_le (by show 2 <= j; omega)]; exact hop
    rw [if_pos hall]
    have ht2 := qps_size ht1 (one_ok okw)
    generalize qps t1 [opW x.op] = t2 at *
    repeat refine st mo ?_
    refine ⟨_, wz (4 + 1) rfl, st mo ?_⟩
    repeat refine st mo ?_
    refine ⟨_, fun nn => r_q t2 (qps t2 (wXg r (lvo x.op + 1) z)) rfl (d_within t2 x z 1 (lvo x.op + 1) (4 + 1) r (by rw [hlv]; rfl) (by rw [ha]; rfl) ht2 X' (hE.xf hX)) (by exact fitL_cons fp (fitL_cons fv (fitL_cons fv (fitL_cons fv (by rfl))))) (fn := Tryz.f93), st mo ?_⟩
    repeat refine st mo ?_
    exact ⟨rfl, [0], ft0, ⟨trivial, fl rfl (q0_pur _), trivial⟩, rfl, rfl⟩
theorem lvo_5 {op : Int} (h : op ∈ opL 5) : lvo op = 5 + 1 := by simp [opL] at h; unfold lvo; repeat' split <;> omega
set_option maxHeartbeats 2000000 in
set_option maxRecDepth 20000 in
theorem d_bin5 (t : ByteArray) (x y z : Ex) (r : Ex -> List ByteArray) (hk : x.k = 5) (ha : x.a = [y, z]) (hop : x.op ∈ opL 5) (hop2 : 1 <= x.op /\ x.op <= 11) (ht : t.size <= 16384) (X : World) (hE : EachQ X x.p x.a r) : CQ X 38 [P0, x.y] t (wXg r (if lvo x.op = 4 then 5 else lvo x.op) y ++ ([opW x.op] ++ wXg r (lvo x.op + 1) z)) := by
  have hlv := lvo_5 hop
  have hql : qlv x = 5 := by unfold qlv; rw [if_neg (by omega), if_neg (by omega), if_pos hk]; exact (opL_lev hop).1
  have oky := wXg_ok (least := if lvo x.op = 4 then 5 else lvo x.op) (hE 0 y (by rw [ha]; rfl)).2.1
  have okz := wXg_ok (least := lvo x.op + 1) (hE 1 z (by rw [ha]; rfl)).2.1
  have okw := opw_ok (op := x.op) (by omega) (by omega)
  unfold CQ
  rw [qps_app, qps_app]
  refine fn_c _ Tryz.func38 rfl rfl rfl rfl (fun w l tw X' hX => run_ok (st mo ?_))
  have hq := q0_s (t := t) ht
  repeat refine st mo ?_
  refine ⟨_, by rw [hq]; rfl, st mo ?_⟩
  repeat refine st mo ?_
  refine ⟨fun h => absurd h (by omega), fun _ => ?_⟩
  repeat refine st mo ?_
  refine ⟨fun h => absurd h (by omega), fun _ => ?_⟩
  repeat refine st mo ?_
  refine ⟨fun h => absurd h (by omega), fun _ => ?_⟩
  repeat refine st mo ?_
  refine ⟨fun h => absurd h (by omega), fun _ => ?_⟩
  repeat refine st mo ?_
  refine ⟨fun _ => ?_, fun h => absurd hk h⟩
  repeat refine st mo ?_
  refine ⟨_, fun _ => r_call (t := .int .i64 5) rfl rfl Tryz.func94 (fun W M E => hql ▸ d_level x W), st mo ?_⟩
  repeat refine st mo ?_
  refine ⟨fun h => absurd h (by decide), fun _ => ?_⟩
  repeat refine st mo ?_
  refine ⟨_, fun nn => r_q t (qps t (wXg r (if lvo x.op = 4 then 5 else lvo x.op) y)) rfl (d_within t x y 0 (if lvo x.op = 4 then 5 else lvo x.op) 5 r (by rw [hlv]; rfl) (by rw [ha]; rfl) (by omega) X' (hE.xf hX)) (by exact fitL_cons fp (fitL_cons fv (fitL_cons fv (fitL_cons fv (by rfl))))) (fn := Tryz.f93), st mo ?_⟩
  have ht1 := qps_size (t := t) (by omega) oky
  generalize qps t (wXg r (if lvo x.op = 4 then 5 else lvo x.op) y) = t1 at *
  repeat refine st mo ?_
  refine ⟨_, fun _ => r_c (tc := .tuple #[.slice (some ⟨2, 0, none⟩) 1 1, .slice (some ⟨3, 0, none⟩) 1 1]) [] [some (osV (opS 5)), some (oiV (opL 5))] [2, 3] rfl rfl (c_ops5 X') (by exact fitL_cons fv (by rfl)) trivial (ut2 us us) ⟨ul rfl rfl, ul rfl rfl, trivial⟩, st mo ?_⟩
  repeat refine st mo ?_
  refine w_loop (fun j : Nat => ⟨⟨88, [(0, P0), (3, .pointer (some ⟨1, 0, none⟩)), (4, .int .i64 5), (6, .slice (some ⟨2, 0, none⟩) 1 1), (7, .slice (some ⟨3, 0, none⟩) 1 1), (8, .int .i64 (j : Int))]⟩, [(0 + 4096, none), (0, some (q0 (if x.op ∈ (opL 5).take j then qps t1 [opW x.op] else t1))), (1, some (x.c.map rel1)), (2, some (osV (opS 5))), (3, some (oiV (opL 5)))], 4, X'⟩) (fun j => j <= 1) (fun j => 1 - j) 0 (Nat.zero_le _) [0, 1, 2, 3] ⟨rfl, ⟨fp, fp, fv, fs, fs, fv, trivial⟩, ⟨trivial, fl rfl (q0_pur _), flr rfl, fl rfl rfl, fl rfl rfl, trivial⟩, xf, rfl, rfl⟩ ?_
  intro j hj
  repeat refine st mo ?_
  refine ⟨fun hlt2 => ?_, fun hge2 => ?_⟩
  · have hjl : j < (opL 5).length := by show j < 1; omega
    obtain ⟨u, hu⟩ : ∃ u, (opL 5)[j]? = some u := ⟨_, List.getElem?_eq_getElem hjl⟩
    have htk : (opL 5).take (j + 1) = (opL 5).take j ++ [u] := by rw [List.take_add_one, hu]; rfl
    repeat refine st mo ?_
    refine ⟨j, rfl, by omega, st mo ⟨_, oiV_at hu, st mo ?_⟩⟩
    repeat refine st mo ?_
    refine ⟨fun h4 => ?_, fun h4 => ?_⟩
    · have hno : x.op ∉ (opL 5).take j := by rw [← h4]; exact nd_take (opL_nd 5) hu
      have hS : (opS 5)[j]? = some (opW x.op) := opS_at (by rw [← h4]; exact hu)
      have hyes : x.op ∈ (opL 5).take (j + 1) := by rw [htk, h4]; simp
      rw [if_neg hno]
      repeat refine st mo ?_
      refine ⟨dk, st mo ?_⟩
      refine ⟨j, rfl, by omega, st mo ⟨_, osV_at hS, st mo ?_⟩⟩
      repeat refine st mo ?_
      refine ⟨_, fun nn => r_qp t1 [opW x.op] 4 ht1 (one_ok okw), st mo ?_⟩
      repeat refine st mo ?_
      refine ⟨_, wz (j + 1) rfl, st mo ?_⟩
      exact ⟨j + 1, by omega, by show 1 - (j + 1) < 1 - j; omega, [0, 1, 2, 3], rfl, ⟨fp, fp, fv, fs, fs, fv, trivial⟩, ⟨trivial, by simp only [if_pos hyes]; exact fl rfl (q0_pur _), flr rfl, fl rfl rfl, fl rfl rfl, trivial⟩, xf, rfl, rfl⟩
    · repeat refine st mo ?_
      refine ⟨dk, st mo ?_⟩
      repeat refine st mo ?_
      refine ⟨_, wz (j + 1) rfl, st mo ?_⟩
      have hsm : (x.op ∈ (opL 5).take (j + 1)) = (x.op ∈ (opL 5).take j) := by rw [htk]; simp; intro h; exact absurd h.symm h4
      exact ⟨j + 1, by omega, by show 1 - (j + 1) < 1 - j; omega, [0, 1, 2, 3], rfl, ⟨fp, fp, fv, fs, fs, fv, trivial⟩, ⟨trivial, by simp only [hsm]; exact fl rfl (q0_pur _), flr rfl, fl rfl rfl, fl rfl rfl, trivial⟩, xf, rfl, rfl⟩
  · have hall : x.op ∈ (opL 5).take j := by rw [List.take_of_length_le (by show 1 <= j; omega)]; exact hop
    rw [if_pos hall]
    have ht2 := qps_size ht1 (one_ok okw)
    generalize qps t1 [opW x.op] = t2 at *
    repeat refine st mo ?_
    refine ⟨_, wz (5 + 1) rfl, st mo ?_⟩
    repeat refine st mo ?_
    refine ⟨_, fun nn => r_q t2 (qps t2 (wXg r (lvo x.op + 1) z)) rfl (d_within t2 x z 1 (lvo x.op + 1) (5 + 1) r (by rw [hlv]; rfl) (by rw [ha]; rfl) ht2 X' (hE.xf hX)) (by exact fitL_cons fp (fitL_cons fv (fitL_cons fv (fitL_cons fv (by rfl))))) (fn := Tryz.f93), st mo ?_⟩
    repeat refine st mo ?_
    exact ⟨rfl, [0], ft0, ⟨trivial, fl rfl (q0_pur _), trivial⟩, rfl, rfl⟩
theorem opL_in {op : Int} (h : 1 <= op /\ op <= 11) : op ∈ opL 0 ∨ op ∈ opL 1 ∨ op ∈ opL 3 ∨ op ∈ opL 4 ∨ op ∈ opL 5 := by simp [opL]; omega
theorem qlv_lv {x : Ex} (hn : nde x = true) : qlv x = lv x - 1 := by
  unfold qlv lv
  split
  · rfl
  · split
    · rfl
    · split
      · rename_i h5
        rw [nde5 h5] at hn
        simp at hn
        unfold qlo lvo
        repeat' split
        all_goals omega
      · rfl
set_option maxHeartbeats 1000000 in
set_option maxRecDepth 20000 in
theorem d_bare (t : ByteArray) (x : Ex) (r : Ex -> List ByteArray) (hn : nde x = true) (hx : x.ok) (ht : t.size <= 40000) (X : World) (hE : EachQ X x.p x.a r) : CQ X 38 [P0, x.y] t (wBg r x) := by
  rcases Nat.lt_or_ge 16384 t.size with hl | hl
  · unfold CQ
    rw [qps_long hl]
    refine fn_c _ Tryz.func38 rfl rfl rfl rfl (fun w l tw X' hX => run_ok (st mo ?_))
    have hq := q0_l hl
    repeat refine st mo ?_
    refine ⟨_, by rw [hq]; rfl, st mo ?_⟩
    repeat refine st mo ?_
    exact ⟨rfl, [0], ft0, ⟨trivial, fl rfl (q0_pur _), trivial⟩, rfl, rfl⟩
  have hkk := nde_k hn
  by_cases h5 : x.k = 5
  · rw [nde5 h5] at hn
    simp at hn
    obtain ⟨y, z, ha⟩ := len2 hn.2.1
    rw [wB5 r h5 ha]
    rcases opL_in hn.1 with h | h | h | h | h
    · exact d_bin0 t x y z r h5 ha h hn.1 hl X hE
    · exact d_bin1 t x y z r h5 ha h hn.1 hl X hE
    · exact d_bin3 t x y z r h5 ha h hn.1 hl X hE
    · exact d_bin4 t x y z r h5 ha h hn.1 hl X hE
    · exact d_bin5 t x y z r h5 ha h hn.1 hl X hE
  have hok := wBg_ok (r := r) hn (fun y hy => by obtain ⟨j, hj⟩ := List.mem_iff_getElem?.1 hy; exact (hE j y hj).2.1)
  refine fn_c _ Tryz.func38 rfl rfl rfl rfl (fun w l tw X' hX => run_ok (st mo ?_))
  have hq := q0_s hl
  repeat refine st mo ?_
  refine ⟨_, by rw [hq]; rfl, st mo ?_⟩
  repeat refine st mo ?_
  refine ⟨fun h1 => ?_, fun h1 => ?_⟩
  · rw [wB1 r h1]
    have hc : cst x.v = true := by rw [nde1 h1] at hn; simp at hn; exact hn.1
    repeat refine st mo ?_
    refine ⟨_, fun nn => r_q t (qps t [cw x.v]) rfl (d_value t x.v hx.1 hc ht X') (by exact fitL_cons fp (fitL_cons fv (by rfl))) (fn := Tryz.f92), st mo ?_⟩
    repeat refine st mo ?_
    exact ⟨rfl, [0], ft0, ⟨trivial, fl rfl (q0_pur _), trivial⟩, rfl, rfl⟩
  repeat refine st mo ?_
  refine ⟨fun h2 => ?_, fun h2 => ?_⟩
  · rw [wB2 r h2]
    have hc : fre x.nm = true := by rw [nde2 h2] at hn; simp at hn; exact hn.1
    repeat refine st mo ?_
    refine ⟨_, fun nn => r_qp t [x.nm] 2 ht (one_ok (fre_ok hc)), st mo ?_⟩
    repeat refine st mo ?_
    exact ⟨rfl, [0], ft0, ⟨trivial, fl rfl (q0_pur _), trivial⟩, rfl, rfl⟩
  repeat refine st mo ?_
  refine ⟨fun h3 => ?_, fun h3 => ?_⟩
  · have ha : x.a.length = 1 := by rw [nde3 (x := x) (by omega)] at hn; simp at hn; exact hn.1
    obtain ⟨y, ha⟩ := len1 ha
    rw [wB3 r h3 ha, qps_app]
    have hso : ∀ w ∈ [Mns], wok w := (one_ok sym_ok)
    repeat refine st mo ?_
    refine ⟨_, fun nn => r_qp t [Mns] 2 ht hso, st mo ?_⟩
    have ht1 := qps_size ht hso
    generalize qps t [Mns] = t1 at *
    repeat refine st mo ?_
    refine ⟨_, fun nn => r_q t1 (qps t1 (wXg r 7 y)) rfl (d_within t1 x y 0 7 6 r rfl (by rw [ha]; rfl) ht1 X' (hE.xf hX)) (by exact fitL_cons fp (fitL_cons fv (fitL_cons fv (fitL_cons fv (by rfl))))) (fn := Tryz.f93), st mo ?_⟩
    repeat refine st mo ?_
    exact ⟨rfl, [0], ft0, ⟨trivial, fl rfl (q0_pur _), trivial⟩, rfl, rfl⟩
  repeat refine st mo ?_
  refine ⟨fun h4 => ?_, fun h4 => ?_⟩
  · have ha : x.a.length = 1 := by rw [nde3 (x := x) (by omega)] at hn; simp at hn; exact hn.1
    obtain ⟨y, ha⟩ := len1 ha
    rw [wB4 r h4 ha, qps_app]
    have hso : ∀ w ∈ [NotW], wok w := (one_ok ⟨by decide, by decide⟩)
    repeat refine st mo ?_
    refine ⟨_, fun nn => r_qp t [NotW] 2 ht hso, st mo ?_⟩
    have ht1 := qps_size ht hso
    generalize qps t [NotW] = t1 at *
    repeat refine st mo ?_
    refine ⟨_, fun nn => r_q t1 (qps t1 (wXg r 3 y)) rfl (d_within t1 x y 0 3 2 r rfl (by rw [ha]; rfl) ht1 X' (hE.xf hX)) (by exact fitL_cons fp (fitL_cons fv (fitL_cons fv (fitL_cons fv (by rfl))))) (fn := Tryz.f93), st mo ?_⟩
    repeat refine st mo ?_
    exact ⟨rfl, [0], ft0, ⟨trivial, fl rfl (q0_pur _), trivial⟩, rfl, rfl⟩
  repeat refine st mo ?_
  refine ⟨fun h => absurd h h5, fun _ => ?_⟩
  repeat refine st mo ?_
  refine ⟨_, fun nn => r_q t (qps t (wBg r x)) rfl (d_call t x r (by omega) hn ht X' (hE.xf hX)) (by exact fitL_cons fp (fitL_cons fv (by rfl))) (fn := Tryz.f95), st mo ?_⟩
  repeat refine st mo ?_
  exact ⟨rfl, [0], ft0, ⟨trivial, fl rfl (q0_pur _), trivial⟩, rfl, rfl⟩
theorem d_expr : ∀ (d : Nat) (t : ByteArray) (x : Ex) (X : World), LT X d x -> vE d x = true -> t.size <= 40000 -> CQ X 38 [P0, x.y] t (wB d x) := by
  intro d
  induction d with
  | zero =>
    intro t x X hL hv ht
    exact d_bare t x (fun _ => []) hv hL.1 ht X fun i y hy => by rw [hL.2] at hy; cases hy
  | succ d ih =>
    intro t x X hL hv ht
    have hv' : nde x = true /\ x.a.all (vE d) = true := by simpa [vE] using hv
    refine d_bare t x (wB d) hv'.1 hL.1 ht X fun i y hy => ?_
    obtain ⟨h1, h2⟩ := hL.2 i y hy
    have hvy := List.all_eq_true.1 hv'.2 y (List.mem_of_getElem? hy)
    have hny : nde y = true := by cases d with
      | zero => exact hvy
      | succ d => have : nde y = true /\ y.a.all (vE d) = true := by simpa [vE] using hvy
                  exact this.1
    exact ⟨h1, wBd_ok h2 hvy, qlv_lv hny, fun X' t hX ht => ih t y X' (h2.xf hX) hvy ht⟩
def tldQ (t : ByteArray) : Value := if 16384 < t.size then .tuple #[.string E0, .int .i64 3] else .tuple #[.string t, .int .i64 0]
theorem fbF {σ : List Nat} : fitV σ (.bool false) litF := fun k w hw => by
  rw [hw.bool_inv]; exact VX.litF
set_option maxRecDepth 20000 in
theorem c_eqf_false (p : Option Addr) (n cl : Nat) (h : n ≠ 0) (X : World) : Ctr Tryz.prog X 53 [raw (.slice p n cl), .slice none 0 0, fnv 19] [] 0 0 litF [] 0 := by
  refine fn_c _ Tryz.func53 rfl rfl rfl rfl (fun w ll tw X' hX => run_ok (st mo ?_))
  repeat refine st mo ?_
  refine ⟨fun h1 => ?_, fun h1 => absurd h1 (by omega)⟩
  repeat refine st mo ?_
  exact ⟨rfl, [], fv, trivial, rfl, rfl⟩
set_option maxRecDepth 20000 in
theorem c_eqf_true (p : Option Addr) (cl : Nat) (X : World) : Ctr Tryz.prog X 53 [raw (.slice p 0 cl), .slice none 0 0, fnv 19] [] 0 0 litT [] 0 := by
  refine fn_c _ Tryz.func53 rfl rfl rfl rfl (fun w ll tw X' hX => run_ok (st mo ?_))
  repeat refine st mo ?_
  refine ⟨fun h1 => absurd rfl h1, fun h1 => ?_⟩
  repeat refine st mo ?_
  refine w_loop (fun i : Nat => ⟨⟨32, [(15, raw (.slice p 0 cl)), (16, .int .i64 0), (17, .int .i64 (i : Int))]⟩, [], 0, X'⟩) (fun i => i = 0) (fun i => 0 - i) 0 rfl [] ⟨rfl, ⟨fv, fv, fv, trivial⟩, trivial, xf, rfl, rfl⟩ ?_
  intro i hi
  subst hi
  repeat refine st mo ?_
  refine ⟨fun hlt => absurd hlt (by decide), fun hge => ?_⟩
  repeat refine st mo ?_
  exact ⟨rfl, [], fv, trivial, rfl, rfl⟩
set_option maxRecDepth 20000 in
theorem p_same0 (x : Ex) (w : World) : Calls Tryz.prog 19 #[x.w, x0.w] w fun e W => e = .returned (.bool (nth x)) /\ Mb w W := by
  refine fn_pure [x.y, .agg #[.int .i64 0, .int .i64 0, .string E0, .string E0, .int .i64 0, .bool false, .int .u64 0, .int .u64 0, .int .u64 0, .int .u64 0, .int .i64 0, .bool false, .string E0, .int .i64 0, .int .i64 0, .int .i64 0, .slice none 0 0]] Tryz.func19 rfl rfl rfl (run_ok (st mo ?_))
  repeat refine st mo ?_
  cases hs : snd x x0 with
  | false =>
    refine ⟨_, fun _ => r_call (t := litF) rfl rfl Tryz.func52 (fun W M E => hs ▸ p_node x x0 W), st mo ?_⟩
    repeat refine st mo ?_
    show _ = _; unfold nth; rw [hs]; rfl
  | true =>
    refine ⟨_, fun _ => r_call (t := litT) rfl rfl Tryz.func52 (fun W M E => hs ▸ p_node x x0 W), st mo ?_⟩
    repeat refine st mo ?_
    by_cases h0 : x.a.length = 0
    · have e : nth x = true := by unfold nth; rw [hs, List.eq_nil_of_length_eq_zero h0]; rfl
      have hp : raw (.slice x.p x.a.length x.cl) = raw (.slice x.p 0 x.cl) := by rw [h0]
      refine ⟨_, fun _ => r_c (tc := litT) [] [] [] rfl rfl (c_eqf_true x.p x.cl w) (by exact fitL_cons (fv hp) (fitL_cons fv (fitL_cons (ff (l := []) (m := []) rfl) (by rfl)))) trivial uv trivial, st mo ?_⟩
      repeat refine st mo ?_
      rw [e]; rfl
    · have e : nth x = false := by unfold nth; rw [decide_eq_false (fun h => h0 (by rw [h]; rfl))]; simp
      refine ⟨_, fun _ => r_c (tc := litF) [] [] [] rfl rfl (c_eqf_false x.p x.a.length x.cl h0 w) (by exact fitL_cons fv (fitL_cons fv (fitL_cons (ff (l := []) (m := []) rfl) (by rfl)))) trivial uv trivial, st mo ?_⟩
      repeat refine st mo ?_
      rw [e]; rfl
set_option maxRecDepth 20000 in
theorem p_none (x : Ex) (w : World) : Calls Tryz.prog 143 #[x.w] w fun e W => e = .returned (.bool (nth x)) /\ Mb w W := by
  refine fn_pure [x.y] Tryz.func143 rfl rfl rfl (run_ok (st mo ?_))
  repeat refine st mo ?_
  refine ⟨_, fun _ => r_call (t := .bool (nth x)) rfl rfl Tryz.func19 (fun W M E => p_same0 x W), st mo ?_⟩
  repeat refine st mo ?_
  rfl
set_option maxRecDepth 20000 in
theorem q_none (x : Ex) (w : World) : Calls Tryz.prog 83 #[x.w] w fun e W => e = .returned (.bool (nth x)) /\ Mb w W := by
  refine fn_pure [x.y] Tryz.func83 rfl rfl rfl (run_ok (st mo ?_))
  repeat refine st mo ?_
  refine ⟨fun h1 => ?_, fun h1 => ?_⟩
  · have hsn : snd x x0 = pln x x0 := snd_k h1
    repeat refine st mo ?_
    cases hs : pln x x0 with
    | false =>
      refine ⟨_, fun _ => r_call (t := litF) rfl rfl Tryz.func29 (fun W M E => hs ▸ q_plain x x0 W), st mo ?_⟩
      repeat refine st mo ?_
      show _ = _; unfold nth; rw [hsn, hs]; rfl
    | true =>
      refine ⟨_, fun _ => r_call (t := litT) rfl rfl Tryz.func29 (fun W M E => hs ▸ q_plain x x0 W), st mo ?_⟩
      repeat refine st mo ?_
      refine ⟨fun h0 => ?_, fun h0 => ?_⟩
      · repeat refine st mo ?_
        have ha : x.a = [] := List.eq_nil_of_length_eq_zero (by omega)
        show _ = _; unfold nth; rw [hsn, hs, ha]; rfl
      · repeat refine st mo ?_
        show _ = _; unfold nth; rw [decide_eq_false (fun h => h0 (by rw [h]; rfl))]; simp
  · repeat refine st mo ?_
    show _ = _; unfold nth snd; rw [show decide (x.k = x0.k) = false from decide_eq_false h1]; rfl
def tyO (k p : Int) : Bool := if k = 1 then isI p else if k = 2 ∨ k = 3 then decide (p = 0) else false
theorem tyO1 {k p : Int} (h : k = 1) : tyO k p = isI p := if_pos h
theorem tyO2 {k p : Int} (h : k = 2 ∨ k = 3) : tyO k p = decide (p = 0) := by unfold tyO; rw [if_neg (by omega), if_pos h]
theorem tyO0 {k p : Int} (h : k ≠ 1) (h2 : ¬ (k = 2 ∨ k = 3)) : tyO k p = false := by unfold tyO; rw [if_neg h, if_neg h2]
set_option maxRecDepth 20000 in
theorem p_ty (k p : Int) (w : World) : Calls Tryz.prog 189 #[.agg #[.int .i64 k, .int .i64 p]] w fun e W => e = .returned (.bool (tyO k p)) /\ Mb w W := by
  refine fn_pure [.agg #[.int .i64 k, .int .i64 p]] Tryz.func189 rfl rfl rfl (run_ok (st mo ?_))
  repeat refine st mo ?_
  refine ⟨fun h1 => ?_, fun h1 => ?_⟩
  · repeat refine st mo ?_
    refine ⟨_, fun _ => r_call (t := .bool (isI p)) rfl rfl Tryz.func157 (fun W M E => p_isI rfl W), st mo ?_⟩
    repeat refine st mo ?_
    show _ = _; rw [tyO1 h1]
  repeat refine st mo ?_
  refine ⟨fun h2 => ?_, fun h2 => ?_⟩
  · repeat refine st mo ?_
    refine ⟨fun h => ?_, fun h => ?_⟩
    · repeat refine st mo ?_
      show _ = _; rw [tyO2 (Or.inl h2), decide_eq_true h]
    · repeat refine st mo ?_
      show _ = _; rw [tyO2 (Or.inl h2), decide_eq_false h]
  repeat refine st mo ?_
  refine ⟨fun h3 => ?_, fun h3 => ?_⟩
  · repeat refine st mo ?_
    refine ⟨fun h => ?_, fun h => ?_⟩
    · repeat refine st mo ?_
      show _ = _; rw [tyO2 (Or.inr h3), decide_eq_true h]
    · repeat refine st mo ?_
      show _ = _; rw [tyO2 (Or.inr h3), decide_eq_false h]
  · repeat refine st mo ?_
    show _ = _; rw [tyO0 h1 (by omega)]
set_option maxRecDepth 20000 in
theorem q_ty (k p : Int) (w : World) : Calls Tryz.prog 195 #[.agg #[.int .i64 k, .int .i64 p]] w fun e W => e = .returned (.bool (tyO k p)) /\ Mb w W := by
  refine fn_pure [.agg #[.int .i64 k, .int .i64 p]] Tryz.func195 rfl rfl rfl (run_ok (st mo ?_))
  repeat' (first | refine ⟨fun _ => ?_, fun _ => ?_⟩ | refine st mo ?_)
  all_goals (show _ = _; unfold tyO isI; congr 1; simp; try (split <;> omega))
structure Itm where
  nm : ByteArray
  k : Int
  tk : Int
  tp : Int
  nd : Bool
  pl : Int
  x : Ex
def Itm.c (y : Itm) : List Value := [.string y.nm, .int .i64 y.k, .int .i64 y.tk, .int .i64 y.tp, .bool y.nd, .int .i64 y.pl, .int .i64 y.x.k, .int .i64 y.x.op, .string y.x.nm, .string y.x.sc, .int .i64 y.x.v.k, .bool y.x.v.b, .int .u64 (l0 y.x.v.n), .int .u64 (l1 y.x.v.n), .int .u64 (l2 y.x.v.n), .int .u64 (l3 y.x.v.n), .int .i64 y.x.v.s, .bool y.x.v.f, .string y.x.v.t, .int .i64 y.x.v.e, .int .i64 y.x.s, .int .i64 y.x.pl, .slice y.x.p y.x.a.length y.x.cl]
abbrev Itm.y (y : Itm) : Value := .agg (y.c.map rel1).toArray
abbrev Itm.w (y : Itm) : Value := .agg y.c.toArray
def rnO (tk pl : Int) : Bool := if tk = 1 then isP pl else decide (pl = 0)
def itO (d : Nat) (y : Itm) : Bool := fre y.nm &&
  (if y.k = 1 then tyO y.tk y.tp && (decide (y.pl = 0) && nth y.x)
   else if y.k = 2 then tyO y.tk y.tp && (!y.nd && (rnO y.tk y.pl && vE d y.x))
   else if y.k = 3 then decide (y.tk = 0 /\ y.tp = 0) && (!y.nd && (decide (y.pl = 0) && vE d y.x))
   else false)
set_option maxRecDepth 20000 in
theorem p_rnd (y : Itm) (w : World) : Calls Tryz.prog 190 #[y.w] w fun e W => e = .returned (.bool (rnO y.tk y.pl)) /\ Mb w W := by
  refine fn_pure [y.y] Tryz.func190 rfl rfl rfl (run_ok (st mo ?_))
  repeat refine st mo ?_
  refine ⟨fun h1 => ?_, fun h1 => ?_⟩
  · repeat refine st mo ?_
    refine ⟨_, fun _ => r_call (t := .bool (isP y.pl)) rfl rfl Tryz.func158 (fun W M E => p_isP rfl W), st mo ?_⟩
    repeat refine st mo ?_
    show _ = _; unfold rnO; rw [if_pos h1]
  · repeat refine st mo ?_
    refine ⟨fun h => ?_, fun h => ?_⟩
    · repeat refine st mo ?_
      show _ = _; unfold rnO; rw [if_neg h1, decide_eq_true h]
    · repeat refine st mo ?_
      show _ = _; unfold rnO; rw [if_neg h1, decide_eq_false h]
theorem ht53 : Tryz.prog.underlying 53 = some (.struct (Tryz.prog.fieldsOf 53)) := by kernel_rfl
theorem hp53 : Tryz.prog.stoodInHeld 53 = false := by kernel_rfl
theorem fo53 : (Tryz.prog.fieldsOf 53).toList.map (fun f => (f.name, f.type, f.offset)) = [("Kind", 3, 0), ("Scale", 3, 1)] := by kernel_rfl
theorem p53_0 (x0 x1 : Value) (w : World) : (part 3 #[x0, x1] 0).run Tryz.prog w = .ok x0 w := by kernel_rfl
theorem p53_1 (x0 x1 : Value) (w : World) : (part 3 #[x0, x1] 1).run Tryz.prog w = .ok x1 w := by kernel_rfl
theorem gt53 : Tryz.prog.eqGuardType Tryz.prog.depth 53 = false := by kernel_rfl
theorem eq53 (k p k' p' : Int) (w : World) : (Op.equalIn 10000 53 (.agg #[.int .i64 k, .int .i64 p]) (.agg #[.int .i64 k', .int .i64 p'])).run Tryz.prog w = .ok (k == k' && p == p') w := by
  rw [show (10000 : Nat) = 9999 + 1 from rfl, run_equalIn_struct w 9999 53 _ _ ht53 hp53]
  have h := fo53
  generalize (Tryz.prog.fieldsOf 53).toList = L at h
  have hl : L.length = 2 := by have := congrArg List.length h; simpa using this
  match L, hl with
  | [f0, f1], _ =>
    simp at h
    obtain ⟨⟨a0, a1, a2⟩, ⟨b0, b1, b2⟩⟩ := h
    have qi : ∀ x y : Int, (Op.equalIn 9999 3 (.int .i64 x) (.int .i64 y)).run Tryz.prog w = .ok (x == y) w := fun x y => run_equalIn_int w 9998 3 .i64 .i64 x y Tryz.underlying3
    simp only [Op.eqFields, a0, a1, a2, b0, b1, b2]
    cases h1 : (k == k') <;> cases h2 : (p == p') <;> simp [Sem.run_bind, p53_0, p53_1, Result.andThen_ok, qi, h1, h2, Sem.run_pure]
section
variable {w0 : B0} {X : World} {o : Oper} {fr : FT} {h : HT} {n : Nat} {y z : Operand} {t' : TypeId}
theorem r_eqT (k p k' p' : Int) (ho : o.op = .binOp .eql 53 y z t' := by rfl) (hy : den2 (evo fr y) = .agg #[.int .i64 k, .int .i64 p] := by rfl) (hz : den2 (evo fr z) = .agg #[.int .i64 k', .int .i64 p'] := by rfl) (hpy : pur2 (evo fr y) = true := by rfl) (hpz : pur2 (evo fr z) = true := by rfl) : Oa (Am w0 X) Tryz.prog o fr h n ⟨.bool (k == k' && p == p'), h, n, 0, 0⟩ :=
  Oo.to (s_bin0 ho (fun k u hu => by rw [pur2_eq hu hpy, hy]) (fun k u hu => by rw [pur2_eq hu hpz, hz]) rfl (fun w => eqa_run gt53 (eq53 k p k' p' w) y z))
end
theorem itO_n {d : Nat} {y : Itm} (h : fre y.nm = false) : itO d y = false := by unfold itO; rw [h]; rfl
theorem itO_1 {d : Nat} {y : Itm} (h : fre y.nm = true) (hk : y.k = 1) : itO d y = (tyO y.tk y.tp && (decide (y.pl = 0) && nth y.x)) := by unfold itO; rw [h, if_pos hk]; rfl
theorem itO_2 {d : Nat} {y : Itm} (h : fre y.nm = true) (hk : y.k = 2) : itO d y = (tyO y.tk y.tp && (!y.nd && (rnO y.tk y.pl && vE d y.x))) := by unfold itO; rw [h, if_neg (by omega), if_pos hk]; rfl
theorem itO_3 {d : Nat} {y : Itm} (h : fre y.nm = true) (hk : y.k = 3) : itO d y = (decide (y.tk = 0 /\ y.tp = 0) && (!y.nd && (decide (y.pl = 0) && vE d y.x))) := by unfold itO; rw [h, if_neg (by omega), if_neg (by omega), if_pos hk]; rfl
theorem itO_0 {d : Nat} {y : Itm} (h1 : y.k ≠ 1) (h2 : y.k ≠ 2) (h3 : y.k ≠ 3) : itO d y = false := by unfold itO; rw [if_neg h1, if_neg h2, if_neg h3]; simp
def Itm.ok (y : Itm) : Prop := y.nm.size <= 9223372036854775806
set_option maxHeartbeats 1000000 in
set_option maxRecDepth 20000 in
theorem p_item_false (d : Nat) (nm : ByteArray) (k tk tp pl : Int) (x : Ex) (w : World) (hnm : nm.size <= 9223372036854775806) (hL : LT w d x) : Calls Tryz.prog 138 #[(⟨nm, k, tk, tp, false, pl, x⟩ : Itm).w] w fun e W => e = .returned (.bool (itO d ⟨nm, k, tk, tp, false, pl, x⟩)) /\ Mb w W := by
  refine fn_pure [.agg #[.string nm, .int .i64 k, .int .i64 tk, .int .i64 tp, litF, .int .i64 pl, .int .i64 x.k, .int .i64 x.op, .string x.nm, .string x.sc, .int .i64 x.v.k, .bool x.v.b, .int .u64 (l0 x.v.n), .int .u64 (l1 x.v.n), .int .u64 (l2 x.v.n), .int .u64 (l3 x.v.n), .int .i64 x.v.s, .bool x.v.f, .string x.v.t, .int .i64 x.v.e, .int .i64 x.s, .int .i64 x.pl, raw (.slice x.p x.a.length x.cl)]] Tryz.func138 rfl rfl rfl (run_ok (st mo ?_))
  repeat refine st mo ?_
  cases hf : fre nm with
  | false =>
    refine ⟨_, fun _ => r_call (t := litF) rfl rfl Tryz.func70 (fun W M E => p_fre hf hnm W), st mo ?_⟩
    repeat refine st mo ?_
    rw [itO_n hf]; rfl
  | true =>
    refine ⟨_, fun _ => r_call (t := litT) rfl rfl Tryz.func70 (fun W M E => p_fre hf hnm W), st mo ?_⟩
    repeat refine st mo ?_
    refine ⟨fun h1 => ?_, fun h1 => ?_⟩
    · rw [itO_1 hf h1]
      repeat refine st mo ?_
      cases ht : tyO tk tp with
      | false =>
        refine ⟨_, fun _ => r_call (t := litF) rfl rfl Tryz.func189 (fun W M E => ht ▸ p_ty tk tp W), st mo ?_⟩
        repeat refine st mo ?_
        rfl
      | true =>
        refine ⟨_, fun _ => r_call (t := litT) rfl rfl Tryz.func189 (fun W M E => ht ▸ p_ty tk tp W), st mo ?_⟩
        repeat refine st mo ?_
        refine ⟨fun h => ?_, fun h => ?_⟩
        · repeat refine st mo ?_
          refine ⟨_, fun _ => r_call (t := .bool (nth x)) rfl rfl Tryz.func143 (fun W M E => p_none x W), st mo ?_⟩
          repeat refine st mo ?_
          show _ = _; rw [decide_eq_true h]; rfl
        · repeat refine st mo ?_
          show _ = _; rw [decide_eq_false h]; rfl
    repeat refine st mo ?_
    refine ⟨fun h2 => ?_, fun h2 => ?_⟩
    · rw [itO_2 hf h2]
      repeat refine st mo ?_
      cases ht : tyO tk tp with
      | false =>
        refine ⟨_, fun _ => r_call (t := litF) rfl rfl Tryz.func189 (fun W M E => ht ▸ p_ty tk tp W), st mo ?_⟩
        repeat refine st mo ?_
        rfl
      | true =>
        refine ⟨_, fun _ => r_call (t := litT) rfl rfl Tryz.func189 (fun W M E => ht ▸ p_ty tk tp W), st mo ?_⟩
        repeat refine st mo ?_
        cases hr : rnO tk pl with
        | false =>
          refine ⟨_, fun _ => r_call (t := litF) rfl rfl Tryz.func190 (fun W M E => hr ▸ p_rnd ⟨nm, k, tk, tp, false, pl, x⟩ W), st mo ?_⟩
          repeat refine st mo ?_
          rfl
        | true =>
          refine ⟨_, fun _ => r_call (t := litT) rfl rfl Tryz.func190 (fun W M E => hr ▸ p_rnd ⟨nm, k, tk, tp, false, pl, x⟩ W), st mo ?_⟩
          repeat refine st mo ?_
          refine ⟨_, fun _ => r_call (t := .bool (vE d x)) rfl rfl Tryz.func35 (fun W M E => p_exp d x W (hL.mono E)), st mo ?_⟩
          repeat refine st mo ?_
          rfl
    repeat refine st mo ?_
    refine ⟨fun h3 => ?_, fun h3 => ?_⟩
    · rw [itO_3 hf h3]
      repeat refine st mo ?_
      refine ⟨_, r_eqT tk tp 0 0, fun hq => ?_, fun hq => ?_⟩
      · have hq' : decide (tk = 0 /\ tp = 0) = true := by simp at hq; simp [hq]
        repeat refine st mo ?_
        refine ⟨fun h => ?_, fun h => ?_⟩
        · repeat refine st mo ?_
          refine ⟨_, fun _ => r_call (t := .bool (vE d x)) rfl rfl Tryz.func35 (fun W M E => p_exp d x W (hL.mono E)), st mo ?_⟩
          repeat refine st mo ?_
          show _ = _; rw [hq', decide_eq_true h]; rfl
        · repeat refine st mo ?_
          show _ = _; rw [hq', decide_eq_false h]; rfl
      · have hq' : decide (tk = 0 /\ tp = 0) = false := by simp at hq; simp; exact hq
        repeat refine st mo ?_
        show _ = _; rw [hq']; rfl
    · repeat refine st mo ?_
      rw [itO_0 h1 h2 h3]; rfl
set_option maxHeartbeats 1000000 in
set_option maxRecDepth 20000 in
theorem p_item_true (d : Nat) (nm : ByteArray) (k tk tp pl : Int) (x : Ex) (w : World) (hnm : nm.size <= 9223372036854775806) (_ : LT w d x) : Calls Tryz.prog 138 #[(⟨nm, k, tk, tp, true, pl, x⟩ : Itm).w] w fun e W => e = .returned (.bool (itO d ⟨nm, k, tk, tp, true, pl, x⟩)) /\ Mb w W := by
  refine fn_pure [.agg #[.string nm, .int .i64 k, .int .i64 tk, .int .i64 tp, litT, .int .i64 pl, .int .i64 x.k, .int .i64 x.op, .string x.nm, .string x.sc, .int .i64 x.v.k, .bool x.v.b, .int .u64 (l0 x.v.n), .int .u64 (l1 x.v.n), .int .u64 (l2 x.v.n), .int .u64 (l3 x.v.n), .int .i64 x.v.s, .bool x.v.f, .string x.v.t, .int .i64 x.v.e, .int .i64 x.s, .int .i64 x.pl, raw (.slice x.p x.a.length x.cl)]] Tryz.func138 rfl rfl rfl (run_ok (st mo ?_))
  repeat refine st mo ?_
  cases hf : fre nm with
  | false =>
    refine ⟨_, fun _ => r_call (t := litF) rfl rfl Tryz.func70 (fun W M E => p_fre hf hnm W), st mo ?_⟩
    repeat refine st mo ?_
    rw [itO_n hf]; rfl
  | true =>
    refine ⟨_, fun _ => r_call (t := litT) rfl rfl Tryz.func70 (fun W M E => p_fre hf hnm W), st mo ?_⟩
    repeat refine st mo ?_
    refine ⟨fun h1 => ?_, fun h1 => ?_⟩
    · rw [itO_1 hf h1]
      repeat refine st mo ?_
      cases ht : tyO tk tp with
      | false =>
        refine ⟨_, fun _ => r_call (t := litF) rfl rfl Tryz.func189 (fun W M E => ht ▸ p_ty tk tp W), st mo ?_⟩
        repeat refine st mo ?_
        rfl
      | true =>
        refine ⟨_, fun _ => r_call (t := litT) rfl rfl Tryz.func189 (fun W M E => ht ▸ p_ty tk tp W), st mo ?_⟩
        repeat refine st mo ?_
        refine ⟨fun h => ?_, fun h => ?_⟩
        · repeat refine st mo ?_
          refine ⟨_, fun _ => r_call (t := .bool (nth x)) rfl rfl Tryz.func143 (fun W M E => p_none x W), st mo ?_⟩
          repeat refine st mo ?_
          show _ = _; rw [decide_eq_true h]; rfl
        · repeat refine st mo ?_
          show _ = _; rw [decide_eq_false h]; rfl
    repeat refine st mo ?_
    refine ⟨fun h2 => ?_, fun h2 => ?_⟩
    · rw [itO_2 hf h2]
      repeat refine st mo ?_
      cases ht : tyO tk tp with
      | false =>
        refine ⟨_, fun _ => r_call (t := litF) rfl rfl Tryz.func189 (fun W M E => ht ▸ p_ty tk tp W), st mo ?_⟩
        repeat refine st mo ?_
        rfl
      | true =>
        refine ⟨_, fun _ => r_call (t := litT) rfl rfl Tryz.func189 (fun W M E => ht ▸ p_ty tk tp W), st mo ?_⟩
        repeat refine st mo ?_
        rfl
    repeat refine st mo ?_
    refine ⟨fun h3 => ?_, fun h3 => ?_⟩
    · rw [itO_3 hf h3]
      repeat refine st mo ?_
      refine ⟨_, r_eqT tk tp 0 0, fun hq => ?_, fun hq => ?_⟩
      · repeat refine st mo ?_
        show _ = _; simp
      · repeat refine st mo ?_
        show _ = _; simp
    · repeat refine st mo ?_
      rw [itO_0 h1 h2 h3]; rfl
set_option maxHeartbeats 1000000 in
set_option maxRecDepth 20000 in
theorem q_item_false (d : Nat) (nm : ByteArray) (k tk tp pl : Int) (x : Ex) (w : World) (hnm : nm.size <= 9223372036854775806) (hL : LT w d x) : Calls Tryz.prog 151 #[(⟨nm, k, tk, tp, false, pl, x⟩ : Itm).w] w fun e W => e = .returned (.bool (itO d ⟨nm, k, tk, tp, false, pl, x⟩)) /\ Mb w W := by
  refine fn_pure [.agg #[.string nm, .int .i64 k, .int .i64 tk, .int .i64 tp, litF, .int .i64 pl, .int .i64 x.k, .int .i64 x.op, .string x.nm, .string x.sc, .int .i64 x.v.k, .bool x.v.b, .int .u64 (l0 x.v.n), .int .u64 (l1 x.v.n), .int .u64 (l2 x.v.n), .int .u64 (l3 x.v.n), .int .i64 x.v.s, .bool x.v.f, .string x.v.t, .int .i64 x.v.e, .int .i64 x.s, .int .i64 x.pl, raw (.slice x.p x.a.length x.cl)]] Tryz.func151 rfl rfl rfl (run_ok (st mo ?_))
  repeat refine st mo ?_
  cases hf : fre nm with
  | false =>
    refine ⟨_, fun _ => r_call (t := litF) rfl rfl Tryz.func80 (fun W M E => q_fre hf hnm W), st mo ?_⟩
    repeat refine st mo ?_
    rw [itO_n hf]; rfl
  | true =>
    refine ⟨_, fun _ => r_call (t := litT) rfl rfl Tryz.func80 (fun W M E => q_fre hf hnm W), st mo ?_⟩
    repeat refine st mo ?_
    refine ⟨fun h1 => ?_, fun h1 => ?_⟩
    · rw [itO_1 hf h1]
      repeat refine st mo ?_
      cases ht : tyO tk tp with
      | false =>
        refine ⟨_, fun _ => r_call (t := litF) rfl rfl Tryz.func195 (fun W M E => ht ▸ q_ty tk tp W), st mo ?_⟩
        repeat refine st mo ?_
        rfl
      | true =>
        refine ⟨_, fun _ => r_call (t := litT) rfl rfl Tryz.func195 (fun W M E => ht ▸ q_ty tk tp W), st mo ?_⟩
        repeat refine st mo ?_
        refine ⟨fun h => ?_, fun h => ?_⟩
        · repeat refine st mo ?_
          refine ⟨_, fun _ => r_call (t := .bool (nth x)) rfl rfl Tryz.func83 (fun W M E => q_none x W), st mo ?_⟩
          repeat refine st mo ?_
          show _ = _; rw [decide_eq_true h]; rfl
        · repeat refine st mo ?_
          show _ = _; rw [decide_eq_false h]; rfl
    repeat refine st mo ?_
    refine ⟨fun h2 => ?_, fun h2 => ?_⟩
    · rw [itO_2 hf h2]
      repeat refine st mo ?_
      refine ⟨fun hp => ?_, fun hp => ?_⟩
      · repeat refine st mo ?_
        refine ⟨fun hk => ?_, fun hk => ?_⟩
        · repeat refine st mo ?_
          refine ⟨fun h5 => absurd h5 (by omega), fun h5 => ?_⟩
          have hr : rnO tk pl = false := by unfold rnO isP; rw [if_pos hk, decide_eq_false (by omega)]; rfl
          repeat refine st mo ?_
          cases ht : tyO tk tp with
          | false =>
            refine ⟨_, fun _ => r_call (t := litF) rfl rfl Tryz.func195 (fun W M E => ht ▸ q_ty tk tp W), st mo ?_⟩
            repeat refine st mo ?_
            rfl
          | true =>
            refine ⟨_, fun _ => r_call (t := litT) rfl rfl Tryz.func195 (fun W M E => ht ▸ q_ty tk tp W), st mo ?_⟩
            repeat refine st mo ?_
            show _ = _; rw [hr]; simp
        · have hr : rnO tk pl = true := by unfold rnO; rw [if_neg hk, decide_eq_true hp]
          repeat refine st mo ?_
          cases ht : tyO tk tp with
          | false =>
            refine ⟨_, fun _ => r_call (t := litF) rfl rfl Tryz.func195 (fun W M E => ht ▸ q_ty tk tp W), st mo ?_⟩
            repeat refine st mo ?_
            rfl
          | true =>
            refine ⟨_, fun _ => r_call (t := litT) rfl rfl Tryz.func195 (fun W M E => ht ▸ q_ty tk tp W), st mo ?_⟩
            repeat refine st mo ?_
            refine ⟨_, fun _ => r_call (t := .bool (vE d x)) rfl rfl Tryz.func37 (fun W M E => q_exp d x W (hL.mono E)), st mo ?_⟩
            repeat refine st mo ?_
            show _ = _; rw [hr]; rfl
      · repeat refine st mo ?_
        refine ⟨fun hk => ?_, fun hk => ?_⟩
        · repeat refine st mo ?_
          refine ⟨fun h5 => ?_, fun h5 => ?_⟩
          · repeat refine st mo ?_
            refine ⟨fun h6 => ?_, fun h6 => ?_⟩
            · have hr : rnO tk pl = true := by unfold rnO isP; rw [if_pos hk, decide_eq_true (by omega), decide_eq_true (by omega)]; rfl
              repeat refine st mo ?_
              cases ht : tyO tk tp with
              | false =>
                refine ⟨_, fun _ => r_call (t := litF) rfl rfl Tryz.func195 (fun W M E => ht ▸ q_ty tk tp W), st mo ?_⟩
                repeat refine st mo ?_
                rfl
              | true =>
                refine ⟨_, fun _ => r_call (t := litT) rfl rfl Tryz.func195 (fun W M E => ht ▸ q_ty tk tp W), st mo ?_⟩
                repeat refine st mo ?_
                refine ⟨_, fun _ => r_call (t := .bool (vE d x)) rfl rfl Tryz.func37 (fun W M E => q_exp d x W (hL.mono E)), st mo ?_⟩
                repeat refine st mo ?_
                show _ = _; rw [hr]; rfl
            · have hr : rnO tk pl = false := by unfold rnO isP; rw [if_pos hk, decide_eq_false (p := pl <= 5) (by omega)]; simp
              repeat refine st mo ?_
              cases ht : tyO tk tp with
              | false =>
                refine ⟨_, fun _ => r_call (t := litF) rfl rfl Tryz.func195 (fun W M E => ht ▸ q_ty tk tp W), st mo ?_⟩
                repeat refine st mo ?_
                rfl
              | true =>
                refine ⟨_, fun _ => r_call (t := litT) rfl rfl Tryz.func195 (fun W M E => ht ▸ q_ty tk tp W), st mo ?_⟩
                repeat refine st mo ?_
                show _ = _; rw [hr]; simp
          · have hr : rnO tk pl = false := by unfold rnO isP; rw [if_pos hk, decide_eq_false (p := 1 <= pl) (by omega)]; rfl
            repeat refine st mo ?_
            cases ht : tyO tk tp with
            | false =>
              refine ⟨_, fun _ => r_call (t := litF) rfl rfl Tryz.func195 (fun W M E => ht ▸ q_ty tk tp W), st mo ?_⟩
              repeat refine st mo ?_
              rfl
            | true =>
              refine ⟨_, fun _ => r_call (t := litT) rfl rfl Tryz.func195 (fun W M E => ht ▸ q_ty tk tp W), st mo ?_⟩
              repeat refine st mo ?_
              show _ = _; rw [hr]; simp
        · have hr : rnO tk pl = false := by unfold rnO; rw [if_neg hk, decide_eq_false hp]
          repeat refine st mo ?_
          cases ht : tyO tk tp with
          | false =>
            refine ⟨_, fun _ => r_call (t := litF) rfl rfl Tryz.func195 (fun W M E => ht ▸ q_ty tk tp W), st mo ?_⟩
            repeat refine st mo ?_
            rfl
          | true =>
            refine ⟨_, fun _ => r_call (t := litT) rfl rfl Tryz.func195 (fun W M E => ht ▸ q_ty tk tp W), st mo ?_⟩
            repeat refine st mo ?_
            show _ = _; rw [hr]; simp
    repeat refine st mo ?_
    refine ⟨fun h3 => ?_, fun h3 => ?_⟩
    · rw [itO_3 hf h3]
      repeat refine st mo ?_
      refine ⟨_, r_eqT tk tp 0 0, fun hq => ?_, fun hq => ?_⟩
      · have hq' : decide (tk = 0 /\ tp = 0) = true := by simp at hq; simp [hq]
        repeat refine st mo ?_
        refine ⟨fun h => ?_, fun h => ?_⟩
        · repeat refine st mo ?_
          refine ⟨_, fun _ => r_call (t := .bool (vE d x)) rfl rfl Tryz.func37 (fun W M E => q_exp d x W (hL.mono E)), st mo ?_⟩
          repeat refine st mo ?_
          show _ = _; rw [hq', decide_eq_true h]; rfl
        · repeat refine st mo ?_
          show _ = _; rw [hq', decide_eq_false h]; rfl
      · have hq' : decide (tk = 0 /\ tp = 0) = false := by simp at hq; simp; exact hq
        repeat refine st mo ?_
        show _ = _; rw [hq']; rfl
    · repeat refine st mo ?_
      rw [itO_0 h1 h2 h3]; rfl
set_option maxHeartbeats 1000000 in
set_option maxRecDepth 20000 in
theorem q_item_true (d : Nat) (nm : ByteArray) (k tk tp pl : Int) (x : Ex) (w : World) (hnm : nm.size <= 9223372036854775806) (_ : LT w d x) : Calls Tryz.prog 151 #[(⟨nm, k, tk, tp, true, pl, x⟩ : Itm).w] w fun e W => e = .returned (.bool (itO d ⟨nm, k, tk, tp, true, pl, x⟩)) /\ Mb w W := by
  refine fn_pure [.agg #[.string nm, .int .i64 k, .int .i64 tk, .int .i64 tp, litT, .int .i64 pl, .int .i64 x.k, .int .i64 x.op, .string x.nm, .string x.sc, .int .i64 x.v.k, .bool x.v.b, .int .u64 (l0 x.v.n), .int .u64 (l1 x.v.n), .int .u64 (l2 x.v.n), .int .u64 (l3 x.v.n), .int .i64 x.v.s, .bool x.v.f, .string x.v.t, .int .i64 x.v.e, .int .i64 x.s, .int .i64 x.pl, raw (.slice x.p x.a.length x.cl)]] Tryz.func151 rfl rfl rfl (run_ok (st mo ?_))
  repeat refine st mo ?_
  cases hf : fre nm with
  | false =>
    refine ⟨_, fun _ => r_call (t := litF) rfl rfl Tryz.func80 (fun W M E => q_fre hf hnm W), st mo ?_⟩
    repeat refine st mo ?_
    rw [itO_n hf]; rfl
  | true =>
    refine ⟨_, fun _ => r_call (t := litT) rfl rfl Tryz.func80 (fun W M E => q_fre hf hnm W), st mo ?_⟩
    repeat refine st mo ?_
    refine ⟨fun h1 => ?_, fun h1 => ?_⟩
    · rw [itO_1 hf h1]
      repeat refine st mo ?_
      cases ht : tyO tk tp with
      | false =>
        refine ⟨_, fun _ => r_call (t := litF) rfl rfl Tryz.func195 (fun W M E => ht ▸ q_ty tk tp W), st mo ?_⟩
        repeat refine st mo ?_
        rfl
      | true =>
        refine ⟨_, fun _ => r_call (t := litT) rfl rfl Tryz.func195 (fun W M E => ht ▸ q_ty tk tp W), st mo ?_⟩
        repeat refine st mo ?_
        refine ⟨fun h => ?_, fun h => ?_⟩
        · repeat refine st mo ?_
          refine ⟨_, fun _ => r_call (t := .bool (nth x)) rfl rfl Tryz.func83 (fun W M E => q_none x W), st mo ?_⟩
          repeat refine st mo ?_
          show _ = _; rw [decide_eq_true h]; rfl
        · repeat refine st mo ?_
          show _ = _; rw [decide_eq_false h]; rfl
    repeat refine st mo ?_
    refine ⟨fun h2 => ?_, fun h2 => ?_⟩
    · rw [itO_2 hf h2]
      repeat refine st mo ?_
      refine ⟨fun hp => ?_, fun hp => ?_⟩
      · repeat refine st mo ?_
        refine ⟨fun hk => ?_, fun hk => ?_⟩
        · repeat refine st mo ?_
          refine ⟨fun h5 => absurd h5 (by omega), fun h5 => ?_⟩
          have hr : rnO tk pl = false := by unfold rnO isP; rw [if_pos hk, decide_eq_false (by omega)]; rfl
          repeat refine st mo ?_
          cases ht : tyO tk tp with
          | false =>
            refine ⟨_, fun _ => r_call (t := litF) rfl rfl Tryz.func195 (fun W M E => ht ▸ q_ty tk tp W), st mo ?_⟩
            repeat refine st mo ?_
            rfl
          | true =>
            refine ⟨_, fun _ => r_call (t := litT) rfl rfl Tryz.func195 (fun W M E => ht ▸ q_ty tk tp W), st mo ?_⟩
            repeat refine st mo ?_
            show _ = _; rw [hr]; simp
        · have hr : rnO tk pl = true := by unfold rnO; rw [if_neg hk, decide_eq_true hp]
          repeat refine st mo ?_
          cases ht : tyO tk tp with
          | false =>
            refine ⟨_, fun _ => r_call (t := litF) rfl rfl Tryz.func195 (fun W M E => ht ▸ q_ty tk tp W), st mo ?_⟩
            repeat refine st mo ?_
            rfl
          | true =>
            refine ⟨_, fun _ => r_call (t := litT) rfl rfl Tryz.func195 (fun W M E => ht ▸ q_ty tk tp W), st mo ?_⟩
            repeat refine st mo ?_
            show _ = _; simp
      · repeat refine st mo ?_
        refine ⟨fun hk => ?_, fun hk => ?_⟩
        · repeat refine st mo ?_
          refine ⟨fun h5 => ?_, fun h5 => ?_⟩
          · repeat refine st mo ?_
            refine ⟨fun h6 => ?_, fun h6 => ?_⟩
            · have hr : rnO tk pl = true := by unfold rnO isP; rw [if_pos hk, decide_eq_true (by omega), decide_eq_true (by omega)]; rfl
              repeat refine st mo ?_
              cases ht : tyO tk tp with
              | false =>
                refine ⟨_, fun _ => r_call (t := litF) rfl rfl Tryz.func195 (fun W M E => ht ▸ q_ty tk tp W), st mo ?_⟩
                repeat refine st mo ?_
                rfl
              | true =>
                refine ⟨_, fun _ => r_call (t := litT) rfl rfl Tryz.func195 (fun W M E => ht ▸ q_ty tk tp W), st mo ?_⟩
                repeat refine st mo ?_
                show _ = _; simp
            · have hr : rnO tk pl = false := by unfold rnO isP; rw [if_pos hk, decide_eq_false (p := pl <= 5) (by omega)]; simp
              repeat refine st mo ?_
              cases ht : tyO tk tp with
              | false =>
                refine ⟨_, fun _ => r_call (t := litF) rfl rfl Tryz.func195 (fun W M E => ht ▸ q_ty tk tp W), st mo ?_⟩
                repeat refine st mo ?_
                rfl
              | true =>
                refine ⟨_, fun _ => r_call (t := litT) rfl rfl Tryz.func195 (fun W M E => ht ▸ q_ty tk tp W), st mo ?_⟩
                repeat refine st mo ?_
                show _ = _; rw [hr]; simp
          · have hr : rnO tk pl = false := by unfold rnO isP; rw [if_pos hk, decide_eq_false (p := 1 <= pl) (by omega)]; rfl
            repeat refine st mo ?_
            cases ht : tyO tk tp with
            | false =>
              refine ⟨_, fun _ => r_call (t := litF) rfl rfl Tryz.func195 (fun W M E => ht ▸ q_ty tk tp W), st mo ?_⟩
              repeat refine st mo ?_
              rfl
            | true =>
              refine ⟨_, fun _ => r_call (t := litT) rfl rfl Tryz.func195 (fun W M E => ht ▸ q_ty tk tp W), st mo ?_⟩
              repeat refine st mo ?_
              show _ = _; rw [hr]; simp
        · have hr : rnO tk pl = false := by unfold rnO; rw [if_neg hk, decide_eq_false hp]
          repeat refine st mo ?_
          cases ht : tyO tk tp with
          | false =>
            refine ⟨_, fun _ => r_call (t := litF) rfl rfl Tryz.func195 (fun W M E => ht ▸ q_ty tk tp W), st mo ?_⟩
            repeat refine st mo ?_
            rfl
          | true =>
            refine ⟨_, fun _ => r_call (t := litT) rfl rfl Tryz.func195 (fun W M E => ht ▸ q_ty tk tp W), st mo ?_⟩
            repeat refine st mo ?_
            show _ = _; rw [hr]; simp
    repeat refine st mo ?_
    refine ⟨fun h3 => ?_, fun h3 => ?_⟩
    · rw [itO_3 hf h3]
      repeat refine st mo ?_
      refine ⟨_, r_eqT tk tp 0 0, fun hq => ?_, fun hq => ?_⟩
      · repeat refine st mo ?_
        refine ⟨fun h => ?_, fun h => ?_⟩
        · repeat refine st mo ?_
          show _ = _; simp
        · repeat refine st mo ?_
          show _ = _; simp
      · repeat refine st mo ?_
        show _ = _; simp
    · repeat refine st mo ?_
      rw [itO_0 h1 h2 h3]; rfl
theorem p_item (d : Nat) (y : Itm) (w : World) (hnm : y.nm.size <= 9223372036854775806) (hL : LT w d y.x) : Calls Tryz.prog 138 #[y.w] w fun e W => e = .returned (.bool (itO d y)) /\ Mb w W := by
  obtain ⟨nm, k, tk, tp, nd, pl, x⟩ := y
  cases nd
  · exact p_item_false d nm k tk tp pl x w hnm hL
  · exact p_item_true d nm k tk tp pl x w hnm hL
theorem q_item (d : Nat) (y : Itm) (w : World) (hnm : y.nm.size <= 9223372036854775806) (hL : LT w d y.x) : Calls Tryz.prog 151 #[y.w] w fun e W => e = .returned (.bool (itO d y)) /\ Mb w W := by
  obtain ⟨nm, k, tk, tp, nd, pl, x⟩ := y
  cases nd
  · exact q_item_false d nm k tk tp pl x w hnm hL
  · exact q_item_true d nm k tk tp pl x w hnm hL
abbrev AmoW : ByteArray := ⟨#[97, 109, 111, 117, 110, 116]⟩
abbrev FlaW : ByteArray := ⟨#[102, 108, 97, 103]⟩
abbrev TexW : ByteArray := ⟨#[116, 101, 120, 116]⟩
abbrev FieW : ByteArray := ⟨#[102, 105, 101, 108, 100]⟩
abbrev LinW : ByteArray := ⟨#[108, 105, 110, 101]⟩
abbrev CheW : ByteArray := ⟨#[99, 104, 101, 99, 107]⟩
abbrev NeeW : ByteArray := ⟨#[110, 101, 101, 100, 101, 100]⟩
abbrev ColW : ByteArray := ⟨#[58]⟩
abbrev SemW : ByteArray := ⟨#[59]⟩
abbrev EquW : ByteArray := ⟨#[61]⟩
def tyw (k p : Int) : List ByteArray := if k = 1 then [AmoW, ntx p] else if k = 2 then [FlaW] else [TexW]
theorem tyw_ok (k p : Int) : ∀ w ∈ tyw k p, wok w := by
  unfold tyw; split
  · exact cons_ok ⟨by decide, by decide⟩ (one_ok (ntx_ok p))
  · split <;> exact one_ok ⟨by decide, by decide⟩
theorem tyO_k {k p : Int} (h : tyO k p = true) : (k = 1 /\ 0 <= p /\ p <= 1073741824) ∨ k = 2 ∨ k = 3 := by
  unfold tyO at h
  split at h
  · rename_i h1; exact Or.inl ⟨h1, isI_iff.1 h⟩
  · split at h
    · rename_i h1; exact Or.inr h1
    · cases h
set_option maxRecDepth 20000 in
theorem d_typ (t : ByteArray) (k p : Int) (hty : tyO k p = true) (ht : t.size <= 40000) (X : World) : CQ X 196 [P0, .agg #[.int .i64 k, .int .i64 p]] t (tyw k p) := by
  have hok := tyw_ok k p
  refine fn_c _ Tryz.func196 rfl rfl rfl rfl (fun w ll tw X' hX => run_ok (st mo ?_))
  repeat refine st mo ?_
  refine ⟨fun h1 => ?_, fun h1 => ?_⟩
  · have hp : 0 <= p /\ p <= 1073741824 := by rcases tyO_k hty with h | h | h <;> omega
    have e : tyw k p = [AmoW, ntx p] := if_pos h1
    rw [e] at hok ⊢
    repeat refine st mo ?_
    refine ⟨_, fun _ => r_call (t := .string (ntx p)) rfl rfl Tryz.func154 (fun W M E => q_nat p hp.1 hp.2 W), st mo ?_⟩
    repeat refine st mo ?_
    refine ⟨_, fun nn => r_qp t [AmoW, ntx p] 2 ht hok, st mo ?_⟩
    repeat refine st mo ?_
    exact ⟨rfl, [0], ft0, ⟨trivial, fl rfl (q0_pur _), trivial⟩, rfl, rfl⟩
  repeat refine st mo ?_
  refine ⟨fun h2 => ?_, fun h2 => ?_⟩
  · have e : tyw k p = [FlaW] := by unfold tyw; rw [if_neg h1, if_pos h2]
    rw [e] at hok ⊢
    repeat refine st mo ?_
    refine ⟨_, fun nn => r_qp t [FlaW] 2 ht hok, st mo ?_⟩
    repeat refine st mo ?_
    exact ⟨rfl, [0], ft0, ⟨trivial, fl rfl (q0_pur _), trivial⟩, rfl, rfl⟩
  repeat refine st mo ?_
  refine ⟨fun h3 => ?_, fun h3 => ?_⟩
  · have e : tyw k p = [TexW] := by unfold tyw; rw [if_neg h1, if_neg h2]
    rw [e] at hok ⊢
    repeat refine st mo ?_
    refine ⟨_, fun nn => r_qp t [TexW] 2 ht hok, st mo ?_⟩
    repeat refine st mo ?_
    exact ⟨rfl, [0], ft0, ⟨trivial, fl rfl (q0_pur _), trivial⟩, rfl, rfl⟩
  · rcases tyO_k hty with h | h | h
    · exact absurd h.1 h1
    · exact absurd h h2
    · exact absurd h h3
def itw (d : Nat) (y : Itm) : List ByteArray :=
  (if y.k = 1 then [FieW, y.nm, ColW] ++ (tyw y.tk y.tp ++ (if y.nd then [NeeW] else []))
   else if y.k = 2 then [LinW, y.nm, ColW] ++ (tyw y.tk y.tp ++ ((if y.tk = 1 then [plW y.pl] else []) ++ ([EquW] ++ wB d y.x)))
   else [CheW, y.nm, EquW] ++ wB d y.x) ++ [SemW]
theorem itw1 {d : Nat} {y : Itm} (h : y.k = 1) : itw d y = [FieW, y.nm, ColW] ++ (tyw y.tk y.tp ++ ((if y.nd then [NeeW] else []) ++ [SemW])) := by unfold itw; rw [if_pos h]; simp
theorem itw2 {d : Nat} {y : Itm} (h : y.k = 2) : itw d y = [LinW, y.nm, ColW] ++ (tyw y.tk y.tp ++ ((if y.tk = 1 then [plW y.pl] else []) ++ ([EquW] ++ (wB d y.x ++ [SemW])))) := by unfold itw; rw [if_neg (by omega), if_pos h]; simp
theorem itw3 {d : Nat} {y : Itm} (h : y.k = 3) : itw d y = [CheW, y.nm, EquW] ++ (wB d y.x ++ [SemW]) := by unfold itw; rw [if_neg (by omega), if_neg (by omega)]; simp
theorem itO_fre {d : Nat} {y : Itm} (h : itO d y = true) : fre y.nm = true := by unfold itO at h; simp at h; exact h.1
theorem itO_k {d : Nat} {y : Itm} (h : itO d y = true) : y.k = 1 ∨ y.k = 2 ∨ y.k = 3 := by
  by_cases h1 : y.k = 1
  · exact Or.inl h1
  · by_cases h2 : y.k = 2
    · exact Or.inr (Or.inl h2)
    · by_cases h3 : y.k = 3
      · exact Or.inr (Or.inr h3)
      · rw [itO_0 h1 h2 h3] at h; cases h
theorem itO1 {d : Nat} {y : Itm} (h : itO d y = true) (hk : y.k = 1) : tyO y.tk y.tp = true := by rw [itO_1 (itO_fre h) hk] at h; simp at h; exact h.1
theorem itO2 {d : Nat} {y : Itm} (h : itO d y = true) (hk : y.k = 2) : tyO y.tk y.tp = true /\ rnO y.tk y.pl = true /\ vE d y.x = true := by rw [itO_2 (itO_fre h) hk] at h; simp at h; exact ⟨h.1, h.2.2⟩
theorem itO3 {d : Nat} {y : Itm} (h : itO d y = true) (hk : y.k = 3) : vE d y.x = true := by rw [itO_3 (itO_fre h) hk] at h; simp at h; exact h.2.2.2
theorem rnO_pl {tk pl : Int} (h : rnO tk pl = true) (hk : tk = 1) : 1 <= pl /\ pl <= 5 := by unfold rnO at h; rw [if_pos hk] at h; exact isP_iff.1 h
theorem itw_ok {d : Nat} {X : World} {y : Itm} (h : itO d y = true) (hL : LT X d y.x) : ∀ w ∈ itw d y, wok w := by
  have hn := fre_ok (itO_fre h)
  rcases itO_k h with hk | hk | hk
  · rw [itw1 hk]
    exact app_ok (cons_ok ⟨by decide, by decide⟩ (cons_ok hn (one_ok sym_ok))) (app_ok (tyw_ok _ _) (app_ok (by split; exact one_ok ⟨by decide, by decide⟩; exact nil_ok) (one_ok sym_ok)))
  · obtain ⟨_, h2, h3⟩ := itO2 h hk
    rw [itw2 hk]
    exact app_ok (cons_ok ⟨by decide, by decide⟩ (cons_ok hn (one_ok sym_ok))) (app_ok (tyw_ok _ _) (app_ok (by split; exact one_ok (plw_ok (rnO_pl h2 (by assumption)).1 (rnO_pl h2 (by assumption)).2); exact nil_ok) (app_ok (one_ok sym_ok) (app_ok (wBd_ok hL h3) (one_ok sym_ok)))))
  · rw [itw3 hk]
    exact app_ok (cons_ok ⟨by decide, by decide⟩ (cons_ok hn (one_ok sym_ok))) (app_ok (wBd_ok hL (itO3 h hk)) (one_ok sym_ok))
theorem nee_ok : wok NeeW := ⟨by decide, by decide⟩
set_option maxHeartbeats 2000000 in
set_option maxRecDepth 20000 in
theorem d_item (d : Nat) (t : ByteArray) (y : Itm) (hi : itO d y = true) (ht : t.size <= 40000) (X : World) (hL : LT X d y.x) : CQ X 153 [P0, y.y] t (itw d y) := by
  have hnm := fre_ok (itO_fre hi)
  have hk3 := itO_k hi
  refine fn_c _ Tryz.func153 rfl rfl rfl rfl (fun w ll tw X' hX => run_ok (st mo ?_))
  repeat refine st mo ?_
  refine ⟨fun h1 => ?_, fun h1 => ?_⟩
  · have hty := itO1 hi h1
    have hok1 : ∀ w ∈ [FieW, y.nm, ColW], wok w := cons_ok ⟨by decide, by decide⟩ (cons_ok hnm (one_ok sym_ok))
    cases hnd : y.nd with
    | true =>
      have e : itw d y = [FieW, y.nm, ColW] ++ (tyw y.tk y.tp ++ ([NeeW] ++ [SemW])) := by rw [itw1 h1, hnd]; rfl
      rw [e]
      simp only [qps_app]
      repeat refine st mo ?_
      refine ⟨_, fun nn => r_qp t [FieW, y.nm, ColW] 2 ht hok1, st mo ?_⟩
      have ht1 := qps_size ht hok1
      generalize qps t ([FieW, y.nm, ColW]) = t1 at *
      repeat refine st mo ?_
      refine ⟨_, fun nn => r_q t1 (qps t1 (tyw y.tk y.tp)) rfl (d_typ t1 y.tk y.tp hty ht1 X') (by exact fitL_cons fp (fitL_cons fv (by rfl))) (fn := Tryz.f196), st mo ?_⟩
      have ht2 := qps_size ht1 (tyw_ok y.tk y.tp)
      generalize qps t1 (tyw y.tk y.tp) = t2 at *
      repeat refine st mo ?_
      refine ⟨fun _ => ?_, fun h => absurd h (by decide)⟩
      repeat refine st mo ?_
      refine ⟨_, fun nn => r_qp t2 [NeeW] 3 ht2 (one_ok nee_ok), st mo ?_⟩
      have ht4 := qps_size ht2 (one_ok nee_ok)
      generalize qps t2 ([NeeW]) = t4 at *
      repeat refine st mo ?_
      refine ⟨_, fun nn => r_qp t4 [SemW] 4 ht4 (one_ok (sym_ok (a := 59))), st mo ?_⟩
      repeat refine st mo ?_
      exact ⟨rfl, [0], ft0, ⟨trivial, fl rfl (q0_pur _), trivial⟩, rfl, rfl⟩
    | false =>
      have e : itw d y = [FieW, y.nm, ColW] ++ (tyw y.tk y.tp ++ [SemW]) := by rw [itw1 h1, hnd]; rfl
      rw [e]
      simp only [qps_app]
      repeat refine st mo ?_
      refine ⟨_, fun nn => r_qp t [FieW, y.nm, ColW] 2 ht hok1, st mo ?_⟩
      have ht1 := qps_size ht hok1
      generalize qps t ([FieW, y.nm, ColW]) = t1 at *
      repeat refine st mo ?_
      refine ⟨_, fun nn => r_q t1 (qps t1 (tyw y.tk y.tp)) rfl (d_typ t1 y.tk y.tp hty ht1 X') (by exact fitL_cons fp (fitL_cons fv (by rfl))) (fn := Tryz.f196), st mo ?_⟩
      have ht2 := qps_size ht1 (tyw_ok y.tk y.tp)
      generalize qps t1 (tyw y.tk y.tp) = t2 at *
      repeat refine st mo ?_
      refine ⟨fun h => absurd h (by decide), fun _ => ?_⟩
      repeat refine st mo ?_
      refine ⟨_, fun nn => r_qp t2 [SemW] 3 ht2 (one_ok (sym_ok (a := 59))), st mo ?_⟩
      repeat refine st mo ?_
      exact ⟨rfl, [0], ft0, ⟨trivial, fl rfl (q0_pur _), trivial⟩, rfl, rfl⟩
  repeat refine st mo ?_
  refine ⟨fun h2 => ?_, fun h2 => ?_⟩
  · obtain ⟨hty, hrn, hv⟩ := itO2 hi h2
    have hok1 : ∀ w ∈ [LinW, y.nm, ColW], wok w := cons_ok ⟨by decide, by decide⟩ (cons_ok hnm (one_ok sym_ok))
    by_cases htk : y.tk = 1
    · have e : itw d y = [LinW, y.nm, ColW] ++ (tyw y.tk y.tp ++ ([plW y.pl] ++ ([EquW] ++ (wB d y.x ++ [SemW])))) := by rw [itw2 h2, if_pos htk]
      have hpl := rnO_pl hrn htk
      obtain ⟨i, hi4, hi5, hi6⟩ := plw_at (p := y.pl) (by omega) hpl.2
      rw [e]
      simp only [qps_app]
      repeat refine st mo ?_
      refine ⟨_, fun nn => r_qp t [LinW, y.nm, ColW] 2 ht hok1, st mo ?_⟩
      have ht1 := qps_size ht hok1
      generalize qps t ([LinW, y.nm, ColW]) = t1 at *
      repeat refine st mo ?_
      refine ⟨_, fun nn => r_q t1 (qps t1 (tyw y.tk y.tp)) rfl (d_typ t1 y.tk y.tp hty ht1 X') (by exact fitL_cons fp (fitL_cons fv (by rfl))) (fn := Tryz.f196), st mo ?_⟩
      have ht2 := qps_size ht1 (tyw_ok y.tk y.tp)
      generalize qps t1 (tyw y.tk y.tp) = t2 at *
      repeat refine st mo ?_
      refine ⟨fun _ => ?_, fun h => absurd htk h⟩
      repeat refine st mo ?_
      refine ⟨_, fun _ => r_c (tc := .slice (some ⟨3, 0, none⟩) 6 1) [] [some (osV plw)] [3] rfl rfl (d_pol X') (by rfl) trivial us ⟨ul rfl rfl, trivial⟩, st mo ?_⟩
      repeat refine st mo ?_
      refine ⟨_, fun _ => r_c (tc := .string (plW y.pl)) [3] [] [] rfl rfl (d_word plw i (plW y.pl) hi6 X') (by exact fitL_cons fs (fitL_cons (fv (by rw [hi4]; rfl)) (by rfl))) ⟨trivial, fl rfl rfl, trivial⟩ uv trivial, st mo ?_⟩
      repeat refine st mo ?_
      refine ⟨_, fun nn => r_qp t2 [plW y.pl] 4 ht2 (one_ok (plw_ok hpl.1 hpl.2)), st mo ?_⟩
      have ht4 := qps_size ht2 (one_ok (plw_ok hpl.1 hpl.2))
      generalize qps t2 ([plW y.pl]) = t4 at *
      repeat refine st mo ?_
      refine ⟨dk, st mo ?_⟩
      repeat refine st mo ?_
      refine ⟨_, fun nn => r_qp t4 [EquW] 5 ht4 (one_ok (sym_ok (a := 61))), st mo ?_⟩
      have ht6 := qps_size ht4 (one_ok (sym_ok (a := 61)))
      generalize qps t4 ([EquW]) = t6 at *
      repeat refine st mo ?_
      refine ⟨_, fun nn => r_q t6 (qps t6 (wB d y.x)) rfl (d_expr d t6 y.x X' (hL.xf hX) hv ht6) (by exact fitL_cons fp (fitL_cons fv (by rfl))) (fn := Tryz.f38), st mo ?_⟩
      have ht7 := qps_size ht6 (wBd_ok hL hv)
      generalize qps t6 (wB d y.x) = t7 at *
      repeat refine st mo ?_
      refine ⟨_, fun nn => r_qp t7 [SemW] 6 ht7 (one_ok (sym_ok (a := 59))), st mo ?_⟩
      repeat refine st mo ?_
      exact ⟨rfl, [0], ft0, ⟨trivial, fl rfl (q0_pur _), trivial⟩, rfl, rfl⟩
    · have e : itw d y = [LinW, y.nm, ColW] ++ (tyw y.tk y.tp ++ ([EquW] ++ (wB d y.x ++ [SemW]))) := by rw [itw2 h2, if_neg htk]; rfl
      rw [e]
      simp only [qps_app]
      repeat refine st mo ?_
      refine ⟨_, fun nn => r_qp t [LinW, y.nm, ColW] 2 ht hok1, st mo ?_⟩
      have ht1 := qps_size ht hok1
      generalize qps t ([LinW, y.nm, ColW]) = t1 at *
      repeat refine st mo ?_
      refine ⟨_, fun nn => r_q t1 (qps t1 (tyw y.tk y.tp)) rfl (d_typ t1 y.tk y.tp hty ht1 X') (by exact fitL_cons fp (fitL_cons fv (by rfl))) (fn := Tryz.f196), st mo ?_⟩
      have ht2 := qps_size ht1 (tyw_ok y.tk y.tp)
      generalize qps t1 (tyw y.tk y.tp) = t2 at *
      repeat refine st mo ?_
      refine ⟨fun h => absurd h htk, fun _ => ?_⟩
      repeat refine st mo ?_
      refine ⟨_, fun nn => r_qp t2 [EquW] 3 ht2 (one_ok (sym_ok (a := 61))), st mo ?_⟩
      have ht4 := qps_size ht2 (one_ok (sym_ok (a := 61)))
      generalize qps t2 ([EquW]) = t4 at *
      repeat refine st mo ?_
      refine ⟨_, fun nn => r_q t4 (qps t4 (wB d y.x)) rfl (d_expr d t4 y.x X' (hL.xf hX) hv ht4) (by exact fitL_cons fp (fitL_cons fv (by rfl))) (fn := Tryz.f38), st mo ?_⟩
      have ht5 := qps_size ht4 (wBd_ok hL hv)
      generalize qps t4 (wB d y.x) = t5 at *
      repeat refine st mo ?_
      refine ⟨_, fun nn => r_qp t5 [SemW] 4 ht5 (one_ok (sym_ok (a := 59))), st mo ?_⟩
      repeat refine st mo ?_
      exact ⟨rfl, [0], ft0, ⟨trivial, fl rfl (q0_pur _), trivial⟩, rfl, rfl⟩
  · have h3 : y.k = 3 := by omega
    have hv := itO3 hi h3
    have hok1 : ∀ w ∈ [CheW, y.nm, EquW], wok w := cons_ok ⟨by decide, by decide⟩ (cons_ok hnm (one_ok sym_ok))
    rw [itw3 h3]
    simp only [qps_app]
    repeat refine st mo ?_
    refine ⟨_, fun nn => r_qp t [CheW, y.nm, EquW] 2 ht hok1, st mo ?_⟩
    have ht1 := qps_size ht hok1
    generalize qps t ([CheW, y.nm, EquW]) = t1 at *
    repeat refine st mo ?_
    refine ⟨_, fun nn => r_q t1 (qps t1 (wB d y.x)) rfl (d_expr d t1 y.x X' (hL.xf hX) hv ht1) (by exact fitL_cons fp (fitL_cons fv (by rfl))) (fn := Tryz.f38), st mo ?_⟩
    have ht2 := qps_size ht1 (wBd_ok hL hv)
    generalize qps t1 (wB d y.x) = t2 at *
    repeat refine st mo ?_
    refine ⟨_, fun nn => r_qp t2 [SemW] 3 ht2 (one_ok (sym_ok (a := 59))), st mo ?_⟩
    repeat refine st mo ?_
    exact ⟨rfl, [0], ft0, ⟨trivial, fl rfl (q0_pur _), trivial⟩, rfl, rfl⟩
structure Sec where
  nm : ByteArray
  mx : Int
  ip : Option Addr
  icl : Nat
  its : List Itm
  sp : Option Addr
  scl : Nat
  secs : List Sec
structure Rat' where
  b0 : Bool
  n0 : Int
  s0 : Int
  b1 : Bool
  n1 : Int
  s1 : Int
  b2 : Bool
  n2 : Int
  s2 : Int
structure Tab where
  nm : ByteArray
  p : Option Addr
  cl : Nat
  a : List Rat'
structure Pag where
  nm : ByteArray
  x : Ex
  p : Option Addr
  cl : Nat
  a : List ByteArray
structure Dfn where
  nm : ByteArray
  r : Sec
  tp : Option Addr
  tcl : Nat
  tabs : List Tab
  pp : Option Addr
  pcl : Nat
  pags : List Pag
def Sec.c (y : Sec) : List Value := [.string y.nm, .int .i64 y.mx, .slice y.ip y.its.length y.icl, .slice y.sp y.secs.length y.scl]
def Rat'.c (y : Rat') : List Value := [.bool y.b0, .int .u64 (l0 y.n0), .int .u64 (l1 y.n0), .int .u64 (l2 y.n0), .int .u64 (l3 y.n0), .int .i64 y.s0, .bool y.b1, .int .u64 (l0 y.n1), .int .u64 (l1 y.n1), .int .u64 (l2 y.n1), .int .u64 (l3 y.n1), .int .i64 y.s1, .bool y.b2, .int .u64 (l0 y.n2), .int .u64 (l1 y.n2), .int .u64 (l2 y.n2), .int .u64 (l3 y.n2), .int .i64 y.s2]
def Tab.c (y : Tab) : List Value := [.string y.nm, .slice y.p y.a.length y.cl]
def Pag.c (y : Pag) : List Value := [.string y.nm, .int .i64 y.x.k, .int .i64 y.x.op, .string y.x.nm, .string y.x.sc, .int .i64 y.x.v.k, .bool y.x.v.b, .int .u64 (l0 y.x.v.n), .int .u64 (l1 y.x.v.n), .int .u64 (l2 y.x.v.n), .int .u64 (l3 y.x.v.n), .int .i64 y.x.v.s, .bool y.x.v.f, .string y.x.v.t, .int .i64 y.x.v.e, .int .i64 y.x.s, .int .i64 y.x.pl, .slice y.x.p y.x.a.length y.x.cl, .slice y.p y.a.length y.cl]
def Dfn.c (y : Dfn) : List Value := [.string y.nm, .string y.r.nm, .int .i64 y.r.mx, .slice y.r.ip y.r.its.length y.r.icl, .slice y.r.sp y.r.secs.length y.r.scl, .slice y.tp y.tabs.length y.tcl, .slice y.pp y.pags.length y.pcl]
abbrev Sec.y (y : Sec) : Value := .agg (y.c.map rel1).toArray
abbrev Sec.w (y : Sec) : Value := .agg y.c.toArray
abbrev Rat'.y (y : Rat') : Value := .agg (y.c.map rel1).toArray
abbrev Rat'.w (y : Rat') : Value := .agg y.c.toArray
abbrev Tab.y (y : Tab) : Value := .agg (y.c.map rel1).toArray
abbrev Tab.w (y : Tab) : Value := .agg y.c.toArray
abbrev Pag.y (y : Pag) : Value := .agg (y.c.map rel1).toArray
abbrev Pag.w (y : Pag) : Value := .agg y.c.toArray
abbrev Dfn.y (y : Dfn) : Value := .agg (y.c.map rel1).toArray
abbrev Dfn.w (y : Dfn) : Value := .agg y.c.toArray
def EachA {T : Type} (c : T -> List Value) (N : Nat) (f : FuncId) (w : World) (p : Option Addr) (l : List T) (g : T -> Bool) : Prop := ∀ i y, l[i]? = some y -> (∃ b o, p = some ⟨b, o, none⟩ /\ Lies w b (o + i * N) (c y)) /\ ∀ W, (∀ a u, w.cell? a = some u -> W.cell? a = some u) -> Calls Tryz.prog f #[.agg (c y).toArray] W fun e W' => e = .returned (.bool (g y)) /\ Mb W W'
theorem EachA.mono {T : Type} {c : T -> List Value} {N : Nat} {f : FuncId} {w w' : World} {p : Option Addr} {l : List T} {g : T -> Bool} (h : EachA c N f w p l g) (E : ∀ a u, w.cell? a = some u -> w'.cell? a = some u) : EachA c N f w' p l g := fun i y hy => by
  obtain ⟨⟨b, o, h1, h2⟩, h3⟩ := h i y hy
  exact ⟨⟨b, o, h1, fun j u hj => E _ _ (h2 j u hj)⟩, fun W E' => h3 W fun a u hu => E' a u (E a u hu)⟩
theorem all_takeA {T : Type} {g : T -> Bool} {l : List T} {i : Nat} {y : T} (h : l[i]? = some y) : (l.take (i + 1)).all g = ((l.take i).all g && g y) := by
  rw [List.take_add_one, h, List.all_append]; simp
def LI (w : World) (d : Nat) (p : Option Addr) (l : List Itm) : Prop := ∀ i y, l[i]? = some y -> (∃ b o, p = some ⟨b, o, none⟩ /\ Lies w b (o + i * 23) y.c) /\ LT w d y.x /\ y.nm.size <= 9223372036854775806
theorem LI.mono {w W : World} {d : Nat} {p : Option Addr} {l : List Itm} (h : LI w d p l) (E : ∀ a u, w.cell? a = some u -> W.cell? a = some u) : LI W d p l := fun i y hy => by
  obtain ⟨⟨b, o, h1, h2⟩, h3, h4⟩ := h i y hy
  exact ⟨⟨b, o, h1, fun j u hj => E _ _ (h2 j u hj)⟩, h3.mono E, h4⟩
def LS0 (w : World) (d : Nat) (y : Sec) : Prop := LI w d y.ip y.its /\ y.its.length <= 9223372036854775806 /\ y.nm.size <= 9223372036854775806 /\ y.secs.length <= 9223372036854775806
def LS (w : World) (d : Nat) : Nat -> Sec -> Prop
  | 0, y => LS0 w d y /\ y.secs = []
  | e + 1, y => LS0 w d y /\ ∀ i z, y.secs[i]? = some z -> (∃ b o, y.sp = some ⟨b, o, none⟩ /\ Lies w b (o + i * 4) z.c) /\ LS w d e z
theorem LS0.mono {w W : World} {d : Nat} {y : Sec} (h : LS0 w d y) (E : ∀ a u, w.cell? a = some u -> W.cell? a = some u) : LS0 W d y := ⟨h.1.mono E, h.2⟩
theorem LS.own {w : World} {d e : Nat} {y : Sec} (h : LS w d e y) : LS0 w d y := by cases e <;> exact h.1
theorem LS.mono {w W : World} (E : ∀ a u, w.cell? a = some u -> W.cell? a = some u) {d : Nat} : ∀ {e : Nat} {y : Sec}, LS w d e y -> LS W d e y
  | 0, _, h => ⟨h.1.mono E, h.2⟩
  | e + 1, _, h => ⟨h.1.mono E, fun i z hz => by
    obtain ⟨⟨b, o, h1, h2⟩, h3⟩ := h.2 i z hz
    exact ⟨⟨b, o, h1, fun j u hj => E _ _ (h2 j u hj)⟩, h3.mono E⟩⟩
def scO (g : Sec -> Bool) (y : Sec) : Bool := fre y.nm && (isI y.mx && g y)
def ptO (d : Nat) : Nat -> Sec -> Bool
  | 0, y => y.its.all (itO d) && y.secs.all fun _ => true
  | e + 1, y => y.its.all (itO d) && y.secs.all (scO (ptO d e))
theorem LI.each {w : World} {d : Nat} {p : Option Addr} {l : List Itm} (h : LI w d p l) : EachA Itm.c 23 138 w p l (itO d) := fun i y hy => by
  obtain ⟨h1, h2, h3⟩ := h i y hy
  exact ⟨h1, fun W E => p_item d y W h3 (h2.mono E)⟩
theorem all_no {T : Type} {g : T -> Bool} {l : List T} {i : Nat} {y : T} (h : l[i]? = some y) (hg : g y = false) : l.all g = false := Bool.eq_false_iff.2 fun ha => by
  have := List.all_eq_true.1 ha y (List.mem_of_getElem? h)
  rw [hg] at this; cases this
set_option maxHeartbeats 1000000 in
set_option maxRecDepth 20000 in
theorem q_parts1 (d : Nat) (y : Sec) (g : Sec -> Bool) (w : World) (hL : LS0 w d y) (hE : ∀ i z, y.secs[i]? = some z -> (∃ b o, y.sp = some ⟨b, o, none⟩ /\ Lies w b (o + i * 4) z.c) /\ z.nm.size <= 9223372036854775806 /\ ∀ W, (∀ a u, w.cell? a = some u -> W.cell? a = some u) -> Calls Tryz.prog 81 #[z.w] W fun e W' => e = .returned (.bool (g z)) /\ Mb W W') : Calls Tryz.prog 81 #[y.w] w fun e W => e = .returned (.bool (y.its.all (itO d) && y.secs.all (scO g))) /\ Mb w W := by
  obtain ⟨hI, hl1, hnm, hl2⟩ := id hL
  refine fn_pure [y.y] Tryz.func81 rfl rfl rfl (run_ok (st mo ?_))
  repeat refine st mo ?_
  refine w_loop (fun i : Nat => ⟨⟨51, [(1, P0), (3, .int .i64 (i : Int))]⟩, [(0, some (y.c.map rel1))], 1, w⟩) (fun i => i <= y.its.length /\ (y.its.take i).all (itO d) = true) (fun i => y.its.length - i) 0 ⟨Nat.zero_le _, rfl⟩ [0] ⟨rfl, ⟨fp, fv, trivial⟩, ⟨flr rfl, trivial⟩, xf, rfl, rfl⟩ ?_
  intro i hi
  repeat refine st mo ?_
  refine ⟨fun hlt => ?_, fun hge => ?_⟩
  · have hil : i < y.its.length := by omega
    obtain ⟨z, hz⟩ : ∃ z, y.its[i]? = some z := ⟨_, List.getElem?_eq_getElem hil⟩
    obtain ⟨⟨b, o, h4, h5⟩, h6, h7⟩ := hI i z hz
    have hst := all_takeA (g := itO d) hz
    repeat refine st mo ?_
    refine ⟨b, o, i, h4, rfl, hil, ?_⟩
    repeat refine st mo ?_
    refine ⟨z.c, rfl, h5, ?_⟩
    repeat refine st mo ?_
    cases hg : itO d z with
    | false =>
      refine ⟨_, fun _ => r_call (t := litF) rfl rfl Tryz.func151 (fun W M E => hg ▸ q_item d z W h7 (h6.mono E)), st mo ?_⟩
      repeat refine st mo ?_
      show _ = _
      rw [all_no hz hg]; rfl
    | true =>
      refine ⟨_, fun _ => r_call (t := litT) rfl rfl Tryz.func151 (fun W M E => hg ▸ q_item d z W h7 (h6.mono E)), st mo ?_⟩
      repeat refine st mo ?_
      refine ⟨_, wz (i + 1) rfl, st mo ?_⟩
      exact ⟨i + 1, ⟨hil, by rw [hst, hi.2, hg]; rfl⟩, by show y.its.length - (i + 1) < y.its.length - i; omega, [0], rfl, ⟨fp, fv, trivial⟩, ⟨flr rfl, trivial⟩, xf, rfl, rfl⟩
  · have hi' : i = y.its.length := by omega
    have hall : y.its.all (itO d) = true := by have := hi.2; rw [hi', List.take_length] at this; exact this
    rw [hall]
    repeat refine st mo ?_
    refine w_loop (fun j : Nat => ⟨⟨51, [(1, P0), (4, .int .i64 (j : Int))]⟩, [(0, some (y.c.map rel1))], 1, w⟩) (fun j => j <= y.secs.length /\ (y.secs.take j).all (scO g) = true) (fun j => y.secs.length - j) 0 ⟨Nat.zero_le _, rfl⟩ [0] ⟨rfl, ⟨fp, fv, trivial⟩, ⟨flr rfl, trivial⟩, xf, rfl, rfl⟩ ?_
    intro j hj
    repeat refine st mo ?_
    refine ⟨fun hlt => ?_, fun hge => ?_⟩
    · have hjl : j < y.secs.length := by omega
      obtain ⟨z, hz⟩ : ∃ z, y.secs[j]? = some z := ⟨_, List.getElem?_eq_getElem hjl⟩
      obtain ⟨⟨b, o, h4, h5⟩, h6, h7⟩ := hE j z hz
      have hst := all_takeA (g := scO g) hz
      have hno : scO g z = false -> (true && y.secs.all (scO g)) = false := fun h => by rw [all_no hz h]; rfl
      repeat refine st mo ?_
      refine ⟨b, o, j, h4, rfl, hjl, ?_⟩
      repeat refine st mo ?_
      refine ⟨z.c, rfl, h5, ?_⟩
      repeat refine st mo ?_
      cases hf : fre z.nm with
      | false =>
        refine ⟨_, fun _ => r_call (t := litF) rfl rfl Tryz.func80 (fun W M E => q_fre hf h6 W), st mo ?_⟩
        repeat refine st mo ?_
        show _ = _
        rw [hno (by unfold scO; rw [hf]; rfl)]
      | true =>
        refine ⟨_, fun _ => r_call (t := litT) rfl rfl Tryz.func80 (fun W M E => q_fre hf h6 W), st mo ?_⟩
        repeat refine st mo ?_
        refine ⟨fun h0 => ?_, fun h0 => ?_⟩
        · repeat refine st mo ?_
          show _ = _
          rw [hno (by unfold scO isI; rw [decide_eq_false (p := 0 <= z.mx) (by omega)]; simp)]
        repeat refine st mo ?_
        refine ⟨fun h1 => ?_, fun h1 => ?_⟩
        · repeat refine st mo ?_
          show _ = _
          rw [hno (by unfold scO isI; rw [decide_eq_false (p := z.mx <= 1073741824) (by omega)]; simp)]
        repeat refine st mo ?_
        have e : scO g z = g z := by unfold scO isI; rw [hf, decide_eq_true h0, decide_eq_true h1]; rfl
        cases hg : g z with
        | false =>
          refine ⟨_, fun _ => r_call (t := litF) rfl rfl Tryz.func81 (fun W M E => hg ▸ h7 W E), st mo ?_⟩
          repeat refine st mo ?_
          show _ = _
          rw [hno (e.trans hg)]
        | true =>
          refine ⟨_, fun _ => r_call (t := litT) rfl rfl Tryz.func81 (fun W M E => hg ▸ h7 W E), st mo ?_⟩
          repeat refine st mo ?_
          refine ⟨_, wz (j + 1) rfl, st mo ?_⟩
          exact ⟨j + 1, ⟨hjl, by rw [hst, hj.2, e, hg]; rfl⟩, by show y.secs.length - (j + 1) < y.secs.length - j; omega, [0], rfl, ⟨fp, fv, trivial⟩, ⟨flr rfl, trivial⟩, xf, rfl, rfl⟩
    · repeat refine st mo ?_
      have hj' : j = y.secs.length := by omega
      have hall2 : y.secs.all (scO g) = true := by have := hj.2; rw [hj', List.take_length] at this; exact this
      show _ = _
      rw [hall2]; rfl
theorem q_parts (d : Nat) : ∀ (e : Nat) (y : Sec) (w : World), LS w d e y -> Calls Tryz.prog 81 #[y.w] w fun r W => r = .returned (.bool (ptO d e y)) /\ Mb w W := by
  intro e
  induction e with
  | zero =>
    intro y w hL
    have := q_parts1 d y (fun _ => true) w hL.1 fun i z hz => by rw [hL.2] at hz; cases hz
    rw [show (y.its.all (itO d) && y.secs.all (scO fun _ => true)) = ptO d 0 y by rw [hL.2]; simp [ptO, hL.2]] at this
    exact this
  | succ e ih =>
    intro y w hL
    exact q_parts1 d y (ptO d e) w hL.1 fun i z hz => by
      obtain ⟨h1, h2⟩ := hL.2 i z hz
      exact ⟨h1, h2.own.2.2.1, fun W E => ih z W (h2.mono E)⟩
abbrev SecW : ByteArray := ⟨#[115, 101, 99, 116, 105, 111, 110]⟩
abbrev MaxW : ByteArray := ⟨#[109, 97, 120]⟩
abbrev Lbr : ByteArray := ⟨#[123]⟩
abbrev Rbr : ByteArray := ⟨#[125]⟩
abbrev scH (y : Sec) : List ByteArray := [SecW, y.nm, MaxW, ntx y.mx, Lbr]
def scw (f : Sec -> List ByteArray) (y : Sec) : List ByteArray := scH y ++ (f y ++ [Rbr])
def pw1 (d : Nat) (f : Sec -> List ByteArray) (y : Sec) : List ByteArray := y.its.flatMap (itw d) ++ y.secs.flatMap (scw f)
def ptw (d : Nat) : Nat -> Sec -> List ByteArray
  | 0, y => pw1 d (fun _ => []) y
  | e + 1, y => pw1 d (ptw d e) y
theorem flat_step {T : Type} {f : T -> List ByteArray} {l : List T} {i : Nat} {y : T} (h : l[i]? = some y) : (l.take (i + 1)).flatMap f = (l.take i).flatMap f ++ f y := by
  rw [List.take_add_one, h, List.flatMap_append]; simp
theorem flat_ok {T : Type} {f : T -> List ByteArray} {l : List T} (h : ∀ y ∈ l, ∀ w ∈ f y, wok w) : ∀ w ∈ l.flatMap f, wok w := fun w hw => by
  obtain ⟨y, hy, hw⟩ := List.mem_flatMap.1 hw
  exact h y hy w hw
theorem flat_okT {T : Type} {f : T -> List ByteArray} {l : List T} (i : Nat) (h : ∀ y ∈ l, ∀ w ∈ f y, wok w) : ∀ w ∈ (l.take i).flatMap f, wok w := flat_ok fun y hy => h y (List.mem_of_mem_take hy)
theorem scH_ok {y : Sec} (h : fre y.nm = true) : ∀ w ∈ scH y, wok w := cons_ok ⟨by decide, by decide⟩ (cons_ok (fre_ok h) (cons_ok ⟨by decide, by decide⟩ (cons_ok (ntx_ok _) (one_ok sym_ok))))
theorem scw_ok {f : Sec -> List ByteArray} {y : Sec} (h : fre y.nm = true) (hf : ∀ w ∈ f y, wok w) : ∀ w ∈ scw f y, wok w := app_ok (scH_ok h) (app_ok hf (one_ok sym_ok))
theorem its_ok {w : World} {d : Nat} {p : Option Addr} {l : List Itm} (h : LI w d p l) (hi : l.all (itO d) = true) : ∀ y ∈ l, ∀ w ∈ itw d y, wok w := fun y hy => by
  obtain ⟨j, hj⟩ := List.mem_iff_getElem?.1 hy
  exact itw_ok (List.all_eq_true.1 hi y hy) (h j y hj).2.1
theorem LI.xf {X X' : World} {d : Nat} {p : Option Addr} {l : List Itm} (h : LI X d p l) (hX : Xf X' X) : LI X' d p l := h.mono (xce hX)
theorem LS.xf {X X' : World} {d e : Nat} {y : Sec} (h : LS X d e y) (hX : Xf X' X) : LS X' d e y := h.mono (xce hX)
theorem ptO_its {d e : Nat} {y : Sec} (h : ptO d e y = true) : y.its.all (itO d) = true := by
  cases e <;> (unfold ptO at h; rw [Bool.and_eq_true] at h; exact h.1)
theorem ptO_sec {d e : Nat} {y z : Sec} {i : Nat} (h : ptO d (e + 1) y = true) (hz : y.secs[i]? = some z) : fre z.nm = true /\ isI z.mx = true /\ ptO d e z = true := by
  unfold ptO at h; rw [Bool.and_eq_true] at h
  have := List.all_eq_true.1 h.2 z (List.mem_of_getElem? hz)
  unfold scO at this; rw [Bool.and_eq_true, Bool.and_eq_true] at this
  exact this
theorem ptw_ok {d : Nat} {X : World} : ∀ {e : Nat} {y : Sec}, LS X d e y -> ptO d e y = true -> ∀ w ∈ ptw d e y, wok w
  | 0, y, hL, h => app_ok (flat_ok (its_ok hL.1.1 (ptO_its h))) (by rw [hL.2]; exact nil_ok)
  | e + 1, y, hL, h => app_ok (flat_ok (its_ok hL.1.1 (ptO_its h))) (flat_ok fun z hz => by
      obtain ⟨j, hj⟩ := List.mem_iff_getElem?.1 hz
      obtain ⟨h1, h2, h3⟩ := ptO_sec h hj
      exact scw_ok h1 (ptw_ok (hL.2 j z hj).2 h3))
def EachSQ (X : World) (p : Option Addr) (l : List Sec) (f : Sec -> List ByteArray) : Prop := ∀ i z, l[i]? = some z -> (∃ b o, p = some ⟨b, o, none⟩ /\ Lies X b (o + i * 4) z.c) /\ (fre z.nm = true /\ isI z.mx = true /\ ∀ w ∈ f z, wok w) ∧
  ∀ (X' : World) (t : ByteArray), Xf X' X -> t.size <= 40000 -> CQ X' 85 [P0, z.y] t (f z)
theorem EachSQ.xf {X X' : World} {p : Option Addr} {l : List Sec} {f : Sec -> List ByteArray} (h : EachSQ X p l f) (hX : Xf X' X) : EachSQ X' p l f := fun i y hy => by
  obtain ⟨⟨b, o, h1, h2⟩, h3, h4⟩ := h i y hy
  exact ⟨⟨b, o, h1, fun j u hj => xce hX _ _ (h2 j u hj)⟩, h3, fun X2 s hX2 => h4 X2 s (hX2.tr hX)⟩
theorem EachSQ.ok {X : World} {p : Option Addr} {l : List Sec} {f : Sec -> List ByteArray} (h : EachSQ X p l f) : ∀ y ∈ l, ∀ w ∈ scw f y, wok w := fun y hy => by
  obtain ⟨j, hj⟩ := List.mem_iff_getElem?.1 hy
  obtain ⟨h1, h2, h3⟩ := (h j y hj).2.1
  exact scw_ok h1 h3
set_option maxHeartbeats 2000000 in
set_option maxRecDepth 20000 in
theorem d_parts1 (d : Nat) (t : ByteArray) (y : Sec) (f : Sec -> List ByteArray) (hi : y.its.all (itO d) = true) (ht : t.size <= 40000) (X : World) (hL : LS0 X d y) (hE : EachSQ X y.sp y.secs f) : CQ X 85 [P0, y.y] t (pw1 d f y) := by
  rcases Nat.lt_or_ge 16384 t.size with hl | hl
  · unfold CQ
    rw [qps_long hl]
    refine fn_c _ Tryz.func85 rfl rfl rfl rfl (fun w l tw X' hX => run_ok (st mo ?_))
    have hq := q0_l hl
    repeat refine st mo ?_
    refine ⟨_, by rw [hq]; rfl, st mo ?_⟩
    repeat refine st mo ?_
    exact ⟨rfl, [0], ft0, ⟨trivial, fl rfl (q0_pur _), trivial⟩, rfl, rfl⟩
  have hokI := its_ok hL.1 hi
  have hokS := hE.ok
  obtain ⟨hLI, hl1, _, hl2⟩ := id hL
  unfold CQ pw1
  rw [qps_app]
  refine fn_c _ Tryz.func85 rfl rfl rfl rfl (fun w ll tw X' hX => run_ok (st mo ?_))
  have hq := q0_s hl
  repeat refine st mo ?_
  refine ⟨_, by rw [hq]; rfl, st mo ?_⟩
  repeat refine st mo ?_
  refine w_loop (fun i : Nat => ⟨⟨57, [(0, P0), (3, .pointer (some ⟨1, 0, none⟩)), (4, .int .i64 (i : Int))]⟩, [(0 + 4096, none), (0, some (q0 (qps t ((y.its.take i).flatMap (itw d))))), (1, some (y.c.map rel1))], 2, X'⟩) (fun i => i <= y.its.length) (fun i => y.its.length - i) 0 (Nat.zero_le _) [0, 1] ⟨rfl, ⟨fp, fp, fv, trivial⟩, ⟨trivial, fl rfl (q0_pur _), flr rfl, trivial⟩, xf, rfl, rfl⟩ ?_
  intro i hi1
  have hso := qps_size ht (flat_okT i hokI)
  repeat refine st mo ?_
  refine ⟨fun hlt => ?_, fun hge => ?_⟩
  · have hil : i < y.its.length := by omega
    obtain ⟨z, hz⟩ : ∃ z, y.its[i]? = some z := ⟨_, List.getElem?_eq_getElem hil⟩
    obtain ⟨⟨b, o, h4, h5⟩, h6, h7⟩ := (hLI.xf hX) i z hz
    have hst := flat_step (f := itw d) hz
    have hiz := List.all_eq_true.1 hi z (List.mem_of_getElem? hz)
    have hst2 : qps t ((y.its.take (i + 1)).flatMap (itw d)) = qps (qps t ((y.its.take i).flatMap (itw d))) (itw d z) := by rw [hst, qps_app]
    generalize hu : qps t ((y.its.take i).flatMap (itw d)) = u at *
    repeat refine st mo ?_
    refine ⟨b, o, i, h4, rfl, hil, ?_⟩
    repeat refine st mo ?_
    refine ⟨z.c, rfl, h5, ?_⟩
    repeat refine st mo ?_
    refine ⟨_, fun nn => r_q u (qps u (itw d z)) rfl (d_item d u z hiz hso X' h6) (by exact fitL_cons fp (fitL_cons fv (by rfl))) (fn := Tryz.f153), st mo ?_⟩
    repeat refine st mo ?_
    refine ⟨_, wz (i + 1) rfl, st mo ?_⟩
    exact ⟨i + 1, hil, by show y.its.length - (i + 1) < y.its.length - i; omega, [0, 1], rfl, ⟨fp, fp, fv, trivial⟩, ⟨trivial, fl (by rw [hst2]; try rfl) (q0_pur _), flr rfl, trivial⟩, xf, rfl, rfl⟩
  · have : i = y.its.length := by omega
    subst this
    rw [List.take_length] at hso ⊢
    generalize qps t (y.its.flatMap (itw d)) = t1 at *
    repeat refine st mo ?_
    refine w_loop (fun j : Nat => ⟨⟨57, [(0, P0), (3, .pointer (some ⟨1, 0, none⟩)), (5, .int .i64 (j : Int))]⟩, [(0 + 4096, none), (0, some (q0 (qps t1 ((y.secs.take j).flatMap (scw f))))), (1, some (y.c.map rel1))], 2, X'⟩) (fun j => j <= y.secs.length) (fun j => y.secs.length - j) 0 (Nat.zero_le _) [0, 1] ⟨rfl, ⟨fp, fp, fv, trivial⟩, ⟨trivial, fl rfl (q0_pur _), flr rfl, trivial⟩, xf, rfl, rfl⟩ ?_
    intro j hj1
    have hso2 := qps_size hso (flat_okT j hokS)
    repeat refine st mo ?_
    refine ⟨fun hlt => ?_, fun hge => ?_⟩
    · have hjl : j < y.secs.length := by omega
      obtain ⟨z, hz⟩ : ∃ z, y.secs[j]? = some z := ⟨_, List.getElem?_eq_getElem hjl⟩
      obtain ⟨⟨b, o, h4, h5⟩, ⟨h6, h7, h8⟩, h9⟩ := (hE.xf hX) j z hz
      have hmx := isI_iff.1 h7
      have hst := flat_step (f := scw f) hz
      have hst2 : qps t1 ((y.secs.take (j + 1)).flatMap (scw f)) = qps (qps (qps (qps t1 ((y.secs.take j).flatMap (scw f))) (scH z)) (f z)) [Rbr] := by rw [hst, qps_app]; unfold scw; rw [qps_app, qps_app]
      generalize hu : qps t1 ((y.secs.take j).flatMap (scw f)) = u at *
      have hok1 := scH_ok h6
      have hu1 := qps_size hso2 hok1
      repeat refine st mo ?_
      refine ⟨b, o, j, h4, rfl, hjl, ?_⟩
      repeat refine st mo ?_
      refine ⟨_, h5 0 (.string z.nm) rfl, st mo ?_⟩
      repeat refine st mo ?_
      refine ⟨b, o, j, h4, rfl, hjl, ?_⟩
      repeat refine st mo ?_
      refine ⟨_, h5 1 (.int .i64 z.mx) rfl, st mo ?_⟩
      repeat refine st mo ?_
      refine ⟨_, fun _ => r_call (t := .string (ntx z.mx)) rfl rfl Tryz.func154 (fun W M E => q_nat z.mx hmx.1 hmx.2 W), st mo ?_⟩
      repeat refine st mo ?_
      refine ⟨_, fun nn => r_qp u (scH z) 2 hso2 hok1, st mo ?_⟩
      repeat refine st mo ?_
      refine ⟨dk, st mo ?_⟩
      generalize qps u (scH z) = u1 at *
      repeat refine st mo ?_
      refine ⟨b, o, j, h4, rfl, hjl, ?_⟩
      repeat refine st mo ?_
      refine ⟨z.c, rfl, h5, ?_⟩
      repeat refine st mo ?_
      refine ⟨_, fun nn => r_q u1 (qps u1 (f z)) rfl (h9 X' u1 xf hu1) (by exact fitL_cons fp (fitL_cons fv (by rfl))) (fn := Tryz.f85), st mo ?_⟩
      have hu2 := qps_size hu1 h8
      generalize qps u1 (f z) = u2 at *
      repeat refine st mo ?_
      refine ⟨_, fun nn => r_qp u2 [Rbr] 3 hu2 (one_ok (sym_ok (a := 125))), st mo ?_⟩
      repeat refine st mo ?_
      refine ⟨_, wz (j + 1) rfl, st mo ?_⟩
      exact ⟨j + 1, hjl, by show y.secs.length - (j + 1) < y.secs.length - j; omega, [0, 1], rfl, ⟨fp, fp, fv, trivial⟩, ⟨trivial, fl (by rw [hst2]; try rfl) (q0_pur _), flr rfl, trivial⟩, xf, rfl, rfl⟩
    · repeat refine st mo ?_
      have : j = y.secs.length := by omega
      subst this
      rw [List.take_length]
      exact ⟨rfl, [0], ft0, ⟨trivial, fl rfl (q0_pur _), trivial⟩, rfl, rfl⟩
theorem d_parts (d : Nat) : ∀ (e : Nat) (t : ByteArray) (y : Sec) (X : World), LS X d e y -> ptO d e y = true -> t.size <= 40000 -> CQ X 85 [P0, y.y] t (ptw d e y) := by
  intro e
  induction e with
  | zero =>
    intro t y X hL h ht
    exact d_parts1 d t y (fun _ => []) (ptO_its h) ht X hL.1 fun i z hz => by rw [hL.2] at hz; cases hz
  | succ e ih =>
    intro t y X hL h ht
    exact d_parts1 d t y (ptw d e) (ptO_its h) ht X hL.1 fun i z hz => by
      obtain ⟨h1, h2⟩ := hL.2 i z hz
      obtain ⟨h3, h4, h5⟩ := ptO_sec h hz
      exact ⟨h1, ⟨h3, h4, ptw_ok h2 h5⟩, fun X' t hX ht => ih t z X' (h2.xf hX) h5 ht⟩
def dO (b : Bool) (n s : Int) : Bool := decide (ck b n s = 0)
def stO (y : Rat') : Bool := dO y.b0 y.n0 y.s0 && (dO y.b1 y.n1 y.s1 && dO y.b2 y.n2 y.s2)
def tbO (y : Tab) : Bool := fre y.nm && (decide (0 < y.a.length) && y.a.all stO)
def Rat'.ok (y : Rat') : Prop := (0 <= y.n0 /\ y.n0 < MM) /\ (0 <= y.n1 /\ y.n1 < MM) /\ (0 <= y.n2 /\ y.n2 < MM)
def LTb (w : World) (y : Tab) : Prop := y.nm.size <= 9223372036854775806 /\ y.a.length <= 9223372036854775806 /\ ∀ i z, y.a[i]? = some z -> (∃ b o, y.p = some ⟨b, o, none⟩ /\ Lies w b (o + i * 18) z.c) /\ z.ok
theorem LTb.mono {w W : World} {y : Tab} (h : LTb w y) (E : ∀ a u, w.cell? a = some u -> W.cell? a = some u) : LTb W y := ⟨h.1, h.2.1, fun i z hz => by
  obtain ⟨⟨b, o, h1, h2⟩, h3⟩ := h.2.2 i z hz
  exact ⟨⟨b, o, h1, fun j u hj => E _ _ (h2 j u hj)⟩, h3⟩⟩
theorem dO_t {b : Bool} {n s : Int} (h : ck b n s = 0) : dO b n s = true := decide_eq_true h
theorem dO_f {b : Bool} {n s : Int} (h : ck b n s ≠ 0) : dO b n s = false := decide_eq_false h
set_option maxHeartbeats 1000000 in
set_option maxRecDepth 20000 in
theorem q_table (y : Tab) (w : World) (hL : LTb w y) : Calls Tryz.prog 82 #[y.w] w fun e W => e = .returned (.bool (tbO y)) /\ Mb w W := by
  obtain ⟨hnm, hl, hLa⟩ := id hL
  refine fn_pure [y.y] Tryz.func82 rfl rfl rfl (run_ok (st mo ?_))
  repeat refine st mo ?_
  cases hf : fre y.nm with
  | false =>
    refine ⟨_, fun _ => r_call (t := litF) rfl rfl Tryz.func80 (fun W M E => q_fre hf hL.1 W), st mo ?_⟩
    repeat refine st mo ?_
    show _ = _; unfold tbO; rw [hf]; rfl
  | true =>
    refine ⟨_, fun _ => r_call (t := litT) rfl rfl Tryz.func80 (fun W M E => q_fre hf hL.1 W), st mo ?_⟩
    repeat refine st mo ?_
    refine ⟨fun h0 => ?_, fun h0 => ?_⟩
    · repeat refine st mo ?_
      show _ = _; unfold tbO; rw [hf, decide_eq_false (p := 0 < y.a.length) (by omega)]; rfl
    have e : tbO y = y.a.all stO := by unfold tbO; rw [hf, decide_eq_true (p := 0 < y.a.length) (by omega)]; rfl
    rw [e]
    repeat refine st mo ?_
    refine w_loop (fun i : Nat => ⟨⟨43, [(1, P0), (3, .int .i64 (i : Int))]⟩, [(0, some (y.c.map rel1))], 1, w⟩) (fun i => i <= y.a.length /\ (y.a.take i).all stO = true) (fun i => y.a.length - i) 0 ⟨Nat.zero_le _, rfl⟩ [0] ⟨rfl, ⟨fp, fv, trivial⟩, ⟨flr rfl, trivial⟩, xf, rfl, rfl⟩ ?_
    intro i hi
    repeat refine st mo ?_
    refine ⟨fun hlt => ?_, fun hge => ?_⟩
    · have hil : i < y.a.length := by omega
      obtain ⟨z, hz⟩ : ∃ z, y.a[i]? = some z := ⟨_, List.getElem?_eq_getElem hil⟩
      obtain ⟨⟨b, o, h4, h5⟩, h6⟩ := hLa i z hz
      have hst := all_takeA (g := stO) hz
      repeat refine st mo ?_
      refine ⟨b, o, i, h4, rfl, hil, ?_⟩
      repeat refine st mo ?_
      refine ⟨z.c, rfl, h5, ?_⟩
      repeat refine st mo ?_
      refine ⟨_, fun _ => r_call (t := .int .i64 (ck z.b0 z.n0 z.s0)) rfl rfl Tryz.func152 (fun W M E => q_chk z.b0 z.n0 z.s0 h6.1 W), st mo ?_⟩
      repeat refine st mo ?_
      refine ⟨fun c0 => ?_, fun c0 => ?_⟩
      · repeat refine st mo ?_
        show _ = _
        rw [all_no hz (by unfold stO; rw [dO_f c0]; rfl)]
      repeat refine st mo ?_
      refine ⟨_, fun _ => r_call (t := .int .i64 (ck z.b1 z.n1 z.s1)) rfl rfl Tryz.func152 (fun W M E => q_chk z.b1 z.n1 z.s1 h6.2.1 W), st mo ?_⟩
      repeat refine st mo ?_
      refine ⟨fun c1 => ?_, fun c1 => ?_⟩
      · repeat refine st mo ?_
        show _ = _
        rw [all_no hz (by unfold stO; rw [dO_f c1]; simp)]
      repeat refine st mo ?_
      refine ⟨_, fun _ => r_call (t := .int .i64 (ck z.b2 z.n2 z.s2)) rfl rfl Tryz.func152 (fun W M E => q_chk z.b2 z.n2 z.s2 h6.2.2 W), st mo ?_⟩
      repeat refine st mo ?_
      refine ⟨fun c2 => ?_, fun c2 => ?_⟩
      · repeat refine st mo ?_
        show _ = _
        rw [all_no hz (by unfold stO; rw [dO_f c2]; simp)]
      repeat refine st mo ?_
      refine ⟨_, wz (i + 1) rfl, st mo ?_⟩
      exact ⟨i + 1, ⟨hil, by rw [hst, hi.2]; unfold stO; rw [dO_t c0, dO_t c1, dO_t c2]; rfl⟩, by show y.a.length - (i + 1) < y.a.length - i; omega, [0], rfl, ⟨fp, fv, trivial⟩, ⟨flr rfl, trivial⟩, xf, rfl, rfl⟩
    · repeat refine st mo ?_
      have hi' : i = y.a.length := by omega
      have hall : y.a.all stO = true := by have := hi.2; rw [hi', List.take_length] at this; exact this
      show _ = _
      rw [hall]
def pgO (d : Nat) (y : Pag) : Bool := fre y.nm && ((nth y.x || vE d y.x) && y.a.all fre)
def LPg (w : World) (d : Nat) (y : Pag) : Prop := y.nm.size <= 9223372036854775806 /\ LT w d y.x /\ y.a.length <= 9223372036854775806 /\ ∀ i z, y.a[i]? = some z -> (∃ b o, y.p = some ⟨b, o, none⟩ /\ w.cell? ⟨b, o + i * 1, none⟩ = some (.string z)) /\ z.size <= 9223372036854775806
theorem LPg.mono {w W : World} {d : Nat} {y : Pag} (h : LPg w d y) (E : ∀ a u, w.cell? a = some u -> W.cell? a = some u) : LPg W d y := ⟨h.1, h.2.1.mono E, h.2.2.1, fun i z hz => by
  obtain ⟨⟨b, o, h1, h2⟩, h3⟩ := h.2.2.2 i z hz
  exact ⟨⟨b, o, h1, E _ _ h2⟩, h3⟩⟩
def dfO (d e : Nat) (y : Dfn) : Bool := fre y.nm && (decide (y.r.nm = E0) && (decide (y.r.mx = 0) && (ptO d e y.r && (y.tabs.all tbO && y.pags.all (pgO d)))))
def LD (w : World) (d e : Nat) (y : Dfn) : Prop := y.nm.size <= 9223372036854775806 /\ LS w d e y.r /\ y.tabs.length <= 9223372036854775806 /\ y.pags.length <= 9223372036854775806 ∧
  (∀ i z, y.tabs[i]? = some z -> (∃ b o, y.tp = some ⟨b, o, none⟩ /\ Lies w b (o + i * 2) z.c) /\ LTb w z) /\ ∀ i z, y.pags[i]? = some z -> (∃ b o, y.pp = some ⟨b, o, none⟩ /\ Lies w b (o + i * 19) z.c) /\ LPg w d z
set_option maxHeartbeats 4000000 in
set_option maxRecDepth 20000 in
theorem q_def (d e : Nat) (y : Dfn) (w : World) (hL : LD w d e y) : Calls Tryz.prog 33 #[y.w] w fun r W => r = .returned (.bool (dfO d e y)) /\ Mb w W := by
  obtain ⟨hnm, hr, hl1, hl2, ht, hp⟩ := id hL
  refine fn_pure [y.y] Tryz.func33 rfl rfl rfl (run_ok (st mo ?_))
  repeat refine st mo ?_
  cases hf : fre y.nm with
  | false =>
    refine ⟨_, fun _ => r_call (t := litF) rfl rfl Tryz.func80 (fun W M E => q_fre hf hnm W), st mo ?_⟩
    repeat refine st mo ?_
    show _ = _; unfold dfO; rw [hf]; rfl
  | true =>
    refine ⟨_, fun _ => r_call (t := litT) rfl rfl Tryz.func80 (fun W M E => q_fre hf hnm W), st mo ?_⟩
    repeat refine st mo ?_
    refine ⟨fun h1 => ?_, fun h1 => ?_⟩
    · repeat refine st mo ?_
      show _ = _; unfold dfO; rw [decide_eq_false (p := y.r.nm = E0) h1]; simp
    repeat refine st mo ?_
    refine ⟨fun h2 => ?_, fun h2 => ?_⟩
    · repeat refine st mo ?_
      show _ = _; unfold dfO; rw [decide_eq_false (p := y.r.mx = 0) h2]; simp
    have e1 : dfO d e y = (ptO d e y.r && (y.tabs.all tbO && y.pags.all (pgO d))) := by unfold dfO; rw [hf, decide_eq_true (p := y.r.nm = E0) h1, decide_eq_true (p := y.r.mx = 0) h2]; rfl
    rw [e1]
    repeat refine st mo ?_
    cases h3 : ptO d e y.r with
    | false =>
      refine ⟨_, fun _ => r_call (t := litF) rfl rfl Tryz.func81 (fun W M E => h3 ▸ q_parts d e y.r W (hr.mono E)), st mo ?_⟩
      repeat refine st mo ?_
      rfl
    | true =>
      refine ⟨_, fun _ => r_call (t := litT) rfl rfl Tryz.func81 (fun W M E => h3 ▸ q_parts d e y.r W (hr.mono E)), st mo ?_⟩
      repeat refine st mo ?_
      refine w_loop (fun i : Nat => ⟨⟨85, [(1, P0), (3, .int .i64 (i : Int))]⟩, [(0, some (y.c.map rel1))], 1, w⟩) (fun i => i <= y.tabs.length /\ (y.tabs.take i).all tbO = true) (fun i => y.tabs.length - i) 0 ⟨Nat.zero_le _, rfl⟩ [0] ⟨rfl, ⟨fp, fv, trivial⟩, ⟨flr rfl, trivial⟩, xf, rfl, rfl⟩ ?_
      intro i hi
      repeat refine st mo ?_
      refine ⟨fun hlt => ?_, fun hge => ?_⟩
      · have hil : i < y.tabs.length := by omega
        obtain ⟨z, hz⟩ : ∃ z, y.tabs[i]? = some z := ⟨_, List.getElem?_eq_getElem hil⟩
        obtain ⟨⟨b, o, h4, h5⟩, h6⟩ := ht i z hz
        have hst := all_takeA (g := tbO) hz
        repeat refine st mo ?_
        refine ⟨b, o, i, h4, rfl, hil, ?_⟩
        repeat refine st mo ?_
        refine ⟨z.c, rfl, h5, ?_⟩
        repeat refine st mo ?_
        cases hg : tbO z with
        | false =>
          refine ⟨_, fun _ => r_call (t := litF) rfl rfl Tryz.func82 (fun W M E => hg ▸ q_table z W (h6.mono E)), st mo ?_⟩
          repeat refine st mo ?_
          show _ = _
          rw [all_no hz hg]; rfl
        | true =>
          refine ⟨_, fun _ => r_call (t := litT) rfl rfl Tryz.func82 (fun W M E => hg ▸ q_table z W (h6.mono E)), st mo ?_⟩
          repeat refine st mo ?_
          refine ⟨_, wz (i + 1) rfl, st mo ?_⟩
          exact ⟨i + 1, ⟨hil, by rw [hst, hi.2, hg]; rfl⟩, by show y.tabs.length - (i + 1) < y.tabs.length - i; omega, [0], rfl, ⟨fp, fv, trivial⟩, ⟨flr rfl, trivial⟩, xf, rfl, rfl⟩
      · have hi' : i = y.tabs.length := by omega
        have hall : y.tabs.all tbO = true := by have := hi.2; rw [hi', List.take_length] at this; exact this
        rw [hall]
        repeat refine st mo ?_
        refine w_loop (fun j : Nat => ⟨⟨85, [(1, P0), (4, .int .i64 (j : Int))]⟩, [(0, some (y.c.map rel1))], 1, w⟩) (fun j => j <= y.pags.length /\ (y.pags.take j).all (pgO d) = true) (fun j => y.pags.length - j) 0 ⟨Nat.zero_le _, rfl⟩ [0] ⟨rfl, ⟨fp, fv, trivial⟩, ⟨flr rfl, trivial⟩, xf, rfl, rfl⟩ ?_
        intro j hj
        repeat refine st mo ?_
        refine ⟨fun hlt => ?_, fun hge => ?_⟩
        · have hjl : j < y.pags.length := by omega
          obtain ⟨z, hz⟩ : ∃ z, y.pags[j]? = some z := ⟨_, List.getElem?_eq_getElem hjl⟩
          obtain ⟨⟨b, o, h4, h5⟩, h6⟩ := hp j z hz
          obtain ⟨hzn, hzx, hzl, hza⟩ := h6
          have hst := all_takeA (g := pgO d) hz
          have hno : pgO d z = false -> (true && (true && y.pags.all (pgO d))) = false := fun h => by rw [all_no hz h]; rfl
          repeat refine st mo ?_
          refine ⟨b, o, j, h4, rfl, hjl, ?_⟩
          repeat refine st mo ?_
          refine ⟨z.c, rfl, h5, ?_⟩
          repeat refine st mo ?_
          cases hg : fre z.nm with
          | false =>
            refine ⟨_, fun _ => r_call (t := litF) rfl rfl Tryz.func80 (fun W M E => q_fre hg hzn W), st mo ?_⟩
            repeat refine st mo ?_
            show _ = _
            rw [hno (by unfold pgO; rw [hg]; rfl)]
          | true =>
            refine ⟨_, fun _ => r_call (t := litT) rfl rfl Tryz.func80 (fun W M E => q_fre hg hzn W), st mo ?_⟩
            repeat refine st mo ?_
            have hin : (nth z.x || vE d z.x) = true -> pgO d z = z.a.all fre := fun h => by unfold pgO; rw [hg, h]; rfl
            cases hn : nth z.x with
            | false =>
              refine ⟨_, fun _ => r_call (t := litF) rfl rfl Tryz.func83 (fun W M E => hn ▸ q_none z.x W), st mo ?_⟩
              repeat refine st mo ?_
              cases hv : vE d z.x with
              | false =>
                refine ⟨_, fun _ => r_call (t := litF) rfl rfl Tryz.func37 (fun W M E => hv ▸ q_exp d z.x W (hzx.mono E)), st mo ?_⟩
                repeat refine st mo ?_
                show _ = _
                rw [hno (by unfold pgO; rw [hg, hn, hv]; rfl)]
              | true =>
                have hpg := hin (by rw [hv]; simp)
                refine ⟨_, fun _ => r_call (t := litT) rfl rfl Tryz.func37 (fun W M E => hv ▸ q_exp d z.x W (hzx.mono E)), st mo ?_⟩
                repeat refine st mo ?_
                refine w_loop (fun k : Nat => ⟨⟨85, [(1, P0), (4, .int .i64 (j : Int)), (5, .pointer (some ⟨1, 0, none⟩)), (6, .int .i64 (k : Int))]⟩, [(0, some (y.c.map rel1)), (1, some (z.c.map rel1))], 2, w⟩) (fun k => k <= z.a.length /\ (z.a.take k).all fre = true) (fun k => z.a.length - k) 0 ⟨Nat.zero_le _, rfl⟩ [0, 1] ⟨rfl, ⟨fp, fv, fp, fv, trivial⟩, ⟨flr rfl, flr rfl, trivial⟩, xf, rfl, rfl⟩ ?_
                intro k hk
                repeat refine st mo ?_
                refine ⟨fun hlt2 => ?_, fun hge2 => ?_⟩
                · have hkl : k < z.a.length := by omega
                  obtain ⟨u, hu⟩ : ∃ u, z.a[k]? = some u := ⟨_, List.getElem?_eq_getElem hkl⟩
                  obtain ⟨⟨b2, o2, g4, g5⟩, g6⟩ := hza k u hu
                  have hst2 := all_takeA (g := fre) hu
                  repeat refine st mo ?_
                  refine ⟨b2, o2, k, g4, rfl, hkl, ?_⟩
                  repeat refine st mo ?_
                  refine ⟨_, g5, st mo ?_⟩
                  repeat refine st mo ?_
                  cases hfu : fre u with
                  | false =>
                    refine ⟨_, fun _ => r_call (t := litF) rfl rfl Tryz.func80 (fun W M E => q_fre hfu g6 W), st mo ?_⟩
                    repeat refine st mo ?_
                    show _ = _
                    rw [hno (by rw [hpg]; exact all_no hu hfu)]
                  | true =>
                    refine ⟨_, fun _ => r_call (t := litT) rfl rfl Tryz.func80 (fun W M E => q_fre hfu g6 W), st mo ?_⟩
                    repeat refine st mo ?_
                    refine ⟨_, wz (k + 1) rfl, st mo ?_⟩
                    exact ⟨k + 1, ⟨hkl, by rw [hst2, hk.2, hfu]; rfl⟩, by show z.a.length - (k + 1) < z.a.length - k; omega, [0, 1], rfl, ⟨fp, fv, fp, fv, trivial⟩, ⟨flr rfl, flr rfl, trivial⟩, xf, rfl, rfl⟩
                · have hk' : k = z.a.length := by omega
                  have hallz : z.a.all fre = true := by have := hk.2; rw [hk', List.take_length] at this; exact this
                  repeat refine st mo ?_
                  refine ⟨_, wz (j + 1) rfl, st mo ?_⟩
                  exact ⟨j + 1, ⟨hjl, by rw [hst, hj.2, hpg, hallz]; rfl⟩, by show y.pags.length - (j + 1) < y.pags.length - j; omega, [0], rfl, ⟨fp, fv, trivial⟩, ⟨flr rfl, trivial⟩, xf, rfl, rfl⟩
            | true =>
              have hpg := hin (by rw [hn]; rfl)
              refine ⟨_, fun _ => r_call (t := litT) rfl rfl Tryz.func83 (fun W M E => hn ▸ q_none z.x W), st mo ?_⟩
              repeat refine st mo ?_
              refine w_loop (fun k : Nat => ⟨⟨85, [(1, P0), (4, .int .i64 (j : Int)), (5, .pointer (some ⟨1, 0, none⟩)), (6, .int .i64 (k : Int))]⟩, [(0, some (y.c.map rel1)), (1, some (z.c.map rel1))], 2, w⟩) (fun k => k <= z.a.length /\ (z.a.take k).all fre = true) (fun k => z.a.length - k) 0 ⟨Nat.zero_le _, rfl⟩ [0, 1] ⟨rfl, ⟨fp, fv, fp, fv, trivial⟩, ⟨flr rfl, flr rfl, trivial⟩, xf, rfl, rfl⟩ ?_
              intro k hk
              repeat refine st mo ?_
              refine ⟨fun hlt2 => ?_, fun hge2 => ?_⟩
              · have hkl : k < z.a.length := by omega
                obtain ⟨u, hu⟩ : ∃ u, z.a[k]? = some u := ⟨_, List.getElem?_eq_getElem hkl⟩
                obtain ⟨⟨b2, o2, g4, g5⟩, g6⟩ := hza k u hu
                have hst2 := all_takeA (g := fre) hu
                repeat refine st mo ?_
                refine ⟨b2, o2, k, g4, rfl, hkl, ?_⟩
                repeat refine st mo ?_
                refine ⟨_, g5, st mo ?_⟩
                repeat refine st mo ?_
                cases hfu : fre u with
                | false =>
                  refine ⟨_, fun _ => r_call (t := litF) rfl rfl Tryz.func80 (fun W M E => q_fre hfu g6 W), st mo ?_⟩
                  repeat refine st mo ?_
                  show _ = _
                  rw [hno (by rw [hpg]; exact all_no hu hfu)]
                | true =>
                  refine ⟨_, fun _ => r_call (t := litT) rfl rfl Tryz.func80 (fun W M E => q_fre hfu g6 W), st mo ?_⟩
                  repeat refine st mo ?_
                  refine ⟨_, wz (k + 1) rfl, st mo ?_⟩
                  exact ⟨k + 1, ⟨hkl, by rw [hst2, hk.2, hfu]; rfl⟩, by show z.a.length - (k + 1) < z.a.length - k; omega, [0, 1], rfl, ⟨fp, fv, fp, fv, trivial⟩, ⟨flr rfl, flr rfl, trivial⟩, xf, rfl, rfl⟩
              · have hk' : k = z.a.length := by omega
                have hallz : z.a.all fre = true := by have := hk.2; rw [hk', List.take_length] at this; exact this
                repeat refine st mo ?_
                refine ⟨_, wz (j + 1) rfl, st mo ?_⟩
                exact ⟨j + 1, ⟨hjl, by rw [hst, hj.2, hpg, hallz]; rfl⟩, by show y.pags.length - (j + 1) < y.pags.length - j; omega, [0], rfl, ⟨fp, fv, trivial⟩, ⟨flr rfl, trivial⟩, xf, rfl, rfl⟩
        · repeat refine st mo ?_
          have hj' : j = y.pags.length := by omega
          have hall2 : y.pags.all (pgO d) = true := by have := hj.2; rw [hj', List.take_length] at this; exact this
          show _ = _
          rw [hall2]; rfl
def dcw (b : Bool) (n s : Int) : List ByteArray := if b then [Mns] ++ [dtx false n s] else [dtx false n s]
theorem dcw_ok (b : Bool) (n s : Int) : ∀ w ∈ dcw b n s, wok w := by
  unfold dcw; split
  · exact app_ok (one_ok sym_ok) (one_ok (dtx_ok false n s))
  · exact one_ok (dtx_ok false n s)
abbrev FroW : ByteArray := ⟨#[102, 114, 111, 109]⟩
abbrev BasW : ByteArray := ⟨#[98, 97, 115, 101]⟩
abbrev RatW : ByteArray := ⟨#[114, 97, 116, 101]⟩
abbrev TabW : ByteArray := ⟨#[116, 97, 98, 108, 101]⟩
def stw (y : Rat') : List ByteArray := [FroW] ++ (dcw y.b0 y.n0 y.s0 ++ ([BasW] ++ (dcw y.b1 y.n1 y.s1 ++ ([RatW] ++ (dcw y.b2 y.n2 y.s2 ++ [SemW])))))
theorem four_ok {a b c d : UInt8} : wok ⟨#[a, b, c, d]⟩ := ⟨by show 1 <= 4; omega, by show 4 <= 16384; omega⟩
theorem stw_ok (y : Rat') : ∀ w ∈ stw y, wok w := app_ok (one_ok four_ok) (app_ok (dcw_ok _ _ _) (app_ok (one_ok four_ok) (app_ok (dcw_ok _ _ _) (app_ok (one_ok four_ok) (app_ok (dcw_ok _ _ _) (one_ok sym_ok))))))
abbrev tbH (y : Tab) : List ByteArray := [TabW, y.nm, Lbr]
def tbw (y : Tab) : List ByteArray := tbH y ++ (y.a.flatMap stw ++ [Rbr])
theorem tbH_ok {y : Tab} (h : tbO y = true) : ∀ w ∈ tbH y, wok w := by
  unfold tbO at h; simp at h
  exact cons_ok ⟨by decide, by decide⟩ (cons_ok (fre_ok h.1) (one_ok sym_ok))
theorem tbw_ok {y : Tab} (h : tbO y = true) : ∀ w ∈ tbw y, wok w := app_ok (tbH_ok h) (app_ok (flat_ok fun z _ => stw_ok z) (one_ok sym_ok))
abbrev PagW : ByteArray := ⟨#[112, 97, 103, 101]⟩
abbrev WheW : ByteArray := ⟨#[119, 104, 101, 110]⟩
def cmw : List ByteArray -> List ByteArray
  | [] => []
  | x :: l => [x] ++ l.flatMap fun y => [Com, y]
theorem cmw_step {l : List ByteArray} {i : Nat} {y : ByteArray} (h : l[i]? = some y) : cmw (l.take (i + 1)) = cmw (l.take i) ++ (if i = 0 then [y] else [Com] ++ [y]) := by
  match l, i, h with
  | x :: l, 0, h => cases h; rfl
  | x :: l, i + 1, h =>
    have h : l[i]? = some y := h
    rw [if_neg (by omega)]
    show [x] ++ (l.take (i + 1)).flatMap _ = [x] ++ (l.take i).flatMap _ ++ ([Com] ++ [y])
    rw [flat_step (f := fun y => [Com, y]) h]; simp
theorem cmw_ok : ∀ {l : List ByteArray}, (∀ y ∈ l, wok y) -> ∀ w ∈ cmw l, wok w
  | [], _ => nil_ok
  | x :: l, h => app_ok (one_ok (h x (by simp))) (flat_ok fun y hy => cons_ok sym_ok (one_ok (h y (by simp [hy]))))
def pgw (d : Nat) (y : Pag) : List ByteArray := [PagW, y.nm] ++ ((if y.x.k = 0 then [] else [WheW] ++ wB d y.x) ++ ([Lbr] ++ (cmw y.a ++ [Rbr])))
theorem pgw0 {d : Nat} {y : Pag} (h : y.x.k = 0) : pgw d y = [PagW, y.nm] ++ ([Lbr] ++ (cmw y.a ++ [Rbr])) := by unfold pgw; rw [if_pos h]; rfl
theorem pgw1 {d : Nat} {y : Pag} (h : y.x.k ≠ 0) : pgw d y = [PagW, y.nm] ++ ([WheW] ++ (wB d y.x ++ ([Lbr] ++ (cmw y.a ++ [Rbr])))) := by unfold pgw; rw [if_neg h]; simp
theorem pgO_nm {d : Nat} {y : Pag} (h : pgO d y = true) : fre y.nm = true := by unfold pgO at h; rw [Bool.and_eq_true] at h; exact h.1
theorem pgO_a {d : Nat} {y : Pag} (h : pgO d y = true) : ∀ z ∈ y.a, wok z := by
  unfold pgO at h; rw [Bool.and_eq_true, Bool.and_eq_true] at h
  exact fun z hz => fre_ok (List.all_eq_true.1 h.2.2 z hz)
theorem pgO_x {d : Nat} {y : Pag} (h : pgO d y = true) (hk : y.x.k ≠ 0) : vE d y.x = true := by
  unfold pgO at h; rw [Bool.and_eq_true, Bool.and_eq_true] at h
  have hn : nth y.x = false := by unfold nth snd; rw [show decide (y.x.k = x0.k) = false from decide_eq_false hk]; rfl
  have := h.2.1; rw [hn] at this; exact this
theorem pgw_ok {d : Nat} {X : World} {y : Pag} (h : pgO d y = true) (hL : LT X d y.x) : ∀ w ∈ pgw d y, wok w := by
  have h1 : ∀ w ∈ [PagW, y.nm], wok w := cons_ok four_ok (one_ok (fre_ok (pgO_nm h)))
  by_cases hk : y.x.k = 0
  · rw [pgw0 hk]; exact app_ok h1 (app_ok (one_ok sym_ok) (app_ok (cmw_ok (pgO_a h)) (one_ok sym_ok)))
  · rw [pgw1 hk]; exact app_ok h1 (app_ok (one_ok four_ok) (app_ok (wBd_ok hL (pgO_x h hk)) (app_ok (one_ok sym_ok) (app_ok (cmw_ok (pgO_a h)) (one_ok sym_ok)))))
abbrev RetW : ByteArray := ⟨#[114, 101, 116, 117, 114, 110]⟩
abbrev dfH (y : Dfn) : List ByteArray := [RetW, y.nm, Lbr]
def dfw (d e : Nat) (y : Dfn) : List ByteArray := dfH y ++ (ptw d e y.r ++ (y.tabs.flatMap tbw ++ (y.pags.flatMap (pgw d) ++ [Rbr])))
theorem dfO_all {d e : Nat} {y : Dfn} (h : dfO d e y = true) : fre y.nm = true /\ ptO d e y.r = true /\ y.tabs.all tbO = true /\ y.pags.all (pgO d) = true := by
  unfold dfO at h; simp only [Bool.and_eq_true] at h; exact ⟨h.1, h.2.2.2⟩
theorem dfH_ok {d e : Nat} {y : Dfn} (h : dfO d e y = true) : ∀ w ∈ dfH y, wok w := cons_ok ⟨by decide, by decide⟩ (cons_ok (fre_ok (dfO_all h).1) (one_ok sym_ok))
theorem tabs_ok {d e : Nat} {y : Dfn} (h : dfO d e y = true) : ∀ z ∈ y.tabs, ∀ w ∈ tbw z, wok w := fun z hz => tbw_ok (List.all_eq_true.1 (dfO_all h).2.2.1 z hz)
theorem pags_ok {d e : Nat} {X : World} {y : Dfn} (h : dfO d e y = true) (hL : LD X d e y) : ∀ z ∈ y.pags, ∀ w ∈ pgw d z, wok w := fun z hz => by
  obtain ⟨j, hj⟩ := List.mem_iff_getElem?.1 hz
  exact pgw_ok (List.all_eq_true.1 (dfO_all h).2.2.2 z hz) (hL.2.2.2.2.2 j z hj).2.2.1
def Rat'.d0 (z : Rat') : List Value := [.bool z.b0, .int .u64 (l0 z.n0), .int .u64 (l1 z.n0), .int .u64 (l2 z.n0), .int .u64 (l3 z.n0), .int .i64 z.s0]
def Rat'.d1 (z : Rat') : List Value := [.bool z.b1, .int .u64 (l0 z.n1), .int .u64 (l1 z.n1), .int .u64 (l2 z.n1), .int .u64 (l3 z.n1), .int .i64 z.s1]
def Rat'.d2 (z : Rat') : List Value := [.bool z.b2, .int .u64 (l0 z.n2), .int .u64 (l1 z.n2), .int .u64 (l2 z.n2), .int .u64 (l3 z.n2), .int .i64 z.s2]
theorem lies_sub {X : World} {b o k : Nat} {us vs : List Value} (h : Lies X b o us) (e : ∀ j u, vs[j]? = some u -> us[k + j]? = some u) : Lies X b (o + k) vs := fun j u hj => by
  have := h (k + j) u (e j u hj)
  rw [show o + k + j = o + (k + j) by omega]; exact this
theorem Rat'.lie0 {X : World} {b o : Nat} {z : Rat'} (h : Lies X b o z.c) : Lies X b (o + 0) z.d0 := lies_sub h fun j u hj => by
  match j, hj with
  | 0, hj => exact hj
  | 1, hj => exact hj
  | 2, hj => exact hj
  | 3, hj => exact hj
  | 4, hj => exact hj
  | 5, hj => exact hj
  | (j + 6), hj => simp [Rat'.d0] at hj
theorem Rat'.lie1 {X : World} {b o : Nat} {z : Rat'} (h : Lies X b o z.c) : Lies X b (o + 6) z.d1 := lies_sub h fun j u hj => by
  match j, hj with
  | 0, hj => exact hj
  | 1, hj => exact hj
  | 2, hj => exact hj
  | 3, hj => exact hj
  | 4, hj => exact hj
  | 5, hj => exact hj
  | (j + 6), hj => simp [Rat'.d1] at hj
theorem Rat'.lie2 {X : World} {b o : Nat} {z : Rat'} (h : Lies X b o z.c) : Lies X b (o + 12) z.d2 := lies_sub h fun j u hj => by
  match j, hj with
  | 0, hj => exact hj
  | 1, hj => exact hj
  | 2, hj => exact hj
  | 3, hj => exact hj
  | 4, hj => exact hj
  | 5, hj => exact hj
  | (j + 6), hj => simp [Rat'.d2] at hj
def stA (z : Rat') : Nat -> List ByteArray
  | 0 => []
  | 1 => [FroW] ++ dcw z.b0 z.n0 z.s0
  | 2 => [FroW] ++ dcw z.b0 z.n0 z.s0 ++ ([BasW] ++ dcw z.b1 z.n1 z.s1)
  | _ => [FroW] ++ dcw z.b0 z.n0 z.s0 ++ ([BasW] ++ dcw z.b1 z.n1 z.s1) ++ ([RatW] ++ dcw z.b2 z.n2 z.s2)
theorem stA_ok (z : Rat') : ∀ k, ∀ w ∈ stA z k, wok w
  | 0 => nil_ok
  | 1 => app_ok (one_ok four_ok) (dcw_ok _ _ _)
  | 2 => app_ok (app_ok (one_ok four_ok) (dcw_ok _ _ _)) (app_ok (one_ok four_ok) (dcw_ok _ _ _))
  | _ + 3 => app_ok (app_ok (app_ok (one_ok four_ok) (dcw_ok _ _ _)) (app_ok (one_ok four_ok) (dcw_ok _ _ _))) (app_ok (one_ok four_ok) (dcw_ok _ _ _))
theorem stw_A (z : Rat') : stw z = stA z 3 ++ [SemW] := by unfold stw; simp [stA]
set_option maxHeartbeats 4000000 in
set_option maxRecDepth 20000 in
theorem d_table (t : ByteArray) (y : Tab) (hy : tbO y = true) (ht : t.size <= 40000) (X : World) (hL : LTb X y) : CQ X 86 [P0, y.y] t (tbw y) := by
  have hok1 := tbH_ok hy
  have hokS : ∀ z ∈ y.a, ∀ w ∈ stw z, wok w := fun z _ => stw_ok z
  obtain ⟨_, hl, hLa⟩ := id hL
  unfold CQ tbw
  rw [qps_app, qps_app]
  refine fn_c _ Tryz.func86 rfl rfl rfl rfl (fun w ll tw X' hX => run_ok (st mo ?_))
  repeat refine st mo ?_
  refine ⟨_, fun nn => r_qp t (tbH y) 2 ht hok1, st mo ?_⟩
  have ht1 := qps_size ht hok1
  generalize qps t (tbH y) = t1 at *
  repeat refine st mo ?_
  refine w_loop (fun i : Nat => ⟨⟨71, [(0, P0), (3, .pointer (some ⟨1, 0, none⟩)), (4, .int .i64 (i : Int))]⟩, [(0 + 4096, none), (0, some (q0 (qps t1 ((y.a.take i).flatMap stw)))), (1, some (y.c.map rel1))], 2, X'⟩) (fun i => i <= y.a.length) (fun i => y.a.length - i) 0 (Nat.zero_le _) [0, 1] ⟨rfl, ⟨fp, fp, fv, trivial⟩, ⟨trivial, fl rfl (q0_pur _), flr rfl, trivial⟩, xf, rfl, rfl⟩ ?_
  intro i hi1
  have hso := qps_size ht1 (flat_okT i hokS)
  repeat refine st mo ?_
  refine ⟨fun hlt => ?_, fun hge => ?_⟩
  · have hil : i < y.a.length := by omega
    obtain ⟨z, hz⟩ : ∃ z, y.a[i]? = some z := ⟨_, List.getElem?_eq_getElem hil⟩
    obtain ⟨⟨b, o, h4, h5⟩, h6⟩ := hLa i z hz
    have h5' : Lies X' b (o + i * 18) z.c := fun j u hj => xce hX _ _ (h5 j u hj)
    have hst := flat_step (f := stw) hz
    have hst2 : qps t1 ((y.a.take (i + 1)).flatMap stw) = qps (qps (qps t1 ((y.a.take i).flatMap stw)) (stA z 3)) [SemW] := by rw [hst, qps_app, stw_A, qps_app]
    generalize hu : qps t1 ((y.a.take i).flatMap stw) = u at *
    repeat refine st mo ?_
    refine ⟨b, o, i, h4, rfl, hil, ?_⟩
    repeat refine st mo ?_
    refine ⟨z.d0, rfl, Rat'.lie0 h5', ?_⟩
    repeat refine st mo ?_
    refine ⟨b, o, i, h4, rfl, hil, ?_⟩
    repeat refine st mo ?_
    refine ⟨z.d1, rfl, Rat'.lie1 h5', ?_⟩
    repeat refine st mo ?_
    refine ⟨b, o, i, h4, rfl, hil, ?_⟩
    repeat refine st mo ?_
    refine ⟨z.d2, rfl, Rat'.lie2 h5', ?_⟩
    repeat refine st mo ?_
    refine ⟨dk, st mo ?_⟩
    repeat refine st mo ?_
    refine w_loop (fun k : Nat => ⟨⟨71, [(0, P0), (3, .pointer (some ⟨1, 0, none⟩)), (4, .int .i64 (i : Int)), (5, .slice (some ⟨2, 0, none⟩) 3 6), (6, .int .i64 (k : Int))]⟩, [(0 + 4096, none), (0, some (q0 (qps u (stA z k)))), (1, some (y.c.map rel1)), (2, some (z.c.map rel1))], 3, X'⟩) (fun k => k <= 3) (fun k => 3 - k) 0 (Nat.zero_le _) [0, 1, 2] ⟨rfl, ⟨fp, fp, fv, fs, fv, trivial⟩, ⟨trivial, fl rfl (q0_pur _), flr rfl, flr rfl, trivial⟩, xf, rfl, rfl⟩ ?_
    intro k hk
    have hso3 := qps_size hso (stA_ok z k)
    repeat refine st mo ?_
    refine ⟨fun hlt2 => ?_, fun hge2 => ?_⟩
    · have hk3 : k = 0 ∨ k = 1 ∨ k = 2 := by omega
      rcases hk3 with rfl | rfl | rfl
      · have hst3 : qps u (stA z (0 + 1)) = qps (qps (qps u (stA z 0)) [FroW]) (dcw z.b0 z.n0 z.s0) := by rw [← qps_app, ← qps_app]; simp [stA]
        generalize qps u (stA z 0) = v at *
        repeat refine st mo ?_
        refine ⟨0, rfl, by omega, st mo ⟨_, rfl, st mo ?_⟩⟩
        repeat refine st mo ?_
        refine ⟨_, fun nn => r_qp v [FroW] 4 hso3 (one_ok (four_ok : wok FroW)), st mo ?_⟩
        have hv1 := qps_size hso3 (one_ok (four_ok : wok FroW))
        generalize qps v [FroW] = v1 at *
        repeat refine st mo ?_
        refine ⟨0, rfl, by omega, st mo ?_⟩
        repeat refine st mo ?_
        refine ⟨[.bool z.b0, .int .u64 (l0 z.n0), .int .u64 (l1 z.n0), .int .u64 (l2 z.n0), .int .u64 (l3 z.n0), .int .i64 z.s0], rfl, rfl, Or.inl (st mo ?_)⟩
        repeat refine st mo ?_
        refine ⟨fun hf => ?_, fun hf => ?_⟩
        · have e : dcw z.b0 z.n0 z.s0 = [Mns] ++ [dtx false z.n0 z.s0] := if_pos hf
          rw [e, qps_app] at hst3
          repeat refine st mo ?_
          refine ⟨_, fun nn => r_qp v1 [Mns] 6 hv1 (one_ok (sym_ok (a := 45))), st mo ?_⟩
          have hv2 := qps_size hv1 (one_ok (sym_ok (a := 45)))
          generalize qps v1 [Mns] = v2 at *
          repeat refine st mo ?_
          refine ⟨_, fun _ => r_call (t := .string (dtx false z.n0 z.s0)) rfl rfl Tryz.func155 (fun W M E => q_dtx false z.n0 z.s0 h6.1 W), st mo ?_⟩
          repeat refine st mo ?_
          refine ⟨_, fun nn => r_qp v2 [dtx false z.n0 z.s0] 7 hv2 (one_ok (dtx_ok false z.n0 z.s0)), st mo ?_⟩
          repeat refine st mo ?_
          refine ⟨_, wz (0 + 1) rfl, st mo ?_⟩
          exact ⟨0 + 1, by omega, by decide, [0, 1, 2], rfl, ⟨fp, fp, fv, fs, fv, trivial⟩, ⟨trivial, fl (by rw [hst3]; try rfl) (q0_pur _), flr rfl, flr rfl, trivial⟩, xf, rfl, rfl⟩
        · have e : dcw z.b0 z.n0 z.s0 = [dtx z.b0 z.n0 z.s0] := by unfold dcw; rw [hf]; rfl
          rw [e] at hst3
          repeat refine st mo ?_
          refine ⟨_, fun _ => r_call (t := .string (dtx z.b0 z.n0 z.s0)) rfl rfl Tryz.func155 (fun W M E => q_dtx z.b0 z.n0 z.s0 h6.1 W), st mo ?_⟩
          repeat refine st mo ?_
          refine ⟨_, fun nn => r_qp v1 [dtx z.b0 z.n0 z.s0] 6 hv1 (one_ok (dtx_ok z.b0 z.n0 z.s0)), st mo ?_⟩
          repeat refine st mo ?_
          refine ⟨_, wz (0 + 1) rfl, st mo ?_⟩
          exact ⟨0 + 1, by omega, by decide, [0, 1, 2], rfl, ⟨fp, fp, fv, fs, fv, trivial⟩, ⟨trivial, fl (by rw [hst3]; try rfl) (q0_pur _), flr rfl, flr rfl, trivial⟩, xf, rfl, rfl⟩
      · have hst3 : qps u (stA z (1 + 1)) = qps (qps (qps u (stA z 1)) [BasW]) (dcw z.b1 z.n1 z.s1) := by rw [← qps_app, ← qps_app]; simp [stA]
        generalize qps u (stA z 1) = v at *
        repeat refine st mo ?_
        refine ⟨1, rfl, by omega, st mo ⟨_, rfl, st mo ?_⟩⟩
        repeat refine st mo ?_
        refine ⟨_, fun nn => r_qp v [BasW] 4 hso3 (one_ok (four_ok : wok BasW)), st mo ?_⟩
        have hv1 := qps_size hso3 (one_ok (four_ok : wok BasW))
        generalize qps v [BasW] = v1 at *
        repeat refine st mo ?_
        refine ⟨1, rfl, by omega, st mo ?_⟩
        repeat refine st mo ?_
        refine ⟨[.bool z.b1, .int .u64 (l0 z.n1), .int .u64 (l1 z.n1), .int .u64 (l2 z.n1), .int .u64 (l3 z.n1), .int .i64 z.s1], rfl, rfl, Or.inl (st mo ?_)⟩
        repeat refine st mo ?_
        refine ⟨fun hf => ?_, fun hf => ?_⟩
        · have e : dcw z.b1 z.n1 z.s1 = [Mns] ++ [dtx false z.n1 z.s1] := if_pos hf
          rw [e, qps_app] at hst3
          repeat refine st mo ?_
          refine ⟨_, fun nn => r_qp v1 [Mns] 6 hv1 (one_ok (sym_ok (a := 45))), st mo ?_⟩
          have hv2 := qps_size hv1 (one_ok (sym_ok (a := 45)))
          generalize qps v1 [Mns] = v2 at *
          repeat refine st mo ?_
          refine ⟨_, fun _ => r_call (t := .string (dtx false z.n1 z.s1)) rfl rfl Tryz.func155 (fun W M E => q_dtx false z.n1 z.s1 h6.2.1 W), st mo ?_⟩
          repeat refine st mo ?_
          refine ⟨_, fun nn => r_qp v2 [dtx false z.n1 z.s1] 7 hv2 (one_ok (dtx_ok false z.n1 z.s1)), st mo ?_⟩
          repeat refine st mo ?_
          refine ⟨_, wz (1 + 1) rfl, st mo ?_⟩
          exact ⟨1 + 1, by omega, by decide, [0, 1, 2], rfl, ⟨fp, fp, fv, fs, fv, trivial⟩, ⟨trivial, fl (by rw [hst3]; try rfl) (q0_pur _), flr rfl, flr rfl, trivial⟩, xf, rfl, rfl⟩
        · have e : dcw z.b1 z.n1 z.s1 = [dtx z.b1 z.n1 z.s1] := by unfold dcw; rw [hf]; rfl
          rw [e] at hst3
          repeat refine st mo ?_
          refine ⟨_, fun _ => r_call (t := .string (dtx z.b1 z.n1 z.s1)) rfl rfl Tryz.func155 (fun W M E => q_dtx z.b1 z.n1 z.s1 h6.2.1 W), st mo ?_⟩
          repeat refine st mo ?_
          refine ⟨_, fun nn => r_qp v1 [dtx z.b1 z.n1 z.s1] 6 hv1 (one_ok (dtx_ok z.b1 z.n1 z.s1)), st mo ?_⟩
          repeat refine st mo ?_
          refine ⟨_, wz (1 + 1) rfl, st mo ?_⟩
          exact ⟨1 + 1, by omega, by decide, [0, 1, 2], rfl, ⟨fp, fp, fv, fs, fv, trivial⟩, ⟨trivial, fl (by rw [hst3]; try rfl) (q0_pur _), flr rfl, flr rfl, trivial⟩, xf, rfl, rfl⟩
      · have hst3 : qps u (stA z (2 + 1)) = qps (qps (qps u (stA z 2)) [RatW]) (dcw z.b2 z.n2 z.s2) := by rw [← qps_app, ← qps_app]; simp [stA]
        generalize qps u (stA z 2) = v at *
        repeat refine st mo ?_
        refine ⟨2, rfl, by omega, st mo ⟨_, rfl, st mo ?_⟩⟩
        repeat refine st mo ?_
        refine ⟨_, fun nn => r_qp v [RatW] 4 hso3 (one_ok (four_ok : wok RatW)), st mo ?_⟩
        have hv1 := qps_size hso3 (one_ok (four_ok : wok RatW))
        generalize qps v [RatW] = v1 at *
        repeat refine st mo ?_
        refine ⟨2, rfl, by omega, st mo ?_⟩
        repeat refine st mo ?_
        refine ⟨[.bool z.b2, .int .u64 (l0 z.n2), .int .u64 (l1 z.n2), .int .u64 (l2 z.n2), .int .u64 (l3 z.n2), .int .i64 z.s2], rfl, rfl, Or.inl (st mo ?_)⟩
        repeat refine st mo ?_
        refine ⟨fun hf => ?_, fun hf => ?_⟩
        · have e : dcw z.b2 z.n2 z.s2 = [Mns] ++ [dtx false z.n2 z.s2] := if_pos hf
          rw [e, qps_app] at hst3
          repeat refine st mo ?_
          refine ⟨_, fun nn => r_qp v1 [Mns] 6 hv1 (one_ok (sym_ok (a := 45))), st mo ?_⟩
          have hv2 := qps_size hv1 (one_ok (sym_ok (a := 45)))
          generalize qps v1 [Mns] = v2 at *
          repeat refine st mo ?_
          refine ⟨_, fun _ => r_call (t := .string (dtx false z.n2 z.s2)) rfl rfl Tryz.func155 (fun W M E => q_dtx false z.n2 z.s2 h6.2.2 W), st mo ?_⟩
          repeat refine st mo ?_
          refine ⟨_, fun nn => r_qp v2 [dtx false z.n2 z.s2] 7 hv2 (one_ok (dtx_ok false z.n2 z.s2)), st mo ?_⟩
          repeat refine st mo ?_
          refine ⟨_, wz (2 + 1) rfl, st mo ?_⟩
          exact ⟨2 + 1, by omega, by decide, [0, 1, 2], rfl, ⟨fp, fp, fv, fs, fv, trivial⟩, ⟨trivial, fl (by rw [hst3]; try rfl) (q0_pur _), flr rfl, flr rfl, trivial⟩, xf, rfl, rfl⟩
        · have e : dcw z.b2 z.n2 z.s2 = [dtx z.b2 z.n2 z.s2] := by unfold dcw; rw [hf]; rfl
          rw [e] at hst3
          repeat refine st mo ?_
          refine ⟨_, fun _ => r_call (t := .string (dtx z.b2 z.n2 z.s2)) rfl rfl Tryz.func155 (fun W M E => q_dtx z.b2 z.n2 z.s2 h6.2.2 W), st mo ?_⟩
          repeat refine st mo ?_
          refine ⟨_, fun nn => r_qp v1 [dtx z.b2 z.n2 z.s2] 6 hv1 (one_ok (dtx_ok z.b2 z.n2 z.s2)), st mo ?_⟩
          repeat refine st mo ?_
          refine ⟨_, wz (2 + 1) rfl, st mo ?_⟩
          exact ⟨2 + 1, by omega, by decide, [0, 1, 2], rfl, ⟨fp, fp, fv, fs, fv, trivial⟩, ⟨trivial, fl (by rw [hst3]; try rfl) (q0_pur _), flr rfl, flr rfl, trivial⟩, xf, rfl, rfl⟩
    · have : k = 3 := by omega
      subst this
      repeat refine st mo ?_
      refine ⟨_, fun nn => r_qp (qps u (stA z 3)) [SemW] 3 hso3 (one_ok (sym_ok (a := 59))), st mo ?_⟩
      repeat refine st mo ?_
      refine ⟨_, wz (i + 1) rfl, st mo ?_⟩
      exact ⟨i + 1, hil, by show y.a.length - (i + 1) < y.a.length - i; omega, [0, 1], rfl, ⟨fp, fp, fv, trivial⟩, ⟨trivial, fl (by rw [hst2]; try rfl) (q0_pur _), flr rfl, trivial⟩, xf, rfl, rfl⟩
  · have : i = y.a.length := by omega
    subst this
    rw [List.take_length] at hso ⊢
    generalize qps t1 (y.a.flatMap stw) = u at *
    repeat refine st mo ?_
    refine ⟨_, fun nn => r_qp u [Rbr] 2 hso (one_ok (sym_ok (a := 125))), st mo ?_⟩
    repeat refine st mo ?_
    exact ⟨rfl, [0], ft0, ⟨trivial, fl rfl (q0_pur _), trivial⟩, rfl, rfl⟩
set_option maxHeartbeats 4000000 in
set_option maxRecDepth 20000 in
theorem d_def (d e : Nat) (t : ByteArray) (y : Dfn) (hy : dfO d e y = true) (ht : t.size <= 40000) (X : World) (hL : LD X d e y) : CQ X 34 [P0, y.y] t (dfw d e y) := by
  obtain ⟨hnm, hr, hl1, hl2, htb, hp⟩ := id hL
  obtain ⟨hf, hpt, htO, hpO⟩ := dfO_all hy
  have hok1 := dfH_ok hy
  have hok2 := ptw_ok hr hpt
  have hok3 := tabs_ok hy
  have hok4 := pags_ok hy hL
  unfold CQ dfw
  simp only [qps_app]
  refine fn_c _ Tryz.func34 rfl rfl rfl rfl (fun w ll tw X' hX => run_ok (st mo ?_))
  repeat refine st mo ?_
  refine ⟨_, fun nn => r_qp t (dfH y) 2 ht hok1, st mo ?_⟩
  have ht1 := qps_size ht hok1
  generalize qps t (dfH y) = t1 at *
  repeat refine st mo ?_
  refine ⟨_, fun nn => r_q t1 (qps t1 (ptw d e y.r)) rfl (d_parts d e t1 y.r X' (hr.xf hX) hpt ht1) (by exact fitL_cons fp (fitL_cons fv (by rfl))) (fn := Tryz.f85), st mo ?_⟩
  have ht2 := qps_size ht1 hok2
  generalize qps t1 (ptw d e y.r) = t2 at *
  repeat refine st mo ?_
  refine w_loop (fun i : Nat => ⟨⟨88, [(0, P0), (3, .pointer (some ⟨1, 0, none⟩)), (4, .int .i64 (i : Int))]⟩, [(0 + 4096, none), (0, some (q0 (qps t2 ((y.tabs.take i).flatMap tbw)))), (1, some (y.c.map rel1))], 2, X'⟩) (fun i => i <= y.tabs.length) (fun i => y.tabs.length - i) 0 (Nat.zero_le _) [0, 1] ⟨rfl, ⟨fp, fp, fv, trivial⟩, ⟨trivial, fl rfl (q0_pur _), flr rfl, trivial⟩, xf, rfl, rfl⟩ ?_
  intro i hi1
  have hso := qps_size ht2 (flat_okT i hok3)
  repeat refine st mo ?_
  refine ⟨fun hlt => ?_, fun hge => ?_⟩
  · have hil : i < y.tabs.length := by omega
    obtain ⟨z, hz⟩ : ∃ z, y.tabs[i]? = some z := ⟨_, List.getElem?_eq_getElem hil⟩
    obtain ⟨⟨b, o, h4, h5⟩, h6⟩ := htb i z hz
    have h5' : Lies X' b (o + i * 2) z.c := fun j u hj => xce hX _ _ (h5 j u hj)
    have hst := flat_step (f := tbw) hz
    have hiz := List.all_eq_true.1 htO z (List.mem_of_getElem? hz)
    have hst2 : qps t2 ((y.tabs.take (i + 1)).flatMap tbw) = qps (qps t2 ((y.tabs.take i).flatMap tbw)) (tbw z) := by rw [hst, qps_app]
    generalize hu : qps t2 ((y.tabs.take i).flatMap tbw) = u at *
    repeat refine st mo ?_
    refine ⟨b, o, i, h4, rfl, hil, ?_⟩
    repeat refine st mo ?_
    refine ⟨z.c, rfl, h5', ?_⟩
    repeat refine st mo ?_
    refine ⟨_, fun nn => r_q u (qps u (tbw z)) rfl (d_table u z hiz hso X' (h6.mono (xce hX))) (by exact fitL_cons fp (fitL_cons fv (by rfl))) (fn := Tryz.f86), st mo ?_⟩
    repeat refine st mo ?_
    refine ⟨_, wz (i + 1) rfl, st mo ?_⟩
    exact ⟨i + 1, hil, by show y.tabs.length - (i + 1) < y.tabs.length - i; omega, [0, 1], rfl, ⟨fp, fp, fv, trivial⟩, ⟨trivial, fl (by rw [hst2]; try rfl) (q0_pur _), flr rfl, trivial⟩, xf, rfl, rfl⟩
  · have : i = y.tabs.length := by omega
    subst this
    rw [List.take_length] at hso ⊢
    generalize qps t2 (y.tabs.flatMap tbw) = t3 at *
    repeat refine st mo ?_
    refine w_loop (fun j : Nat => ⟨⟨88, [(0, P0), (3, .pointer (some ⟨1, 0, none⟩)), (5, .int .i64 (j : Int))]⟩, [(0 + 4096, none), (0, some (q0 (qps t3 ((y.pags.take j).flatMap (pgw d))))), (1, some (y.c.map rel1))], 2, X'⟩) (fun j => j <= y.pags.length) (fun j => y.pags.length - j) 0 (Nat.zero_le _) [0, 1] ⟨rfl, ⟨fp, fp, fv, trivial⟩, ⟨trivial, fl rfl (q0_pur _), flr rfl, trivial⟩, xf, rfl, rfl⟩ ?_
    intro j hj1
    have hso2 := qps_size hso (flat_okT j hok4)
    repeat refine st mo ?_
    refine ⟨fun hlt => ?_, fun hge => ?_⟩
    · have hjl : j < y.pags.length := by omega
      obtain ⟨z, hz⟩ : ∃ z, y.pags[j]? = some z := ⟨_, List.getElem?_eq_getElem hjl⟩
      obtain ⟨⟨b, o, h4, h5⟩, h6⟩ := hp j z hz
      have h5' : Lies X' b (o + j * 19) z.c := fun j u hj => xce hX _ _ (h5 j u hj)
      have hjz := List.all_eq_true.1 hpO z (List.mem_of_getElem? hz)
      obtain ⟨_, hzx, hzl, hza⟩ := h6
      have hst := flat_step (f := pgw d) hz
      have hst0 : qps t3 ((y.pags.take (j + 1)).flatMap (pgw d)) = qps (qps t3 ((y.pags.take j).flatMap (pgw d))) (pgw d z) := by rw [hst, qps_app]
      generalize hu : qps t3 ((y.pags.take j).flatMap (pgw d)) = u at *
      have hokP : ∀ w ∈ [PagW, z.nm], wok w := cons_ok four_ok (one_ok (fre_ok (pgO_nm hjz)))
      have hokA := pgO_a hjz
      have hokT : ∀ k, ∀ w ∈ cmw (z.a.take k), wok w := fun k => cmw_ok fun v hv => hokA v (List.mem_of_mem_take hv)
      repeat refine st mo ?_
      refine ⟨b, o, j, h4, rfl, hjl, ?_⟩
      repeat refine st mo ?_
      refine ⟨z.c, rfl, h5', ?_⟩
      repeat refine st mo ?_
      refine ⟨_, fun nn => r_qp u [PagW, z.nm] 3 hso2 hokP, st mo ?_⟩
      have hu1 := qps_size hso2 hokP
      repeat refine st mo ?_
      refine ⟨fun hk => ?_, fun hk => ?_⟩
      · have hv := pgO_x hjz hk
        rw [pgw1 hk] at hst0
        simp only [qps_app] at hst0
        generalize qps u [PagW, z.nm] = u1 at *
        repeat refine st mo ?_
        refine ⟨_, fun nn => r_qp u1 [WheW] 4 hu1 (one_ok (four_ok : wok WheW)), st mo ?_⟩
        have hu2 := qps_size hu1 (one_ok (four_ok : wok WheW))
        generalize qps u1 [WheW] = u2 at *
        repeat refine st mo ?_
        refine ⟨_, fun nn => r_q u2 (qps u2 (wB d z.x)) rfl (d_expr d u2 z.x X' (hzx.xf hX) hv hu2) (by exact fitL_cons fp (fitL_cons fv (by rfl))) (fn := Tryz.f38), st mo ?_⟩
        have hu3 := qps_size hu2 (wBd_ok hzx hv)
        generalize qps u2 (wB d z.x) = u3 at *
        repeat refine st mo ?_
        refine ⟨_, fun nn => r_qp u3 [Lbr] 5 hu3 (one_ok (sym_ok (a := 123))), st mo ?_⟩
        have hu9 := qps_size hu3 (one_ok (sym_ok (a := 123)))
        generalize qps u3 [Lbr] = u9 at *
        repeat refine st mo ?_
        refine w_loop (fun k : Nat => ⟨⟨88, [(0, P0), (3, .pointer (some ⟨1, 0, none⟩)), (5, .int .i64 (j : Int)), (6, .pointer (some ⟨2, 0, none⟩)), (7, .int .i64 (k : Int))]⟩, [(0 + 4096, none), (0, some (q0 (qps u9 (cmw (z.a.take k))))), (1, some (y.c.map rel1)), (2, some (z.c.map rel1))], 3, X'⟩) (fun k => k <= z.a.length) (fun k => z.a.length - k) 0 (Nat.zero_le _) [0, 1, 2] ⟨rfl, ⟨fp, fp, fv, fp, fv, trivial⟩, ⟨trivial, fl rfl (q0_pur _), flr rfl, flr rfl, trivial⟩, xf, rfl, rfl⟩ ?_
        intro k hk1
        have hso3 := qps_size hu9 (hokT k)
        repeat refine st mo ?_
        refine ⟨fun hlt2 => ?_, fun hge2 => ?_⟩
        · have hkl : k < z.a.length := by omega
          obtain ⟨v, hv⟩ : ∃ v, z.a[k]? = some v := ⟨_, List.getElem?_eq_getElem hkl⟩
          obtain ⟨⟨b2, o2, g4, g5⟩, g6⟩ := hza k v hv
          have hvo := one_ok (hokA v (List.mem_of_getElem? hv))
          have hst9 : qps u9 (cmw (z.a.take (k + 1))) = qps (qps u9 (cmw (z.a.take k))) (if k = 0 then [v] else [Com] ++ [v]) := by rw [cmw_step hv, qps_app]
          generalize qps u9 (cmw (z.a.take k)) = x9 at *
          repeat refine st mo ?_
          refine ⟨fun hgt => ?_, fun hle0 => ?_⟩
          · rw [if_neg (by omega), qps_app] at hst9
            repeat refine st mo ?_
            refine ⟨_, fun nn => r_qp x9 [Com] 3 hso3 (one_ok (sym_ok (a := 44))), st mo ?_⟩
            have hx1 := qps_size hso3 (one_ok (sym_ok (a := 44)))
            generalize qps x9 [Com] = x10 at *
            repeat refine st mo ?_
            refine ⟨b2, o2, k, g4, rfl, hkl, ?_⟩
            repeat refine st mo ?_
            refine ⟨_, xce hX _ _ g5, st mo ?_⟩
            repeat refine st mo ?_
            refine ⟨_, fun nn => r_qp x10 [v] 4 hx1 hvo, st mo ?_⟩
            repeat refine st mo ?_
            refine ⟨_, wz (k + 1) rfl, st mo ?_⟩
            exact ⟨k + 1, hkl, by show z.a.length - (k + 1) < z.a.length - k; omega, [0, 1, 2], rfl, ⟨fp, fp, fv, fp, fv, trivial⟩, ⟨trivial, fl (by rw [hst9]; try rfl) (q0_pur _), flr rfl, flr rfl, trivial⟩, xf, rfl, rfl⟩
          · rw [if_pos (by omega)] at hst9
            repeat refine st mo ?_
            refine ⟨b2, o2, k, g4, rfl, hkl, ?_⟩
            repeat refine st mo ?_
            refine ⟨_, xce hX _ _ g5, st mo ?_⟩
            repeat refine st mo ?_
            refine ⟨_, fun nn => r_qp x9 [v] 3 hso3 hvo, st mo ?_⟩
            repeat refine st mo ?_
            refine ⟨_, wz (k + 1) rfl, st mo ?_⟩
            exact ⟨k + 1, hkl, by show z.a.length - (k + 1) < z.a.length - k; omega, [0, 1, 2], rfl, ⟨fp, fp, fv, fp, fv, trivial⟩, ⟨trivial, fl (by rw [hst9]; try rfl) (q0_pur _), flr rfl, flr rfl, trivial⟩, xf, rfl, rfl⟩
        · have : k = z.a.length := by omega
          subst this
          rw [List.take_length] at hso3 ⊢
          generalize qps u9 (cmw z.a) = x9 at *
          repeat refine st mo ?_
          refine ⟨_, fun nn => r_qp x9 [Rbr] 3 hso3 (one_ok (sym_ok (a := 125))), st mo ?_⟩
          repeat refine st mo ?_
          refine ⟨_, wz (j + 1) rfl, st mo ?_⟩
          exact ⟨j + 1, hjl, by show y.pags.length - (j + 1) < y.pags.length - j; omega, [0, 1], rfl, ⟨fp, fp, fv, trivial⟩, ⟨trivial, fl (by rw [hst0]; try rfl) (q0_pur _), flr rfl, trivial⟩, xf, rfl, rfl⟩
      · rw [pgw0 hk] at hst0
        simp only [qps_app] at hst0
        generalize qps u [PagW, z.nm] = u1 at *
        repeat refine st mo ?_
        refine ⟨_, fun nn => r_qp u1 [Lbr] 4 hu1 (one_ok (sym_ok (a := 123))), st mo ?_⟩
        have hu9 := qps_size hu1 (one_ok (sym_ok (a := 123)))
        generalize qps u1 [Lbr] = u9 at *
        repeat refine st mo ?_
        refine w_loop (fun k : Nat => ⟨⟨88, [(0, P0), (3, .pointer (some ⟨1, 0, none⟩)), (5, .int .i64 (j : Int)), (6, .pointer (some ⟨2, 0, none⟩)), (7, .int .i64 (k : Int))]⟩, [(0 + 4096, none), (0, some (q0 (qps u9 (cmw (z.a.take k))))), (1, some (y.c.map rel1)), (2, some (z.c.map rel1))], 3, X'⟩) (fun k => k <= z.a.length) (fun k => z.a.length - k) 0 (Nat.zero_le _) [0, 1, 2] ⟨rfl, ⟨fp, fp, fv, fp, fv, trivial⟩, ⟨trivial, fl rfl (q0_pur _), flr rfl, flr rfl, trivial⟩, xf, rfl, rfl⟩ ?_
        intro k hk1
        have hso3 := qps_size hu9 (hokT k)
        repeat refine st mo ?_
        refine ⟨fun hlt2 => ?_, fun hge2 => ?_⟩
        · have hkl : k < z.a.length := by omega
          obtain ⟨v, hv⟩ : ∃ v, z.a[k]? = some v := ⟨_, List.getElem?_eq_getElem hkl⟩
          obtain ⟨⟨b2, o2, g4, g5⟩, g6⟩ := hza k v hv
          have hvo := one_ok (hokA v (List.mem_of_getElem? hv))
          have hst9 : qps u9 (cmw (z.a.take (k + 1))) = qps (qps u9 (cmw (z.a.take k))) (if k = 0 then [v] else [Com] ++ [v]) := by rw [cmw_step hv, qps_app]
          generalize qps u9 (cmw (z.a.take k)) = x9 at *
          repeat refine st mo ?_
          refine ⟨fun hgt => ?_, fun hle0 => ?_⟩
          · rw [if_neg (by omega), qps_app] at hst9
            repeat refine st mo ?_
            refine ⟨_, fun nn => r_qp x9 [Com] 3 hso3 (one_ok (sym_ok (a := 44))), st mo ?_⟩
            have hx1 := qps_size hso3 (one_ok (sym_ok (a := 44)))
            generalize qps x9 [Com] = x10 at *
            repeat refine st mo ?_
            refine ⟨b2, o2, k, g4, rfl, hkl, ?_⟩
            repeat refine st mo ?_
            refine ⟨_, xce hX _ _ g5, st mo ?_⟩
            repeat refine st mo ?_
            refine ⟨_, fun nn => r_qp x10 [v] 4 hx1 hvo, st mo ?_⟩
            repeat refine st mo ?_
            refine ⟨_, wz (k + 1) rfl, st mo ?_⟩
            exact ⟨k + 1, hkl, by show z.a.length - (k + 1) < z.a.length - k; omega, [0, 1, 2], rfl, ⟨fp, fp, fv, fp, fv, trivial⟩, ⟨trivial, fl (by rw [hst9]; try rfl) (q0_pur _), flr rfl, flr rfl, trivial⟩, xf, rfl, rfl⟩
          · rw [if_pos (by omega)] at hst9
            repeat refine st mo ?_
            refine ⟨b2, o2, k, g4, rfl, hkl, ?_⟩
            repeat refine st mo ?_
            refine ⟨_, xce hX _ _ g5, st mo ?_⟩
            repeat refine st mo ?_
            refine ⟨_, fun nn => r_qp x9 [v] 3 hso3 hvo, st mo ?_⟩
            repeat refine st mo ?_
            refine ⟨_, wz (k + 1) rfl, st mo ?_⟩
            exact ⟨k + 1, hkl, by show z.a.length - (k + 1) < z.a.length - k; omega, [0, 1, 2], rfl, ⟨fp, fp, fv, fp, fv, trivial⟩, ⟨trivial, fl (by rw [hst9]; try rfl) (q0_pur _), flr rfl, flr rfl, trivial⟩, xf, rfl, rfl⟩
        · have : k = z.a.length := by omega
          subst this
          rw [List.take_length] at hso3 ⊢
          generalize qps u9 (cmw z.a) = x9 at *
          repeat refine st mo ?_
          refine ⟨_, fun nn => r_qp x9 [Rbr] 3 hso3 (one_ok (sym_ok (a := 125))), st mo ?_⟩
          repeat refine st mo ?_
          refine ⟨_, wz (j + 1) rfl, st mo ?_⟩
          exact ⟨j + 1, hjl, by show y.pags.length - (j + 1) < y.pags.length - j; omega, [0, 1], rfl, ⟨fp, fp, fv, trivial⟩, ⟨trivial, fl (by rw [hst0]; try rfl) (q0_pur _), flr rfl, trivial⟩, xf, rfl, rfl⟩
    · repeat refine st mo ?_
      have : j = y.pags.length := by omega
      subst this
      rw [List.take_length] at hso2 ⊢
      generalize qps t3 (y.pags.flatMap (pgw d)) = t4 at *
      refine ⟨_, fun nn => r_qp t4 [Rbr] 2 hso2 (one_ok (sym_ok (a := 125))), st mo ?_⟩
      repeat refine st mo ?_
      exact ⟨rfl, [0], ft0, ⟨trivial, fl rfl (q0_pur _), trivial⟩, rfl, rfl⟩
def prQ (d e : Nat) (y : Dfn) : Value := if dfO d e y then tldQ (qps E0 (dfw d e y)) else .tuple #[.string E0, .int .i64 81]
theorem LD.mono {w W : World} {d e : Nat} {y : Dfn} (hL : LD w d e y) (E : ∀ a u, w.cell? a = some u -> W.cell? a = some u) : LD W d e y := ⟨hL.1, hL.2.1.mono E, hL.2.2.1, hL.2.2.2.1, fun i z hz => by
    obtain ⟨⟨b, o, h1, h2⟩, h3⟩ := hL.2.2.2.2.1 i z hz
    exact ⟨⟨b, o, h1, fun j u hj => E _ _ (h2 j u hj)⟩, h3.mono E⟩, fun i z hz => by
    obtain ⟨⟨b, o, h1, h2⟩, h3⟩ := hL.2.2.2.2.2 i z hz
    exact ⟨⟨b, o, h1, fun j u hj => E _ _ (h2 j u hj)⟩, h3.mono E⟩⟩
set_option maxRecDepth 20000 in
theorem q_print (d e : Nat) (y : Dfn) (w : World) (hL : LD w d e y) : Calls Tryz.prog 13 #[y.w] w fun r W => r = .returned (prQ d e y) /\ Mb w W := by
  refine fn_pure [y.y] Tryz.func13 rfl rfl rfl (run_ok (st mo ?_))
  repeat refine st mo ?_
  cases hv : dfO d e y with
  | false =>
    have e1 : prQ d e y = .tuple #[.string E0, .int .i64 81] := by unfold prQ; rw [hv]; rfl
    rw [e1]
    refine ⟨_, fun _ => r_call (t := litF) rfl rfl Tryz.func33 (fun W M E => hv ▸ q_def d e y W (hL.mono E)), st mo ?_⟩
    repeat refine st mo ?_
    rfl
  | true =>
    have e1 : prQ d e y = tldQ (qps E0 (dfw d e y)) := by unfold prQ; rw [hv]; rfl
    rw [e1]
    refine ⟨_, fun _ => r_call (t := litT) rfl rfl Tryz.func33 (fun W M E => hv ▸ q_def d e y W (hL.mono E)), st mo ?_⟩
    repeat refine st mo ?_
    refine ⟨_, fun _ => r_c (tc := .tuple #[]) [1] [some (q0 (qps E0 (dfw d e y)))] [1] rfl rfl (d_def d e E0 y hv (by show 0 <= 40000; omega) w hL) (by exact fitL_cons fp (fitL_cons fv (by rfl))) ⟨trivial, fitL_cons fv (fitL_cons fbF (by rfl)), trivial⟩ ut0 ⟨ul rfl (q0_pur _), trivial⟩, st mo ?_⟩
    generalize qps E0 (dfw d e y) = t at *
    repeat refine st mo ?_
    rcases Nat.lt_or_ge 16384 t.size with hl | hl
    · rw [show tldQ t = .tuple #[.string E0, .int .i64 3] from if_pos hl]
      have hq := q0_l hl
      refine ⟨_, by rw [hq]; rfl, st mo ?_⟩
      repeat refine st mo ?_
      rfl
    · rw [show tldQ t = .tuple #[.string t, .int .i64 0] from if_neg (by omega)]
      have hq := q0_s hl
      refine ⟨_, by rw [hq]; rfl, st mo ?_⟩
      repeat refine st mo ?_
      refine ⟨_, by rw [hq]; rfl, st mo ?_⟩
      repeat refine st mo ?_
      rfl
theorem see_cell {X W : World} (hs : ∀ (b : Nat) (o : Obj), X.heap[b]? = some o -> o ≠ hole X -> W.heap[b]? = some o) (a : Addr) (u : Value) (hc : X.cell? a = some u) : W.cell? a = some u := by
  unfold World.cell? at hc ⊢
  split at hc
  · rename_i c ty fz hx
    have : (Obj.cells c ty fz) ≠ hole X := fun e => by
      unfold hole at e
      cases e
      split at hc <;> simp at hc
    rw [hs _ _ hx this]; exact hc
  · cases hc
theorem prQ_t (d e : Nat) (y : Dfn) : ∃ (s : ByteArray) (n : Int), prQ d e y = .tuple #[.string s, .int .i64 n] := by
  unfold prQ tldQ; split
  · split <;> exact ⟨_, _, rfl⟩
  · exact ⟨_, _, rfl⟩
def sm {T : Type} (f : T -> Nat) (l : List T) : Nat := (l.map f).sum
theorem sm_cons {T : Type} (f : T -> Nat) (x : T) (l : List T) : sm f (x :: l) = f x + sm f l := by simp [sm]
def nd : Nat -> Ex -> Nat
  | 0, _ => 1
  | d + 1, x => 1 + sm (nd d) x.a
def itN (d : Nat) (y : Itm) : Nat := 1 + nd d y.x
def ptN (d : Nat) : Nat -> Sec -> Nat
  | 0, y => sm (itN d) y.its
  | e + 1, y => sm (itN d) y.its + sm (fun z => 1 + ptN d e z) y.secs
def tbN (y : Tab) : Nat := 1 + y.a.length
theorem sm_one {T : Type} : ∀ (l : List T), sm (fun _ => 1) l = l.length
  | [] => rfl
  | x :: l => by rw [sm_cons, sm_one l, List.length_cons]; omega
def pgN (d : Nat) (y : Pag) : Nat := 1 + nd d y.x + y.a.length
def dfN (d e : Nat) (y : Dfn) : Nat := 1 + ptN d e y.r + sm tbN y.tabs + sm (pgN d) y.pags
end Go.Proofs.YtpabcmaeaiaknaaGreatDoor
namespace Go.Proofs.YtpabcmaeaiaknaaGreatDoor
open Go.ChangeShapes Go.WideShapes Go.ChangeAt Go.RowKit
open S (Lies)
namespace D
theorem cl_int : Tryz.prog.cellsOf 3 = 1 := by kernel_rfl
theorem cl_bool : Tryz.prog.cellsOf 4 = 1 := by kernel_rfl
theorem cl_string : Tryz.prog.cellsOf 9 = 1 := by kernel_rfl
theorem cl_u64 : Tryz.prog.cellsOf 22 = 1 := by kernel_rfl
theorem cl_nat : Tryz.prog.cellsOf 24 = 4 := by kernel_rfl
theorem cl_dec : Tryz.prog.cellsOf 26 = 6 := by kernel_rfl
theorem cl_val : Tryz.prog.cellsOf 28 = 10 := by kernel_rfl
theorem cl_sx : Tryz.prog.cellsOf 29 = 1 := by kernel_rfl
theorem cl_ex : Tryz.prog.cellsOf 31 = 17 := by kernel_rfl
theorem wf_u {n : Int} (h : (Lit.int .u64 n).wf = true) : U1 n := by
  have h : (decide (IntKind.u64.min <= n) && decide (n <= IntKind.u64.max)) = true := h
  rw [Bool.and_eq_true, decide_eq_true_eq, decide_eq_true_eq] at h
  have e1 : IntKind.u64.min = 0 := by decide
  have e2 : IntKind.u64.max = 18446744073709551615 := by decide
  unfold U1; omega
theorem bulk_mem {H : Type} {d : DataW H} : ∀ {l : List (DataW H)}, d ∈ l -> Rows.uptoBulk d <= Rows.uptoBulkAll l
  | x :: l, h => by
    simp only [Rows.uptoBulkAll]
    rcases List.mem_cons.1 h with rfl | h
    · omega
    · have := bulk_mem h; omega
theorem sm_bulk {H α : Type} {wt : α -> Nat} : ∀ {L : List α} {E : List (DataW H)}, E.length = L.length -> (∀ (i : Nat) (a : α) (z : DataW H), L[i]? = some a -> E[i]? = some z -> wt a <= Rows.uptoBulk z) -> sm wt L <= Rows.uptoBulkAll E
  | [], _, _, _ => by simp [sm]
  | a :: L, [], h, _ => by simp at h
  | a :: L, z :: E, h, hb => by
    have h1 := hb 0 a z rfl rfl
    have h2 := sm_bulk (wt := wt) (L := L) (E := E) (by simpa using h) (fun i x y hx hy => hb (i + 1) x y (by simpa using hx) (by simpa using hy))
    rw [sm_cons]
    simp only [Rows.uptoBulkAll]
    omega
section
variable {H : Type} {enc : TypeId × Value -> H} {W : World} {sp : Nat -> Bool}
theorem cut_str {fuel : Nat} {c : Value} {x : DataW H × List MemPlace} (h : DataW.trod enc Tryz.prog W 0 sp true fuel 9 [c] = some x) : ∃ s : ByteArray, c = .string s /\ s.size + 1 <= Rows.uptoBulk x.1 := by
  obtain ⟨s, e, rfl, _⟩ := DataW.trod_string Tryz.underlying9 h
  simp only [List.cons.injEq, and_true] at e
  refine ⟨s, e, ?_⟩
  simp only [Rows.uptoBulk]
  show s.data.size + 1 <= s.data.toList.length + 1
  simp
theorem cut_sl {fuel : Nat} {x : DataW H × List MemPlace} {t e : TypeId} (hu : Tryz.prog.underlying t = some (.slice e)) {n : Nat} (hn : 0 < n) (hcl : Tryz.prog.cellsOf e = n) {α : Type} (cells : α -> List Value) (dflt : α) (ok : α -> Prop) (wt : α -> Nat) (hlen : ∀ y, (cells y).length = n) (_ : ∀ y, 1 <= wt y)
    (hcut : ∀ {m : Nat} {cs : List Value} {y : DataW H × List MemPlace}, m < fuel -> Rows.uptoBulk y.1 <= Rows.uptoBulk x.1 -> DataW.trod enc Tryz.prog W 0 sp true m e cs = some y -> ∃ z, (ok z /\ wt z <= Rows.uptoBulk y.1) /\ cs = cells z) {v : Value} (h : DataW.trod enc Tryz.prog W 0 sp true fuel t [v] = some x) :
    ∃ (L : List α) (pa : Option Addr) (cap : Nat), v = .slice pa L.length cap /\ (∀ o ∈ L, ok o) /\ sm wt L <= Rows.uptoBulk x.1 /\ ∀ i o, L[i]? = some o -> ∃ b off, pa = some ⟨b, off, none⟩ /\ Lies W b (off + i * n) (cells o) := by
  rcases DataW.trod_slice hu h with ⟨hcs, _⟩ | ⟨a, len, cap, elems, rest, k, rfl, hcs, hx, hlc, hcm, hlen1, hlen2, hel, _, _⟩
  · simp only [List.cons.injEq, and_true] at hcs
    subst hcs
    exact ⟨[], none, 0, rfl, fun _ e => (by cases e), by simp [sm], (fun _ _ e => by cases e)⟩
  · simp only [List.cons.injEq, and_true] at hcs
    subst hcs
    have first : ∀ o : α, ∃ u, (cells o)[0]? = some u := fun o => ⟨(cells o)[0]'(by rw [hlen]; exact hn), List.getElem?_eq_getElem _⟩
    have hbk : Rows.uptoBulkAll (elems.map (·.1)) <= Rows.uptoBulk x.1 := by rw [hx]; simp only [Rows.uptoBulk]; omega
    have el : ∀ i, i < len -> ∃ cs' y, elems[i]? = some y /\ W.cells? 0 (a.add (i * Tryz.prog.cellsOf e)) (Tryz.prog.cellsOf e) = some cs' /\ DataW.trod enc Tryz.prog W 0 sp true k e cs' = some y := fun i hi => by
      have h1 := hel i hi
      have h3 : elems[i]? = some (elems[i]'(by omega)) := List.getElem?_eq_getElem (by omega)
      rw [h3] at h1
      cases h2 : W.cells? 0 (a.add (i * Tryz.prog.cellsOf e)) (Tryz.prog.cellsOf e) with
      | none => rw [h2] at h1; cases h1
      | some cs' => rw [h2] at h1; exact ⟨cs', _, h3, rfl, h1⟩
    have hbe : ∀ (i : Nat) (y : DataW H × List MemPlace), elems[i]? = some y -> Rows.uptoBulk y.1 <= Rows.uptoBulk x.1 := fun i y hy => Nat.le_trans (bulk_mem (List.mem_map_of_mem (List.mem_of_getElem? hy))) hbk
    have key : ∀ i : Nat, ∃ S : α, i < len -> ok S /\ (∀ y, elems[i]? = some y -> wt S <= Rows.uptoBulk y.1) /\ ∃ b off, some a = some (⟨b, off, none⟩ : Addr) /\ Lies W b (off + i * n) (cells S) := by
      intro i
      by_cases hi : i < len
      · obtain ⟨cs', y, hy, hc, ht⟩ := el i hi
        obtain ⟨o, ⟨ho, how⟩, rfl⟩ := hcut (Nat.lt_succ_self k) (hbe i y hy) ht
        refine ⟨o, fun _ => ⟨ho, fun y' hy' => by rw [hy] at hy'; cases hy'; exact how, ?_⟩⟩
        rw [hcl] at hc
        obtain ⟨_, _, hcell⟩ := World.cells?_some hc
        obtain ⟨b, off, spot⟩ := a
        have hs : spot = none := by
          obtain ⟨cs0, y0, hy0, hc0, ht0⟩ := el 0 (by omega)
          obtain ⟨o0, _, rfl⟩ := hcut (Nat.lt_succ_self k) (hbe 0 y0 hy0) ht0
          rw [hcl] at hc0
          have h0 := (World.cells?_some hc0).2.2 0 hn
          obtain ⟨u, hu0⟩ := first o0
          rw [hu0] at h0
          have := World.cell?_spot (show W.cell? (((⟨b, off, spot⟩ : Addr).add (0 * n)).add 0) = some u from h0)
          simpa [Addr.add] using this
        subst hs
        refine ⟨b, off, rfl, fun j v hv => ?_⟩
        have hj : j < n := by rw [← hlen o]; exact (List.getElem?_eq_some_iff.1 hv).1
        have := hcell j hj
        rw [Addr.add_mid, Addr.add_mid, hv] at this
        exact this
      · exact ⟨dflt, fun e => absurd e hi⟩
    obtain ⟨f, hf2⟩ := Classical.skolem.1 key
    refine ⟨(List.range len).map f, some a, cap, by simp, fun o ho => ?_, Nat.le_trans (sm_bulk (E := elems.map (·.1)) (by simp; omega) fun i a' z ha hz => ?_) hbk, fun i o e => ?_⟩
    · obtain ⟨i, hi, rfl⟩ := List.mem_map.1 ho
      exact (hf2 i (by simpa using hi)).1
    · have hi : i < len := by have := (List.getElem?_eq_some_iff.1 ha).1; simpa using this
      rw [List.getElem?_map, List.getElem?_range hi] at ha
      cases ha
      rw [List.getElem?_map, Option.map_eq_some_iff] at hz
      obtain ⟨y, hy, rfl⟩ := hz
      exact (hf2 i hi).2.1 y hy
    · have hi : i < len := by have := (List.getElem?_eq_some_iff.1 e).1; simpa using this
      rw [List.getElem?_map, List.getElem?_range hi] at e
      cases e
      exact (hf2 i hi).2.2
set_option maxRecDepth 100000 in
theorem cut_nat {fuel : Nat} {cs : List Value} {x : DataW H × List MemPlace} (h : DataW.trod enc Tryz.prog W 0 sp true fuel 24 cs = some x) : ∃ n : Int, (0 <= n /\ n < MM) /\ cs = [.int .u64 (l0 n), .int .u64 (l1 n), .int .u64 (l2 n), .int .u64 (l3 n)] := by
  obtain ⟨xs, m, rfl, _, hlen, hn, hi⟩ := DataW.trod_array Tryz.underlying24 h
  rw [cl_nat] at hlen
  obtain ⟨c0, c1, c2, c3, rfl⟩ : ∃ c0 c1 c2 c3, cs = [c0, c1, c2, c3] := by
    match cs, hlen with
    | [a0, a1, a2, a3], _ => exact ⟨a0, a1, a2, a3, rfl⟩
  obtain ⟨y0, y1, y2, y3, rfl⟩ : ∃ y0 y1 y2 y3, xs = [y0, y1, y2, y3] := by
    match xs, hn with
    | [a0, a1, a2, a3], _ => exact ⟨a0, a1, a2, a3, rfl⟩
  have i0 := hi 0 (by decide)
  have i1 := hi 1 (by decide)
  have i2 := hi 2 (by decide)
  have i3 := hi 3 (by decide)
  simp only [cl_u64] at i0 i1 i2 i3
  simp at i0 i1 i2 i3
  obtain ⟨x0, e0, _, f0⟩ := DataW.trod_int Tryz.underlying22 i0
  obtain ⟨x1, e1, _, f1⟩ := DataW.trod_int Tryz.underlying22 i1
  obtain ⟨x2, e2, _, f2⟩ := DataW.trod_int Tryz.underlying22 i2
  obtain ⟨x3, e3, _, f3⟩ := DataW.trod_int Tryz.underlying22 i3
  simp at e0 e1 e2 e3
  subst e0 e1 e2 e3
  have u : U4 x0 x1 x2 x3 := ⟨wf_u f0, wf_u f1, wf_u f2, wf_u f3⟩
  refine ⟨vl x0 x1 x2 x3, ?_, by rw [l0_vl u, l1_vl u, l2_vl u, l3_vl u]⟩
  unfold U4 U1 at u
  unfold vl MM
  omega
set_option maxRecDepth 100000 in
theorem cut_dn {fuel : Nat} {cs : List Value} {x : DataW H × List MemPlace} (h : DataW.trod enc Tryz.prog W 0 sp true fuel 26 cs = some x) : ∃ (b : Bool) (n s : Int), (0 <= n /\ n < MM) /\ cs = [.bool b, .int .u64 (l0 n), .int .u64 (l1 n), .int .u64 (l2 n), .int .u64 (l3 n), .int .i64 s] := by
  obtain ⟨xs, m, rfl, hx, hl, hlen, hi⟩ := DataW.trod_struct Tryz.underlying26 h
  rw [cl_dec] at hl
  obtain ⟨c0, c1, c2, c3, c4, c5, rfl⟩ : ∃ c0 c1 c2 c3 c4 c5, cs = [c0, c1, c2, c3, c4, c5] := by
    match cs, hl with
    | [a0, a1, a2, a3, a4, a5], _ => exact ⟨a0, a1, a2, a3, a4, a5, rfl⟩
  obtain ⟨y0, y1, y2, rfl⟩ : ∃ y0 y1 y2, xs = [y0, y1, y2] := by
    match xs, hlen with
    | [a0, a1, a2], _ => exact ⟨a0, a1, a2, rfl⟩
  have i0 := hi 0 _ rfl
  have i1 := hi 1 _ rfl
  have i2 := hi 2 _ rfl
  have hbk : Rows.uptoBulk y0.1 + Rows.uptoBulk y1.1 + Rows.uptoBulk y2.1 + 1 <= Rows.uptoBulk x.1 := by rw [hx]; simp [Rows.uptoBulk, Rows.uptoBulkAll] <;> omega
  simp [cl_bool, cl_nat, cl_int] at i0 i1 i2
  obtain ⟨b, e0, _⟩ := DataW.trod_bool Tryz.underlying4 i0
  obtain ⟨n, hn, e1⟩ := cut_nat i1
  obtain ⟨s, e2, _, f2⟩ := DataW.trod_int Tryz.underlying3 i2
  simp at e0 e1 e2
  obtain ⟨e1_0, e1_1, e1_2, e1_3⟩ := e1
  subst e0 e1_0 e1_1 e1_2 e1_3 e2
  exact ⟨b, n, s, hn, rfl⟩
set_option maxRecDepth 100000 in
theorem cut_vl {fuel : Nat} {cs : List Value} {x : DataW H × List MemPlace} (h : DataW.trod enc Tryz.prog W 0 sp true fuel 28 cs = some x) : ∃ v : VL, (v.ok /\ v.t.size <= Rows.uptoBulk x.1) /\ cs = v.cells := by
  obtain ⟨xs, m, rfl, hx, hl, hlen, hi⟩ := DataW.trod_struct Tryz.underlying28 h
  rw [cl_val] at hl
  obtain ⟨c0, c1, c2, c3, c4, c5, c6, c7, c8, c9, rfl⟩ : ∃ c0 c1 c2 c3 c4 c5 c6 c7 c8 c9, cs = [c0, c1, c2, c3, c4, c5, c6, c7, c8, c9] := by
    match cs, hl with
    | [a0, a1, a2, a3, a4, a5, a6, a7, a8, a9], _ => exact ⟨a0, a1, a2, a3, a4, a5, a6, a7, a8, a9, rfl⟩
  obtain ⟨y0, y1, y2, y3, y4, rfl⟩ : ∃ y0 y1 y2 y3 y4, xs = [y0, y1, y2, y3, y4] := by
    match xs, hlen with
    | [a0, a1, a2, a3, a4], _ => exact ⟨a0, a1, a2, a3, a4, rfl⟩
  have i0 := hi 0 _ rfl
  have i1 := hi 1 _ rfl
  have i2 := hi 2 _ rfl
  have i3 := hi 3 _ rfl
  have i4 := hi 4 _ rfl
  have hbk : Rows.uptoBulk y0.1 + Rows.uptoBulk y1.1 + Rows.uptoBulk y2.1 + Rows.uptoBulk y3.1 + Rows.uptoBulk y4.1 + 1 <= Rows.uptoBulk x.1 := by rw [hx]; simp [Rows.uptoBulk, Rows.uptoBulkAll] <;> omega
  simp [cl_int, cl_dec, cl_bool, cl_string] at i0 i1 i2 i3 i4
  obtain ⟨k, e0, _, f0⟩ := DataW.trod_int Tryz.underlying3 i0
  obtain ⟨b, n, s, hd, e1⟩ := cut_dn i1
  obtain ⟨f, e2, _⟩ := DataW.trod_bool Tryz.underlying4 i2
  obtain ⟨t, e3, ht⟩ := cut_str i3
  obtain ⟨er, e4, _, f4⟩ := DataW.trod_int Tryz.underlying3 i4
  simp at e0 e1 e2 e4
  obtain ⟨e1_0, e1_1, e1_2, e1_3, e1_4, e1_5⟩ := e1
  subst e0 e1_0 e1_1 e1_2 e1_3 e1_4 e1_5 e2 e3 e4
  exact ⟨⟨k, b, n, s, f, t, er⟩, ⟨hd, by show t.size <= _; omega⟩, rfl⟩
theorem LTup {w : World} : ∀ {d : Nat} {x : Ex}, LT w d x -> LT w (d + 1) x
  | 0, x, h => ⟨h.1, fun i y hy => by rw [h.2] at hy; cases hy⟩
  | d + 1, _, h => ⟨h.1, fun i y hy => ⟨(h.2 i y hy).1, LTup (h.2 i y hy).2⟩⟩
theorem LTnd {w : World} : ∀ {d : Nat} {x : Ex}, LT w d x -> nd (d + 1) x = nd d x
  | 0, x, h => by show 1 + sm (nd 0) x.a = 1; rw [h.2]; rfl
  | d + 1, x, h => by
    show 1 + sm (nd (d + 1)) x.a = 1 + sm (nd d) x.a
    congr 1
    unfold sm
    congr 1
    refine List.map_congr_left fun y hy => ?_
    obtain ⟨j, hj⟩ := List.mem_iff_getElem?.1 hy
    exact LTnd (h.2 j y hj).2
theorem LTle {w : World} {d : Nat} {x : Ex} (h : LT w d x) : ∀ {e : Nat}, d <= e -> LT w e x /\ nd e x = nd d x := by
  intro e he
  induction he with
  | refl => exact ⟨h, rfl⟩
  | step _ ih => exact ⟨LTup ih.1, (LTnd ih.1).trans ih.2⟩
theorem nd_pos (d : Nat) (x : Ex) : 1 <= nd d x := by cases d; exact Nat.le_refl 1; show 1 <= 1 + _; omega
theorem len_sm {α : Type} {wt : α -> Nat} (hw : ∀ y, 1 <= wt y) : ∀ (l : List α), l.length <= sm wt l
  | [] => Nat.zero_le _
  | x :: l => by rw [sm_cons, List.length_cons]; have := hw x; have := len_sm hw l; omega
set_option maxRecDepth 100000 in
theorem cut_ex : ∀ (fuel : Nat) {cs : List Value} {x : DataW H × List MemPlace}, Rows.uptoBulk x.1 <= 1048576 -> DataW.trod enc Tryz.prog W 0 sp true fuel 31 cs = some x -> ∃ e : Ex, (LT W fuel e /\ nd fuel e <= Rows.uptoBulk x.1) /\ cs = e.c := by
  intro fuel
  induction fuel using Nat.strongRecOn with
  | ind fuel ih =>
    intro cs x hB h
    obtain ⟨xs, m, rfl, hx, hl, hlen, hi⟩ := DataW.trod_struct Tryz.underlying31 h
    rw [cl_ex] at hl
    obtain ⟨c0, c1, c2, c3, c4, c5, c6, c7, c8, c9, c10, c11, c12, c13, c14, c15, c16, rfl⟩ : ∃ c0 c1 c2 c3 c4 c5 c6 c7 c8 c9 c10 c11 c12 c13 c14 c15 c16, cs = [c0, c1, c2, c3, c4, c5, c6, c7, c8, c9, c10, c11, c12, c13, c14, c15, c16] := by
      match cs, hl with
      | [a0, a1, a2, a3, a4, a5, a6, a7, a8, a9, a10, a11, a12, a13, a14, a15, a16], _ => exact ⟨a0, a1, a2, a3, a4, a5, a6, a7, a8, a9, a10, a11, a12, a13, a14, a15, a16, rfl⟩
    obtain ⟨y0, y1, y2, y3, y4, y5, y6, y7, rfl⟩ : ∃ y0 y1 y2 y3 y4 y5 y6 y7, xs = [y0, y1, y2, y3, y4, y5, y6, y7] := by
      match xs, hlen with
      | [a0, a1, a2, a3, a4, a5, a6, a7], _ => exact ⟨a0, a1, a2, a3, a4, a5, a6, a7, rfl⟩
    have i0 := hi 0 _ rfl
    have i1 := hi 1 _ rfl
    have i2 := hi 2 _ rfl
    have i3 := hi 3 _ rfl
    have i4 := hi 4 _ rfl
    have i5 := hi 5 _ rfl
    have i6 := hi 6 _ rfl
    have i7 := hi 7 _ rfl
    have hbk : Rows.uptoBulk y0.1 + Rows.uptoBulk y1.1 + Rows.uptoBulk y2.1 + Rows.uptoBulk y3.1 + Rows.uptoBulk y4.1 + Rows.uptoBulk y5.1 + Rows.uptoBulk y6.1 + Rows.uptoBulk y7.1 + 1 <= Rows.uptoBulk x.1 := by rw [hx]; simp [Rows.uptoBulk, Rows.uptoBulkAll] <;> omega
    simp [cl_int, cl_string, cl_val, cl_sx] at i0 i1 i2 i3 i4 i5 i6 i7
    obtain ⟨k, e0, _, f0⟩ := DataW.trod_int Tryz.underlying3 i0
    obtain ⟨op, e1, _, f1⟩ := DataW.trod_int Tryz.underlying3 i1
    obtain ⟨nm, e2, z2⟩ := cut_str i2
    obtain ⟨se, e3, z3⟩ := cut_str i3
    obtain ⟨v, hv, e4⟩ := cut_vl i4
    obtain ⟨sc, e5, _, f5⟩ := DataW.trod_int Tryz.underlying3 i5
    obtain ⟨po, e6, _, f6⟩ := DataW.trod_int Tryz.underlying3 i6
    obtain ⟨A, pa, cap, e7, hL, hwt, hS⟩ := cut_sl Tryz.underlying29 (n := 17) (by decide) cl_ex Ex.c x0 (fun z => LT W m z) (nd m) (fun _ => rfl) (nd_pos m) (fun hm hb h => by obtain ⟨z, ⟨h1, h2⟩, h3⟩ := ih _ (by omega) (by omega) h; have := LTle h1 (Nat.le_of_lt hm); exact ⟨z, ⟨this.1, by rw [this.2]; exact h2⟩, h3⟩) i7
    simp only [VL.cells] at e4
    simp at e0 e1 e4 e5 e6
    obtain ⟨e4_0, e4_1, e4_2, e4_3, e4_4, e4_5, e4_6, e4_7, e4_8, e4_9⟩ := e4
    subst e0 e1 e2 e3 e4_0 e4_1 e4_2 e4_3 e4_4 e4_5 e4_6 e4_7 e4_8 e4_9 e5 e6 e7
    have hA := len_sm (nd_pos m) A
    refine ⟨⟨k, op, nm, se, v, sc, po, pa, cap, A⟩, ⟨⟨⟨hv.1, by show nm.size <= _; omega, by show se.size <= _; omega, by have := hv.2; show v.t.size <= _; omega, by show A.length <= _; omega⟩, fun i y hy => ⟨hS i y hy, hL y (List.mem_of_getElem? hy)⟩⟩, ?_⟩, rfl⟩
    show 1 + sm (nd m) A <= _
    omega
end
end D
end Go.Proofs.YtpabcmaeaiaknaaGreatDoor
