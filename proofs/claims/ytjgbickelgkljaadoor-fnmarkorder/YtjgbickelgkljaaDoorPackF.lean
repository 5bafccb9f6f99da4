/- Texts between marks, and boxes of ids that are kept through a region of drawn order. -/
import Derived.Test.YtjgbickelgkljaaDoorPackP
import Derived.Test.YtjgbickelgkljaaDoorPackK
namespace Go.Proofs.YtjgbickelgkljaaDoor
open Go.RowKit
set_option linter.unusedSimpArgs false
set_option linter.unusedVariables false

theorem mark_zero {l : List Op7} (h : opsB l = true) : markP l 0 0 = some 0 := by unfold markP placeM; rw [if_pos h]; rfl
theorem txt_shown {l : List Op7} (h : opsB l = true) : (txtB (shown (lfs l (standL l)))).size = (shownI (lvs l)).length := by
  rw [nShown_text, shownI_len]
  unfold lvs standL
  rw [if_pos h]
theorem span_from {l : List Op7} (h : opsB l = true) {k : Nat} (hk : k ≤ (shownI (lvs l)).length) : spanT l 0 0 (leftOf l k).1 (leftOf l k).2.1 = (txtB (shown (lfs l (standL l)))).extract 0 k :=
  span_yes (mark_zero h) (mark_back h hk) (Nat.zero_le _)
theorem span_to {l : List Op7} (h : opsB l = true) {k m : Nat} (hk : k ≤ m) (hm : m ≤ (shownI (lvs l)).length) : spanT l (leftOf l k).1 (leftOf l k).2.1 (leftOf l m).1 (leftOf l m).2.1 = (txtB (shown (lfs l (standL l)))).extract k m :=
  span_yes (mark_back h (by omega)) (mark_back h hm) hk
theorem bytes_whole (T : ByteArray) : T.extract 0 T.size = T := by
  apply ByteArray.ext
  rw [ByteArray.data_extract]
  exact Array.extract_size
theorem bytes_cut (T : ByteArray) {k : Nat} (hk : k ≤ T.size) : T.extract 0 k ++ T.extract k T.size = T := by
  apply ByteArray.ext
  rw [ByteArray.data_append, ByteArray.data_extract, ByteArray.data_extract, Array.extract_append_extract]
  rw [Nat.min_eq_left (Nat.zero_le _), Nat.max_eq_right hk]
  exact Array.extract_size
end Go.Proofs.YtjgbickelgkljaaDoor

namespace Go.Proofs.YtjgbickelgkljaaDoor
open Go.RowKit
set_option linter.unusedSimpArgs false
set_option linter.unusedVariables false

/-- Things, and two boxes of ids. -/
structure SW (w W : World) (G c A B : Nat) (L : List Op7) (ar am br bm : Int) : Prop where
  own : OwnOps W w.heap.size G c L
  a : Bx W A ar am
  b : Bx W B br bm
  bel : Below w.heap.size w W
theorem SW.below {w W W' : World} {G c A B : Nat} {L : List Op7} {ar am br bm : Int} (h : SW w W G c A B L ar am br bm) (hb : Below W.heap.size W W') : SW w W' G c A B L ar am br bm := ⟨h.own.below hb, h.a.below hb, h.b.below hb, Bstep h.bel hb⟩
theorem mark_ops {l : List Op7} {a b : Int} {k : Nat} (h : markP l a b = some k) : opsB l = true := by
  unfold markP at h
  split at h
  · rename_i ho; exact ho
  · cases h
theorem bytes_two (T : ByteArray) {p q : Nat} (hp : p ≤ q) (hq : q ≤ T.size) : T.extract 0 p ++ T.extract p q = T.extract 0 q := by
  apply ByteArray.ext
  rw [ByteArray.data_append, ByteArray.data_extract, ByteArray.data_extract, ByteArray.data_extract, Array.extract_append_extract]
  rw [Nat.min_eq_left (Nat.zero_le _), Nat.max_eq_right hp]
theorem bytes_empty : ByteArray.empty.toList.isEmpty = true := by
  unfold ByteArray.toList
  rw [ByteArray.toList.loop]
  rfl
theorem bytes_none (T : ByteArray) (p : Nat) : (T.extract p p).toList.isEmpty = true := by
  have h : T.extract p p = ByteArray.empty := by
    apply ByteArray.ext
    rw [ByteArray.data_extract]
    simp [Nat.min_le_left]
  rw [h]; exact bytes_empty
theorem txt_none : (txtB []).toList.isEmpty = true := bytes_empty

/-- What is kept besides the boxes' cells. -/
def R5 (w : World) (G c N A B : Nat) (L : List Op7) (W : World) : Prop := OwnOps W w.heap.size G c L ∧ N < W.heap.size ∧ A < W.heap.size ∧ B < W.heap.size ∧ Below w.heap.size w W
theorem R5.at {w : World} {G c N A B : Nat} {L : List Op7} {W : World} (h : R5 w G c N A B L W) : OpsAt W G L := h.1.at
theorem R5.bel {w : World} {G c N A B : Nat} {L : List Op7} {W : World} (h : R5 w G c N A B L W) : Below w.heap.size w W := h.2.2.2.2
theorem keep7 {w : World} {G c N A B : Nat} {L : List Op7} {ar am br bm : Int} {W W' : World} (hb : Below W.heap.size W W')
    (h : W.cell? ⟨N, 0, none⟩ = some (.int .i64 0) ∧ W.cell? ⟨N, 1, none⟩ = some (.int .i64 0) ∧ W.cell? ⟨A, 0, none⟩ = some (.int .i64 ar) ∧ W.cell? ⟨A, 1, none⟩ = some (.int .i64 am) ∧ W.cell? ⟨B, 0, none⟩ = some (.int .i64 br) ∧ W.cell? ⟨B, 1, none⟩ = some (.int .i64 bm) ∧ R5 w G c N A B L W) :
    W'.cell? ⟨N, 0, none⟩ = some (.int .i64 0) ∧ W'.cell? ⟨N, 1, none⟩ = some (.int .i64 0) ∧ W'.cell? ⟨A, 0, none⟩ = some (.int .i64 ar) ∧ W'.cell? ⟨A, 1, none⟩ = some (.int .i64 am) ∧ W'.cell? ⟨B, 0, none⟩ = some (.int .i64 br) ∧ W'.cell? ⟨B, 1, none⟩ = some (.int .i64 bm) ∧ R5 w G c N A B L W' := by
  obtain ⟨h1, h2, h3, h4, h5, h6, h7, h8, h9, h10, h11⟩ := h
  obtain ⟨hc, _⟩ := bcell hb
  exact ⟨(hc _ _ h8).trans h1, (hc _ _ h8).trans h2, (hc _ _ h9).trans h3, (hc _ _ h9).trans h4, (hc _ _ h10).trans h5, (hc _ _ h10).trans h6, h7.below hb, Nat.lt_of_lt_of_le h8 hb.size, Nat.lt_of_lt_of_le h9 hb.size, Nat.lt_of_lt_of_le h10 hb.size, Bstep h11 hb⟩
theorem rest7 {w : World} {G c N A B : Nat} {L : List Op7} {ar am br bm : Int} {W : World}
    (h : W.cell? ⟨N, 0, none⟩ = some (.int .i64 0) ∧ W.cell? ⟨N, 1, none⟩ = some (.int .i64 0) ∧ W.cell? ⟨A, 0, none⟩ = some (.int .i64 ar) ∧ W.cell? ⟨A, 1, none⟩ = some (.int .i64 am) ∧ W.cell? ⟨B, 0, none⟩ = some (.int .i64 br) ∧ W.cell? ⟨B, 1, none⟩ = some (.int .i64 bm) ∧ R5 w G c N A B L W) : R5 w G c N A B L W := h.2.2.2.2.2.2
end Go.Proofs.YtjgbickelgkljaaDoor
