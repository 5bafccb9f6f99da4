/- Where a mark stands among leaves, in plain mathematics. -/
import Derived.Test.YtficnhlkefpfnaaDoorP0
import Derived.Test.YtficnhlkefpfnaaDoorP1
import Derived.RangeFuncBox
import Derived.Deep.WholeRow
import Derived.Laws.CopyOwn
import Derived.Deep.RegionHeld3
import Derived.BigQuiet
import Derived.WalkSmall
namespace Go.Proofs.YtficnhlkefpfnaaDoor
open Go.RowKit
set_option linter.unusedSimpArgs false
set_option linter.unusedVariables false
attribute [local go_sem ↓] Go.wp_at_zero Go.wp_at_succ

theorem in3 {r : Int} (h : inB r 1 3 = true) : r = 1 ∨ r = 2 ∨ r = 3 := by
  simp [inB] at h
  omega

set_option maxRecDepth 100000 in
set_option maxHeartbeats 2000000 in
theorem l3Next_any (l : List Op7) (g cap : Nat) (r : Int) (w : World) (hl : OpsAt w g l) (hn : l.length ≤ 1048576) (hcap : l.length ≤ cap) :
    Calls Tryd.prog 93 #[.slice (some ⟨g, 0, none⟩) l.length cap, .int .i64 r] w fun e w' =>
      (((opsB l && inB r 1 3) = false ∧ e = .returned (.tuple #[.agg #[.int .i64 0, .int .i64 0], .bool false])) ∨
       (opsB l = true ∧ inB r 1 3 = true ∧ e = .returned (.tuple #[.agg #[.int .i64 r, .int .i64 (cnt l r + 1)], .bool (decide (cnt l r + 1 ≤ 12))]))) ∧ Below w.heap.size w w' := by
  have HL := hideIt hl
  have hgw := hl.1
  clear hl
  cases ho : opsB l
  all_goals
    have HO := hideIt ho
    clear ho
    go_enter Tryd.func93, Tryd.ntmps93
    go_wp2_with fail
    have HB0 : Hid (Below w.heap.size w (w.alloc (.cells #[.int .i64 0, .int .i64 0] 69))) := (Below.refl _ _).alloc (Nat.le_refl _) _
    refine (specOps_any l _ _ _ (HL.out.below HB0.out hgw) hn hcap).mono ?_
    rintro e w1 ⟨rfl, hb1⟩
    rw [HO.out]
    have HB1 := hideIt (Bstep HB0.out hb1)
    have rc0 : w1.cell? ⟨w.heap.size, 0, none⟩ = some (.int .i64 0) := ((bcell hb1).1 _ _ (by simp)).trans (by simp [go_sem])
    have rc1 : w1.cell? ⟨w.heap.size, 1, none⟩ = some (.int .i64 0) := ((bcell hb1).1 _ _ (by simp)).trans (by simp [go_sem])
    have hwl : w.heap.size < w1.heap.size := by have := hb1.size; simp at this; omega
    have FZ : Hid (∀ j, w1.frozen? ⟨w.heap.size, j, none⟩ = false) := fun j => ((bcell hb1).2 _ _ (by simp)).trans (by simp [go_sem])
    clear hb1
  · have hfz : ∀ j, w1.frozen? ⟨w.heap.size, j, none⟩ = false := FZ.out
    go_wp2
    have hbb := HB1.out
    exact bodyPost_ret (v := .tuple #[.agg #[.int .i64 0, .int .i64 0], .bool false]) (by simp [results, Tryd.results93, go_sem, rc0, rc1]) rfl ⟨.inl ⟨rfl, rfl⟩, by go_grown⟩
  · cases hi : inB r 1 3
    all_goals
      have HI := hideIt hi
      clear hi
      have hfz : ∀ j, w1.frozen? ⟨w.heap.size, j, none⟩ = false := FZ.out
      go_wp2_with (first | (go_at_call 62; refine (l6In_any _ _ _ _).mono ?_; rintro e w' ⟨rfl, hw'⟩; subst hw'; rw [HI.out]))
    · have hbb := HB1.out
      exact bodyPost_ret (v := .tuple #[.agg #[.int .i64 0, .int .i64 0], .bool false]) (by simp [results, Tryd.results93, go_sem, rc0, rc1]) rfl ⟨.inl ⟨by simp [HI.out], rfl⟩, by go_grown⟩
    · obtain ⟨hok, hord⟩ := opsParts HO.out
      refine (l1Seen_any l _ _ _ (HL.out.below HB1.out hgw) hn hcap hok hord).mono ?_
      rintro e w2 ⟨rfl, hI, hb2⟩
      have HB2 := hideIt (Bstep HB1.out hb2)
      obtain ⟨c0, c1, c2⟩ := ints3 hI
      have hw2 : w.heap.size < w2.heap.size := Nat.lt_of_lt_of_le hwl hb2.size
      have rd0 := ((bcell hb2).1 _ _ hwl).trans rc0
      have rd1 := ((bcell hb2).1 _ _ hwl).trans rc1
      have hfy : ∀ j, w2.frozen? ⟨w.heap.size, j, none⟩ = false := fun j => ((bcell hb2).2 _ _ hwl).trans (hfz j)
      have hc := cnt_sum l
      have n1 := cnt_nonneg l 1
      have n2 := cnt_nonneg l 2
      have n3 := cnt_nonneg l 3
      clear hb2 hI hok hord
      obtain rfl | rfl | rfl := in3 HI.out
      all_goals
        generalize hx1 : cnt l 1 = x1 at *
        generalize hx2 : cnt l 2 = x2 at *
        generalize hx3 : cnt l 3 = x3 at *
        go_wp2
        have hbb := HB2.out
        first
          | exact bodyPost_ret (v := .tuple #[.agg #[.int .i64 1, .int .i64 (x1 + 1)], .bool (decide (x1 + 1 ≤ 12))]) (by simp [results, Tryd.results93, go_sem, rd0, rd1]) rfl ⟨.inr ⟨trivial, HI.out, by rw [hx1]⟩, by go_grown⟩
          | exact bodyPost_ret (v := .tuple #[.agg #[.int .i64 2, .int .i64 (x2 + 1)], .bool (decide (x2 + 1 ≤ 12))]) (by simp [results, Tryd.results93, go_sem, rd0, rd1]) rfl ⟨.inr ⟨trivial, HI.out, by rw [hx2]⟩, by go_grown⟩
          | exact bodyPost_ret (v := .tuple #[.agg #[.int .i64 3, .int .i64 (x3 + 1)], .bool (decide (x3 + 1 ≤ 12))]) (by simp [results, Tryd.results93, go_sem, rd0, rd1]) rfl ⟨.inr ⟨trivial, HI.out, by rw [hx3]⟩, by go_grown⟩
end Go.Proofs.YtficnhlkefpfnaaDoor

namespace Go.Proofs.YtficnhlkefpfnaaDoor
open Go.RowKit
set_option linter.unusedSimpArgs false
set_option linter.unusedVariables false
attribute [local go_sem ↓] Go.wp_at_zero Go.wp_at_succ

/-- The cells of things. -/
def opCells (L : List Op7) : List Value := L.flatMap fun o => [.int .i64 o.a, .int .i64 o.b, .int .i64 o.k, .int .i64 o.c, .int .i64 o.d, .int .i64 o.s, .int .i64 o.g]
theorem opCells_len : ∀ L : List Op7, (opCells L).length = L.length * 7
  | [] => rfl
  | x :: r => by have := opCells_len r; simp [opCells] at this ⊢; omega
theorem opCells_app (L M : List Op7) : opCells (L ++ M) = opCells L ++ opCells M := by simp [opCells]
theorem opCells_one : ∀ L, ∀ u ∈ opCells L, u.oneCell' = true := by
  intro L u hu
  unfold opCells at hu
  obtain ⟨o, _, ho⟩ := List.mem_flatMap.1 hu
  simp at ho
  rcases ho with rfl | rfl | rfl | rfl | rfl | rfl | rfl <;> rfl
theorem opCells_at : ∀ (L : List Op7) (i : Nat) (o : Op7), L[i]? = some o → (opCells L)[i * 7]? = some (.int .i64 o.a) ∧ (opCells L)[i * 7 + 1]? = some (.int .i64 o.b) ∧ (opCells L)[i * 7 + 2]? = some (.int .i64 o.k) ∧ (opCells L)[i * 7 + 3]? = some (.int .i64 o.c) ∧ (opCells L)[i * 7 + 4]? = some (.int .i64 o.d) ∧ (opCells L)[i * 7 + 5]? = some (.int .i64 o.s) ∧ (opCells L)[i * 7 + 6]? = some (.int .i64 o.g)
  | [], i, o, h => by simp at h
  | y :: r, 0, o, h => by simp at h; subst h; simp [opCells]
  | y :: r, i + 1, o, h => by
    have h' := opCells_at r i o (by simpa using h)
    have e : opCells (y :: r) = [.int .i64 y.a, .int .i64 y.b, .int .i64 y.k, .int .i64 y.c, .int .i64 y.d, .int .i64 y.s, .int .i64 y.g] ++ opCells r := by simp [opCells]
    have hs : ∀ j, (opCells (y :: r))[(i + 1) * 7 + j]? = (opCells r)[i * 7 + j]? := fun j => by
      rw [e, List.getElem?_append_right (by simp; omega)]
      congr 1
      simp
      omega
    have h0 := hs 0
    simp only [Nat.add_zero] at h0
    rw [h0, hs 1, hs 2, hs 3, hs 4, hs 5, hs 6]
    exact h'
/-- A row of things of one's own. -/
def OwnOps (w : World) (base : Nat) (g cap : Nat) (L : List Op7) : Prop := w.ownsRow base 71 7 (.slice (some ⟨g, 0, none⟩) L.length cap) L.length (opCells L)
theorem OwnOps.at {w : World} {base g cap : Nat} {L : List Op7} (h : OwnOps w base g cap L) : OpsAt w g L := by
  refine ⟨(World.ownsRow.lt h g rfl).2, fun i o ho => ?_⟩
  obtain ⟨h0, h1, h2, h3, h4, h5, h6⟩ := opCells_at L i o ho
  have hi : i < L.length := (List.getElem?_eq_some_iff.1 ho).1
  have hc : ∀ j, j < L.length * 7 → w.cell? ⟨g, j, none⟩ = (opCells L)[j]? := fun j hj => World.ownsRow.cellAt h j hj
  exact ⟨(hc _ (by omega)).trans h0, (hc _ (by omega)).trans h1, (hc _ (by omega)).trans h2, (hc _ (by omega)).trans h3, (hc _ (by omega)).trans h4, (hc _ (by omega)).trans h5, (hc _ (by omega)).trans h6⟩
theorem OwnOps.cap {w : World} {base g cap : Nat} {L : List Op7} (h : OwnOps w base g cap L) : L.length ≤ cap := by
  rcases h.2 with ⟨h, _⟩ | ⟨g', c', cur, h, _, _, h2, _⟩
  · cases h
  · cases h; exact h2
theorem OwnOps.below {w w' : World} {base g cap : Nat} {L : List Op7} (h : OwnOps w base g cap L) (hb : Below w.heap.size w w') : OwnOps w' base g cap L :=
  World.ownsRow.kept h (row := none) ⟨hb.os, hb.tape, hb.output, hb.size, fun i hi _ => hb.block i hi⟩ (.inr (by simp [Value.ownBlock]))
theorem infoOp : (Tryd.prog.info? 71).map (fun i => (i.zero, i.size, i.bytes)) = some (some (.agg #[.int .i64 0, .int .i64 0, .int .i64 0, .int .i64 0, .int .i64 0, .int .i64 0, .int .i64 0]), 7, 56) := by kernel_rfl

theorem blkCell {W : World} {b : Nat} {cur : Array Value} {T : TypeId} (h : W.heap[b]? = some (.cells cur T (0, 0))) (j : Nat) : W.cell? ⟨b, j, none⟩ = cur[j]? := by simp [World.cell?, h]
/-- One is ahead of another. -/
def lessB (p q : Op7) : Bool := decide (p.a < q.a ∨ (p.a = q.a ∧ p.b < q.b))
/-- What was done, with something more. -/
def withL (l : List Op7) (o : Op7) : List Op7 := l.filter (fun p => lessB p o) ++ [o] ++ l.filter (fun p => lessB o p)

set_option maxRecDepth 100000 in
set_option maxHeartbeats 2000000 in
theorem specLess_any (a b c d : Int) (w : World) :
    Calls Tryd.prog 79 #[.agg #[.int .i64 a, .int .i64 b], .agg #[.int .i64 c, .int .i64 d]] w fun e w' => e = .returned (.bool (decide (a < c ∨ (a = c ∧ b < d)))) ∧ Below w.heap.size w w' := by
  go_enter Tryd.func79, Tryd.ntmps79
  by_cases h1 : a < c
  · go_wp2
    go_ret
    exact ⟨by simp [h1], by go_grown⟩
  · by_cases h2 : a = c
    · subst h2
      go_wp2
      go_ret
      exact ⟨by simp, by go_grown⟩
    · go_wp2
      go_ret
      exact ⟨by simp [h1, h2], by go_grown⟩
end Go.Proofs.YtficnhlkefpfnaaDoor

namespace Go.Proofs.YtficnhlkefpfnaaDoor
open Go.RowKit
set_option linter.unusedSimpArgs false
set_option linter.unusedVariables false

theorem build_op0 (W : World) : (Instr.build 71 #[]).run Tryd.prog W = .ok (.agg #[.int .i64 0, .int .i64 0, .int .i64 0, .int .i64 0, .int .i64 0, .int .i64 0, .int .i64 0]) W := by
  kernel_rfl
theorem build_opTake (W : World) (a b c d : Int) : (Instr.build 71 #[(0, .agg #[.int .i64 a, .int .i64 b]), (1, .int .i64 2), (2, .agg #[.int .i64 c, .int .i64 d])]).run Tryd.prog W = .ok (.agg #[.int .i64 a, .int .i64 b, .int .i64 2, .int .i64 c, .int .i64 d, .int .i64 0, .int .i64 0]) W := by
  kernel_rfl
theorem build_opPut (W : World) (a b c d s g : Int) : (Instr.build 71 #[(0, .agg #[.int .i64 a, .int .i64 b]), (1, .int .i64 1), (2, .agg #[.int .i64 c, .int .i64 d]), (3, .int .i64 s), (4, .int .i64 g)]).run Tryd.prog W = .ok (.agg #[.int .i64 a, .int .i64 b, .int .i64 1, .int .i64 c, .int .i64 d, .int .i64 s, .int .i64 g]) W := by
  kernel_rfl
/-- A thing stored whole into its box. -/
theorem store_op (W : World) (b : Nat) (cur : Array Value) (h : W.heap[b]? = some (.cells cur 71 (0, 0))) (hs : cur.size = 7) (a1 a2 a3 a4 a5 a6 a7 : Int) :
    (Instr.storeAt 71 (.pointer (some ⟨b, 0, none⟩)) (.agg #[.int .i64 a1, .int .i64 a2, .int .i64 a3, .int .i64 a4, .int .i64 a5, .int .i64 a6, .int .i64 a7])).run Tryd.prog W = .ok () (W.setRow b #[.int .i64 a1, .int .i64 a2, .int .i64 a3, .int .i64 a4, .int .i64 a5, .int .i64 a6, .int .i64 a7]) := by
  simp only [Instr.storeAt, Instr.sureAddr, Sem.run_bind, Sem.run_pure, Result.andThen]
  exact run_storeVar_row _ _ _ _ cur _ h (by kernel_rfl) (by simp [hs]) (by simp [Value.oneCell'])
/-- An id stored whole into its new box. -/
theorem store_id_new (w : World) (a b : Int) : (Instr.storeAt 69 (.pointer (some ⟨w.heap.size, 0, none⟩)) (.agg #[.int .i64 a, .int .i64 b])).run Tryd.prog (w.alloc (.cells #[.int .i64 0, .int .i64 0] 69)) = .ok () (w.alloc (.cells #[.int .i64 a, .int .i64 b] 69)) :=
  run_storeAt_new w 69 #[.int .i64 0, .int .i64 0] #[.int .i64 a, .int .i64 b] (by kernel_rfl) rfl (by simp [Value.oneCell'])
end Go.Proofs.YtficnhlkefpfnaaDoor

namespace Go.Proofs.YtficnhlkefpfnaaDoor
open Go.RowKit
set_option linter.unusedSimpArgs false
set_option linter.unusedVariables false
attribute [local go_sem ↓] Go.wp_at_zero Go.wp_at_succ build_op0 build_opTake build_opPut

def opV (o : Op7) : Value := .agg #[.int .i64 o.a, .int .i64 o.b, .int .i64 o.k, .int .i64 o.c, .int .i64 o.d, .int .i64 o.s, .int .i64 o.g]
/-- The box of a thing that is to be returned, still nothing. -/
structure RB (w W : World) : Prop where
  box : W.heap[w.heap.size]? = some (.cells #[.int .i64 0, .int .i64 0, .int .i64 0, .int .i64 0, .int .i64 0, .int .i64 0, .int .i64 0] 71 (0, 0))
  bel : Below w.heap.size w W
theorem RB.lt {w W : World} (h : RB w W) : w.heap.size < W.heap.size := (Array.getElem?_eq_some_iff.1 h.box).1
theorem RB.start (w : World) : RB w (w.alloc (.cells #[.int .i64 0, .int .i64 0, .int .i64 0, .int .i64 0, .int .i64 0, .int .i64 0, .int .i64 0] 71)) := ⟨World.alloc_heap_new _ _, (Below.refl _ _).alloc (Nat.le_refl _) _⟩
theorem RB.below {w W W' : World} (h : RB w W) (hb : Below W.heap.size W W') : RB w W' := ⟨(hb.block _ h.lt).trans h.box, Bstep h.bel hb⟩
theorem RB.cells {w W : World} (h : RB w W) : W.cell? ⟨w.heap.size, 0, none⟩ = some (.int .i64 0) ∧ W.cell? ⟨w.heap.size, 1, none⟩ = some (.int .i64 0) ∧ W.cell? ⟨w.heap.size, 2, none⟩ = some (.int .i64 0) ∧ W.cell? ⟨w.heap.size, 3, none⟩ = some (.int .i64 0) ∧ W.cell? ⟨w.heap.size, 4, none⟩ = some (.int .i64 0) ∧ W.cell? ⟨w.heap.size, 5, none⟩ = some (.int .i64 0) ∧ W.cell? ⟨w.heap.size, 6, none⟩ = some (.int .i64 0) :=
  ⟨(blkCell h.box 0).trans rfl, (blkCell h.box 1).trans rfl, (blkCell h.box 2).trans rfl, (blkCell h.box 3).trans rfl, (blkCell h.box 4).trans rfl, (blkCell h.box 5).trans rfl, (blkCell h.box 6).trans rfl⟩
theorem RB.frozen {w W : World} (h : RB w W) (j : Nat) : W.frozen? ⟨w.heap.size, j, none⟩ = false := by simp [World.frozen?, h.box]
/-- The box behind its one store. -/
theorem RB.stored {w W : World} (h : RB w W) (a1 a2 a3 a4 a5 a6 a7 : Int) : (W.setRow w.heap.size #[.int .i64 a1, .int .i64 a2, .int .i64 a3, .int .i64 a4, .int .i64 a5, .int .i64 a6, .int .i64 a7]).heap[w.heap.size]? = some (.cells #[.int .i64 a1, .int .i64 a2, .int .i64 a3, .int .i64 a4, .int .i64 a5, .int .i64 a6, .int .i64 a7] 71 (0, 0)) ∧ Below w.heap.size w (W.setRow w.heap.size #[.int .i64 a1, .int .i64 a2, .int .i64 a3, .int .i64 a4, .int .i64 a5, .int .i64 a6, .int .i64 a7]) :=
  ⟨setRow_heap _ _ _ _ _ _ h.box, below_setRow h.bel (Nat.le_refl _) _⟩
theorem all7 (a1 a2 a3 a4 a5 a6 a7 : Int) : (#[Value.int .i64 a1, .int .i64 a2, .int .i64 a3, .int .i64 a4, .int .i64 a5, .int .i64 a6, .int .i64 a7].all fun x => x.oneCell') = true := by simp [Value.oneCell']
/-- A thing stored whole in a region that draws its order. -/
theorem store_arm {P : Program} {o : Oper} {A : Act} {w : World} {K' : Act → World → Prop} {Q : Exit → Act → World → Prop} {ys : Nat → Option Bool} {ty t : TypeId} {x y : Operand} {g : Nat} {cells old : Array Value}
    (ho : o.op = .store ty x y) (hw : Region.wanted o ys = true) (hx : A.eval x = .pointer (some ⟨g, 0, none⟩)) (hy : A.eval y = .agg cells) (hg : w.heap[g]? = some (.cells old t (0, 0))) (hi : (P.info? ty).map (·.size) = some cells.size)
    (hold : old.size = cells.size) (h1 : cells.all (·.oneCell') = true) (h : K' (A.put o.dst undef) (w.setRow g cells)) :
    if Region.wanted o ys = true then Oper.wp P o A w K' Q else K' (A.put o.dst undef) w := by
  rw [if_pos hw]
  exact wp_store_row ty x y ho g cells hx hy t old hg hi hold h1 h
theorem setRow_cell {W : World} {g b o : Nat} {cs : Array Value} {v : Value} (h : b ≠ g) (hv : W.cell? ⟨b, o, none⟩ = some v) : (W.setRow g cs).cell? ⟨b, o, none⟩ = some v := by
  rw [← hv]
  simp [World.cell?, setRow_other W g b cs h]
theorem rowKeep {w w' : World} {b : Nat} {T : TypeId} {m : Nat} {v : Value} {n : Nat} {xs : List Value} (h : w.ownsRow b T m v n xs) (hb : Below w.heap.size w w') : w'.ownsRow b T m v n xs :=
  h.kept (row := none) ⟨hb.os, hb.tape, hb.output, hb.size, fun i hi _ => hb.block i hi⟩ (by cases v.ownBlock <;> simp)
theorem natCells_at {L : List Nat} {i j : Nat} (h : L[i]? = some j) : (natCells L)[i]? = some (.int .i64 (j : Int)) := by simp [natCells, h]

attribute [-go_sem] Instr.storeAt
attribute [local go_sem ↓] store_id_new
end Go.Proofs.YtficnhlkefpfnaaDoor

namespace Go.Proofs.YtficnhlkefpfnaaDoor
open Go.RowKit
set_option linter.unusedSimpArgs false
set_option linter.unusedVariables false
attribute [local go_sem ↓] Go.wp_at_zero Go.wp_at_succ build_op0 build_opTake build_opPut

theorem row_len {W : World} {base : Nat} {T : TypeId} {m : Nat} {v : Value} {n : Nat} {xs : List Value} (h : W.ownsRow base T m v n xs) : ∃ p c, v = .slice p n c := by
  rcases h.2 with ⟨rfl, h0⟩ | ⟨g, c, cur, rfl, _⟩
  · exact ⟨none, 0, by rw [h0]⟩
  · exact ⟨_, _, rfl⟩
theorem putO_yes {l : List Op7} {r sg : Int} {t : Nat} (h : kidsL l ((leftOf l t).1, (leftOf l t).2.1, 1) = []) : putO l r t sg = ⟨r, cnt l r + 1, 1, (leftOf l t).1, (leftOf l t).2.1, 1, sg⟩ := by unfold putO; rw [if_pos h]
theorem putO_no {l : List Op7} {r sg : Int} {t : Nat} (h : kidsL l ((leftOf l t).1, (leftOf l t).2.1, 1) ≠ []) {x : Lf} (hx : (lvs l)[(leftOf l t).2.2]? = some x) : putO l r t sg = ⟨r, cnt l r + 1, 1, x.a, x.b, 0, sg⟩ := by unfold putO; rw [if_neg h]; simp [nextLf, hx]

attribute [-go_sem] Instr.storeAt
attribute [local go_sem ↓] store_id_new
set_option maxRecDepth 100000 in
set_option maxHeartbeats 2000000 in
theorem typePut_any (l : List Op7) (g cap : Nat) (r t sg : Int) (w : World) (hl : OpsAt w g l) (hn : l.length ≤ 1048576) (hcap : l.length ≤ cap) :
    Calls Tryd.prog 55 #[.slice (some ⟨g, 0, none⟩) l.length cap, .int .i64 r, .int .i64 t, .int .i64 sg] w fun e w' =>
      ((mayPut l r t sg = false ∧ e = .returned (.tuple #[.agg #[.int .i64 0, .int .i64 0, .int .i64 0, .int .i64 0, .int .i64 0, .int .i64 0, .int .i64 0], .bool false])) ∨
       (mayPut l r t sg = true ∧ e = .returned (.tuple #[opV (putO l r t.toNat sg), .bool true]))) ∧ Below w.heap.size w w' := by
  have HL := hideIt hl
  have hgw := hl.1
  clear hl
  go_enter Tryd.func55, Tryd.ntmps55
  go_wp2_with fail
  have HRB := hideIt (RB.start w)
  refine (l3Next_any l _ _ _ _ (HL.out.below HRB.out.bel hgw) hn hcap).mono ?_
  rintro e w1 ⟨(⟨hno, rfl⟩ | ⟨hops, hin, rfl⟩), hb1⟩
  all_goals
    have HR1 := hideIt (HRB.out.below hb1)
    clear hb1 HRB
  · have HA := hideIt (HR1.out.below ((Below.refl _ _).alloc (Nat.le_refl _) (.cells #[.int .i64 0, .int .i64 0] 69)))
    have hwl := HR1.out.lt
    have HNO := hideIt hno
    clear hno
    go_wp2_with (first | (refine wpList_store_row rfl 71 _ _ rfl w.heap.size _ rfl rfl 71 _ HA.out.box (by kernel_rfl) rfl (all7 _ _ _ _ _ _ _) ?_; have HST := hideIt (HA.out.stored 0 0 0 0 0 0 0); generalize World.setRow _ _ _ = W9 at *))
    obtain ⟨hb9, hbel9⟩ := HST.out
    have r0 := (blkCell hb9 0).trans rfl
    have r1 := (blkCell hb9 1).trans rfl
    have r2 := (blkCell hb9 2).trans rfl
    have r3 := (blkCell hb9 3).trans rfl
    have r4 := (blkCell hb9 4).trans rfl
    have r5 := (blkCell hb9 5).trans rfl
    have r6 := (blkCell hb9 6).trans rfl
    exact bodyPost_ret (v := .tuple #[.agg #[.int .i64 0, .int .i64 0, .int .i64 0, .int .i64 0, .int .i64 0, .int .i64 0, .int .i64 0], .bool false]) (by simp [results, Tryd.results55, go_sem, r0, r1, r2, r3, r4, r5, r6]) rfl ⟨.inl ⟨by simp [mayPut, mayMore, HNO.out], rfl⟩, hbel9⟩
  · have HO := hideIt hops
    have HI := hideIt hin
    clear hops hin
    generalize hz : decide (cnt l r + 1 ≤ 12) = z
    have HZ := hideIt hz
    clear hz
    generalize hcn : cnt l r + 1 = cn
    have HCN := hideIt hcn
    clear hcn
    cases z
    · have HA := hideIt (HR1.out.below ((Below.refl _ _).alloc (Nat.le_refl _) (.cells #[.int .i64 r, .int .i64 cn] 69)))
      have hwl := HR1.out.lt
      go_wp2_with (first | (refine wpList_store_row rfl 71 _ _ rfl w.heap.size _ rfl rfl 71 _ HA.out.box (by kernel_rfl) rfl (all7 _ _ _ _ _ _ _) ?_; have HST := hideIt (HA.out.stored 0 0 0 0 0 0 0); generalize World.setRow _ _ _ = W9 at *))
      obtain ⟨hb9, hbel9⟩ := HST.out
      have r0 := (blkCell hb9 0).trans rfl
      have r1 := (blkCell hb9 1).trans rfl
      have r2 := (blkCell hb9 2).trans rfl
      have r3 := (blkCell hb9 3).trans rfl
      have r4 := (blkCell hb9 4).trans rfl
      have r5 := (blkCell hb9 5).trans rfl
      have r6 := (blkCell hb9 6).trans rfl
      exact bodyPost_ret (v := .tuple #[.agg #[.int .i64 0, .int .i64 0, .int .i64 0, .int .i64 0, .int .i64 0, .int .i64 0, .int .i64 0], .bool false]) (by simp [results, Tryd.results55, go_sem, r0, r1, r2, r3, r4, r5, r6]) rfl ⟨.inl ⟨by simp [mayPut, mayMore, HZ.out], rfl⟩, hbel9⟩
    · cases hsg : inB sg 97 122
      all_goals
        have HSG := hideIt hsg
        clear hsg
      · have HA := hideIt (HR1.out.below ((Below.refl _ _).alloc (Nat.le_refl _) (.cells #[.int .i64 r, .int .i64 cn] 69)))
        have hwl := HR1.out.lt
        go_wp2_with (first | (go_at_call 62; refine (l6In_any _ _ _ _).mono ?_; rintro e w' ⟨rfl, hw'⟩; subst hw'; rw [HSG.out]) | (refine wpList_store_row rfl 71 _ _ rfl w.heap.size _ rfl rfl 71 _ HA.out.box (by kernel_rfl) rfl (all7 _ _ _ _ _ _ _) ?_; have HST := hideIt (HA.out.stored 0 0 0 0 0 0 0); generalize World.setRow _ _ _ = W9 at *))
        obtain ⟨hb9, hbel9⟩ := HST.out
        have r0 := (blkCell hb9 0).trans rfl
        have r1 := (blkCell hb9 1).trans rfl
        have r2 := (blkCell hb9 2).trans rfl
        have r3 := (blkCell hb9 3).trans rfl
        have r4 := (blkCell hb9 4).trans rfl
        have r5 := (blkCell hb9 5).trans rfl
        have r6 := (blkCell hb9 6).trans rfl
        exact bodyPost_ret (v := .tuple #[.agg #[.int .i64 0, .int .i64 0, .int .i64 0, .int .i64 0, .int .i64 0, .int .i64 0, .int .i64 0], .bool false]) (by simp [results, Tryd.results55, go_sem, r0, r1, r2, r3, r4, r5, r6]) rfl ⟨.inl ⟨by simp [mayPut, HSG.out], rfl⟩, hbel9⟩
      · have HA1 := hideIt (HR1.out.below ((Below.refl _ _).alloc (Nat.le_refl _) (.cells #[.int .i64 r, .int .i64 cn] 69)))
        have D1 : Hid ((w1.alloc (.cells #[.int .i64 r, .int .i64 cn] 69)).cell? ⟨w1.heap.size, 0, none⟩ = some (.int .i64 r) ∧ (w1.alloc (.cells #[.int .i64 r, .int .i64 cn] 69)).cell? ⟨w1.heap.size, 1, none⟩ = some (.int .i64 cn) ∧ w1.heap.size < (w1.alloc (.cells #[.int .i64 r, .int .i64 cn] 69)).heap.size) := ⟨by simp [go_sem], by simp [go_sem], by simp⟩
        have hdd : w1.heap.size ≠ w.heap.size := by have := HR1.out.lt; omega
        have HOP := hideIt (HL.out.below HA1.out.bel hgw)
        go_wp2_with (first | (go_at_call 62; refine (l6In_any _ _ _ _).mono ?_; rintro e w' ⟨rfl, hw'⟩; subst hw'; rw [HSG.out]))
        clear HR1
        generalize w1.alloc (.cells #[.int .i64 r, .int .i64 cn] 69) = Wi at *
        generalize w1.heap.size = B1 at *
        refine (l2Leaves_any l HO.out _ _ _ HOP.out hn hcap).mono ?_
        rintro e w2 ⟨G, c, rfl, hr, hb2⟩
        have HLN := hideIt (lvs_len HO.out)
        have hc : (lvs l).length ≤ c := by
          rcases hr.2 with ⟨h, _⟩ | ⟨g', c', cur, h, _, _, h2, _⟩
          · cases h
          · cases h; unfold lvs; rw [lfs_len]; exact h2
        rw [lfs_cells, ← lfs_len l (allO l)] at hr
        rw [← lfs_len l (allO l)]
        have HR : Hid (w2.ownsRow Wi.heap.size 115 4 (.slice (some ⟨G, 0, none⟩) (lvs l).length c) (lvs l).length (lfCells (lvs l))) := hr
        have HR2 := hideIt (HA1.out.below hb2)
        have D2 : Hid (w2.cell? ⟨B1, 0, none⟩ = some (.int .i64 r) ∧ w2.cell? ⟨B1, 1, none⟩ = some (.int .i64 cn) ∧ B1 < w2.heap.size) := ⟨((bcell hb2).1 _ _ D1.out.2.2).trans D1.out.1, ((bcell hb2).1 _ _ D1.out.2.2).trans D1.out.2.1, Nat.lt_of_lt_of_le D1.out.2.2 hb2.size⟩
        have hGw : Hid (w.heap.size < Wi.heap.size ∧ w.heap.size < w2.heap.size) := ⟨HA1.out.lt, HR2.out.lt⟩
        clear hr hb2 HA1 D1 HOP
        rw [show (lfs l (allO l)) = lvs l from rfl]
        go_wp2_with fail
        refine (l3Shown_any (lvs l) G c _ _ HR.out (by have := HLN.out; omega) hc).mono ?_
        rintro e w3 ⟨S, c3, rfl, hr3, hb3⟩
        have HS3 := hideIt hr3
        have HRR := hideIt (rowKeep HR.out hb3)
        have HA := hideIt (HR2.out.below hb3)
        have D3 : Hid (w3.cell? ⟨B1, 0, none⟩ = some (.int .i64 r) ∧ w3.cell? ⟨B1, 1, none⟩ = some (.int .i64 cn) ∧ B1 < w3.heap.size) := ⟨((bcell hb3).1 _ _ D2.out.2.2).trans D2.out.1, ((bcell hb3).1 _ _ D2.out.2.2).trans D2.out.2.1, Nat.lt_of_lt_of_le D2.out.2.2 hb3.size⟩
        have hsn : (shownI (lvs l)).length ≤ 36 := Nat.le_trans (shownTo_len _ _) HLN.out
        clear hr3 hb3 HR HR2 D2
        have hwl := HA.out.lt
        cases hi : inB t 0 (shownI (lvs l)).length
        all_goals
          have HIN := hideIt hi
          clear hi
        · go_wp2_with (first | (go_at_call 62; refine (l6In_any _ _ _ _).mono ?_; rintro e w' ⟨rfl, hw'⟩; subst hw'; rw [HIN.out]) | (refine wpList_store_row rfl 71 _ _ rfl w.heap.size _ rfl rfl 71 _ HA.out.box (by kernel_rfl) rfl (all7 _ _ _ _ _ _ _) ?_; have HST := hideIt (HA.out.stored 0 0 0 0 0 0 0); generalize World.setRow _ _ _ = W9 at *))
          obtain ⟨hb9, hbel9⟩ := HST.out
          have r0 := (blkCell hb9 0).trans rfl
          have r1 := (blkCell hb9 1).trans rfl
          have r2 := (blkCell hb9 2).trans rfl
          have r3 := (blkCell hb9 3).trans rfl
          have r4 := (blkCell hb9 4).trans rfl
          have r5 := (blkCell hb9 5).trans rfl
          have r6 := (blkCell hb9 6).trans rfl
          exact bodyPost_ret (v := .tuple #[.agg #[.int .i64 0, .int .i64 0, .int .i64 0, .int .i64 0, .int .i64 0, .int .i64 0, .int .i64 0], .bool false]) (by simp [results, Tryd.results55, go_sem, r0, r1, r2, r3, r4, r5, r6]) rfl ⟨.inl ⟨by simp [mayPut, HIN.out], rfl⟩, hbel9⟩
        · have hk : 0 ≤ t ∧ t ≤ (shownI (lvs l)).length := by
            have h := HIN.out
            simp [inB] at h
            exact h
          obtain ⟨d0, d1, dl⟩ := D3.out
          by_cases ht : t = 0
          · subst ht
            go_wp2_with (first | (go_at_call 62; refine (l6In_any _ _ _ _).mono ?_; rintro e w' ⟨rfl, hw'⟩; subst hw'; rw [HIN.out]))
            have HAL := hideIt (HA.out.below ((Below.refl _ _).alloc (Nat.le_refl _) (.cells #[.int .i64 0, .int .i64 0] 69)))
            have hb0 : Below w'.heap.size w' (w'.alloc (.cells #[.int .i64 0, .int .i64 0] 69)) := (Below.refl _ _).alloc (Nat.le_refl _) _
            have D4 : Hid ((w'.alloc (.cells #[.int .i64 0, .int .i64 0] 69)).cell? ⟨w'.heap.size, 0, none⟩ = some (.int .i64 0) ∧ (w'.alloc (.cells #[.int .i64 0, .int .i64 0] 69)).cell? ⟨w'.heap.size, 1, none⟩ = some (.int .i64 0) ∧ w'.heap.size < (w'.alloc (.cells #[.int .i64 0, .int .i64 0] 69)).heap.size) := ⟨by simp [go_sem], by simp [go_sem], by simp⟩
            have HRK := hideIt (rowKeep HRR.out hb0)
            have a0 := ((bcell hb0).1 _ _ dl).trans d0
            have a1 := ((bcell hb0).1 _ _ dl).trans d1
            have al := Nat.lt_of_lt_of_le dl hb0.size
            have hd2 : w'.heap.size ≠ w.heap.size := by have := HA.out.lt; omega
            clear hb0
            generalize w'.alloc (.cells #[.int .i64 0, .int .i64 0] 69) = Wj at *
            generalize w'.heap.size = B2 at *
            refine (l2Kids_any l g cap _ _ _ _ (HL.out.below HAL.out.bel hgw) hn hcap).mono ?_
            rintro e w4 ⟨v, rfl, hrk, hb4⟩
            obtain ⟨pk, ck, rfl⟩ := row_len hrk
            have d0 := ((bcell hb4).1 _ _ al).trans a0
            have d1 := ((bcell hb4).1 _ _ al).trans a1
            have e0 := ((bcell hb4).1 _ _ D4.out.2.2).trans D4.out.1
            have e1 := ((bcell hb4).1 _ _ D4.out.2.2).trans D4.out.2.1
            have HR4 := hideIt (rowKeep HRK.out hb4)
            have hB14 : B1 < w4.heap.size := Nat.lt_of_lt_of_le al hb4.size
            have hB24 : B2 < w4.heap.size := Nat.lt_of_lt_of_le D4.out.2.2 hb4.size
            have HA := hideIt (HAL.out.below hb4)
            have hwl4 := HA.out.lt
            have nG : G ≠ w.heap.size := by have h1 := (World.ownsRow.lt HRR.out G rfl).1; have h2 := hGw.out.1; omega
            have hGl4 := (World.ownsRow.lt HR4.out G rfl).2
            clear hrk hb4 HAL HRK
            by_cases hK : kidsL l (0, 0, 1) = []
            · have HOP : Hid (putO l r (0) sg = ⟨r, cn, 1, 0, 0, 1, sg⟩) := by
                have h := putO_yes (l := l) (r := r) (sg := sg) (t := 0) (by rw [leftOf_zero]; exact hK)
                rw [leftOf_zero, HCN.out] at h
                exact h
              have hkn : (kidsL l (0, 0, 1)).length = 0 := by rw [hK]; rfl
              rw [hkn]
              clear hK
              go_wp2_with (first | (refine wpList_store_row rfl 71 _ _ rfl w.heap.size _ rfl rfl 71 _ HA.out.box (by kernel_rfl) rfl (all7 _ _ _ _ _ _ _) ?_; have HST := hideIt (HA.out.stored r cn 1 0 0 1 sg); generalize World.setRow _ _ _ = W9 at *))
              obtain ⟨hb9, hbel9⟩ := HST.out
              have r0 := (blkCell hb9 0).trans rfl
              have r1 := (blkCell hb9 1).trans rfl
              have r2 := (blkCell hb9 2).trans rfl
              have r3 := (blkCell hb9 3).trans rfl
              have r4 := (blkCell hb9 4).trans rfl
              have r5 := (blkCell hb9 5).trans rfl
              have r6 := (blkCell hb9 6).trans rfl
              exact bodyPost_ret (v := .tuple #[.agg #[.int .i64 r, .int .i64 cn, .int .i64 1, .int .i64 0, .int .i64 0, .int .i64 1, .int .i64 sg], .bool true]) (by simp [results, Tryd.results55, go_sem, r0, r1, r2, r3, r4, r5, r6]) rfl ⟨.inr ⟨by simp [mayPut, mayMore, HO.out, HI.out, HZ.out, HIN.out, HSG.out], by rw [show ((0 : Int)).toNat = 0 from rfl, HOP.out]; rfl⟩, hbel9⟩
            · have hnx : 0 < (lvs l).length := by
                have h := left_next (l := l) HO.out (t := 0) (by omega) (by rw [leftOf_zero]; exact hK)
                rw [leftOf_zero] at h
                exact h
              have hxn : (lvs l)[0]? = some (lvs l)[0] := by simp [hnx]
              have HOP : Hid (putO l r (0) sg = ⟨r, cn, 1, (lvs l)[0].a, (lvs l)[0].b, 0, sg⟩) := by
                have h := putO_no (l := l) (r := r) (sg := sg) (t := 0) (by rw [leftOf_zero]; exact hK) (x := (lvs l)[0]) (by rw [leftOf_zero]; exact hxn)
                rw [HCN.out] at h
                exact h
              obtain ⟨q0, q1, _, _⟩ := lfCells_at (lvs l) (0) _ hxn
              have u0 := (World.ownsRow.cellAt HR4.out ((0) * 4) (by omega)).trans q0
              have u1 := (World.ownsRow.cellAt HR4.out ((0) * 4 + 1) (by omega)).trans q1
              have hkp : 0 < (kidsL l (0, 0, 1)).length := List.length_pos_iff.2 hK
              generalize (lvs l)[0].a = ya at *
              generalize (lvs l)[0].b = yb at *
              generalize (kidsL l (0, 0, 1)).length = kn at *
              clear hK hxn q0 q1
              have hkp' : ¬ ((kn : Int) = 0) := by omega
              have hnx' : (0 : Int) < ((lvs l).length : Int) := by omega
              have ks1 : (Instr.storeAt 71 (.pointer (some ⟨w.heap.size, 0, none⟩)) (.agg #[.int .i64 r, .int .i64 cn, .int .i64 1, .int .i64 ya, .int .i64 yb, .int .i64 0, .int .i64 sg])).run Tryd.prog w4.drew = .ok () (w4.drew.setRow w.heap.size #[.int .i64 r, .int .i64 cn, .int .i64 1, .int .i64 ya, .int .i64 yb, .int .i64 0, .int .i64 sg]) := store_op w4.drew w.heap.size _ HA.out.box rfl r cn 1 ya yb 0 sg
              have HST := hideIt ((HA.out.below ((Below.refl _ _).drew)).stored r cn 1 ya yb 0 sg)
              have K9 : Hid ((w4.drew.setRow w.heap.size #[.int .i64 r, .int .i64 cn, .int .i64 1, .int .i64 ya, .int .i64 yb, .int .i64 0, .int .i64 sg]).cell? ⟨B1, 0, none⟩ = some (.int .i64 r) ∧ (w4.drew.setRow w.heap.size #[.int .i64 r, .int .i64 cn, .int .i64 1, .int .i64 ya, .int .i64 yb, .int .i64 0, .int .i64 sg]).cell? ⟨B1, 1, none⟩ = some (.int .i64 cn) ∧ (w4.drew.setRow w.heap.size #[.int .i64 r, .int .i64 cn, .int .i64 1, .int .i64 ya, .int .i64 yb, .int .i64 0, .int .i64 sg]).cell? ⟨G, (0) * 4, none⟩ = some (.int .i64 ya) ∧ (w4.drew.setRow w.heap.size #[.int .i64 r, .int .i64 cn, .int .i64 1, .int .i64 ya, .int .i64 yb, .int .i64 0, .int .i64 sg]).cell? ⟨G, (0) * 4 + 1, none⟩ = some (.int .i64 yb)) :=
                ⟨setRow_cell (W := w4.drew) hdd d0, setRow_cell (W := w4.drew) hdd d1, setRow_cell (W := w4.drew) nG u0, setRow_cell (W := w4.drew) nG u1⟩
              go_wp2
              go_region_held3 (fun w' => w'.cell? ⟨B1, 0, none⟩ = some (.int .i64 r) ∧ w'.cell? ⟨B1, 1, none⟩ = some (.int .i64 cn) ∧ w'.cell? ⟨G, (0) * 4, none⟩ = some (.int .i64 ya) ∧ w'.cell? ⟨G, (0) * 4 + 1, none⟩ = some (.int .i64 yb))
                (first | exact ⟨d0, d1, u0, u1⟩ | exact K9.out)
                (fail)
              rename_i hHH
              clear hHH K9
              generalize World.setRow _ _ _ = W9 at *
              go_wp2
              obtain ⟨hb9, hbel9⟩ := HST.out
              have r0 := (blkCell hb9 0).trans rfl
              have r1 := (blkCell hb9 1).trans rfl
              have r2 := (blkCell hb9 2).trans rfl
              have r3 := (blkCell hb9 3).trans rfl
              have r4 := (blkCell hb9 4).trans rfl
              have r5 := (blkCell hb9 5).trans rfl
              have r6 := (blkCell hb9 6).trans rfl
              exact bodyPost_ret (v := .tuple #[.agg #[.int .i64 r, .int .i64 cn, .int .i64 1, .int .i64 ya, .int .i64 yb, .int .i64 0, .int .i64 sg], .bool true]) (by simp [results, Tryd.results55, go_sem, r0, r1, r2, r3, r4, r5, r6]) rfl ⟨.inr ⟨by simp [mayPut, mayMore, HO.out, HI.out, HZ.out, HIN.out, HSG.out], by rw [show ((0 : Int)).toNat = 0 from rfl, HOP.out]; rfl⟩, hbel9⟩
          · obtain ⟨k, rfl, hk1⟩ : ∃ k : Nat, t = (k : Int) + 1 ∧ k < (shownI (lvs l)).length := ⟨t.toNat - 1, by omega, by omega⟩
            obtain ⟨j, x, hj, hx, hjl⟩ := shown_leaf hk1
            have HLF : Hid (leftOf l (k + 1) = (x.a, x.b, j + 1)) := leftOf_succ hj hx
            have hS := (World.ownsRow.cellAt HS3.out k (by omega)).trans (natCells_at hj)
            obtain ⟨q0, q1, _, _⟩ := lfCells_at (lvs l) j x hx
            have z0 := (World.ownsRow.cellAt HRR.out (j * 4) (by omega)).trans q0
            have z1 := (World.ownsRow.cellAt HRR.out (j * 4 + 1) (by omega)).trans q1
            have hSl := (World.ownsRow.lt HS3.out S rfl).2
            have hGl := (World.ownsRow.lt HRR.out G rfl).2
            have hk' : (k : Int) < ((shownI (lvs l)).length : Int) := by omega
            have hj' : (j : Int) < ((lvs l).length : Int) := by omega
            have hj0 : (0 : Int) ≤ (j : Int) := by omega
            have hk0 : (0 : Int) ≤ (k : Int) := by omega
            have hk00 : (0 : Int) < (k : Int) + 1 := by omega
            have hjw : wrap64 ((j : Int) + 1) = (j : Int) + 1 := by have := HLN.out; simp only [wrap64]; omega
            generalize x.a = xa at *
            generalize x.b = xb at *
            clear q0 q1 hj hx
            go_wp2_with (first | (go_at_call 62; refine (l6In_any _ _ _ _).mono ?_; rintro e w' ⟨rfl, hw'⟩; subst hw'; rw [HIN.out]))
            have HAL := hideIt (HA.out.below ((Below.refl _ _).alloc (Nat.le_refl _) (.cells #[.int .i64 xa, .int .i64 xb] 69)))
            have hb0 : Below w'.heap.size w' (w'.alloc (.cells #[.int .i64 xa, .int .i64 xb] 69)) := (Below.refl _ _).alloc (Nat.le_refl _) _
            have D4 : Hid ((w'.alloc (.cells #[.int .i64 xa, .int .i64 xb] 69)).cell? ⟨w'.heap.size, 0, none⟩ = some (.int .i64 xa) ∧ (w'.alloc (.cells #[.int .i64 xa, .int .i64 xb] 69)).cell? ⟨w'.heap.size, 1, none⟩ = some (.int .i64 xb) ∧ w'.heap.size < (w'.alloc (.cells #[.int .i64 xa, .int .i64 xb] 69)).heap.size) := ⟨by simp [go_sem], by simp [go_sem], by simp⟩
            have HRK := hideIt (rowKeep HRR.out hb0)
            have a0 := ((bcell hb0).1 _ _ dl).trans d0
            have a1 := ((bcell hb0).1 _ _ dl).trans d1
            have al := Nat.lt_of_lt_of_le dl hb0.size
            have hd2 : w'.heap.size ≠ w.heap.size := by have := HA.out.lt; omega
            clear hb0
            generalize w'.alloc (.cells #[.int .i64 xa, .int .i64 xb] 69) = Wj at *
            generalize w'.heap.size = B2 at *
            refine (l2Kids_any l g cap _ _ _ _ (HL.out.below HAL.out.bel hgw) hn hcap).mono ?_
            rintro e w4 ⟨v, rfl, hrk, hb4⟩
            obtain ⟨pk, ck, rfl⟩ := row_len hrk
            have d0 := ((bcell hb4).1 _ _ al).trans a0
            have d1 := ((bcell hb4).1 _ _ al).trans a1
            have e0 := ((bcell hb4).1 _ _ D4.out.2.2).trans D4.out.1
            have e1 := ((bcell hb4).1 _ _ D4.out.2.2).trans D4.out.2.1
            have HR4 := hideIt (rowKeep HRK.out hb4)
            have hB14 : B1 < w4.heap.size := Nat.lt_of_lt_of_le al hb4.size
            have hB24 : B2 < w4.heap.size := Nat.lt_of_lt_of_le D4.out.2.2 hb4.size
            have HA := hideIt (HAL.out.below hb4)
            have hwl4 := HA.out.lt
            have nG : G ≠ w.heap.size := by have h1 := (World.ownsRow.lt HRR.out G rfl).1; have h2 := hGw.out.1; omega
            have hGl4 := (World.ownsRow.lt HR4.out G rfl).2
            clear hrk hb4 HAL HRK
            by_cases hK : kidsL l (xa, xb, 1) = []
            · have HOP : Hid (putO l r (k + 1) sg = ⟨r, cn, 1, xa, xb, 1, sg⟩) := by
                have h := putO_yes (l := l) (r := r) (sg := sg) (t := k + 1) (by rw [HLF.out]; exact hK)
                rw [HLF.out, HCN.out] at h
                exact h
              have hkn : (kidsL l (xa, xb, 1)).length = 0 := by rw [hK]; rfl
              rw [hkn]
              clear hK
              go_wp2_with (first | (refine wpList_store_row rfl 71 _ _ rfl w.heap.size _ rfl rfl 71 _ HA.out.box (by kernel_rfl) rfl (all7 _ _ _ _ _ _ _) ?_; have HST := hideIt (HA.out.stored r cn 1 xa xb 1 sg); generalize World.setRow _ _ _ = W9 at *))
              obtain ⟨hb9, hbel9⟩ := HST.out
              have r0 := (blkCell hb9 0).trans rfl
              have r1 := (blkCell hb9 1).trans rfl
              have r2 := (blkCell hb9 2).trans rfl
              have r3 := (blkCell hb9 3).trans rfl
              have r4 := (blkCell hb9 4).trans rfl
              have r5 := (blkCell hb9 5).trans rfl
              have r6 := (blkCell hb9 6).trans rfl
              exact bodyPost_ret (v := .tuple #[.agg #[.int .i64 r, .int .i64 cn, .int .i64 1, .int .i64 xa, .int .i64 xb, .int .i64 1, .int .i64 sg], .bool true]) (by simp [results, Tryd.results55, go_sem, r0, r1, r2, r3, r4, r5, r6]) rfl ⟨.inr ⟨by simp [mayPut, mayMore, HO.out, HI.out, HZ.out, HIN.out, HSG.out], by rw [show ((k : Int) + 1).toNat = k + 1 from (by omega), HOP.out]; rfl⟩, hbel9⟩
            · have hnx : (j + 1) < (lvs l).length := by
                have h := left_next (l := l) HO.out (t := k + 1) (by omega) (by rw [HLF.out]; exact hK)
                rw [HLF.out] at h
                exact h
              have hxn : (lvs l)[(j + 1)]? = some (lvs l)[(j + 1)] := by simp [hnx]
              have HOP : Hid (putO l r (k + 1) sg = ⟨r, cn, 1, (lvs l)[(j + 1)].a, (lvs l)[(j + 1)].b, 0, sg⟩) := by
                have h := putO_no (l := l) (r := r) (sg := sg) (t := k + 1) (by rw [HLF.out]; exact hK) (x := (lvs l)[(j + 1)]) (by rw [HLF.out]; exact hxn)
                rw [HCN.out] at h
                exact h
              obtain ⟨q0, q1, _, _⟩ := lfCells_at (lvs l) ((j + 1)) _ hxn
              have u0 := (World.ownsRow.cellAt HR4.out (((j + 1)) * 4) (by omega)).trans q0
              have u1 := (World.ownsRow.cellAt HR4.out (((j + 1)) * 4 + 1) (by omega)).trans q1
              have hkp : 0 < (kidsL l (xa, xb, 1)).length := List.length_pos_iff.2 hK
              generalize (lvs l)[(j + 1)].a = ya at *
              generalize (lvs l)[(j + 1)].b = yb at *
              generalize (kidsL l (xa, xb, 1)).length = kn at *
              clear hK hxn q0 q1
              have hkp' : ¬ ((kn : Int) = 0) := by omega
              have hnx' : ((j : Int) + 1 : Int) < ((lvs l).length : Int) := by omega
              have hnx0 : (0 : Int) ≤ (j : Int) + 1 := by omega
              have hnt : ((j : Int) + 1).toNat = j + 1 := by omega
              have ks1 : (Instr.storeAt 71 (.pointer (some ⟨w.heap.size, 0, none⟩)) (.agg #[.int .i64 r, .int .i64 cn, .int .i64 1, .int .i64 ya, .int .i64 yb, .int .i64 0, .int .i64 sg])).run Tryd.prog w4.drew = .ok () (w4.drew.setRow w.heap.size #[.int .i64 r, .int .i64 cn, .int .i64 1, .int .i64 ya, .int .i64 yb, .int .i64 0, .int .i64 sg]) := store_op w4.drew w.heap.size _ HA.out.box rfl r cn 1 ya yb 0 sg
              have HST := hideIt ((HA.out.below ((Below.refl _ _).drew)).stored r cn 1 ya yb 0 sg)
              have K9 : Hid ((w4.drew.setRow w.heap.size #[.int .i64 r, .int .i64 cn, .int .i64 1, .int .i64 ya, .int .i64 yb, .int .i64 0, .int .i64 sg]).cell? ⟨B1, 0, none⟩ = some (.int .i64 r) ∧ (w4.drew.setRow w.heap.size #[.int .i64 r, .int .i64 cn, .int .i64 1, .int .i64 ya, .int .i64 yb, .int .i64 0, .int .i64 sg]).cell? ⟨B1, 1, none⟩ = some (.int .i64 cn) ∧ (w4.drew.setRow w.heap.size #[.int .i64 r, .int .i64 cn, .int .i64 1, .int .i64 ya, .int .i64 yb, .int .i64 0, .int .i64 sg]).cell? ⟨G, (j + 1) * 4, none⟩ = some (.int .i64 ya) ∧ (w4.drew.setRow w.heap.size #[.int .i64 r, .int .i64 cn, .int .i64 1, .int .i64 ya, .int .i64 yb, .int .i64 0, .int .i64 sg]).cell? ⟨G, (j + 1) * 4 + 1, none⟩ = some (.int .i64 yb)) :=
                ⟨setRow_cell (W := w4.drew) hdd d0, setRow_cell (W := w4.drew) hdd d1, setRow_cell (W := w4.drew) nG u0, setRow_cell (W := w4.drew) nG u1⟩
              go_wp2
              go_region_held3 (fun w' => w'.cell? ⟨B1, 0, none⟩ = some (.int .i64 r) ∧ w'.cell? ⟨B1, 1, none⟩ = some (.int .i64 cn) ∧ w'.cell? ⟨G, (j + 1) * 4, none⟩ = some (.int .i64 ya) ∧ w'.cell? ⟨G, (j + 1) * 4 + 1, none⟩ = some (.int .i64 yb))
                (first | exact ⟨d0, d1, u0, u1⟩ | exact K9.out)
                (fail)
              rename_i hHH
              clear hHH K9
              generalize World.setRow _ _ _ = W9 at *
              go_wp2
              obtain ⟨hb9, hbel9⟩ := HST.out
              have r0 := (blkCell hb9 0).trans rfl
              have r1 := (blkCell hb9 1).trans rfl
              have r2 := (blkCell hb9 2).trans rfl
              have r3 := (blkCell hb9 3).trans rfl
              have r4 := (blkCell hb9 4).trans rfl
              have r5 := (blkCell hb9 5).trans rfl
              have r6 := (blkCell hb9 6).trans rfl
              exact bodyPost_ret (v := .tuple #[.agg #[.int .i64 r, .int .i64 cn, .int .i64 1, .int .i64 ya, .int .i64 yb, .int .i64 0, .int .i64 sg], .bool true]) (by simp [results, Tryd.results55, go_sem, r0, r1, r2, r3, r4, r5, r6]) rfl ⟨.inr ⟨by simp [mayPut, mayMore, HO.out, HI.out, HZ.out, HIN.out, HSG.out], by rw [show ((k : Int) + 1).toNat = k + 1 from (by omega), HOP.out]; rfl⟩, hbel9⟩
end Go.Proofs.YtficnhlkefpfnaaDoor

namespace Go.Proofs.YtficnhlkefpfnaaDoor
open Go.RowKit
set_option linter.unusedSimpArgs false
set_option linter.unusedVariables false
attribute [local go_sem ↓] Go.wp_at_zero Go.wp_at_succ

/-- Where l3With stands: what it has so far, and the thing in its box. -/
structure WL (w wr : World) (o : Op7) (v : Value) (L : List Op7) : Prop where
  row : wr.ownsRow (w.heap.size + 1) 71 7 v L.length (opCells L)
  box : wr.heap[w.heap.size]? = some (.cells #[.int .i64 o.a, .int .i64 o.b, .int .i64 o.k, .int .i64 o.c, .int .i64 o.d, .int .i64 o.s, .int .i64 o.g] 71 (0, 0))
  bel : Below w.heap.size w wr
theorem WL.lt {w wr : World} {o : Op7} {v : Value} {L : List Op7} (h : WL w wr o v L) : w.heap.size < wr.heap.size := (Array.getElem?_eq_some_iff.1 h.box).1
theorem WL.below {w wr w' : World} {o : Op7} {v : Value} {L : List Op7} (h : WL w wr o v L) (hb : Below wr.heap.size wr w') : WL w w' o v L :=
  ⟨h.row.kept (row := none) ⟨hb.os, hb.tape, hb.output, hb.size, fun i hi _ => hb.block i hi⟩ (by cases v.ownBlock <;> simp), (hb.block _ h.lt).trans h.box, Bstep h.bel hb⟩
theorem WL.app {w wr w' : World} {o : Op7} {v v' : Value} {L M : List Op7} (h : WL w wr o v L) (hg : wr.grownBy w' v.ownBlock) (hown : w'.ownsRow (w.heap.size + 1) 71 7 v' (L.length + M.length) (opCells L ++ opCells M)) : WL w w' o v' (L ++ M) :=
  ⟨by rw [opCells_app, List.length_append]; exact hown, (hg.block _ h.lt (fun e => by have := (h.row.lt _ e.symm).1; omega)).trans h.box, below_grown h.bel hg h.bel.size (fun j e => by have := (h.row.lt j e).1; omega)⟩
/-- The two cells of the thing's id. -/
theorem WL.id {w wr : World} {o : Op7} {v : Value} {L : List Op7} (h : WL w wr o v L) : wr.cell? ⟨w.heap.size, 0, none⟩ = some (.int .i64 o.a) ∧ wr.cell? ⟨w.heap.size, 1, none⟩ = some (.int .i64 o.b) ∧ wr.cell? ⟨w.heap.size, 2, none⟩ = some (.int .i64 o.k) ∧ wr.cell? ⟨w.heap.size, 3, none⟩ = some (.int .i64 o.c) ∧ wr.cell? ⟨w.heap.size, 4, none⟩ = some (.int .i64 o.d) ∧ wr.cell? ⟨w.heap.size, 5, none⟩ = some (.int .i64 o.s) ∧ wr.cell? ⟨w.heap.size, 6, none⟩ = some (.int .i64 o.g) :=
  ⟨(blkCell h.box 0).trans rfl, (blkCell h.box 1).trans rfl, (blkCell h.box 2).trans rfl, (blkCell h.box 3).trans rfl, (blkCell h.box 4).trans rfl, (blkCell h.box 5).trans rfl, (blkCell h.box 6).trans rfl⟩
/-- Of the first k those that are ahead; and those that are behind. -/
def fstL (l : List Op7) (o : Op7) (k : Nat) : List Op7 := (l.take k).filter fun p => lessB p o
def sndL (l : List Op7) (o : Op7) (k : Nat) : List Op7 := (l.take k).filter fun p => lessB o p
theorem fst_yes {l : List Op7} {o : Op7} {k : Nat} (hk : k < l.length) (h : lessB l[k] o = true) : fstL l o (k + 1) = fstL l o k ++ [l[k]] := by unfold fstL; rw [List.take_succ_eq_append_getElem hk, List.filter_append]; simp [h]
theorem fst_no {l : List Op7} {o : Op7} {k : Nat} (hk : k < l.length) (h : lessB l[k] o = false) : fstL l o (k + 1) = fstL l o k := by unfold fstL; rw [List.take_succ_eq_append_getElem hk, List.filter_append]; simp [h]
theorem snd_yes {l : List Op7} {o : Op7} {k : Nat} (hk : k < l.length) (h : lessB o l[k] = true) : sndL l o (k + 1) = sndL l o k ++ [l[k]] := by unfold sndL; rw [List.take_succ_eq_append_getElem hk, List.filter_append]; simp [h]
theorem snd_no {l : List Op7} {o : Op7} {k : Nat} (hk : k < l.length) (h : lessB o l[k] = false) : sndL l o (k + 1) = sndL l o k := by unfold sndL; rw [List.take_succ_eq_append_getElem hk, List.filter_append]; simp [h]
/-- All so far: those ahead, the thing, those behind. -/
def bothL (l : List Op7) (o : Op7) (k : Nat) : List Op7 := fstL l o l.length ++ [o] ++ sndL l o k
theorem both_yes {l : List Op7} {o : Op7} {k : Nat} (hk : k < l.length) (h : lessB o l[k] = true) : bothL l o (k + 1) = bothL l o k ++ [l[k]] := by unfold bothL; rw [snd_yes hk h, ← List.append_assoc]
theorem both_no {l : List Op7} {o : Op7} {k : Nat} (hk : k < l.length) (h : lessB o l[k] = false) : bothL l o (k + 1) = bothL l o k := by unfold bothL; rw [snd_no hk h]
theorem both_zero (l : List Op7) (o : Op7) : bothL l o 0 = fstL l o l.length ++ [o] := by simp [bothL, sndL]
theorem both_all (l : List Op7) (o : Op7) : bothL l o l.length = withL l o := by simp [bothL, fstL, sndL, withL]
theorem fst_len (l : List Op7) (o : Op7) (k : Nat) : (fstL l o k).length ≤ l.length := Nat.le_trans (List.length_filter_le _ _) (List.length_take_le' _ _)
theorem snd_len (l : List Op7) (o : Op7) (k : Nat) : (sndL l o k).length ≤ l.length := Nat.le_trans (List.length_filter_le _ _) (List.length_take_le' _ _)
theorem both_len (l : List Op7) (o : Op7) (k : Nat) : (bothL l o k).length ≤ 2 * l.length + 1 := by
  have h1 := fst_len l o l.length
  have h2 := snd_len l o k
  unfold bothL
  rw [List.length_append, List.length_append]
  simp only [List.length_cons, List.length_nil]
  omega

set_option maxRecDepth 100000 in
set_option maxHeartbeats 4000000 in
theorem l3With_any (l : List Op7) (g cap : Nat) (o : Op7) (w : World) (hl : OpsAt w g l) (hn : l.length ≤ 1048576) (hcap : l.length ≤ cap) :
    Calls Tryd.prog 56 #[.slice (some ⟨g, 0, none⟩) l.length cap, .agg #[.int .i64 o.a, .int .i64 o.b, .int .i64 o.k, .int .i64 o.c, .int .i64 o.d, .int .i64 o.s, .int .i64 o.g]] w fun e w' => ∃ G c, e = .returned (.slice (some ⟨G, 0, none⟩) (withL l o).length c) ∧ OwnOps w' w.heap.size G c (withL l o) ∧ Below w.heap.size w w' := by
  have HL := hideIt hl
  have hgw := hl.1
  clear hl
  obtain ⟨i0, hi, hz0', hz1', hz2⟩ := info_parts infoOp
  have HI1 := hideIt hi
  have HZ0 := hideIt hz0'
  have HZ1 := hideIt hz1'
  have HZ2 := hideIt hz2
  clear hi hz0' hz1' hz2
  go_enter Tryd.func56, Tryd.ntmps56
  go_wp2
  have HST : Hid (WL w ((w.alloc (.cells #[.int .i64 o.a, .int .i64 o.b, .int .i64 o.k, .int .i64 o.c, .int .i64 o.d, .int .i64 o.s, .int .i64 o.g] 71)).alloc (.cells #[] 71)) o (.slice (some ⟨w.heap.size + 1, 0, none⟩) 0 0) []) := by
    refine ⟨?_, ?_, ((Below.refl _ _).alloc (Nat.le_refl _) _).alloc (by simp) _⟩
    · have h := World.ownsRow_made (base := w.heap.size + 1) (e := 71) (size := 7) (w.alloc (.cells #[.int .i64 o.a, .int .i64 o.b, .int .i64 o.k, .int .i64 o.c, .int .i64 o.d, .int .i64 o.s, .int .i64 o.g] 71)) #[] 0 (by simp) (Nat.zero_le _) rfl
      simp only [World.size_alloc] at h
      exact h
    · exact (Below.heap_alloc _ _ _ (by simp)).trans (World.alloc_heap_new w _)
  go_loopw [5, 6] (fun v i wr => ∃ k G c : Nat, k ≤ l.length ∧ i = .int .i64 k ∧ v = .slice (some ⟨G, 0, none⟩) (fstL l o k).length c ∧ WL w wr o v (fstL l o k))
    (fun _ i _ => l.length - (intOf i).toNat)
  case atStart => exact ⟨0, _, _, Nat.zero_le _, rfl, rfl, HST.out⟩
  case round =>
    obtain ⟨k, Gb, cb, hk, rfl, rfl, hS⟩ := hrel
    have HS := hideIt hS
    have hgr : g < wr.heap.size := Nat.lt_of_lt_of_le hgw hS.bel.size
    have hwr := hS.lt
    have hfl := fst_len l o k
    clear hS
    by_cases hlt : k < l.length
    · obtain ⟨y0, y1, y2, y3, y4, y5, y6⟩ := (HL.out.below HS.out.bel hgw).2 k l[k] (by simp [hlt])
      obtain ⟨b0, b1, b2, b3, b4, b5, b6⟩ := HS.out.id
      have hpk : l[k]? = some l[k] := by simp [hlt]
      have hyes : Hid (lessB l[k] o = true → fstL l o (k + 1) = fstL l o k ++ [l[k]]) := fst_yes hlt
      have hno : Hid (lessB l[k] o = false → fstL l o (k + 1) = fstL l o k) := fst_no hlt
      generalize l[k] = p at *
      have hlt' : (k : Int) < (l.length : Int) := by omega
      have hk0 : (0 : Int) ≤ (k : Int) := by omega
      cases hz : lessB p o
      all_goals
        have HZ := hideIt hz
        clear hz
        go_wp2
        go_region_held3 (fun w' => w'.cell? ⟨g, k * 7, none⟩ = some (.int .i64 p.a) ∧ w'.cell? ⟨g, k * 7 + 1, none⟩ = some (.int .i64 p.b) ∧ w'.cell? ⟨w.heap.size, 0, none⟩ = some (.int .i64 o.a) ∧ w'.cell? ⟨w.heap.size, 1, none⟩ = some (.int .i64 o.b))
          (first | exact ⟨y0, y1, b0, b1⟩ | exact ⟨((bcell hb2).1 g _ hgr).trans y0, ((bcell hb2).1 g _ hgr).trans y1, ((bcell hb2).1 _ _ hwr).trans b0, ((bcell hb2).1 _ _ hwr).trans b1⟩)
          (first | (go_at_call 79; refine (specLess_any _ _ _ _ _).mono ?_; rintro e w2 ⟨rfl, hb2⟩; have HS2 : Hid (WL w w2 o (.slice (some ⟨Gb, 0, none⟩) (fstL l o k).length cb) (fstL l o k)) := (HS.out.below ((Below.refl _ _).drew)).below hb2; rw [show decide (p.a < o.a ∨ p.a = o.a ∧ p.b < o.b) = _ from HZ.out]))
        rename_i hHH
        clear hHH hb2 y0 y1 y2 y3 y4 y5 y6 b0 b1 b2 b3 b4 b5 b6
      · have HE := hideIt (hno.out HZ.out)
        go_wp2
        exact ⟨⟨k + 1, Gb, cb, by omega, by go_num, by rw [HE.out], by rw [HE.out]; exact HS2.out⟩, by simp [intOf]; omega⟩
      · have HE := hideIt (hyes.out HZ.out)
        obtain ⟨y0, y1, y2, y3, y4, y5, y6⟩ := (HL.out.below HS2.out.bel hgw).2 k p hpk
        have hgr2 : g < w2.heap.size := Nat.lt_of_lt_of_le hgw HS2.out.bel.size
        have hwr2 := HS2.out.lt
        go_wp2_with (first
          | (at_builtin; refine wpList_append_own_at _ rfl _ _ 24 rfl (w.heap.size + 1) 71 i0 _ 7 56 Tryd.underlying24 HI1.out HZ0.out HZ1.out HZ2.out rfl (by decide) _ _ _ rfl (HS2.out.row.alloc _) ⟨w2.heap.size, 0, none⟩ 1 1 (opCells [p]) rfl rfl (cells_new w2 (opCells [p]) 71) (opCells_one _) (by (try simp only [List.length_append, List.length_cons, List.length_nil]); unfold maxLen; omega) (by (try simp only [List.length_append, List.length_cons, List.length_nil]); omega) (by simp; omega) ?_; intro v' w3 hown3 hg3 _ _;
              obtain ⟨g', cap', hv'⟩ := ownsRow_succ hown3; subst hv';
              have HS3 := hideIt (WL.app (M := [p]) (HS2.out.below ((Below.refl _ _).alloc (Nat.le_refl _) _)) hg3 hown3); clear hown3 hg3))
        exact ⟨⟨k + 1, g', cap', by omega, by go_num, by rw [HE.out, List.length_append]; rfl, by rw [HE.out]; exact HS3.out⟩, by simp [intOf]; omega⟩
    · obtain rfl : k = l.length := by omega
      obtain ⟨b0, b1, b2, b3, b4, b5, b6⟩ := HS.out.id
      go_wp2_with (first
        | (at_builtin; refine wpList_append_own_at _ rfl _ _ 24 rfl (w.heap.size + 1) 71 i0 _ 7 56 Tryd.underlying24 HI1.out HZ0.out HZ1.out HZ2.out rfl (by decide) _ _ _ rfl (HS.out.row.alloc _) ⟨wr.heap.size, 0, none⟩ 1 1 (opCells [o]) rfl rfl (cells_new wr (opCells [o]) 71) (opCells_one _) (by unfold maxLen; omega) (by omega) (by simp; omega) ?_; intro v' w3 hown3 hg3 _ _;
            obtain ⟨g', cap', hv'⟩ := ownsRow_succ hown3; subst hv';
            have HS3 := hideIt (WL.app (M := [o]) (HS.out.below ((Below.refl _ _).alloc (Nat.le_refl _) _)) hg3 hown3); clear hown3 hg3))
      clear b0 b1 b2 b3 b4 b5 b6 hwr hgr
      have hfl' := fst_len l o l.length
      go_loopw [5, 7] (fun v i wr => ∃ k G c : Nat, k ≤ l.length ∧ i = .int .i64 k ∧ v = .slice (some ⟨G, 0, none⟩) (bothL l o k).length c ∧ WL w wr o v (bothL l o k))
        (fun _ i _ => l.length - (intOf i).toNat)
      case atStart => exact ⟨0, g', cap', Nat.zero_le _, rfl, by rw [both_zero, List.length_append]; rfl, by rw [both_zero]; exact HS3.out⟩
      case round =>
        clear HS HS3
        obtain ⟨k, Gb, cb, hk, rfl, rfl, hS⟩ := hrel
        have HS := hideIt hS
        have hgr : g < wr.heap.size := Nat.lt_of_lt_of_le hgw hS.bel.size
        have hwr := hS.lt
        have hsl := both_len l o k
        clear hS
        by_cases hlt : k < l.length
        · obtain ⟨y0, y1, y2, y3, y4, y5, y6⟩ := (HL.out.below HS.out.bel hgw).2 k l[k] (by simp [hlt])
          obtain ⟨b0, b1, b2, b3, b4, b5, b6⟩ := HS.out.id
          have hpk : l[k]? = some l[k] := by simp [hlt]
          have hyes : Hid (lessB o l[k] = true → bothL l o (k + 1) = bothL l o k ++ [l[k]]) := both_yes hlt
          have hno : Hid (lessB o l[k] = false → bothL l o (k + 1) = bothL l o k) := both_no hlt
          generalize l[k] = p at *
          have hlt' : (k : Int) < (l.length : Int) := by omega
          have hk0 : (0 : Int) ≤ (k : Int) := by omega
          cases hz : lessB o p
          all_goals
            have HZ := hideIt hz
            clear hz
            go_wp2
            go_region_held3 (fun w' => w'.cell? ⟨g, k * 7, none⟩ = some (.int .i64 p.a) ∧ w'.cell? ⟨g, k * 7 + 1, none⟩ = some (.int .i64 p.b) ∧ w'.cell? ⟨w.heap.size, 0, none⟩ = some (.int .i64 o.a) ∧ w'.cell? ⟨w.heap.size, 1, none⟩ = some (.int .i64 o.b))
              (first | exact ⟨y0, y1, b0, b1⟩ | exact ⟨((bcell hb2).1 g _ hgr).trans y0, ((bcell hb2).1 g _ hgr).trans y1, ((bcell hb2).1 _ _ hwr).trans b0, ((bcell hb2).1 _ _ hwr).trans b1⟩)
              (first | (go_at_call 79; refine (specLess_any _ _ _ _ _).mono ?_; rintro e w2 ⟨rfl, hb2⟩; have HS2 : Hid (WL w w2 o (.slice (some ⟨Gb, 0, none⟩) (bothL l o k).length cb) (bothL l o k)) := (HS.out.below ((Below.refl _ _).drew)).below hb2; rw [show decide (o.a < p.a ∨ o.a = p.a ∧ o.b < p.b) = _ from HZ.out]))
            rename_i hHH
            clear hHH hb2 y0 y1 y2 y3 y4 y5 y6 b0 b1 b2 b3 b4 b5 b6
          · have HE := hideIt (hno.out HZ.out)
            go_wp2
            exact ⟨⟨k + 1, Gb, cb, by omega, by go_num, by rw [HE.out], by rw [HE.out]; exact HS2.out⟩, by simp [intOf]; omega⟩
          · have HE := hideIt (hyes.out HZ.out)
            obtain ⟨y0, y1, y2, y3, y4, y5, y6⟩ := (HL.out.below HS2.out.bel hgw).2 k p hpk
            have hgr2 : g < w2.heap.size := Nat.lt_of_lt_of_le hgw HS2.out.bel.size
            have hwr2 := HS2.out.lt
            go_wp2_with (first
              | (at_builtin; refine wpList_append_own_at _ rfl _ _ 24 rfl (w.heap.size + 1) 71 i0 _ 7 56 Tryd.underlying24 HI1.out HZ0.out HZ1.out HZ2.out rfl (by decide) _ _ _ rfl (HS2.out.row.alloc _) ⟨w2.heap.size, 0, none⟩ 1 1 (opCells [p]) rfl rfl (cells_new w2 (opCells [p]) 71) (opCells_one _) (by (try simp only [List.length_append, List.length_cons, List.length_nil]); unfold maxLen; omega) (by (try simp only [List.length_append, List.length_cons, List.length_nil]); omega) (by simp; omega) ?_; intro v' w3 hown3 hg3 _ _;
                  obtain ⟨g', cap', hv'⟩ := ownsRow_succ hown3; subst hv';
                  have HS3 := hideIt (WL.app (M := [p]) (HS2.out.below ((Below.refl _ _).alloc (Nat.le_refl _) _)) hg3 hown3); clear hown3 hg3))
            exact ⟨⟨k + 1, g', cap', by omega, by go_num, by rw [HE.out, List.length_append]; rfl, by rw [HE.out]; exact HS3.out⟩, by simp [intOf]; omega⟩
        · obtain rfl : k = l.length := by omega
          go_wp2
          go_ret
          have hE := both_all l o
          have hR := HS.out.row
          rw [hE] at hR
          rw [hE]
          exact ⟨_, _, rfl, ownsRow_base (Nat.le_succ _) hR, HS.out.bel⟩
end Go.Proofs.YtficnhlkefpfnaaDoor

namespace Go.Proofs.YtficnhlkefpfnaaDoor
open Go.RowKit
set_option linter.unusedSimpArgs false
set_option linter.unusedVariables false

theorem add_plain (g j : Nat) : (⟨g, 0, none⟩ : Addr).add j = ⟨g, j, none⟩ := by
  unfold Addr.add
  split <;> simp_all
/-- What is copied from a block of things. -/
theorem OpsAt.cells {w : World} {g : Nat} {l : List Op7} (h : OpsAt w g l) : ∀ j u, (opCells l)[j]? = some u → w.cell? ((⟨g, 0, none⟩ : Addr).add j) = some u := by
  intro j u hj
  rw [add_plain]
  have hlt : j < l.length * 7 := by
    have := (List.getElem?_eq_some_iff.1 hj).1
    rwa [opCells_len] at this
  have hi : j / 7 < l.length := by omega
  have hx : l[j / 7]? = some l[j / 7] := by simp [hi]
  obtain ⟨h0, h1, h2, h3, h4, h5, h6⟩ := h.2 _ _ hx
  obtain ⟨o0, o1, o2, o3, o4, o5, o6⟩ := opCells_at l _ _ hx
  have hq : j % 7 = 0 ∨ j % 7 = 1 ∨ j % 7 = 2 ∨ j % 7 = 3 ∨ j % 7 = 4 ∨ j % 7 = 5 ∨ j % 7 = 6 := by omega
  have hd : j = j / 7 * 7 + j % 7 := by omega
  rcases hq with e | e | e | e | e | e | e <;> rw [e] at hd <;> (try simp only [Nat.add_zero] at hd) <;> rw [hd] at hj ⊢
  · rw [o0] at hj; rw [h0]; exact hj
  · rw [o1] at hj; rw [h1]; exact hj
  · rw [o2] at hj; rw [h2]; exact hj
  · rw [o3] at hj; rw [h3]; exact hj
  · rw [o4] at hj; rw [h4]; exact hj
  · rw [o5] at hj; rw [h5]; exact hj
  · rw [o6] at hj; rw [h6]; exact hj
end Go.Proofs.YtficnhlkefpfnaaDoor

namespace Go.Proofs.YtficnhlkefpfnaaDoor
open Go.RowKit
/-- A thing stored whole into its new box. -/
theorem store_op_new (w : World) (a1 a2 a3 a4 a5 a6 a7 : Int) : (Instr.storeAt 71 (.pointer (some ⟨w.heap.size, 0, none⟩)) (.agg #[.int .i64 a1, .int .i64 a2, .int .i64 a3, .int .i64 a4, .int .i64 a5, .int .i64 a6, .int .i64 a7])).run Tryd.prog (w.alloc (.cells #[.int .i64 0, .int .i64 0, .int .i64 0, .int .i64 0, .int .i64 0, .int .i64 0, .int .i64 0] 71)) = .ok () (w.alloc (.cells #[.int .i64 a1, .int .i64 a2, .int .i64 a3, .int .i64 a4, .int .i64 a5, .int .i64 a6, .int .i64 a7] 71)) :=
  run_storeAt_new w 71 #[.int .i64 0, .int .i64 0, .int .i64 0, .int .i64 0, .int .i64 0, .int .i64 0, .int .i64 0] #[.int .i64 a1, .int .i64 a2, .int .i64 a3, .int .i64 a4, .int .i64 a5, .int .i64 a6, .int .i64 a7] (by kernel_rfl) rfl (by simp [Value.oneCell'])
end Go.Proofs.YtficnhlkefpfnaaDoor

namespace Go.Proofs.YtficnhlkefpfnaaDoor
open Go.RowKit
set_option linter.unusedSimpArgs false
set_option linter.unusedVariables false
attribute [local go_sem ↓] Go.wp_at_zero Go.wp_at_succ store_op_new
attribute [-go_sem] Instr.storeAt

theorem withL_len (l : List Op7) (o : Op7) : (withL l o).length ≤ 2 * l.length + 1 := by
  have h := both_len l o l.length
  rw [both_all] at h
  exact h
theorem mayPut_ok {l : List Op7} {r t sg : Int} (h : mayPut l r t sg = true) : opsB l = true := by
  simp only [mayPut, mayMore, Bool.and_eq_true] at h
  exact h.1.1.1

set_option maxRecDepth 100000 in
set_option maxHeartbeats 2000000 in
theorem typeRun_any (l : List Op7) (g cap : Nat) (r t : Int) (s : ByteArray) (w : World) (hl : OpsAt w g l) (hn : l.length ≤ 1048576) (hcap : l.length ≤ cap) (hs : s.size ≤ 1048576) :
    Calls Tryd.prog 14 #[.slice (some ⟨g, 0, none⟩) l.length cap, .int .i64 r, .int .i64 t, .string s] w fun e w' =>
      ∃ G c L z, e = .returned (.tuple #[.slice (some ⟨G, 0, none⟩) L.length c, .bool z]) ∧ OwnOps w' w.heap.size G c L ∧ L.length ≤ 73 ∧ Below w.heap.size w w' := by
  have HL := hideIt hl
  have hgw := hl.1
  clear hl
  obtain ⟨i0, hi, hz0', hz1', hz2⟩ := info_parts infoOp
  have HI1 := hideIt hi
  have HZ0 := hideIt hz0'
  have HZ1 := hideIt hz1'
  have HZ2 := hideIt hz2
  clear hi hz0' hz1' hz2
  cases ho : opsB l
  all_goals
    have HO := hideIt ho
    clear ho
    go_enter Tryd.func14, Tryd.ntmps14
    go_wp2_with fail
    refine (specOps_any l _ _ _ HL.out hn hcap).mono ?_
    rintro e w1 ⟨rfl, hb1⟩
    rw [HO.out]
    have HB1 := hideIt hb1
    have HL1 := hideIt (HL.out.below hb1 hgw)
    clear hb1
  · go_wp2
    exact bodyPost_ret (v := .tuple #[.slice (some ⟨w1.heap.size, 0, none⟩) 0 0, .bool false]) (by simp [results, Tryd.results14, go_sem]) rfl ⟨_, _, [], _, rfl, World.ownsRow_made (base := w.heap.size) (e := 71) (size := 7) w1 #[] 0 HB1.out.size (Nat.zero_le _) rfl, by simp, HB1.out.alloc HB1.out.size _⟩
  · have h36 := ops_36 HO.out
    have hz1 := HB1.out.size
    have HST : Hid ((w1.alloc (.cells #[] 71)).ownsRow w.heap.size 71 7 (.slice (some ⟨w1.heap.size, 0, none⟩) 0 0) 0 []) :=
      World.ownsRow_made (base := w.heap.size) (e := 71) (size := 7) w1 #[] 0 HB1.out.size (Nat.zero_le _) rfl
    have HC := hideIt (HL1.out.below ((Below.refl _ _).alloc (Nat.le_refl _) (.cells #[] 71)) HL1.out.1).cells
    go_wp2_with (first
      | (at_builtin; refine wpList_append_own_at _ rfl _ _ 24 rfl w.heap.size 71 i0 _ 7 56 Tryd.underlying24 HI1.out HZ0.out HZ1.out HZ2.out rfl (by decide) _ _ _ rfl HST.out ⟨g, 0, none⟩ l.length cap (opCells l) rfl (opCells_len l) HC.out (opCells_one _) (by unfold maxLen; omega) (by omega) (by simp; omega) ?_; intro v' w3 hown3 hg3 hnil3 _))
    have HS0 : Hid (∃ G c, v' = .slice (some ⟨G, 0, none⟩) l.length c ∧ OwnOps w3 w.heap.size G c l) := by
      show ∃ G c, _
      rw [Nat.zero_add, List.nil_append] at hown3
      rcases hown3.2 with ⟨e, _⟩ | ⟨G, c, cur, e, _⟩
      · exact absurd (hnil3.1 e).1 (fun h => by cases h)
      · subst e; exact ⟨G, c, rfl, hown3⟩
    have HB3 := hideIt (below_grown (HB1.out.alloc HB1.out.size _) hg3 (by simp; omega) (fun j e => (HST.out.lt j e).1))
    clear hown3 hg3 hnil3
    go_loopw [10, 11] (fun v i wr => ∃ (k G c : Nat) (L : List Op7), k ≤ s.size ∧ i = .int .i64 k ∧ v = .slice (some ⟨G, 0, none⟩) L.length c ∧ OwnOps wr w.heap.size G c L ∧ L.length ≤ 73 ∧ Below w.heap.size w wr)
      (fun _ i _ => s.size - (intOf i).toNat)
    case atStart =>
      obtain ⟨G, c, e, h⟩ := HS0.out
      exact ⟨0, G, c, l, Nat.zero_le _, rfl, e, h, by omega, HB3.out⟩
    case round =>
      obtain ⟨k, G, c, L, hk, rfl, rfl, hS, hL73, hB⟩ := hrel
      have HS := hideIt hS
      have HB := hideIt hB
      have hzr := hB.size
      clear hS hB HS0 HB3
      by_cases hlt : k < s.size
      · have hlt' : (k : Int) < (s.size : Int) := by omega
        have hk0 : (0 : Int) ≤ (k : Int) := by omega
        by_cases h12 : 12 ≤ k
        · have h12' : (12 : Int) ≤ (k : Int) := by omega
          go_wp2
          exact bodyPost_ret (v := .tuple #[.slice (some ⟨wr.heap.size, 0, none⟩) 0 0, .bool false]) (by simp [results, Tryd.results14, go_sem]) rfl ⟨_, _, [], _, rfl, World.ownsRow_made (base := w.heap.size) (e := 71) (size := 7) wr #[] 0 HB.out.size (Nat.zero_le _) rfl, by simp, HB.out.alloc HB.out.size _⟩
        · have h12' : ¬ ((12 : Int) ≤ (k : Int)) := by omega
          go_wp2_with fail
          refine (typePut_any L G c r _ _ wr HS.out.at (by omega) HS.out.cap).mono ?_
          rintro e w4 ⟨(⟨hm, rfl⟩ | ⟨hm, rfl⟩), hb4⟩
          · have HB4 := hideIt (Bstep HB.out hb4)
            have hz4 := HB4.out.size
            clear hb4 hm
            have HM : Hid ((((w4.alloc (.cells #[.int .i64 0, .int .i64 0, .int .i64 0, .int .i64 0, .int .i64 0, .int .i64 0, .int .i64 0] 71)).alloc (.cells #[] 71))).ownsRow w.heap.size 71 7 (.slice (some ⟨w4.heap.size + 1, 0, none⟩) 0 0) 0 []) := by
              have h := World.ownsRow_made (base := w.heap.size) (e := 71) (size := 7) (w4.alloc (.cells #[.int .i64 0, .int .i64 0, .int .i64 0, .int .i64 0, .int .i64 0, .int .i64 0, .int .i64 0] 71)) #[] 0 (by simp; omega) (Nat.zero_le _) rfl
              rw [World.size_alloc] at h
              exact h
            go_wp2
            exact bodyPost_ret (v := .tuple #[.slice (some ⟨w4.heap.size + 1, 0, none⟩) 0 0, .bool false]) (by simp [results, Tryd.results14, go_sem]) rfl ⟨_, _, [], _, rfl, HM.out, by simp, (HB4.out.alloc HB4.out.size _).alloc (by simp; omega) _⟩
          · have h36L := ops_36 (mayPut_ok hm)
            have HB4 := hideIt (Bstep HB.out hb4)
            have HS4 := hideIt (HS.out.below hb4)
            have hz4 := HB4.out.size
            clear hb4 hm
            generalize putO L r _ _ = o
            unfold opV
            go_wp2_with fail
            refine (l3With_any L G c o _ (HS4.out.below ((Below.refl _ _).alloc (Nat.le_refl _) _)).at (by omega) HS4.out.cap).mono ?_
            rintro e w5 ⟨G5, c5, rfl, hS5, hb5⟩
            have HS5 : Hid (OwnOps w5 w.heap.size G5 c5 (withL L o)) := ownsRow_base (by simp; omega) hS5
            have HB5 := hideIt (Bstep (HB4.out.alloc HB4.out.size _) hb5)
            have hwl := withL_len L o
            clear hS5 hb5
            go_wp2
            exact ⟨⟨k + 1, G5, c5, withL L o, by omega, by go_num, rfl, HS5.out, by omega, HB5.out⟩, by simp [intOf]; omega⟩
      · obtain rfl : k = s.size := by omega
        go_wp2
        exact bodyPost_ret (v := .tuple #[.slice (some ⟨G, 0, none⟩) L.length c, .bool true]) (by simp [results, Tryd.results14, go_sem]) rfl ⟨_, _, L, _, rfl, HS.out, hL73, HB.out⟩
end Go.Proofs.YtficnhlkefpfnaaDoor

namespace Go.Proofs.YtficnhlkefpfnaaDoor
open Go.RowKit
set_option linter.unusedSimpArgs false
set_option linter.unusedVariables false
attribute [local go_sem ↓] Go.wp_at_zero Go.wp_at_succ

/-- Where the thing of an id stands, if what was done is ok. -/
def findB (l : List Op7) (r m : Int) : Int := if opsB l = true then findI l r m else -1
theorem opsB_parts {l : List Op7} (h : opsB l = true) : l.all okO = true ∧ ordB l = true := by
  unfold opsB at h
  simp only [Bool.and_eq_true] at h
  exact ⟨h.1, h.2.1⟩


theorem keepF {w w1 w2 : World} {u v : Value} (hb : Below w1.heap.size w1 w2)
    (h : w1.cell? ⟨w.heap.size, 0, none⟩ = some u ∧ w1.cell? ⟨w.heap.size, 1, none⟩ = some v ∧ w.heap.size < w1.heap.size ∧ Below w.heap.size w w1) :
    w2.cell? ⟨w.heap.size, 0, none⟩ = some u ∧ w2.cell? ⟨w.heap.size, 1, none⟩ = some v ∧ w.heap.size < w2.heap.size ∧ Below w.heap.size w w2 := by
  obtain ⟨h1, h2, h4, h5⟩ := h
  obtain ⟨hc, _⟩ := bcell hb
  exact ⟨(hc _ _ h4).trans h1, (hc _ _ h4).trans h2, Nat.lt_of_lt_of_le h4 hb.size, Bstep h5 hb⟩

set_option maxRecDepth 100000 in
set_option maxHeartbeats 1000000 in
theorem implFind_any (l : List Op7) (g cap : Nat) (r m : Int) (x : Addr) (w : World) (hl : OpsAt w g l) (hn : l.length ≤ 1048576) (hcap : l.length ≤ cap)
    (he : w.cell? ⟨0, 0, none⟩ = some (.iface 200 (.pointer (some x)))) (h0 : 0 < w.heap.size) :
    Calls Tryd.prog 111 #[.slice (some ⟨g, 0, none⟩) l.length cap, .agg #[.int .i64 r, .int .i64 m]] w fun e w' => e = .returned (.int .i64 (findB l r m)) ∧ Below w.heap.size w w' := by
  have HL := hideIt hl
  have hgw := hl.1
  clear hl
  go_enter Tryd.func111, Tryd.ntmps111
  go_wp2_with fail
  have HB0 : Hid (Below w.heap.size w (w.alloc (.cells #[.int .i64 r, .int .i64 m] 69))) := (Below.refl _ _).alloc (Nat.le_refl _) _
  refine (things_any l g cap x _ (HL.out.below HB0.out hgw) hn hcap (errB HB0.out h0 he) (posB HB0.out h0)).mono ?_
  rintro e w1 ⟨(⟨ht, M, hMM, rfl, hT⟩ | ⟨ht, rfl⟩), hb1⟩
  all_goals
    have HT := hideIt (ht.symm.trans (th_same l))
    have HB1 : Hid (Below w.heap.size w w1) := HB0.out.trans (hb1.mono (by simp))
    have herr1 : w1.cell? ⟨0, 0, none⟩ = some (.iface 200 (.pointer (some x))) := errB HB1.out h0 he
    have k0 : w1.cell? ⟨w.heap.size, 0, none⟩ = some (.int .i64 r) := by rw [(bcell hb1).1 _ _ (by simp)]; simp [go_sem]
    have k1 : w1.cell? ⟨w.heap.size, 1, none⟩ = some (.int .i64 m) := by rw [(bcell hb1).1 _ _ (by simp)]; simp [go_sem]
    have hz1 : w.heap.size < w1.heap.size := by have := hb1.size; simp at this; omega
    clear ht hb1
  · have HTT := hideIt hT
    have hM1 : M < w1.heap.size := hT.1
    obtain ⟨hok, hord⟩ := opsB_parts HT.out.symm
    have HOK := hideIt hok
    have HPL : Hid (placeI (cnt l 1) (cnt l 2) (cnt l 3) r m = findB l r m) := by
      show placeI _ _ _ _ _ = _
      rw [← find_place hok hord]; unfold findB; rw [← HT.out]; rfl
    have hlen := len_le hok hord
    have b1 : Hid ((0 ≤ cnt l 1 ∧ cnt l 1 ≤ 1048576) ∧ (0 ≤ cnt l 2 ∧ cnt l 2 ≤ 1048576)) := by
      have h1 := cnt_nonneg l 1
      have h2 := cnt_nonneg l 2
      have h3 := cnt_nonneg l 3
      have h4 := cnt_sum l
      exact ⟨⟨by omega, by omega⟩, ⟨by omega, by omega⟩⟩
    clear hT hok hord hMM
    go_wp2_with (first | (go_at_call 98; refine (is_nil x _).mono ?_; rintro e w'' ⟨rfl, rfl⟩))
    go_region_held3 (fun w' => w'.cell? ⟨w.heap.size, 0, none⟩ = some (.int .i64 r) ∧ w'.cell? ⟨w.heap.size, 1, none⟩ = some (.int .i64 m) ∧ w.heap.size < w'.heap.size ∧ Below w.heap.size w w')
      (first | exact keepF hb2 (by with_reducible assumption) | exact ⟨k0, k1, hz1, HB1.out.drew⟩)
      (first
        | (go_at_call 104; refine (count_any l M l.length _ (HTT.out.below ((Below.refl _ _).drew) hM1) hn (Nat.le_refl _) HOK.out).mono ?_; rintro e w2 ⟨rfl, hse, hfz2, hb2⟩; have HSE := hideIt hse; clear hse hfz2)
        | (go_at_call 129; refine (place_any _ _ _ _ _ _ _ HSE.out b1.out.1 b1.out.2).mono ?_; rintro e w3 ⟨rfl, hb2⟩; rw [HPL.out]))
    rename_i hS
    have HB3 := hideIt hS.2.2.2
    clear hS hb2
    go_wp2
    go_ret
    exact ⟨rfl, HB3.out⟩
  · go_wp2_with (first | (go_at_call 98; refine (is_same x _).mono ?_; rintro e w'' ⟨rfl, rfl⟩))
    go_ret
    exact ⟨ret_int (by unfold findB; rw [← HT.out]; rfl), HB1.out⟩
end Go.Proofs.YtficnhlkefpfnaaDoor

namespace Go.Proofs.YtficnhlkefpfnaaDoor
open Go.RowKit
set_option linter.unusedSimpArgs false
set_option linter.unusedVariables false

theorem opsB_all {l : List Op7} (h : opsB l = true) : l.all okO = true ∧ ordB l = true ∧ l.all (refsB l) = true ∧ l.all (deepF l (l.length + 1)) = true := by
  unfold opsB at h
  simp only [Bool.and_eq_true] at h
  exact ⟨h.1, h.2.1, h.2.2.1, h.2.2.2⟩
theorem next_mem {l : List Op7} {o p : Op7} (h : nextO l o = some p) : p ∈ l ∧ p.a = o.c ∧ p.b = o.d := by
  rw [nextO_find'] at h
  have h1 := List.mem_of_find?_eq_some h
  have h2 := List.find?_some h
  simp [hasId] at h2
  exact ⟨h1, h2.1, h2.2⟩
theorem deep_up {l : List Op7} (hr : l.all (refsB l) = true) : ∀ (n : Nat) (o : Op7), o ∈ l → deepF l n o = true → ∃ d, Up l d (o.c, o.d) := by
  intro n
  induction n with
  | zero => intro o _ h; simp [deepF] at h
  | succ n ih =>
    intro o ho h
    unfold deepF at h
    cases hb : noB o.c o.d
    · rw [hb] at h
      cases hx : nextO l o with
      | none => rw [hx] at h; simp at h
      | some p =>
        rw [hx] at h
        obtain ⟨hm, ha, hb'⟩ := next_mem hx
        have hk : p.k = 1 := by
          have := List.all_eq_true.1 hr o ho
          unfold refsB at this
          rw [hb, hx] at this
          simpa using this
        obtain ⟨d, hd⟩ := ih p hm (by simpa using h)
        have := Up.step hm hk hd
        rw [ha, hb'] at this
        exact ⟨d + 1, this⟩
    · unfold noB at hb
      have := of_decide_eq_true hb
      rw [this.1, this.2]
      exact ⟨0, Up.zero⟩
theorem put_up {l : List Op7} (h : opsB l = true) {o : Op7} (ho : o ∈ l) : ∃ d, Up l d (o.c, o.d) := by
  obtain ⟨_, _, h3, h4⟩ := opsB_all h
  exact deep_up h3 _ o ho (List.all_eq_true.1 h4 o ho)
theorem kid_of {l : List Op7} {o : Op7} (ho : o ∈ l) (hk : o.k = 1) : o ∈ kidsL l (o.c, o.d, o.s) := by
  unfold kidsL
  rw [List.mem_filter]
  exact ⟨ho, by simp [isKid, hk]⟩
theorem side_kid {l : List Op7} {n : Nat} {x : Int × Int × Int} {o : Op7} (ho : o ∈ kidsL l x) : o ∈ sideO l (n + 1) x ∧ ∀ s, s = 0 ∨ s = 1 → ∀ y ∈ sideO l n (o.a, o.b, s), y ∈ sideO l (n + 1) x := by
  rw [show sideO l (n + 1) x = (kidsL l x).flatMap fun o => sideO l n (o.a, o.b, 0) ++ o :: sideO l n (o.a, o.b, 1) from rfl]
  refine ⟨List.mem_flatMap.2 ⟨o, ho, by simp⟩, fun s hs y hy => List.mem_flatMap.2 ⟨o, ho, ?_⟩⟩
  rcases hs with rfl | rfl
  · exact List.mem_append.2 (.inl hy)
  · exact List.mem_append.2 (.inr (List.mem_cons_of_mem _ hy))
theorem put_side {l : List Op7} (h : opsB l = true) {o : Op7} (ho : o ∈ l) (hk : o.k = 1) : (o.c = 0 ∧ o.d = 0 ∧ o.s = 1) ∨ (1 ≤ o.c ∧ (o.s = 0 ∨ o.s = 1)) := by
  have := List.all_eq_true.1 (opsB_all h).1 o ho
  unfold okO at this
  rw [opB_true] at this
  omega
theorem up_all {l : List Op7} (h : opsB l = true) : ∀ (d : Nat) (o : Op7), o ∈ l → o.k = 1 → Up l d (o.c, o.d) → o ∈ allO l ∧ ∀ s, s = 0 ∨ s = 1 → ∀ y ∈ sideO l (l.length + 2 - (d + 1)) (o.a, o.b, s), y ∈ allO l := by
  intro d
  induction d with
  | zero =>
    intro o ho hk hu
    have e : o.c = 0 ∧ o.d = 0 := by
      rcases up_inv hu with ⟨_, hx⟩ | ⟨e, p, he, _⟩
      · exact ⟨congrArg Prod.fst hx, congrArg Prod.snd hx⟩
      · omega
    have hs : o.s = 1 := by
      rcases put_side h ho hk with ⟨_, _, h⟩ | ⟨h, _⟩
      · exact h
      · omega
    have hkid := kid_of ho hk
    rw [e.1, e.2, hs] at hkid
    exact side_kid (n := l.length + 1) hkid
  | succ d ih =>
    intro o ho hk hu
    have hle := up_le h (Up.step ho hk hu)
    rcases up_inv hu with ⟨h0, _⟩ | ⟨e, p, he, hm, hpk, hu', hx⟩
    · omega
    · obtain rfl : e = d := by omega
      have ha : o.c = p.a := congrArg Prod.fst hx
      have hb : o.d = p.b := congrArg Prod.snd hx
      have hpp := op_pos (opsB_all h).1 hm
      have hs : o.s = 0 ∨ o.s = 1 := by
        rcases put_side h ho hk with ⟨_, _, h⟩ | ⟨_, h⟩
        · exact .inr h
        · exact h
      obtain ⟨_, hsub⟩ := ih p hm hpk hu'
      have hkid := kid_of ho hk
      rw [ha, hb] at hkid
      have e1 : l.length + 2 - (e + 1) = (l.length + 2 - (e + 1 + 1)) + 1 := by omega
      rw [e1] at hsub
      obtain ⟨h1, h2⟩ := side_kid (n := l.length + 2 - (e + 1 + 1)) hkid
      exact ⟨hsub o.s hs o h1, fun s hs' y hy => hsub o.s hs y (h2 s hs' y hy)⟩
/-- What was put stands. -/
theorem all_mem {l : List Op7} (h : opsB l = true) {o : Op7} (ho : o ∈ l) (hk : o.k = 1) : o ∈ allO l := by
  obtain ⟨d, hd⟩ := put_up h ho
  exact (up_all h d o ho hk hd).1
theorem side_put {l : List Op7} (n : Nat) {x : Int × Int × Int} {p : Op7} (h : p ∈ sideO l n x) : p ∈ l ∧ p.k = 1 := by
  obtain ⟨j, hj⟩ := side_desc n h
  clear h
  induction j generalizing x with
  | zero =>
    simp only [Desc] at hj
    obtain ⟨h1, h2, _⟩ := mem_kids hj
    exact ⟨h1, h2⟩
  | succ j ih =>
    simp only [Desc] at hj
    obtain ⟨o, s, _, h⟩ := hj
    exact ih h
/-- Those that stand are those that were put. -/
theorem all_perm {l : List Op7} (h : opsB l = true) : (allO l).Perm (l.filter fun o => o.k == 1) := by
  have hl : l.Nodup := nodup_of_once (once_of (opsB_all h).1 (opsB_all h).2.1)
  refine (List.perm_ext_iff_of_nodup (nodup_all h) (hl.filter _)).2 fun o => ⟨fun ho => ?_, fun ho => ?_⟩
  · obtain ⟨h1, h2⟩ := side_put _ ho
    exact List.mem_filter.2 ⟨h1, by simp [h2]⟩
  · obtain ⟨h1, h2⟩ := List.mem_filter.1 ho
    exact all_mem h h1 (by simpa using h2)
end Go.Proofs.YtficnhlkefpfnaaDoor

namespace Go.Proofs.YtficnhlkefpfnaaDoor
open Go.RowKit
set_option linter.unusedSimpArgs false
set_option linter.unusedVariables false

theorem flatMap_sub {α β : Type} {f g : α → List β} : ∀ {A B : List α}, A.Sublist B → (∀ a, (f a).Sublist (g a)) → (A.flatMap f).Sublist (B.flatMap g) := by
  intro A B h hf
  induction h with
  | slnil => exact List.Sublist.refl _
  | cons a _ ih => rw [List.flatMap_cons]; exact ih.trans (List.sublist_append_right _ _)
  | cons_cons a _ ih => rw [List.flatMap_cons, List.flatMap_cons]; exact (hf a).append ih
theorem side_sub {l l' : List Op7} (h : l.Sublist l') : ∀ (n n' : Nat), n ≤ n' → ∀ x, (sideO l n x).Sublist (sideO l' n' x) := by
  intro n
  induction n with
  | zero => intro n' _ x; exact List.nil_sublist _
  | succ n ih =>
    intro n' hn x
    obtain ⟨m, rfl⟩ : ∃ m, n' = m + 1 := ⟨n' - 1, by omega⟩
    show ((kidsL l x).flatMap _).Sublist ((kidsL l' x).flatMap _)
    exact flatMap_sub (h.filter _) fun o => (ih m (by omega) _).append ((ih m (by omega) _).cons_cons o)
theorem all_sub {l l' : List Op7} (h : l.Sublist l') : (allO l).Sublist (allO l') := side_sub h _ _ (by have := h.length_le; omega) _
/-- In a row that stands once, what stands in a part of it in order stands so in it. -/
theorem sub_at {α : Type} {A B : List α} (h : A.Sublist B) (hn : B.Nodup) {i j a b : Nat} {p q : α} (hi : A[i]? = some p) (hj : A[j]? = some q) (ha : B[a]? = some p) (hb : B[b]? = some q) (hij : i < j) : a < b := by
  obtain ⟨is, rfl, hp⟩ := List.sublist_eq_map_getElem h
  rw [List.getElem?_map] at hi hj
  obtain ⟨u, hu, rfl⟩ := Option.map_eq_some_iff.1 hi
  obtain ⟨v, hv, rfl⟩ := Option.map_eq_some_iff.1 hj
  have hu' : a = u := (List.getElem?_inj (List.getElem?_eq_some_iff.1 ha).1 hn).1 (ha.trans (by simp))
  have hv' : b = v := (List.getElem?_inj (List.getElem?_eq_some_iff.1 hb).1 hn).1 (hb.trans (by simp))
  obtain ⟨h1, h1'⟩ := List.getElem?_eq_some_iff.1 hu
  obtain ⟨h2, h2'⟩ := List.getElem?_eq_some_iff.1 hv
  have := List.pairwise_iff_getElem.1 hp i j h1 h2 hij
  rw [h1', h2'] at this
  omega
theorem gone_sub {l l' : List Op7} (h : l.Sublist l') {x : Int × Int} (hg : goneB l x = true) : goneB l' x = true := by
  unfold goneB at *
  obtain ⟨o, ho, hb⟩ := List.any_eq_true.1 hg
  exact List.any_eq_true.2 ⟨o, h.mem ho, hb⟩
/-- They stand by their ids. -/
theorem ops_sorted {l : List Op7} (h : opsB l = true) : l.Pairwise fun p q => lessB p q = true := by
  obtain ⟨hok, hord⟩ := opsParts h
  have hnext : ∀ i (h1 : i + 1 < l.length), lessB l[i] l[i + 1] = true := fun i h1 => by
    have := ord_iff.1 hord (i + 1) h1
    rw [step_succ h1] at this
    unfold stepB at this
    have := of_decide_eq_true this
    unfold lessB
    exact decide_eq_true (by omega)
  have htr : ∀ p q r : Op7, lessB p q = true → lessB q r = true → lessB p r = true := fun p q r h1 h2 => by
    unfold lessB at *
    have := of_decide_eq_true h1
    have := of_decide_eq_true h2
    exact decide_eq_true (by omega)
  refine List.pairwise_iff_getElem.2 fun i j hi hj hij => ?_
  obtain ⟨e, rfl⟩ : ∃ e, j = i + 1 + e := ⟨j - i - 1, by omega⟩
  clear hij
  induction e with
  | zero => exact hnext i hj
  | succ e ih => exact htr _ _ _ (ih (by omega)) (hnext (i + 1 + e) (by omega))
theorem withL_split {l : List Op7} (hs : l.Pairwise fun p q => lessB p q = true) {o : Op7} (hno : ∀ p ∈ l, ¬ (p.a = o.a ∧ p.b = o.b)) : ∃ A B, l = A ++ B ∧ withL l o = A ++ o :: B := by
  induction l with
  | nil => exact ⟨[], [], rfl, rfl⟩
  | cons p r ih =>
    obtain ⟨h1, h2⟩ := List.pairwise_cons.1 hs
    obtain ⟨A, B, hr, hw⟩ := ih h2 (fun q hq => hno q (by simp [hq]))
    have hp := hno p (by simp)
    by_cases hl : lessB p o = true
    · refine ⟨p :: A, B, by rw [hr]; rfl, ?_⟩
      have hno' : lessB o p = false := by
        unfold lessB at *
        have := of_decide_eq_true hl
        exact decide_eq_false (by omega)
      have e : withL (p :: r) o = p :: withL r o := by
        unfold withL
        rw [List.filter_cons_of_pos (by simp [hl]), List.filter_cons_of_neg (by simp [hno'])]
        simp
      rw [e, hw]
      rfl
    · have hl' : lessB o p = true := by
        unfold lessB at *
        have := of_decide_eq_false (Bool.eq_false_iff.2 hl)
        exact decide_eq_true (by omega)
      have hall : ∀ q ∈ r, lessB o q = true ∧ lessB q o = false := fun q hq => by
        have := h1 q hq
        unfold lessB at *
        have h3 := of_decide_eq_true this
        have h4 := of_decide_eq_true hl'
        exact ⟨decide_eq_true (by omega), decide_eq_false (by omega)⟩
      refine ⟨[], p :: r, rfl, ?_⟩
      unfold withL
      rw [List.filter_cons_of_neg (by simpa using hl), List.filter_cons_of_pos (by simp [hl']), List.filter_eq_nil_iff.2 (fun q hq => by simp [(hall q hq).2]), List.filter_eq_self.2 (fun q hq => (hall q hq).1)]
      rfl
theorem withL_sub {l : List Op7} (h : opsB l = true) {o : Op7} (hno : ∀ p ∈ l, ¬ (p.a = o.a ∧ p.b = o.b)) : l.Sublist (withL l o) := by
  obtain ⟨A, B, h1, h2⟩ := withL_split (ops_sorted h) hno
  rw [h2]
  conv => lhs; rw [h1]
  exact (List.Sublist.refl A).append (List.sublist_cons_self o B)
end Go.Proofs.YtficnhlkefpfnaaDoor

namespace Go.Proofs.YtficnhlkefpfnaaDoor
open Go.RowKit
set_option linter.unusedSimpArgs false
set_option linter.unusedVariables false

/-- Each has the one ahead. -/
def Prev (l : List Op7) : Prop := ∀ p ∈ l, 1 < p.b → ∃ q ∈ l, q.a = p.a ∧ q.b = p.b - 1
theorem ord_prev {l : List Op7} (hok : l.all okO = true) (h : ordB l = true) : Prev l := by
  intro p hp hb
  obtain ⟨i, hi, rfl⟩ := List.getElem_of_mem hp
  have hs := ord_iff.1 h i hi
  have hid := okO_id (all_iff.1 hok i hi)
  rcases i with _ | i
  · rw [step_zero hi] at hs
    have := of_decide_eq_true hs
    omega
  · rw [step_succ hi] at hs
    have := of_decide_eq_true hs
    exact ⟨l[i], List.getElem_mem _, by omega, by omega⟩
theorem sorted_ord {l : List Op7} (hok : l.all okO = true) (hs : l.Pairwise fun p q => lessB p q = true) (hp : Prev l) : ordB l = true := by
  refine ord_iff.2 fun i hi => ?_
  have hid := okO_id (all_iff.1 hok i hi)
  have less : ∀ {j k : Nat} (hj : j < l.length) (hk : k < l.length), j < k → lessB l[j] l[k] = true := fun hj hk h => List.pairwise_iff_getElem.1 hs _ _ hj hk h
  have before : 1 < l[i].b → ∃ j, ∃ hj : j < l.length, j < i ∧ l[j].a = l[i].a ∧ l[j].b = l[i].b - 1 := fun hb => by
    obtain ⟨q, hq, ha, hb'⟩ := hp _ (List.getElem_mem hi) hb
    obtain ⟨j, hj, rfl⟩ := List.getElem_of_mem hq
    refine ⟨j, hj, ?_, ha, hb'⟩
    rcases Nat.lt_trichotomy j i with h | h | h
    · exact h
    · subst h; omega
    · have := less hi hj h
      unfold lessB at this
      have := of_decide_eq_true this
      omega
  rcases i with _ | i
  · rw [step_zero hi]
    by_cases hb : 1 < l[0].b
    · obtain ⟨j, _, h, _⟩ := before hb
      omega
    · exact stepB_true (by omega)
  · rw [step_succ hi]
    have h1 := less (by omega) hi (Nat.lt_succ_self i)
    unfold lessB at h1
    have h1 := of_decide_eq_true h1
    have hid0 := okO_id (all_iff.1 hok i (by omega))
    by_cases hb : 1 < l[i + 1].b
    · obtain ⟨j, hj, hji, ha, hb'⟩ := before hb
      have h2 : j = i ∨ lessB l[j] l[i] = true := by
        rcases Nat.lt_or_ge j i with h | h
        · exact .inr (less hj (by omega) h)
        · exact .inl (by omega)
      rcases h2 with rfl | h2
      · exact stepB_true (by omega)
      · unfold lessB at h2
        have h2 := of_decide_eq_true h2
        exact stepB_true (by omega)
    · exact stepB_true (by omega)
theorem Up.mono {l l' : List Op7} (h : ∀ o ∈ l, o ∈ l') {d : Nat} {x : Int × Int} (hu : Up l d x) : Up l' d x := by
  induction hu with
  | zero => exact .zero
  | step hm hk _ ih => exact .step (h _ hm) hk ih
/-- Those by which one comes from nothing. -/
theorem up_chain {l : List Op7} (hok : l.all okO = true) (h1 : OnceIds l) {d : Nat} {x : Int × Int} (hu : Up l d x) : ∃ c : List Op7, c.length = d ∧ c.Nodup ∧ ∀ o ∈ c, o ∈ l ∧ ∃ e, e ≤ d ∧ Up l e (o.a, o.b) := by
  induction hu with
  | zero => exact ⟨[], rfl, List.nodup_nil, fun o h => by cases h⟩
  | step hm hk hu ih =>
    rename_i d o
    obtain ⟨c, h2, h3, h4⟩ := ih
    refine ⟨o :: c, by simp [h2], List.nodup_cons.2 ⟨fun hc => ?_, h3⟩, fun p hp => ?_⟩
    · obtain ⟨_, e, he, hue⟩ := h4 o hc
      have := up_once hok h1 hue (Up.step hm hk hu)
      omega
    · rcases List.mem_cons.1 hp with rfl | hp
      · exact ⟨hm, d + 1, Nat.le_refl _, .step hm hk hu⟩
      · obtain ⟨h5, e, he, hue⟩ := h4 p hp
        exact ⟨h5, e, by omega, hue⟩
theorem up_len {l : List Op7} (hok : l.all okO = true) (h1 : OnceIds l) {d : Nat} {x : Int × Int} (hu : Up l d x) : d ≤ l.length := by
  obtain ⟨c, h2, h3, h4⟩ := up_chain hok h1 hu
  rw [← h2]
  exact nodup_le _ _ h3 fun o ho => (h4 o ho).1
theorem deep_eq (l : List Op7) (n : Nat) (o : Op7) : deepF l (n + 1) o = if noB o.c o.d = true then true else match nextO l o with | some p => deepF l n p | none => false := rfl
theorem deep_more {l : List Op7} : ∀ (n : Nat) {m : Nat} {o : Op7}, deepF l n o = true → n ≤ m → deepF l m o = true := by
  intro n
  induction n with
  | zero => intro m o h; simp [deepF] at h
  | succ n ih =>
    intro m o h hm
    obtain ⟨k, rfl⟩ : ∃ k, m = k + 1 := ⟨m - 1, by omega⟩
    rw [deep_eq] at h ⊢
    by_cases hno : noB o.c o.d = true
    · rw [if_pos hno]
    · rw [if_neg hno] at h ⊢
      cases hx : nextO l o with
      | none => rw [hx] at h; cases h
      | some p => rw [hx] at h; exact ih h (by omega)
theorem up_deepF {l : List Op7} (hok : l.all okO = true) (h1 : OnceIds l) {d : Nat} {x : Int × Int} (hu : Up l d x) : ∀ o : Op7, x = (o.c, o.d) → deepF l (d + 1) o = true := by
  induction hu with
  | zero =>
    intro o h
    have e1 : o.c = 0 := (congrArg Prod.fst h).symm
    have e2 : o.d = 0 := (congrArg Prod.snd h).symm
    unfold deepF
    rw [if_pos (by unfold noB; exact decide_eq_true ⟨e1, e2⟩)]
  | step hm hk hu ih =>
    rename_i d p
    intro o h
    have e1 : o.c = p.a := (congrArg Prod.fst h).symm
    have e2 : o.d = p.b := (congrArg Prod.snd h).symm
    have hp := op_pos hok hm
    unfold deepF
    rw [if_neg (by unfold noB; simp; omega), nextO_find', e1, e2, find_self h1 hm]
    exact ih p rfl
theorem sorted_once {l : List Op7} (hs : l.Pairwise fun p q => lessB p q = true) : OnceIds l := by
  intro i j o p hi hj ha hb
  obtain ⟨h1, rfl⟩ := List.getElem?_eq_some_iff.1 hi
  obtain ⟨h2, rfl⟩ := List.getElem?_eq_some_iff.1 hj
  rcases Nat.lt_trichotomy i j with h | h | h
  · have := List.pairwise_iff_getElem.1 hs i j h1 h2 h
    unfold lessB at this
    have := of_decide_eq_true this
    omega
  · exact h
  · have := List.pairwise_iff_getElem.1 hs j i h2 h1 h
    unfold lessB at this
    have := of_decide_eq_true this
    omega
/-- In form, in order, each with the one ahead, and each comes to nothing. -/
structure OkL (l : List Op7) : Prop where
  form : ∀ o ∈ l, okO o = true
  sorted : l.Pairwise fun p q => lessB p q = true
  prev : Prev l
  deep : ∀ o ∈ l, ∃ d, Up l d (o.c, o.d)
theorem OkL.of {l : List Op7} (h : opsB l = true) : OkL l :=
  ⟨List.all_eq_true.1 (opsB_all h).1, ops_sorted h, ord_prev (opsB_all h).1 (opsB_all h).2.1, fun o ho => put_up h ho⟩
theorem OkL.ops {l : List Op7} (h : OkL l) : opsB l = true := by
  have hok : l.all okO = true := List.all_eq_true.2 h.form
  have h1 := sorted_once h.sorted
  unfold opsB
  rw [hok, sorted_ord hok h.sorted h.prev]
  have hr : l.all (refsB l) = true := List.all_eq_true.2 fun o ho => by
    obtain ⟨d, hd⟩ := h.deep o ho
    unfold refsB
    rcases up_inv hd with ⟨_, hx⟩ | ⟨e, p, _, hm, hk, _, hx⟩
    · have e1 : o.c = 0 := congrArg Prod.fst hx
      have e2 : o.d = 0 := congrArg Prod.snd hx
      have : noB o.c o.d = true := by unfold noB; exact decide_eq_true ⟨e1, e2⟩
      rw [this]; rfl
    · have e1 : o.c = p.a := congrArg Prod.fst hx
      have e2 : o.d = p.b := congrArg Prod.snd hx
      rw [nextO_find', e1, e2, find_self h1 hm]
      simp [hk]
  have hd : l.all (deepF l (l.length + 1)) = true := List.all_eq_true.2 fun o ho => by
    obtain ⟨d, hd⟩ := h.deep o ho
    exact deep_more (d + 1) (up_deepF hok h1 hd o rfl) (by have := up_len hok h1 hd; omega)
  rw [hr, hd]; rfl
theorem OkL.once {l : List Op7} (h : OkL l) : OnceIds l := sorted_once h.sorted
theorem OkL.ok {l : List Op7} (h : OkL l) : l.all okO = true := List.all_eq_true.2 h.form
/-- What can be done behind what was done. -/
structure CanL (l : List Op7) (o : Op7) : Prop where
  form : okO o = true
  new : ∀ p ∈ l, ¬ (p.a = o.a ∧ p.b = o.b)
  next : 1 < o.b → ∃ q ∈ l, q.a = o.a ∧ q.b = o.b - 1
  ref : ∃ d, Up l d (o.c, o.d)
theorem withL_mem {l : List Op7} (hs : l.Pairwise fun p q => lessB p q = true) {o : Op7} (hno : ∀ p ∈ l, ¬ (p.a = o.a ∧ p.b = o.b)) (x : Op7) : x ∈ withL l o ↔ x = o ∨ x ∈ l := by
  obtain ⟨A, B, h1, h2⟩ := withL_split hs hno
  rw [h2, h1]
  simp only [List.mem_append, List.mem_cons]
  constructor
  · rintro (h | h | h)
    · exact .inr (.inl h)
    · exact .inl h
    · exact .inr (.inr h)
  · rintro (h | h | h)
    · exact .inr (.inl h)
    · exact .inl h
    · exact .inr (.inr h)
theorem withL_sorted {l : List Op7} (hs : l.Pairwise fun p q => lessB p q = true) (o : Op7) : (withL l o).Pairwise fun p q => lessB p q = true := by
  have htr : ∀ p q r : Op7, lessB p q = true → lessB q r = true → lessB p r = true := fun p q r h1 h2 => by
    unfold lessB at *
    have := of_decide_eq_true h1
    have := of_decide_eq_true h2
    exact decide_eq_true (by omega)
  unfold withL
  refine List.pairwise_append.2 ⟨List.pairwise_append.2 ⟨hs.filter _, List.pairwise_singleton _ _, fun p hp q hq => ?_⟩, hs.filter _, fun p hp q hq => ?_⟩
  · obtain rfl := List.mem_singleton.1 hq
    simpa using (List.mem_filter.1 hp).2
  · have hq' : lessB o q = true := by simpa using (List.mem_filter.1 hq).2
    rcases List.mem_append.1 hp with hp | hp
    · exact htr _ _ _ (by simpa using (List.mem_filter.1 hp).2) hq'
    · obtain rfl := List.mem_singleton.1 hp
      exact hq'
theorem CanL.ok {l : List Op7} {o : Op7} (h : OkL l) (hc : CanL l o) : OkL (withL l o) := by
  have hm := withL_mem h.sorted hc.new
  have hsub : ∀ x ∈ l, x ∈ withL l o := fun x hx => (hm x).2 (.inr hx)
  refine ⟨fun x hx => ?_, withL_sorted h.sorted o, fun p hp hb => ?_, fun x hx => ?_⟩
  · rcases (hm x).1 hx with rfl | hx
    · exact hc.form
    · exact h.form x hx
  · rcases (hm p).1 hp with rfl | hp
    · obtain ⟨q, hq, e⟩ := hc.next hb
      exact ⟨q, hsub q hq, e⟩
    · obtain ⟨q, hq, e⟩ := h.prev p hp hb
      exact ⟨q, hsub q hq, e⟩
  · rcases (hm x).1 hx with rfl | hx
    · obtain ⟨d, hd⟩ := hc.ref
      exact ⟨d, hd.mono hsub⟩
    · obtain ⟨d, hd⟩ := h.deep x hx
      exact ⟨d, hd.mono hsub⟩
/-- Just that can be done. -/
theorem can_iff {l : List Op7} {o : Op7} (h : opsB l = true) (hno : ∀ p ∈ l, ¬ (p.a = o.a ∧ p.b = o.b)) : opsB (withL l o) = true ↔ CanL l o := by
  have hL := OkL.of h
  refine ⟨fun hw => ?_, fun hc => (hc.ok hL).ops⟩
  have hW := OkL.of hw
  have hm := withL_mem hL.sorted hno
  have ho : o ∈ withL l o := (hm o).2 (.inl rfl)
  refine ⟨hW.form o ho, hno, fun hb => ?_, ?_⟩
  · obtain ⟨q, hq, e1, e2⟩ := hW.prev o ho hb
    rcases (hm q).1 hq with rfl | hq
    · omega
    · exact ⟨q, hq, e1, e2⟩
  · obtain ⟨d, hd⟩ := hW.deep o ho
    refine ⟨d, ?_⟩
    have key : ∀ {e : Nat} {x : Int × Int}, Up (withL l o) e x → e ≤ d → (∀ f, f < e → True) → Up l e x ∨ ∃ f, f ≤ e ∧ Up (withL l o) f (o.a, o.b) := by
      intro e x hu
      induction hu with
      | zero => intro _ _; exact .inl .zero
      | step hm' hk hu ih =>
        rename_i e p
        intro he _
        rcases (hm p).1 hm' with rfl | hp
        · exact .inr ⟨e + 1, Nat.le_refl _, .step hm' hk hu⟩
        · rcases ih (by omega) (fun _ _ => trivial) with h' | ⟨f, hf, hu'⟩
          · exact .inl (.step hp hk h')
          · exact .inr ⟨f, by omega, hu'⟩
    rcases key hd (Nat.le_refl _) (fun _ _ => trivial) with h' | ⟨f, hf, hu⟩
    · exact h'
    · by_cases hk : o.k = 1
      · have := up_once hW.ok hW.once hu (Up.step ho hk hd)
        omega
      · exfalso
        rcases up_inv hu with ⟨_, hx⟩ | ⟨e, p, _, hm', hk', _, hx⟩
        · have := op_pos hW.ok ho
          have := congrArg Prod.fst hx
          simp at this
          omega
        · have : o = p := once_eq hW.once ho hm' (congrArg Prod.fst hx) (congrArg Prod.snd hx)
          subst this
          exact hk hk'
theorem find_new {l : List Op7} {r m : Int} (h : findI l r m < 0) : ∀ p ∈ l, ¬ (p.a = r ∧ p.b = m) := by
  intro p hp ⟨h1, h2⟩
  unfold findI at h
  cases hf : l.findIdx? (hasId r m) with
  | none =>
    have := List.findIdx?_eq_none_iff.1 hf p hp
    simp [hasId, h1, h2] at this
  | some i => rw [hf] at h; simp only at h; omega
end Go.Proofs.YtficnhlkefpfnaaDoor

namespace Go.Proofs.YtficnhlkefpfnaaDoor
open Go.RowKit
set_option linter.unusedSimpArgs false
set_option linter.unusedVariables false

/-- One comes from x to br, bm within n steps. -/
def underN (l : List Op7) : Nat → Int × Int → Int → Int → Bool
  | 0, _, _, _ => false
  | n + 1, x, br, bm => match putAt l x with | none => false | some o => if o.c = br ∧ o.d = bm then true else underN l n (o.c, o.d) br bm
/-- From x one comes to nothing within n steps. -/
def Dp (l : List Op7) (n : Nat) (x : Int × Int) : Prop := ∀ o, putAt l x = some o → deepF l n o = true

theorem findIdx_get {l : List Op7} {p : Op7 → Bool} : (match l.findIdx? p with | some i => l[i]? | none => none) = l.find? p := by
  induction l with
  | nil => rfl
  | cons a r ih =>
    rw [List.findIdx?_cons, List.find?_cons]
    cases h : p a
    · simp only [Bool.false_eq_true, if_false]
      rw [← ih]
      cases r.findIdx? p <;> simp
    · simp
theorem nextO_find (l : List Op7) (o : Op7) : nextO l o = l.find? (hasId o.c o.d) := by
  unfold nextO
  exact findIdx_get
theorem putAt_some {l : List Op7} {x : Int × Int} {o : Op7} (h : putAt l x = some o) : l.find? (hasId x.1 x.2) = some o ∧ o.k = 1 ∧ o ∈ l ∧ o.a = x.1 ∧ o.b = x.2 := by
  unfold putAt at h
  cases hf : l.find? (hasId x.1 x.2) with
  | none => rw [hf] at h; cases h
  | some p =>
    rw [hf] at h
    simp only at h
    split at h
    · rename_i hk
      obtain rfl := Option.some.inj h
      have h1 := List.find?_some hf
      have h2 : p.a = x.1 ∧ p.b = x.2 := by simpa [hasId] using h1
      exact ⟨rfl, hk, List.mem_of_find?_eq_some hf, h2.1, h2.2⟩
    · cases h
theorem opsDeep {l : List Op7} (h : opsB l = true) : l.all (deepF l (l.length + 1)) = true := by
  unfold opsB at h
  simp only [Bool.and_eq_true] at h
  exact h.2.2.2
theorem dp_start {l : List Op7} (h : opsB l = true) (x : Int × Int) : Dp l (l.length + 1) x := fun o ho =>
  List.all_eq_true.1 (opsDeep h) o (putAt_some ho).2.2.1
theorem dp_step {l : List Op7} (h : opsB l = true) {n : Nat} {x : Int × Int} (hd : Dp l n x) {o : Op7} (ho : putAt l x = some o) : ∃ m, n = m + 1 ∧ Dp l m (o.c, o.d) := by
  have h1 := hd o ho
  rcases n with _ | m
  · simp [deepF] at h1
  · refine ⟨m, rfl, fun q hq => ?_⟩
    obtain ⟨hf, _, hm, ha, hb⟩ := putAt_some hq
    have hid := okO_id (List.all_eq_true.1 (opsParts h).1 q hm)
    have hno : noB o.c o.d = false := by unfold noB; exact decide_eq_false (by omega)
    unfold deepF at h1
    rw [hno, nextO_find, hf] at h1
    simpa using h1
theorem under_hit {l : List Op7} {m : Nat} {x : Int × Int} {o : Op7} {br bm : Int} (ho : putAt l x = some o) (h : o.c = br ∧ o.d = bm) : underN l (m + 1) x br bm = true := by
  unfold underN; rw [ho]; simp [h]
theorem under_on {l : List Op7} {m : Nat} {x : Int × Int} {o : Op7} {br bm : Int} (ho : putAt l x = some o) (h : ¬ (o.c = br ∧ o.d = bm)) : underN l (m + 1) x br bm = underN l m (o.c, o.d) br bm := by
  rw [underN]; rw [ho]; simp only; rw [if_neg h]
theorem under_no {l : List Op7} {n : Nat} {x : Int × Int} {br bm : Int} (ho : putAt l x = none) : underN l n x br bm = false := by
  rcases n with _ | m
  · rfl
  · unfold underN; rw [ho]
theorem find_cases (l : List Op7) (x : Int × Int) : (findI l x.1 x.2 = -1 ∧ putAt l x = none) ∨ ∃ (i : Nat) (o : Op7), findI l x.1 x.2 = i ∧ i < l.length ∧ l[i]? = some o ∧ putAt l x = if o.k = 1 then some o else none := by
  have hf := findIdx_get (l := l) (p := hasId x.1 x.2)
  unfold findI putAt
  cases h : l.findIdx? (hasId x.1 x.2) with
  | none =>
    rw [h] at hf
    rw [← hf]
    exact .inl ⟨rfl, rfl⟩
  | some i =>
    rw [h] at hf
    have hi : i < l.length := (List.findIdx?_eq_some_iff_getElem.1 h).1
    rw [← hf]
    refine .inr ⟨i, l[i], rfl, hi, by simp [hi], ?_⟩
    simp [hi]
/-- Who is under whom, if what was done is ok. -/
def undB (l : List Op7) (ar am br bm : Int) : Bool := if opsB l = true then underN l (l.length + 1) (ar, am) br bm else false
end Go.Proofs.YtficnhlkefpfnaaDoor

namespace Go.Proofs.YtficnhlkefpfnaaDoor
open Go.RowKit
set_option linter.unusedSimpArgs false
set_option linter.unusedVariables false

/-- One comes from x to b in j steps, one at least. -/
inductive Path (l : List Op7) : Nat → Int × Int → Int × Int → Prop
  | one {x : Int × Int} {o : Op7} (h : putAt l x = some o) : Path l 1 x (o.c, o.d)
  | step {j : Nat} {x b : Int × Int} {o : Op7} (h : putAt l x = some o) (hp : Path l j (o.c, o.d) b) : Path l (j + 1) x b
theorem Path.pos {l : List Op7} {j : Nat} {x b : Int × Int} (h : Path l j x b) : 1 ≤ j := by
  cases h <;> omega
theorem Path.trans {l : List Op7} {i j : Nat} {a b c : Int × Int} (h : Path l i a b) (h' : Path l j b c) : Path l (i + j) a c := by
  induction h with
  | one h => rw [Nat.add_comm]; exact .step h h'
  | step h _ ih => rw [show ∀ i j : Nat, i + 1 + j = i + j + 1 by omega]; exact .step h (ih h')
theorem Path.up {l : List Op7} (ho : opsB l = true) {j : Nat} {x b : Int × Int} (h : Path l j x b) : ∃ d, Up l d b ∧ Up l (d + j) x := by
  induction h with
  | one h =>
    obtain ⟨_, hk, hm, ha, hb⟩ := putAt_some h
    obtain ⟨d, hd⟩ := put_up ho hm
    have := Up.step hm hk hd
    rw [ha, hb] at this
    exact ⟨d, hd, this⟩
  | step h _ ih =>
    obtain ⟨_, hk, hm, ha, hb⟩ := putAt_some h
    obtain ⟨d, h1, h2⟩ := ih
    have := Up.step hm hk h2
    rw [ha, hb] at this
    exact ⟨d, h1, this⟩
theorem under_path {l : List Op7} : ∀ (n : Nat) {x b : Int × Int}, underN l n x b.1 b.2 = true → ∃ j, Path l j x b := by
  intro n
  induction n with
  | zero => intro x b h; simp [underN] at h
  | succ n ih =>
    intro x b h
    cases hp : putAt l x with
    | none => rw [under_no hp] at h; cases h
    | some o =>
      by_cases he : o.c = b.1 ∧ o.d = b.2
      · have := Path.one (l := l) hp
        rw [he.1, he.2] at this
        exact ⟨1, this⟩
      · rw [under_on hp he] at h
        obtain ⟨j, hj⟩ := ih h
        exact ⟨j + 1, .step hp hj⟩
theorem path_under {l : List Op7} {j : Nat} {x b : Int × Int} (h : Path l j x b) : ∀ n, j ≤ n → underN l n x b.1 b.2 = true := by
  induction h with
  | one h =>
    intro n hn
    obtain ⟨m, rfl⟩ : ∃ m, n = m + 1 := ⟨n - 1, by omega⟩
    exact under_hit h ⟨rfl, rfl⟩
  | step h hp ih =>
    rename_i x b o
    intro n hn
    obtain ⟨m, rfl⟩ : ∃ m, n = m + 1 := ⟨n - 1, by omega⟩
    by_cases he : o.c = b.1 ∧ o.d = b.2
    · exact under_hit h he
    · rw [under_on h he]
      exact ih m (by omega)
theorem und_path {l : List Op7} (ho : opsB l = true) {a b : Int × Int} : undB l a.1 a.2 b.1 b.2 = true ↔ ∃ j, Path l j a b := by
  unfold undB
  rw [if_pos ho]
  constructor
  · exact under_path _
  · rintro ⟨j, hj⟩
    obtain ⟨d, _, h2⟩ := hj.up ho
    exact path_under hj _ (by have := up_le ho h2; omega)
theorem und_ops {l : List Op7} {a b c d : Int} (h : undB l a b c d = true) : opsB l = true := by
  unfold undB at h
  cases ho : opsB l
  · rw [ho] at h; cases h
  · rfl
theorem und_trans {l : List Op7} {a b c : Int × Int} (h : undB l a.1 a.2 b.1 b.2 = true) (h' : undB l b.1 b.2 c.1 c.2 = true) : undB l a.1 a.2 c.1 c.2 = true := by
  have ho := und_ops h
  obtain ⟨i, hi⟩ := (und_path ho).1 h
  obtain ⟨j, hj⟩ := (und_path ho).1 h'
  exact (und_path ho).2 ⟨_, hi.trans hj⟩
theorem und_irr {l : List Op7} (ho : opsB l = true) (a : Int × Int) : undB l a.1 a.2 a.1 a.2 = false := by
  cases h : undB l a.1 a.2 a.1 a.2
  · rfl
  · obtain ⟨j, hj⟩ := (und_path ho).1 h
    obtain ⟨d, h1, h2⟩ := hj.up ho
    have := up_once (opsB_all ho).1 (once_of (opsB_all ho).1 (opsB_all ho).2.1) h1 h2
    have := hj.pos
    omega
theorem und_asym {l : List Op7} {a b : Int × Int} (h : undB l a.1 a.2 b.1 b.2 = true) : undB l b.1 b.2 a.1 a.2 = false := by
  cases h' : undB l b.1 b.2 a.1 a.2
  · rfl
  · have := und_trans h h'
    rw [und_irr (und_ops h)] at this
    cases this
theorem put_here {l : List Op7} (ho : opsB l = true) {o : Op7} (hm : o ∈ l) (hk : o.k = 1) : putAt l (o.a, o.b) = some o := by
  unfold putAt
  rw [find_self (once_of (opsB_all ho).1 (opsB_all ho).2.1) hm]
  simp [hk]
theorem Path.last {l : List Op7} {j : Nat} {x b : Int × Int} (h : Path l j x b) : ∃ o, o ∈ l ∧ o.k = 1 ∧ (o.c, o.d) = b ∧ (x = (o.a, o.b) ∨ ∃ i, Path l i x (o.a, o.b)) := by
  induction h with
  | one h =>
    obtain ⟨_, hk, hm, ha, hb⟩ := putAt_some h
    exact ⟨_, hm, hk, rfl, .inl (by rw [ha, hb])⟩
  | step h hp ih =>
    obtain ⟨p, hm, hk, he, h' | ⟨i, hi⟩⟩ := ih
    · refine ⟨p, hm, hk, he, .inr ⟨1, ?_⟩⟩
      have := Path.one (l := l) h
      rw [h'] at this
      exact this
    · exact ⟨p, hm, hk, he, .inr ⟨i + 1, .step h hi⟩⟩
/-- Those that were put beside one, on either side. -/
def kidsB (l : List Op7) (b : Int × Int) : List Op7 := kidsL l (b.1, b.2, 0) ++ kidsL l (b.1, b.2, 1)
/-- A kid of b, or under it. -/
def byKid (l : List Op7) (a : Int × Int) (o : Op7) : Bool := (o.a == a.1 && o.b == a.2) || undB l a.1 a.2 o.a o.b
theorem und_kids {l : List Op7} (ho : opsB l = true) (a b : Int × Int) : undB l a.1 a.2 b.1 b.2 = (kidsB l b).any (byKid l a) := by
  rw [Bool.eq_iff_iff, und_path ho, List.any_eq_true]
  constructor
  · rintro ⟨j, hj⟩
    obtain ⟨o, hm, hk, he, h⟩ := hj.last
    have hkid := kid_of hm hk
    have hs : o.s = 0 ∨ o.s = 1 := by
      rcases put_side ho hm hk with ⟨_, _, h⟩ | ⟨_, h⟩
      · exact .inr h
      · exact h
    have hc : o.c = b.1 := congrArg Prod.fst he
    have hd : o.d = b.2 := congrArg Prod.snd he
    refine ⟨o, ?_, ?_⟩
    · unfold kidsB
      rw [hc, hd] at hkid
      rcases hs with e | e <;> rw [e] at hkid
      · exact List.mem_append.2 (.inl hkid)
      · exact List.mem_append.2 (.inr hkid)
    · unfold byKid
      rcases h with rfl | ⟨i, hi⟩
      · simp
      · have := (und_path ho (a := a) (b := (o.a, o.b))).2 ⟨i, hi⟩
        simp only [] at this
        rw [this, Bool.or_true]
  · rintro ⟨o, hm, h⟩
    have hko : ∃ s, o ∈ kidsL l (b.1, b.2, s) := by
      unfold kidsB at hm
      rcases List.mem_append.1 hm with h | h
      · exact ⟨0, h⟩
      · exact ⟨1, h⟩
    obtain ⟨s, hks⟩ := hko
    obtain ⟨h1, h2, h3⟩ := mem_kids hks
    have hc : b.1 = o.c := congrArg Prod.fst h3
    have hd : b.2 = o.d := congrArg (fun y => y.2.1) h3
    have hone : Path l 1 (o.a, o.b) b := by
      have := Path.one (l := l) (put_here ho h1 h2)
      rw [← hc, ← hd] at this
      exact this
    unfold byKid at h
    rcases Bool.or_eq_true _ _ |>.mp h with h | h
    · have : o.a = a.1 ∧ o.b = a.2 := by simpa using h
      rw [this.1, this.2] at hone
      exact ⟨1, hone⟩
    · obtain ⟨j, hj⟩ := (und_path ho (a := a) (b := (o.a, o.b))).1 h
      exact ⟨_, hj.trans hone⟩
theorem Path.mem {l : List Op7} {j : Nat} {x b : Int × Int} (h : Path l j x b) : ∃ o ∈ l, o.k = 1 ∧ o.a = x.1 ∧ o.b = x.2 := by
  cases h with
  | one h => obtain ⟨_, hk, hm, ha, hb⟩ := putAt_some h; exact ⟨_, hm, hk, ha, hb⟩
  | step h _ => obtain ⟨_, hk, hm, ha, hb⟩ := putAt_some h; exact ⟨_, hm, hk, ha, hb⟩
theorem und_mem {l : List Op7} {a b c d : Int} (h : undB l a b c d = true) : ∃ o ∈ l, o.k = 1 ∧ o.a = a ∧ o.b = b := by
  obtain ⟨j, hj⟩ := (und_path (und_ops h) (a := (a, b)) (b := (c, d))).1 h
  exact hj.mem
end Go.Proofs.YtficnhlkefpfnaaDoor

namespace Go.Proofs.YtficnhlkefpfnaaDoor
open Go.RowKit
set_option linter.unusedSimpArgs false
set_option linter.unusedVariables false
attribute [local go_sem ↓] Go.wp_at_zero Go.wp_at_succ

/-- A row of leaves, as a slice; where there are some, its cells. -/
theorem lf_cases {w : World} {base : Nat} {v : Value} {L : List Lf} (h : w.ownsRow base 115 4 v L.length (lfCells L)) : ∃ q c, v = .slice q L.length c ∧ (0 < L.length → ∃ g, q = some ⟨g, 0, none⟩ ∧ L.length ≤ c ∧ base ≤ g ∧ g < w.heap.size ∧ ∀ j, j < L.length * 4 → w.cell? ⟨g, j, none⟩ = (lfCells L)[j]?) := by
  rcases h.2 with ⟨e, e0⟩ | ⟨g', c', cur, e, hb, hg, h2, _⟩
  · exact ⟨none, 0, by rw [e, e0], fun h => by omega⟩
  · subst e
    exact ⟨some ⟨g', 0, none⟩, c', rfl, fun _ => ⟨g', rfl, h2, hb, (Array.getElem?_eq_some_iff.1 hg).1, fun j hj => World.ownsRow.cellAt h j hj⟩⟩

/-- Where a sign stands first among leaves; -1, if it does not. -/
def atI (F : List Lf) (r m : Int) : Int := match F.findIdx? (fun y => y.a == r && y.b == m) with | some i => i | none => -1
theorem atI_none {F : List Lf} {r m : Int} (h : ∀ j (hj : j < F.length), ¬ (F[j].a = r ∧ F[j].b = m)) : atI F r m = -1 := by
  unfold atI
  rw [List.findIdx?_eq_none_iff.2 (fun y hy => by
    obtain ⟨j, hj, rfl⟩ := List.getElem_of_mem hy
    have := h j hj
    cases e : (F[j].a == r && F[j].b == m)
    · rfl
    · exact absurd (by simpa using e) this)]
theorem atI_some {F : List Lf} {r m : Int} {k : Nat} (hk : k < F.length) (h : F[k].a = r ∧ F[k].b = m) (hb : ∀ j (hj : j < F.length), j < k → ¬ (F[j].a = r ∧ F[j].b = m)) : atI F r m = k := by
  unfold atI
  rw [List.findIdx?_eq_some_iff_getElem.2 ⟨hk, by simp [h.1, h.2], fun j hj => by
    have := hb j (by omega) hj
    cases e : (F[j].a == r && F[j].b == m)
    · simp
    · exact absurd (by simpa using e) this⟩]
theorem atI_hit {F : List Lf} {r m : Int} {y : Lf} (hy : y ∈ F) (ha : y.a = r) (hb : y.b = m) : ∃ k, ∃ hk : k < F.length, atI F r m = (k : Nat) ∧ F[k].a = r ∧ F[k].b = m := by
  unfold atI
  cases e : F.findIdx? (fun y => y.a == r && y.b == m) with
  | none =>
    have := List.findIdx?_eq_none_iff.1 e y hy
    simp [ha, hb] at this
  | some k =>
    obtain ⟨h1, h2, _⟩ := List.findIdx?_eq_some_iff_getElem.1 e
    exact ⟨k, h1, rfl, by simpa using h2⟩
theorem atI_miss {F : List Lf} {r m : Int} (h : ∀ y ∈ F, ¬ (y.a = r ∧ y.b = m)) : atI F r m = -1 := atI_none fun j hj => h _ (List.getElem_mem hj)

end Go.Proofs.YtficnhlkefpfnaaDoor

namespace Go.Proofs.YtficnhlkefpfnaaDoor
open Go.RowKit
set_option linter.unusedSimpArgs false
set_option linter.unusedVariables false

theorem once_ops {l : List Op7} (h : opsB l = true) : OnceIds l := once_of (opsB_all h).1 (opsB_all h).2.1
theorem lfs_at {l A : List Op7} {k : Nat} (hk : k < (lfs l A).length) : ∃ p ∈ A, (lfs l A)[k] = ⟨p.a, p.b, p.g, goneB l (p.a, p.b)⟩ := by
  unfold lfs at *
  rw [List.length_map] at hk
  exact ⟨A[k], List.getElem_mem hk, by simp⟩
theorem put_leaf {l : List Op7} (h : opsB l = true) {o : Op7} (ho : o ∈ l) (hk : o.k = 1) : ∃ k, ∃ hk : k < (lfs l (allO l)).length, atI (lfs l (allO l)) o.a o.b = (k : Nat) ∧ (lfs l (allO l))[k] = ⟨o.a, o.b, o.g, goneB l (o.a, o.b)⟩ := by
  have hy : (⟨o.a, o.b, o.g, goneB l (o.a, o.b)⟩ : Lf) ∈ lfs l (allO l) := List.mem_map.2 ⟨o, all_mem h ho hk, rfl⟩
  obtain ⟨k, hk', h1, h2, h3⟩ := atI_hit (r := o.a) (m := o.b) hy rfl rfl
  obtain ⟨p, hp, he⟩ := lfs_at hk'
  rw [he] at h2 h3
  have e : p = o := once_eq (once_ops h) (side_put _ hp).1 ho h2 h3
  subst e
  exact ⟨k, hk', h1, he⟩
theorem take_leaf {l : List Op7} (h : opsB l = true) {o : Op7} (ho : o ∈ l) (hk : o.k = 2) : atI (lfs l (allO l)) o.a o.b = -1 := by
  refine atI_miss fun y hy hab => ?_
  obtain ⟨p, hp, rfl⟩ := List.mem_map.1 hy
  obtain ⟨h1, h2⟩ := side_put _ hp
  have e : p = o := once_eq (once_ops h) h1 ho hab.1 hab.2
  subst e
  omega
theorem ref_leaf {l : List Op7} (h : opsB l = true) {o : Op7} (ho : o ∈ l) (hk : o.k = 2) : ∃ k, ∃ hk : k < (lfs l (allO l)).length, atI (lfs l (allO l)) o.c o.d = (k : Nat) ∧ (lfs l (allO l))[k].z = true := by
  have hok := List.all_eq_true.1 (opsB_all h).1 o ho
  unfold okO at hok
  rw [opB_true] at hok
  have hr := List.all_eq_true.1 (opsB_all h).2.2.1 o ho
  unfold refsB at hr
  have hno : noB o.c o.d = false := by unfold noB; exact decide_eq_false (by omega)
  rw [hno] at hr
  cases hx : nextO l o with
  | none => rw [hx] at hr; simp at hr
  | some p =>
    rw [hx] at hr
    have hpk : p.k = 1 := by simpa using hr
    obtain ⟨hm, ha, hb⟩ := next_mem hx
    obtain ⟨k, hk', h1, h2⟩ := put_leaf h hm hpk
    rw [ha, hb] at h1 h2
    refine ⟨k, hk', h1, ?_⟩
    rw [h2]
    obtain ⟨j, hj, rfl⟩ := List.getElem_of_mem ho
    exact gone_yes (x := (l[j].c, l[j].d)) (i := j) (by simp [hj]) hk rfl rfl
/-- How many of the first i take nothing away. -/
def stayTo (L : List Op7) (i : Nat) : Nat := (L.take i).countP fun o => !(o.k == 2)
theorem stayTo_le (L : List Op7) (i : Nat) : stayTo L i ≤ i := Nat.le_trans List.countP_le_length (List.length_take_le _ _)
theorem stayTo_yes {L : List Op7} {i : Nat} (hi : i < L.length) (h : ¬ L[i].k = 2) : stayTo L (i + 1) = stayTo L i + 1 := by
  unfold stayTo
  rw [List.take_succ_eq_append_getElem hi, List.countP_append]
  simp only [List.countP_singleton]
  rw [if_pos (by simp [h])]
theorem stayTo_no {L : List Op7} {i : Nat} (hi : i < L.length) (h : L[i].k = 2) : stayTo L (i + 1) = stayTo L i := by
  unfold stayTo
  rw [List.take_succ_eq_append_getElem hi, List.countP_append]
  simp only [List.countP_singleton]
  rw [if_neg (by simp [h])]
  rfl
theorem op_kind {l : List Op7} (h : opsB l = true) {o : Op7} (ho : o ∈ l) : o.k = 1 ∨ o.k = 2 := by
  have hok := List.all_eq_true.1 (opsB_all h).1 o ho
  unfold okO at hok
  rw [opB_true] at hok
  omega
theorem stayTo_all {l : List Op7} (h : opsB l = true) : stayTo l l.length = (lfs l (allO l)).length := by
  rw [lfs_len, (all_perm h).length_eq, ← List.countP_eq_length_filter]
  unfold stayTo
  rw [List.take_length]
  refine List.countP_congr fun o ho => ?_
  rcases op_kind h ho with e | e <;> simp [e]
end Go.Proofs.YtficnhlkefpfnaaDoor

namespace Go.Proofs.YtficnhlkefpfnaaDoor
open Go.RowKit
set_option linter.unusedSimpArgs false
set_option linter.unusedVariables false

theorem countP_two {α : Type} {p q r : α → Bool} : ∀ (l : List α), (∀ o ∈ l, p o = (q o || r o) ∧ (q o && r o) = false) → l.countP p = l.countP q + l.countP r
  | [], _ => rfl
  | o :: l, h => by
    have ih := countP_two l (fun o ho => h o (List.mem_cons_of_mem _ ho))
    obtain ⟨h1, h2⟩ := h o (by simp)
    rw [List.countP_cons, List.countP_cons, List.countP_cons, ih, h1]
    cases hq : q o <;> cases hr : r o <;> rw [hq, hr] at h2 <;> simp at h2 ⊢ <;> omega
theorem put_s {l : List Op7} (h : opsB l = true) {o : Op7} (ho : o ∈ l) (hk : o.k = 1) : o.s = 0 ∨ o.s = 1 := by
  rcases put_side h ho hk with ⟨_, _, h⟩ | ⟨_, h⟩
  · exact .inr h
  · exact h
/-- Those that were put beside one stand on its left, or on its right. -/
theorem kid_sides {l : List Op7} (h : opsB l = true) (a b : Int) : (l.countP fun q => q.k == 1 && decide ((q.c, q.d) = (a, b))) = (kidsL l (a, b, 0)).length + (kidsL l (a, b, 1)).length := by
  unfold kidsL
  rw [← List.countP_eq_length_filter, ← List.countP_eq_length_filter]
  refine countP_two l fun o ho => ?_
  by_cases hk : o.k = 1
  · have hs := put_s h ho hk
    by_cases hc : o.c = a <;> by_cases hd : o.d = b <;> rcases hs with e | e <;> simp [isKid, hk, hc, hd, e]
  · have hk' : (o.k == 1) = false := by simp [hk]
    simp [isKid, hk']
/-- Nothing, and those of the first i that were put. -/
def midTo (L : List Op7) (i : Nat) : List (Int × Int) := (0, 0) :: ((L.take i).filter fun o => !(o.k == 2)).map fun o => (o.a, o.b)
/-- How many were put beside them. -/
def kidsTo (L : List Op7) (i : Nat) : Nat := L.countP fun q => q.k == 1 && decide ((q.c, q.d) ∈ midTo L i)
theorem kidsTo_zero {l : List Op7} (h : opsB l = true) : kidsTo l 0 = (kidsL l (0, 0, 0)).length + (kidsL l (0, 0, 1)).length := by
  rw [← kid_sides h 0 0]
  unfold kidsTo midTo
  simp
theorem kidsTo_no {L : List Op7} {i : Nat} (hi : i < L.length) (h : L[i].k = 2) : kidsTo L (i + 1) = kidsTo L i := by
  have hm : midTo L (i + 1) = midTo L i := by
    unfold midTo
    rw [List.take_succ_eq_append_getElem hi, List.filter_append, List.filter_cons_of_neg (by simp [h]), List.filter_nil, List.append_nil]
  unfold kidsTo
  rw [hm]
theorem midTo_not {l : List Op7} (h : opsB l = true) {i : Nat} (hi : i < l.length) : (l[i].a, l[i].b) ∉ midTo l i := by
  have hpos := op_pos (opsB_all h).1 (List.getElem_mem hi)
  unfold midTo
  intro hm
  rcases List.mem_cons.1 hm with e | hm
  · have := congrArg Prod.fst e
    simp at this
    omega
  · obtain ⟨o, ho, e⟩ := List.mem_map.1 hm
    obtain ⟨j, hj, rfl⟩ := List.getElem_of_mem (List.mem_filter.1 ho).1
    rw [List.length_take] at hj
    rw [List.getElem_take] at e
    have e1 : l[j].a = l[i].a := congrArg Prod.fst e
    have e2 : l[j].b = l[i].b := congrArg Prod.snd e
    have := once_ops h j i l[j] l[i] (by simp) (by simp) e1 e2
    omega
theorem kidsTo_yes {l : List Op7} (h : opsB l = true) {i : Nat} (hi : i < l.length) (hk : ¬ l[i].k = 2) : kidsTo l (i + 1) = kidsTo l i + (kidsL l (l[i].a, l[i].b, 0)).length + (kidsL l (l[i].a, l[i].b, 1)).length := by
  rw [Nat.add_assoc, ← kid_sides h]
  have hno := midTo_not h hi
  have hm : midTo l (i + 1) = midTo l i ++ [(l[i].a, l[i].b)] := by
    unfold midTo
    rw [List.take_succ_eq_append_getElem hi, List.filter_append, List.map_append]
    simp [hk]
  unfold kidsTo
  refine countP_two l fun o ho => ?_
  rw [hm]
  by_cases hc : (o.c, o.d) = (l[i].a, l[i].b)
  · rw [hc]
    constructor
    · cases hkk : (o.k == 1) <;> simp
    · simp [hno]
  · constructor
    · simp only [List.mem_append, List.mem_singleton, hc, or_false, decide_false, Bool.and_false, Bool.or_false]
    · simp [hc]
theorem kidsTo_all {l : List Op7} (h : opsB l = true) : kidsTo l l.length = (lfs l (allO l)).length := by
  rw [lfs_len, (all_perm h).length_eq, ← List.countP_eq_length_filter]
  unfold kidsTo
  refine List.countP_congr fun o ho => ?_
  have hr := List.all_eq_true.1 (opsB_all h).2.2.1 o ho
  unfold refsB at hr
  have hin : (o.c, o.d) ∈ midTo l l.length := by
    unfold midTo
    rw [List.take_length]
    cases hno : noB o.c o.d
    · rw [hno] at hr
      cases hx : nextO l o with
      | none => rw [hx] at hr; simp at hr
      | some p =>
        rw [hx] at hr
        have hpk : p.k = 1 := by simpa using hr
        obtain ⟨hm, ha, hb⟩ := next_mem hx
        exact List.mem_cons_of_mem _ (List.mem_map.2 ⟨p, List.mem_filter.2 ⟨hm, by simp [hpk]⟩, by rw [ha, hb]⟩)
    · unfold noB at hno
      have := of_decide_eq_true hno
      rw [this.1, this.2]
      simp
  simp [hin]
theorem kidsTo_le (L : List Op7) (i : Nat) : kidsTo L i ≤ L.length := List.countP_le_length
end Go.Proofs.YtficnhlkefpfnaaDoor

namespace Go.Proofs.YtficnhlkefpfnaaDoor
open Go.RowKit
set_option linter.unusedSimpArgs false
set_option linter.unusedVariables false

/-- A sign in the row of all, with all that was put beside it, on both sides. -/
theorem side_both {l : List Op7} : ∀ (n d : Nat) (x : Int × Int × Int) (p : Op7), Up l d (x.1, x.2.1) → d + n = l.length + 2 → p ∈ sideO l n x →
    ∃ pre post n' d', Up l d' (p.a, p.b) ∧ d' + n' = l.length + 2 ∧ sideO l n x = pre ++ (sideO l n' (p.a, p.b, 0) ++ p :: sideO l n' (p.a, p.b, 1)) ++ post := by
  intro n
  induction n with
  | zero => intro d x p _ _ h; cases h
  | succ n ih =>
    intro d x p hu hd hp
    obtain ⟨o, ho, hpo⟩ := List.mem_flatMap.1 hp
    have huo := up_kid ho hu
    obtain ⟨K1, K2, hK⟩ := List.append_of_mem ho
    have hS : sideO l (n + 1) x = sideK l n K1 ++ (sideO l n (o.a, o.b, 0) ++ o :: sideO l n (o.a, o.b, 1)) ++ sideK l n K2 := by
      rw [sideK_all, hK]
      simp [sideK]
    rcases List.mem_append.1 hpo with h | h
    · obtain ⟨pre, post, n', d', h1, h2, h3⟩ := ih (d + 1) (o.a, o.b, 0) p huo (by omega) h
      exact ⟨sideK l n K1 ++ pre, post ++ (o :: sideO l n (o.a, o.b, 1)) ++ sideK l n K2, n', d', h1, h2, by rw [hS, h3]; simp⟩
    · rcases List.mem_cons.1 h with rfl | h
      · exact ⟨sideK l n K1, sideK l n K2, n, d + 1, huo, by omega, by rw [hS]⟩
      · obtain ⟨pre, post, n', d', h1, h2, h3⟩ := ih (d + 1) (o.a, o.b, 1) p huo (by omega) h
        exact ⟨sideK l n K1 ++ sideO l n (o.a, o.b, 0) ++ o :: pre, post ++ sideK l n K2, n', d', h1, h2, by rw [hS, h3]; simp⟩
theorem all_both {l : List Op7} {p : Op7} (hp : p ∈ allO l) : ∃ pre post n d, Up l d (p.a, p.b) ∧ d + n = l.length + 2 ∧ allO l = pre ++ (sideO l n (p.a, p.b, 0) ++ p :: sideO l n (p.a, p.b, 1)) ++ post :=
  side_both (l.length + 2) 0 (0, 0, 1) p Up.zero (by omega) hp
theorem desc_snoc {l : List Op7} : ∀ (i : Nat) {x : Int × Int × Int} {p q : Op7} {s : Int}, Desc l i x p → q ∈ kidsL l (p.a, p.b, s) → Desc l (i + 1) x q := by
  intro i
  induction i with
  | zero => intro x p q s h hq; exact ⟨p, s, h, hq⟩
  | succ i ih => rintro x p q s ⟨o, t, ho, hd⟩ hq; exact ⟨o, t, ho, ih hd hq⟩
/-- What is under b stands beside it, on a side. -/
theorem path_desc {l : List Op7} (ho : opsB l = true) {j : Nat} {q b : Int × Int} (h : Path l j q b) : ∃ i p s, j = i + 1 ∧ p ∈ l ∧ p.k = 1 ∧ q = (p.a, p.b) ∧ Desc l i (b.1, b.2, s) p := by
  induction h with
  | one h =>
    obtain ⟨_, hk, hm, ha, hb⟩ := putAt_some h
    exact ⟨0, _, _, rfl, hm, hk, by rw [ha, hb], kid_of hm hk⟩
  | step h hp ih =>
    rename_i j x b o
    obtain ⟨_, hk, hm, ha, hb⟩ := putAt_some h
    obtain ⟨i, p, s, rfl, _, _, he, hd⟩ := ih
    have hkid := kid_of hm hk
    have h1 : o.c = p.a := congrArg Prod.fst he
    have h2 : o.d = p.b := congrArg Prod.snd he
    rw [h1, h2] at hkid
    exact ⟨i + 1, o, s, rfl, hm, hk, by rw [ha, hb], desc_snoc i hd hkid⟩
theorem desc_path {l : List Op7} (ho : opsB l = true) : ∀ (i : Nat) {x : Int × Int × Int} {p : Op7}, Desc l i x p → Path l (i + 1) (p.a, p.b) (x.1, x.2.1) := by
  intro i
  induction i with
  | zero =>
    intro x p h
    obtain ⟨h1, h2, rfl⟩ := mem_kids h
    exact Path.one (put_here ho h1 h2)
  | succ i ih =>
    rintro x p ⟨o, s, hk, hd⟩
    have h' := ih hd
    obtain ⟨h1, h2, rfl⟩ := mem_kids hk
    exact h'.trans (Path.one (put_here ho h1 h2))
theorem kid_s {l : List Op7} (h : opsB l = true) {x : Int × Int × Int} {o : Op7} (ho : o ∈ kidsL l x) : x.2.2 = 0 ∨ x.2.2 = 1 := by
  obtain ⟨h1, h2, rfl⟩ := mem_kids ho
  exact put_s h h1 h2
theorem desc_s {l : List Op7} (h : opsB l = true) : ∀ (i : Nat) {x : Int × Int × Int} {p : Op7}, Desc l i x p → x.2.2 = 0 ∨ x.2.2 = 1 := by
  intro i
  cases i with
  | zero => intro x p hd; exact kid_s h hd
  | succ i => rintro x p ⟨o, s, hk, _⟩; exact kid_s h hk
theorem desc_in {l : List Op7} (h : opsB l = true) : ∀ (i : Nat) {x : Int × Int × Int} {p : Op7} (n : Nat), Desc l i x p → i < n → p ∈ sideO l n x := by
  intro i
  induction i with
  | zero =>
    intro x p n hd hn
    obtain ⟨m, rfl⟩ : ∃ m, n = m + 1 := ⟨n - 1, by omega⟩
    exact (side_kid (n := m) hd).1
  | succ i ih =>
    rintro x p n ⟨o, s, hk, hd⟩ hn
    obtain ⟨m, rfl⟩ : ∃ m, n = m + 1 := ⟨n - 1, by omega⟩
    exact (side_kid (n := m) hk).2 s (desc_s h i hd) p (ih m hd (by omega))
theorem desc_deep {l : List Op7} (h : opsB l = true) {i d n : Nat} {x : Int × Int × Int} {p : Op7} (hd : Desc l i x p) (hu : Up l d (x.1, x.2.1)) (hn : d + n = l.length + 2) : p ∈ sideO l n x := by
  refine desc_in h i n hd ?_
  have := up_le h (desc_up i hd hu)
  omega
/-- A sign, or one that is under it. -/
def atOrB (l : List Op7) (p q : Op7) : Bool := (q.a == p.a && q.b == p.b) || undB l q.a q.b p.a p.b
theorem atOr_side {l : List Op7} (h : opsB l = true) {p q : Op7} {n d : Nat} (hu : Up l d (p.a, p.b)) (hn : d + n = l.length + 2) (hq : q ∈ l) (hp : p ∈ l) (hb : atOrB l p q = true) : q ∈ sideO l n (p.a, p.b, 0) ++ p :: sideO l n (p.a, p.b, 1) := by
  unfold atOrB at hb
  rcases Bool.or_eq_true _ _ |>.mp hb with hb | hb
  · have : q.a = p.a ∧ q.b = p.b := by simpa using hb
    rw [once_eq (once_ops h) hq hp this.1 this.2]
    simp
  · obtain ⟨j, hj⟩ := (und_path h (a := (q.a, q.b)) (b := (p.a, p.b))).1 hb
    obtain ⟨i, q', s, _, hm', _, he, hd⟩ := path_desc h hj
    obtain rfl := once_eq (once_ops h) hq hm' (congrArg Prod.fst he) (congrArg Prod.snd he)
    have hin := desc_deep h hd hu hn
    rcases desc_s h i hd with e | e <;> simp only at e <;> subst e
    · exact List.mem_append.2 (.inl hin)
    · exact List.mem_append.2 (.inr (List.mem_cons_of_mem _ hin))
theorem side_atOr {l : List Op7} (h : opsB l = true) {p q : Op7} {n : Nat} (hq : q ∈ sideO l n (p.a, p.b, 0) ++ p :: sideO l n (p.a, p.b, 1)) : atOrB l p q = true := by
  have key : ∀ s, q ∈ sideO l n (p.a, p.b, s) → atOrB l p q = true := fun s hs => by
    obtain ⟨i, hd⟩ := side_desc n hs
    have := (und_path h (a := (q.a, q.b)) (b := (p.a, p.b))).2 ⟨_, desc_path h i hd⟩
    unfold atOrB
    simp only at this
    rw [this, Bool.or_true]
  rcases List.mem_append.1 hq with hq | hq
  · exact key 0 hq
  · rcases List.mem_cons.1 hq with rfl | hq
    · simp [atOrB]
    · exact key 1 hq
theorem nodup_mid {α : Type} {A M B : List α} (h : (A ++ M ++ B).Nodup) {i : Nat} {q : α} (hi : (A ++ M ++ B)[i]? = some q) : q ∈ M ↔ A.length ≤ i ∧ i < A.length + M.length := by
  constructor
  · intro hq
    obtain ⟨j, hj⟩ := List.mem_iff_getElem?.1 hq
    have hjl := (List.getElem?_eq_some_iff.1 hj).1
    have h2 : (A ++ M ++ B)[A.length + j]? = some q := by
      rw [List.append_assoc, List.getElem?_append_right (by omega), List.getElem?_append_left (by omega)]
      simpa using hj
    have := (List.getElem?_inj (List.getElem?_eq_some_iff.1 hi).1 h).1 (hi.trans h2.symm)
    omega
  · rintro ⟨h1, h2⟩
    rw [List.append_assoc, List.getElem?_append_right h1, List.getElem?_append_left (by omega)] at hi
    exact List.mem_of_getElem? hi
/-- The signs that are one, or under it, stand together. -/
theorem whole_all {l : List Op7} (h : opsB l = true) {p : Op7} (hp : p ∈ allO l) : ∃ lo hi, lo < hi ∧ hi ≤ (allO l).length ∧ ∀ (i : Nat) (q : Op7), (allO l)[i]? = some q → (atOrB l p q = true ↔ lo ≤ i ∧ i < hi) := by
  obtain ⟨pre, post, n, d, hu, hn, he⟩ := all_both hp
  refine ⟨pre.length, pre.length + (sideO l n (p.a, p.b, 0) ++ p :: sideO l n (p.a, p.b, 1)).length, by simp; omega, by rw [he]; simp, fun i q hq => ?_⟩
  have hnd := nodup_all h
  have hq' := hq
  rw [he] at hq' hnd
  rw [← nodup_mid hnd hq']
  exact ⟨fun hb => atOr_side h hu hn (side_put _ (List.mem_of_getElem? hq)).1 (side_put _ hp).1 hb, fun hm => side_atOr h hm⟩
/-- What was put on a side of a sign stands on that side of it. -/
theorem side_all {l : List Op7} (h : opsB l = true) {o p q : Op7} (ho : o ∈ l) (hk : o.k = 1) (hp : p ∈ l) (hpk : p.k = 1) (hpa : p.a = o.c) (hpb : p.b = o.d) {i k : Nat} (hi : (allO l)[i]? = some q) (hkk : (allO l)[k]? = some p) (hb : atOrB l o q = true) : (k < i) ↔ o.s = 1 := by
  obtain ⟨pre, post, n, d, hu, hn, he⟩ := all_both (all_mem h hp hpk)
  have hq : q ∈ l := (side_put _ (List.mem_of_getElem? hi)).1
  have hdesc : ∃ j, Desc l j (p.a, p.b, o.s) q := by
    have hkid : o ∈ kidsL l (p.a, p.b, o.s) := by rw [hpa, hpb]; exact kid_of ho hk
    unfold atOrB at hb
    rcases Bool.or_eq_true _ _ |>.mp hb with hb | hb
    · have : q.a = o.a ∧ q.b = o.b := by simpa using hb
      rw [once_eq (once_ops h) hq ho this.1 this.2]
      exact ⟨0, hkid⟩
    · obtain ⟨j, hj⟩ := (und_path h (a := (q.a, q.b)) (b := (o.a, o.b))).1 hb
      obtain ⟨i, q', s, _, hm', _, he', hd⟩ := path_desc h hj
      obtain rfl := once_eq (once_ops h) hq hm' (congrArg Prod.fst he') (congrArg Prod.snd he')
      exact ⟨i + 1, o, s, hkid, hd⟩
  obtain ⟨j, hj⟩ := hdesc
  have hin := desc_deep h hj hu hn
  have hnd := nodup_all h
  rw [he] at hi hkk hnd
  have hkp : k = pre.length + (sideO l n (p.a, p.b, 0)).length := by
    have h2 : (pre ++ (sideO l n (p.a, p.b, 0) ++ p :: sideO l n (p.a, p.b, 1)) ++ post)[pre.length + (sideO l n (p.a, p.b, 0)).length]? = some p := by
      rw [List.append_assoc, List.getElem?_append_right (by omega), List.getElem?_append_left (by simp), List.getElem?_append_right (by omega)]
      simp
    exact (List.getElem?_inj (List.getElem?_eq_some_iff.1 hkk).1 hnd).1 (hkk.trans h2.symm)
  rcases desc_s h j hj with e | e <;> simp only at e <;> rw [e] at hin
  · rw [show pre ++ (sideO l n (p.a, p.b, 0) ++ p :: sideO l n (p.a, p.b, 1)) ++ post = pre ++ sideO l n (p.a, p.b, 0) ++ (p :: sideO l n (p.a, p.b, 1) ++ post) by simp] at hi hnd
    have := (nodup_mid hnd hi).1 hin
    rw [e]
    constructor
    · intro; omega
    · intro h; omega
  · rw [show pre ++ (sideO l n (p.a, p.b, 0) ++ p :: sideO l n (p.a, p.b, 1)) ++ post = (pre ++ sideO l n (p.a, p.b, 0) ++ [p]) ++ sideO l n (p.a, p.b, 1) ++ post by simp] at hi hnd
    have := (nodup_mid hnd hi).1 hin
    rw [e]
    simp only [List.length_append, List.length_cons, List.length_nil] at this
    constructor
    · intro; rfl
    · intro; omega
end Go.Proofs.YtficnhlkefpfnaaDoor

namespace Go.Proofs.YtficnhlkefpfnaaDoor
open Go.RowKit
set_option linter.unusedSimpArgs false
set_option linter.unusedVariables false

theorem withL_lenG (l : List Op7) (o : Op7) : (withL l o).length ≤ 2 * l.length + 1 := by
  unfold withL
  have h1 := List.length_filter_le (fun p => lessB p o) l
  have h2 := List.length_filter_le (fun p => lessB o p) l
  simp only [List.length_append, List.length_cons, List.length_nil]
  omega
theorem flatMap_congr_mem {α β : Type} {f g : α → List β} : ∀ {A : List α}, (∀ a ∈ A, f a = g a) → A.flatMap f = A.flatMap g
  | [], _ => rfl
  | a :: r, h => by rw [List.flatMap_cons, List.flatMap_cons, h a (by simp), flatMap_congr_mem (fun b hb => h b (by simp [hb]))]
theorem side_stable {l : List Op7} (h : opsB l = true) : ∀ (n d : Nat) (y : Int × Int × Int), Up l d (y.1, y.2.1) → l.length + 2 ≤ d + n → sideO l (n + 1) y = sideO l n y := by
  intro n
  induction n with
  | zero => intro d y hu hd; have := up_le h hu; omega
  | succ n ih =>
    intro d y hu hd
    show (kidsL l y).flatMap _ = (kidsL l y).flatMap _
    refine flatMap_congr_mem fun o ho => ?_
    have huo := up_kid ho hu
    rw [ih (d + 1) (o.a, o.b, 0) huo (by omega), ih (d + 1) (o.a, o.b, 1) huo (by omega)]
theorem all_side {l : List Op7} (h : opsB l = true) : ∀ m, l.length + 2 ≤ m → sideO l m (0, 0, 1) = allO l := by
  intro m hm
  obtain ⟨e, rfl⟩ : ∃ e, m = l.length + 2 + e := ⟨m - (l.length + 2), by omega⟩
  clear hm
  induction e with
  | zero => rfl
  | succ e ih => rw [← ih]; exact side_stable h (l.length + 2 + e) 0 (0, 0, 1) Up.zero (by omega)
/-- A sign, with what was put at a place beside it. -/
def insT (x : Int × Int × Int) (T : List Op7) (q : Op7) : List Op7 := if q.a = x.1 ∧ q.b = x.2.1 then (if x.2.2 = 1 then q :: T else T ++ [q]) else [q]
theorem graft_side {l L : List Op7} (h : opsB l = true) {x : Int × Int × Int} (hs : x.2.2 = 0 ∨ x.2.2 = 1) (hx : kidsL l x = []) {T : List Op7} {N : Nat} (hT : ∀ n, N ≤ n → sideO L n x = T) (hk : ∀ y d, y ≠ x → Up l d (y.1, y.2.1) → kidsL L y = kidsL l y) :
    ∀ (n d : Nat) (y : Int × Int × Int), Up l d (y.1, y.2.1) → y ≠ x → l.length + 2 + N ≤ d + n → sideO L n y = (sideO l n y).flatMap (insT x T) := by
  intro n
  induction n with
  | zero => intro d y hu _ hd; have := up_le h hu; omega
  | succ n ih =>
    intro d y hu hne hd
    show (kidsL L y).flatMap _ = ((kidsL l y).flatMap _).flatMap _
    rw [hk y d hne hu, List.flatMap_assoc]
    refine flatMap_congr_mem fun o ho => ?_
    have huo := up_kid ho hu
    have hle := up_le h huo
    have he : sideO l n x = [] := by cases n with | zero => rfl | succ n => show (kidsL l x).flatMap _ = []; rw [hx]; rfl
    rw [List.flatMap_append, List.flatMap_cons]
    by_cases hq : o.a = x.1 ∧ o.b = x.2.1
    · obtain ⟨h1, h2⟩ := hq
      rcases hs with h3 | h3
      · have e0 : (o.a, o.b, (0 : Int)) = x := by rw [h1, h2, ← h3]
        have n1 : (o.a, o.b, (1 : Int)) ≠ x := fun e => by have := congrArg (fun z => z.2.2) e; simp at this; omega
        rw [ih (d + 1) (o.a, o.b, 1) huo n1 (by omega), e0, hT n (by omega), he]
        simp [insT, h1, h2, h3]
      · have e1 : (o.a, o.b, (1 : Int)) = x := by rw [h1, h2, ← h3]
        have n0 : (o.a, o.b, (0 : Int)) ≠ x := fun e => by have := congrArg (fun z => z.2.2) e; simp at this; omega
        rw [ih (d + 1) (o.a, o.b, 0) huo n0 (by omega), e1, hT n (by omega), he]
        simp [insT, h1, h2, h3]
    · have ne : ∀ s : Int, (o.a, o.b, s) ≠ x := fun s e => hq ⟨congrArg Prod.fst e, congrArg (fun z => z.2.1) e⟩
      rw [ih (d + 1) (o.a, o.b, 0) huo (ne 0) (by omega), ih (d + 1) (o.a, o.b, 1) huo (ne 1) (by omega)]
      have : insT x T o = [o] := by unfold insT; rw [if_neg hq]
      rw [this]; rfl
theorem graft_all {l L : List Op7} (h : opsB l = true) (hL : opsB L = true) {x : Int × Int × Int} (hs : x.2.2 = 0 ∨ x.2.2 = 1) (hx : kidsL l x = []) {T : List Op7} {N : Nat} (hT : ∀ n, N ≤ n → sideO L n x = T) (hk : ∀ y d, y ≠ x → Up l d (y.1, y.2.1) → kidsL L y = kidsL l y) (h0 : x ≠ (0, 0, 1)) :
    allO L = (allO l).flatMap (insT x T) := by
  rw [← all_side hL (l.length + 2 + N + (L.length + 2)) (by omega), ← all_side h (l.length + 2 + N + (L.length + 2)) (by omega)]
  exact graft_side h hs hx hT hk _ 0 (0, 0, 1) Up.zero (Ne.symm h0) (by omega)
theorem graft_none {l L : List Op7} (h : opsB l = true) (hL : opsB L = true) (hx : kidsL l (0, 0, 1) = []) {T : List Op7} {N : Nat} (hT : ∀ n, N ≤ n → sideO L n (0, 0, 1) = T) : allO l = [] ∧ allO L = T := by
  refine ⟨?_, ?_⟩
  · show (kidsL l (0, 0, 1)).flatMap _ = []
    rw [hx]; rfl
  · rw [← all_side hL (N + (L.length + 2)) (by omega)]
    exact hT _ (by omega)
theorem ins_apart {x : Int × Int × Int} {T A : List Op7} (h : ∀ q ∈ A, ¬ (q.a = x.1 ∧ q.b = x.2.1)) : A.flatMap (insT x T) = A := by
  induction A with
  | nil => rfl
  | cons q r ih =>
    rw [List.flatMap_cons, ih (fun p hp => h p (by simp [hp]))]
    unfold insT
    rw [if_neg (h q (by simp))]
    rfl
theorem all_once {l : List Op7} (h : opsB l = true) {A B : List Op7} {p : Op7} (he : allO l = A ++ p :: B) : (∀ q ∈ A, ¬ (q.a = p.a ∧ q.b = p.b)) ∧ ∀ q ∈ B, ¬ (q.a = p.a ∧ q.b = p.b) := by
  have hnd := nodup_all h
  rw [he] at hnd
  obtain ⟨_, h2, h3⟩ := List.nodup_append.1 hnd
  have mem : ∀ q ∈ allO l, q ∈ l := fun q hq => (side_put _ hq).1
  have hp : p ∈ l := mem p (by rw [he]; simp)
  refine ⟨fun q hq e => ?_, fun q hq e => ?_⟩
  · have : q = p := once_eq (once_ops h) (mem q (by rw [he]; simp [hq])) hp e.1 e.2
    exact h3 q hq p (by simp) this
  · have : q = p := once_eq (once_ops h) (mem q (by rw [he]; simp [hq])) hp e.1 e.2
    subst this
    exact (List.nodup_cons.1 h2).1 hq
theorem ins_at {l : List Op7} (h : opsB l = true) {A B T : List Op7} {p : Op7} {x : Int × Int × Int} (hp : p.a = x.1 ∧ p.b = x.2.1) (he : allO l = A ++ p :: B) : (allO l).flatMap (insT x T) = A ++ (if x.2.2 = 1 then p :: T else T ++ [p]) ++ B := by
  obtain ⟨h1, h2⟩ := all_once h he
  rw [he, List.flatMap_append, List.flatMap_cons, ins_apart (fun q hq => by rw [← hp.1, ← hp.2]; exact h1 q hq), ins_apart (fun q hq => by rw [← hp.1, ← hp.2]; exact h2 q hq)]
  unfold insT
  rw [if_pos hp]
  simp
/-- The kids of a list with one more. -/
theorem kids_with {l : List Op7} {o : Op7} (h : opsB l = true) (hno : ∀ p ∈ l, ¬ (p.a = o.a ∧ p.b = o.b)) (y : Int × Int × Int) : (isKid y o = false → kidsL (withL l o) y = kidsL l y) ∧ (isKid y o = true → kidsL l y = [] → kidsL (withL l o) y = [o]) := by
  obtain ⟨A, B, h1, h2⟩ := withL_split (ops_sorted h) hno
  unfold kidsL
  rw [h2]
  constructor
  · intro hk
    conv => rhs; rw [h1]
    rw [List.filter_append, List.filter_append, List.filter_cons_of_neg (by simp [hk])]
  · intro hk he
    conv at he => lhs; rw [h1]
    rw [List.filter_append] at he
    obtain ⟨e1, e2⟩ := List.append_eq_nil_iff.1 he
    rw [List.filter_append, List.filter_cons_of_pos (by simp [hk]), e1, e2]
    rfl
/-- Nothing was put beside what is new. -/
theorem kids_new {l : List Op7} {o : Op7} (h : opsB l = true) (hno : ∀ p ∈ l, ¬ (p.a = o.a ∧ p.b = o.b)) (ho : 1 ≤ o.a) (s : Int) : kidsL l (o.a, o.b, s) = [] := by
  refine List.filter_eq_nil_iff.2 fun q hq hk => ?_
  simp [isKid] at hk
  obtain ⟨d, hd⟩ := put_up h hq
  rcases up_inv hd with ⟨_, hx⟩ | ⟨e, p, _, hm, _, _, hx⟩
  · have := congrArg Prod.fst hx
    simp at this
    omega
  · have e1 : q.c = p.a := congrArg Prod.fst hx
    have e2 : q.d = p.b := congrArg Prod.snd hx
    exact hno p hm ⟨by omega, by omega⟩
/-- What is put at an empty place stands alone there. -/
theorem side_new {l : List Op7} {o : Op7} (h : opsB l = true) (hc : CanL l o) (hk : o.k = 1) (hx : kidsL l (o.c, o.d, o.s) = []) : ∀ n, 1 ≤ n → sideO (withL l o) n (o.c, o.d, o.s) = [o] := by
  intro n hn
  obtain ⟨m, rfl⟩ : ∃ m, n = m + 1 := ⟨n - 1, by omega⟩
  have hself : isKid (o.c, o.d, o.s) o = true := by simp [isKid, hk]
  have hne : ∀ s, isKid (o.a, o.b, s) o = false := fun s => by
    cases hb : isKid (o.a, o.b, s) o
    · rfl
    · simp [isKid] at hb
      obtain ⟨d, hd⟩ := hc.ref
      rcases up_inv hd with ⟨_, hx⟩ | ⟨e, p, _, hm, _, _, hx⟩
      · have := congrArg Prod.fst hx
        have := (okO_id hc.form).1
        simp at *
        omega
      · have e1 : o.c = p.a := congrArg Prod.fst hx
        have e2 : o.d = p.b := congrArg Prod.snd hx
        exact absurd ⟨by omega, by omega⟩ (hc.new p hm)
  have hnil : ∀ s, sideO (withL l o) m (o.a, o.b, s) = [] := fun s => by
    cases m with
    | zero => rfl
    | succ m =>
      show (kidsL (withL l o) (o.a, o.b, s)).flatMap _ = []
      rw [(kids_with h hc.new _).1 (hne s), kids_new h hc.new (okO_id hc.form).1 s]
      rfl
  show (kidsL (withL l o) (o.c, o.d, o.s)).flatMap _ = [o]
  rw [(kids_with h hc.new _).2 hself hx]
  simp [hnil]
/-- What is put at an empty place of a sign: behind it, or ahead of it. -/
theorem all_with {l : List Op7} {o p : Op7} (h : opsB l = true) (hc : CanL l o) (hk : o.k = 1) (hx : kidsL l (o.c, o.d, o.s) = []) {A B : List Op7} (he : allO l = A ++ p :: B) (hp : p.a = o.c ∧ p.b = o.d) : allO (withL l o) = if o.s = 1 then A ++ p :: o :: B else A ++ o :: p :: B := by
  have hform := hc.form
  unfold okO at hform
  rw [opB_true] at hform
  have hs : o.s = 0 ∨ o.s = 1 := by omega
  have hpos : 1 ≤ p.a := op_pos (opsB_all h).1 (side_put _ (show p ∈ allO l by rw [he]; simp)).1
  have := graft_all h ((can_iff h hc.new).2 hc) (x := (o.c, o.d, o.s)) hs hx (side_new h hc hk hx) (fun y d hy _ => (kids_with h hc.new y).1 (by
    cases hb : isKid y o
    · rfl
    · simp [isKid] at hb
      exact absurd (by rw [hb.2.1, hb.2.2.1, hb.2.2.2]) hy)) (fun e => by have := congrArg Prod.fst e; simp at this; omega)
  rw [this, ins_at h (x := (o.c, o.d, o.s)) hp he]
  rcases hs with e | e <;> simp [e]
theorem all_with_none {l : List Op7} {o : Op7} (h : opsB l = true) (hc : CanL l o) (hk : o.k = 1) (h0 : o.c = 0 ∧ o.d = 0) (hs : o.s = 1) (hx : kidsL l (0, 0, 1) = []) : allO l = [] ∧ allO (withL l o) = [o] := by
  refine graft_none h ((can_iff h hc.new).2 hc) hx (N := 1) fun n hn => ?_
  have := side_new h hc hk (by rw [h0.1, h0.2, hs]; exact hx) n hn
  rw [h0.1, h0.2, hs] at this
  exact this
/-- What takes something away moves nothing. -/
theorem all_take {l : List Op7} {o : Op7} (h : opsB l = true) (hc : CanL l o) (hk : o.k = 2) : allO (withL l o) = allO l := by
  have hkid : ∀ y, kidsL (withL l o) y = kidsL l y := fun y => (kids_with h hc.new y).1 (by simp [isKid, hk])
  have hside : ∀ n y, sideO (withL l o) n y = sideO l n y := by
    intro n
    induction n with
    | zero => intro y; rfl
    | succ n ih =>
      intro y
      show (kidsL (withL l o) y).flatMap _ = (kidsL l y).flatMap _
      rw [hkid y]
      exact flatMap_congr_mem fun q _ => by rw [ih, ih]
  have hle := withL_lenG l o
  rw [← all_side ((can_iff h hc.new).2 hc) (l.length + 2 + 2 * l.length + 5) (by omega), ← all_side h (l.length + 2 + 2 * l.length + 5) (by omega)]
  exact hside _ _
end Go.Proofs.YtficnhlkefpfnaaDoor

namespace Go.Proofs.YtficnhlkefpfnaaDoor
open Go.RowKit
set_option linter.unusedSimpArgs false
set_option linter.unusedVariables false

/-- How many of them are not gone. -/
def nShown (L : List Lf) : Nat := (L.filter fun x => !x.z).length
theorem nShown_nil : nShown [] = 0 := rfl
theorem nShown_gone {L : List Lf} {x : Lf} (h : x.z = true) : nShown (L ++ [x]) = nShown L := by simp [nShown, h]
theorem nShown_there {L : List Lf} {x : Lf} (h : x.z = false) : nShown (L ++ [x]) = nShown L + 1 := by simp [nShown, h]
theorem nShown_le (L : List Lf) : nShown L ≤ L.length := List.length_filter_le _ _
theorem nShown_app (A B : List Lf) : nShown (A ++ B) = nShown A + nShown B := by simp [nShown]
/-- A list that has no leaf of that id. -/
def freeOf (L : List Lf) (a b : Int) : Prop := ∀ x ∈ L, ¬ (x.a = a ∧ x.b = b)
theorem freeOf_nil (a b : Int) : freeOf [] a b := fun _ h => by cases h
theorem freeOf_more {L : List Lf} {a b : Int} {x : Lf} (h : freeOf L a b) (hx : ¬ (x.a = a ∧ x.b = b)) : freeOf (L ++ [x]) a b := by
  intro y hy
  rcases List.mem_append.1 hy with h1 | h1
  · exact h y h1
  · simp at h1; subst h1; exact hx
/-- How many that are not gone stand up to the first one of that id. -/
def upTo (a b : Int) : List Lf → Nat → Option Nat
  | [], _ => none
  | x :: t, n => if x.a = a ∧ x.b = b then some (if x.z then n else n + 1) else upTo a b t (if x.z then n else n + 1)
theorem upTo_free {a b : Int} : ∀ {L : List Lf} {n : Nat}, freeOf L a b → upTo a b L n = none
  | [], _, _ => rfl
  | x :: t, n, h => by
    simp only [upTo]
    rw [if_neg (h x List.mem_cons_self)]
    exact upTo_free fun y hy => h y (List.mem_cons_of_mem _ hy)
theorem upTo_at {a b : Int} : ∀ {p : List Lf} {x : Lf} {t : List Lf} {n : Nat}, freeOf p a b → x.a = a → x.b = b → upTo a b (p ++ x :: t) n = some (n + nShown (p ++ [x]))
  | [], x, t, n, _, ha, hb => by
    simp only [List.nil_append, upTo]
    rw [if_pos ⟨ha, hb⟩]
    cases hz : x.z <;> simp [nShown, hz]
  | y :: p, x, t, n, h, ha, hb => by
    simp only [List.cons_append, upTo]
    rw [if_neg (h y List.mem_cons_self), upTo_at (fun u hu => h u (List.mem_cons_of_mem _ hu)) ha hb]
    cases hz : y.z <;> simp [nShown, hz] <;> omega
/-- The place of a mark: none, if there is no such sign. -/
def placeM (l : List Op7) (a b : Int) : Option Nat := if a = 0 ∧ b = 0 then some 0 else upTo a b (lfs l (allO l)) 0
/-- What MarkPlace answers. -/
def markP (l : List Op7) (a b : Int) : Option Nat := if opsB l = true then placeM l a b else none
def pN (p : Option Nat) : Int := match p with | some n => n | none => 0
def pB (p : Option Nat) : Bool := match p with | some _ => true | none => false
theorem upTo_le {a b : Int} : ∀ {L : List Lf} {n k : Nat}, upTo a b L n = some k → k ≤ n + nShown L
  | [], _, _, h => by cases h
  | x :: t, n, k, h => by
    simp only [upTo] at h
    cases hz : x.z <;> simp only [hz] at h <;> split at h <;> (try cases h) <;> (try simp [nShown, hz]) <;> (try (have h1 := upTo_le h; simp [nShown] at h1; omega))
theorem markP_le {l : List Op7} {a b : Int} {k : Nat} (h : markP l a b = some k) : k ≤ nShown (lfs l (standL l)) := by
  unfold markP at h
  split at h
  · rename_i ho
    unfold placeM at h
    split at h
    · cases h; omega
    · have h1 := upTo_le h
      have h2 : standL l = allO l := by unfold standL; rw [ho]; rfl
      rw [h2]; omega
  · cases h
end Go.Proofs.YtficnhlkefpfnaaDoor
