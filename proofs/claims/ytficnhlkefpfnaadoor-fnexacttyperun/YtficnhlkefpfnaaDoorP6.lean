/- Contracts of szOpS and toOpS. -/
import Derived.Test.YtficnhlkefpfnaaDoorP0
import Derived.OwnWalk
namespace Go.Proofs.YtficnhlkefpfnaaDoor
open Go.RowKit
set_option linter.unusedSimpArgs false
set_option linter.unusedVariables false

theorem sz_small (p : Option Addr) (n cap : Nat) (w : World) (hn : n ≤ 1048576) :
    Calls Tryd.prog 13 #[.slice p n cap, .int .i64 1048576] w fun e w' => e = .returned (.int .i64 (1048576 - (n : Int))) ∧ w' = w := by
  go_enter Tryd.func13, Tryd.ntmps13
  go_wp2
  go_ret
  exact ⟨rfl, rfl⟩
theorem sz_big (p : Option Addr) (n cap : Nat) (w : World) (hn : 1048576 < n) (hm : n ≤ maxLen) :
    Calls Tryd.prog 13 #[.slice p n cap, .int .i64 1048576] w fun e w' => e = .returned (.int .i64 (-1)) ∧ w' = w := by
  unfold maxLen at hm
  go_enter Tryd.func13, Tryd.ntmps13
  go_wp2
  go_ret
  exact ⟨rfl, rfl⟩

/-- The cells of things that came in, from an offset on. -/
def LawAt (w : World) (b off : Nat) (l : List Op7) : Prop := b < w.heap.size ∧ ∀ (i : Nat) (o : Op7), l[i]? = some o →
  w.cell? ⟨b, off + i * 7, none⟩ = some (.int .i64 o.a) ∧ w.cell? ⟨b, off + i * 7 + 1, none⟩ = some (.int .i64 o.b) ∧ w.cell? ⟨b, off + i * 7 + 2, none⟩ = some (.int .i64 o.k) ∧ w.cell? ⟨b, off + i * 7 + 3, none⟩ = some (.int .i64 o.c) ∧
  w.cell? ⟨b, off + i * 7 + 4, none⟩ = some (.int .i64 o.d) ∧ w.cell? ⟨b, off + i * 7 + 5, none⟩ = some (.int .i64 o.s) ∧ w.cell? ⟨b, off + i * 7 + 6, none⟩ = some (.int .i64 o.g)
theorem LawAt.below {w w' : World} {g off B : Nat} {l : List Op7} (h : LawAt w g off l) (hb : Below B w w') (hB : g < B) : LawAt w' g off l := by
  refine ⟨Nat.lt_of_lt_of_le h.1 hb.size, fun i o ho => ?_⟩
  obtain ⟨h0, h1, h2, h3, h4, h5, h6⟩ := h.2 i o ho
  exact ⟨(hb.cell (p := ⟨g, _, none⟩) hB).trans h0, (hb.cell (p := ⟨g, _, none⟩) hB).trans h1, (hb.cell (p := ⟨g, _, none⟩) hB).trans h2, (hb.cell (p := ⟨g, _, none⟩) hB).trans h3, (hb.cell (p := ⟨g, _, none⟩) hB).trans h4, (hb.cell (p := ⟨g, _, none⟩) hB).trans h5, (hb.cell (p := ⟨g, _, none⟩) hB).trans h6⟩

theorem infoOp : (Tryd.prog.info? 71).map (fun i => (i.zero, i.size, i.bytes)) = some (some (.agg #[.int .i64 0, .int .i64 0, .int .i64 0, .int .i64 0, .int .i64 0, .int .i64 0, .int .i64 0]), 7, 56) := by kernel_rfl

/-- A block of cells that holds the first k things already. -/
def Filled (w : World) (B k : Nat) (l : List Op7) : Prop := ∃ cur : Array Value, w.heap[B]? = some (.cells cur 71 (0, 0)) ∧ cur.size = l.length * 7 ∧ ∀ (i : Nat) (o : Op7), l[i]? = some o → i < k →
  cur[i * 7]? = some (.int .i64 o.a) ∧ cur[i * 7 + 1]? = some (.int .i64 o.b) ∧ cur[i * 7 + 2]? = some (.int .i64 o.k) ∧ cur[i * 7 + 3]? = some (.int .i64 o.c) ∧ cur[i * 7 + 4]? = some (.int .i64 o.d) ∧ cur[i * 7 + 5]? = some (.int .i64 o.s) ∧ cur[i * 7 + 6]? = some (.int .i64 o.g)

theorem cell_of_block {w : World} {B : Nat} {cur : Array Value} {t : TypeId} (h : w.heap[B]? = some (.cells cur t (0, 0))) (j : Nat) : w.cell? ⟨B, j, none⟩ = cur[j]? := by
  simp [World.cell?, h]
theorem frozen_of_block {w : World} {B : Nat} {cur : Array Value} {t : TypeId} (h : w.heap[B]? = some (.cells cur t (0, 0))) (j : Nat) : w.frozen? ⟨B, j, none⟩ = false := by
  simp [World.frozen?, h]

theorem Filled.step {w : World} {B k : Nat} {l : List Op7} (h : Filled w B k l) (hk : k < l.length) :
    Filled (((((((w.setCell ⟨B, k * 7, none⟩ (.int .i64 l[k].a)).setCell ⟨B, k * 7 + 1, none⟩ (.int .i64 l[k].b)).setCell ⟨B, k * 7 + 2, none⟩ (.int .i64 l[k].k)).setCell ⟨B, k * 7 + 3, none⟩ (.int .i64 l[k].c)).setCell ⟨B, k * 7 + 4, none⟩ (.int .i64 l[k].d)).setCell ⟨B, k * 7 + 5, none⟩ (.int .i64 l[k].s)).setCell ⟨B, k * 7 + 6, none⟩ (.int .i64 l[k].g)) B (k + 1) l := by
  obtain ⟨cur, hb, hs, hc⟩ := h
  have b0 := heap_setCell_same w B (k * 7) cur 71 (.int .i64 l[k].a) hb
  have b1 := heap_setCell_same _ B (k * 7 + 1) _ 71 (.int .i64 l[k].b) b0
  have b2 := heap_setCell_same _ B (k * 7 + 2) _ 71 (.int .i64 l[k].k) b1
  have b3 := heap_setCell_same _ B (k * 7 + 3) _ 71 (.int .i64 l[k].c) b2
  have b4 := heap_setCell_same _ B (k * 7 + 4) _ 71 (.int .i64 l[k].d) b3
  have b5 := heap_setCell_same _ B (k * 7 + 5) _ 71 (.int .i64 l[k].s) b4
  have b6 := heap_setCell_same _ B (k * 7 + 6) _ 71 (.int .i64 l[k].g) b5
  refine ⟨_, b6, by simpa using hs, fun i o ho hi => ?_⟩
  have get : ∀ p, (((((((cur.setIfInBounds (k * 7) (.int .i64 l[k].a)).setIfInBounds (k * 7 + 1) (.int .i64 l[k].b)).setIfInBounds (k * 7 + 2) (.int .i64 l[k].k)).setIfInBounds (k * 7 + 3) (.int .i64 l[k].c)).setIfInBounds (k * 7 + 4) (.int .i64 l[k].d)).setIfInBounds (k * 7 + 5) (.int .i64 l[k].s)).setIfInBounds (k * 7 + 6) (Value.int .i64 l[k].g))[p]? =
      if p = k * 7 + 6 then some (.int .i64 l[k].g) else if p = k * 7 + 5 then some (.int .i64 l[k].s) else if p = k * 7 + 4 then some (.int .i64 l[k].d) else if p = k * 7 + 3 then some (.int .i64 l[k].c) else if p = k * 7 + 2 then some (.int .i64 l[k].k) else if p = k * 7 + 1 then some (.int .i64 l[k].b) else if p = k * 7 then some (.int .i64 l[k].a) else cur[p]? := fun p => by
    simp only [Array.getElem?_setIfInBounds, Array.size_setIfInBounds]
    by_cases h6 : p = k * 7 + 6
    · subst h6; simp; omega
    by_cases h5 : p = k * 7 + 5
    · subst h5; simp; omega
    by_cases h4 : p = k * 7 + 4
    · subst h4; simp; omega
    by_cases h3 : p = k * 7 + 3
    · subst h3; simp; omega
    by_cases h2 : p = k * 7 + 2
    · subst h2; simp; omega
    by_cases h1 : p = k * 7 + 1
    · subst h1; simp; omega
    by_cases h0 : p = k * 7
    · subst h0; simp; omega
    · simp [h6, h5, h4, h3, h2, h1, h0, Ne.symm h6, Ne.symm h5, Ne.symm h4, Ne.symm h3, Ne.symm h2, Ne.symm h1, Ne.symm h0]
  simp only [get]
  rcases Nat.lt_or_ge i k with h | h
  · obtain ⟨g0, g1, g2, g3, g4, g5, g6⟩ := hc i o ho h
    refine ⟨?_, ?_, ?_, ?_, ?_, ?_, ?_⟩ <;> simp only [show ∀ a b : Nat, a < 7 → b < 7 → ¬ (i * 7 + a = k * 7 + b) from fun a b _ _ => by omega, show ∀ b : Nat, b < 7 → ¬ (i * 7 = k * 7 + b) from fun b _ => by omega, show ∀ a : Nat, a < 7 → ¬ (i * 7 + a = k * 7) from fun a _ => by omega, show ¬ (i * 7 = k * 7) from by omega, Nat.reduceLT, if_false, g0, g1, g2, g3, g4, g5, g6]
  · obtain rfl : i = k := by omega
    have ho' : o = l[i] := by
      rw [List.getElem?_eq_getElem hk] at ho; exact (Option.some.inj ho).symm
    subst ho'
    refine ⟨?_, ?_, ?_, ?_, ?_, ?_, ?_⟩ <;> simp
theorem Filled.below {w w' : World} {B C k : Nat} {l : List Op7} (h : Filled w B k l) (hb : Below C w w') (hB : B < C) : Filled w' B k l := by
  obtain ⟨cur, h1, h2, h3⟩ := h
  exact ⟨cur, (hb.block B hB).trans h1, h2, h3⟩
theorem Filled.at {w : World} {B : Nat} {l : List Op7} (h : Filled w B l.length l) : OpsAt w B l := by
  obtain ⟨cur, hb, hs, hc⟩ := h
  refine ⟨?_, fun i o ho => ?_⟩
  · rcases Nat.lt_or_ge B w.heap.size with h | h
    · exact h
    · simp [Array.getElem?_eq_none h] at hb
  · have hi : i < l.length := by
      rcases Nat.lt_or_ge i l.length with h | h
      · exact h
      · simp [List.getElem?_eq_none h] at ho
    simp only [cell_of_block hb]
    exact hc i o ho hi

set_option maxHeartbeats 1000000 in
theorem toOpS_some (l : List Op7) (b off cap : Nat) (w : World) (hl : LawAt w b off l) (hn : l.length ≤ 1048576) (hcap : l.length ≤ cap) :
    Calls Tryd.prog 15 #[.slice (some ⟨b, off, none⟩) l.length cap] w fun e w' => e = .returned (.slice (some ⟨w.heap.size, 0, none⟩) l.length l.length) ∧ OpsAt w' w.heap.size l ∧ Below w.heap.size w w' := by
  obtain ⟨i0, hi, hz0, hz1, hz2⟩ := info_parts infoOp
  go_enter Tryd.func15, Tryd.ntmps15
  go_wp2_with (first
    | (at_make; refine wpList_make_full _ rfl _ _ 24 rfl w.heap.size 71 i0 _ 7 Tryd.underlying24 hi hz0 hz1 .i64 .i64 _ _ l.length rfl rfl rfl rfl (by rw [hz2]; omega) (by unfold maxLen; omega) (Nat.le_refl _) ?_; intro w1 hown hgrow))
  clear hi hz0 hz1 hz2
  have hB1 : Below w.heap.size w w1 := (Below.refl _ _).grown hgrow (Nat.le_refl _) (fun k h => by cases h)
  have hF0 : Filled w1 w.heap.size 0 l := by
    obtain ⟨_, ⟨h, _⟩ | ⟨g, cap', cur, hv, _, hb, _, _, hs, _⟩⟩ := hown
    · cases h
    · simp only [Value.slice.injEq, Option.some.injEq, Addr.mk.injEq] at hv
      obtain ⟨⟨rfl, _⟩, _, rfl⟩ := hv
      exact ⟨cur, hb, hs, fun i o _ h => by omega⟩
  clear hown hgrow
  go_loopw [4] (fun i wr => ∃ k : Nat, k ≤ l.length ∧ i = .int .i64 k ∧ Filled wr w.heap.size k l ∧ Below w.heap.size w wr)
    (fun i _ => l.length - (intOf i).toNat)
  case atStart => exact ⟨0, Nat.zero_le _, rfl, hF0, hB1⟩
  case round =>
    obtain ⟨k, hk, rfl, hF, hB⟩ := hrel
    have HB : Hid (Below w.heap.size w wr) := hB
    have HF : Hid (Filled wr w.heap.size k l) := hF
    by_cases hlt : k < l.length
    · obtain ⟨h0, h1, h2, h3, h4, h5, h6⟩ := (hl.below hB hl.1).2 k l[k] (by simp [hlt])
      have hbk := (hl.below hB hl.1).1
      obtain ⟨cur, hblk, hsz, hcur⟩ := hF
      have hBlt : w.heap.size < wr.heap.size := by
        rcases Nat.lt_or_ge w.heap.size wr.heap.size with h | h
        · exact h
        · simp [Array.getElem?_eq_none h] at hblk
      have hfz : ∀ o, wr.frozen? ⟨w.heap.size, o, none⟩ = false := fun o => frozen_of_block hblk o
      have hex : ∀ j, j < 7 → ∃ u, wr.cell? ⟨w.heap.size, k * 7 + j, none⟩ = some u := fun j hj => by
        rw [cell_of_block hblk]; exact ⟨_, Array.getElem?_eq_getElem (by omega)⟩
      obtain ⟨u0, e0⟩ := hex 0 (by omega)
      obtain ⟨u1, e1⟩ := hex 1 (by omega)
      obtain ⟨u2, e2⟩ := hex 2 (by omega)
      obtain ⟨u3, e3⟩ := hex 3 (by omega)
      obtain ⟨u4', e4⟩ := hex 4 (by omega)
      obtain ⟨u5', e5⟩ := hex 5 (by omega)
      obtain ⟨u6', e6⟩ := hex 6 (by omega)
      simp only [Nat.add_zero] at e0
      have hlt' : (k : Int) < (l.length : Int) := by omega
      have hk0 : (0 : Int) ≤ (k : Int) := by omega
      clear hB hl hblk hsz hcur hex hB1 hF0
      go_wp2_with (first
        | (go_at_call 46; refine (toOp_any _ _ _ _ _ _ _ _).mono ?_; rintro e w2 ⟨rfl, hb2⟩; obtain ⟨hc2, hf2⟩ := bcell hb2; have HB2 : Hid (Below wr.heap.size wr w2) := hb2; clear hb2))
      exact ⟨⟨k + 1, by omega, by go_num, (HF.out.below HB2.out hBlt).step hlt, (((((((Bstep HB.out HB2.out).setCell (Nat.le_refl _) _).setCell (Nat.le_refl _) _).setCell (Nat.le_refl _) _).setCell (Nat.le_refl _) _).setCell (Nat.le_refl _) _).setCell (Nat.le_refl _) _).setCell (Nat.le_refl _) _⟩, by simp [intOf]; omega⟩
    · obtain rfl : k = l.length := by omega
      clear hB hF hl hB1 hF0
      go_wp2
      go_ret
      exact ⟨rfl, HF.out.at, HB.out⟩

set_option maxHeartbeats 1000000 in
theorem toOpS_zero (p : Option Addr) (cap : Nat) (w : World) :
    Calls Tryd.prog 15 #[.slice p 0 cap] w fun e w' => e = .returned (.slice (some ⟨w.heap.size, 0, none⟩) 0 0) ∧ OpsAt w' w.heap.size [] ∧ Below w.heap.size w w' := by
  obtain ⟨i0, hi, hz0, hz1, hz2⟩ := info_parts infoOp
  go_enter Tryd.func15, Tryd.ntmps15
  go_wp2_with (first
    | (at_make; refine wpList_make_full _ rfl _ _ 24 rfl w.heap.size 71 i0 _ 7 Tryd.underlying24 hi hz0 hz1 .i64 .i64 _ _ 0 rfl rfl rfl rfl (by omega) (by unfold maxLen; omega) (Nat.le_refl _) ?_; intro w1 hown hgrow))
  clear hi hz0 hz1 hz2
  have hB1 : Below w.heap.size w w1 := (Below.refl _ _).grown hgrow (Nat.le_refl _) (fun k h => by cases h)
  have hlt1 : w.heap.size < w1.heap.size := (hown.lt _ rfl).2
  clear hown hgrow
  refine wp_loop_rounds 1 ?_
  rw [rounds_succ]
  go_wp2
  go_ret
  exact ⟨rfl, ⟨hlt1, fun i o h => by simp at h⟩, hB1⟩

/-- A slice of things that came in. -/
def ArgOps (w : World) (p : Option Addr) (l : List Op7) : Prop := l = [] ∨ ∃ b off, p = some ⟨b, off, none⟩ ∧ LawAt w b off l
theorem ArgOps.below {w w' : World} {p : Option Addr} {l : List Op7} (h : ArgOps w p l) (hb : Below w.heap.size w w') : ArgOps w' p l := by
  rcases h with h | ⟨b, off, h1, h2⟩
  · exact .inl h
  · exact .inr ⟨b, off, h1, h2.below hb h2.1⟩
theorem toOpS_any (l : List Op7) (p : Option Addr) (cap : Nat) (w : World) (hl : ArgOps w p l) (hn : l.length ≤ 1048576) (hcap : l.length ≤ cap) :
    Calls Tryd.prog 15 #[.slice p l.length cap] w fun e w' => e = .returned (.slice (some ⟨w.heap.size, 0, none⟩) l.length l.length) ∧ OpsAt w' w.heap.size l ∧ Below w.heap.size w w' := by
  rcases hl with rfl | ⟨b, off, rfl, hl⟩
  · exact toOpS_zero p cap w
  · exact toOpS_some l b off cap w hl hn hcap
end Go.Proofs.YtficnhlkefpfnaaDoor
