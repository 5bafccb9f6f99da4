/- Contracts of the specification's l2Leaves and TreeLeaves, and of eqLeafS, markLeafS, heldLeafS. -/
import Derived.Test.YtpkdadccapemcaaDoorSide
import Derived.Test.YtpkdadccapemcaaDoorEqOps
namespace Go.Proofs.YtpkdadccapemcaaDoor
open Go.RowKit
set_option linter.unusedSimpArgs false
set_option linter.unusedVariables false
attribute [local go_sem ↓] Go.wp_at_zero Go.wp_at_succ

/-- All signs, as they stand, if what was done is ok. -/
def standL (l : List Op7) : List Op7 := if opsB l = true then allO l else []
theorem all_len {l : List Op7} (h : opsB l = true) : (allO l).length ≤ l.length := side_len (x := (0, 0, 1)) h Up.zero
theorem stand_len (l : List Op7) : (standL l).length ≤ l.length := by
  unfold standL
  split
  · rename_i h; exact all_len h
  · simp

set_option maxRecDepth 100000 in
set_option maxHeartbeats 1000000 in
theorem l2Leaves_any (l : List Op7) (hops : opsB l = true) (g cap : Nat) (w : World) (hl : OpsAt w g l) (hn : l.length ≤ 1048576) (hcap : l.length ≤ cap) :
    Calls Tryd.prog 27 #[.slice (some ⟨g, 0, none⟩) l.length cap] w fun e w' => ∃ G c, e = .returned (.slice (some ⟨G, 0, none⟩) (allO l).length c) ∧ w'.ownsRow w.heap.size 63 4 (.slice (some ⟨G, 0, none⟩) (allO l).length c) (allO l).length (leafCells l (allO l)) ∧ Below w.heap.size w w' := by
  have HL := hideIt hl
  have HO := hideIt hops
  clear hl hops
  go_enter Tryd.func27, Tryd.ntmps27
  go_wp2_with fail
  refine (l2Side_any l HO.out g cap hn hcap (l.length + 2) 0 0 0 1 Up.zero (by omega) _ HL.out).mono ?_
  rintro e w1 ⟨G, c, rfl, hr, hb⟩
  have HR := hideIt hr
  have HB := hideIt hb
  clear hr hb
  go_wp2
  go_ret
  exact ⟨_, _, rfl, HR.out, HB.out⟩

set_option maxRecDepth 100000 in
set_option maxHeartbeats 1000000 in
theorem specLeaves_any (l : List Op7) (g cap : Nat) (w : World) (hl : OpsAt w g l) (hn : l.length ≤ 1048576) (hcap : l.length ≤ cap) :
    Calls Tryd.prog 8 #[.slice (some ⟨g, 0, none⟩) l.length cap] w fun e w' => ∃ G c, e = .returned (.slice (some ⟨G, 0, none⟩) (standL l).length c) ∧ w'.ownsRow w.heap.size 63 4 (.slice (some ⟨G, 0, none⟩) (standL l).length c) (standL l).length (leafCells l (standL l)) ∧ Below w.heap.size w w' := by
  have HL := hideIt hl
  have hgw := hl.1
  clear hl
  cases ho : opsB l
  all_goals
    have HO := hideIt ho
    clear ho
    go_enter Tryd.func8, Tryd.ntmps8
    go_wp2_with fail
    refine (specOps_any l _ _ _ HL.out hn hcap).mono ?_
    rintro e w1 ⟨rfl, hb1⟩
    rw [HO.out]
    have HB1 := hideIt hb1
    clear hb1
  · have HE : Hid (standL l = []) := by show standL l = []; unfold standL; rw [HO.out]; rfl
    go_wp2
    go_ret
    refine ⟨w1.heap.size, 0, by rw [HE.out]; rfl, ?_, HB1.out.alloc HB1.out.size _⟩
    rw [HE.out]
    exact World.ownsRow_made (base := w.heap.size) (e := 63) (size := 4) w1 #[] 0 HB1.out.size (Nat.zero_le _) rfl
  · have HE : Hid (standL l = allO l) := by show standL l = allO l; unfold standL; rw [HO.out]; rfl
    go_wp2_with fail
    refine (l2Leaves_any l HO.out _ _ _ (HL.out.below HB1.out hgw) hn hcap).mono ?_
    rintro e w2 ⟨G, c, rfl, hr, hb2⟩
    have HB2 := hideIt (Bstep HB1.out hb2)
    have HR := hideIt (ownsRow_base HB1.out.size hr)
    clear hr hb2
    go_wp2
    go_ret
    rw [HE.out]
    exact ⟨_, _, rfl, HR.out, HB2.out⟩

/-- A leaf's four parts. -/
structure Lf where
  a : Int
  b : Int
  g : Int
  z : Bool
def lfCells (L : List Lf) : List Value := L.flatMap fun o => [.int .i64 o.a, .int .i64 o.b, .int .i64 o.g, .bool o.z]
def lfs (l L : List Op7) : List Lf := L.map fun o => ⟨o.a, o.b, o.g, goneB l (o.a, o.b)⟩
theorem lfs_cells (l L : List Op7) : leafCells l L = lfCells (lfs l L) := by simp [leafCells, lfCells, lfs, List.flatMap_map]
theorem lfs_len (l L : List Op7) : (lfs l L).length = L.length := by simp [lfs]
theorem lfCells_len : ∀ L : List Lf, (lfCells L).length = L.length * 4
  | [] => rfl
  | x :: r => by have := lfCells_len r; simp [lfCells] at this ⊢; omega
theorem lfCells_at : ∀ (L : List Lf) (i : Nat) (x : Lf), L[i]? = some x → (lfCells L)[i * 4]? = some (.int .i64 x.a) ∧ (lfCells L)[i * 4 + 1]? = some (.int .i64 x.b) ∧ (lfCells L)[i * 4 + 2]? = some (.int .i64 x.g) ∧ (lfCells L)[i * 4 + 3]? = some (.bool x.z)
  | [], i, x, h => by simp at h
  | y :: r, 0, x, h => by simp at h; subst h; simp [lfCells]
  | y :: r, i + 1, x, h => by
    have ih := lfCells_at r i x (by simpa using h)
    have e : lfCells (y :: r) = .int .i64 y.a :: .int .i64 y.b :: .int .i64 y.g :: .bool y.z :: lfCells r := rfl
    rw [e, show (i + 1) * 4 = i * 4 + 1 + 1 + 1 + 1 by omega]
    simpa using ih

set_option maxHeartbeats 1000000 in
theorem eqLeaf_same (a b g : Int) (z : Bool) (w : World) :
    Calls Tryd.prog 33 #[.agg #[.int .i64 a, .int .i64 b, .int .i64 g, .bool z], .agg #[.int .i64 a, .int .i64 b, .int .i64 g, .bool z]] w fun e w' => e = .returned (.bool true) ∧ Below w.heap.size w w' := by
  go_enter Tryd.func33, Tryd.ntmps33
  go_wp2
  all_goals
    go_ret
    exact ⟨rfl, by go_grown⟩

set_option maxHeartbeats 1000000 in
theorem eqLeafS_rows (L : List Lf) (v1 v2 : Value) (base1 base2 : Nat) (w : World) (h1 : w.ownsRow base1 63 4 v1 L.length (lfCells L)) (h2 : w.ownsRow base2 63 4 v2 L.length (lfCells L)) (hn : L.length ≤ 1048576) :
    Calls Tryd.prog 11 #[v1, v2] w fun e w' => e = .returned (.bool true) ∧ Below w.heap.size w w' := by
  rcases row_cases h1 with ⟨h0, p1, c1, rfl⟩ | ⟨h0, g1, cap1, rfl, hc1, hg1, hx1⟩
  · rcases row_cases h2 with ⟨_, p2, c2, rfl⟩ | ⟨h0', _⟩
    · go_enter Tryd.func11, Tryd.ntmps11
      go_wp2
      refine wp_loop_rounds 1 ?_
      rw [rounds_succ]
      go_wp2
      go_ret
      exact ⟨rfl, Below.refl _ _⟩
    · omega
  · rcases row_cases h2 with ⟨h0', _⟩ | ⟨_, g2, cap2, rfl, hc2, hg2, hx2⟩
    · omega
    · have HX1 := hideIt hx1
      have HX2 := hideIt hx2
      clear h1 h2 hx1 hx2
      go_enter Tryd.func11, Tryd.ntmps11
      go_wp2
      go_loopw [5] (fun i wr => ∃ k : Nat, k ≤ L.length ∧ i = .int .i64 k ∧ Below w.heap.size w wr)
        (fun i _ => L.length - (intOf i).toNat)
      case atStart => exact ⟨0, Nat.zero_le _, rfl, by go_grown⟩
      case round =>
        obtain ⟨k, hk, rfl, hB⟩ := hrel
        have HB : Hid (Below w.heap.size w wr) := hB
        by_cases hlt : k < L.length
        · obtain ⟨i0, i1, i2, i3⟩ := lfCells_at L k L[k] (by simp [hlt])
          have y0 := ((bcell hB).1 g1 _ hg1).trans ((HX1.out (k * 4) (by omega)).trans i0)
          have y1 := ((bcell hB).1 g1 _ hg1).trans ((HX1.out (k * 4 + 1) (by omega)).trans i1)
          have y2 := ((bcell hB).1 g1 _ hg1).trans ((HX1.out (k * 4 + 2) (by omega)).trans i2)
          have y3 := ((bcell hB).1 g1 _ hg1).trans ((HX1.out (k * 4 + 3) (by omega)).trans i3)
          have z0 := ((bcell hB).1 g2 _ hg2).trans ((HX2.out (k * 4) (by omega)).trans i0)
          have z1 := ((bcell hB).1 g2 _ hg2).trans ((HX2.out (k * 4 + 1) (by omega)).trans i1)
          have z2 := ((bcell hB).1 g2 _ hg2).trans ((HX2.out (k * 4 + 2) (by omega)).trans i2)
          have z3 := ((bcell hB).1 g2 _ hg2).trans ((HX2.out (k * 4 + 3) (by omega)).trans i3)
          have hg1' := Nat.lt_of_lt_of_le hg1 hB.size
          have hg2' := Nat.lt_of_lt_of_le hg2 hB.size
          generalize L[k].a = xa at *
          generalize L[k].b = xb at *
          generalize L[k].g = xg at *
          generalize L[k].z = xz at *
          have hlt' : (k : Int) < (L.length : Int) := by omega
          have hk0 : (0 : Int) ≤ (k : Int) := by omega
          clear hB i0 i1 i2 i3
          go_wp2
          go_region_held3 (fun w' => w'.cell? ⟨g1, k * 4, none⟩ = some (.int .i64 xa) ∧ w'.cell? ⟨g1, k * 4 + 1, none⟩ = some (.int .i64 xb) ∧ w'.cell? ⟨g1, k * 4 + 2, none⟩ = some (.int .i64 xg) ∧ w'.cell? ⟨g1, k * 4 + 3, none⟩ = some (.bool xz) ∧ w'.cell? ⟨g2, k * 4, none⟩ = some (.int .i64 xa) ∧ w'.cell? ⟨g2, k * 4 + 1, none⟩ = some (.int .i64 xb) ∧ w'.cell? ⟨g2, k * 4 + 2, none⟩ = some (.int .i64 xg) ∧ w'.cell? ⟨g2, k * 4 + 3, none⟩ = some (.bool xz))
            (first | exact ⟨y0, y1, y2, y3, z0, z1, z2, z3⟩ | exact ⟨((bcell hb2).1 g1 _ hg1').trans y0, ((bcell hb2).1 g1 _ hg1').trans y1, ((bcell hb2).1 g1 _ hg1').trans y2, ((bcell hb2).1 g1 _ hg1').trans y3, ((bcell hb2).1 g2 _ hg2').trans z0, ((bcell hb2).1 g2 _ hg2').trans z1, ((bcell hb2).1 g2 _ hg2').trans z2, ((bcell hb2).1 g2 _ hg2').trans z3⟩)
            (first | (go_at_call 33; refine (eqLeaf_same _ _ _ _ _).mono ?_; rintro e w2 ⟨rfl, hb2⟩; have HB2 : Hid (Below w.heap.size w w2) := (HB.out.drew).trans (hb2.mono (by have := HB.out.size; simpa using this))))
          rename_i hS
          clear hS hb2
          go_wp2
          exact ⟨⟨k + 1, by omega, by go_num, HB2.out⟩, by simp [intOf]; omega⟩
        · clear hB
          go_wp2
          go_ret
          exact ⟨rfl, HB.out⟩
end Go.Proofs.YtpkdadccapemcaaDoor
