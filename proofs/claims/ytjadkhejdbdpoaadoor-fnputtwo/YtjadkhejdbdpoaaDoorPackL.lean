/- Two rows of things of one's own, kept through a region of drawn order. -/
import Derived.Test.YtjadkhejdbdpoaaDoorPackK
import Derived.Test.YtjadkhejdbdpoaaDoorPackW
import Derived.Test.YtjadkhejdbdpoaaDoorPackH
import Derived.Test.YtjadkhejdbdpoaaDoorPackD
import Derived.Test.YtjadkhejdbdpoaaDoorPackC
namespace Go.Proofs.YtjadkhejdbdpoaaDoor
open Go.RowKit
set_option linter.unusedSimpArgs false
set_option linter.unusedVariables false

theorem lfs_get {l A : List Op7} {k : Nat} (hk : k < (lfs l A).length) : ∃ p, A[k]? = some p ∧ (lfs l A)[k] = ⟨p.a, p.b, p.g, goneB l (p.a, p.b)⟩ := by
  unfold lfs at *
  rw [List.length_map] at hk
  exact ⟨A[k], by simp [hk], by simp⟩
theorem atOr_iff (l : List Op7) (p q : Op7) : atOrB l p q = true ↔ (q.a = p.a ∧ q.b = p.b) ∨ undB l q.a q.b p.a p.b = true := by
  unfold atOrB
  simp only [Bool.or_eq_true, Bool.and_eq_true, beq_iff_eq]
theorem whole_leaves {l : List Op7} (h : opsB l = true) {j : Nat} (hj : j < (lfs l (allO l)).length) : ∃ lo hi, lo < hi ∧ hi ≤ (lfs l (allO l)).length ∧ ∀ i (hi' : i < (lfs l (allO l)).length), (((lfs l (allO l))[i].a = (lfs l (allO l))[j].a ∧ (lfs l (allO l))[i].b = (lfs l (allO l))[j].b) ∨ undB l (lfs l (allO l))[i].a (lfs l (allO l))[i].b (lfs l (allO l))[j].a (lfs l (allO l))[j].b = true) ↔ (lo ≤ i ∧ i < hi) := by
  obtain ⟨p, hp, ep⟩ := lfs_get hj
  obtain ⟨lo, hi, h1, h2, h3⟩ := whole_all h (List.mem_of_getElem? hp)
  refine ⟨lo, hi, h1, by rw [lfs_len]; exact h2, fun i hi' => ?_⟩
  obtain ⟨q, hq, eq⟩ := lfs_get hi'
  rw [ep, eq, ← h3 i q hq, atOr_iff]
theorem side_leaves {l : List Op7} (h : opsB l = true) {o : Op7} (ho : o ∈ l) (hk : o.k = 1) (h0 : ¬ (o.c = 0 ∧ o.d = 0)) : ∃ t : Nat, t < (lfs l (allO l)).length ∧ atI (lfs l (allO l)) o.c o.d = (t : Nat) ∧ ∀ i (hi : i < (lfs l (allO l)).length), (((lfs l (allO l))[i].a = o.a ∧ (lfs l (allO l))[i].b = o.b) ∨ undB l (lfs l (allO l))[i].a (lfs l (allO l))[i].b o.a o.b = true) → (t < i ↔ o.s = 1) := by
  obtain ⟨d, hd⟩ := put_up h ho
  rcases up_inv hd with ⟨_, hx⟩ | ⟨e, p, _, hm, hpk, _, hx⟩
  · exact absurd ⟨congrArg Prod.fst hx, congrArg Prod.snd hx⟩ h0
  · have ha : o.c = p.a := congrArg Prod.fst hx
    have hb : o.d = p.b := congrArg Prod.snd hx
    obtain ⟨t, ht, h1, h2⟩ := put_leaf h hm hpk
    obtain ⟨p', hp', ep⟩ := lfs_get ht
    have e1 : p' = p := by
      rw [ep] at h2
      exact once_eq (once_ops h) (side_put _ (List.mem_of_getElem? hp')).1 hm (congrArg Lf.a h2) (congrArg Lf.b h2)
    subst e1
    refine ⟨t, ht, by rw [ha, hb]; exact h1, fun i hi hor => ?_⟩
    obtain ⟨q, hq, eq⟩ := lfs_get hi
    rw [eq] at hor
    exact side_all h ho hk hm hpk ha.symm hb.symm hq hp' ((atOr_iff l o q).2 hor)
/-- The first, the last, and how many of the first k stand from lo to hi. -/
def fstI (lo : Nat) (k : Nat) : Int := if k ≤ lo then -1 else lo
def lstI (lo hi : Nat) (k : Nat) : Int := if k ≤ lo then -1 else (min k hi : Nat) - 1
def numI (lo hi : Nat) (k : Nat) : Int := (min k hi - min k lo : Nat)
theorem fstI_out {lo hi k : Nat} (h : ¬ (lo ≤ k ∧ k < hi)) (hl : lo < hi) : fstI lo (k + 1) = fstI lo k ∧ lstI lo hi (k + 1) = lstI lo hi k ∧ numI lo hi (k + 1) = numI lo hi k := by
  unfold fstI lstI numI
  refine ⟨?_, ?_, ?_⟩
  · split <;> split <;> omega
  · split <;> split <;> omega
  · omega
theorem fstI_in {lo hi k : Nat} (h : lo ≤ k ∧ k < hi) : fstI lo (k + 1) = lo ∧ lstI lo hi (k + 1) = k ∧ numI lo hi (k + 1) = numI lo hi k + 1 ∧ ((k = lo ∧ fstI lo k = -1) ∨ fstI lo k = lo) := by
  unfold fstI lstI numI
  refine ⟨?_, ?_, ?_, ?_⟩
  · split <;> omega
  · split <;> omega
  · omega
  · by_cases e : k = lo
    · exact .inl ⟨e, by rw [if_pos (by omega)]⟩
    · exact .inr (by rw [if_neg (by omega)])
theorem fstI_end {lo hi k : Nat} (h : lo < hi) (hk : hi ≤ k) : fstI lo k = lo ∧ lstI lo hi k = (hi : Int) - 1 ∧ numI lo hi k = (hi : Int) - lo := by
  unfold fstI lstI numI
  refine ⟨?_, ?_, ?_⟩
  · split <;> omega
  · split <;> omega
  · omega
theorem numI_le (lo hi k : Nat) : 0 ≤ numI lo hi k ∧ numI lo hi k ≤ k := by unfold numI; omega
/-- The cells of a leaf. -/
theorem lf_at {w : World} {base g c : Nat} {F : List Lf} (h : w.ownsRow base 44 4 (.slice (some ⟨g, 0, none⟩) F.length c) F.length (lfCells F)) {k : Nat} {y : Lf} (hk : F[k]? = some y) : w.cell? ⟨g, k * 4, none⟩ = some (.int .i64 y.a) ∧ w.cell? ⟨g, k * 4 + 1, none⟩ = some (.int .i64 y.b) ∧ w.cell? ⟨g, k * 4 + 2, none⟩ = some (.int .i64 y.g) ∧ w.cell? ⟨g, k * 4 + 3, none⟩ = some (.bool y.z) := by
  have hl := (List.getElem?_eq_some_iff.1 hk).1
  obtain ⟨h0, h1, h2, h3⟩ := lfCells_at F k y hk
  exact ⟨(World.ownsRow.cellAt h _ (by omega)).trans h0, (World.ownsRow.cellAt h _ (by omega)).trans h1, (World.ownsRow.cellAt h _ (by omega)).trans h2, (World.ownsRow.cellAt h _ (by omega)).trans h3⟩
end Go.Proofs.YtjadkhejdbdpoaaDoor

namespace Go.Proofs.YtjadkhejdbdpoaaDoor
open Go.RowKit
set_option linter.unusedSimpArgs false
set_option linter.unusedVariables false
attribute [local go_sem ↓] Go.wp_at_zero Go.wp_at_succ

theorem oprow {w : World} {base : Nat} {v : Value} {L : List Op7} (h : w.ownsRow base 29 7 v L.length (opCells L)) : ∃ q c, v = .slice q L.length c ∧ (0 < L.length → ∃ g, q = some ⟨g, 0, none⟩ ∧ L.length ≤ c ∧ base ≤ g ∧ g < w.heap.size ∧ ∀ j, j < L.length * 7 → w.cell? ⟨g, j, none⟩ = (opCells L)[j]?) := by
  rcases h.2 with ⟨e, e0⟩ | ⟨g', c', cur, e, hb, hg, h2, _⟩
  · exact ⟨none, 0, by rw [e, e0], fun h => by omega⟩
  · subst e
    exact ⟨some ⟨g', 0, none⟩, c', rfl, fun _ => ⟨g', rfl, h2, hb, (Array.getElem?_eq_some_iff.1 hg).1, fun j hj => World.ownsRow.cellAt h j hj⟩⟩

set_option maxRecDepth 100000 in
set_option maxHeartbeats 1000000 in
theorem ltOps_rows (L : List Op7) (v1 v2 : Value) (base1 base2 : Nat) (w : World) (h1 : w.ownsRow base1 29 7 v1 L.length (opCells L)) (h2 : w.ownsRow base2 29 7 v2 L.length (opCells L)) (hn : L.length ≤ 1048576) :
    Calls Tryd.prog 36 #[v1, v2] w fun e w' => e = .returned (.bool true) ∧ Below w.heap.size w w' := by
  obtain ⟨q1, c1, rfl, hq1⟩ := oprow h1
  obtain ⟨q2, c2, rfl, hq2⟩ := oprow h2
  have HQ1 := hideIt hq1
  have HQ2 := hideIt hq2
  clear h1 h2 hq1 hq2
  go_enter Tryd.func36, Tryd.ntmps36
  go_wp2
  go_loopw [5] (fun i wr => ∃ k : Nat, k ≤ L.length ∧ i = .int .i64 k ∧ Below w.heap.size w wr) (fun i _ => L.length - (intOf i).toNat)
  case atStart => exact ⟨0, Nat.zero_le _, rfl, by go_grown⟩
  case round =>
    obtain ⟨k, hk, rfl, hB⟩ := hrel
    have HB := hideIt hB
    by_cases hlt : k < L.length
    · obtain ⟨g1, rfl, hc1, hb1, hg1, hx1⟩ := HQ1.out (by omega)
      obtain ⟨g2, rfl, hc2, hb2, hg2, hx2⟩ := HQ2.out (by omega)
      obtain ⟨i0, i1, i2, i3, i4, i5, i6⟩ := opCells_at L k L[k] (by simp [hlt])
      have y0 := ((bcell hB).1 g1 _ hg1).trans ((hx1 (k * 7) (by omega)).trans i0)
      have y1 := ((bcell hB).1 g1 _ hg1).trans ((hx1 (k * 7 + 1) (by omega)).trans i1)
      have y2 := ((bcell hB).1 g1 _ hg1).trans ((hx1 (k * 7 + 2) (by omega)).trans i2)
      have y3 := ((bcell hB).1 g1 _ hg1).trans ((hx1 (k * 7 + 3) (by omega)).trans i3)
      have y4 := ((bcell hB).1 g1 _ hg1).trans ((hx1 (k * 7 + 4) (by omega)).trans i4)
      have y5 := ((bcell hB).1 g1 _ hg1).trans ((hx1 (k * 7 + 5) (by omega)).trans i5)
      have y6 := ((bcell hB).1 g1 _ hg1).trans ((hx1 (k * 7 + 6) (by omega)).trans i6)
      have z0 := ((bcell hB).1 g2 _ hg2).trans ((hx2 (k * 7) (by omega)).trans i0)
      have z1 := ((bcell hB).1 g2 _ hg2).trans ((hx2 (k * 7 + 1) (by omega)).trans i1)
      have z2 := ((bcell hB).1 g2 _ hg2).trans ((hx2 (k * 7 + 2) (by omega)).trans i2)
      have z3 := ((bcell hB).1 g2 _ hg2).trans ((hx2 (k * 7 + 3) (by omega)).trans i3)
      have z4 := ((bcell hB).1 g2 _ hg2).trans ((hx2 (k * 7 + 4) (by omega)).trans i4)
      have z5 := ((bcell hB).1 g2 _ hg2).trans ((hx2 (k * 7 + 5) (by omega)).trans i5)
      have z6 := ((bcell hB).1 g2 _ hg2).trans ((hx2 (k * 7 + 6) (by omega)).trans i6)
      have hlt' : (k : Int) < (L.length : Int) := by omega
      have hk0 : (0 : Int) ≤ (k : Int) := by omega
      generalize L[k] = y at *
      clear hB i0 i1 i2 i3 i4 i5 i6 hx1 hx2
      go_wp2
      go_quiet (fail)
      go_wp2
      exact ⟨⟨k + 1, by omega, by go_num, below_drewN HB.out _⟩, by simp [intOf]; omega⟩
    · clear hB
      go_wp2
      go_ret
      exact ⟨rfl, HB.out⟩

/-- Where the signs of one stand in another one, one behind the other. -/
def Stands (F F' : List Lf) (pos : Nat → Nat) : Prop := ∀ i (hi : i < F.length), ∃ hp : pos i < F'.length, atI F' F[i].a F[i].b = (pos i : Nat) ∧ (F[i].z = true → F'[pos i].z = true) ∧ ∀ j, j < i → pos j < pos i

/-- Where the one ahead stands; -1, if there is none. -/
def lastI (pos : Nat → Nat) : Nat → Int
  | 0 => -1
  | k + 1 => (pos k : Nat)
/-- With something more all signs stand as they stood. -/
theorem stands_more {l l' : List Op7} (h : opsB l = true) (h' : opsB l' = true) (hs : l.Sublist l') : ∃ pos, Stands (lfs l (allO l)) (lfs l' (allO l')) pos := by
  have key : ∀ i (hi : i < (lfs l (allO l)).length), ∃ k : Nat, ∃ hk : k < (lfs l' (allO l')).length, atI (lfs l' (allO l')) (lfs l (allO l))[i].a (lfs l (allO l))[i].b = (k : Nat) ∧ ((lfs l (allO l))[i].z = true → (lfs l' (allO l'))[k].z = true) ∧ ∃ p, (allO l)[i]? = some p ∧ (allO l')[k]? = some p := fun i hi => by
    obtain ⟨p, hp, e⟩ := lfs_get hi
    obtain ⟨hm, hk⟩ := side_put _ (List.mem_of_getElem? hp)
    obtain ⟨k, hk', h1, h2⟩ := put_leaf h' (hs.mem hm) hk
    obtain ⟨p', hp', e'⟩ := lfs_get hk'
    have ep : p' = p := by
      rw [e'] at h2
      exact once_eq (once_ops h') (side_put _ (List.mem_of_getElem? hp')).1 (hs.mem hm) (congrArg Lf.a h2) (congrArg Lf.b h2)
    subst ep
    refine ⟨k, hk', by rw [e]; exact h1, fun hz => ?_, p', hp, hp'⟩
    rw [e] at hz
    rw [h2]
    exact gone_sub hs hz
  refine ⟨fun i => if hi : i < (lfs l (allO l)).length then Classical.choose (key i hi) else 0, fun i hi => ?_⟩
  have hc := Classical.choose_spec (key i hi)
  simp only [dif_pos hi]
  obtain ⟨hk, h1, h2, p, hp, hp'⟩ := hc
  refine ⟨hk, h1, h2, fun j hj => ?_⟩
  have hj' : j < (lfs l (allO l)).length := by omega
  obtain ⟨_, _, _, q, hq, hq'⟩ := Classical.choose_spec (key j hj')
  rw [dif_pos hj']
  exact sub_at (all_sub hs) (nodup_all h') hq hp hq' hp' hj
end Go.Proofs.YtjadkhejdbdpoaaDoor

namespace Go.Proofs.YtjadkhejdbdpoaaDoor
open Go.RowKit
set_option linter.unusedSimpArgs false
set_option linter.unusedVariables false

/-- Two rows of things, in memory that has grown. -/
def TwoO (w : World) (G c : Nat) (L : List Op7) (Gx cg : Nat) (M : List Op7) (W : World) : Prop := OwnOps W w.heap.size G c L ∧ OwnOps W w.heap.size Gx cg M ∧ Below w.heap.size w W
theorem TwoO.below {w : World} {G c : Nat} {L : List Op7} {Gx cg : Nat} {M : List Op7} {W W' : World} (h : TwoO w G c L Gx cg M W) (hb : Below W.heap.size W W') : TwoO w G c L Gx cg M W' := ⟨h.1.below hb, h.2.1.below hb, Bstep h.2.2 hb⟩
theorem TwoO.one {w : World} {G c : Nat} {L : List Op7} {Gx cg : Nat} {M : List Op7} {W : World} (h : TwoO w G c L Gx cg M W) : OpsAt W G L := h.1.at
theorem TwoO.two {w : World} {G c : Nat} {L : List Op7} {Gx cg : Nat} {M : List Op7} {W : World} (h : TwoO w G c L Gx cg M W) : OpsAt W Gx M := h.2.1.at
theorem TwoO.bel {w : World} {G c : Nat} {L : List Op7} {Gx cg : Nat} {M : List Op7} {W : World} (h : TwoO w G c L Gx cg M W) : Below w.heap.size w W := h.2.2
theorem TwoO.fst {w : World} {G c : Nat} {L : List Op7} {Gx cg : Nat} {M : List Op7} {W : World} {P : Nat} {a : Int} (h : TwoO w G c L Gx cg M W ∧ W.cell? ⟨P, 0, none⟩ = some (.int .i64 a) ∧ P < W.heap.size) : TwoO w G c L Gx cg M W := h.1
/-- The same, and a number in a box. -/
theorem TwoO.cell {w : World} {G c : Nat} {L : List Op7} {Gx cg : Nat} {M : List Op7} {W W' : World} {P : Nat} {a : Int} (h : TwoO w G c L Gx cg M W ∧ W.cell? ⟨P, 0, none⟩ = some (.int .i64 a) ∧ P < W.heap.size) (hb : Below W.heap.size W W') : TwoO w G c L Gx cg M W' ∧ W'.cell? ⟨P, 0, none⟩ = some (.int .i64 a) ∧ P < W'.heap.size :=
  ⟨h.1.below hb, ((bcell hb).1 _ _ h.2.2).trans h.2.1, Nat.lt_of_lt_of_le h.2.2 hb.size⟩
end Go.Proofs.YtjadkhejdbdpoaaDoor
