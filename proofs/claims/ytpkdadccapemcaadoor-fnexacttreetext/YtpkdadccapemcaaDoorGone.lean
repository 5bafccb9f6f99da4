/- The contract of l2Gone; leaves, and their cells. -/
import Derived.Test.YtpkdadccapemcaaDoorLeafMath
import Derived.Test.YtpkdadccapemcaaDoorKidsSpec
namespace Go.Proofs.YtpkdadccapemcaaDoor
open Go.RowKit
set_option linter.unusedSimpArgs false
set_option linter.unusedVariables false
attribute [local go_sem ↓] Go.wp_at_zero Go.wp_at_succ

/-- A sign was taken away. -/
def goneB (l : List Op7) (x : Int × Int) : Bool := l.any fun o => o.k == 2 && (o.c == x.1 && o.d == x.2)
theorem gone_take {l : List Op7} (hok : l.all okO = true) (x : Int × Int) : goneB l x = decide (0 < takesN l x) := by
  unfold goneB takesN
  rw [Bool.eq_iff_iff, decide_eq_true_eq, List.countP_pos_iff, List.any_eq_true]
  constructor
  · rintro ⟨o, ho, h⟩
    simp at h
    exact ⟨o, ho, by simp [h]⟩
  · rintro ⟨o, ho, h⟩
    simp at h
    have hk : o.k = 1 ∨ o.k = 2 := by rcases thV_cases (List.all_eq_true.1 hok o ho) with h | h <;> simp [h.2]
    exact ⟨o, ho, by simp; omega⟩
/-- The cells of leaves. -/
def leafCells (l L : List Op7) : List Value := L.flatMap fun o => [.int .i64 o.a, .int .i64 o.b, .int .i64 o.g, .bool (goneB l (o.a, o.b))]
theorem leafCells_len (l : List Op7) : ∀ L : List Op7, (leafCells l L).length = L.length * 4
  | [] => rfl
  | x :: r => by have := leafCells_len l r; simp [leafCells] at this ⊢; omega
theorem leafCells_app (l L M : List Op7) : leafCells l (L ++ M) = leafCells l L ++ leafCells l M := by simp [leafCells]
theorem leafCells_one (l : List Op7) : ∀ L, ∀ u ∈ leafCells l L, u.oneCell' = true := by
  intro L u hu
  unfold leafCells at hu
  obtain ⟨o, _, ho⟩ := List.mem_flatMap.1 hu
  simp at ho
  rcases ho with rfl | rfl | rfl | rfl <;> rfl
theorem infoLeaf : (Tryd.prog.info? 63).map (fun i => (i.zero, i.size, i.bytes)) = some (some (.agg #[.int .i64 0, .int .i64 0, .int .i64 0, .bool false]), 4, 32) := by kernel_rfl

theorem gone_no {l : List Op7} {x : Int × Int} (h : ∀ j (hj : j < l.length), (l[j].k == 2 && (l[j].c == x.1 && l[j].d == x.2)) = false) : goneB l x = false := by
  unfold goneB
  rw [List.any_eq_false]
  intro o ho
  obtain ⟨j, hj, rfl⟩ := List.getElem_of_mem ho
  simp [h j hj]
theorem gone_yes {l : List Op7} {x : Int × Int} {o : Op7} {i : Nat} (h : l[i]? = some o) (h1 : o.k = 2) (h2 : o.c = x.1) (h3 : o.d = x.2) : goneB l x = true := by
  unfold goneB
  rw [List.any_eq_true]
  exact ⟨o, List.mem_of_getElem? h, by simp [h1, h2, h3]⟩

set_option maxRecDepth 100000 in
set_option maxHeartbeats 1000000 in
theorem l2Gone_any (l : List Op7) (g cap : Nat) (r m : Int) (w : World) (hl : OpsAt w g l) (hn : l.length ≤ 1048576) (hcap : l.length ≤ cap) :
    Calls Tryd.prog 53 #[.slice (some ⟨g, 0, none⟩) l.length cap, .agg #[.int .i64 r, .int .i64 m]] w fun e w' => e = .returned (.bool (goneB l (r, m))) ∧ Below w.heap.size w w' := by
  have HL := hideIt hl
  have hgw := hl.1
  clear hl
  go_enter Tryd.func53, Tryd.ntmps53
  go_wp2
  go_loopw [5] (fun i wr => ∃ k : Nat, k ≤ l.length ∧ i = .int .i64 k ∧ (∀ j (hj : j < l.length), j < k → (l[j].k == 2 && (l[j].c == r && l[j].d == m)) = false) ∧ wr.cell? ⟨w.heap.size, 0, none⟩ = some (.int .i64 r) ∧ wr.cell? ⟨w.heap.size, 1, none⟩ = some (.int .i64 m) ∧ Below w.heap.size w wr)
    (fun i _ => l.length - (intOf i).toNat)
  case atStart => exact ⟨0, Nat.zero_le _, rfl, fun j hj h => by omega, by simp [go_sem], by simp [go_sem], by go_grown⟩
  case round =>
    obtain ⟨k, hk, rfl, hno, hr, hm, hB⟩ := hrel
    have HN := hideIt hno
    have HB := hideIt hB
    have HLr := hideIt (HL.out.below hB hgw)
    have hgr : g < wr.heap.size := HLr.out.1
    by_cases hlt : k < l.length
    · obtain ⟨y0, y1, y2, y3, y4, y5, y6⟩ := HLr.out.2 k l[k] (by simp [hlt])
      have hlk : Hid (l[k]? = some l[k]) := by show l[k]? = some l[k]; simp [hlt]
      have hnext : Hid ((l[k].k == 2 && (l[k].c == r && l[k].d == m)) = false → ∀ j (hj : j < l.length), j < k + 1 → (l[j].k == 2 && (l[j].c == r && l[j].d == m)) = false) := fun hf j hj hj1 => by
        rcases Nat.lt_or_ge j k with h | h
        · exact HN.out j hj h
        · obtain rfl : j = k := by omega
          exact hf
      generalize l[k] = o at *
      have hlt' : (k : Int) < (l.length : Int) := by omega
      have hk0 : (0 : Int) ≤ (k : Int) := by omega
      clear hno hB
      by_cases hk2 : o.k = 2
      · by_cases hc1 : o.c = r
        · by_cases hd1 : o.d = m
          · have HY : Hid (goneB l (r, m) = true) := gone_yes hlk.out hk2 hc1 hd1
            rw [hk2] at y2
            rw [hc1] at y3
            rw [hd1] at y4
            clear hk2 hc1 hd1
            go_wp2
            go_quiet (fail)
            go_wp2
            go_ret
            exact ⟨ret_bool HY.out.symm, below_drewN HB.out _⟩
          · have HF : Hid ((o.k == 2 && (o.c == r && o.d == m)) = false) := by show (o.k == 2 && (o.c == r && o.d == m)) = false; simp [hd1]
            rw [hk2] at y2
            rw [hc1] at y3
            clear hk2 hc1
            go_wp2
            go_quiet (fail)
            go_wp2
            exact ⟨⟨k + 1, by omega, by go_num, hnext.out HF.out, by simpa using hr, by simpa using hm, below_drewN HB.out _⟩, by simp [intOf]; omega⟩
        · have HF : Hid ((o.k == 2 && (o.c == r && o.d == m)) = false) := by show (o.k == 2 && (o.c == r && o.d == m)) = false; simp [hc1]
          rw [hk2] at y2
          clear hk2
          go_wp2
          go_quiet (fail)
          go_wp2
          exact ⟨⟨k + 1, by omega, by go_num, hnext.out HF.out, by simpa using hr, by simpa using hm, below_drewN HB.out _⟩, by simp [intOf]; omega⟩
      · have HF : Hid ((o.k == 2 && (o.c == r && o.d == m)) = false) := by show (o.k == 2 && (o.c == r && o.d == m)) = false; simp [hk2]
        go_wp2
        go_quiet (fail)
        go_wp2
        exact ⟨⟨k + 1, by omega, by go_num, hnext.out HF.out, by simpa using hr, by simpa using hm, below_drewN HB.out _⟩, by simp [intOf]; omega⟩
    · clear hno hB
      go_wp2
      go_ret
      exact ⟨ret_bool (gone_no (fun j hj => HN.out j hj (by omega))).symm, HB.out⟩
end Go.Proofs.YtpkdadccapemcaaDoor
