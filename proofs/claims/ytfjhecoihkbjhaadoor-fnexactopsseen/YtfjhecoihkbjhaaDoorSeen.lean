/- The contract of l1Seen, at what is in form and in order. -/
import Derived.Test.YtfjhecoihkbjhaaDoorSame
import Derived.Test.YtfjhecoihkbjhaaDoorCount
import Derived.BigQuiet
import Derived.WalkSmall
namespace Go.Proofs.YtfjhecoihkbjhaaDoor
open Go.RowKit
set_option linter.unusedSimpArgs false
set_option linter.unusedVariables false

set_option maxRecDepth 100000 in
set_option maxHeartbeats 4000000 in
theorem l1Seen_any (l : List Op7) (g cap : Nat) (w : World) (hl : OpsAt w g l) (hn : l.length ≤ 1048576) (hcap : l.length ≤ cap) (hok : l.all okO = true) (hord : ordB l = true) :
    Calls Tryd.prog 36 #[.slice (some ⟨g, 0, none⟩) l.length cap] w fun e w' => e = .returned (.slice (some ⟨w.heap.size, 0, none⟩) 3 3) ∧ IntsAt w' w.heap.size [cnt l 1, cnt l 2, cnt l 3] ∧ Below w.heap.size w w' := by
  have hgw : g < w.heap.size := hl.1
  have HL0 : Hid (OpsAt w g l) := hl
  have HO : Hid (l.all okO = true) := hok
  have HR : Hid (ordB l = true) := hord
  clear hl hok hord
  go_enter Tryd.func36, Tryd.ntmps36
  obtain ⟨i0, hi, hz0, hz1, hz2⟩ := info_parts infoInt
  go_wp2_with (first
    | (at_make; refine wpList_make_full _ rfl _ _ 39 rfl w.heap.size 3 i0 _ 1 Tryd.underlying39 hi hz0 hz1 .i64 .i64 _ _ 3 rfl rfl rfl rfl (by rw [hz2]; omega) (by unfold maxLen; omega) (Nat.le_refl _) ?_; intro w1 hown hgrow))
  clear hi hz0 hz1 hz2
  rw [made3] at hown
  have hB1 : Below w.heap.size w w1 := (Below.refl _ _).grown hgrow (Nat.le_refl _) (fun k h => by cases h)
  have c0 : w1.cell? ⟨w.heap.size, 0, none⟩ = some (.int .i64 0) := hown.cellAt 0 (by omega)
  have c1 : w1.cell? ⟨w.heap.size, 1, none⟩ = some (.int .i64 0) := hown.cellAt 1 (by omega)
  have c2 : w1.cell? ⟨w.heap.size, 2, none⟩ = some (.int .i64 0) := hown.cellAt 2 (by omega)
  have f0 : ∀ j, w1.frozen? ⟨w.heap.size, j, none⟩ = false := fun j => hown.frozenAt j
  have z0 : w.heap.size < w1.heap.size := (hown.lt _ rfl).2
  clear hown hgrow
  go_loopw [4] (fun i wr => ∃ k : Nat, k ≤ l.length ∧ i = .int .i64 k ∧ wr.cell? ⟨w.heap.size, 0, none⟩ = some (.int .i64 (cntTo l k 1)) ∧ wr.cell? ⟨w.heap.size, 1, none⟩ = some (.int .i64 (cntTo l k 2)) ∧ wr.cell? ⟨w.heap.size, 2, none⟩ = some (.int .i64 (cntTo l k 3)) ∧ (∀ j, wr.frozen? ⟨w.heap.size, j, none⟩ = false) ∧ w.heap.size < wr.heap.size ∧ Below w.heap.size w wr)
    (fun i _ => l.length - (intOf i).toNat)
  case atStart => exact ⟨0, Nat.zero_le _, rfl, by rw [cntTo_zero]; exact c0, by rw [cntTo_zero]; exact c1, by rw [cntTo_zero]; exact c2, f0, z0, hB1⟩
  case round =>
    obtain ⟨k, hk, rfl, q0, q1, q2, hfz, hws, hB⟩ := hrel
    have HB : Hid (Below w.heap.size w wr) := hB
    have HL : Hid (OpsAt wr g l) := HL0.out.below hB hgw
    have hgr : g < wr.heap.size := HL.out.1
    clear hB hB1 c0 c1 c2 f0 z0
    by_cases hlt : k < l.length
    · obtain ⟨h0, h1, _⟩ := HL.out.2 k l[k] (by simp [hlt])
      obtain ⟨ha1, ha3, hb1, hb12⟩ := okO_id (all_iff.1 HO.out k hlt)
      have hnum := num_is HO.out HR.out k hlt
      have s1 : Hid (∀ r, l[k].a = r → cntTo l (k + 1) r = cntTo l k r + 1) := fun r h => cntTo_same hlt h
      have s2 : Hid (∀ r, l[k].a ≠ r → cntTo l (k + 1) r = cntTo l k r) := fun r h => cntTo_other hlt h
      have b1 := cntTo_le l k 1
      have b2 := cntTo_le l k 2
      have b3 := cntTo_le l k 3
      generalize l[k] = o at *
      obtain ⟨xa, xb, xk, xc, xd, xs, xg⟩ := o
      simp only at *
      have hlt' : (k : Int) < (l.length : Int) := by omega
      have hk0 : (0 : Int) ≤ (k : Int) := by omega
      have hw0 : IntKind.i64.wrap 0 = 0 := by decide
      have hw1 : IntKind.i64.wrap 1 = 1 := by decide
      have hw2 : IntKind.i64.wrap 2 = 2 := by decide
      obtain rfl | rfl | rfl : xa = 1 ∨ xa = 2 ∨ xa = 3 := by omega
      · have E1 := hideIt (s1.out _ rfl)
        have hm1 : Hid (xb = cntTo l k 1 + 1) := hnum
        clear hnum s1
        generalize hc1 : cntTo l k 1 = n1 at *
        generalize hc2 : cntTo l k 2 = n2 at *
        generalize hc3 : cntTo l k 3 = n3 at *
        have C1 := hideIt hc1
        have C2 := hideIt hc2
        have C3 := hideIt hc3
        clear hc1 hc2 hc3
        obtain rfl := hm1.out
        go_wp2
        go_region
        go_wp2
        refine ⟨⟨k + 1, by omega, by go_num, ?_, ?_, ?_, fun j => by simp [hfz], by simpa using hws, by have := HB.out; go_grown⟩, by simp [intOf]; omega⟩
        · rw [E1.out]; simp [q0, q1, q2, go_sem]
        · rw [s2.out 2 (by decide), C2.out]; simp [q0, q1, q2, go_sem]
        · rw [s2.out 3 (by decide), C3.out]; simp [q0, q1, q2, go_sem]
      · have E1 := hideIt (s1.out _ rfl)
        have hm1 : Hid (xb = cntTo l k 2 + 1) := hnum
        clear hnum s1
        generalize hc1 : cntTo l k 1 = n1 at *
        generalize hc2 : cntTo l k 2 = n2 at *
        generalize hc3 : cntTo l k 3 = n3 at *
        have C1 := hideIt hc1
        have C2 := hideIt hc2
        have C3 := hideIt hc3
        clear hc1 hc2 hc3
        obtain rfl := hm1.out
        go_wp2
        go_region
        go_wp2
        refine ⟨⟨k + 1, by omega, by go_num, ?_, ?_, ?_, fun j => by simp [hfz], by simpa using hws, by have := HB.out; go_grown⟩, by simp [intOf]; omega⟩
        · rw [s2.out 1 (by decide), C1.out]; simp [q0, q1, q2, go_sem]
        · rw [E1.out]; simp [q0, q1, q2, go_sem]
        · rw [s2.out 3 (by decide), C3.out]; simp [q0, q1, q2, go_sem]
      · have E1 := hideIt (s1.out _ rfl)
        have hm1 : Hid (xb = cntTo l k 3 + 1) := hnum
        clear hnum s1
        generalize hc1 : cntTo l k 1 = n1 at *
        generalize hc2 : cntTo l k 2 = n2 at *
        generalize hc3 : cntTo l k 3 = n3 at *
        have C1 := hideIt hc1
        have C2 := hideIt hc2
        have C3 := hideIt hc3
        clear hc1 hc2 hc3
        obtain rfl := hm1.out
        go_wp2
        go_region
        go_wp2
        refine ⟨⟨k + 1, by omega, by go_num, ?_, ?_, ?_, fun j => by simp [hfz], by simpa using hws, by have := HB.out; go_grown⟩, by simp [intOf]; omega⟩
        · rw [s2.out 1 (by decide), C1.out]; simp [q0, q1, q2, go_sem]
        · rw [s2.out 2 (by decide), C2.out]; simp [q0, q1, q2, go_sem]
        · rw [E1.out]; simp [q0, q1, q2, go_sem]
    · obtain rfl : k = l.length := by omega
      rw [cntTo_len] at q0 q1 q2
      go_wp2
      go_ret
      exact ⟨rfl, ⟨hws, fun i x hx => by
        match i, hx with
        | 0, hx => simp at hx; subst hx; exact q0
        | 1, hx => simp at hx; subst hx; exact q1
        | 2, hx => simp at hx; subst hx; exact q2⟩, HB.out⟩
end Go.Proofs.YtfjhecoihkbjhaaDoor
