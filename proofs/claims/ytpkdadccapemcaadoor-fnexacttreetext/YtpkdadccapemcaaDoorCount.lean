/- The contract of countThings. -/
import Derived.Test.YtpkdadccapemcaaDoorMeth
import Derived.BigQuiet
import Derived.WalkSmall
import Derived.OwnWalk
namespace Go.Proofs.YtpkdadccapemcaaDoor
open Go.RowKit
set_option linter.unusedSimpArgs false
set_option linter.unusedVariables false

theorem infoInt : (Tryd.prog.info? 3).map (fun i => (i.zero, i.size, i.bytes)) = some (some (.int .i64 0), 1, 8) := by kernel_rfl
theorem made3 : (madeCells (Value.int .i64 0).cells (3 * 1)).toList = [.int .i64 0, .int .i64 0, .int .i64 0] := by
  have := toList_madeCells_one (.int .i64 0) 3
  simpa [Value.cells, List.replicate] using this

set_option maxRecDepth 100000 in
set_option maxHeartbeats 2000000 in
theorem count_any (l : List Op7) (g cap : Nat) (w : World) (hl : ThingsAt w g l) (hn : l.length ≤ 1048576) (hcap : l.length ≤ cap) (hok : l.all okO = true) :
    Calls Tryd.prog 62 #[.slice (some ⟨g, 0, none⟩) l.length cap] w fun e w' => e = .returned (.slice (some ⟨w.heap.size, 0, none⟩) 3 3) ∧ IntsAt w' w.heap.size [cnt l 1, cnt l 2, cnt l 3] ∧ (∀ j, w'.frozen? ⟨w.heap.size, j, none⟩ = false) ∧ Below w.heap.size w w' := by
  have hgw : g < w.heap.size := hl.1
  have HL0 : Hid (ThingsAt w g l) := hl
  have HO : Hid (l.all okO = true) := hok
  clear hl hok
  go_enter Tryd.func62, Tryd.ntmps62
  obtain ⟨i0, hi, hz0, hz1, hz2⟩ := info_parts infoInt
  go_wp2_with (first
    | (at_make; refine wpList_make_full _ rfl _ _ 105 rfl w.heap.size 3 i0 _ 1 Tryd.underlying105 hi hz0 hz1 .i64 .i64 _ _ 3 rfl rfl rfl rfl (by rw [hz2]; omega) (by unfold maxLen; omega) (Nat.le_refl _) ?_; intro w1 hown hgrow))
  clear hi hz0 hz1 hz2
  rw [made3] at hown
  have hB1 : Below w.heap.size w w1 := (Below.refl _ _).grown hgrow (Nat.le_refl _) (fun k h => by cases h)
  have c0 : w1.cell? ⟨w.heap.size, 0, none⟩ = some (.int .i64 0) := hown.cellAt 0 (by omega)
  have c1 : w1.cell? ⟨w.heap.size, 1, none⟩ = some (.int .i64 0) := hown.cellAt 1 (by omega)
  have c2 : w1.cell? ⟨w.heap.size, 2, none⟩ = some (.int .i64 0) := hown.cellAt 2 (by omega)
  have f0 : ∀ j, w1.frozen? ⟨w.heap.size, j, none⟩ = false := fun j => hown.frozenAt j
  have z0 : w.heap.size < w1.heap.size := (hown.lt _ rfl).2
  clear hown hgrow
  go_loopw [9] (fun i wr => ∃ k : Nat, k ≤ l.length ∧ i = .int .i64 k ∧ wr.cell? ⟨w.heap.size, 0, none⟩ = some (.int .i64 (cntTo l k 1)) ∧ wr.cell? ⟨w.heap.size, 1, none⟩ = some (.int .i64 (cntTo l k 2)) ∧ wr.cell? ⟨w.heap.size, 2, none⟩ = some (.int .i64 (cntTo l k 3)) ∧ (∀ j, wr.frozen? ⟨w.heap.size, j, none⟩ = false) ∧ w.heap.size < wr.heap.size ∧ Below w.heap.size w wr)
    (fun i _ => l.length - (intOf i).toNat)
  case atStart => exact ⟨0, Nat.zero_le _, rfl, by rw [cntTo_zero]; exact c0, by rw [cntTo_zero]; exact c1, by rw [cntTo_zero]; exact c2, f0, z0, hB1⟩
  case round =>
    obtain ⟨k, hk, rfl, q0, q1, q2, hfz, hws, hB⟩ := hrel
    have HB : Hid (Below w.heap.size w wr) := hB
    have HL : Hid (ThingsAt wr g l) := HL0.out.below hB hgw
    have hgr : g < wr.heap.size := HL.out.1
    clear hB hB1 c0 c1 c2 f0 z0
    by_cases hlt : k < l.length
    · have h0 := HL.out.2 k l[k] (by simp [hlt])
      obtain ⟨ha1, ha3, hb1, hb12⟩ := okO_id (all_iff.1 HO.out k hlt)
      have hcs := thV_cases (all_iff.1 HO.out k hlt)
      have s1 : Hid (∀ r, l[k].a = r → cntTo l (k + 1) r = cntTo l k r + 1) := fun r h => cntTo_same hlt h
      have s2 : Hid (∀ r, l[k].a ≠ r → cntTo l (k + 1) r = cntTo l k r) := fun r h => cntTo_other hlt h
      have b1 := cntTo_le l k 1
      have b2 := cntTo_le l k 2
      have b3 := cntTo_le l k 3
      generalize l[k] = o at *
      obtain ⟨xa, xb, xk, xc, xd, xs, xg⟩ := o
      simp only at *
      have hlt' : (k : Int) < (l.length : Int) := by omega
      have hk0 : (0 : Int) ≤ (k : Int) := by omega
      obtain rfl | rfl | rfl : xa = 1 ∨ xa = 2 ∨ xa = 3 := by omega
      all_goals
        have e1 := s1.out _ rfl
        have e2 : Hid (∀ r, _ → cntTo l (k + 1) r = cntTo l k r) := s2
        clear s1 s2
        have E1 := hideIt e1
        clear e1
        generalize hc1 : cntTo l k 1 = n1 at *
        generalize hc2 : cntTo l k 2 = n2 at *
        generalize hc3 : cntTo l k 3 = n3 at *
        have C1 := hideIt hc1
        have C2 := hideIt hc2
        have C3 := hideIt hc3
        clear hc1 hc2 hc3
        rcases hcs with ⟨hth, _⟩ | ⟨hth, _⟩
        all_goals
          rw [hth] at h0
          clear hth
          have mO := Tryd.ownPut
          have mT := Tryd.ownTake
          have mF := Tryd.fld0
          go_wp2_with (first | (go_at_call 84; refine (own_any _ _ _ _ _).mono ?_; rintro e w2 ⟨rfl, hb2⟩; have HB2 : Hid (Below w.heap.size w w2) := Bstep HB.out hb2; have hcb : ∀ o, w2.cell? ⟨w.heap.size, o, none⟩ = wr.cell? ⟨w.heap.size, o, none⟩ := (fun o => (bcell hb2).1 _ _ hws); have hfb : ∀ o, w2.frozen? ⟨w.heap.size, o, none⟩ = wr.frozen? ⟨w.heap.size, o, none⟩ := (fun o => (bcell hb2).2 _ _ hws); have hws2 : w.heap.size < w2.heap.size := Nat.lt_of_lt_of_le hws hb2.size; clear hb2))
      all_goals
        refine ⟨⟨k + 1, by omega, by go_num, ?_, ?_, ?_, fun j => by simp [hfb, hfz], by simpa using hws2, HB2.out.setCell (Nat.le_refl _) _⟩, by simp [intOf]; omega⟩
        · first | (rw [E1.out]; simp [hcb, q0, q1, q2, go_sem]; done) | (rw [e2.out 1 (by decide), C1.out]; simp [hcb, q0, q1, q2, go_sem]; done)
        · first | (rw [E1.out]; simp [hcb, q0, q1, q2, go_sem]; done) | (rw [e2.out 2 (by decide), C2.out]; simp [hcb, q0, q1, q2, go_sem]; done)
        · first | (rw [E1.out]; simp [hcb, q0, q1, q2, go_sem]; done) | (rw [e2.out 3 (by decide), C3.out]; simp [hcb, q0, q1, q2, go_sem]; done)
    · obtain rfl : k = l.length := by omega
      rw [cntTo_len] at q0 q1 q2
      go_wp2
      go_ret
      exact ⟨rfl, ⟨hws, fun i x hx => by
        match i, hx with
        | 0, hx => simp at hx; subst hx; exact q0
        | 1, hx => simp at hx; subst hx; exact q1
        | 2, hx => simp at hx; subst hx; exact q2⟩, hfz, HB.out⟩
end Go.Proofs.YtpkdadccapemcaaDoor
