/-
  PROVED: at every desk the program's DeskPull answers as the specification's does, field by field, writes nothing into it, and answers in memory of its own (the given card of FnExactDeskPull), for every input; the one listed variable, the program's error, reads as its own initialiser lays it.
-/
import Derived.Test.YtficnhlkefpfnaaDoorP0
import Derived.BigQuiet
import Derived.WalkSmall
import Derived.Test.YtficnhlkefpfnaaDoorP2
import Derived.Test.YtficnhlkefpfnaaDoorP5
import Derived.Test.YtficnhlkefpfnaaDoorP4
import Derived.Test.YtficnhlkefpfnaaDoorP6
import Derived.Test.YtficnhlkefpfnaaDoorTie
import Derived.Test.YtficnhlkefpfnaaDoorCards
import Derived.SevenTiedAt
namespace Go.Proofs.YtficnhlkefpfnaaDoor
open Go.RowKit
set_option linter.unusedSimpArgs false
set_option linter.unusedVariables false

set_option maxRecDepth 100000 in
set_option maxHeartbeats 4000000 in
theorem l1Seen_any (l : List Op7) (g cap : Nat) (w : World) (hl : OpsAt w g l) (hn : l.length ≤ 1048576) (hcap : l.length ≤ cap) (hok : l.all okO = true) (hord : ordB l = true) :
    Calls Tryd.prog 103 #[.slice (some ⟨g, 0, none⟩) l.length cap] w fun e w' => e = .returned (.slice (some ⟨w.heap.size, 0, none⟩) 3 3) ∧ IntsAt w' w.heap.size [cnt l 1, cnt l 2, cnt l 3] ∧ Below w.heap.size w w' := by
  have hgw : g < w.heap.size := hl.1
  have HL0 : Hid (OpsAt w g l) := hl
  have HO : Hid (l.all okO = true) := hok
  have HR : Hid (ordB l = true) := hord
  clear hl hok hord
  go_enter Tryd.func103, Tryd.ntmps103
  obtain ⟨i0, hi, hz0, hz1, hz2⟩ := info_parts infoInt
  go_wp2_with (first
    | (at_make; refine wpList_make_full _ rfl _ _ 33 rfl w.heap.size 3 i0 _ 1 Tryd.underlying33 hi hz0 hz1 .i64 .i64 _ _ 3 rfl rfl rfl rfl (by rw [hz2]; omega) (by unfold maxLen; omega) (Nat.le_refl _) ?_; intro w1 hown hgrow))
  clear hi hz0 hz1 hz2
  rw [made3] at hown
  have hB1 : Below w.heap.size w w1 := (Below.refl _ _).grown hgrow (Nat.le_refl _) (fun k h => by cases h)
  have c0 : w1.cell? ⟨w.heap.size, 0, none⟩ = some (.int .i64 0) := hown.cellAt 0 (by omega)
  have c1 : w1.cell? ⟨w.heap.size, 1, none⟩ = some (.int .i64 0) := hown.cellAt 1 (by omega)
  have c2 : w1.cell? ⟨w.heap.size, 2, none⟩ = some (.int .i64 0) := hown.cellAt 2 (by omega)
  have f0 : ∀ j, w1.frozen? ⟨w.heap.size, j, none⟩ = false := fun j => hown.frozenAt j
  have z0 : w.heap.size < w1.heap.size := (hown.lt _ rfl).2
  clear hown hgrow
  go_loopw [4] (fun i wr => ∃ k : Nat, k ≤ l.length ∧ i = .int .i64 k ∧ wr.cell? ⟨w.heap.size, 0, none⟩ = some (.int .i64 (cntTo l k 1)) ∧ wr.cell? ⟨w.heap.size, 1, none⟩ = some (.int .i64 (cntTo l k 2)) ∧ wr.cell? ⟨w.heap.size, 2, none⟩ = some (.int .i64 (cntTo l k 3)) ∧ (∀ j, wr.frozen? ⟨w.heap.size, j, none⟩ = false) ∧ w.heap.size < wr.heap.size ∧ Below w.heap.size w wr)
    (fun i _ => l.length - (intOf i).toNat)
  case atStart => exact ⟨0, Nat.zero_le _, rfl, by rw [cntTo_zero]; exact c0, by rw [cntTo_zero]; exact c1, by rw [cntTo_zero]; exact c2, f0, z0, hB1⟩
  case round =>
    obtain ⟨k, hk, rfl, q0, q1, q2, hfz, hws, hB⟩ := hrel
    have HB : Hid (Below w.heap.size w wr) := hB
    have HL : Hid (OpsAt wr g l) := HL0.out.below hB hgw
    have hgr : g < wr.heap.size := HL.out.1
    clear hB hB1 c0 c1 c2 f0 z0
    by_cases hlt : k < l.length
    · obtain ⟨h0, h1, _⟩ := HL.out.2 k l[k] (by simp [hlt])
      obtain ⟨ha1, ha3, hb1, hb12⟩ := okO_id (all_iff.1 HO.out k hlt)
      have hnum := num_is HO.out HR.out k hlt
      have s1 : Hid (∀ r, l[k].a = r → cntTo l (k + 1) r = cntTo l k r + 1) := fun r h => cntTo_same hlt h
      have s2 : Hid (∀ r, l[k].a ≠ r → cntTo l (k + 1) r = cntTo l k r) := fun r h => cntTo_other hlt h
      have b1 := cntTo_le l k 1
      have b2 := cntTo_le l k 2
      have b3 := cntTo_le l k 3
      generalize l[k] = o at *
      obtain ⟨xa, xb, xk, xc, xd, xs, xg⟩ := o
      simp only at *
      have hlt' : (k : Int) < (l.length : Int) := by omega
      have hk0 : (0 : Int) ≤ (k : Int) := by omega
      have hw0 : IntKind.i64.wrap 0 = 0 := by decide
      have hw1 : IntKind.i64.wrap 1 = 1 := by decide
      have hw2 : IntKind.i64.wrap 2 = 2 := by decide
      obtain rfl | rfl | rfl : xa = 1 ∨ xa = 2 ∨ xa = 3 := by omega
      · have E1 := hideIt (s1.out _ rfl)
        have hm1 : Hid (xb = cntTo l k 1 + 1) := hnum
        clear hnum s1
        generalize hc1 : cntTo l k 1 = n1 at *
        generalize hc2 : cntTo l k 2 = n2 at *
        generalize hc3 : cntTo l k 3 = n3 at *
        have C1 := hideIt hc1
        have C2 := hideIt hc2
        have C3 := hideIt hc3
        clear hc1 hc2 hc3
        obtain rfl := hm1.out
        go_wp2
        go_region
        go_wp2
        refine ⟨⟨k + 1, by omega, by go_num, ?_, ?_, ?_, fun j => by simp [hfz], by simpa using hws, by have := HB.out; go_grown⟩, by simp [intOf]; omega⟩
        · rw [E1.out]; simp [q0, q1, q2, go_sem]
        · rw [s2.out 2 (by decide), C2.out]; simp [q0, q1, q2, go_sem]
        · rw [s2.out 3 (by decide), C3.out]; simp [q0, q1, q2, go_sem]
      · have E1 := hideIt (s1.out _ rfl)
        have hm1 : Hid (xb = cntTo l k 2 + 1) := hnum
        clear hnum s1
        generalize hc1 : cntTo l k 1 = n1 at *
        generalize hc2 : cntTo l k 2 = n2 at *
        generalize hc3 : cntTo l k 3 = n3 at *
        have C1 := hideIt hc1
        have C2 := hideIt hc2
        have C3 := hideIt hc3
        clear hc1 hc2 hc3
        obtain rfl := hm1.out
        go_wp2
        go_region
        go_wp2
        refine ⟨⟨k + 1, by omega, by go_num, ?_, ?_, ?_, fun j => by simp [hfz], by simpa using hws, by have := HB.out; go_grown⟩, by simp [intOf]; omega⟩
        · rw [s2.out 1 (by decide), C1.out]; simp [q0, q1, q2, go_sem]
        · rw [E1.out]; simp [q0, q1, q2, go_sem]
        · rw [s2.out 3 (by decide), C3.out]; simp [q0, q1, q2, go_sem]
      · have E1 := hideIt (s1.out _ rfl)
        have hm1 : Hid (xb = cntTo l k 3 + 1) := hnum
        clear hnum s1
        generalize hc1 : cntTo l k 1 = n1 at *
        generalize hc2 : cntTo l k 2 = n2 at *
        generalize hc3 : cntTo l k 3 = n3 at *
        have C1 := hideIt hc1
        have C2 := hideIt hc2
        have C3 := hideIt hc3
        clear hc1 hc2 hc3
        obtain rfl := hm1.out
        go_wp2
        go_region
        go_wp2
        refine ⟨⟨k + 1, by omega, by go_num, ?_, ?_, ?_, fun j => by simp [hfz], by simpa using hws, by have := HB.out; go_grown⟩, by simp [intOf]; omega⟩
        · rw [s2.out 1 (by decide), C1.out]; simp [q0, q1, q2, go_sem]
        · rw [s2.out 2 (by decide), C2.out]; simp [q0, q1, q2, go_sem]
        · rw [E1.out]; simp [q0, q1, q2, go_sem]
    · obtain rfl : k = l.length := by omega
      rw [cntTo_len] at q0 q1 q2
      go_wp2
      go_ret
      exact ⟨rfl, ⟨hws, fun i x hx => by
        match i, hx with
        | 0, hx => simp at hx; subst hx; exact q0
        | 1, hx => simp at hx; subst hx; exact q1
        | 2, hx => simp at hx; subst hx; exact q2⟩, HB.out⟩
end Go.Proofs.YtficnhlkefpfnaaDoor

namespace Go.Proofs.YtficnhlkefpfnaaDoor
open Go.RowKit
set_option linter.unusedSimpArgs false
set_option linter.unusedVariables false

set_option maxHeartbeats 1000000 in
theorem implSeen_any (l : List Op7) (g cap : Nat) (x : Addr) (w : World) (hl : OpsAt w g l) (hn : l.length ≤ 1048576) (hcap : l.length ≤ cap)
    (he : w.cell? ⟨0, 0, none⟩ = some (.iface 200 (.pointer (some x)))) (h0 : 0 < w.heap.size) :
    Calls Tryd.prog 70 #[.slice (some ⟨g, 0, none⟩) l.length cap] w fun e w' =>
      ((opsB l = true ∧ ∃ G, w.heap.size ≤ G ∧ e = .returned (.slice (some ⟨G, 0, none⟩) 3 3) ∧ IntsAt w' G [cnt l 1, cnt l 2, cnt l 3] ∧ ∀ j, w'.frozen? ⟨G, j, none⟩ = false) ∨ (opsB l = false ∧ e = .returned (.slice none 0 0))) ∧ Below w.heap.size w w' := by
  have HL := hideIt hl
  clear hl
  go_enter Tryd.func70, Tryd.ntmps70
  go_wp2_with fail
  refine (things_any l g cap x _ HL.out hn hcap he h0).mono ?_
  rintro e w1 ⟨(⟨ht, M, hMM, rfl, hT⟩ | ⟨ht, rfl⟩), hb1⟩
  all_goals
    have HT := hideIt ((th_same l).symm.trans ht)
    have HB1 := hideIt hb1
    have herr1 : w1.cell? ⟨0, 0, none⟩ = some (.iface 200 (.pointer (some x))) := errB hb1 h0 he
    clear ht hb1
  · have HTT := hideIt hT
    have HOK := hideIt (opsB_parts HT.out).1
    clear hT hMM
    go_wp2_with (first | (go_at_call 98; refine (is_nil x _).mono ?_; rintro e w'' ⟨rfl, rfl⟩))
    refine (count_any l M l.length _ HTT.out hn (Nat.le_refl _) HOK.out).mono ?_
    rintro e w2 ⟨rfl, hse, hfz, hb2⟩
    have HSE := hideIt hse
    have HF := hideIt hfz
    have HB2 := hideIt (Bstep HB1.out hb2)
    clear hse hfz hb2
    go_wp2
    go_ret
    exact ⟨.inl ⟨HT.out, _, HB1.out.size, rfl, HSE.out, HF.out⟩, HB2.out⟩
  · go_wp2_with (first | (go_at_call 98; refine (is_same x _).mono ?_; rintro e w'' ⟨rfl, rfl⟩))
    go_ret
    exact ⟨.inr ⟨HT.out, rfl⟩, HB1.out⟩
end Go.Proofs.YtficnhlkefpfnaaDoor

namespace Go.Proofs.YtficnhlkefpfnaaDoor
open Go.RowKit
set_option linter.unusedSimpArgs false
set_option linter.unusedVariables false
attribute [local go_sem ↓] Go.wp_at_zero Go.wp_at_succ

theorem desk_doc {r : Int} {l ws : List Op7} {s : List Int} (h : deskB r l ws s = true) : opsB l = true := by
  unfold deskB docB at h
  simp only [Bool.and_eq_true] at h
  exact h.2.1.1
theorem seenY_any (l : List Op7) (hO : opsB l = true) (g cap : Nat) (x : Addr) (w : World) (hl : OpsAt w g l) (hn : l.length ≤ 1048576) (hcap : l.length ≤ cap)
    (he : w.cell? ⟨0, 0, none⟩ = some (.iface 200 (.pointer (some x)))) (h0 : 0 < w.heap.size) :
    Calls Tryd.prog 70 #[.slice (some ⟨g, 0, none⟩) l.length cap] w fun e w' => (∃ G, w.heap.size ≤ G ∧ e = .returned (.slice (some ⟨G, 0, none⟩) 3 3) ∧ IntsAt w' G [cnt l 1, cnt l 2, cnt l 3] ∧ ∀ j, w'.frozen? ⟨G, j, none⟩ = false) ∧ Below w.heap.size w w' := by
  refine (implSeen_any l g cap x w hl hn hcap he h0).mono ?_
  rintro e w' ⟨(⟨_, G, h⟩ | ⟨h, _⟩), hb⟩
  · exact ⟨⟨G, h⟩, hb⟩
  · rw [hO] at h; cases h
set_option maxRecDepth 100000 in
set_option maxHeartbeats 1000000 in
theorem implPull_any (r : Int) (l ws : List Op7) (s : List Int) (g cap g2 cap2 g3 cap3 : Nat) (x : Addr) (w : World) (hl : OpsAt w g l) (hn : l.length ≤ 1048576) (hcap : l.length ≤ cap) (hs : OpsAt w g2 ws) (hn2 : ws.length ≤ 1048576) (hcap2 : ws.length ≤ cap2) (hi : IntsAt w g3 s) (hn3 : s.length ≤ 1048576) (hcap3 : s.length ≤ cap3)
    (he : w.cell? ⟨0, 0, none⟩ = some (.iface 200 (.pointer (some x)))) (h0 : 0 < w.heap.size) :
    Calls Tryd.prog 26 #[.agg #[.int .i64 r, .slice (some ⟨g, 0, none⟩) l.length cap, .slice (some ⟨g2, 0, none⟩) ws.length cap2, .slice (some ⟨g3, 0, none⟩) s.length cap3]] w fun e w' =>
      ((deskB r l ws s = true ∧ ∃ G, w.heap.size ≤ G ∧ e = .returned (.tuple #[.agg #[.int .i64 1, .int .i64 r, .slice (some ⟨G, 0, none⟩) 3 3, .slice none 0 0], .bool true]) ∧ IntsAt w' G [cnt l 1, cnt l 2, cnt l 3] ∧ ∀ j, w'.frozen? ⟨G, j, none⟩ = false) ∨ (deskB r l ws s = false ∧ e = .returned (.tuple #[.agg #[.int .i64 0, .int .i64 0, .slice none 0 0, .slice none 0 0], .bool false]))) ∧ Below w.heap.size w w' := by
  have HL := hideIt hl
  have HS := hideIt hs
  have HI := hideIt hi
  have hgw := hl.1
  have hgs := hs.1
  have hgi := hi.1
  clear hl hs hi
  obtain ⟨zz, hzz⟩ : ∃ zz, deskB r l ws s = zz := ⟨_, rfl⟩
  have HZ := hideIt hzz
  clear hzz
  have hB0 : Below w.heap.size w ((w.alloc (.cells #[.int .i64 r, .slice (some ⟨g, 0, none⟩) l.length cap, .slice (some ⟨g2, 0, none⟩) ws.length cap2, .slice (some ⟨g3, 0, none⟩) s.length cap3] 41)).alloc (.cells #[.int .i64 0, .int .i64 0, .slice none 0 0, .slice none 0 0] 46)) := ((Below.refl _ _).alloc (Nat.le_refl _) _).alloc (by simp) _
  have hD0 : ((w.alloc (.cells #[.int .i64 r, .slice (some ⟨g, 0, none⟩) l.length cap, .slice (some ⟨g2, 0, none⟩) ws.length cap2, .slice (some ⟨g3, 0, none⟩) s.length cap3] 41)).alloc (.cells #[.int .i64 0, .int .i64 0, .slice none 0 0, .slice none 0 0] 46)).heap[w.heap.size]? = some (.cells #[.int .i64 r, .slice (some ⟨g, 0, none⟩) l.length cap, .slice (some ⟨g2, 0, none⟩) ws.length cap2, .slice (some ⟨g3, 0, none⟩) s.length cap3] 41 (0, 0)) := blk_below (World.alloc_heap_new _ _) ((Below.refl _ _).alloc (Nat.le_refl _) _)
  have hR0 : ((w.alloc (.cells #[.int .i64 r, .slice (some ⟨g, 0, none⟩) l.length cap, .slice (some ⟨g2, 0, none⟩) ws.length cap2, .slice (some ⟨g3, 0, none⟩) s.length cap3] 41)).alloc (.cells #[.int .i64 0, .int .i64 0, .slice none 0 0, .slice none 0 0] 46)).heap[w.heap.size + 1]? = some (.cells #[.int .i64 0, .int .i64 0, .slice none 0 0, .slice none 0 0] 46 (0, 0)) := by
    have h := World.alloc_heap_new (w.alloc (.cells #[.int .i64 r, .slice (some ⟨g, 0, none⟩) l.length cap, .slice (some ⟨g2, 0, none⟩) ws.length cap2, .slice (some ⟨g3, 0, none⟩) s.length cap3] 41)) (.cells #[.int .i64 0, .int .i64 0, .slice none 0 0, .slice none 0 0] 46)
    rw [World.size_alloc] at h
    exact h
  have HB0 := hideIt hB0
  have HD0 := hideIt hD0
  have HR0 := hideIt hR0
  clear hB0 hD0 hR0
  go_enter Tryd.func26, Tryd.ntmps26
  go_wp2_with fail
  refine (implDesk_any r l ws s g cap g2 cap2 g3 cap3 x _ (HL.out.below HB0.out hgw) hn hcap (HS.out.below HB0.out hgs) hn2 hcap2 (HI.out.below HB0.out hgi) hn3 hcap3 (errB HB0.out h0 he) (posB HB0.out h0)).mono ?_
  rintro e w1 ⟨rfl, hb1⟩
  rw [HZ.out]
  cases zz
  all_goals
    have HB1 := hideIt (Bstep HB0.out hb1)
    have HD1 := hideIt (blk_below HD0.out hb1)
    have HR1 := hideIt (blk_below HR0.out hb1)
    clear hb1 HB0 HD0 HR0
    have d0 := (blk_cell HD1.out 0).trans rfl
    have d1 := (blk_cell HD1.out 1).trans rfl
    have d2 := (blk_cell HD1.out 2).trans rfl
    have d3 := (blk_cell HD1.out 3).trans rfl
    have dl := (Array.getElem?_eq_some_iff.1 HD1.out).1
    have r0 := (blk_cell HR1.out 0).trans rfl
    have r1 := (blk_cell HR1.out 1).trans rfl
    have r2 := (blk_cell HR1.out 2).trans rfl
    have r3 := (blk_cell HR1.out 3).trans rfl
    have rl := (Array.getElem?_eq_some_iff.1 HR1.out).1
    have rf : ∀ j, w1.frozen? ⟨w.heap.size + 1, j, none⟩ = false := fun j => by simp [World.frozen?, HR1.out]
  · go_wp2
    have hb9 := set_cs (i := 3) (u := .slice none 0 0) (set_cs (i := 2) (u := .slice none 0 0) (set_cs (i := 1) (u := .int .i64 0) (set_cs (i := 0) (u := .int .i64 0) HR1.out)))
    have v0 := (blk_cell hb9 0).trans rfl
    have v1 := (blk_cell hb9 1).trans rfl
    have v2 := (blk_cell hb9 2).trans rfl
    have v3 := (blk_cell hb9 3).trans rfl
    exact bodyPost_ret (v := .tuple #[.agg #[.int .i64 0, .int .i64 0, .slice none 0 0, .slice none 0 0], .bool false]) (by simp [results, Tryd.results26, go_sem, v0, v1, v2, v3]) rfl ⟨.inr ⟨HZ.out, rfl⟩, (((HB1.out.setCell (p := ⟨w.heap.size + 1, 0, none⟩) (by show w.heap.size ≤ w.heap.size + 1; omega) _).setCell (p := ⟨w.heap.size + 1, 1, none⟩) (by show w.heap.size ≤ w.heap.size + 1; omega) _).setCell (p := ⟨w.heap.size + 1, 2, none⟩) (by show w.heap.size ≤ w.heap.size + 1; omega) _).setCell (p := ⟨w.heap.size + 1, 3, none⟩) (by show w.heap.size ≤ w.heap.size + 1; omega) _⟩
  · go_wp2_with fail
    refine (workOf_any r _ _ _ _ _ _ _ _ _ _).mono ?_
    rintro e w2 ⟨b, rfl, hb, hW2, hb2⟩
    have hz1 : w.heap.size + 1 < w1.heap.size := rl
    have HW2 := hideIt hW2
    have HB2 := hideIt (Bstep HB1.out hb2)
    have HR2 := hideIt (blk_below HR1.out hb2)
    clear hW2 hb2 HB1 HD1 HR1 d0 d1 d2 d3 dl r0 r1 r2 r3 rl rf
    obtain ⟨c0, c1, c2, c3⟩ := HW2.out.cells
    have cl := (Array.getElem?_eq_some_iff.1 HW2.out).1
    have HO := hideIt (desk_doc HZ.out)
    have r0 := (blk_cell HR2.out 0).trans rfl
    have r1 := (blk_cell HR2.out 1).trans rfl
    have r2 := (blk_cell HR2.out 2).trans rfl
    have r3 := (blk_cell HR2.out 3).trans rfl
    have rl := (Array.getElem?_eq_some_iff.1 HR2.out).1
    have rf : ∀ j, w2.frozen? ⟨w.heap.size + 1, j, none⟩ = false := fun j => by simp [World.frozen?, HR2.out]
    have hbR : ¬ b = w.heap.size + 1 := by omega
    have hRb : ¬ w.heap.size + 1 = b := by omega
    go_wp2
    have HBd := hideIt HB2.out.drew
    have HWd : Hid (WorkAt (World.drew w2) b _ _ r _) := HW2.out
    have HRd : Hid ((World.drew w2).heap[w.heap.size + 1]? = some (.cells #[.int .i64 0, .int .i64 0, .slice none 0 0, .slice none 0 0] 46 (0, 0))) := HR2.out
    have hrz : w.heap.size + 1 < (World.drew w2).heap.size := rl
    clear HB2 HW2 HR2
    go_region_with (first | (go_at_call 70; refine (seenY_any l HO.out g cap x _ (HL.out.below HBd.out hgw) hn hcap (errB HBd.out h0 he) (posB HBd.out h0)).mono ?_; rintro e w3 ⟨⟨G, hG, rfl, hI, hf⟩, hb3⟩; have HBd := hideIt (Bstep HBd.out hb3); have HWd := hideIt (HWd.out.below hb3); have HRd := hideIt (blk_below HRd.out hb3); obtain ⟨c0, c1, c2, c3⟩ := HWd.out.cells; have cl := (Array.getElem?_eq_some_iff.1 HWd.out).1; have r0 := (blk_cell HRd.out 0).trans rfl; have r1 := (blk_cell HRd.out 1).trans rfl; have r2 := (blk_cell HRd.out 2).trans rfl; have r3 := (blk_cell HRd.out 3).trans rfl; have rl := (Array.getElem?_eq_some_iff.1 HRd.out).1; have rf : ∀ j, w3.frozen? ⟨w.heap.size + 1, j, none⟩ = false := (fun j => by simp [World.frozen?, HRd.out]); have HIT := hideIt hI; have HFZ := hideIt hf; clear hI hf hb3))
    all_goals
      go_wp2
      have hGR : G ≠ w.heap.size + 1 := by omega
      have hb9 := set_cs (i := 3) (u := .slice none 0 0) (set_cs (i := 2) (u := .slice (some ⟨G, 0, none⟩) 3 3) (set_cs (i := 1) (u := .int .i64 r) (set_cs (i := 0) (u := .int .i64 1) HRd.out)))
      have v0 := (blk_cell hb9 0).trans rfl
      have v1 := (blk_cell hb9 1).trans rfl
      have v2 := (blk_cell hb9 2).trans rfl
      have v3 := (blk_cell hb9 3).trans rfl
      exact bodyPost_ret (v := .tuple #[.agg #[.int .i64 1, .int .i64 r, .slice (some ⟨G, 0, none⟩) 3 3, .slice none 0 0], .bool true]) (by simp [results, Tryd.results26, go_sem, v0, v1, v2, v3]) rfl ⟨.inl ⟨HZ.out, G, by omega, rfl, (((HIT.out.away hGR).away hGR).away hGR).away hGR, fun j => by simp [HFZ.out j]⟩, (((HBd.out.setCell (p := ⟨w.heap.size + 1, 0, none⟩) (by show w.heap.size ≤ w.heap.size + 1; omega) _).setCell (p := ⟨w.heap.size + 1, 1, none⟩) (by show w.heap.size ≤ w.heap.size + 1; omega) _).setCell (p := ⟨w.heap.size + 1, 2, none⟩) (by show w.heap.size ≤ w.heap.size + 1; omega) _).setCell (p := ⟨w.heap.size + 1, 3, none⟩) (by show w.heap.size ≤ w.heap.size + 1; omega) _⟩
theorem l1SeenE_any (l : List Op7) (g cap : Nat) (w : World) (hl : OpsAt w g l) (hn : l.length ≤ 1048576) (hcap : l.length ≤ cap) (hok : l.all okO = true) (hord : ordB l = true) :
    Calls Tryd.prog 103 #[.slice (some ⟨g, 0, none⟩) l.length cap] w fun e w' => (∃ G, w.heap.size ≤ G ∧ e = .returned (.slice (some ⟨G, 0, none⟩) 3 3) ∧ IntsAt w' G [cnt l 1, cnt l 2, cnt l 3]) ∧ Below w.heap.size w w' := by
  refine (l1Seen_any l g cap w hl hn hcap hok hord).mono ?_
  rintro e w' ⟨rfl, h, hb⟩
  exact ⟨⟨_, Nat.le_refl _, rfl, h⟩, hb⟩
set_option maxRecDepth 100000 in
set_option maxHeartbeats 1000000 in
theorem l21Pull_any (r : Int) (l ws : List Op7) (s : List Int) (hO : opsB l = true) (g cap g2 cap2 g3 cap3 : Nat) (w : World) (hl : OpsAt w g l) (hn : l.length ≤ 1048576) (hcap : l.length ≤ cap) :
    Calls Tryd.prog 69 #[.agg #[.int .i64 r, .slice (some ⟨g, 0, none⟩) l.length cap, .slice (some ⟨g2, 0, none⟩) ws.length cap2, .slice (some ⟨g3, 0, none⟩) s.length cap3]] w fun e w' =>
      (∃ G K, e = .returned (.agg #[.int .i64 1, .int .i64 r, .slice (some ⟨G, 0, none⟩) 3 3, .slice (some ⟨K, 0, none⟩) 0 0]) ∧ IntsAt w' G [cnt l 1, cnt l 2, cnt l 3] ∧ w.heap.size ≤ G) ∧ Below w.heap.size w w' := by
  have HL := hideIt hl
  have hgw := hl.1
  have HOP := hideIt (opsB_parts hO)
  clear hl
  have hB0 : Below w.heap.size w ((w.alloc (.cells #[.int .i64 r, .slice (some ⟨g, 0, none⟩) l.length cap, .slice (some ⟨g2, 0, none⟩) ws.length cap2, .slice (some ⟨g3, 0, none⟩) s.length cap3] 41)).alloc (.cells #[.int .i64 0, .int .i64 0, .slice none 0 0, .slice none 0 0] 46)) := ((Below.refl _ _).alloc (Nat.le_refl _) _).alloc (by simp) _
  have hD0 : ((w.alloc (.cells #[.int .i64 r, .slice (some ⟨g, 0, none⟩) l.length cap, .slice (some ⟨g2, 0, none⟩) ws.length cap2, .slice (some ⟨g3, 0, none⟩) s.length cap3] 41)).alloc (.cells #[.int .i64 0, .int .i64 0, .slice none 0 0, .slice none 0 0] 46)).heap[w.heap.size]? = some (.cells #[.int .i64 r, .slice (some ⟨g, 0, none⟩) l.length cap, .slice (some ⟨g2, 0, none⟩) ws.length cap2, .slice (some ⟨g3, 0, none⟩) s.length cap3] 41 (0, 0)) := blk_below (World.alloc_heap_new _ _) ((Below.refl _ _).alloc (Nat.le_refl _) _)
  have hR0 : ((w.alloc (.cells #[.int .i64 r, .slice (some ⟨g, 0, none⟩) l.length cap, .slice (some ⟨g2, 0, none⟩) ws.length cap2, .slice (some ⟨g3, 0, none⟩) s.length cap3] 41)).alloc (.cells #[.int .i64 0, .int .i64 0, .slice none 0 0, .slice none 0 0] 46)).heap[w.heap.size + 1]? = some (.cells #[.int .i64 0, .int .i64 0, .slice none 0 0, .slice none 0 0] 46 (0, 0)) := by
    have h := World.alloc_heap_new (w.alloc (.cells #[.int .i64 r, .slice (some ⟨g, 0, none⟩) l.length cap, .slice (some ⟨g2, 0, none⟩) ws.length cap2, .slice (some ⟨g3, 0, none⟩) s.length cap3] 41)) (.cells #[.int .i64 0, .int .i64 0, .slice none 0 0, .slice none 0 0] 46)
    rw [World.size_alloc] at h
    exact h
  have HB0 := hideIt hB0
  have HD0 := hideIt hD0
  have HR0 := hideIt hR0
  clear hB0 hD0 hR0
  go_enter Tryd.func69, Tryd.ntmps69
  go_wp2_with fail
  generalize (w.alloc (.cells #[.int .i64 r, .slice (some ⟨g, 0, none⟩) l.length cap, .slice (some ⟨g2, 0, none⟩) ws.length cap2, .slice (some ⟨g3, 0, none⟩) s.length cap3] 41)).alloc (.cells #[.int .i64 0, .int .i64 0, .slice none 0 0, .slice none 0 0] 46) = W0 at *
  have d0 := (blk_cell HD0.out 0).trans rfl
  have d1 := (blk_cell HD0.out 1).trans rfl
  have r0 := (blk_cell HR0.out 0).trans rfl
  have r1 := (blk_cell HR0.out 1).trans rfl
  have r2 := (blk_cell HR0.out 2).trans rfl
  have r3 := (blk_cell HR0.out 3).trans rfl
  have rl := (Array.getElem?_eq_some_iff.1 HR0.out).1
  have rf : ∀ j, W0.frozen? ⟨w.heap.size + 1, j, none⟩ = false := fun j => by simp [World.frozen?, HR0.out]
  have HBd := hideIt HB0.out.drew
  have HDd : Hid ((World.drew W0).heap[w.heap.size]? = some (.cells #[.int .i64 r, .slice (some ⟨g, 0, none⟩) l.length cap, .slice (some ⟨g2, 0, none⟩) ws.length cap2, .slice (some ⟨g3, 0, none⟩) s.length cap3] 41 (0, 0))) := HD0.out
  have HRd : Hid ((World.drew W0).heap[w.heap.size + 1]? = some (.cells #[.int .i64 0, .int .i64 0, .slice none 0 0, .slice none 0 0] 46 (0, 0))) := HR0.out
  have hrz : w.heap.size + 1 < W0.heap.size := rl
  clear HB0 HD0 HR0
  go_wp2
  have hSd : (World.drew W0).cell? ⟨w.heap.size, 0, none⟩ = some (.int .i64 r) ∧ (World.drew W0).cell? ⟨w.heap.size, 1, none⟩ = some (.slice (some ⟨g, 0, none⟩) l.length cap) := ⟨(blk_cell HDd.out 0).trans rfl, (blk_cell HDd.out 1).trans rfl⟩
  refine wp_region_held_drew (S := fun W' => W'.cell? ⟨w.heap.size, 0, none⟩ = some (.int .i64 r) ∧ W'.cell? ⟨w.heap.size, 1, none⟩ = some (.slice (some ⟨g, 0, none⟩) l.length cap)) (by kernel_rfl) hSd (fun hHeld => ?_)
  try dsimp only at hHeld
  refine wpAnyH_take (i := 0) (oi := { dst := some 3, op := Op.fieldAddr 41 (Operand.tmp 1) 0, type := 0, pos := "l21_desk.go:65", after := #[], guard := none }) (v := ?_) rfl (by kernel_rfl) (by kernel_rfl) (by kernel_rfl) (fun _ _ _ h => h) (Or.inl ⟨by rfl, ?_⟩) (by with_reducible assumption) ?_
  rotate_left
  · (intro wq hSw; (try dsimp only at hSw); go_simp; try with_reducible rfl)
  try simp only [Act.put, List.setIfInBounds_toArray, List.set_cons_zero, List.set_cons_succ]
  refine wpAnyH_take (i := 1) (oi := { dst := some 4, op := Op.load 3 (Operand.tmp 3), type := 3, pos := "l21_desk.go:65", after := #[{ on := 0, ground := Ground.data }], guard := none }) (v := ?_) rfl (by kernel_rfl) (by kernel_rfl) (by kernel_rfl) (fun _ _ _ h => h) (Or.inl ⟨by rfl, ?_⟩) (by with_reducible assumption) ?_
  rotate_left
  · (intro wq hSw; (try dsimp only at hSw); go_simp; try with_reducible rfl)
  try simp only [Act.put, List.setIfInBounds_toArray, List.set_cons_zero, List.set_cons_succ]
  refine wpAnyH_take (i := 2) (oi := { dst := some 5, op := Op.fieldAddr 41 (Operand.tmp 1) 1, type := 0, pos := "l21_desk.go:65", after := #[], guard := none }) (v := ?_) rfl (by kernel_rfl) (by kernel_rfl) (by kernel_rfl) (fun _ _ _ h => h) (Or.inl ⟨by rfl, ?_⟩) (by with_reducible assumption) ?_
  rotate_left
  · (intro wq hSw; (try dsimp only at hSw); go_simp; try with_reducible rfl)
  try simp only [Act.put, List.setIfInBounds_toArray, List.set_cons_zero, List.set_cons_succ]
  refine wpAnyH_take (i := 3) (oi := { dst := some 6, op := Op.fieldAddr 39 (Operand.tmp 5) 0, type := 0, pos := "l21_desk.go:65", after := #[{ on := 2, ground := Ground.data }], guard := none }) (v := ?_) rfl (by kernel_rfl) (by kernel_rfl) (by kernel_rfl) (fun _ _ _ h => h) (Or.inl ⟨by rfl, ?_⟩) (by with_reducible assumption) ?_
  rotate_left
  · (intro wq hSw; (try dsimp only at hSw); go_simp; try with_reducible rfl)
  try simp only [Act.put, List.setIfInBounds_toArray, List.set_cons_zero, List.set_cons_succ]
  refine wpAnyH_take (i := 4) (oi := { dst := some 7, op := Op.load 24 (Operand.tmp 6), type := 24, pos := "l21_desk.go:65", after := #[{ on := 3, ground := Ground.data }], guard := none }) (v := ?_) rfl (by kernel_rfl) (by kernel_rfl) (by kernel_rfl) (fun _ _ _ h => h) (Or.inl ⟨by rfl, ?_⟩) (by with_reducible assumption) ?_
  rotate_left
  · (intro wq hSw; (try dsimp only at hSw); go_simp; try with_reducible rfl)
  try simp only [Act.put, List.setIfInBounds_toArray, List.set_cons_zero, List.set_cons_succ]
  refine wpAnyH_ready (rs := [5, 6]) (by kernel_rfl) (by simp) ?_
  refine AllReadyH.cons (o := { dst := some 8, op := Op.call { callee := Callee.value (Operand.func 103), args := #[Operand.tmp 7], argTypes := #[24] }, type := 33, pos := "l21_desk.go:65", after := #[{ on := 4, ground := Ground.data }], guard := none }) rfl (fun K hK => ?_) ?_
  · skip
    go_simp
    go_wp2_with (first | (go_at_call 103; refine (l1SeenE_any l g cap _ (HL.out.below HBd.out hgw) hn hcap HOP.out.1 HOP.out.2).mono ?_; rintro e w3 ⟨⟨G, hG, rfl, hI⟩, hb3⟩))
    have HBd := hideIt (Bstep HBd.out hb3)
    have HDd := hideIt (blk_below HDd.out hb3)
    have HRd := hideIt (blk_below HRd.out hb3)
    have HIT := hideIt hI
    have hGR : G ≠ w.heap.size + 1 := by simp at hG; omega
    have hS : w3.cell? ⟨w.heap.size, 0, none⟩ = some (.int .i64 r) ∧ w3.cell? ⟨w.heap.size, 1, none⟩ = some (.slice (some ⟨g, 0, none⟩) l.length cap) := ⟨(blk_cell HDd.out 0).trans rfl, (blk_cell HDd.out 1).trans rfl⟩
    clear hI hb3
    refine hK.out _ _ (by with_reducible assumption) (fun hHeld => ?_)
    clear hK K hHeld
    try simp only [Act.put, List.setIfInBounds_toArray, List.set_cons_zero, List.set_cons_succ]
    refine wpAnyH_ready (rs := [6]) (by kernel_rfl) (by simp) ?_
    refine AllReadyH.cons (o := { dst := some 9, op := Op.buildSlice 24 0 #[], type := 24, pos := "l21_desk.go:65", after := #[], guard := none }) rfl (fun K hK => ?_) AllReadyH.nil
    go_simp
    have HBd : Hid (Below w.heap.size w (w3.alloc (.cells #[] 71))) := HBd.out.alloc HBd.out.size (.cells #[] 71)
    have HDd : Hid ((World.heap (w3.alloc (.cells #[] 71)))[w.heap.size]? = some (.cells #[.int .i64 r, .slice (some ⟨g, 0, none⟩) l.length cap, .slice (some ⟨g2, 0, none⟩) ws.length cap2, .slice (some ⟨g3, 0, none⟩) s.length cap3] 41 (0, 0))) := blk_below HDd.out ((Below.refl _ _).alloc (Nat.le_refl _) (.cells #[] 71))
    have HRd : Hid ((World.heap (w3.alloc (.cells #[] 71)))[w.heap.size + 1]? = some (.cells #[.int .i64 0, .int .i64 0, .slice none 0 0, .slice none 0 0] 46 (0, 0))) := blk_below HRd.out ((Below.refl _ _).alloc (Nat.le_refl _) (.cells #[] 71))
    have HIT := hideIt (HIT.out.below ((Below.refl _ _).alloc (Nat.le_refl _) (.cells #[] 71)) HIT.out.1)
    have hS : (w3.alloc (.cells #[] 71)).cell? ⟨w.heap.size, 0, none⟩ = some (.int .i64 r) ∧ (w3.alloc (.cells #[] 71)).cell? ⟨w.heap.size, 1, none⟩ = some (.slice (some ⟨g, 0, none⟩) l.length cap) := ⟨(blk_cell HDd.out 0).trans rfl, (blk_cell HDd.out 1).trans rfl⟩
    refine hK.out _ _ (by with_reducible assumption) (fun hHeld => ?_)
    clear hK K hHeld
    try simp only [Act.put, List.setIfInBounds_toArray, List.set_cons_zero, List.set_cons_succ]
    refine wpAnyH_take (i := 7) (oi := { dst := some 10, op := Op.build 46 #[(0, Operand.const (Value.int IntKind.i64 1)), (1, Operand.tmp 4), (2, Operand.tmp 8), (3, Operand.tmp 9)], type := 46, pos := "l21_desk.go:65", after := #[{ on := 1, ground := Ground.data }, { on := 5, ground := Ground.data }, { on := 6, ground := Ground.data }], guard := none }) (v := ?_) rfl (by kernel_rfl) (by kernel_rfl) (by kernel_rfl) (fun _ _ _ h => h) (Or.inl ⟨by rfl, ?_⟩) (by with_reducible assumption) ?_
    rotate_left
    · (intro wq hSw; (try dsimp only at hSw); go_simp; try with_reducible rfl)
    try simp only [Act.put, List.setIfInBounds_toArray, List.set_cons_zero, List.set_cons_succ]
    have r0 := (blk_cell HRd.out 0).trans rfl
    have r1 := (blk_cell HRd.out 1).trans rfl
    have r2 := (blk_cell HRd.out 2).trans rfl
    have r3 := (blk_cell HRd.out 3).trans rfl
    have rl := (Array.getElem?_eq_some_iff.1 HRd.out).1
    have rf : ∀ j, World.frozen? (w3.alloc (.cells #[] 71)) ⟨w.heap.size + 1, j, none⟩ = false := fun j => by have h := HRd.out; simp [World.frozen?, h]
    refine wpAnyH_ready (rs := [8]) (by kernel_rfl) (by simp) ?_
    refine AllReadyH.cons (o := { dst := none, op := Op.store 46 (Operand.tmp 2) (Operand.tmp 10), type := 0, pos := "l21_desk.go:65", after := #[{ on := 7, ground := Ground.data }, { on := 5, ground := Ground.chain }, { on := 0, ground := Ground.phase }, { on := 1, ground := Ground.phase }, { on := 2, ground := Ground.phase }, { on := 3, ground := Ground.phase }, { on := 4, ground := Ground.phase }, { on := 5, ground := Ground.phase }, { on := 6, ground := Ground.phase }, { on := 7, ground := Ground.phase }], guard := none }) rfl (fun K hK => ?_) AllReadyH.nil
    go_simp
    have hn1 : w.heap.size ≠ w.heap.size + 1 := by omega
    refine hK.out _ _ ⟨(blk_cell (set_off (set_off (set_off (set_off HDd.out hn1) hn1) hn1) hn1) 0).trans rfl, (blk_cell (set_off (set_off (set_off (set_off HDd.out hn1) hn1) hn1) hn1) 1).trans rfl⟩ (fun hHeld => ?_)
    clear hK K hHeld
    try simp only [Act.put, List.setIfInBounds_toArray, List.set_cons_zero, List.set_cons_succ]
    refine wpAnyH_done (by kernel_rfl) ?_ _
    go_wp2
    have hb9 := set_cs (i := 3) (u := .slice (some ⟨w3.heap.size, 0, none⟩) 0 0) (set_cs (i := 2) (u := .slice (some ⟨G, 0, none⟩) 3 3) (set_cs (i := 1) (u := .int .i64 r) (set_cs (i := 0) (u := .int .i64 1) HRd.out)))
    have v0 := (blk_cell hb9 0).trans rfl
    have v1 := (blk_cell hb9 1).trans rfl
    have v2 := (blk_cell hb9 2).trans rfl
    have v3 := (blk_cell hb9 3).trans rfl
    exact bodyPost_ret (v := .agg #[.int .i64 1, .int .i64 r, .slice (some ⟨G, 0, none⟩) 3 3, .slice (some ⟨w3.heap.size, 0, none⟩) 0 0]) (by simp [results, Tryd.results69, go_sem, v0, v1, v2, v3]) rfl ⟨⟨G, _, rfl, (((HIT.out.away hGR).away hGR).away hGR).away hGR, by simp at hG; omega⟩, (((HBd.out.setCell (p := ⟨w.heap.size + 1, 0, none⟩) (by show w.heap.size ≤ w.heap.size + 1; omega) _).setCell (p := ⟨w.heap.size + 1, 1, none⟩) (by show w.heap.size ≤ w.heap.size + 1; omega) _).setCell (p := ⟨w.heap.size + 1, 2, none⟩) (by show w.heap.size ≤ w.heap.size + 1; omega) _).setCell (p := ⟨w.heap.size + 1, 3, none⟩) (by show w.heap.size ≤ w.heap.size + 1; omega) _⟩
  refine AllReadyH.cons (o := { dst := some 9, op := Op.buildSlice 24 0 #[], type := 24, pos := "l21_desk.go:65", after := #[], guard := none }) rfl (fun K hK => ?_) AllReadyH.nil
  go_simp
  have HBd : Hid (Below w.heap.size w (World.drew (W0.alloc (.cells #[] 71)))) := HBd.out.alloc HBd.out.size (.cells #[] 71)
  have HDd : Hid ((World.heap (World.drew (W0.alloc (.cells #[] 71))))[w.heap.size]? = some (.cells #[.int .i64 r, .slice (some ⟨g, 0, none⟩) l.length cap, .slice (some ⟨g2, 0, none⟩) ws.length cap2, .slice (some ⟨g3, 0, none⟩) s.length cap3] 41 (0, 0))) := blk_below HDd.out ((Below.refl _ _).alloc (Nat.le_refl _) (.cells #[] 71))
  have HRd : Hid ((World.heap (World.drew (W0.alloc (.cells #[] 71))))[w.heap.size + 1]? = some (.cells #[.int .i64 0, .int .i64 0, .slice none 0 0, .slice none 0 0] 46 (0, 0))) := blk_below HRd.out ((Below.refl _ _).alloc (Nat.le_refl _) (.cells #[] 71))
  have hS : (World.drew (W0.alloc (.cells #[] 71))).cell? ⟨w.heap.size, 0, none⟩ = some (.int .i64 r) ∧ (World.drew (W0.alloc (.cells #[] 71))).cell? ⟨w.heap.size, 1, none⟩ = some (.slice (some ⟨g, 0, none⟩) l.length cap) := ⟨(blk_cell HDd.out 0).trans rfl, (blk_cell HDd.out 1).trans rfl⟩
  refine hK.out _ _ (by with_reducible assumption) (fun hHeld => ?_)
  clear hK K hHeld
  try simp only [Act.put, List.setIfInBounds_toArray, List.set_cons_zero, List.set_cons_succ]
  refine wpAnyH_ready (rs := [5]) (by kernel_rfl) (by simp) ?_
  refine AllReadyH.cons (o := { dst := some 8, op := Op.call { callee := Callee.value (Operand.func 103), args := #[Operand.tmp 7], argTypes := #[24] }, type := 33, pos := "l21_desk.go:65", after := #[{ on := 4, ground := Ground.data }], guard := none }) rfl (fun K hK => ?_) AllReadyH.nil
  go_simp
  go_wp2_with (first | (go_at_call 103; refine (l1SeenE_any l g cap _ (HL.out.below HBd.out hgw) hn hcap HOP.out.1 HOP.out.2).mono ?_; rintro e w3 ⟨⟨G, hG, rfl, hI⟩, hb3⟩))
  have HBd := hideIt (Bstep HBd.out hb3)
  have HDd := hideIt (blk_below HDd.out hb3)
  have HRd := hideIt (blk_below HRd.out hb3)
  have HIT := hideIt hI
  have hGR : G ≠ w.heap.size + 1 := by simp at hG; omega
  have hS : w3.cell? ⟨w.heap.size, 0, none⟩ = some (.int .i64 r) ∧ w3.cell? ⟨w.heap.size, 1, none⟩ = some (.slice (some ⟨g, 0, none⟩) l.length cap) := ⟨(blk_cell HDd.out 0).trans rfl, (blk_cell HDd.out 1).trans rfl⟩
  clear hI hb3
  refine hK.out _ _ (by with_reducible assumption) (fun hHeld => ?_)
  clear hK K hHeld
  try simp only [Act.put, List.setIfInBounds_toArray, List.set_cons_zero, List.set_cons_succ]
  refine wpAnyH_take (i := 7) (oi := { dst := some 10, op := Op.build 46 #[(0, Operand.const (Value.int IntKind.i64 1)), (1, Operand.tmp 4), (2, Operand.tmp 8), (3, Operand.tmp 9)], type := 46, pos := "l21_desk.go:65", after := #[{ on := 1, ground := Ground.data }, { on := 5, ground := Ground.data }, { on := 6, ground := Ground.data }], guard := none }) (v := ?_) rfl (by kernel_rfl) (by kernel_rfl) (by kernel_rfl) (fun _ _ _ h => h) (Or.inl ⟨by rfl, ?_⟩) (by with_reducible assumption) ?_
  rotate_left
  · (intro wq hSw; (try dsimp only at hSw); go_simp; try with_reducible rfl)
  try simp only [Act.put, List.setIfInBounds_toArray, List.set_cons_zero, List.set_cons_succ]
  have r0 := (blk_cell HRd.out 0).trans rfl
  have r1 := (blk_cell HRd.out 1).trans rfl
  have r2 := (blk_cell HRd.out 2).trans rfl
  have r3 := (blk_cell HRd.out 3).trans rfl
  have rl := (Array.getElem?_eq_some_iff.1 HRd.out).1
  have rf : ∀ j, World.frozen? w3 ⟨w.heap.size + 1, j, none⟩ = false := fun j => by have h := HRd.out; simp [World.frozen?, h]
  refine wpAnyH_ready (rs := [8]) (by kernel_rfl) (by simp) ?_
  refine AllReadyH.cons (o := { dst := none, op := Op.store 46 (Operand.tmp 2) (Operand.tmp 10), type := 0, pos := "l21_desk.go:65", after := #[{ on := 7, ground := Ground.data }, { on := 5, ground := Ground.chain }, { on := 0, ground := Ground.phase }, { on := 1, ground := Ground.phase }, { on := 2, ground := Ground.phase }, { on := 3, ground := Ground.phase }, { on := 4, ground := Ground.phase }, { on := 5, ground := Ground.phase }, { on := 6, ground := Ground.phase }, { on := 7, ground := Ground.phase }], guard := none }) rfl (fun K hK => ?_) AllReadyH.nil
  go_simp
  have hn1 : w.heap.size ≠ w.heap.size + 1 := by omega
  refine hK.out _ _ ⟨(blk_cell (set_off (set_off (set_off (set_off HDd.out hn1) hn1) hn1) hn1) 0).trans rfl, (blk_cell (set_off (set_off (set_off (set_off HDd.out hn1) hn1) hn1) hn1) 1).trans rfl⟩ (fun hHeld => ?_)
  clear hK K hHeld
  try simp only [Act.put, List.setIfInBounds_toArray, List.set_cons_zero, List.set_cons_succ]
  refine wpAnyH_done (by kernel_rfl) ?_ _
  go_wp2
  have hb9 := set_cs (i := 3) (u := .slice (some ⟨W0.heap.size, 0, none⟩) 0 0) (set_cs (i := 2) (u := .slice (some ⟨G, 0, none⟩) 3 3) (set_cs (i := 1) (u := .int .i64 r) (set_cs (i := 0) (u := .int .i64 1) HRd.out)))
  have v0 := (blk_cell hb9 0).trans rfl
  have v1 := (blk_cell hb9 1).trans rfl
  have v2 := (blk_cell hb9 2).trans rfl
  have v3 := (blk_cell hb9 3).trans rfl
  exact bodyPost_ret (v := .agg #[.int .i64 1, .int .i64 r, .slice (some ⟨G, 0, none⟩) 3 3, .slice (some ⟨W0.heap.size, 0, none⟩) 0 0]) (by simp [results, Tryd.results69, go_sem, v0, v1, v2, v3]) rfl ⟨⟨G, _, rfl, (((HIT.out.away hGR).away hGR).away hGR).away hGR, by simp at hG; omega⟩, (((HBd.out.setCell (p := ⟨w.heap.size + 1, 0, none⟩) (by show w.heap.size ≤ w.heap.size + 1; omega) _).setCell (p := ⟨w.heap.size + 1, 1, none⟩) (by show w.heap.size ≤ w.heap.size + 1; omega) _).setCell (p := ⟨w.heap.size + 1, 2, none⟩) (by show w.heap.size ≤ w.heap.size + 1; omega) _).setCell (p := ⟨w.heap.size + 1, 3, none⟩) (by show w.heap.size ≤ w.heap.size + 1; omega) _⟩
set_option maxRecDepth 100000 in
set_option maxHeartbeats 1000000 in
theorem specPull_any (r : Int) (l ws : List Op7) (s : List Int) (g cap g2 cap2 g3 cap3 : Nat) (w : World) (hl : OpsAt w g l) (hn : l.length ≤ 1048576) (hcap : l.length ≤ cap) (hs : OpsAt w g2 ws) (hn2 : ws.length ≤ 1048576) (hcap2 : ws.length ≤ cap2) (hi : IntsAt w g3 s) (hn3 : s.length ≤ 1048576) (hcap3 : s.length ≤ cap3) :
    Calls Tryd.prog 25 #[.agg #[.int .i64 r, .slice (some ⟨g, 0, none⟩) l.length cap, .slice (some ⟨g2, 0, none⟩) ws.length cap2, .slice (some ⟨g3, 0, none⟩) s.length cap3]] w fun e w' =>
      ((deskB r l ws s = true ∧ ∃ G K, e = .returned (.tuple #[.agg #[.int .i64 1, .int .i64 r, .slice (some ⟨G, 0, none⟩) 3 3, .slice (some ⟨K, 0, none⟩) 0 0], .bool true]) ∧ IntsAt w' G [cnt l 1, cnt l 2, cnt l 3]) ∨ (deskB r l ws s = false ∧ e = .returned (.tuple #[.agg #[.int .i64 0, .int .i64 0, .slice none 0 0, .slice none 0 0], .bool false]))) ∧ Below w.heap.size w w' := by
  have HL := hideIt hl
  have HS := hideIt hs
  have HI := hideIt hi
  have hgw := hl.1
  have hgs := hs.1
  have hgi := hi.1
  clear hl hs hi
  obtain ⟨zz, hzz⟩ : ∃ zz, deskB r l ws s = zz := ⟨_, rfl⟩
  have HZ := hideIt hzz
  clear hzz
  have hB0 : Below w.heap.size w ((w.alloc (.cells #[.int .i64 r, .slice (some ⟨g, 0, none⟩) l.length cap, .slice (some ⟨g2, 0, none⟩) ws.length cap2, .slice (some ⟨g3, 0, none⟩) s.length cap3] 41)).alloc (.cells #[.int .i64 0, .int .i64 0, .slice none 0 0, .slice none 0 0] 46)) := ((Below.refl _ _).alloc (Nat.le_refl _) _).alloc (by simp) _
  have hD0 : ((w.alloc (.cells #[.int .i64 r, .slice (some ⟨g, 0, none⟩) l.length cap, .slice (some ⟨g2, 0, none⟩) ws.length cap2, .slice (some ⟨g3, 0, none⟩) s.length cap3] 41)).alloc (.cells #[.int .i64 0, .int .i64 0, .slice none 0 0, .slice none 0 0] 46)).heap[w.heap.size]? = some (.cells #[.int .i64 r, .slice (some ⟨g, 0, none⟩) l.length cap, .slice (some ⟨g2, 0, none⟩) ws.length cap2, .slice (some ⟨g3, 0, none⟩) s.length cap3] 41 (0, 0)) := blk_below (World.alloc_heap_new _ _) ((Below.refl _ _).alloc (Nat.le_refl _) _)
  have hR0 : ((w.alloc (.cells #[.int .i64 r, .slice (some ⟨g, 0, none⟩) l.length cap, .slice (some ⟨g2, 0, none⟩) ws.length cap2, .slice (some ⟨g3, 0, none⟩) s.length cap3] 41)).alloc (.cells #[.int .i64 0, .int .i64 0, .slice none 0 0, .slice none 0 0] 46)).heap[w.heap.size + 1]? = some (.cells #[.int .i64 0, .int .i64 0, .slice none 0 0, .slice none 0 0] 46 (0, 0)) := by
    have h := World.alloc_heap_new (w.alloc (.cells #[.int .i64 r, .slice (some ⟨g, 0, none⟩) l.length cap, .slice (some ⟨g2, 0, none⟩) ws.length cap2, .slice (some ⟨g3, 0, none⟩) s.length cap3] 41)) (.cells #[.int .i64 0, .int .i64 0, .slice none 0 0, .slice none 0 0] 46)
    rw [World.size_alloc] at h
    exact h
  have HB0 := hideIt hB0
  have HD0 := hideIt hD0
  have HR0 := hideIt hR0
  clear hB0 hD0 hR0
  go_enter Tryd.func25, Tryd.ntmps25
  go_wp2_with fail
  refine (specDesk_any r l ws s g cap g2 cap2 g3 cap3 _ (HL.out.below HB0.out hgw) hn hcap (HS.out.below HB0.out hgs) hn2 hcap2 (HI.out.below HB0.out hgi) hn3 hcap3).mono ?_
  rintro e w1 ⟨rfl, hb1⟩
  rw [HZ.out]
  cases zz
  all_goals
    have HB1 := hideIt (Bstep HB0.out hb1)
    have HD1 := hideIt (blk_below HD0.out hb1)
    have HR1 := hideIt (blk_below HR0.out hb1)
    clear hb1 HB0 HD0 HR0
    have d0 := (blk_cell HD1.out 0).trans rfl
    have d1 := (blk_cell HD1.out 1).trans rfl
    have d2 := (blk_cell HD1.out 2).trans rfl
    have d3 := (blk_cell HD1.out 3).trans rfl
    have dl := (Array.getElem?_eq_some_iff.1 HD1.out).1
    have r0 := (blk_cell HR1.out 0).trans rfl
    have r1 := (blk_cell HR1.out 1).trans rfl
    have r2 := (blk_cell HR1.out 2).trans rfl
    have r3 := (blk_cell HR1.out 3).trans rfl
    have rl := (Array.getElem?_eq_some_iff.1 HR1.out).1
    have rf : ∀ j, w1.frozen? ⟨w.heap.size + 1, j, none⟩ = false := fun j => by simp [World.frozen?, HR1.out]
  · go_wp2
    have hb9 := set_cs (i := 3) (u := .slice none 0 0) (set_cs (i := 2) (u := .slice none 0 0) (set_cs (i := 1) (u := .int .i64 0) (set_cs (i := 0) (u := .int .i64 0) HR1.out)))
    have v0 := (blk_cell hb9 0).trans rfl
    have v1 := (blk_cell hb9 1).trans rfl
    have v2 := (blk_cell hb9 2).trans rfl
    have v3 := (blk_cell hb9 3).trans rfl
    exact bodyPost_ret (v := .tuple #[.agg #[.int .i64 0, .int .i64 0, .slice none 0 0, .slice none 0 0], .bool false]) (by simp [results, Tryd.results25, go_sem, v0, v1, v2, v3]) rfl ⟨.inr ⟨HZ.out, rfl⟩, (((HB1.out.setCell (p := ⟨w.heap.size + 1, 0, none⟩) (by show w.heap.size ≤ w.heap.size + 1; omega) _).setCell (p := ⟨w.heap.size + 1, 1, none⟩) (by show w.heap.size ≤ w.heap.size + 1; omega) _).setCell (p := ⟨w.heap.size + 1, 2, none⟩) (by show w.heap.size ≤ w.heap.size + 1; omega) _).setCell (p := ⟨w.heap.size + 1, 3, none⟩) (by show w.heap.size ≤ w.heap.size + 1; omega) _⟩
  · go_wp2_with fail
    refine (l21Pull_any r l ws s (desk_doc HZ.out) g cap g2 cap2 g3 cap3 _ (HL.out.below HB1.out hgw) hn hcap).mono ?_
    rintro e w2 ⟨⟨G, K, rfl, hI, hG⟩, hb2⟩
    have hGR : G ≠ w.heap.size + 1 := by omega
    have HIT := hideIt hI
    have HB2 := hideIt (Bstep HB1.out hb2)
    have HR2 := hideIt (blk_below HR1.out hb2)
    clear hI hb2 d0 d1 d2 d3 dl r0 r1 r2 r3 rl rf
    have r0 := (blk_cell HR2.out 0).trans rfl
    have r1 := (blk_cell HR2.out 1).trans rfl
    have r2 := (blk_cell HR2.out 2).trans rfl
    have r3 := (blk_cell HR2.out 3).trans rfl
    have rl := (Array.getElem?_eq_some_iff.1 HR2.out).1
    have rf : ∀ j, w2.frozen? ⟨w.heap.size + 1, j, none⟩ = false := fun j => by simp [World.frozen?, HR2.out]
    go_wp2
    have hb9 := set_cs (i := 3) (u := .slice (some ⟨K, 0, none⟩) 0 0) (set_cs (i := 2) (u := .slice (some ⟨G, 0, none⟩) 3 3) (set_cs (i := 1) (u := .int .i64 r) (set_cs (i := 0) (u := .int .i64 1) HR2.out)))
    have v0 := (blk_cell hb9 0).trans rfl
    have v1 := (blk_cell hb9 1).trans rfl
    have v2 := (blk_cell hb9 2).trans rfl
    have v3 := (blk_cell hb9 3).trans rfl
    exact bodyPost_ret (v := .tuple #[.agg #[.int .i64 1, .int .i64 r, .slice (some ⟨G, 0, none⟩) 3 3, .slice (some ⟨K, 0, none⟩) 0 0], .bool true]) (by simp [results, Tryd.results25, go_sem, v0, v1, v2, v3]) rfl ⟨.inl ⟨HZ.out, G, K, rfl, (((HIT.out.away hGR).away hGR).away hGR).away hGR⟩, (((HB2.out.setCell (p := ⟨w.heap.size + 1, 0, none⟩) (by show w.heap.size ≤ w.heap.size + 1; omega) _).setCell (p := ⟨w.heap.size + 1, 1, none⟩) (by show w.heap.size ≤ w.heap.size + 1; omega) _).setCell (p := ⟨w.heap.size + 1, 2, none⟩) (by show w.heap.size ≤ w.heap.size + 1; omega) _).setCell (p := ⟨w.heap.size + 1, 3, none⟩) (by show w.heap.size ≤ w.heap.size + 1; omega) _⟩
end Go.Proofs.YtficnhlkefpfnaaDoor

namespace Go.Proofs.YtficnhlkefpfnaaDoor
open Go.RowKit
set_option linter.unusedSimpArgs false
set_option linter.unusedVariables false
attribute [local go_sem ↓] Go.wp_at_zero Go.wp_at_succ

set_option maxHeartbeats 2000000 in
theorem markOpsF_any (g n cap m0 : Nat) (w : World) (hl : Blk w g n) (hn : n ≤ 1048576) (hcap : n ≤ cap) (hm : m0 ≤ 9437184) :
    Calls Tryd.prog 18 #[.slice (some ⟨g, 0, none⟩) n cap, .int .i64 m0] w fun e w' => e = .returned (.int .i64 ((m0 : Int) + 7 * n)) ∧ OnlyBlk g w w' := by
  have HL := hideIt hl
  clear hl
  go_enter Tryd.func18, Tryd.ntmps18
  go_wp2
  go_loopw [1, 5] (fun m i wr => ∃ k : Nat, k ≤ n ∧ i = .int .i64 k ∧ m = .int .i64 ((m0 : Int) + 7 * k) ∧ Blk wr g n ∧ OnlyBlk g w wr)
    (fun _ i _ => n - (intOf i).toNat)
  case atStart => exact ⟨0, Nat.zero_le _, rfl, by simp, HL.out, OnlyBlk.refl _ _⟩
  case round =>
    obtain ⟨k, hk, rfl, rfl, hb, ho⟩ := hrel
    have HBK := hideIt hb
    have HO := hideIt ho
    clear ho
    by_cases hlt : k < n
    · have hfz : ∀ j, wr.frozen? ⟨g, j, none⟩ = false := fun j => hb.frozen j
      obtain ⟨u0, e0⟩ := hb.cell (k * 7) (by omega)
      obtain ⟨v1, e1⟩ := hb.cell (k * 7 + 1) (by omega)
      obtain ⟨v2, e2⟩ := hb.cell (k * 7 + 2) (by omega)
      obtain ⟨v3, e3⟩ := hb.cell (k * 7 + 3) (by omega)
      obtain ⟨v4, e4⟩ := hb.cell (k * 7 + 4) (by omega)
      obtain ⟨v5, e5⟩ := hb.cell (k * 7 + 5) (by omega)
      obtain ⟨v6, e6⟩ := hb.cell (k * 7 + 6) (by omega)
      have hlt' : (k : Int) < (n : Int) := by omega
      have hk0 : (0 : Int) ≤ (k : Int) := by omega
      clear hb
      go_wp2
      exact ⟨⟨k + 1, by omega, by go_num, by go_num, ((((((HBK.out.setCell _ _).setCell _ _).setCell _ _).setCell _ _).setCell _ _).setCell _ _).setCell _ _, ((((((HO.out.setCell _ _).setCell _ _).setCell _ _).setCell _ _).setCell _ _).setCell _ _).setCell _ _⟩, by simp [intOf]; omega⟩
    · obtain rfl : k = n := by omega
      clear hb
      go_wp2
      go_ret
      exact ⟨rfl, HO.out⟩

/-- But for three blocks nothing that was there has turned. -/
structure Turned (a b c : Nat) (w w' : World) : Prop where
  below : ∀ B, B ≤ a → B ≤ b → B ≤ c → B ≤ w.heap.size → Below B w w'
  block : ∀ k, k < w.heap.size → k ≠ a → k ≠ b → k ≠ c → w'.heap[k]? = w.heap[k]?
  size : w.heap.size ≤ w'.heap.size
theorem Turned.of_below {a b c : Nat} {w w' : World} (h : Below w.heap.size w w') : Turned a b c w w' := ⟨fun B _ _ _ hB => h.mono hB, fun k hk _ _ _ => h.block k hk, h.size⟩
theorem Turned.of_only {a b c g : Nat} {w w' : World} (h : OnlyBlk g w w') (hg : g = a ∨ g = b ∨ g = c) : Turned a b c w w' :=
  ⟨fun B ha hb hc _ => h.below (by rcases hg with rfl | rfl | rfl <;> assumption), fun k _ ha hb hc => h.block k (by rcases hg with rfl | rfl | rfl <;> assumption), Nat.le_of_eq h.size.symm⟩
theorem Turned.trans {a b c : Nat} {w w' w2 : World} (h : Turned a b c w w') (k : Turned a b c w' w2) : Turned a b c w w2 :=
  ⟨fun B ha hb hc hB => (h.below B ha hb hc hB).trans (k.below B ha hb hc (Nat.le_trans hB h.size)), fun i hi ha hb hc => (k.block i (Nat.lt_of_lt_of_le hi h.size) ha hb hc).trans (h.block i hi ha hb hc), Nat.le_trans h.size k.size⟩
theorem Turned.wider {a b c d e f : Nat} {w w' : World} (h : Turned a b c w w') (ha : a = d ∨ a = e ∨ a = f) (hb : b = d ∨ b = e ∨ b = f) (hc : c = d ∨ c = e ∨ c = f) : Turned d e f w w' :=
  ⟨fun B h1 h2 h3 hB => h.below B (by rcases ha with rfl | rfl | rfl <;> assumption) (by rcases hb with rfl | rfl | rfl <;> assumption) (by rcases hc with rfl | rfl | rfl <;> assumption) hB,
    fun k hk h1 h2 h3 => h.block k hk (by rcases ha with rfl | rfl | rfl <;> assumption) (by rcases hb with rfl | rfl | rfl <;> assumption) (by rcases hc with rfl | rfl | rfl <;> assumption), h.size⟩
theorem Turned.at {a b c k : Nat} {w w' : World} {o : Obj} (h : Turned a b c w w') (hk : w.heap[k]? = some o) (ha : k ≠ a) (hb : k ≠ b) (hc : k ≠ c) : w'.heap[k]? = some o := (h.block k (Array.getElem?_eq_some_iff.1 hk).1 ha hb hc).trans hk
theorem Turned.ints {a b c g : Nat} {w w' : World} {xs : List Int} (h : Turned a b c w w') (hg : IntsAt w g xs) (ha : g ≠ a) (hb : g ≠ b) (hc : g ≠ c) : IntsAt w' g xs := by
  refine ⟨Nat.lt_of_lt_of_le hg.1 h.size, fun i x hx => ?_⟩
  have e : w'.cell? ⟨g, i, none⟩ = w.cell? ⟨g, i, none⟩ := by simp [World.cell?, h.block g hg.1 ha hb hc]
  rw [e]; exact hg.2 i x hx

theorem Blk.lt {w : World} {g n : Nat} (h : Blk w g n) : g < w.heap.size := by
  obtain ⟨cur, h1, _⟩ := h
  exact (Array.getElem?_eq_some_iff.1 h1).1
theorem IBlk.lt {w : World} {g n : Nat} (h : IBlk w g n) : g < w.heap.size := by
  obtain ⟨cur, h1, _⟩ := h
  exact (Array.getElem?_eq_some_iff.1 h1).1
theorem Blk.turned {a b c g n : Nat} {w w' : World} (h : Blk w g n) (t : Turned a b c w w') (ha : g ≠ a) (hb : g ≠ b) (hc : g ≠ c) : Blk w' g n := by
  obtain ⟨cur, h1, h2⟩ := h
  exact ⟨cur, t.at h1 ha hb hc, h2⟩
theorem IBlk.turned {a b c g n : Nat} {w w' : World} (h : IBlk w g n) (t : Turned a b c w w') (ha : g ≠ a) (hb : g ≠ b) (hc : g ≠ c) : IBlk w' g n := by
  obtain ⟨cur, h1, h2⟩ := h
  exact ⟨cur, t.at h1 ha hb hc, h2⟩
theorem Blk.keep {g n : Nat} {w w' : World} (h : Blk w g n) (hb : Below w.heap.size w w') : Blk w' g n := by
  obtain ⟨cur, h1, h2⟩ := h
  exact ⟨cur, blk_below h1 hb, h2⟩
theorem IBlk.keep {g n : Nat} {w w' : World} (h : IBlk w g n) (hb : Below w.heap.size w w') : IBlk w' g n := by
  obtain ⟨cur, h1, h2⟩ := h
  exact ⟨cur, blk_below h1 hb, h2⟩

set_option maxHeartbeats 1000000 in
theorem markDocF_any (a b n m : Nat) (w : World) (ha : Blk w a n) (hb : Blk w b m) (hab : a ≠ b) (hn : n + m ≤ 1048576) :
    Calls Tryd.prog 48 #[.agg #[.slice (some ⟨a, 0, none⟩) n n, .slice (some ⟨b, 0, none⟩) m m], .int .i64 1] w fun e w' => e = .returned (.int .i64 ((1 + 7 * n + 7 * m : Nat) : Int)) ∧ Turned a b b w w' := by
  have HA := hideIt ha
  have HB := hideIt hb
  have hal := ha.lt
  have hbl := hb.lt
  clear ha hb
  have hB0 : Below w.heap.size w (w.alloc (.cells #[.slice (some ⟨a, 0, none⟩) n n, .slice (some ⟨b, 0, none⟩) m m] 39)) := (Below.refl _ _).alloc (Nat.le_refl _) _
  have hD0 : (w.alloc (.cells #[.slice (some ⟨a, 0, none⟩) n n, .slice (some ⟨b, 0, none⟩) m m] 39)).heap[w.heap.size]? = some (.cells #[.slice (some ⟨a, 0, none⟩) n n, .slice (some ⟨b, 0, none⟩) m m] 39 (0, 0)) := World.alloc_heap_new _ _
  have HB0 := hideIt hB0
  have HD0 := hideIt hD0
  clear hB0 hD0
  go_enter Tryd.func48, Tryd.ntmps48
  go_wp2_with fail
  refine (markOpsF_any a n n 1 _ (HA.out.keep HB0.out) (by omega) (Nat.le_refl _) (by omega)).mono ?_
  rintro e w1 ⟨rfl, ho⟩
  have HT1 : Hid (Turned a b b w w1) := (Turned.of_below HB0.out).trans (Turned.of_only ho (.inl rfl))
  have hd1 := (Turned.of_only (a := a) (b := b) (c := b) ho (.inl rfl)).at HD0.out (by omega) (by omega) (by omega)
  have HB1 := hideIt ((HB.out.keep HB0.out).turned (Turned.of_only (a := a) (b := a) (c := a) ho (.inl rfl)) (Ne.symm hab) (Ne.symm hab) (Ne.symm hab))
  have d1 := (blk_cell hd1 1).trans rfl
  have dl := (Array.getElem?_eq_some_iff.1 hd1).1
  have e1 : ((1 : Nat) : Int) + 7 * (n : Int) = ((1 + 7 * n : Nat) : Int) := by omega
  rw [e1]
  clear ho hd1 e1 HA HB HB0 HD0
  go_wp2_with fail
  refine (markOpsF_any b m m (1 + 7 * n) _ HB1.out (by omega) (Nat.le_refl _) (by omega)).mono ?_
  rintro e w2 ⟨rfl, ho⟩
  have HT2 := hideIt (HT1.out.trans (Turned.of_only ho (.inr (.inl rfl))))
  have e2 : ((1 + 7 * n : Nat) : Int) + 7 * (m : Int) = ((1 + 7 * n + 7 * m : Nat) : Int) := by omega
  rw [e2]
  clear ho e2 d1 dl HT1 HB1
  go_wp2
  go_ret
  exact ⟨rfl, HT2.out⟩
set_option maxHeartbeats 1000000 in
theorem markDeskF_any (r : Int) (a b c n m k : Nat) (w : World) (ha : Blk w a n) (hb : Blk w b m) (hc : IBlk w c k) (hab : a ≠ b) (hac : a ≠ c) (hbc : b ≠ c) (hn : n + m + k ≤ 1048576) :
    Calls Tryd.prog 28 #[.agg #[.int .i64 r, .slice (some ⟨a, 0, none⟩) n n, .slice (some ⟨b, 0, none⟩) m m, .slice (some ⟨c, 0, none⟩) k k], .int .i64 1] w fun e w' => (∃ s : Nat, e = .returned (.int .i64 s)) ∧ Turned a b c w w' := by
  have HA := hideIt ha
  have HB := hideIt hb
  have HC := hideIt hc
  have hal := ha.lt
  have hbl := hb.lt
  have hcl := hc.lt
  clear ha hb hc
  have hB0 : Below w.heap.size w (w.alloc (.cells #[.int .i64 r, .slice (some ⟨a, 0, none⟩) n n, .slice (some ⟨b, 0, none⟩) m m, .slice (some ⟨c, 0, none⟩) k k] 41)) := (Below.refl _ _).alloc (Nat.le_refl _) _
  have hD0 : (w.alloc (.cells #[.int .i64 r, .slice (some ⟨a, 0, none⟩) n n, .slice (some ⟨b, 0, none⟩) m m, .slice (some ⟨c, 0, none⟩) k k] 41)).heap[w.heap.size]? = some (.cells #[.int .i64 r, .slice (some ⟨a, 0, none⟩) n n, .slice (some ⟨b, 0, none⟩) m m, .slice (some ⟨c, 0, none⟩) k k] 41 (0, 0)) := World.alloc_heap_new _ _
  have HB0 := hideIt hB0
  have HD0 := hideIt hD0
  clear hB0 hD0
  go_enter Tryd.func28, Tryd.ntmps28
  go_wp2_with fail
  refine (markDocF_any a b n m _ (HA.out.keep HB0.out) (HB.out.keep HB0.out) hab (by omega)).mono ?_
  rintro e w1 ⟨rfl, ht⟩
  have HT1 : Hid (Turned a b c w w1) := (Turned.of_below HB0.out).trans (ht.wider (.inl rfl) (.inr (.inl rfl)) (.inr (.inl rfl)))
  have hd1 := ht.at HD0.out (by omega) (by omega) (by omega)
  have HC1 := hideIt ((HC.out.keep HB0.out).turned ht (Ne.symm hac) (Ne.symm hbc) (Ne.symm hbc))
  have d3 := (blk_cell hd1 3).trans rfl
  have dl := (Array.getElem?_eq_some_iff.1 hd1).1
  clear ht hd1 HA HB HC HB0 HD0
  go_wp2_with fail
  refine (markIntS_any c k k (1 + 7 * n + 7 * m) _ HC1.out (by omega) (Nat.le_refl _) (by omega)).mono ?_
  rintro e w2 ⟨rfl, ho⟩
  have HT2 := hideIt (HT1.out.trans (Turned.of_only ho (.inr (.inr rfl))))
  have e2 : ((1 + 7 * n + 7 * m : Nat) : Int) + (k : Int) = ((1 + 7 * n + 7 * m + k : Nat) : Int) := by omega
  rw [e2]
  clear ho e2 d3 dl HT1 HC1
  go_wp2
  go_ret
  exact ⟨⟨_, rfl⟩, HT2.out⟩

theorem eqNoneW_any (p q : Option Addr) (c d : Nat) (w : World) :
    Calls Tryd.prog 17 #[.slice p 0 c, .slice q 0 d] w fun e w' => e = .returned (.bool true) ∧ w' = w := by
  go_enter Tryd.func17, Tryd.ntmps17
  go_wp2
  refine wp_loop_rounds 1 ?_
  rw [rounds_succ]
  go_wp2
  go_ret
  exact ⟨rfl, rfl⟩
theorem heldNoneW_any (p : Option Addr) (c : Nat) (k : Int) (w : World) :
    Calls Tryd.prog 19 #[.slice p 0 c, .int .i64 k] w fun e w' => e = .returned (.int .i64 k) ∧ w' = w := by
  go_enter Tryd.func19, Tryd.ntmps19
  go_wp2
  refine wp_loop_rounds 1 ?_
  rw [rounds_succ]
  go_wp2
  go_ret
  exact ⟨rfl, rfl⟩
theorem markNoneW_any (p : Option Addr) (c : Nat) (k : Int) (w : World) :
    Calls Tryd.prog 18 #[.slice p 0 c, .int .i64 k] w fun e w' => e = .returned (.int .i64 k) ∧ w' = w := by
  go_enter Tryd.func18, Tryd.ntmps18
  go_wp2
  refine wp_loop_rounds 1 ?_
  rw [rounds_succ]
  go_wp2
  go_ret
  exact ⟨rfl, rfl⟩
/-- Two rows of numbers that are both nothing, or both the same three. -/
def SeenQ (w : World) (v u : Value) : Prop := (v = .slice none 0 0 ∧ u = .slice none 0 0) ∨ ∃ C D a b c, v = .slice (some ⟨C, 0, none⟩) 3 3 ∧ u = .slice (some ⟨D, 0, none⟩) 3 3 ∧ IntsAt w C [a, b, c] ∧ IntsAt w D [a, b, c]
theorem SeenQ.below {w w' : World} {v u : Value} (h : SeenQ w v u) (hb : Below w.heap.size w w') : SeenQ w' v u := by
  rcases h with h | ⟨C, D, a, b, c, h1, h2, h3, h4⟩
  · exact .inl h
  · exact .inr ⟨C, D, a, b, c, h1, h2, h3.below hb h3.1, h4.below hb h4.1⟩
set_option maxHeartbeats 1000000 in
theorem eqWord_any (k r : Int) (v u : Value) (p q : Option Addr) (c d : Nat) (w : World) (h : SeenQ w v u) :
    Calls Tryd.prog 27 #[.agg #[.int .i64 k, .int .i64 r, v, .slice p 0 c], .agg #[.int .i64 k, .int .i64 r, u, .slice q 0 d]] w fun e w' => e = .returned (.bool true) ∧ Below w.heap.size w w' := by
  have H := hideIt h
  clear h
  have hv : ∃ P n c, v = .slice P n c := by rcases H.out with ⟨h, _⟩ | ⟨C, _, _, _, _, h, _⟩ <;> exact ⟨_, _, _, h⟩
  have hu : ∃ P n c, u = .slice P n c := by rcases H.out with ⟨_, h⟩ | ⟨_, C, _, _, _, _, h, _⟩ <;> exact ⟨_, _, _, h⟩
  obtain ⟨Pv, nv, cv, rfl⟩ := hv
  obtain ⟨Pu, nu, cu, rfl⟩ := hu
  have eqi : ∀ W : World, Below w.heap.size w W → Calls Tryd.prog 38 #[.slice Pv nv cv, .slice Pu nu cu] W fun e w' => e = .returned (.bool true) ∧ Below W.heap.size W w' := fun W hb => by
    rcases H.out.below hb with ⟨h1, h2⟩ | ⟨C, D, a, b, c, h1, h2, h3, h4⟩
    · cases h1; cases h2
      exact (eqIntS_none _ _ _ _ _).mono fun e w' ⟨h1, h2⟩ => ⟨h1, by rw [h2]; exact Below.refl _ _⟩
    · cases h1; cases h2
      exact (eqIntS_same [a, b, c] C D 3 3 W h3 h4 (by simp) (by simp) (by simp)).mono fun e w' ⟨h1, h2⟩ => ⟨h1, by first | exact h2 | (rw [h2]; exact Below.refl _ _)⟩
  have EQI := hideIt eqi
  clear eqi
  go_enter Tryd.func27, Tryd.ntmps27
  go_wp2_with fail
  have HB0 : Hid (Below w.heap.size w ((w.alloc (.cells #[.int .i64 k, .int .i64 r, .slice Pv nv cv, .slice p 0 c] 46)).alloc (.cells #[.int .i64 k, .int .i64 r, .slice Pu nu cu, .slice q 0 d] 46))) := ((Below.refl _ _).alloc (Nat.le_refl _) _).alloc (by simp) _
  refine (EQI.out _ HB0.out).mono ?_
  rintro e w1 ⟨rfl, hb1⟩
  have HB1 := hideIt (Bstep HB0.out hb1)
  have hc : ∀ b o, b < w.heap.size + 2 → w1.cell? ⟨b, o, none⟩ = _ := fun b o h => (bcell hb1).1 b o (by simp; omega)
  have x3 := hc w.heap.size 3 (by omega)
  have y3 := hc (w.heap.size + 1) 3 (by omega)
  simp [go_sem] at x3 y3
  clear hb1 hc
  go_wp2_with fail
  refine (eqNoneW_any _ _ _ _ _).mono ?_
  rintro e w2 ⟨rfl, hw⟩
  rw [hw]
  clear hw x3 y3
  go_wp2
  go_ret
  exact ⟨rfl, HB1.out⟩
theorem set3_at {w : World} {g : Nat} {x1 x2 x3 : Int} (h : IntsAt w g [x1, x2, x3]) : IntsAt (((w.setCell ⟨g, 0, none⟩ (.int .i64 1)).setCell ⟨g, 1, none⟩ (.int .i64 2)).setCell ⟨g, 2, none⟩ (.int .i64 3)) g [1, 2, 3] := by
  have h0 := h.2 0 _ rfl
  have h1 := h.2 1 _ rfl
  have h2 := h.2 2 _ rfl
  refine ⟨by simpa using h.1, fun i x hx => ?_⟩
  match i with
  | 0 => simp at hx; subst hx; simp [go_sem, h0]
  | 1 => simp at hx; subst hx; simp [go_sem, h1]
  | 2 => simp at hx; subst hx; simp [go_sem, h2]
  | i + 3 => simp at hx
set_option maxHeartbeats 1000000 in
theorem markWord3_any (k r : Int) (C : Nat) (x1 x2 x3 : Int) (p : Option Addr) (c : Nat) (w : World) (hl : IntsAt w C [x1, x2, x3]) (hf : ∀ j, w.frozen? ⟨C, j, none⟩ = false) :
    Calls Tryd.prog 29 #[.agg #[.int .i64 k, .int .i64 r, .slice (some ⟨C, 0, none⟩) 3 3, .slice p 0 c], .int .i64 1] w fun e w' => e = .returned (.int .i64 4) ∧ IntsAt w' C [1, 2, 3] ∧ Turned C C C w w' := by
  have HI := hideIt hl
  have hlt := hl.1
  have hb0 : Below w.heap.size w (w.alloc (.cells #[.int .i64 k, .int .i64 r, .slice (some ⟨C, 0, none⟩) 3 3, .slice p 0 c] 46)) := (Below.refl _ _).alloc (Nat.le_refl _) _
  have hd0 : (w.alloc (.cells #[.int .i64 k, .int .i64 r, .slice (some ⟨C, 0, none⟩) 3 3, .slice p 0 c] 46)).heap[w.heap.size]? = some (.cells #[.int .i64 k, .int .i64 r, .slice (some ⟨C, 0, none⟩) 3 3, .slice p 0 c] 46 (0, 0)) := World.alloc_heap_new _ _
  have HB0 := hideIt hb0
  have HD0 := hideIt hd0
  have HF : Hid (∀ j, (w.alloc (.cells #[.int .i64 k, .int .i64 r, .slice (some ⟨C, 0, none⟩) 3 3, .slice p 0 c] 46)).frozen? ⟨C, j, none⟩ = false) := fun j => ((bcell hb0).2 C j hlt).trans (hf j)
  clear hl hf hb0 hd0
  go_enter Tryd.func29, Tryd.ntmps29
  go_wp2_with fail
  generalize w.alloc (.cells #[.int .i64 k, .int .i64 r, .slice (some ⟨C, 0, none⟩) 3 3, .slice p 0 c] 46) = W1 at *
  have hI1 := HI.out.below HB0.out hlt
  refine (mark3 C x1 x2 x3 _ hI1 HF.out).mono ?_
  rintro e w1 ⟨rfl, hw⟩
  have ho : OnlyBlk C W1 w1 := by rw [hw]; exact (((OnlyBlk.refl C W1).setCell 0 _).setCell 1 _).setCell 2 _
  have h3 : IntsAt w1 C [1, 2, 3] := by rw [hw]; exact set3_at hI1
  clear hw hI1
  have HT := hideIt ((Turned.of_below (a := C) (b := C) (c := C) HB0.out).trans (Turned.of_only ho (.inl rfl)))
  have H3 := hideIt h3
  have hd1 := (Turned.of_only (a := C) (b := C) (c := C) ho (.inl rfl)).at HD0.out (by omega) (by omega) (by omega)
  have d3 := (blk_cell hd1 3).trans rfl
  have dl := (Array.getElem?_eq_some_iff.1 hd1).1
  clear ho h3 hd1 HB0 HD0 HF
  go_wp2_with fail
  refine (markNoneW_any _ _ _ _).mono ?_
  rintro e w2 ⟨rfl, hw⟩
  rw [hw]
  clear hw d3 dl
  go_wp2
  go_ret
  exact ⟨rfl, H3.out, HT.out⟩
set_option maxHeartbeats 1000000 in
theorem markWord0_any (k r : Int) (w : World) :
    Calls Tryd.prog 29 #[.agg #[.int .i64 k, .int .i64 r, .slice none 0 0, .slice none 0 0], .int .i64 1] w fun e w' => e = .returned (.int .i64 1) ∧ Below w.heap.size w w' := by
  have HB0 : Hid (Below w.heap.size w (w.alloc (.cells #[.int .i64 k, .int .i64 r, .slice none 0 0, .slice none 0 0] 46))) := (Below.refl _ _).alloc (Nat.le_refl _) _
  go_enter Tryd.func29, Tryd.ntmps29
  go_wp2_with fail
  refine (markIntS_none _ _ _).mono ?_
  rintro e w1 ⟨rfl, hw⟩
  rw [hw]
  clear hw
  go_wp2_with fail
  refine (markNoneW_any _ _ _ _).mono ?_
  rintro e w2 ⟨rfl, hw⟩
  rw [hw]
  clear hw
  go_wp2
  go_ret
  exact ⟨rfl, HB0.out⟩
set_option maxHeartbeats 1000000 in
theorem heldWord3_any (k r : Int) (C : Nat) (p : Option Addr) (c : Nat) (w : World) (hl : IntsAt w C [1, 2, 3]) :
    Calls Tryd.prog 30 #[.agg #[.int .i64 k, .int .i64 r, .slice (some ⟨C, 0, none⟩) 3 3, .slice p 0 c], .int .i64 1] w fun e w' => e = .returned (.int .i64 4) ∧ Below w.heap.size w w' := by
  have HI := hideIt hl
  have hlt := hl.1
  clear hl
  have HB0 : Hid (Below w.heap.size w (w.alloc (.cells #[.int .i64 k, .int .i64 r, .slice (some ⟨C, 0, none⟩) 3 3, .slice p 0 c] 46))) := (Below.refl _ _).alloc (Nat.le_refl _) _
  go_enter Tryd.func30, Tryd.ntmps30
  go_wp2_with fail
  refine (held3 C 3 _ (HI.out.below HB0.out hlt)).mono ?_
  rintro e w1 ⟨rfl, hw⟩
  rw [hw]
  clear hw
  go_wp2_with fail
  refine (heldNoneW_any _ _ _ _).mono ?_
  rintro e w2 ⟨rfl, hw⟩
  rw [hw]
  clear hw
  go_wp2
  go_ret
  exact ⟨rfl, HB0.out⟩
set_option maxHeartbeats 1000000 in
theorem heldWord0_any (k r : Int) (w : World) :
    Calls Tryd.prog 30 #[.agg #[.int .i64 k, .int .i64 r, .slice none 0 0, .slice none 0 0], .int .i64 1] w fun e w' => e = .returned (.int .i64 1) ∧ Below w.heap.size w w' := by
  have HB0 : Hid (Below w.heap.size w (w.alloc (.cells #[.int .i64 k, .int .i64 r, .slice none 0 0, .slice none 0 0] 46))) := (Below.refl _ _).alloc (Nat.le_refl _) _
  go_enter Tryd.func30, Tryd.ntmps30
  go_wp2_with fail
  refine (heldIntS_none _ _ _).mono ?_
  rintro e w1 ⟨rfl, hw⟩
  rw [hw]
  clear hw
  go_wp2_with fail
  refine (heldNoneW_any _ _ _ _).mono ?_
  rintro e w2 ⟨rfl, hw⟩
  rw [hw]
  clear hw
  go_wp2
  go_ret
  exact ⟨rfl, HB0.out⟩
end Go.Proofs.YtficnhlkefpfnaaDoor

namespace Go.Proofs.YtficnhlkefpfnaaDoor
open Go.RowKit
set_option linter.unusedSimpArgs false
set_option linter.unusedVariables false

set_option maxHeartbeats 1000000 in
theorem toOpS_someF (l : List Op7) (b off cap : Nat) (w : World) (hl : LawAt w b off l) (hn : l.length ≤ 1048576) (hcap : l.length ≤ cap) :
    Calls Tryd.prog 15 #[.slice (some ⟨b, off, none⟩) l.length cap] w fun e w' => e = .returned (.slice (some ⟨w.heap.size, 0, none⟩) l.length l.length) ∧ Filled w' w.heap.size l.length l ∧ Below w.heap.size w w' := by
  obtain ⟨i0, hi, hz0, hz1, hz2⟩ := info_parts infoOpT
  go_enter Tryd.func15, Tryd.ntmps15
  go_wp2_with (first
    | (at_make; refine wpList_make_full _ rfl _ _ 24 rfl w.heap.size 71 i0 _ 7 Tryd.underlying24 hi hz0 hz1 .i64 .i64 _ _ l.length rfl rfl rfl rfl (by rw [hz2]; omega) (by unfold maxLen; omega) (Nat.le_refl _) ?_; intro w1 hown hgrow))
  clear hi hz0 hz1 hz2
  have hB1 : Below w.heap.size w w1 := (Below.refl _ _).grown hgrow (Nat.le_refl _) (fun k h => by cases h)
  have hF0 : Filled w1 w.heap.size 0 l := by
    obtain ⟨_, ⟨h, _⟩ | ⟨g, cap', cur, hv, _, hb, _, _, hs, _⟩⟩ := hown
    · cases h
    · simp only [Value.slice.injEq, Option.some.injEq, Addr.mk.injEq] at hv
      obtain ⟨⟨rfl, _⟩, _, rfl⟩ := hv
      exact ⟨cur, hb, hs, fun i o _ h => by omega⟩
  clear hown hgrow
  go_loopw [4] (fun i wr => ∃ k : Nat, k ≤ l.length ∧ i = .int .i64 k ∧ Filled wr w.heap.size k l ∧ Below w.heap.size w wr)
    (fun i _ => l.length - (intOf i).toNat)
  case atStart => exact ⟨0, Nat.zero_le _, rfl, hF0, hB1⟩
  case round =>
    obtain ⟨k, hk, rfl, hF, hB⟩ := hrel
    have HB : Hid (Below w.heap.size w wr) := hB
    have HF : Hid (Filled wr w.heap.size k l) := hF
    by_cases hlt : k < l.length
    · obtain ⟨h0, h1, h2, h3, h4, h5, h6⟩ := (hl.below hB hl.1).2 k l[k] (by simp [hlt])
      have hbk := (hl.below hB hl.1).1
      obtain ⟨cur, hblk, hsz, hcur⟩ := hF
      have hBlt : w.heap.size < wr.heap.size := by
        rcases Nat.lt_or_ge w.heap.size wr.heap.size with h | h
        · exact h
        · simp [Array.getElem?_eq_none h] at hblk
      have hfz : ∀ o, wr.frozen? ⟨w.heap.size, o, none⟩ = false := fun o => frozen_of_block hblk o
      have hex : ∀ j, j < 7 → ∃ u, wr.cell? ⟨w.heap.size, k * 7 + j, none⟩ = some u := fun j hj => by
        rw [cell_of_block hblk]; exact ⟨_, Array.getElem?_eq_getElem (by omega)⟩
      obtain ⟨u0, e0⟩ := hex 0 (by omega)
      obtain ⟨u1, e1⟩ := hex 1 (by omega)
      obtain ⟨u2, e2⟩ := hex 2 (by omega)
      obtain ⟨u3, e3⟩ := hex 3 (by omega)
      obtain ⟨u4', e4⟩ := hex 4 (by omega)
      obtain ⟨u5', e5⟩ := hex 5 (by omega)
      obtain ⟨u6', e6⟩ := hex 6 (by omega)
      simp only [Nat.add_zero] at e0
      have hlt' : (k : Int) < (l.length : Int) := by omega
      have hk0 : (0 : Int) ≤ (k : Int) := by omega
      clear hB hl hblk hsz hcur hex hB1 hF0
      go_wp2_with (first
        | (go_at_call 46; refine (toOp_any _ _ _ _ _ _ _ _).mono ?_; rintro e w2 ⟨rfl, hb2⟩; obtain ⟨hc2, hf2⟩ := bcell hb2; have HB2 : Hid (Below wr.heap.size wr w2) := hb2; clear hb2))
      exact ⟨⟨k + 1, by omega, by go_num, (HF.out.below HB2.out hBlt).step hlt, (((((((Bstep HB.out HB2.out).setCell (Nat.le_refl _) _).setCell (Nat.le_refl _) _).setCell (Nat.le_refl _) _).setCell (Nat.le_refl _) _).setCell (Nat.le_refl _) _).setCell (Nat.le_refl _) _).setCell (Nat.le_refl _) _⟩, by simp [intOf]; omega⟩
    · obtain rfl : k = l.length := by omega
      clear hB hF hl hB1 hF0
      go_wp2
      go_ret
      exact ⟨rfl, HF.out, HB.out⟩

set_option maxHeartbeats 1000000 in
theorem toOpS_zeroF (p : Option Addr) (cap : Nat) (w : World) :
    Calls Tryd.prog 15 #[.slice p 0 cap] w fun e w' => e = .returned (.slice (some ⟨w.heap.size, 0, none⟩) 0 0) ∧ Filled w' w.heap.size 0 [] ∧ Below w.heap.size w w' := by
  obtain ⟨i0, hi, hz0, hz1, hz2⟩ := info_parts infoOpT
  go_enter Tryd.func15, Tryd.ntmps15
  go_wp2_with (first
    | (at_make; refine wpList_make_full _ rfl _ _ 24 rfl w.heap.size 71 i0 _ 7 Tryd.underlying24 hi hz0 hz1 .i64 .i64 _ _ 0 rfl rfl rfl rfl (by omega) (by unfold maxLen; omega) (Nat.le_refl _) ?_; intro w1 hown hgrow))
  clear hi hz0 hz1 hz2
  have hB1 : Below w.heap.size w w1 := (Below.refl _ _).grown hgrow (Nat.le_refl _) (fun k h => by cases h)
  have hF0 : Filled w1 w.heap.size 0 [] := by
    obtain ⟨_, ⟨h, _⟩ | ⟨g, cap', cur, hv, _, hb, _, _, hs, _⟩⟩ := hown
    · cases h
    · simp only [Value.slice.injEq, Option.some.injEq, Addr.mk.injEq] at hv
      obtain ⟨⟨rfl, _⟩, _, rfl⟩ := hv
      exact ⟨cur, hb, by simpa using hs, fun i o _ h => by omega⟩
  clear hown hgrow
  refine wp_loop_rounds 1 ?_
  rw [rounds_succ]
  go_wp2
  go_ret
  exact ⟨rfl, hF0, hB1⟩


theorem Filled.blk {w : World} {g k : Nat} {l : List Op7} (h : Filled w g k l) : Blk w g l.length := by
  obtain ⟨cur, h1, h2, _⟩ := h
  exact ⟨cur, h1, h2⟩
theorem Blk.below {w w' : World} {g n B : Nat} (h : Blk w g n) (hb : Below B w w') (hB : g < B) : Blk w' g n := by
  obtain ⟨cur, h1, h2⟩ := h
  exact ⟨cur, (hb.block g hB).trans h1, h2⟩
theorem toOpS_anyF (l : List Op7) (p : Option Addr) (cap : Nat) (w : World) (hl : ArgOps w p l) (hn : l.length ≤ 1048576) (hcap : l.length ≤ cap) :
    Calls Tryd.prog 15 #[.slice p l.length cap] w fun e w' => e = .returned (.slice (some ⟨w.heap.size, 0, none⟩) l.length l.length) ∧ OpsAt w' w.heap.size l ∧ Blk w' w.heap.size l.length ∧ Below w.heap.size w w' := by
  rcases hl with rfl | ⟨b, off, rfl, hl⟩
  · refine (toOpS_zeroF p cap w).mono ?_
    rintro e w' ⟨rfl, hF, hB⟩
    exact ⟨rfl, hF.at, hF.blk, hB⟩
  · refine (toOpS_someF l b off cap w hl hn hcap).mono ?_
    rintro e w' ⟨rfl, hF, hB⟩
    exact ⟨rfl, hF.at, hF.blk, hB⟩
end Go.Proofs.YtficnhlkefpfnaaDoor

namespace Go.Proofs.YtficnhlkefpfnaaDoor
open Go.RowKit
set_option linter.unusedSimpArgs false
set_option linter.unusedVariables false
attribute [local go_sem ↓] Go.wp_at_zero Go.wp_at_succ

theorem Blk.away {W : World} {g n b i : Nat} {u : Value} (h : Blk W g n) (hne : g ≠ b) : Blk (W.setCell ⟨b, i, none⟩ u) g n := by
  obtain ⟨cur, h1, h2⟩ := h
  exact ⟨cur, set_off h1 hne, h2⟩
theorem IBlk.away {W : World} {g n b i : Nat} {u : Value} (h : IBlk W g n) (hne : g ≠ b) : IBlk (W.setCell ⟨b, i, none⟩ u) g n := by
  obtain ⟨cur, h1, h2⟩ := h
  exact ⟨cur, set_off h1 hne, h2⟩
set_option maxRecDepth 100000 in
set_option maxHeartbeats 1000000 in
theorem toDocF_any (l ws : List Op7) (p q : Option Addr) (cap cap2 : Nat) (w : World) (hl : ArgOps w p l) (hn : l.length ≤ 1048576) (hcap : l.length ≤ cap) (hs : ArgOps w q ws) (hn2 : ws.length ≤ 1048576) (hcap2 : ws.length ≤ cap2) :
    Calls Tryd.prog 42 #[.agg #[.slice p l.length cap, .slice q ws.length cap2]] w fun e w' => (∃ g g2, e = .returned (.agg #[.slice (some ⟨g, 0, none⟩) l.length l.length, .slice (some ⟨g2, 0, none⟩) ws.length ws.length]) ∧ OpsAt w' g l ∧ OpsAt w' g2 ws ∧ w.heap.size ≤ g ∧ w.heap.size ≤ g2 ∧ g < g2 ∧ Blk w' g l.length ∧ Blk w' g2 ws.length) ∧ Below w.heap.size w w' := by
  have HL := hideIt hl
  have HS := hideIt hs
  clear hl hs
  obtain ⟨W0, hW0⟩ : ∃ W0, ((w.alloc (.cells #[.slice p l.length cap, .slice q ws.length cap2] 32)).alloc (.cells #[.slice none 0 0, .slice none 0 0] 39)).alloc (.cells #[.slice none 0 0, .slice none 0 0] 39) = W0 := ⟨_, rfl⟩
  have hB0 : Below w.heap.size w W0 := by rw [← hW0]; exact (((Below.refl _ _).alloc (Nat.le_refl _) _).alloc (by simp) _).alloc (by simp; omega) _
  have hA0 : W0.heap[w.heap.size]? = some (.cells #[.slice p l.length cap, .slice q ws.length cap2] 32 (0, 0)) := by
    rw [← hW0]
    exact blk_below (World.alloc_heap_new _ _) (((Below.refl _ _).alloc (Nat.le_refl _) _).alloc (by simp) _)
  have hR0 : W0.heap[w.heap.size + 1]? = some (.cells #[.slice none 0 0, .slice none 0 0] 39 (0, 0)) := by
    rw [← hW0]
    have h := World.alloc_heap_new (w.alloc (.cells #[.slice p l.length cap, .slice q ws.length cap2] 32)) (.cells #[.slice none 0 0, .slice none 0 0] 39)
    rw [World.size_alloc] at h
    exact blk_below h ((Below.refl _ _).alloc (Nat.le_refl _) _)
  have hO0 : W0.heap[w.heap.size + 1 + 1]? = some (.cells #[.slice none 0 0, .slice none 0 0] 39 (0, 0)) := by
    rw [← hW0]
    have h := World.alloc_heap_new ((w.alloc (.cells #[.slice p l.length cap, .slice q ws.length cap2] 32)).alloc (.cells #[.slice none 0 0, .slice none 0 0] 39)) (.cells #[.slice none 0 0, .slice none 0 0] 39)
    rw [World.size_alloc, World.size_alloc] at h
    exact h
  have HB0 := hideIt hB0
  have HA0 := hideIt hA0
  have HR0 := hideIt hR0
  have HO0 := hideIt hO0
  have HW0 := hideIt hW0
  clear hB0 hA0 hR0 hO0 hW0
  go_enter Tryd.func42, Tryd.ntmps42
  go_wp2_with fail
  rw [HW0.out]
  clear HW0
  have hz0 : w.heap.size + 1 + 1 < W0.heap.size := (Array.getElem?_eq_some_iff.1 HO0.out).1
  refine (toOpS_anyF l p cap _ (HL.out.below HB0.out) hn hcap).mono ?_
  rintro e w1 ⟨rfl, hA1, hk1, hb1⟩
  have HG := hideIt hA1
  have HGK := hideIt hk1
  have hG1 : w.heap.size ≤ W0.heap.size := by omega
  have HB1 := hideIt (Bstep HB0.out hb1)
  have HA1 := hideIt (blk_below HA0.out hb1)
  have HR1 := hideIt (blk_below HR0.out hb1)
  have HO1 := hideIt (blk_below HO0.out hb1)
  clear hA1 hk1 hb1 HB0 HA0 HR0 HO0
  generalize W0.heap.size = G at *
  have a1 := (blk_cell HA1.out 1).trans rfl
  have al := (Array.getElem?_eq_some_iff.1 HA1.out).1
  have o0 := (blk_cell HO1.out 0).trans rfl
  have o1 := (blk_cell HO1.out 1).trans rfl
  have ol := (Array.getElem?_eq_some_iff.1 HO1.out).1
  have of : ∀ j, w1.frozen? ⟨w.heap.size + 1 + 1, j, none⟩ = false := fun j => by simp [World.frozen?, HO1.out]
  go_wp2_with fail
  have HO2 := hideIt (set_fst (u' := .slice (some ⟨G, 0, none⟩) l.length l.length) HO1.out)
  have HR2 := hideIt (set_off (c := w.heap.size + 1 + 1) (i := 0) (u := .slice (some ⟨G, 0, none⟩) l.length l.length) HR1.out (by omega))
  have HG2 := hideIt (OpsAt.away (b := w.heap.size + 1 + 1) (i := 0) (u := .slice (some ⟨G, 0, none⟩) l.length l.length) HG.out (by omega))
  have HGK2 := hideIt (Blk.away (b := w.heap.size + 1 + 1) (i := 0) (u := .slice (some ⟨G, 0, none⟩) l.length l.length) HGK.out (by omega))
  have HB2 := hideIt (HB1.out.setCell (p := ⟨w.heap.size + 1 + 1, 0, none⟩) (by show w.heap.size ≤ w.heap.size + 1 + 1; omega) (.slice (some ⟨G, 0, none⟩) l.length l.length))
  clear HO1 HR1 HG HGK HB1 a1 al o0 o1 ol of HA1
  generalize w1.setCell ⟨w.heap.size + 1 + 1, 0, none⟩ (.slice (some ⟨G, 0, none⟩) l.length l.length) = W2 at *
  refine (toOpS_anyF ws q cap2 _ (HS.out.below HB2.out) hn2 hcap2).mono ?_
  rintro e w3 ⟨rfl, hA3, hk3, hb3⟩
  have HK3 := hideIt hA3
  have HKK3 := hideIt hk3
  have HGK3 := hideIt (HGK2.out.below hb3 HG2.out.1)
  have hGG : G < W2.heap.size := HG2.out.1
  have HG3 := hideIt (HG2.out.below hb3 HG2.out.1)
  have HB3 := hideIt (Bstep HB2.out hb3)
  have HO3 := hideIt (blk_below HO2.out hb3)
  have HR3 := hideIt (blk_below HR2.out hb3)
  have hz2 : w.heap.size + 1 + 1 < W2.heap.size := (Array.getElem?_eq_some_iff.1 HO2.out).1
  clear hA3 hk3 hb3 HO2 HR2 HG2 HGK2 HB2
  generalize W2.heap.size = K2 at *
  have o0 := (blk_cell HO3.out 0).trans rfl
  have o1 := (blk_cell HO3.out 1).trans rfl
  have ol := (Array.getElem?_eq_some_iff.1 HO3.out).1
  have of : ∀ j, w3.frozen? ⟨w.heap.size + 1 + 1, j, none⟩ = false := fun j => by simp [World.frozen?, HO3.out]
  have r0 := (blk_cell HR3.out 0).trans rfl
  have r1 := (blk_cell HR3.out 1).trans rfl
  have rl := (Array.getElem?_eq_some_iff.1 HR3.out).1
  have rf : ∀ j, w3.frozen? ⟨w.heap.size + 1, j, none⟩ = false := fun j => by simp [World.frozen?, HR3.out]
  have n1 : ¬ w.heap.size + 1 + 1 = w.heap.size + 1 := by omega
  have n2 : ¬ w.heap.size + 1 = w.heap.size + 1 + 1 := by omega
  go_wp2
  have hb9 := set_snd (v' := .slice (some ⟨K2, 0, none⟩) ws.length ws.length) (set_fst (u' := .slice (some ⟨G, 0, none⟩) l.length l.length) (set_off (c := w.heap.size + 1 + 1) (i := 1) (u := .slice (some ⟨K2, 0, none⟩) ws.length ws.length) HR3.out n2))
  have v0 := (blk_cell hb9 0).trans rfl
  have v1 := (blk_cell hb9 1).trans rfl
  exact bodyPost_ret (v := .agg #[.slice (some ⟨G, 0, none⟩) l.length l.length, .slice (some ⟨K2, 0, none⟩) ws.length ws.length]) (by simp [results, Tryd.results42, go_sem, v0, v1]) rfl
    ⟨⟨G, K2, rfl, ((HG3.out.away (by omega)).away (by omega)).away (by omega), ((HK3.out.away (by omega)).away (by omega)).away (by omega), by omega, by omega, hGG, ((HGK3.out.away (by omega)).away (by omega)).away (by omega), ((HKK3.out.away (by omega)).away (by omega)).away (by omega)⟩,
      ((HB3.out.setCell (p := ⟨w.heap.size + 1 + 1, 1, none⟩) (by show w.heap.size ≤ w.heap.size + 1 + 1; omega) _).setCell (p := ⟨w.heap.size + 1, 0, none⟩) (by show w.heap.size ≤ w.heap.size + 1; omega) _).setCell (p := ⟨w.heap.size + 1, 1, none⟩) (by show w.heap.size ≤ w.heap.size + 1; omega) _⟩

/-- What toDesk makes, in blocks that may be written. -/
def DeskMadeF (base : Nat) (W : World) (e : Ending) (r : Int) (l ws : List Op7) (s : List Int) : Prop := ∃ g g2 g3, e = .returned (.agg #[.int .i64 r, .slice (some ⟨g, 0, none⟩) l.length l.length, .slice (some ⟨g2, 0, none⟩) ws.length ws.length, .slice (some ⟨g3, 0, none⟩) s.length s.length]) ∧ OpsAt W g l ∧ OpsAt W g2 ws ∧ IntsAt W g3 s ∧ base ≤ g ∧ base ≤ g2 ∧ base ≤ g3 ∧ g < g2 ∧ g < g3 ∧ g2 < g3 ∧ Blk W g l.length ∧ Blk W g2 ws.length ∧ IBlk W g3 s.length
set_option maxRecDepth 100000 in
set_option maxHeartbeats 2000000 in
theorem toDeskF_any (r : Int) (l ws : List Op7) (s : List Int) (p q t : Option Addr) (cap cap2 cap3 : Nat) (w : World) (hl : ArgOps w p l) (hn : l.length ≤ 1048576) (hcap : l.length ≤ cap) (hs : ArgOps w q ws) (hn2 : ws.length ≤ 1048576) (hcap2 : ws.length ≤ cap2) (hi : ArgInts w t s) (hn3 : s.length ≤ 1048576) (hcap3 : s.length ≤ cap3) :
    Calls Tryd.prog 22 #[.agg #[.int .i64 r, .slice p l.length cap, .slice q ws.length cap2, .slice t s.length cap3]] w fun e w' => DeskMadeF w.heap.size w' e r l ws s ∧ Below w.heap.size w w' := by
  have HL := hideIt hl
  have HS := hideIt hs
  have HI := hideIt hi
  clear hl hs hi
  obtain ⟨W0, hW0⟩ : ∃ W0, ((w.alloc (.cells #[.int .i64 r, .slice p l.length cap, .slice q ws.length cap2, .slice t s.length cap3] 35)).alloc (.cells #[.int .i64 0, .slice none 0 0, .slice none 0 0, .slice none 0 0] 41)).alloc (.cells #[.int .i64 r, .slice none 0 0, .slice none 0 0, .slice none 0 0] 41) = W0 := ⟨_, rfl⟩
  have hB0 : Below w.heap.size w W0 := by rw [← hW0]; exact (((Below.refl _ _).alloc (Nat.le_refl _) _).alloc (by simp) _).alloc (by simp; omega) _
  have hA0 : W0.heap[w.heap.size]? = some (.cells #[.int .i64 r, .slice p l.length cap, .slice q ws.length cap2, .slice t s.length cap3] 35 (0, 0)) := by
    rw [← hW0]
    exact blk_below (World.alloc_heap_new _ _) (((Below.refl _ _).alloc (Nat.le_refl _) _).alloc (by simp) _)
  have hR0 : W0.heap[w.heap.size + 1]? = some (.cells #[.int .i64 0, .slice none 0 0, .slice none 0 0, .slice none 0 0] 41 (0, 0)) := by
    rw [← hW0]
    have h := World.alloc_heap_new (w.alloc (.cells #[.int .i64 r, .slice p l.length cap, .slice q ws.length cap2, .slice t s.length cap3] 35)) (.cells #[.int .i64 0, .slice none 0 0, .slice none 0 0, .slice none 0 0] 41)
    rw [World.size_alloc] at h
    exact blk_below h ((Below.refl _ _).alloc (Nat.le_refl _) _)
  have hO0 : W0.heap[w.heap.size + 1 + 1]? = some (.cells #[.int .i64 r, .slice none 0 0, .slice none 0 0, .slice none 0 0] 41 (0, 0)) := by
    rw [← hW0]
    have h := World.alloc_heap_new ((w.alloc (.cells #[.int .i64 r, .slice p l.length cap, .slice q ws.length cap2, .slice t s.length cap3] 35)).alloc (.cells #[.int .i64 0, .slice none 0 0, .slice none 0 0, .slice none 0 0] 41)) (.cells #[.int .i64 r, .slice none 0 0, .slice none 0 0, .slice none 0 0] 41)
    rw [World.size_alloc, World.size_alloc] at h
    exact h
  have HB0 := hideIt hB0
  have HA0 := hideIt hA0
  have HR0 := hideIt hR0
  have HO0 := hideIt hO0
  have HW0 := hideIt hW0
  clear hB0 hA0 hR0 hO0 hW0
  go_enter Tryd.func22, Tryd.ntmps22
  go_wp2_with fail
  rw [HW0.out]
  clear HW0
  have hz0 : w.heap.size + 1 + 1 < W0.heap.size := (Array.getElem?_eq_some_iff.1 HO0.out).1
  refine (toDocF_any l ws p q cap cap2 _ (HL.out.below HB0.out) hn hcap (HS.out.below HB0.out) hn2 hcap2).mono ?_
  rintro e w1 ⟨⟨g, g2, rfl, hg, hg2, hgg, hgg2, hg12, hk1, hk2⟩, hb1⟩
  have HGK := hideIt hk1
  have HGL := hideIt hk2
  clear hk1 hk2
  have hgz : w.heap.size + 1 + 1 < w1.heap.size := Nat.lt_of_lt_of_le hz0 hb1.size
  have HB1 := hideIt (Bstep HB0.out hb1)
  have HA1 := hideIt (blk_below HA0.out hb1)
  have HR1 := hideIt (blk_below HR0.out hb1)
  have HO1 := hideIt (blk_below HO0.out hb1)
  have HG := hideIt hg
  have HG2 := hideIt hg2
  clear hg hg2 HB0 HA0 HR0 HO0
  have a3 := (blk_cell HA1.out 3).trans rfl
  have al := (Array.getElem?_eq_some_iff.1 HA1.out).1
  have o0 := (blk_cell HO1.out 0).trans rfl
  have o1 := (blk_cell HO1.out 1).trans rfl
  have o2 := (blk_cell HO1.out 2).trans rfl
  have o3 := (blk_cell HO1.out 3).trans rfl
  have of : ∀ j, w1.frozen? ⟨w.heap.size + 1 + 1, j, none⟩ = false := fun j => by simp [World.frozen?, HO1.out]
  go_wp2_with fail
  have HO2 := hideIt (set_cs (i := 2) (u := .slice (some ⟨g2, 0, none⟩) ws.length ws.length) (set_cs (i := 1) (u := .slice (some ⟨g, 0, none⟩) l.length l.length) HO1.out))
  have HA2 := hideIt (set_off (i := 2) (u := .slice (some ⟨g2, 0, none⟩) ws.length ws.length) (set_off (c := w.heap.size + 1 + 1) (i := 1) (u := .slice (some ⟨g, 0, none⟩) l.length l.length) HA1.out (by omega)) (show w.heap.size ≠ w.heap.size + 1 + 1 by omega))
  have HR2 := hideIt (set_off (i := 2) (u := .slice (some ⟨g2, 0, none⟩) ws.length ws.length) (set_off (c := w.heap.size + 1 + 1) (i := 1) (u := .slice (some ⟨g, 0, none⟩) l.length l.length) HR1.out (by omega)) (show w.heap.size + 1 ≠ w.heap.size + 1 + 1 by omega))
  have HG' := hideIt (OpsAt.away (i := 2) (u := .slice (some ⟨g2, 0, none⟩) ws.length ws.length) (OpsAt.away (b := w.heap.size + 1 + 1) (i := 1) (u := .slice (some ⟨g, 0, none⟩) l.length l.length) HG.out (by omega)) (show g ≠ w.heap.size + 1 + 1 by omega))
  have HG2' := hideIt (OpsAt.away (i := 2) (u := .slice (some ⟨g2, 0, none⟩) ws.length ws.length) (OpsAt.away (b := w.heap.size + 1 + 1) (i := 1) (u := .slice (some ⟨g, 0, none⟩) l.length l.length) HG2.out (by omega)) (show g2 ≠ w.heap.size + 1 + 1 by omega))
  have HGK2 := hideIt (Blk.away (i := 2) (u := .slice (some ⟨g2, 0, none⟩) ws.length ws.length) (Blk.away (b := w.heap.size + 1 + 1) (i := 1) (u := .slice (some ⟨g, 0, none⟩) l.length l.length) HGK.out (by omega)) (show g ≠ w.heap.size + 1 + 1 by omega))
  have HGL2 := hideIt (Blk.away (i := 2) (u := .slice (some ⟨g2, 0, none⟩) ws.length ws.length) (Blk.away (b := w.heap.size + 1 + 1) (i := 1) (u := .slice (some ⟨g, 0, none⟩) l.length l.length) HGL.out (by omega)) (show g2 ≠ w.heap.size + 1 + 1 by omega))
  have HB2 := hideIt ((HB1.out.setCell (p := ⟨w.heap.size + 1 + 1, 1, none⟩) (by show w.heap.size ≤ w.heap.size + 1 + 1; omega) (.slice (some ⟨g, 0, none⟩) l.length l.length)).setCell (p := ⟨w.heap.size + 1 + 1, 2, none⟩) (by show w.heap.size ≤ w.heap.size + 1 + 1; omega) (.slice (some ⟨g2, 0, none⟩) ws.length ws.length))
  clear HO1 HA1 HR1 HG HG2 HGK HGL HB1 a3 al o0 o1 o2 o3 of
  have hgz2 : w.heap.size + 1 + 1 < ((w1.setCell ⟨w.heap.size + 1 + 1, 1, none⟩ (.slice (some ⟨g, 0, none⟩) l.length l.length)).setCell ⟨w.heap.size + 1 + 1, 2, none⟩ (.slice (some ⟨g2, 0, none⟩) ws.length ws.length)).heap.size := by simpa using hgz
  generalize (w1.setCell ⟨w.heap.size + 1 + 1, 1, none⟩ (.slice (some ⟨g, 0, none⟩) l.length l.length)).setCell ⟨w.heap.size + 1 + 1, 2, none⟩ (.slice (some ⟨g2, 0, none⟩) ws.length ws.length) = W2 at *
  refine (toIntS_any s t cap3 _ (HI.out.below HB2.out) hn3 hcap3).mono ?_
  rintro e w3 ⟨rfl, hi3, hk3, hb3⟩
  have HIK3 := hideIt hk3
  have HGK3 := hideIt (HGK2.out.below hb3 HG'.out.1)
  have HGL3 := hideIt (HGL2.out.below hb3 HG2'.out.1)
  have hC1 : g < W2.heap.size := HG'.out.1
  have hC2 : g2 < W2.heap.size := HG2'.out.1
  have HI3 := hideIt hi3
  have HG3 := hideIt (HG'.out.below hb3 HG'.out.1)
  have HK3 := hideIt (HG2'.out.below hb3 HG2'.out.1)
  have HB3 := hideIt (Bstep HB2.out hb3)
  have HO3 := hideIt (blk_below HO2.out hb3)
  have HR3 := hideIt (blk_below HR2.out hb3)
  clear hi3 hk3 hb3 HO2 HA2 HR2 HG' HG2' HGK2 HGL2 HB2
  generalize W2.heap.size = C at *
  have o0 := (blk_cell HO3.out 0).trans rfl
  have o1 := (blk_cell HO3.out 1).trans rfl
  have o2 := (blk_cell HO3.out 2).trans rfl
  have o3 := (blk_cell HO3.out 3).trans rfl
  have ol := (Array.getElem?_eq_some_iff.1 HO3.out).1
  have of : ∀ j, w3.frozen? ⟨w.heap.size + 1 + 1, j, none⟩ = false := fun j => by simp [World.frozen?, HO3.out]
  have r0 := (blk_cell HR3.out 0).trans rfl
  have r1 := (blk_cell HR3.out 1).trans rfl
  have r2 := (blk_cell HR3.out 2).trans rfl
  have r3 := (blk_cell HR3.out 3).trans rfl
  have rl := (Array.getElem?_eq_some_iff.1 HR3.out).1
  have rf : ∀ j, w3.frozen? ⟨w.heap.size + 1, j, none⟩ = false := fun j => by simp [World.frozen?, HR3.out]
  have n1 : ¬ w.heap.size + 1 + 1 = w.heap.size + 1 := by omega
  have n2 : ¬ w.heap.size + 1 = w.heap.size + 1 + 1 := by omega
  go_wp2
  have hb9 := set_cs (i := 3) (u := .slice (some ⟨C, 0, none⟩) s.length s.length) (set_cs (i := 2) (u := .slice (some ⟨g2, 0, none⟩) ws.length ws.length) (set_cs (i := 1) (u := .slice (some ⟨g, 0, none⟩) l.length l.length) (set_cs (i := 0) (u := .int .i64 r) (set_off (c := w.heap.size + 1 + 1) (i := 3) (u := .slice (some ⟨C, 0, none⟩) s.length s.length) HR3.out n2))))
  have v0 := (blk_cell hb9 0).trans rfl
  have v1 := (blk_cell hb9 1).trans rfl
  have v2 := (blk_cell hb9 2).trans rfl
  have v3 := (blk_cell hb9 3).trans rfl
  exact bodyPost_ret (v := .agg #[.int .i64 r, .slice (some ⟨g, 0, none⟩) l.length l.length, .slice (some ⟨g2, 0, none⟩) ws.length ws.length, .slice (some ⟨C, 0, none⟩) s.length s.length]) (by simp [results, Tryd.results22, go_sem, v0, v1, v2, v3]) rfl
    ⟨⟨g, g2, C, rfl, ((((HG3.out.away (by omega)).away (by omega)).away (by omega)).away (by omega)).away (by omega), ((((HK3.out.away (by omega)).away (by omega)).away (by omega)).away (by omega)).away (by omega), ((((HI3.out.away (by omega)).away (by omega)).away (by omega)).away (by omega)).away (by omega), by omega, by omega, by omega, hg12, hC1, hC2, ((((HGK3.out.away (by omega)).away (by omega)).away (by omega)).away (by omega)).away (by omega), ((((HGL3.out.away (by omega)).away (by omega)).away (by omega)).away (by omega)).away (by omega), ((((HIK3.out.away (by omega)).away (by omega)).away (by omega)).away (by omega)).away (by omega)⟩,
      ((((HB3.out.setCell (p := ⟨w.heap.size + 1 + 1, 3, none⟩) (by show w.heap.size ≤ w.heap.size + 1 + 1; omega) _).setCell (p := ⟨w.heap.size + 1, 0, none⟩) (by show w.heap.size ≤ w.heap.size + 1; omega) _).setCell (p := ⟨w.heap.size + 1, 1, none⟩) (by show w.heap.size ≤ w.heap.size + 1; omega) _).setCell (p := ⟨w.heap.size + 1, 2, none⟩) (by show w.heap.size ≤ w.heap.size + 1; omega) _).setCell (p := ⟨w.heap.size + 1, 3, none⟩) (by show w.heap.size ≤ w.heap.size + 1; omega) _⟩

end Go.Proofs.YtficnhlkefpfnaaDoor

namespace Go.Proofs.YtficnhlkefpfnaaDoor
open Go.RowKit
set_option linter.unusedSimpArgs false
set_option linter.unusedVariables false
attribute [local go_sem ↓] Go.wp_at_zero Go.wp_at_succ

set_option maxRecDepth 100000 in
set_option maxHeartbeats 4000000 in
theorem walkDeskPull (r : Int) (l : List Op7) (p : Option Addr) (cap : Nat) (ws : List Op7) (q : Option Addr) (cap2 : Nat) (s : List Int) (t : Option Addr) (cap3 : Nat) (x : Addr) (w : World) (hl : ArgOps w p l) (hcap : l.length ≤ cap) (hmax : cap ≤ maxLen) (hs : ArgOps w q ws) (hcap2 : ws.length ≤ cap2) (hmax2 : cap2 ≤ maxLen) (hi : ArgInts w t s) (hcap3 : s.length ≤ cap3) (hmax3 : cap3 ≤ maxLen)
    (he : w.cell? ⟨0, 0, none⟩ = some (.iface 200 (.pointer (some x)))) (h0 : 0 < w.heap.size) :
    Calls Tryd.prog 5 #[.agg #[.int .i64 r, .slice p l.length cap, .slice q ws.length cap2, .slice t s.length cap3]] w fun e w' => e = .returned (.bool true) ∧ Below w.heap.size w w' := by
  have HA := hideIt hl
  have HS := hideIt hs
  have HI := hideIt hi
  clear hl hs hi
  have hB0 : Below w.heap.size w (w.alloc (.cells #[.int .i64 r, .slice p l.length cap, .slice q ws.length cap2, .slice t s.length cap3] 35)) := (Below.refl _ _).alloc (Nat.le_refl _) _
  have hD0 : (w.alloc (.cells #[.int .i64 r, .slice p l.length cap, .slice q ws.length cap2, .slice t s.length cap3] 35)).heap[w.heap.size]? = some (.cells #[.int .i64 r, .slice p l.length cap, .slice q ws.length cap2, .slice t s.length cap3] 35 (0, 0)) := World.alloc_heap_new _ _
  have HB := hideIt hB0
  have HD := hideIt hD0
  clear hB0 hD0
  by_cases hn : l.length + ws.length + s.length ≤ 1048576
  · obtain ⟨zz, hzz⟩ : ∃ zz, deskB r l ws s = zz := ⟨_, rfl⟩
    have HZ := hideIt hzz
    clear hzz
    cases zz
    · go_enter Tryd.func5, Tryd.ntmps5
      go_wp2_with fail
      refine (szDesk_ok r p q t l.length cap ws.length cap2 s.length cap3 _ hn).mono ?_
      rintro e w1 ⟨⟨sz, rfl⟩, hb1⟩
      have HB' := hideIt (Bstep HB.out hb1)
      have HD' := hideIt (blk_below HD.out hb1)
      clear HB HD
      have HB := HB'
      have HD := HD'
      clear HB' HD'
      clear hb1
      have hs0 : ¬ ((sz : Int) < 0) := by omega
      have cd0 := (blk_cell HD.out 0).trans rfl
      have cd1 := (blk_cell HD.out 1).trans rfl
      have cd2 := (blk_cell HD.out 2).trans rfl
      have cd3 := (blk_cell HD.out 3).trans rfl
      have cdl := (Array.getElem?_eq_some_iff.1 HD.out).1
      go_wp2_with fail
      refine (toDesk_any r l ws s p q t cap cap2 cap3 _ (HA.out.below HB.out) (by omega) hcap (HS.out.below HB.out) (by omega) hcap2 (HI.out.below HB.out) (by omega) hcap3).mono ?_
      rintro e w2 ⟨⟨g1, g2, g3, rfl, hA2, hB2, hC2⟩, hb2⟩
      clear cd0 cd1 cd2 cd3 cdl
      have HB' := hideIt (Bstep HB.out hb2)
      have HD' := hideIt (blk_below HD.out hb2)
      clear HB HD
      have HB := HB'
      have HD := HD'
      clear HB' HD'
      clear hb2
      have H1 := hideIt hA2
      have H2 := hideIt hB2
      have H3 := hideIt hC2
      clear hA2 hB2 hC2
      go_wp2_with fail
      refine (specPull_any r l ws s g1 l.length g2 ws.length g3 s.length _ H1.out (by omega) (Nat.le_refl _) H2.out (by omega) (Nat.le_refl _) H3.out (by omega) (Nat.le_refl _)).mono ?_
      rintro e w3 ⟨(⟨hf, _⟩ | ⟨_, rfl⟩), hb3⟩
      · rw [HZ.out] at hf; cases hf
      have HB' := hideIt (Bstep HB.out hb3)
      have HD' := hideIt (blk_below HD.out hb3)
      clear HB HD
      have HB := HB'
      have HD := HD'
      clear HB' HD'
      clear hb3 H1 H2 H3
      have cd0 := (blk_cell HD.out 0).trans rfl
      have cd1 := (blk_cell HD.out 1).trans rfl
      have cd2 := (blk_cell HD.out 2).trans rfl
      have cd3 := (blk_cell HD.out 3).trans rfl
      have cdl := (Array.getElem?_eq_some_iff.1 HD.out).1
      go_wp2_with fail
      clear cd0 cd1 cd2 cd3 cdl
      have hba : Below w3.heap.size w3 (w3.alloc (.cells #[.int .i64 0, .int .i64 0, .slice none 0 0, .slice none 0 0] 46)) := (Below.refl _ _).alloc (Nat.le_refl _) _
      have HB' := hideIt (Bstep HB.out hba)
      have HD' := hideIt (blk_below HD.out hba)
      clear HB HD
      have HB := HB'
      have HD := HD'
      clear HB' HD'
      have HW : Hid ((w3.alloc (.cells #[.int .i64 0, .int .i64 0, .slice none 0 0, .slice none 0 0] 46)).heap[w3.heap.size]? = some (.cells #[.int .i64 0, .int .i64 0, .slice none 0 0, .slice none 0 0] 46 (0, 0))) := World.alloc_heap_new _ _
      clear hba
      generalize w3.alloc (.cells #[.int .i64 0, .int .i64 0, .slice none 0 0, .slice none 0 0] 46) = W3 at *
      generalize w3.heap.size = P0 at *
      refine (toDeskF_any r l ws s p q t cap cap2 cap3 _ (HA.out.below HB.out) (by omega) hcap (HS.out.below HB.out) (by omega) hcap2 (HI.out.below HB.out) (by omega) hcap3).mono ?_
      rintro e w4 ⟨⟨ga, gb, gc, rfl, hA4, hB4, hC4, hga, hgb, hgc, hab, hac, hbc, hk1, hk2, hk3⟩, hb4⟩
      have hP0 : P0 < W3.heap.size := (Array.getElem?_eq_some_iff.1 HW.out).1
      have hD0 : w.heap.size < W3.heap.size := (Array.getElem?_eq_some_iff.1 HD.out).1
      have HB' := hideIt (Bstep HB.out hb4)
      have HD' := hideIt (blk_below HD.out hb4)
      have HW' := hideIt (blk_below HW.out hb4)
      clear HB HD HW
      have HB := HB'
      have HD := HD'
      have HW := HW'
      clear HB' HD' HW'
      clear hb4
      have HGA := hideIt hA4
      have HGB := hideIt hB4
      have HGC := hideIt hC4
      have HKA := hideIt hk1
      have HKB := hideIt hk2
      have HKC := hideIt hk3
      clear hA4 hB4 hC4 hk1 hk2 hk3
      have hga4 : ga < w4.heap.size := HGA.out.1
      have hgb4 : gb < w4.heap.size := HGB.out.1
      have hgc4 : gc < w4.heap.size := HGC.out.1
      go_wp2_with fail
      have hba : Below w4.heap.size w4 (w4.alloc (.cells #[.int .i64 r, .slice (some ⟨ga, 0, none⟩) l.length l.length, .slice (some ⟨gb, 0, none⟩) ws.length ws.length, .slice (some ⟨gc, 0, none⟩) s.length s.length] 41)) := (Below.refl _ _).alloc (Nat.le_refl _) _
      have HB' := hideIt (Bstep HB.out hba)
      have HD' := hideIt (blk_below HD.out hba)
      have HW' := hideIt (blk_below HW.out hba)
      have HGA' := hideIt (HGA.out.below hba HGA.out.1)
      have HGB' := hideIt (HGB.out.below hba HGB.out.1)
      have HGC' := hideIt (HGC.out.below hba HGC.out.1)
      have HKA' := hideIt (HKA.out.keep hba)
      have HKB' := hideIt (HKB.out.keep hba)
      have HKC' := hideIt (HKC.out.keep hba)
      clear HB HD HW HGA HGB HGC HKA HKB HKC
      have HB := HB'
      have HD := HD'
      have HW := HW'
      have HGA := HGA'
      have HGB := HGB'
      have HGC := HGC'
      have HKA := HKA'
      have HKB := HKB'
      have HKC := HKC'
      clear HB' HD' HW' HGA' HGB' HGC' HKA' HKB' HKC'
      have HX : Hid ((w4.alloc (.cells #[.int .i64 r, .slice (some ⟨ga, 0, none⟩) l.length l.length, .slice (some ⟨gb, 0, none⟩) ws.length ws.length, .slice (some ⟨gc, 0, none⟩) s.length s.length] 41)).heap[w4.heap.size]? = some (.cells #[.int .i64 r, .slice (some ⟨ga, 0, none⟩) l.length l.length, .slice (some ⟨gb, 0, none⟩) ws.length ws.length, .slice (some ⟨gc, 0, none⟩) s.length s.length] 41 (0, 0))) := World.alloc_heap_new _ _
      clear hba
      have hX4 : w4.heap.size < (w4.alloc (.cells #[.int .i64 r, .slice (some ⟨ga, 0, none⟩) l.length l.length, .slice (some ⟨gb, 0, none⟩) ws.length ws.length, .slice (some ⟨gc, 0, none⟩) s.length s.length] 41)).heap.size := (Array.getElem?_eq_some_iff.1 HX.out).1
      generalize w4.alloc (.cells #[.int .i64 r, .slice (some ⟨ga, 0, none⟩) l.length l.length, .slice (some ⟨gb, 0, none⟩) ws.length ws.length, .slice (some ⟨gc, 0, none⟩) s.length s.length] 41) = W4 at *
      generalize w4.heap.size = X at *
      refine (implPull_any r l ws s ga l.length gb ws.length gc s.length x _ HGA.out (by omega) (Nat.le_refl _) HGB.out (by omega) (Nat.le_refl _) HGC.out (by omega) (Nat.le_refl _) (errB HB.out h0 he) (posB HB.out h0)).mono ?_
      rintro e w5 ⟨(⟨hf, _⟩ | ⟨_, rfl⟩), hb5⟩
      · rw [HZ.out] at hf; cases hf
      have HB' := hideIt (Bstep HB.out hb5)
      have HD' := hideIt (blk_below HD.out hb5)
      have HW' := hideIt (blk_below HW.out hb5)
      have HGA' := hideIt (HGA.out.below hb5 HGA.out.1)
      have HGB' := hideIt (HGB.out.below hb5 HGB.out.1)
      have HGC' := hideIt (HGC.out.below hb5 HGC.out.1)
      have HKA' := hideIt (HKA.out.keep hb5)
      have HKB' := hideIt (HKB.out.keep hb5)
      have HKC' := hideIt (HKC.out.keep hb5)
      have HX' := hideIt (blk_below HX.out hb5)
      clear HB HD HW HGA HGB HGC HKA HKB HKC HX
      have HB := HB'
      have HD := HD'
      have HW := HW'
      have HGA := HGA'
      have HGB := HGB'
      have HGC := HGC'
      have HKA := HKA'
      have HKB := HKB'
      have HKC := HKC'
      have HX := HX'
      clear HB' HD' HW' HGA' HGB' HGC' HKA' HKB' HKC' HX'
      clear hb5
      have hXw5 : X < w5.heap.size := (Array.getElem?_eq_some_iff.1 HX.out).1
      have cp0 := (blk_cell HW.out 0).trans rfl
      have cp1 := (blk_cell HW.out 1).trans rfl
      have cp2 := (blk_cell HW.out 2).trans rfl
      have cp3 := (blk_cell HW.out 3).trans rfl
      have cpl := (Array.getElem?_eq_some_iff.1 HW.out).1
      go_wp2_with fail
      clear cp0 cp1 cp2 cp3 cpl
      have hba : Below w5.heap.size w5 (w5.alloc (.cells #[.int .i64 0, .int .i64 0, .slice none 0 0, .slice none 0 0] 46)) := (Below.refl _ _).alloc (Nat.le_refl _) _
      have HB' := hideIt (Bstep HB.out hba)
      have HD' := hideIt (blk_below HD.out hba)
      have HW' := hideIt (blk_below HW.out hba)
      have HGA' := hideIt (HGA.out.below hba HGA.out.1)
      have HGB' := hideIt (HGB.out.below hba HGB.out.1)
      have HGC' := hideIt (HGC.out.below hba HGC.out.1)
      have HKA' := hideIt (HKA.out.keep hba)
      have HKB' := hideIt (HKB.out.keep hba)
      have HKC' := hideIt (HKC.out.keep hba)
      have HX' := hideIt (blk_below HX.out hba)
      clear HB HD HW HGA HGB HGC HKA HKB HKC HX
      have HB := HB'
      have HD := HD'
      have HW := HW'
      have HGA := HGA'
      have HGB := HGB'
      have HGC := HGC'
      have HKA := HKA'
      have HKB := HKB'
      have HKC := HKC'
      have HX := HX'
      clear HB' HD' HW' HGA' HGB' HGC' HKA' HKB' HKC' HX'
      have HG : Hid ((w5.alloc (.cells #[.int .i64 0, .int .i64 0, .slice none 0 0, .slice none 0 0] 46)).heap[w5.heap.size]? = some (.cells #[.int .i64 0, .int .i64 0, .slice none 0 0, .slice none 0 0] 46 (0, 0))) := World.alloc_heap_new _ _
      have hP1 : X < w5.heap.size := hXw5
      clear hba
      generalize w5.alloc (.cells #[.int .i64 0, .int .i64 0, .slice none 0 0, .slice none 0 0] 46) = W5 at *
      generalize w5.heap.size = P1 at *
      refine (eqWord_any 0 0 _ _ _ _ _ _ _ (.inl ⟨rfl, rfl⟩)).mono ?_
      rintro e w6 ⟨rfl, hb6⟩
      have HB' := hideIt (Bstep HB.out hb6)
      have HD' := hideIt (blk_below HD.out hb6)
      have HW' := hideIt (blk_below HW.out hb6)
      have HGA' := hideIt (HGA.out.below hb6 HGA.out.1)
      have HGB' := hideIt (HGB.out.below hb6 HGB.out.1)
      have HGC' := hideIt (HGC.out.below hb6 HGC.out.1)
      have HKA' := hideIt (HKA.out.keep hb6)
      have HKB' := hideIt (HKB.out.keep hb6)
      have HKC' := hideIt (HKC.out.keep hb6)
      have HX' := hideIt (blk_below HX.out hb6)
      have HG' := hideIt (blk_below HG.out hb6)
      clear HB HD HW HGA HGB HGC HKA HKB HKC HX HG
      have HB := HB'
      have HD := HD'
      have HW := HW'
      have HGA := HGA'
      have HGB := HGB'
      have HGC := HGC'
      have HKA := HKA'
      have HKB := HKB'
      have HKC := HKC'
      have HX := HX'
      have HG := HG'
      clear HB' HD' HW' HGA' HGB' HGC' HKA' HKB' HKC' HX' HG'
      clear hb6
      have cx0 := (blk_cell HX.out 0).trans rfl
      have cx1 := (blk_cell HX.out 1).trans rfl
      have cx2 := (blk_cell HX.out 2).trans rfl
      have cx3 := (blk_cell HX.out 3).trans rfl
      have cxl := (Array.getElem?_eq_some_iff.1 HX.out).1
      have cd0 := (blk_cell HD.out 0).trans rfl
      have cd1 := (blk_cell HD.out 1).trans rfl
      have cd2 := (blk_cell HD.out 2).trans rfl
      have cd3 := (blk_cell HD.out 3).trans rfl
      have cdl := (Array.getElem?_eq_some_iff.1 HD.out).1
      go_wp2
      have hdr : Below w6.heap.size w6 (World.drew w6) := (Below.refl _ _).drew
      have HB' := hideIt (Bstep HB.out hdr)
      have HD' := hideIt (blk_below HD.out hdr)
      have HW' := hideIt (blk_below HW.out hdr)
      have HGA' := hideIt (HGA.out.below hdr HGA.out.1)
      have HGB' := hideIt (HGB.out.below hdr HGB.out.1)
      have HGC' := hideIt (HGC.out.below hdr HGC.out.1)
      have HKA' := hideIt (HKA.out.keep hdr)
      have HKB' := hideIt (HKB.out.keep hdr)
      have HKC' := hideIt (HKC.out.keep hdr)
      have HX' := hideIt (blk_below HX.out hdr)
      have HG' := hideIt (blk_below HG.out hdr)
      clear HB HD HW HGA HGB HGC HKA HKB HKC HX HG
      have HB := HB'
      have HD := HD'
      have HW := HW'
      have HGA := HGA'
      have HGB := HGB'
      have HGC := HGC'
      have HKA := HKA'
      have HKB := HKB'
      have HKC := HKC'
      have HX := HX'
      have HG := HG'
      clear HB' HD' HW' HGA' HGB' HGC' HKA' HKB' HKC' HX' HG'
      clear hdr
      go_region_held3 (fun w' => w'.cell? ⟨X, 0, none⟩ = some (.int .i64 r) ∧ w'.cell? ⟨X, 1, none⟩ = some (.slice (some ⟨ga, 0, none⟩) l.length l.length) ∧ w'.cell? ⟨X, 2, none⟩ = some (.slice (some ⟨gb, 0, none⟩) ws.length ws.length) ∧ w'.cell? ⟨X, 3, none⟩ = some (.slice (some ⟨gc, 0, none⟩) s.length s.length) ∧ w'.cell? ⟨w.heap.size, 0, none⟩ = some (.int .i64 r) ∧ w'.cell? ⟨w.heap.size, 1, none⟩ = some (.slice p l.length cap) ∧ w'.cell? ⟨w.heap.size, 2, none⟩ = some (.slice q ws.length cap2) ∧ w'.cell? ⟨w.heap.size, 3, none⟩ = some (.slice t s.length cap3))
        (first | exact ⟨cx0, cx1, cx2, cx3, cd0, cd1, cd2, cd3⟩ | exact ⟨y0, y1, y2, y3, z0, z1, z2, z3⟩)
        (first
        | (go_at_call 22; refine (toDesk_any r l ws s p q t cap cap2 cap3 _ (HA.out.below HB.out) (by omega) hcap (HS.out.below HB.out) (by omega) hcap2 (HI.out.below HB.out) (by omega) hcap3).mono ?_; rintro e w7 ⟨⟨ge, gf, gi, rfl, hge, hgf, hgi⟩, hb7⟩; have HGE := hideIt hge; have HGF := hideIt hgf; have HGI := hideIt hgi; have HBn := hideIt (Bstep HB.out hb7); have HD := hideIt (blk_below HD.out hb7); have HW := hideIt (blk_below HW.out hb7); have HGA := hideIt (HGA.out.below hb7 HGA.out.1); have HGB := hideIt (HGB.out.below hb7 HGB.out.1); have HGC := hideIt (HGC.out.below hb7 HGC.out.1); have HKA := hideIt (HKA.out.keep hb7); have HKB := hideIt (HKB.out.keep hb7); have HKC := hideIt (HKC.out.keep hb7); have HX := hideIt (blk_below HX.out hb7); have HG := hideIt (blk_below HG.out hb7); have HB := HBn; clear HBn; have y0 := (blk_cell HX.out 0).trans rfl; have y1 := (blk_cell HX.out 1).trans rfl; have y2 := (blk_cell HX.out 2).trans rfl; have y3 := (blk_cell HX.out 3).trans rfl; have z0 := (blk_cell HD.out 0).trans rfl; have z1 := (blk_cell HD.out 1).trans rfl; have z2 := (blk_cell HD.out 2).trans rfl; have z3 := (blk_cell HD.out 3).trans rfl; dsimp only)
        | (go_at_call 24; refine (eqDesk_same r l ws s _ _ _ _ _ _ _ HGA.out HGB.out HGC.out HGE.out HGF.out HGI.out (by omega) (by omega) (by omega)).mono ?_; rintro e w8 ⟨rfl, hb8⟩; have HBn := hideIt (Bstep HB.out hb8); have HD := hideIt (blk_below HD.out hb8); have HW := hideIt (blk_below HW.out hb8); have HGA := hideIt (HGA.out.below hb8 HGA.out.1); have HGB := hideIt (HGB.out.below hb8 HGB.out.1); have HGC := hideIt (HGC.out.below hb8 HGC.out.1); have HKA := hideIt (HKA.out.keep hb8); have HKB := hideIt (HKB.out.keep hb8); have HKC := hideIt (HKC.out.keep hb8); have HX := hideIt (blk_below HX.out hb8); have HG := hideIt (blk_below HG.out hb8); have HB := HBn; clear HBn; have y0 := (blk_cell HX.out 0).trans rfl; have y1 := (blk_cell HX.out 1).trans rfl; have y2 := (blk_cell HX.out 2).trans rfl; have y3 := (blk_cell HX.out 3).trans rfl; have z0 := (blk_cell HD.out 0).trans rfl; have z1 := (blk_cell HD.out 1).trans rfl; have z2 := (blk_cell HD.out 2).trans rfl; have z3 := (blk_cell HD.out 3).trans rfl; dsimp only))
      rename_i hHH
      clear hHH y0 y1 y2 y3 z0 z1 z2 z3
      try clear HGE HGF HGI
      have cx0 := (blk_cell HX.out 0).trans rfl
      have cx1 := (blk_cell HX.out 1).trans rfl
      have cx2 := (blk_cell HX.out 2).trans rfl
      have cx3 := (blk_cell HX.out 3).trans rfl
      have cxl := (Array.getElem?_eq_some_iff.1 HX.out).1
      go_wp2_with fail
      clear cx0 cx1 cx2 cx3 cxl
      have hX1 := (Array.getElem?_eq_some_iff.1 HX.out).1
      have hG1 := (Array.getElem?_eq_some_iff.1 HG.out).1
      refine (markDeskF_any r ga gb gc l.length ws.length s.length _ HKA.out HKB.out HKC.out (by omega) (by omega) (by omega) hn).mono ?_
      rintro e w9 ⟨⟨sm, rfl⟩, ht⟩
      have hsm : ¬ ((sm : Int) < 0) := by omega
      have HD9 := hideIt (ht.at HD.out (by omega) (by omega) (by omega))
      have HW9 := hideIt (ht.at HW.out (by omega) (by omega) (by omega))
      have HX9 := hideIt (ht.at HX.out (by omega) (by omega) (by omega))
      have HG9 := hideIt (ht.at HG.out (by omega) (by omega) (by omega))
      have HB9 := hideIt (HB.out.trans (ht.below w.heap.size (by omega) (by omega) (by omega) HB.out.size))
      clear ht HD HW HX HG HB HGA HGB HGC HKA HKB HKC
      have HD := HD9
      have HW := HW9
      have HG := HG9
      have HB := HB9
      clear HD9 HW9 HX9 HG9 HB9
      have cp0 := (blk_cell HW.out 0).trans rfl
      have cp1 := (blk_cell HW.out 1).trans rfl
      have cp2 := (blk_cell HW.out 2).trans rfl
      have cp3 := (blk_cell HW.out 3).trans rfl
      have cpl := (Array.getElem?_eq_some_iff.1 HW.out).1
      have cg0 := (blk_cell HG.out 0).trans rfl
      have cg1 := (blk_cell HG.out 1).trans rfl
      have cg2 := (blk_cell HG.out 2).trans rfl
      have cg3 := (blk_cell HG.out 3).trans rfl
      have cgl := (Array.getElem?_eq_some_iff.1 HG.out).1
      go_wp2_with fail
      clear cp0 cp1 cp2 cp3 cpl cg0 cg1 cg2 cg3 cgl
      refine (eqWord_any 0 0 _ _ _ _ _ _ _ (.inl ⟨rfl, rfl⟩)).mono ?_
      rintro e w10 ⟨rfl, hb10⟩
      have HB' := hideIt (Bstep HB.out hb10)
      have HD' := hideIt (blk_below HD.out hb10)
      have HW' := hideIt (blk_below HW.out hb10)
      have HG' := hideIt (blk_below HG.out hb10)
      clear HB HD HW HG
      have HB := HB'
      have HD := HD'
      have HW := HW'
      have HG := HG'
      clear HB' HD' HW' HG'
      clear hb10
      have cg0 := (blk_cell HG.out 0).trans rfl
      have cg1 := (blk_cell HG.out 1).trans rfl
      have cg2 := (blk_cell HG.out 2).trans rfl
      have cg3 := (blk_cell HG.out 3).trans rfl
      have cgl := (Array.getElem?_eq_some_iff.1 HG.out).1
      go_wp2_with fail
      clear cg0 cg1 cg2 cg3 cgl
      refine (markWord0_any 0 0 _).mono ?_
      rintro e w11 ⟨rfl, hb11⟩
      have HB' := hideIt (Bstep HB.out hb11)
      have HD' := hideIt (blk_below HD.out hb11)
      have HW' := hideIt (blk_below HW.out hb11)
      have HG' := hideIt (blk_below HG.out hb11)
      clear HB HD HW HG
      have HB := HB'
      have HD := HD'
      have HW := HW'
      have HG := HG'
      clear HB' HD' HW' HG'
      clear hb11
      have cg0 := (blk_cell HG.out 0).trans rfl
      have cg1 := (blk_cell HG.out 1).trans rfl
      have cg2 := (blk_cell HG.out 2).trans rfl
      have cg3 := (blk_cell HG.out 3).trans rfl
      have cgl := (Array.getElem?_eq_some_iff.1 HG.out).1
      go_wp2_with fail
      clear cg0 cg1 cg2 cg3 cgl
      refine (heldWord0_any 0 0 _).mono ?_
      rintro e w12 ⟨rfl, hb12⟩
      have HB' := hideIt (Bstep HB.out hb12)
      have HD' := hideIt (blk_below HD.out hb12)
      have HW' := hideIt (blk_below HW.out hb12)
      have HG' := hideIt (blk_below HG.out hb12)
      clear HB HD HW HG
      have HB := HB'
      have HD := HD'
      have HW := HW'
      have HG := HG'
      clear HB' HD' HW' HG'
      clear hb12
      have cd0 := (blk_cell HD.out 0).trans rfl
      have cd1 := (blk_cell HD.out 1).trans rfl
      have cd2 := (blk_cell HD.out 2).trans rfl
      have cd3 := (blk_cell HD.out 3).trans rfl
      have cdl := (Array.getElem?_eq_some_iff.1 HD.out).1
      go_wp2_with fail
      clear cd0 cd1 cd2 cd3 cdl
      refine (toDesk_any r l ws s p q t cap cap2 cap3 _ (HA.out.below HB.out) (by omega) hcap (HS.out.below HB.out) (by omega) hcap2 (HI.out.below HB.out) (by omega) hcap3).mono ?_
      rintro e w13 ⟨⟨k1, k2, k3, rfl, hA13, hB13, hC13⟩, hb13⟩
      have HB' := hideIt (Bstep HB.out hb13)
      have HD' := hideIt (blk_below HD.out hb13)
      have HW' := hideIt (blk_below HW.out hb13)
      have HG' := hideIt (blk_below HG.out hb13)
      clear HB HD HW HG
      have HB := HB'
      have HD := HD'
      have HW := HW'
      have HG := HG'
      clear HB' HD' HW' HG'
      clear hb13
      have H1 := hideIt hA13
      have H2 := hideIt hB13
      have H3 := hideIt hC13
      clear hA13 hB13 hC13
      go_wp2_with fail
      refine (implPull_any r l ws s k1 l.length k2 ws.length k3 s.length x _ H1.out (by omega) (Nat.le_refl _) H2.out (by omega) (Nat.le_refl _) H3.out (by omega) (Nat.le_refl _) (errB HB.out h0 he) (posB HB.out h0)).mono ?_
      rintro e w14 ⟨(⟨hf, _⟩ | ⟨_, rfl⟩), hb14⟩
      · rw [HZ.out] at hf; cases hf
      have HB' := hideIt (Bstep HB.out hb14)
      have HD' := hideIt (blk_below HD.out hb14)
      have HW' := hideIt (blk_below HW.out hb14)
      have HG' := hideIt (blk_below HG.out hb14)
      clear HB HD HW HG
      have HB := HB'
      have HD := HD'
      have HW := HW'
      have HG := HG'
      clear HB' HD' HW' HG'
      clear hb14 H1 H2 H3
      have cp0 := (blk_cell HW.out 0).trans rfl
      have cp1 := (blk_cell HW.out 1).trans rfl
      have cp2 := (blk_cell HW.out 2).trans rfl
      have cp3 := (blk_cell HW.out 3).trans rfl
      have cpl := (Array.getElem?_eq_some_iff.1 HW.out).1
      go_wp2_with fail
      clear cp0 cp1 cp2 cp3 cpl
      have hba : Below w14.heap.size w14 (w14.alloc (.cells #[.int .i64 0, .int .i64 0, .slice none 0 0, .slice none 0 0] 46)) := (Below.refl _ _).alloc (Nat.le_refl _) _
      have HB' := hideIt (Bstep HB.out hba)
      have HD' := hideIt (blk_below HD.out hba)
      have HW' := hideIt (blk_below HW.out hba)
      have HG' := hideIt (blk_below HG.out hba)
      clear HB HD HW HG
      have HB := HB'
      have HD := HD'
      have HW := HW'
      have HG := HG'
      clear HB' HD' HW' HG'
      clear hba
      refine (eqWord_any 0 0 _ _ _ _ _ _ _ (.inl ⟨rfl, rfl⟩)).mono ?_
      rintro e w15 ⟨rfl, hb15⟩
      have HB' := hideIt (Bstep HB.out hb15)
      have HD' := hideIt (blk_below HD.out hb15)
      have HW' := hideIt (blk_below HW.out hb15)
      have HG' := hideIt (blk_below HG.out hb15)
      clear HB HD HW HG
      have HB := HB'
      have HD := HD'
      have HW := HW'
      have HG := HG'
      clear HB' HD' HW' HG'
      clear hb15
      have cg0 := (blk_cell HG.out 0).trans rfl
      have cg1 := (blk_cell HG.out 1).trans rfl
      have cg2 := (blk_cell HG.out 2).trans rfl
      have cg3 := (blk_cell HG.out 3).trans rfl
      have cgl := (Array.getElem?_eq_some_iff.1 HG.out).1
      go_wp2_with fail
      clear cg0 cg1 cg2 cg3 cgl
      refine (heldWord0_any 0 0 _).mono ?_
      rintro e w16 ⟨rfl, hb16⟩
      have HB' := hideIt (Bstep HB.out hb16)
      have HD' := hideIt (blk_below HD.out hb16)
      have HW' := hideIt (blk_below HW.out hb16)
      have HG' := hideIt (blk_below HG.out hb16)
      clear HB HD HW HG
      have HB := HB'
      have HD := HD'
      have HW := HW'
      have HG := HG'
      clear HB' HD' HW' HG'
      clear hb16
      go_wp2
      go_ret
      exact ⟨rfl, HB.out⟩
    · go_enter Tryd.func5, Tryd.ntmps5
      go_wp2_with fail
      refine (szDesk_ok r p q t l.length cap ws.length cap2 s.length cap3 _ hn).mono ?_
      rintro e w1 ⟨⟨sz, rfl⟩, hb1⟩
      have HB' := hideIt (Bstep HB.out hb1)
      have HD' := hideIt (blk_below HD.out hb1)
      clear HB HD
      have HB := HB'
      have HD := HD'
      clear HB' HD'
      clear hb1
      have hs0 : ¬ ((sz : Int) < 0) := by omega
      have cd0 := (blk_cell HD.out 0).trans rfl
      have cd1 := (blk_cell HD.out 1).trans rfl
      have cd2 := (blk_cell HD.out 2).trans rfl
      have cd3 := (blk_cell HD.out 3).trans rfl
      have cdl := (Array.getElem?_eq_some_iff.1 HD.out).1
      go_wp2_with fail
      refine (toDesk_any r l ws s p q t cap cap2 cap3 _ (HA.out.below HB.out) (by omega) hcap (HS.out.below HB.out) (by omega) hcap2 (HI.out.below HB.out) (by omega) hcap3).mono ?_
      rintro e w2 ⟨⟨g1, g2, g3, rfl, hA2, hB2, hC2⟩, hb2⟩
      clear cd0 cd1 cd2 cd3 cdl
      have HB' := hideIt (Bstep HB.out hb2)
      have HD' := hideIt (blk_below HD.out hb2)
      clear HB HD
      have HB := HB'
      have HD := HD'
      clear HB' HD'
      clear hb2
      have H1 := hideIt hA2
      have H2 := hideIt hB2
      have H3 := hideIt hC2
      clear hA2 hB2 hC2
      go_wp2_with fail
      refine (specPull_any r l ws s g1 l.length g2 ws.length g3 s.length _ H1.out (by omega) (Nat.le_refl _) H2.out (by omega) (Nat.le_refl _) H3.out (by omega) (Nat.le_refl _)).mono ?_
      rintro e w3 ⟨(⟨_, G, K, rfl, hI3⟩ | ⟨hf, _⟩), hb3⟩
      rotate_left
      · rw [HZ.out] at hf; cases hf
      have HB' := hideIt (Bstep HB.out hb3)
      have HD' := hideIt (blk_below HD.out hb3)
      clear HB HD
      have HB := HB'
      have HD := HD'
      clear HB' HD'
      clear hb3 H1 H2 H3
      have HSG := hideIt hI3
      clear hI3
      have cd0 := (blk_cell HD.out 0).trans rfl
      have cd1 := (blk_cell HD.out 1).trans rfl
      have cd2 := (blk_cell HD.out 2).trans rfl
      have cd3 := (blk_cell HD.out 3).trans rfl
      have cdl := (Array.getElem?_eq_some_iff.1 HD.out).1
      go_wp2_with fail
      clear cd0 cd1 cd2 cd3 cdl
      have hba : Below w3.heap.size w3 (w3.alloc (.cells #[.int .i64 1, .int .i64 r, .slice (some ⟨G, 0, none⟩) 3 3, .slice (some ⟨K, 0, none⟩) 0 0] 46)) := (Below.refl _ _).alloc (Nat.le_refl _) _
      have HB' := hideIt (Bstep HB.out hba)
      have HD' := hideIt (blk_below HD.out hba)
      have HSG' := hideIt (HSG.out.below hba HSG.out.1)
      clear HB HD HSG
      have HB := HB'
      have HD := HD'
      have HSG := HSG'
      clear HB' HD' HSG'
      have HW : Hid ((w3.alloc (.cells #[.int .i64 1, .int .i64 r, .slice (some ⟨G, 0, none⟩) 3 3, .slice (some ⟨K, 0, none⟩) 0 0] 46)).heap[w3.heap.size]? = some (.cells #[.int .i64 1, .int .i64 r, .slice (some ⟨G, 0, none⟩) 3 3, .slice (some ⟨K, 0, none⟩) 0 0] 46 (0, 0))) := World.alloc_heap_new _ _
      clear hba
      generalize w3.alloc (.cells #[.int .i64 1, .int .i64 r, .slice (some ⟨G, 0, none⟩) 3 3, .slice (some ⟨K, 0, none⟩) 0 0] 46) = W3 at *
      generalize w3.heap.size = P0 at *
      refine (toDeskF_any r l ws s p q t cap cap2 cap3 _ (HA.out.below HB.out) (by omega) hcap (HS.out.below HB.out) (by omega) hcap2 (HI.out.below HB.out) (by omega) hcap3).mono ?_
      rintro e w4 ⟨⟨ga, gb, gc, rfl, hA4, hB4, hC4, hga, hgb, hgc, hab, hac, hbc, hk1, hk2, hk3⟩, hb4⟩
      have hP0 : P0 < W3.heap.size := (Array.getElem?_eq_some_iff.1 HW.out).1
      have hD0 : w.heap.size < W3.heap.size := (Array.getElem?_eq_some_iff.1 HD.out).1
      have hG0 : G < W3.heap.size := HSG.out.1
      have HB' := hideIt (Bstep HB.out hb4)
      have HD' := hideIt (blk_below HD.out hb4)
      have HSG' := hideIt (HSG.out.below hb4 HSG.out.1)
      have HW' := hideIt (blk_below HW.out hb4)
      clear HB HD HSG HW
      have HB := HB'
      have HD := HD'
      have HSG := HSG'
      have HW := HW'
      clear HB' HD' HSG' HW'
      clear hb4
      have HGA := hideIt hA4
      have HGB := hideIt hB4
      have HGC := hideIt hC4
      have HKA := hideIt hk1
      have HKB := hideIt hk2
      have HKC := hideIt hk3
      clear hA4 hB4 hC4 hk1 hk2 hk3
      have hga4 : ga < w4.heap.size := HGA.out.1
      have hgb4 : gb < w4.heap.size := HGB.out.1
      have hgc4 : gc < w4.heap.size := HGC.out.1
      go_wp2_with fail
      have hba : Below w4.heap.size w4 (w4.alloc (.cells #[.int .i64 r, .slice (some ⟨ga, 0, none⟩) l.length l.length, .slice (some ⟨gb, 0, none⟩) ws.length ws.length, .slice (some ⟨gc, 0, none⟩) s.length s.length] 41)) := (Below.refl _ _).alloc (Nat.le_refl _) _
      have HB' := hideIt (Bstep HB.out hba)
      have HD' := hideIt (blk_below HD.out hba)
      have HSG' := hideIt (HSG.out.below hba HSG.out.1)
      have HW' := hideIt (blk_below HW.out hba)
      have HGA' := hideIt (HGA.out.below hba HGA.out.1)
      have HGB' := hideIt (HGB.out.below hba HGB.out.1)
      have HGC' := hideIt (HGC.out.below hba HGC.out.1)
      have HKA' := hideIt (HKA.out.keep hba)
      have HKB' := hideIt (HKB.out.keep hba)
      have HKC' := hideIt (HKC.out.keep hba)
      clear HB HD HSG HW HGA HGB HGC HKA HKB HKC
      have HB := HB'
      have HD := HD'
      have HSG := HSG'
      have HW := HW'
      have HGA := HGA'
      have HGB := HGB'
      have HGC := HGC'
      have HKA := HKA'
      have HKB := HKB'
      have HKC := HKC'
      clear HB' HD' HSG' HW' HGA' HGB' HGC' HKA' HKB' HKC'
      have HX : Hid ((w4.alloc (.cells #[.int .i64 r, .slice (some ⟨ga, 0, none⟩) l.length l.length, .slice (some ⟨gb, 0, none⟩) ws.length ws.length, .slice (some ⟨gc, 0, none⟩) s.length s.length] 41)).heap[w4.heap.size]? = some (.cells #[.int .i64 r, .slice (some ⟨ga, 0, none⟩) l.length l.length, .slice (some ⟨gb, 0, none⟩) ws.length ws.length, .slice (some ⟨gc, 0, none⟩) s.length s.length] 41 (0, 0))) := World.alloc_heap_new _ _
      clear hba
      have hX4 : w4.heap.size < (w4.alloc (.cells #[.int .i64 r, .slice (some ⟨ga, 0, none⟩) l.length l.length, .slice (some ⟨gb, 0, none⟩) ws.length ws.length, .slice (some ⟨gc, 0, none⟩) s.length s.length] 41)).heap.size := (Array.getElem?_eq_some_iff.1 HX.out).1
      generalize w4.alloc (.cells #[.int .i64 r, .slice (some ⟨ga, 0, none⟩) l.length l.length, .slice (some ⟨gb, 0, none⟩) ws.length ws.length, .slice (some ⟨gc, 0, none⟩) s.length s.length] 41) = W4 at *
      generalize w4.heap.size = X at *
      refine (implPull_any r l ws s ga l.length gb ws.length gc s.length x _ HGA.out (by omega) (Nat.le_refl _) HGB.out (by omega) (Nat.le_refl _) HGC.out (by omega) (Nat.le_refl _) (errB HB.out h0 he) (posB HB.out h0)).mono ?_
      rintro e w5 ⟨(⟨_, G2, hG2, rfl, hI5, hf5⟩ | ⟨hf, _⟩), hb5⟩
      rotate_left
      · rw [HZ.out] at hf; cases hf
      have HB' := hideIt (Bstep HB.out hb5)
      have HD' := hideIt (blk_below HD.out hb5)
      have HSG' := hideIt (HSG.out.below hb5 HSG.out.1)
      have HW' := hideIt (blk_below HW.out hb5)
      have HGA' := hideIt (HGA.out.below hb5 HGA.out.1)
      have HGB' := hideIt (HGB.out.below hb5 HGB.out.1)
      have HGC' := hideIt (HGC.out.below hb5 HGC.out.1)
      have HKA' := hideIt (HKA.out.keep hb5)
      have HKB' := hideIt (HKB.out.keep hb5)
      have HKC' := hideIt (HKC.out.keep hb5)
      have HX' := hideIt (blk_below HX.out hb5)
      clear HB HD HSG HW HGA HGB HGC HKA HKB HKC HX
      have HB := HB'
      have HD := HD'
      have HSG := HSG'
      have HW := HW'
      have HGA := HGA'
      have HGB := HGB'
      have HGC := HGC'
      have HKA := HKA'
      have HKB := HKB'
      have HKC := HKC'
      have HX := HX'
      clear HB' HD' HSG' HW' HGA' HGB' HGC' HKA' HKB' HKC' HX'
      clear hb5
      have hXw5 : X < w5.heap.size := (Array.getElem?_eq_some_iff.1 HX.out).1
      have HSG2 := hideIt hI5
      have HFZ := hideIt hf5
      clear hI5 hf5
      have hG25 : G2 < w5.heap.size := HSG2.out.1
      have cp0 := (blk_cell HW.out 0).trans rfl
      have cp1 := (blk_cell HW.out 1).trans rfl
      have cp2 := (blk_cell HW.out 2).trans rfl
      have cp3 := (blk_cell HW.out 3).trans rfl
      have cpl := (Array.getElem?_eq_some_iff.1 HW.out).1
      go_wp2_with fail
      clear cp0 cp1 cp2 cp3 cpl
      have hba : Below w5.heap.size w5 (w5.alloc (.cells #[.int .i64 1, .int .i64 r, .slice (some ⟨G2, 0, none⟩) 3 3, .slice none 0 0] 46)) := (Below.refl _ _).alloc (Nat.le_refl _) _
      have HFZ' := hideIt (show ∀ j, World.frozen? (w5.alloc (.cells #[.int .i64 1, .int .i64 r, .slice (some ⟨G2, 0, none⟩) 3 3, .slice none 0 0] 46)) ⟨G2, j, none⟩ = false from fun j => ((bcell hba).2 G2 j HSG2.out.1).trans (HFZ.out j))
      clear HFZ
      have HFZ := HFZ'
      clear HFZ'
      have HB' := hideIt (Bstep HB.out hba)
      have HD' := hideIt (blk_below HD.out hba)
      have HSG' := hideIt (HSG.out.below hba HSG.out.1)
      have HW' := hideIt (blk_below HW.out hba)
      have HGA' := hideIt (HGA.out.below hba HGA.out.1)
      have HGB' := hideIt (HGB.out.below hba HGB.out.1)
      have HGC' := hideIt (HGC.out.below hba HGC.out.1)
      have HKA' := hideIt (HKA.out.keep hba)
      have HKB' := hideIt (HKB.out.keep hba)
      have HKC' := hideIt (HKC.out.keep hba)
      have HX' := hideIt (blk_below HX.out hba)
      have HSG2' := hideIt (HSG2.out.below hba HSG2.out.1)
      clear HB HD HSG HW HGA HGB HGC HKA HKB HKC HX HSG2
      have HB := HB'
      have HD := HD'
      have HSG := HSG'
      have HW := HW'
      have HGA := HGA'
      have HGB := HGB'
      have HGC := HGC'
      have HKA := HKA'
      have HKB := HKB'
      have HKC := HKC'
      have HX := HX'
      have HSG2 := HSG2'
      clear HB' HD' HSG' HW' HGA' HGB' HGC' HKA' HKB' HKC' HX' HSG2'
      have HG : Hid ((w5.alloc (.cells #[.int .i64 1, .int .i64 r, .slice (some ⟨G2, 0, none⟩) 3 3, .slice none 0 0] 46)).heap[w5.heap.size]? = some (.cells #[.int .i64 1, .int .i64 r, .slice (some ⟨G2, 0, none⟩) 3 3, .slice none 0 0] 46 (0, 0))) := World.alloc_heap_new _ _
      have hP1 : X < w5.heap.size := hXw5
      clear hba
      generalize w5.alloc (.cells #[.int .i64 1, .int .i64 r, .slice (some ⟨G2, 0, none⟩) 3 3, .slice none 0 0] 46) = W5 at *
      generalize w5.heap.size = P1 at *
      refine (eqWord_any 1 r _ _ _ _ _ _ _ (.inr ⟨G2, G, _, _, _, rfl, rfl, HSG2.out, HSG.out⟩)).mono ?_
      rintro e w6 ⟨rfl, hb6⟩
      have HFZ' := hideIt (show ∀ j, World.frozen? w6 ⟨G2, j, none⟩ = false from fun j => ((bcell hb6).2 G2 j HSG2.out.1).trans (HFZ.out j))
      clear HFZ
      have HFZ := HFZ'
      clear HFZ'
      have HB' := hideIt (Bstep HB.out hb6)
      have HD' := hideIt (blk_below HD.out hb6)
      have HSG' := hideIt (HSG.out.below hb6 HSG.out.1)
      have HW' := hideIt (blk_below HW.out hb6)
      have HGA' := hideIt (HGA.out.below hb6 HGA.out.1)
      have HGB' := hideIt (HGB.out.below hb6 HGB.out.1)
      have HGC' := hideIt (HGC.out.below hb6 HGC.out.1)
      have HKA' := hideIt (HKA.out.keep hb6)
      have HKB' := hideIt (HKB.out.keep hb6)
      have HKC' := hideIt (HKC.out.keep hb6)
      have HX' := hideIt (blk_below HX.out hb6)
      have HSG2' := hideIt (HSG2.out.below hb6 HSG2.out.1)
      have HG' := hideIt (blk_below HG.out hb6)
      clear HB HD HSG HW HGA HGB HGC HKA HKB HKC HX HSG2 HG
      have HB := HB'
      have HD := HD'
      have HSG := HSG'
      have HW := HW'
      have HGA := HGA'
      have HGB := HGB'
      have HGC := HGC'
      have HKA := HKA'
      have HKB := HKB'
      have HKC := HKC'
      have HX := HX'
      have HSG2 := HSG2'
      have HG := HG'
      clear HB' HD' HSG' HW' HGA' HGB' HGC' HKA' HKB' HKC' HX' HSG2' HG'
      clear hb6
      have cx0 := (blk_cell HX.out 0).trans rfl
      have cx1 := (blk_cell HX.out 1).trans rfl
      have cx2 := (blk_cell HX.out 2).trans rfl
      have cx3 := (blk_cell HX.out 3).trans rfl
      have cxl := (Array.getElem?_eq_some_iff.1 HX.out).1
      have cd0 := (blk_cell HD.out 0).trans rfl
      have cd1 := (blk_cell HD.out 1).trans rfl
      have cd2 := (blk_cell HD.out 2).trans rfl
      have cd3 := (blk_cell HD.out 3).trans rfl
      have cdl := (Array.getElem?_eq_some_iff.1 HD.out).1
      go_wp2
      have hdr : Below w6.heap.size w6 (World.drew w6) := (Below.refl _ _).drew
      have HFZ' := hideIt (show ∀ j, World.frozen? (World.drew w6) ⟨G2, j, none⟩ = false from fun j => ((bcell hdr).2 G2 j HSG2.out.1).trans (HFZ.out j))
      clear HFZ
      have HFZ := HFZ'
      clear HFZ'
      have HB' := hideIt (Bstep HB.out hdr)
      have HD' := hideIt (blk_below HD.out hdr)
      have HSG' := hideIt (HSG.out.below hdr HSG.out.1)
      have HW' := hideIt (blk_below HW.out hdr)
      have HGA' := hideIt (HGA.out.below hdr HGA.out.1)
      have HGB' := hideIt (HGB.out.below hdr HGB.out.1)
      have HGC' := hideIt (HGC.out.below hdr HGC.out.1)
      have HKA' := hideIt (HKA.out.keep hdr)
      have HKB' := hideIt (HKB.out.keep hdr)
      have HKC' := hideIt (HKC.out.keep hdr)
      have HX' := hideIt (blk_below HX.out hdr)
      have HSG2' := hideIt (HSG2.out.below hdr HSG2.out.1)
      have HG' := hideIt (blk_below HG.out hdr)
      clear HB HD HSG HW HGA HGB HGC HKA HKB HKC HX HSG2 HG
      have HB := HB'
      have HD := HD'
      have HSG := HSG'
      have HW := HW'
      have HGA := HGA'
      have HGB := HGB'
      have HGC := HGC'
      have HKA := HKA'
      have HKB := HKB'
      have HKC := HKC'
      have HX := HX'
      have HSG2 := HSG2'
      have HG := HG'
      clear HB' HD' HSG' HW' HGA' HGB' HGC' HKA' HKB' HKC' HX' HSG2' HG'
      clear hdr
      go_region_held3 (fun w' => w'.cell? ⟨X, 0, none⟩ = some (.int .i64 r) ∧ w'.cell? ⟨X, 1, none⟩ = some (.slice (some ⟨ga, 0, none⟩) l.length l.length) ∧ w'.cell? ⟨X, 2, none⟩ = some (.slice (some ⟨gb, 0, none⟩) ws.length ws.length) ∧ w'.cell? ⟨X, 3, none⟩ = some (.slice (some ⟨gc, 0, none⟩) s.length s.length) ∧ w'.cell? ⟨w.heap.size, 0, none⟩ = some (.int .i64 r) ∧ w'.cell? ⟨w.heap.size, 1, none⟩ = some (.slice p l.length cap) ∧ w'.cell? ⟨w.heap.size, 2, none⟩ = some (.slice q ws.length cap2) ∧ w'.cell? ⟨w.heap.size, 3, none⟩ = some (.slice t s.length cap3))
        (first | exact ⟨cx0, cx1, cx2, cx3, cd0, cd1, cd2, cd3⟩ | exact ⟨y0, y1, y2, y3, z0, z1, z2, z3⟩)
        (first
        | (go_at_call 22; refine (toDesk_any r l ws s p q t cap cap2 cap3 _ (HA.out.below HB.out) (by omega) hcap (HS.out.below HB.out) (by omega) hcap2 (HI.out.below HB.out) (by omega) hcap3).mono ?_; rintro e w7 ⟨⟨ge, gf, gi, rfl, hge, hgf, hgi⟩, hb7⟩; have HGE := hideIt hge; have HGF := hideIt hgf; have HGI := hideIt hgi; have HBn := hideIt (Bstep HB.out hb7); have HFZ := hideIt (show ∀ j, World.frozen? w7 ⟨G2, j, none⟩ = false from fun j => ((bcell hb7).2 G2 j HSG2.out.1).trans (HFZ.out j)); have HD := hideIt (blk_below HD.out hb7); have HSG := hideIt (HSG.out.below hb7 HSG.out.1); have HW := hideIt (blk_below HW.out hb7); have HGA := hideIt (HGA.out.below hb7 HGA.out.1); have HGB := hideIt (HGB.out.below hb7 HGB.out.1); have HGC := hideIt (HGC.out.below hb7 HGC.out.1); have HKA := hideIt (HKA.out.keep hb7); have HKB := hideIt (HKB.out.keep hb7); have HKC := hideIt (HKC.out.keep hb7); have HX := hideIt (blk_below HX.out hb7); have HSG2 := hideIt (HSG2.out.below hb7 HSG2.out.1); have HG := hideIt (blk_below HG.out hb7); have HB := HBn; clear HBn; have y0 := (blk_cell HX.out 0).trans rfl; have y1 := (blk_cell HX.out 1).trans rfl; have y2 := (blk_cell HX.out 2).trans rfl; have y3 := (blk_cell HX.out 3).trans rfl; have z0 := (blk_cell HD.out 0).trans rfl; have z1 := (blk_cell HD.out 1).trans rfl; have z2 := (blk_cell HD.out 2).trans rfl; have z3 := (blk_cell HD.out 3).trans rfl; dsimp only)
        | (go_at_call 24; refine (eqDesk_same r l ws s _ _ _ _ _ _ _ HGA.out HGB.out HGC.out HGE.out HGF.out HGI.out (by omega) (by omega) (by omega)).mono ?_; rintro e w8 ⟨rfl, hb8⟩; have HBn := hideIt (Bstep HB.out hb8); have HFZ := hideIt (show ∀ j, World.frozen? w8 ⟨G2, j, none⟩ = false from fun j => ((bcell hb8).2 G2 j HSG2.out.1).trans (HFZ.out j)); have HD := hideIt (blk_below HD.out hb8); have HSG := hideIt (HSG.out.below hb8 HSG.out.1); have HW := hideIt (blk_below HW.out hb8); have HGA := hideIt (HGA.out.below hb8 HGA.out.1); have HGB := hideIt (HGB.out.below hb8 HGB.out.1); have HGC := hideIt (HGC.out.below hb8 HGC.out.1); have HKA := hideIt (HKA.out.keep hb8); have HKB := hideIt (HKB.out.keep hb8); have HKC := hideIt (HKC.out.keep hb8); have HX := hideIt (blk_below HX.out hb8); have HSG2 := hideIt (HSG2.out.below hb8 HSG2.out.1); have HG := hideIt (blk_below HG.out hb8); have HB := HBn; clear HBn; have y0 := (blk_cell HX.out 0).trans rfl; have y1 := (blk_cell HX.out 1).trans rfl; have y2 := (blk_cell HX.out 2).trans rfl; have y3 := (blk_cell HX.out 3).trans rfl; have z0 := (blk_cell HD.out 0).trans rfl; have z1 := (blk_cell HD.out 1).trans rfl; have z2 := (blk_cell HD.out 2).trans rfl; have z3 := (blk_cell HD.out 3).trans rfl; dsimp only))
      rename_i hHH
      clear hHH y0 y1 y2 y3 z0 z1 z2 z3
      try clear HGE HGF HGI
      have cx0 := (blk_cell HX.out 0).trans rfl
      have cx1 := (blk_cell HX.out 1).trans rfl
      have cx2 := (blk_cell HX.out 2).trans rfl
      have cx3 := (blk_cell HX.out 3).trans rfl
      have cxl := (Array.getElem?_eq_some_iff.1 HX.out).1
      go_wp2_with fail
      clear cx0 cx1 cx2 cx3 cxl
      have hX1 := (Array.getElem?_eq_some_iff.1 HX.out).1
      have hG1 := (Array.getElem?_eq_some_iff.1 HG.out).1
      refine (markDeskF_any r ga gb gc l.length ws.length s.length _ HKA.out HKB.out HKC.out (by omega) (by omega) (by omega) hn).mono ?_
      rintro e w9 ⟨⟨sm, rfl⟩, ht⟩
      have hsm : ¬ ((sm : Int) < 0) := by omega
      have HD9 := hideIt (ht.at HD.out (by omega) (by omega) (by omega))
      have HW9 := hideIt (ht.at HW.out (by omega) (by omega) (by omega))
      have HX9 := hideIt (ht.at HX.out (by omega) (by omega) (by omega))
      have HG9 := hideIt (ht.at HG.out (by omega) (by omega) (by omega))
      have HSG9 := hideIt (ht.ints HSG.out (by omega) (by omega) (by omega))
      have HSG29 := hideIt (ht.ints HSG2.out (by omega) (by omega) (by omega))
      have HFZ9 := hideIt (show ∀ j, World.frozen? w9 ⟨G2, j, none⟩ = false from fun j => by have h1 := HFZ.out j; simp only [World.frozen?, ht.block G2 HSG2.out.1 (by omega) (by omega) (by omega)] at h1 ⊢; exact h1)
      have HB9 := hideIt (HB.out.trans (ht.below w.heap.size (by omega) (by omega) (by omega) HB.out.size))
      clear ht HD HW HX HG HB HGA HGB HGC HKA HKB HKC HSG HSG2 HFZ
      have HD := HD9
      have HW := HW9
      have HG := HG9
      have HB := HB9
      have HSG := HSG9
      have HSG2 := HSG29
      have HFZ := HFZ9
      clear HD9 HW9 HX9 HG9 HB9 HSG9 HSG29 HFZ9
      have cp0 := (blk_cell HW.out 0).trans rfl
      have cp1 := (blk_cell HW.out 1).trans rfl
      have cp2 := (blk_cell HW.out 2).trans rfl
      have cp3 := (blk_cell HW.out 3).trans rfl
      have cpl := (Array.getElem?_eq_some_iff.1 HW.out).1
      have cg0 := (blk_cell HG.out 0).trans rfl
      have cg1 := (blk_cell HG.out 1).trans rfl
      have cg2 := (blk_cell HG.out 2).trans rfl
      have cg3 := (blk_cell HG.out 3).trans rfl
      have cgl := (Array.getElem?_eq_some_iff.1 HG.out).1
      go_wp2_with fail
      clear cp0 cp1 cp2 cp3 cpl cg0 cg1 cg2 cg3 cgl
      refine (eqWord_any 1 r _ _ _ _ _ _ _ (.inr ⟨G2, G, _, _, _, rfl, rfl, HSG2.out, HSG.out⟩)).mono ?_
      rintro e w10 ⟨rfl, hb10⟩
      have HFZ' := hideIt (show ∀ j, World.frozen? w10 ⟨G2, j, none⟩ = false from fun j => ((bcell hb10).2 G2 j HSG2.out.1).trans (HFZ.out j))
      clear HFZ
      have HFZ := HFZ'
      clear HFZ'
      have HB' := hideIt (Bstep HB.out hb10)
      have HD' := hideIt (blk_below HD.out hb10)
      have HW' := hideIt (blk_below HW.out hb10)
      have HG' := hideIt (blk_below HG.out hb10)
      have HSG' := hideIt (HSG.out.below hb10 HSG.out.1)
      have HSG2' := hideIt (HSG2.out.below hb10 HSG2.out.1)
      clear HB HD HW HG HSG HSG2
      have HB := HB'
      have HD := HD'
      have HW := HW'
      have HG := HG'
      have HSG := HSG'
      have HSG2 := HSG2'
      clear HB' HD' HW' HG' HSG' HSG2'
      clear hb10
      have cg0 := (blk_cell HG.out 0).trans rfl
      have cg1 := (blk_cell HG.out 1).trans rfl
      have cg2 := (blk_cell HG.out 2).trans rfl
      have cg3 := (blk_cell HG.out 3).trans rfl
      have cgl := (Array.getElem?_eq_some_iff.1 HG.out).1
      go_wp2_with fail
      clear cg0 cg1 cg2 cg3 cgl
      refine (markWord3_any 1 r G2 _ _ _ _ _ _ HSG2.out HFZ.out).mono ?_
      rintro e w11 ⟨rfl, h3, ht⟩
      have hG1 := (Array.getElem?_eq_some_iff.1 HG.out).1
      have hP1' := (Array.getElem?_eq_some_iff.1 HG.out).1
      have HD9 := hideIt (ht.at HD.out (by omega) (by omega) (by omega))
      have HW9 := hideIt (ht.at HW.out (by omega) (by omega) (by omega))
      have HG9 := hideIt (ht.at HG.out (by omega) (by omega) (by omega))
      have HSG9 := hideIt (ht.ints HSG.out (by omega) (by omega) (by omega))
      have HB9 := hideIt (HB.out.trans (ht.below w.heap.size (by omega) (by omega) (by omega) HB.out.size))
      have HSG29 := hideIt h3
      clear ht h3 HD HW HG HSG HSG2 HFZ HB
      have HD := HD9
      have HW := HW9
      have HG := HG9
      have HSG := HSG9
      have HSG2 := HSG29
      have HB := HB9
      clear HD9 HW9 HG9 HSG9 HSG29 HB9
      have cg0 := (blk_cell HG.out 0).trans rfl
      have cg1 := (blk_cell HG.out 1).trans rfl
      have cg2 := (blk_cell HG.out 2).trans rfl
      have cg3 := (blk_cell HG.out 3).trans rfl
      have cgl := (Array.getElem?_eq_some_iff.1 HG.out).1
      go_wp2_with fail
      clear cg0 cg1 cg2 cg3 cgl
      refine (heldWord3_any 1 r G2 _ _ _ HSG2.out).mono ?_
      rintro e w12 ⟨rfl, hb12⟩
      have HB' := hideIt (Bstep HB.out hb12)
      have HD' := hideIt (blk_below HD.out hb12)
      have HW' := hideIt (blk_below HW.out hb12)
      have HG' := hideIt (blk_below HG.out hb12)
      have HSG' := hideIt (HSG.out.below hb12 HSG.out.1)
      have HSG2' := hideIt (HSG2.out.below hb12 HSG2.out.1)
      clear HB HD HW HG HSG HSG2
      have HB := HB'
      have HD := HD'
      have HW := HW'
      have HG := HG'
      have HSG := HSG'
      have HSG2 := HSG2'
      clear HB' HD' HW' HG' HSG' HSG2'
      clear hb12
      have cd0 := (blk_cell HD.out 0).trans rfl
      have cd1 := (blk_cell HD.out 1).trans rfl
      have cd2 := (blk_cell HD.out 2).trans rfl
      have cd3 := (blk_cell HD.out 3).trans rfl
      have cdl := (Array.getElem?_eq_some_iff.1 HD.out).1
      go_wp2_with fail
      clear cd0 cd1 cd2 cd3 cdl
      refine (toDesk_any r l ws s p q t cap cap2 cap3 _ (HA.out.below HB.out) (by omega) hcap (HS.out.below HB.out) (by omega) hcap2 (HI.out.below HB.out) (by omega) hcap3).mono ?_
      rintro e w13 ⟨⟨k1, k2, k3, rfl, hA13, hB13, hC13⟩, hb13⟩
      have HB' := hideIt (Bstep HB.out hb13)
      have HD' := hideIt (blk_below HD.out hb13)
      have HW' := hideIt (blk_below HW.out hb13)
      have HG' := hideIt (blk_below HG.out hb13)
      have HSG' := hideIt (HSG.out.below hb13 HSG.out.1)
      have HSG2' := hideIt (HSG2.out.below hb13 HSG2.out.1)
      clear HB HD HW HG HSG HSG2
      have HB := HB'
      have HD := HD'
      have HW := HW'
      have HG := HG'
      have HSG := HSG'
      have HSG2 := HSG2'
      clear HB' HD' HW' HG' HSG' HSG2'
      clear hb13
      have H1 := hideIt hA13
      have H2 := hideIt hB13
      have H3 := hideIt hC13
      clear hA13 hB13 hC13
      go_wp2_with fail
      refine (implPull_any r l ws s k1 l.length k2 ws.length k3 s.length x _ H1.out (by omega) (Nat.le_refl _) H2.out (by omega) (Nat.le_refl _) H3.out (by omega) (Nat.le_refl _) (errB HB.out h0 he) (posB HB.out h0)).mono ?_
      rintro e w14 ⟨(⟨_, G4, hG4, rfl, hI14, _⟩ | ⟨hf, _⟩), hb14⟩
      rotate_left
      · rw [HZ.out] at hf; cases hf
      have HB' := hideIt (Bstep HB.out hb14)
      have HD' := hideIt (blk_below HD.out hb14)
      have HW' := hideIt (blk_below HW.out hb14)
      have HG' := hideIt (blk_below HG.out hb14)
      have HSG' := hideIt (HSG.out.below hb14 HSG.out.1)
      have HSG2' := hideIt (HSG2.out.below hb14 HSG2.out.1)
      clear HB HD HW HG HSG HSG2
      have HB := HB'
      have HD := HD'
      have HW := HW'
      have HG := HG'
      have HSG := HSG'
      have HSG2 := HSG2'
      clear HB' HD' HW' HG' HSG' HSG2'
      clear hb14 H1 H2 H3
      have HSG4 := hideIt hI14
      clear hI14
      have cp0 := (blk_cell HW.out 0).trans rfl
      have cp1 := (blk_cell HW.out 1).trans rfl
      have cp2 := (blk_cell HW.out 2).trans rfl
      have cp3 := (blk_cell HW.out 3).trans rfl
      have cpl := (Array.getElem?_eq_some_iff.1 HW.out).1
      go_wp2_with fail
      clear cp0 cp1 cp2 cp3 cpl
      have hba : Below w14.heap.size w14 (w14.alloc (.cells #[.int .i64 1, .int .i64 r, .slice (some ⟨G4, 0, none⟩) 3 3, .slice none 0 0] 46)) := (Below.refl _ _).alloc (Nat.le_refl _) _
      have HB' := hideIt (Bstep HB.out hba)
      have HD' := hideIt (blk_below HD.out hba)
      have HW' := hideIt (blk_below HW.out hba)
      have HG' := hideIt (blk_below HG.out hba)
      have HSG' := hideIt (HSG.out.below hba HSG.out.1)
      have HSG2' := hideIt (HSG2.out.below hba HSG2.out.1)
      have HSG4' := hideIt (HSG4.out.below hba HSG4.out.1)
      clear HB HD HW HG HSG HSG2 HSG4
      have HB := HB'
      have HD := HD'
      have HW := HW'
      have HG := HG'
      have HSG := HSG'
      have HSG2 := HSG2'
      have HSG4 := HSG4'
      clear HB' HD' HW' HG' HSG' HSG2' HSG4'
      clear hba
      refine (eqWord_any 1 r _ _ _ _ _ _ _ (.inr ⟨G4, G, _, _, _, rfl, rfl, HSG4.out, HSG.out⟩)).mono ?_
      rintro e w15 ⟨rfl, hb15⟩
      have HB' := hideIt (Bstep HB.out hb15)
      have HD' := hideIt (blk_below HD.out hb15)
      have HW' := hideIt (blk_below HW.out hb15)
      have HG' := hideIt (blk_below HG.out hb15)
      have HSG' := hideIt (HSG.out.below hb15 HSG.out.1)
      have HSG2' := hideIt (HSG2.out.below hb15 HSG2.out.1)
      have HSG4' := hideIt (HSG4.out.below hb15 HSG4.out.1)
      clear HB HD HW HG HSG HSG2 HSG4
      have HB := HB'
      have HD := HD'
      have HW := HW'
      have HG := HG'
      have HSG := HSG'
      have HSG2 := HSG2'
      have HSG4 := HSG4'
      clear HB' HD' HW' HG' HSG' HSG2' HSG4'
      clear hb15
      have cg0 := (blk_cell HG.out 0).trans rfl
      have cg1 := (blk_cell HG.out 1).trans rfl
      have cg2 := (blk_cell HG.out 2).trans rfl
      have cg3 := (blk_cell HG.out 3).trans rfl
      have cgl := (Array.getElem?_eq_some_iff.1 HG.out).1
      go_wp2_with fail
      clear cg0 cg1 cg2 cg3 cgl
      refine (heldWord3_any 1 r G2 _ _ _ HSG2.out).mono ?_
      rintro e w16 ⟨rfl, hb16⟩
      have HB' := hideIt (Bstep HB.out hb16)
      have HD' := hideIt (blk_below HD.out hb16)
      have HW' := hideIt (blk_below HW.out hb16)
      have HG' := hideIt (blk_below HG.out hb16)
      have HSG' := hideIt (HSG.out.below hb16 HSG.out.1)
      have HSG2' := hideIt (HSG2.out.below hb16 HSG2.out.1)
      have HSG4' := hideIt (HSG4.out.below hb16 HSG4.out.1)
      clear HB HD HW HG HSG HSG2 HSG4
      have HB := HB'
      have HD := HD'
      have HW := HW'
      have HG := HG'
      have HSG := HSG'
      have HSG2 := HSG2'
      have HSG4 := HSG4'
      clear HB' HD' HW' HG' HSG' HSG2' HSG4'
      clear hb16
      go_wp2
      go_ret
      exact ⟨rfl, HB.out⟩
  · go_enter Tryd.func5, Tryd.ntmps5
    go_wp2_with fail
    refine (szDesk_no r p q t l.length cap ws.length cap2 s.length cap3 _ hn (by omega) (by omega) (by omega)).mono ?_
    rintro e w1 ⟨rfl, hb1⟩
    have HB1 := hideIt (Bstep HB.out hb1)
    go_wp2
    go_ret
    exact ⟨rfl, HB1.out⟩
end Go.Proofs.YtficnhlkefpfnaaDoor

namespace Go.Proofs.YtficnhlkefpfnaaDoor
open Go.ChangeShapes Go.WideShapes Go.ChangeAt Go.RowKit Go.Joins

set_option maxRecDepth 100000 in
theorem fnExactDeskPull_lifted (os : Os) (started : os.Started) (H : Type) (enc : TypeId × Value → H) :
    ReturnsInHanded {} Tryd.checked os 5 .any (fun w args => (Rows.fnExactDeskPullSpec.pre enc Tryd.prog Tryd.f5 [] false w args ∧ laidMetH Tryd.prog laid1 w) ∧ sizedMet enc Tryd.prog Tryd.f5 (OpenSpec.ofChange Rows.fnExactDeskPullSpec) false w args)
      (Rows.fnExactDeskPullSpec.post enc Tryd.prog Tryd.f5 false true false false) := by
  refine returnsInHanded_of_change_and (C := Tryd.checked) (X := fun w _ => laidMetH Tryd.prog laid1 w) (fun _ _ _ hh h => h.of_heap hh) own started (by kernel_rfl) Tryd.func5
    (ChangeSpec.witness_shaped (enc := enc) (C := Tryd.checked) (os := os) (X := fun w _ => laidMetH Tryd.prog laid1 w) false (World.doorLaid Tryd.prog 28 os) #[.agg #[.int .i64 0, .slice none 0 0, .slice none 0 0, .slice none 0 0]] 8 rfl (World.shaped_of_RefB (by kernel_rfl) (by kernel_rfl)) (by kernel_rfl) (by kernel_rfl) (by kernel_rfl) (door_met os _)) ?_
  intro W base args ds gs before hval0 hW _ _ hL _
  have hval : ∀ (j : Nat) t v, Tryd.f5.params[j]? = some t → args[j]? = some v → Value.okWide Tryd.prog W .any base t v := hval0
  have hW' := hW
  obtain ⟨p, q, hA0, hV0, rfl, hfz, hnd⟩ := hW
  have hA : DataW.TrodAll enc Tryd.prog W 0 (fun _ => true) true Tryd.f5.params.toList args.toList ds p := hA0
  have hV : DataW.TrodVars enc Tryd.prog W (fun _ => true) [errName] gs q := hV0
  rw [Tryd.params5] at hA hval
  obtain ⟨v0, d0, rfl, rfl, h0⟩ := trodAll_one hA
  have kk0 := h0
  have lt0 : ∀ x ∈ p, x.block < W.heap.size := by obtain ⟨m, hm⟩ := kk0; exact DataW.trod_lt m _ _ _ hm
  obtain ⟨x, hv, hc, hpos⟩ := of_laid hL
  obtain ⟨rfl, rfl⟩ := hV.unique (vars_read1 enc gErr tErr Tryd.underlying120 hv trivial _)
  obtain ⟨rp0, pa0, l0, cap0, pb0, m0, capb0, pc0, s0, capc0, rfl, ⟨hcap0, hmax0, hargs0⟩, ⟨hcapb0, hmaxb0, hargsb0⟩, ⟨hcapc0, hmaxc0, hargsc0⟩⟩ := open_desk (hval 0 35 v0 rfl rfl) h0
  clear hA0 hV0 hval0
  refine (walkDeskPull rp0 l0 pa0 cap0 m0 pb0 capb0 s0 pc0 capc0 x W hargs0 hcap0 hmax0 hargsb0 hcapb0 hmaxb0 hargsc0 hcapc0 hmaxc0 hc hpos).mono fun e W' ⟨he, bel⟩ => ?_
  subst he
  exact ⟨_, rfl, _, _, _, [], p, [.cell 0 0], hW', trodAll_mk1 (shut_bool Tryd.underlying4 _), trodAll_mk1 (Below.trod laidOut (by kernel_rfl) (of_decide_eq_true (by kernel_rfl)) kk0 bel lt0), vars_read1 enc gErr tErr Tryd.underlying120 (var_kept bel hpos hv) trivial _, bel.frame _, fun h => by cases h⟩

theorem fnExactDeskPull_row : Rows.FnExactDeskPullSaid :=
  OpenClaim.holds_of_wide 5 Tryd.f5 rfl rfl rfl rfl rfl rfl rfl ⟨rfl, rfl, rfl, rfl, rfl⟩ rfl rfl rfl rfl rfl (by kernel_rfl) Tryd.func5 (by kernel_rfl)
    (of_decide_eq_true (by kernel_rfl)) (by unfold Func.isWrapper; first | (rw [if_pos (by decide +kernel)]; kernel_rfl) | (rw [if_neg (by decide +kernel)]; exact ⟨rfl, rfl⟩))
    (fun os started H enc _ => fnExactDeskPull_lifted os started H enc)

/-- THE STATEMENT. -/
theorem fnExactDeskPull_holds : Rows.FnExactDeskPullCardSaid :=
  Claim7.holds_tied_plain_at .later [] Rows.fnExactDeskPullCard.laidKinds true Rows.fnExactDeskPullCard.stood.harness true
    fnExactDeskPull_row (fun _ h => by cases h) (by kernel_rfl) (fun _ h => by cases h) fnExactDeskPull_row_tie rfl ⟨rfl, rfl⟩ (by kernel_rfl) rfl
    (fun f fn hf hfn => by
      obtain rfl : f = 5 := Option.some.inj ((show Tryd.prog.funcNamed Rows.fnExactDeskPullRow.func = some 5 by kernel_rfl).symm.trans hf) |>.symm
      obtain rfl : fn = Tryd.f5 := (Option.some.inj (Tryd.func5.symm.trans hfn)).symm
      exact ⟨by kernel_rfl, fun j t ht => by
        rw [Tryd.params5] at ht
        have hm : t ∈ [35] := by simpa using Array.mem_of_getElem? ht
        have hall : ([35].all fun u => !Tryd.prog.wantsStandIn u) = true := by kernel_rfl
        exact (show Tryd.prog.wantsStandIn t = false by simpa using List.all_eq_true.1 hall t hm)⟩)
    (by kernel_rfl)
#print axioms fnExactDeskPull_holds
end Go.Proofs.YtficnhlkefpfnaaDoor
