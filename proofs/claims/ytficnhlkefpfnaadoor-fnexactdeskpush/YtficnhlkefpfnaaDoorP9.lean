/- The contract of the program's OpsPast. -/
import Derived.Test.YtficnhlkefpfnaaDoorP8
import Derived.Test.YtficnhlkefpfnaaDoorP7
import Derived.Test.YtficnhlkefpfnaaDoorP2
import Derived.Test.YtficnhlkefpfnaaDoorP3
import Derived.Test.YtficnhlkefpfnaaDoorP0
import Derived.BigQuiet
import Derived.WalkSmall
import Derived.Deep.RegionHeld3
import Derived.Test.YtficnhlkefpfnaaDoorP1
import Derived.RangeFuncBox
import Derived.Laws.CopyOwn
import Derived.OwnWalk
namespace Go.Proofs.YtficnhlkefpfnaaDoor
open Go.RowKit
set_option linter.unusedSimpArgs false
set_option linter.unusedVariables false
attribute [local go_sem ↓] Go.wp_at_zero Go.wp_at_succ

/-- A desk that is ok. -/
def deskB (r : Int) (l ws : List Op7) (s : List Int) : Bool := inB r 1 3 && (docB l ws && (vecB s && ws.all (fun o => !(o.a == r))))
theorem own_no {r : Int} {ws : List Op7} {k : Nat} (hk : k < ws.length) (h : ws[k].a = r) : (ws.all fun o => !(o.a == r)) = false := by
  rw [List.all_eq_false]
  exact ⟨ws[k], List.getElem_mem hk, by simp [h]⟩
theorem own_all {r : Int} {ws : List Op7} (h : ∀ j (hj : j < ws.length), ¬ ws[j].a = r) : (ws.all fun o => !(o.a == r)) = true := by
  rw [List.all_eq_true]
  intro x hx
  obtain ⟨j, hj, rfl⟩ := List.getElem_of_mem hx
  simp [h j hj]

set_option maxRecDepth 100000 in
set_option maxHeartbeats 2000000 in
theorem specDesk_any (r : Int) (l ws : List Op7) (s : List Int) (g cap g2 cap2 g3 cap3 : Nat) (w : World) (hl : OpsAt w g l) (hn : l.length ≤ 1048576) (hcap : l.length ≤ cap) (hs : OpsAt w g2 ws) (hn2 : ws.length ≤ 1048576) (hcap2 : ws.length ≤ cap2) (hi : IntsAt w g3 s) (hn3 : s.length ≤ 1048576) (hcap3 : s.length ≤ cap3) :
    Calls Tryd.prog 21 #[.agg #[.int .i64 r, .slice (some ⟨g, 0, none⟩) l.length cap, .slice (some ⟨g2, 0, none⟩) ws.length cap2, .slice (some ⟨g3, 0, none⟩) s.length cap3]] w fun e w' => e = .returned (.bool (deskB r l ws s)) ∧ Below w.heap.size w w' := by
  have HL := hideIt hl
  have HS := hideIt hs
  have HI := hideIt hi
  have hgw := hl.1
  have hgs := hs.1
  have hgi := hi.1
  clear hl hs hi
  have hB0 : Below w.heap.size w (w.alloc (.cells #[.int .i64 r, .slice (some ⟨g, 0, none⟩) l.length cap, .slice (some ⟨g2, 0, none⟩) ws.length cap2, .slice (some ⟨g3, 0, none⟩) s.length cap3] 41)) := (Below.refl _ _).alloc (Nat.le_refl _) _
  have hD0 : (w.alloc (.cells #[.int .i64 r, .slice (some ⟨g, 0, none⟩) l.length cap, .slice (some ⟨g2, 0, none⟩) ws.length cap2, .slice (some ⟨g3, 0, none⟩) s.length cap3] 41)).heap[w.heap.size]? = some (.cells #[.int .i64 r, .slice (some ⟨g, 0, none⟩) l.length cap, .slice (some ⟨g2, 0, none⟩) ws.length cap2, .slice (some ⟨g3, 0, none⟩) s.length cap3] 41 (0, 0)) := World.alloc_heap_new _ _
  have HB0 := hideIt hB0
  have HD0 := hideIt hD0
  clear hB0 hD0
  have hdk : deskB r l ws s = (inB r 1 3 && (docB l ws && (vecB s && ws.all (fun o => !(o.a == r))))) := rfl
  have HK := hideIt hdk
  clear hdk
  have facts : ∀ W : World, W.heap[w.heap.size]? = some (.cells #[.int .i64 r, .slice (some ⟨g, 0, none⟩) l.length cap, .slice (some ⟨g2, 0, none⟩) ws.length cap2, .slice (some ⟨g3, 0, none⟩) s.length cap3] 41 (0, 0)) → W.cell? ⟨w.heap.size, 0, none⟩ = some (.int .i64 r) ∧ W.cell? ⟨w.heap.size, 1, none⟩ = some (.slice (some ⟨g, 0, none⟩) l.length cap) ∧ W.cell? ⟨w.heap.size, 2, none⟩ = some (.slice (some ⟨g2, 0, none⟩) ws.length cap2) ∧ W.cell? ⟨w.heap.size, 3, none⟩ = some (.slice (some ⟨g3, 0, none⟩) s.length cap3) := fun W h => ⟨(blk_cell h 0).trans rfl, (blk_cell h 1).trans rfl, (blk_cell h 2).trans rfl, (blk_cell h 3).trans rfl⟩
  have HF := hideIt facts
  clear facts
  cases hr : inB r 1 3
  all_goals
    have HR := hideIt hr
    clear hr
    go_enter Tryd.func21, Tryd.ntmps21
    go_wp2_with fail
    refine (l6In_any r 1 3 _).mono ?_
    rintro e w1 ⟨rfl, hw1⟩
    rw [hw1, HR.out]
    clear hw1
  · go_wp2
    go_ret
    exact ⟨ret_bool (by rw [HK.out, HR.out]; rfl), HB0.out⟩
  · go_wp2_with fail
    refine (specDoc_any l ws g cap g2 cap2 _ (HL.out.below HB0.out hgw) hn hcap (HS.out.below HB0.out hgs) hn2 hcap2).mono ?_
    rintro e w2 ⟨rfl, hb2⟩
    have HB2 := hideIt (Bstep HB0.out hb2)
    have HD2 := hideIt (blk_below HD0.out hb2)
    clear hb2 HB0 HD0
    obtain ⟨d0, d1, d2, d3⟩ := HF.out _ HD2.out
    have dl := (Array.getElem?_eq_some_iff.1 HD2.out).1
    cases hd : docB l ws
    all_goals
      have HDC := hideIt hd
      clear hd
    · go_wp2
      go_ret
      exact ⟨ret_bool (by rw [HK.out, HDC.out]; simp), HB2.out⟩
    · go_wp2_with fail
      refine (specVec_any s g3 cap3 _ (HI.out.below HB2.out hgi) hn3 hcap3).mono ?_
      rintro e w3 ⟨rfl, hb3⟩
      have HB3 := hideIt (Bstep HB2.out hb3)
      have HD3 := hideIt (blk_below HD2.out hb3)
      clear hb3 HB2 HD2 d0 d1 d2 d3 dl
      cases hv : vecB s
      all_goals
        have HV := hideIt hv
        clear hv
      · go_wp2
        go_ret
        exact ⟨ret_bool (by rw [HK.out, HV.out]; simp), HB3.out⟩
      · go_wp2
        go_loopw [3] (fun i wr => ∃ k : Nat, k ≤ ws.length ∧ i = .int .i64 k ∧ (∀ j (hj : j < ws.length), j < k → ¬ ws[j].a = r) ∧ wr.heap[w.heap.size]? = some (.cells #[.int .i64 r, .slice (some ⟨g, 0, none⟩) l.length cap, .slice (some ⟨g2, 0, none⟩) ws.length cap2, .slice (some ⟨g3, 0, none⟩) s.length cap3] 41 (0, 0)) ∧ Below w.heap.size w wr) (fun i _ => ws.length - (intOf i).toNat)
        case atStart => exact ⟨0, Nat.zero_le _, rfl, fun j hj h => by omega, HD3.out, HB3.out⟩
        case round =>
          clear HB3 HD3
          obtain ⟨k, hk, rfl, hall, hD, hB⟩ := hrel
          have HB := hideIt hB
          have HD := hideIt hD
          have HA := hideIt hall
          clear hB hD hall
          obtain ⟨d0, d1, d2, d3⟩ := HF.out _ HD.out
          have dl := (Array.getElem?_eq_some_iff.1 HD.out).1
          by_cases hlt : k < ws.length
          · have hlt' : (k : Int) < (ws.length : Int) := by omega
            have hk0 : (0 : Int) ≤ (k : Int) := by omega
            obtain ⟨y0, y1, y2, y3, y4, y5, y6⟩ := (HS.out.below HB.out hgs).2 k ws[k] (by simp [hlt])
            have hbad : Hid (ws[k].a = r → (ws.all fun o => !(o.a == r)) = false) := own_no hlt
            have hnext : Hid (¬ ws[k].a = r → ∀ j (hj : j < ws.length), j < k + 1 → ¬ ws[j].a = r) := fun h j hj hj1 => by
              rcases Nat.lt_or_ge j k with h1 | h1
              · exact HA.out j hj h1
              · obtain rfl : j = k := by omega
                exact h
            generalize ws[k] = o at *
            by_cases ha : o.a = r
            · have HW := hideIt (hbad.out ha)
              clear hbad hnext
              go_wp2
              go_quiet (fail)
              go_wp2
              go_ret
              exact ⟨ret_bool (by rw [HK.out, HR.out, HDC.out, HV.out, HW.out]; rfl), below_drewN HB.out _⟩
            · have HN := hideIt (hnext.out ha)
              clear hbad hnext
              go_wp2
              go_quiet (fail)
              go_wp2
              exact ⟨⟨k + 1, by omega, by go_num, HN.out, HD.out, below_drewN HB.out _⟩, by simp [intOf]; omega⟩
          · obtain rfl : k = ws.length := by omega
            have HW := hideIt (own_all (ws := ws) (r := r) fun j hj => HA.out j hj hj)
            go_wp2
            go_ret
            exact ⟨ret_bool (by rw [HK.out, HR.out, HDC.out, HV.out, HW.out]; rfl), HB.out⟩
end Go.Proofs.YtficnhlkefpfnaaDoor

namespace Go.Proofs.YtficnhlkefpfnaaDoor
open Go.RowKit
set_option linter.unusedSimpArgs false
set_option linter.unusedVariables false
attribute [local go_sem ↓] Go.wp_at_zero Go.wp_at_succ

set_option maxRecDepth 100000 in
set_option maxHeartbeats 1000000 in
theorem indexOwn_any (ws : List Op7) (g2 cap2 b : Nat) (u v z : Value) (r : Int) (w : World) (hs : OpsAt w g2 ws) (hn2 : ws.length ≤ 1048576) (hcap2 : ws.length ≤ cap2) (hw : WorkAt w b u v r z) :
    Calls Tryd.prog 102 #[.slice (some ⟨g2, 0, none⟩) ws.length cap2, .func (.func 68) #[.pointer (some ⟨b, 0, none⟩)] #[]] w fun e w' => (∃ i : Int, e = .returned (.int .i64 i) ∧ decide (0 ≤ i) = !(ws.all fun o => !(o.a == r))) ∧ Below w.heap.size w w' := by
  have HS := hideIt hs
  have HW := hideIt hw
  have hgs := hs.1
  clear hs hw
  go_enter Tryd.func102, Tryd.ntmps102
  go_wp2
  go_loopw [5, 8] (fun u0 i wr => ∃ k : Nat, k ≤ ws.length ∧ i = .int .i64 k ∧ (∀ j (hj : j < ws.length), j < k → ¬ ws[j].a = r) ∧ Below w.heap.size w wr) (fun _ i _ => ws.length - (intOf i).toNat)
  case atStart => exact ⟨0, Nat.zero_le _, rfl, fun j hj h => by omega, by go_grown⟩
  case round =>
    obtain ⟨k, hk, rfl, hall, hB⟩ := hrel
    have HB := hideIt hB
    have HA := hideIt hall
    clear hB hall
    by_cases hlt : k < ws.length
    · have hlt' : (k : Int) < (ws.length : Int) := by omega
      have hk0 : (0 : Int) ≤ (k : Int) := by omega
      obtain ⟨y0, y1, y2, y3, y4, y5, y6⟩ := (HS.out.below HB.out hgs).2 k ws[k] (by simp [hlt])
      have hbad : Hid (ws[k].a = r → (ws.all fun o => !(o.a == r)) = false) := own_no hlt
      have hnext : Hid (¬ ws[k].a = r → ∀ j (hj : j < ws.length), j < k + 1 → ¬ ws[j].a = r) := fun h j hj hj1 => by
        rcases Nat.lt_or_ge j k with h1 | h1
        · exact HA.out j hj h1
        · obtain rfl : j = k := by omega
          exact h
      generalize ws[k] = o at *
      go_wp2_with fail
      refine (isOwn_any b o u v z r _ (WorkAt.keep HW.out HB.out)).mono ?_
      rintro e w2 ⟨rfl, hb2⟩
      have HB2 := hideIt (Bstep HB.out hb2)
      clear hb2 y0 y1 y2 y3 y4 y5 y6
      by_cases ha : o.a = r
      · have HE := hideIt (hbad.out ha)
        have hq : (o.a == r) = true := by simp [ha]
        rw [hq]
        clear hq ha hbad hnext
        go_wp2
        go_ret
        exact ⟨⟨k, rfl, by rw [HE.out]; simp⟩, HB2.out⟩
      · have HN := hideIt (hnext.out ha)
        have hq : (o.a == r) = false := by simp [ha]
        rw [hq]
        clear hq ha hbad hnext
        go_wp2
        exact ⟨⟨k + 1, by omega, by go_num, HN.out, HB2.out⟩, by simp [intOf]; omega⟩
    · obtain rfl : k = ws.length := by omega
      have HE := hideIt (own_all (ws := ws) (r := r) fun j hj => HA.out j hj hj)
      go_wp2
      go_ret
      exact ⟨⟨-1, rfl, by rw [HE.out]; rfl⟩, HB.out⟩
set_option maxRecDepth 100000 in
theorem hasOwn_any (ws : List Op7) (g2 cap2 b : Nat) (u v z : Value) (r : Int) (w : World) (hs : OpsAt w g2 ws) (hn2 : ws.length ≤ 1048576) (hcap2 : ws.length ≤ cap2) (hw : WorkAt w b u v r z) :
    Calls Tryd.prog 67 #[.slice (some ⟨g2, 0, none⟩) ws.length cap2, .func (.func 68) #[.pointer (some ⟨b, 0, none⟩)] #[]] w fun e w' => e = .returned (.bool (!(ws.all fun o => !(o.a == r)))) ∧ Below w.heap.size w w' := by
  have HS := hideIt hs
  have HW := hideIt hw
  clear hs hw
  go_enter Tryd.func67, Tryd.ntmps67
  go_wp2_with fail
  refine (indexOwn_any ws g2 cap2 b u v z r _ HS.out hn2 hcap2 HW.out).mono ?_
  rintro e w1 ⟨⟨i, rfl, hi⟩, hb1⟩
  have HB := hideIt hb1
  clear hb1
  go_wp2
  go_ret
  first | exact ⟨ret_bool hi, HB.out⟩ | exact ⟨rfl, HB.out⟩
end Go.Proofs.YtficnhlkefpfnaaDoor

namespace Go.Proofs.YtficnhlkefpfnaaDoor
open Go.RowKit
set_option linter.unusedSimpArgs false
set_option linter.unusedVariables false
attribute [local go_sem ↓] Go.wp_at_zero Go.wp_at_succ

set_option maxRecDepth 100000 in
set_option maxHeartbeats 2000000 in
theorem implDesk_any (r : Int) (l ws : List Op7) (s : List Int) (g cap g2 cap2 g3 cap3 : Nat) (x : Addr) (w : World) (hl : OpsAt w g l) (hn : l.length ≤ 1048576) (hcap : l.length ≤ cap) (hs : OpsAt w g2 ws) (hn2 : ws.length ≤ 1048576) (hcap2 : ws.length ≤ cap2) (hi : IntsAt w g3 s) (hn3 : s.length ≤ 1048576) (hcap3 : s.length ≤ cap3)
    (he : w.cell? ⟨0, 0, none⟩ = some (.iface 200 (.pointer (some x)))) (h0 : 0 < w.heap.size) :
    Calls Tryd.prog 23 #[.agg #[.int .i64 r, .slice (some ⟨g, 0, none⟩) l.length cap, .slice (some ⟨g2, 0, none⟩) ws.length cap2, .slice (some ⟨g3, 0, none⟩) s.length cap3]] w fun e w' => e = .returned (.bool (deskB r l ws s)) ∧ Below w.heap.size w w' := by
  have HL := hideIt hl
  have HS := hideIt hs
  have HI := hideIt hi
  have hgw := hl.1
  have hgs := hs.1
  have hgi := hi.1
  clear hl hs hi
  have hB0 : Below w.heap.size w (w.alloc (.cells #[.int .i64 r, .slice (some ⟨g, 0, none⟩) l.length cap, .slice (some ⟨g2, 0, none⟩) ws.length cap2, .slice (some ⟨g3, 0, none⟩) s.length cap3] 41)) := (Below.refl _ _).alloc (Nat.le_refl _) _
  have HB0 := hideIt hB0
  clear hB0
  have hdk : deskB r l ws s = (inB r 1 3 && (docB l ws && (vecB s && ws.all (fun o => !(o.a == r))))) := rfl
  have HK := hideIt hdk
  clear hdk
  cases hr : inB r 1 3
  all_goals
    have HR := hideIt hr
    clear hr
    go_enter Tryd.func23, Tryd.ntmps23
    go_wp2_with fail
    refine (workOf_any r _ _ _ _ _ _ _ _ _ _).mono ?_
    rintro e w1 ⟨b, rfl, hb, hW1, hb1⟩
    have HW1 := hideIt hW1
    have HB1 := hideIt (Bstep HB0.out hb1)
    clear hW1 hb1 HB0
    obtain ⟨c0, c1, c2, c3⟩ := HW1.out.cells
    have cl := (Array.getElem?_eq_some_iff.1 HW1.out).1
    go_wp2_with fail
    refine (repI_any r _).mono ?_
    rintro e w2 ⟨rfl, hb2⟩
    rw [HR.out]
    have HW2 := hideIt (HW1.out.below hb2)
    have HB2 := hideIt (Bstep HB1.out hb2)
    clear hb2 HW1 HB1 c0 c1 c2 c3 cl
  · go_wp2
    go_ret
    exact ⟨ret_bool (by rw [HK.out, HR.out]; rfl), HB2.out⟩
  · obtain ⟨c0, c1, c2, c3⟩ := HW2.out.cells
    have cl := (Array.getElem?_eq_some_iff.1 HW2.out).1
    go_wp2_with fail
    refine (implVec_any s g3 cap3 _ (HI.out.below HB2.out hgi) hn3 hcap3).mono ?_
    rintro e w3 ⟨rfl, hb3⟩
    have HW3 := hideIt (HW2.out.below hb3)
    have HB3 := hideIt (Bstep HB2.out hb3)
    clear hb3 HW2 HB2 c0 c1 c2 c3 cl
    obtain ⟨c0, c1, c2, c3⟩ := HW3.out.cells
    have cl := (Array.getElem?_eq_some_iff.1 HW3.out).1
    cases hv : vecB s
    all_goals
      have HV := hideIt hv
      clear hv
    · go_wp2
      go_ret
      exact ⟨ret_bool (by rw [HK.out, HV.out]; simp), HB3.out⟩
    · go_wp2_with fail
      refine (implDoc_any l ws g cap g2 cap2 x _ (HL.out.below HB3.out hgw) hn hcap (HS.out.below HB3.out hgs) hn2 hcap2 (errB HB3.out h0 he) (posB HB3.out h0)).mono ?_
      rintro e w4 ⟨rfl, hb4⟩
      have HW4 := hideIt (HW3.out.below hb4)
      have HB4 := hideIt (Bstep HB3.out hb4)
      clear hb4 HW3 HB3 c0 c1 c2 c3 cl
      obtain ⟨c0, c1, c2, c3⟩ := HW4.out.cells
      have cl := (Array.getElem?_eq_some_iff.1 HW4.out).1
      cases hd : docB l ws
      all_goals
        have HDC := hideIt hd
        clear hd
      · go_wp2
        go_ret
        exact ⟨ret_bool (by rw [HK.out, HDC.out]; simp), HB4.out⟩
      · go_wp2_with fail
        refine (hasOwn_any ws g2 cap2 b _ _ _ r _ (HS.out.below HB4.out hgs) hn2 hcap2 HW4.out).mono ?_
        rintro e w5 ⟨rfl, hb5⟩
        have HB5 := hideIt (Bstep HB4.out hb5)
        clear hb5 HW4 HB4 c0 c1 c2 c3 cl
        go_wp2
        go_ret
        exact ⟨ret_bool (by rw [HK.out, HR.out, HDC.out, HV.out]; simp), HB5.out⟩
end Go.Proofs.YtficnhlkefpfnaaDoor

namespace Go.Proofs.YtficnhlkefpfnaaDoor
open Go.RowKit
set_option linter.unusedSimpArgs false
set_option linter.unusedVariables false

set_option maxHeartbeats 1000000 in
theorem implSeen_any (l : List Op7) (g cap : Nat) (x : Addr) (w : World) (hl : OpsAt w g l) (hn : l.length ≤ 1048576) (hcap : l.length ≤ cap)
    (he : w.cell? ⟨0, 0, none⟩ = some (.iface 200 (.pointer (some x)))) (h0 : 0 < w.heap.size) :
    Calls Tryd.prog 70 #[.slice (some ⟨g, 0, none⟩) l.length cap] w fun e w' =>
      ((opsB l = true ∧ ∃ G, w.heap.size ≤ G ∧ e = .returned (.slice (some ⟨G, 0, none⟩) 3 3) ∧ IntsAt w' G [cnt l 1, cnt l 2, cnt l 3] ∧ ∀ j, w'.frozen? ⟨G, j, none⟩ = false) ∨ (opsB l = false ∧ e = .returned (.slice none 0 0))) ∧ Below w.heap.size w w' := by
  have HL := hideIt hl
  clear hl
  go_enter Tryd.func70, Tryd.ntmps70
  go_wp2_with fail
  refine (things_any l g cap x _ HL.out hn hcap he h0).mono ?_
  rintro e w1 ⟨(⟨ht, M, hMM, rfl, hT⟩ | ⟨ht, rfl⟩), hb1⟩
  all_goals
    have HT := hideIt ((th_same l).symm.trans ht)
    have HB1 := hideIt hb1
    have herr1 : w1.cell? ⟨0, 0, none⟩ = some (.iface 200 (.pointer (some x))) := errB hb1 h0 he
    clear ht hb1
  · have HTT := hideIt hT
    have HOK := hideIt (opsB_parts HT.out).1
    clear hT hMM
    go_wp2_with (first | (go_at_call 98; refine (is_nil x _).mono ?_; rintro e w'' ⟨rfl, rfl⟩))
    refine (count_any l M l.length _ HTT.out hn (Nat.le_refl _) HOK.out).mono ?_
    rintro e w2 ⟨rfl, hse, hfz, hb2⟩
    have HSE := hideIt hse
    have HF := hideIt hfz
    have HB2 := hideIt (Bstep HB1.out hb2)
    clear hse hfz hb2
    go_wp2
    go_ret
    exact ⟨.inl ⟨HT.out, _, HB1.out.size, rfl, HSE.out, HF.out⟩, HB2.out⟩
  · go_wp2_with (first | (go_at_call 98; refine (is_same x _).mono ?_; rintro e w'' ⟨rfl, rfl⟩))
    go_ret
    exact ⟨.inr ⟨HT.out, rfl⟩, HB1.out⟩
end Go.Proofs.YtficnhlkefpfnaaDoor

namespace Go.Proofs.YtficnhlkefpfnaaDoor
open Go.RowKit
set_option linter.unusedSimpArgs false
set_option linter.unusedVariables false

theorem eqIntS_none (p q : Option Addr) (c1 c2 : Nat) (w : World) :
    Calls Tryd.prog 38 #[.slice p 0 c1, .slice q 0 c2] w fun e w' => e = .returned (.bool true) ∧ w' = w := by
  go_enter Tryd.func38, Tryd.ntmps38
  go_wp2
  refine wp_loop_rounds 1 ?_
  rw [rounds_succ]
  go_wp2
  go_ret
  exact ⟨rfl, rfl⟩
theorem heldIntS_none (p : Option Addr) (c : Nat) (w : World) :
    Calls Tryd.prog 71 #[.slice p 0 c, .int .i64 1] w fun e w' => e = .returned (.int .i64 1) ∧ w' = w := by
  go_enter Tryd.func71, Tryd.ntmps71
  go_wp2
  refine wp_loop_rounds 1 ?_
  rw [rounds_succ]
  go_wp2
  go_ret
  exact ⟨rfl, rfl⟩
theorem markIntS_none (p : Option Addr) (c : Nat) (w : World) :
    Calls Tryd.prog 39 #[.slice p 0 c, .int .i64 1] w fun e w' => e = .returned (.int .i64 1) ∧ w' = w := by
  go_enter Tryd.func39, Tryd.ntmps39
  go_wp2
  refine wp_loop_rounds 1 ?_
  rw [rounds_succ]
  go_wp2
  go_ret
  exact ⟨rfl, rfl⟩
set_option maxHeartbeats 1000000 in
theorem eqIntS_same (xs : List Int) (g1 g2 cap1 cap2 : Nat) (w : World) (hl1 : IntsAt w g1 xs) (hl2 : IntsAt w g2 xs) (hn : xs.length ≤ 1048576) (hcap1 : xs.length ≤ cap1) (hcap2 : xs.length ≤ cap2) :
    Calls Tryd.prog 38 #[.slice (some ⟨g1, 0, none⟩) xs.length cap1, .slice (some ⟨g2, 0, none⟩) xs.length cap2] w fun e w' => e = .returned (.bool true) ∧ Below w.heap.size w w' := by
  go_enter Tryd.func38, Tryd.ntmps38
  go_wp2
  go_loopw [5] (fun i wr => ∃ k : Nat, k ≤ xs.length ∧ i = .int .i64 k ∧ Below w.heap.size w wr)
    (fun i _ => xs.length - (intOf i).toNat)
  case atStart => exact ⟨0, Nat.zero_le _, rfl, by go_grown⟩
  case round =>
    obtain ⟨k, hk, rfl, hB⟩ := hrel
    have HB : Hid (Below w.heap.size w wr) := hB
    by_cases hlt : k < xs.length
    · have j1 := (hl1.below hB hl1.1).2 k xs[k] (by simp [hlt])
      have j2 := (hl2.below hB hl2.1).2 k xs[k] (by simp [hlt])
      generalize xs[k] = x at *
      have hlt' : (k : Int) < (xs.length : Int) := by omega
      have hk0 : (0 : Int) ≤ (k : Int) := by omega
      clear hB hl1 hl2
      go_wp2
      go_quiet (fail)
      go_wp2
      exact ⟨⟨k + 1, by omega, by go_num, below_drewN HB.out _⟩, by simp [intOf]; omega⟩
    · clear hB hl1 hl2
      go_wp2
      go_ret
      exact ⟨rfl, HB.out⟩
theorem held3 (g cap : Nat) (w : World) (hl : IntsAt w g [1, 2, 3]) :
    Calls Tryd.prog 71 #[.slice (some ⟨g, 0, none⟩) 3 3, .int .i64 1] w fun e w' => e = .returned (.int .i64 4) ∧ w' = w := by
  have h0 := hl.2 0 _ rfl
  have h1 := hl.2 1 _ rfl
  have h2 := hl.2 2 _ rfl
  clear hl
  go_enter Tryd.func71, Tryd.ntmps71
  go_wp2
  go_rounds 4
  go_ret
  exact ⟨rfl, rfl⟩
theorem mark3 (g : Nat) (x1 x2 x3 : Int) (w : World) (hl : IntsAt w g [x1, x2, x3]) (hf : ∀ j, w.frozen? ⟨g, j, none⟩ = false) :
    Calls Tryd.prog 39 #[.slice (some ⟨g, 0, none⟩) 3 3, .int .i64 1] w fun e w' => e = .returned (.int .i64 4) ∧ w' = ((w.setCell ⟨g, 0, none⟩ (.int .i64 1)).setCell ⟨g, 1, none⟩ (.int .i64 2)).setCell ⟨g, 2, none⟩ (.int .i64 3) := by
  have h0 := hl.2 0 _ rfl
  have h1 := hl.2 1 _ rfl
  have h2 := hl.2 2 _ rfl
  clear hl
  go_enter Tryd.func39, Tryd.ntmps39
  go_wp2
  go_rounds 4
  go_ret
  exact ⟨rfl, rfl⟩
/-- But for one block nothing has turned. -/
structure OnlyBlk (g : Nat) (w w' : World) : Prop where
  os : w'.os = w.os
  tape : w'.tape = w.tape
  output : w'.output = w.output
  size : w'.heap.size = w.heap.size
  block : ∀ k, k ≠ g → w'.heap[k]? = w.heap[k]?
theorem OnlyBlk.refl (g : Nat) (w : World) : OnlyBlk g w w := ⟨rfl, rfl, rfl, rfl, fun _ _ => rfl⟩
theorem OnlyBlk.setCell {g : Nat} {w w' : World} (h : OnlyBlk g w w') (j : Nat) (u : Value) : OnlyBlk g w (w'.setCell ⟨g, j, none⟩ u) :=
  ⟨h.os, h.tape, h.output, by simp [h.size], fun k hk => by rw [Below.heap_setCell _ _ _ _ hk]; exact h.block k hk⟩
theorem OnlyBlk.below {g B : Nat} {w w' : World} (h : OnlyBlk g w w') (hB : B ≤ g) : Below B w w' :=
  ⟨h.os, h.tape, h.output, by rw [h.size]; exact Nat.le_refl _, fun k hk => h.block k (by omega)⟩
theorem OnlyBlk.ints {g b : Nat} {w w' : World} {xs : List Int} (h : OnlyBlk g w w') (hb : b ≠ g) (hl : IntsAt w b xs) : IntsAt w' b xs := by
  refine ⟨by rw [h.size]; exact hl.1, fun i x hx => ?_⟩
  have e : w'.cell? ⟨b, i, none⟩ = w.cell? ⟨b, i, none⟩ := by simp [World.cell?, h.block b hb]
  rw [e]; exact hl.2 i x hx
/-- A block of things that may be written. -/
def Blk (w : World) (g n : Nat) : Prop := ∃ cur : Array Value, w.heap[g]? = some (.cells cur 71 (0, 0)) ∧ cur.size = n * 7
theorem Blk.setCell {w : World} {g n : Nat} (h : Blk w g n) (j : Nat) (u : Value) : Blk (w.setCell ⟨g, j, none⟩ u) g n := by
  obtain ⟨cur, h1, h2⟩ := h
  exact ⟨_, heap_setCell_same w g j cur 71 u h1, by simpa using h2⟩
theorem Blk.frozen {w : World} {g n : Nat} (h : Blk w g n) (j : Nat) : w.frozen? ⟨g, j, none⟩ = false := by
  obtain ⟨cur, h1, _⟩ := h
  simp [World.frozen?, h1]
theorem Blk.cell {w : World} {g n : Nat} (h : Blk w g n) (j : Nat) (hj : j < n * 7) : ∃ u, w.cell? ⟨g, j, none⟩ = some u := by
  obtain ⟨cur, h1, h2⟩ := h
  exact ⟨cur[j]'(by omega), by simp [World.cell?, h1]⟩

set_option maxHeartbeats 2000000 in
theorem markOpS_any (g n cap : Nat) (w : World) (hl : Blk w g n) (hn : n ≤ 1048576) (hcap : n ≤ cap) :
    Calls Tryd.prog 18 #[.slice (some ⟨g, 0, none⟩) n cap, .int .i64 1] w fun e w' => e = .returned (.int .i64 (1 + 7 * n)) ∧ OnlyBlk g w w' := by
  have HL := hideIt hl
  clear hl
  go_enter Tryd.func18, Tryd.ntmps18
  go_wp2
  go_loopw [1, 5] (fun m i wr => ∃ k : Nat, k ≤ n ∧ i = .int .i64 k ∧ m = .int .i64 (1 + 7 * k) ∧ Blk wr g n ∧ OnlyBlk g w wr)
    (fun _ i _ => n - (intOf i).toNat)
  case atStart => exact ⟨0, Nat.zero_le _, rfl, rfl, HL.out, OnlyBlk.refl _ _⟩
  case round =>
    obtain ⟨k, hk, rfl, rfl, hb, ho⟩ := hrel
    have HBK := hideIt hb
    have HO := hideIt ho
    clear ho
    by_cases hlt : k < n
    · have hfz : ∀ j, wr.frozen? ⟨g, j, none⟩ = false := fun j => hb.frozen j
      obtain ⟨u0, e0⟩ := hb.cell (k * 7) (by omega)
      obtain ⟨v1, e1⟩ := hb.cell (k * 7 + 1) (by omega)
      obtain ⟨v2, e2⟩ := hb.cell (k * 7 + 2) (by omega)
      obtain ⟨v3, e3⟩ := hb.cell (k * 7 + 3) (by omega)
      obtain ⟨v4, e4⟩ := hb.cell (k * 7 + 4) (by omega)
      obtain ⟨v5, e5⟩ := hb.cell (k * 7 + 5) (by omega)
      obtain ⟨v6, e6⟩ := hb.cell (k * 7 + 6) (by omega)
      have hlt' : (k : Int) < (n : Int) := by omega
      have hk0 : (0 : Int) ≤ (k : Int) := by omega
      clear hb
      go_wp2
      exact ⟨⟨k + 1, by omega, by go_num, by go_num, ((((((HBK.out.setCell _ _).setCell _ _).setCell _ _).setCell _ _).setCell _ _).setCell _ _).setCell _ _, ((((((HO.out.setCell _ _).setCell _ _).setCell _ _).setCell _ _).setCell _ _).setCell _ _).setCell _ _⟩, by simp [intOf]; omega⟩
    · obtain rfl : k = n := by omega
      clear hb
      go_wp2
      go_ret
      exact ⟨rfl, HO.out⟩
end Go.Proofs.YtficnhlkefpfnaaDoor

namespace Go.Proofs.YtficnhlkefpfnaaDoor
open Go.RowKit
set_option linter.unusedSimpArgs false
set_option linter.unusedVariables false

/-- Numbers that came in, from an offset on. -/
def NumsAt (w : World) (b off : Nat) (xs : List Int) : Prop := b < w.heap.size ∧ ∀ (i : Nat) (x : Int), xs[i]? = some x → w.cell? ⟨b, off + i, none⟩ = some (.int .i64 x)
theorem NumsAt.below {w w' : World} {g off B : Nat} {l : List Int} (h : NumsAt w g off l) (hb : Below B w w') (hB : g < B) : NumsAt w' g off l :=
  ⟨Nat.lt_of_lt_of_le h.1 hb.size, fun i x hx => (hb.cell (p := ⟨g, _, none⟩) hB).trans (h.2 i x hx)⟩
def ArgInts (w : World) (p : Option Addr) (l : List Int) : Prop := l = [] ∨ ∃ b off, p = some ⟨b, off, none⟩ ∧ NumsAt w b off l
theorem ArgInts.below {w w' : World} {p : Option Addr} {l : List Int} (h : ArgInts w p l) (hb : Below w.heap.size w w') : ArgInts w' p l := by
  rcases h with h | ⟨b, off, h1, h2⟩
  · exact .inl h
  · exact .inr ⟨b, off, h1, h2.below hb h2.1⟩
/-- A block of numbers that may be written; the first k are there already. -/
def IFill (w : World) (B k : Nat) (l : List Int) : Prop := ∃ cur : Array Value, w.heap[B]? = some (.cells cur 3 (0, 0)) ∧ cur.size = l.length ∧ ∀ (i : Nat) (x : Int), l[i]? = some x → i < k → cur[i]? = some (.int .i64 x)
def IBlk (w : World) (g n : Nat) : Prop := ∃ cur : Array Value, w.heap[g]? = some (.cells cur 3 (0, 0)) ∧ cur.size = n
theorem IFill.blk {w : World} {g k : Nat} {l : List Int} (h : IFill w g k l) : IBlk w g l.length := by
  obtain ⟨cur, h1, h2, _⟩ := h
  exact ⟨cur, h1, h2⟩
theorem IBlk.below {w w' : World} {g n B : Nat} (h : IBlk w g n) (hb : Below B w w') (hB : g < B) : IBlk w' g n := by
  obtain ⟨cur, h1, h2⟩ := h
  exact ⟨cur, (hb.block g hB).trans h1, h2⟩
theorem IBlk.only {w w' : World} {g b n : Nat} (h : IBlk w b n) (ho : OnlyBlk g w w') (hb : b ≠ g) : IBlk w' b n := by
  obtain ⟨cur, h1, h2⟩ := h
  exact ⟨cur, (ho.block b hb).trans h1, h2⟩
theorem IBlk.setCell {w : World} {g n : Nat} (h : IBlk w g n) (j : Nat) (u : Value) : IBlk (w.setCell ⟨g, j, none⟩ u) g n := by
  obtain ⟨cur, h1, h2⟩ := h
  exact ⟨_, heap_setCell_same w g j cur 3 u h1, by simpa using h2⟩
theorem IBlk.frozen {w : World} {g n : Nat} (h : IBlk w g n) (j : Nat) : w.frozen? ⟨g, j, none⟩ = false := by
  obtain ⟨cur, h1, _⟩ := h
  simp [World.frozen?, h1]
theorem IBlk.cell {w : World} {g n : Nat} (h : IBlk w g n) (j : Nat) (hj : j < n) : ∃ u, w.cell? ⟨g, j, none⟩ = some u := by
  obtain ⟨cur, h1, h2⟩ := h
  exact ⟨cur[j]'(by omega), by simp [World.cell?, h1]⟩
theorem IFill.step {w : World} {B k : Nat} {l : List Int} (h : IFill w B k l) (hk : k < l.length) : IFill (w.setCell ⟨B, k, none⟩ (.int .i64 l[k])) B (k + 1) l := by
  obtain ⟨cur, hb, hs, hc⟩ := h
  refine ⟨_, heap_setCell_same w B k cur 3 (.int .i64 l[k]) hb, by simpa using hs, fun i x hx hi => ?_⟩
  rw [Array.getElem?_setIfInBounds]
  by_cases e : k = i
  · subst e
    rw [List.getElem?_eq_getElem hk] at hx
    cases hx
    simp; omega
  · rw [if_neg e]
    exact hc i x hx (by omega)
theorem IFill.below {w w' : World} {B C k : Nat} {l : List Int} (h : IFill w B k l) (hb : Below C w w') (hB : B < C) : IFill w' B k l := by
  obtain ⟨cur, h1, h2, h3⟩ := h
  exact ⟨cur, (hb.block B hB).trans h1, h2, h3⟩
theorem IFill.at {w : World} {B : Nat} {l : List Int} (h : IFill w B l.length l) : IntsAt w B l := by
  obtain ⟨cur, hb, hs, hc⟩ := h
  refine ⟨(Array.getElem?_eq_some_iff.1 hb).1, fun i o ho => ?_⟩
  have hi : i < l.length := (List.getElem?_eq_some_iff.1 ho).1
  rw [cell_of_block hb]
  exact hc i o ho hi

set_option maxHeartbeats 1000000 in
theorem toIntS_some (l : List Int) (b off cap : Nat) (w : World) (hl : NumsAt w b off l) (hn : l.length ≤ 1048576) (hcap : l.length ≤ cap) :
    Calls Tryd.prog 36 #[.slice (some ⟨b, off, none⟩) l.length cap] w fun e w' => e = .returned (.slice (some ⟨w.heap.size, 0, none⟩) l.length l.length) ∧ IFill w' w.heap.size l.length l ∧ Below w.heap.size w w' := by
  obtain ⟨i0, hi, hz0, hz1, hz2⟩ := info_parts infoInt
  go_enter Tryd.func36, Tryd.ntmps36
  go_wp2_with (first
    | (at_make; refine wpList_make_full _ rfl _ _ 33 rfl w.heap.size 3 i0 _ 1 Tryd.underlying33 hi hz0 hz1 .i64 .i64 _ _ l.length rfl rfl rfl rfl (by rw [hz2]; omega) (by unfold maxLen; omega) (Nat.le_refl _) ?_; intro w1 hown hgrow))
  clear hi hz0 hz1 hz2
  have hB1 : Below w.heap.size w w1 := (Below.refl _ _).grown hgrow (Nat.le_refl _) (fun k h => by cases h)
  have hF0 : IFill w1 w.heap.size 0 l := by
    obtain ⟨_, ⟨h, _⟩ | ⟨g, cap', cur, hv, _, hb, _, _, hs, _⟩⟩ := hown
    · cases h
    · simp only [Value.slice.injEq, Option.some.injEq, Addr.mk.injEq] at hv
      obtain ⟨⟨rfl, _⟩, _, rfl⟩ := hv
      exact ⟨cur, hb, by simpa using hs, fun i o _ h => by omega⟩
  clear hown hgrow
  go_loopw [4] (fun i wr => ∃ k : Nat, k ≤ l.length ∧ i = .int .i64 k ∧ IFill wr w.heap.size k l ∧ Below w.heap.size w wr)
    (fun i _ => l.length - (intOf i).toNat)
  case atStart => exact ⟨0, Nat.zero_le _, rfl, hF0, hB1⟩
  case round =>
    obtain ⟨k, hk, rfl, hF, hB⟩ := hrel
    have HB : Hid (Below w.heap.size w wr) := hB
    have HF : Hid (IFill wr w.heap.size k l) := hF
    by_cases hlt : k < l.length
    · have h0 := (hl.below hB hl.1).2 k l[k] (by simp [hlt])
      have hbk := (hl.below hB hl.1).1
      have hBlt : w.heap.size < wr.heap.size := by obtain ⟨cur, hblk, _⟩ := hF; exact (Array.getElem?_eq_some_iff.1 hblk).1
      have hfz : ∀ o, wr.frozen? ⟨w.heap.size, o, none⟩ = false := fun o => hF.blk.frozen o
      obtain ⟨u0, e0⟩ := hF.blk.cell k hlt
      have hlt' : (k : Int) < (l.length : Int) := by omega
      have hk0 : (0 : Int) ≤ (k : Int) := by omega
      have HST := hideIt (HF.out.step hlt)
      generalize l[k] = x at *
      clear hB hF hl hB1 hF0
      go_wp2
      exact ⟨⟨k + 1, by omega, by go_num, HST.out, HB.out.setCell (Nat.le_refl _) _⟩, by simp [intOf]; omega⟩
    · obtain rfl : k = l.length := by omega
      clear hB hF hl hB1 hF0
      go_wp2
      go_ret
      exact ⟨rfl, HF.out, HB.out⟩

set_option maxHeartbeats 1000000 in
theorem toIntS_zero (p : Option Addr) (cap : Nat) (w : World) :
    Calls Tryd.prog 36 #[.slice p 0 cap] w fun e w' => e = .returned (.slice (some ⟨w.heap.size, 0, none⟩) 0 0) ∧ IFill w' w.heap.size 0 [] ∧ Below w.heap.size w w' := by
  obtain ⟨i0, hi, hz0, hz1, hz2⟩ := info_parts infoInt
  go_enter Tryd.func36, Tryd.ntmps36
  go_wp2_with (first
    | (at_make; refine wpList_make_full _ rfl _ _ 33 rfl w.heap.size 3 i0 _ 1 Tryd.underlying33 hi hz0 hz1 .i64 .i64 _ _ 0 rfl rfl rfl rfl (by omega) (by unfold maxLen; omega) (Nat.le_refl _) ?_; intro w1 hown hgrow))
  clear hi hz0 hz1 hz2
  have hB1 : Below w.heap.size w w1 := (Below.refl _ _).grown hgrow (Nat.le_refl _) (fun k h => by cases h)
  have hF0 : IFill w1 w.heap.size 0 [] := by
    obtain ⟨_, ⟨h, _⟩ | ⟨g, cap', cur, hv, _, hb, _, _, hs, _⟩⟩ := hown
    · cases h
    · simp only [Value.slice.injEq, Option.some.injEq, Addr.mk.injEq] at hv
      obtain ⟨⟨rfl, _⟩, _, rfl⟩ := hv
      exact ⟨cur, hb, by simpa using hs, fun i o _ h => by omega⟩
  clear hown hgrow
  refine wp_loop_rounds 1 ?_
  rw [rounds_succ]
  go_wp2
  go_ret
  exact ⟨rfl, hF0, hB1⟩
theorem toIntS_any (l : List Int) (p : Option Addr) (cap : Nat) (w : World) (hl : ArgInts w p l) (hn : l.length ≤ 1048576) (hcap : l.length ≤ cap) :
    Calls Tryd.prog 36 #[.slice p l.length cap] w fun e w' => e = .returned (.slice (some ⟨w.heap.size, 0, none⟩) l.length l.length) ∧ IntsAt w' w.heap.size l ∧ IBlk w' w.heap.size l.length ∧ Below w.heap.size w w' := by
  rcases hl with rfl | ⟨b, off, rfl, hl⟩
  · refine (toIntS_zero p cap w).mono ?_
    rintro e w' ⟨rfl, hF, hB⟩
    exact ⟨rfl, hF.at, hF.blk, hB⟩
  · refine (toIntS_some l b off cap w hl hn hcap).mono ?_
    rintro e w' ⟨rfl, hF, hB⟩
    exact ⟨rfl, hF.at, hF.blk, hB⟩
set_option maxHeartbeats 2000000 in
theorem markIntS_any (g n cap m0 : Nat) (w : World) (hl : IBlk w g n) (hn : n ≤ 1048576) (hcap : n ≤ cap) (hm : m0 ≤ 9437184) :
    Calls Tryd.prog 39 #[.slice (some ⟨g, 0, none⟩) n cap, .int .i64 m0] w fun e w' => e = .returned (.int .i64 ((m0 : Int) + n)) ∧ OnlyBlk g w w' := by
  have HL := hideIt hl
  clear hl
  go_enter Tryd.func39, Tryd.ntmps39
  go_wp2
  go_loopw [1, 5] (fun m i wr => ∃ k : Nat, k ≤ n ∧ i = .int .i64 k ∧ m = .int .i64 ((m0 : Int) + k) ∧ IBlk wr g n ∧ OnlyBlk g w wr)
    (fun _ i _ => n - (intOf i).toNat)
  case atStart => exact ⟨0, Nat.zero_le _, rfl, by simp, HL.out, OnlyBlk.refl _ _⟩
  case round =>
    obtain ⟨k, hk, rfl, rfl, hb, ho⟩ := hrel
    have HBK := hideIt hb
    have HO := hideIt ho
    clear ho
    by_cases hlt : k < n
    · have hfz : ∀ j, wr.frozen? ⟨g, j, none⟩ = false := fun j => hb.frozen j
      obtain ⟨u0, e0⟩ := hb.cell k (by omega)
      have hlt' : (k : Int) < (n : Int) := by omega
      have hk0 : (0 : Int) ≤ (k : Int) := by omega
      clear hb
      go_wp2
      exact ⟨⟨k + 1, by omega, by go_num, by go_num, HBK.out.setCell _ _, HO.out.setCell _ _⟩, by simp [intOf]; omega⟩
    · obtain rfl : k = n := by omega
      clear hb
      go_wp2
      go_ret
      exact ⟨rfl, HO.out⟩
end Go.Proofs.YtficnhlkefpfnaaDoor

namespace Go.Proofs.YtficnhlkefpfnaaDoor
open Go.RowKit
set_option linter.unusedSimpArgs false
set_option linter.unusedVariables false
attribute [local go_sem ↓] Go.wp_at_zero Go.wp_at_succ

theorem szInts_ok (p : Option Addr) (n cap k : Nat) (w : World) (hk : k ≤ 1048576) (hn : n ≤ k) :
    Calls Tryd.prog 61 #[.slice p n cap, .int .i64 k] w fun e w' => e = .returned (.int .i64 ((k - n : Nat) : Int)) ∧ w' = w := by
  have h1 : IntKind.i64.wrap ((k : Int) - (n : Int)) = ((k - n : Nat) : Int) := by rw [IntWalk.i64_in _ ⟨by omega, by omega⟩]; omega
  have h2 : ¬ (((k - n : Nat) : Int) < 0) := by omega
  go_enter Tryd.func61, Tryd.ntmps61
  go_wp2
  go_ret
  exact ⟨rfl, rfl⟩
theorem szInts_no (p : Option Addr) (n cap k : Nat) (w : World) (hk : k ≤ 1048576) (hn : k < n) (hm : n ≤ maxLen) :
    Calls Tryd.prog 61 #[.slice p n cap, .int .i64 k] w fun e w' => e = .returned (.int .i64 (-1)) ∧ w' = w := by
  unfold maxLen at hm
  obtain ⟨d, hd⟩ : ∃ d : Int, (k : Int) - (n : Int) = d := ⟨_, rfl⟩
  have h1 : IntKind.i64.wrap ((k : Int) - (n : Int)) = d := by rw [IntWalk.i64_in _ ⟨by omega, by omega⟩]; exact hd
  have h2 : d < 0 := by omega
  clear hd
  go_enter Tryd.func61, Tryd.ntmps61
  go_wp2
  go_ret
  exact ⟨rfl, rfl⟩
theorem szDoc_val (p q : Option Addr) (n cap m cap2 : Nat) (w : World) (h : n + m ≤ 1048576) :
    Calls Tryd.prog 40 #[.agg #[.slice p n cap, .slice q m cap2], .int .i64 1048576] w fun e w' => e = .returned (.int .i64 ((1048576 - n - m : Nat) : Int)) ∧ Below w.heap.size w w' := by
  have HB0 : Hid (Below w.heap.size w (w.alloc (.cells #[.slice p n cap, .slice q m cap2] 32))) := (Below.refl _ _).alloc (Nat.le_refl _) _
  have h3 : ¬ (((1048576 - n : Nat) : Int) < 0) := by omega
  have h4 : ¬ (((1048576 - n - m : Nat) : Int) < 0) := by omega
  go_enter Tryd.func40, Tryd.ntmps40
  go_wp2_with fail
  refine (szAny_ok p n cap 1048576 _ (Nat.le_refl _) (by omega)).mono ?_
  rintro e w' ⟨rfl, rfl⟩
  go_wp2_with fail
  refine (szAny_ok q m cap2 (1048576 - n) _ (by omega) (by omega)).mono ?_
  rintro e w' ⟨rfl, rfl⟩
  go_wp2
  go_ret
  exact ⟨rfl, HB0.out⟩
theorem szDesk_ok (r : Int) (p q t : Option Addr) (n cap m cap2 k cap3 : Nat) (w : World) (h : n + m + k ≤ 1048576) :
    Calls Tryd.prog 20 #[.agg #[.int .i64 r, .slice p n cap, .slice q m cap2, .slice t k cap3], .int .i64 1048576] w fun e w' => (∃ s : Nat, e = .returned (.int .i64 s)) ∧ Below w.heap.size w w' := by
  have HB0 : Hid (Below w.heap.size w (w.alloc (.cells #[.int .i64 r, .slice p n cap, .slice q m cap2, .slice t k cap3] 35))) := (Below.refl _ _).alloc (Nat.le_refl _) _
  have hD0 : (w.alloc (.cells #[.int .i64 r, .slice p n cap, .slice q m cap2, .slice t k cap3] 35)).heap[w.heap.size]? = some (.cells #[.int .i64 r, .slice p n cap, .slice q m cap2, .slice t k cap3] 35 (0, 0)) := World.alloc_heap_new _ _
  have HD0 := hideIt hD0
  clear hD0
  have h3 : ¬ (((1048576 - n - m : Nat) : Int) < 0) := by omega
  have h4 : ¬ (((1048576 - n - m - k : Nat) : Int) < 0) := by omega
  go_enter Tryd.func20, Tryd.ntmps20
  go_wp2_with fail
  refine (szDoc_val p q n cap m cap2 _ (by omega)).mono ?_
  rintro e w1 ⟨rfl, hb1⟩
  have HB1 := hideIt (Bstep HB0.out hb1)
  have hd := blk_below HD0.out hb1
  have d3 := (blk_cell hd 3).trans rfl
  have dl := (Array.getElem?_eq_some_iff.1 hd).1
  clear hb1 hd HD0 HB0
  go_wp2_with fail
  refine (szInts_ok t k cap3 (1048576 - n - m) _ (by omega) (by omega)).mono ?_
  rintro e w' ⟨rfl, hw⟩
  rw [hw]
  clear hw
  go_wp2
  go_ret
  exact ⟨⟨_, rfl⟩, HB1.out⟩
theorem szDesk_no (r : Int) (p q t : Option Addr) (n cap m cap2 k cap3 : Nat) (w : World) (h : ¬ n + m + k ≤ 1048576) (hn : n ≤ maxLen) (hm : m ≤ maxLen) (hk : k ≤ maxLen) :
    Calls Tryd.prog 20 #[.agg #[.int .i64 r, .slice p n cap, .slice q m cap2, .slice t k cap3], .int .i64 1048576] w fun e w' => e = .returned (.int .i64 (-1)) ∧ Below w.heap.size w w' := by
  have HB0 : Hid (Below w.heap.size w (w.alloc (.cells #[.int .i64 r, .slice p n cap, .slice q m cap2, .slice t k cap3] 35))) := (Below.refl _ _).alloc (Nat.le_refl _) _
  have hD0 : (w.alloc (.cells #[.int .i64 r, .slice p n cap, .slice q m cap2, .slice t k cap3] 35)).heap[w.heap.size]? = some (.cells #[.int .i64 r, .slice p n cap, .slice q m cap2, .slice t k cap3] 35 (0, 0)) := World.alloc_heap_new _ _
  have HD0 := hideIt hD0
  clear hD0
  go_enter Tryd.func20, Tryd.ntmps20
  go_wp2_with fail
  by_cases hnm : n + m ≤ 1048576
  · have h3 : ¬ (((1048576 - n - m : Nat) : Int) < 0) := by omega
    refine (szDoc_val p q n cap m cap2 _ hnm).mono ?_
    rintro e w1 ⟨rfl, hb1⟩
    have HB1 := hideIt (Bstep HB0.out hb1)
    have hd := blk_below HD0.out hb1
    have d3 := (blk_cell hd 3).trans rfl
    have dl := (Array.getElem?_eq_some_iff.1 hd).1
    clear hb1 hd HD0 HB0
    go_wp2_with fail
    refine (szInts_no t k cap3 (1048576 - n - m) _ (by omega) (by omega) hk).mono ?_
    rintro e w' ⟨rfl, hw⟩
    rw [hw]
    clear hw
    go_wp2
    go_ret
    exact ⟨rfl, HB1.out⟩
  · refine (szDoc_no p q n cap m cap2 _ hnm hn hm).mono ?_
    rintro e w1 ⟨rfl, hb1⟩
    have HB1 := hideIt (Bstep HB0.out hb1)
    clear hb1 HD0 HB0
    go_wp2
    go_ret
    exact ⟨rfl, HB1.out⟩

theorem IntsAt.away {W : World} {g b i : Nat} {l : List Int} {u : Value} (h : IntsAt W g l) (hne : g ≠ b) : IntsAt (W.setCell ⟨b, i, none⟩ u) g l := by
  refine ⟨by simpa using h.1, fun j o ho => ?_⟩
  exact (World.cell?_setCell_other _ _ _ _ (by intro he; have := congrArg Addr.block he; simp at this; omega)).trans (h.2 j o ho)
theorem set_cs {W : World} {b i : Nat} {T : TypeId} {cs : Array Value} {u : Value} (h : W.heap[b]? = some (.cells cs T (0, 0))) : (W.setCell ⟨b, i, none⟩ u).heap[b]? = some (.cells (cs.setIfInBounds i u) T (0, 0)) := by
  simp only [World.setCell, Array.getElem?_modify, if_true, h, Option.map_some]
  rfl
set_option maxRecDepth 100000 in
set_option maxHeartbeats 1000000 in
theorem toDocB_any (l ws : List Op7) (p q : Option Addr) (cap cap2 : Nat) (w : World) (hl : ArgOps w p l) (hn : l.length ≤ 1048576) (hcap : l.length ≤ cap) (hs : ArgOps w q ws) (hn2 : ws.length ≤ 1048576) (hcap2 : ws.length ≤ cap2) :
    Calls Tryd.prog 42 #[.agg #[.slice p l.length cap, .slice q ws.length cap2]] w fun e w' => (∃ g g2, e = .returned (.agg #[.slice (some ⟨g, 0, none⟩) l.length l.length, .slice (some ⟨g2, 0, none⟩) ws.length ws.length]) ∧ OpsAt w' g l ∧ OpsAt w' g2 ws ∧ w.heap.size ≤ g ∧ w.heap.size ≤ g2) ∧ Below w.heap.size w w' := by
  have HL := hideIt hl
  have HS := hideIt hs
  clear hl hs
  obtain ⟨W0, hW0⟩ : ∃ W0, ((w.alloc (.cells #[.slice p l.length cap, .slice q ws.length cap2] 32)).alloc (.cells #[.slice none 0 0, .slice none 0 0] 39)).alloc (.cells #[.slice none 0 0, .slice none 0 0] 39) = W0 := ⟨_, rfl⟩
  have hB0 : Below w.heap.size w W0 := by rw [← hW0]; exact (((Below.refl _ _).alloc (Nat.le_refl _) _).alloc (by simp) _).alloc (by simp; omega) _
  have hA0 : W0.heap[w.heap.size]? = some (.cells #[.slice p l.length cap, .slice q ws.length cap2] 32 (0, 0)) := by
    rw [← hW0]
    exact blk_below (World.alloc_heap_new _ _) (((Below.refl _ _).alloc (Nat.le_refl _) _).alloc (by simp) _)
  have hR0 : W0.heap[w.heap.size + 1]? = some (.cells #[.slice none 0 0, .slice none 0 0] 39 (0, 0)) := by
    rw [← hW0]
    have h := World.alloc_heap_new (w.alloc (.cells #[.slice p l.length cap, .slice q ws.length cap2] 32)) (.cells #[.slice none 0 0, .slice none 0 0] 39)
    rw [World.size_alloc] at h
    exact blk_below h ((Below.refl _ _).alloc (Nat.le_refl _) _)
  have hO0 : W0.heap[w.heap.size + 1 + 1]? = some (.cells #[.slice none 0 0, .slice none 0 0] 39 (0, 0)) := by
    rw [← hW0]
    have h := World.alloc_heap_new ((w.alloc (.cells #[.slice p l.length cap, .slice q ws.length cap2] 32)).alloc (.cells #[.slice none 0 0, .slice none 0 0] 39)) (.cells #[.slice none 0 0, .slice none 0 0] 39)
    rw [World.size_alloc, World.size_alloc] at h
    exact h
  have HB0 := hideIt hB0
  have HA0 := hideIt hA0
  have HR0 := hideIt hR0
  have HO0 := hideIt hO0
  have HW0 := hideIt hW0
  clear hB0 hA0 hR0 hO0 hW0
  go_enter Tryd.func42, Tryd.ntmps42
  go_wp2_with fail
  rw [HW0.out]
  clear HW0
  have hz0 : w.heap.size + 1 + 1 < W0.heap.size := (Array.getElem?_eq_some_iff.1 HO0.out).1
  refine (toOpS_any l p cap _ (HL.out.below HB0.out) hn hcap).mono ?_
  rintro e w1 ⟨rfl, hA1, hb1⟩
  have HG := hideIt hA1
  have hG1 : w.heap.size ≤ W0.heap.size := by omega
  have HB1 := hideIt (Bstep HB0.out hb1)
  have HA1 := hideIt (blk_below HA0.out hb1)
  have HR1 := hideIt (blk_below HR0.out hb1)
  have HO1 := hideIt (blk_below HO0.out hb1)
  clear hA1 hb1 HB0 HA0 HR0 HO0
  generalize W0.heap.size = G at *
  have a1 := (blk_cell HA1.out 1).trans rfl
  have al := (Array.getElem?_eq_some_iff.1 HA1.out).1
  have o0 := (blk_cell HO1.out 0).trans rfl
  have o1 := (blk_cell HO1.out 1).trans rfl
  have ol := (Array.getElem?_eq_some_iff.1 HO1.out).1
  have of : ∀ j, w1.frozen? ⟨w.heap.size + 1 + 1, j, none⟩ = false := fun j => by simp [World.frozen?, HO1.out]
  go_wp2_with fail
  have HO2 := hideIt (set_fst (u' := .slice (some ⟨G, 0, none⟩) l.length l.length) HO1.out)
  have HR2 := hideIt (set_off (c := w.heap.size + 1 + 1) (i := 0) (u := .slice (some ⟨G, 0, none⟩) l.length l.length) HR1.out (by omega))
  have HG2 := hideIt (OpsAt.away (b := w.heap.size + 1 + 1) (i := 0) (u := .slice (some ⟨G, 0, none⟩) l.length l.length) HG.out (by omega))
  have HB2 := hideIt (HB1.out.setCell (p := ⟨w.heap.size + 1 + 1, 0, none⟩) (by show w.heap.size ≤ w.heap.size + 1 + 1; omega) (.slice (some ⟨G, 0, none⟩) l.length l.length))
  clear HO1 HR1 HG HB1 a1 al o0 o1 ol of HA1
  generalize w1.setCell ⟨w.heap.size + 1 + 1, 0, none⟩ (.slice (some ⟨G, 0, none⟩) l.length l.length) = W2 at *
  refine (toOpS_any ws q cap2 _ (HS.out.below HB2.out) hn2 hcap2).mono ?_
  rintro e w3 ⟨rfl, hA3, hb3⟩
  have HK3 := hideIt hA3
  have HG3 := hideIt (HG2.out.below hb3 HG2.out.1)
  have HB3 := hideIt (Bstep HB2.out hb3)
  have HO3 := hideIt (blk_below HO2.out hb3)
  have HR3 := hideIt (blk_below HR2.out hb3)
  have hz2 : w.heap.size + 1 + 1 < W2.heap.size := (Array.getElem?_eq_some_iff.1 HO2.out).1
  clear hA3 hb3 HO2 HR2 HG2 HB2
  generalize W2.heap.size = K2 at *
  have o0 := (blk_cell HO3.out 0).trans rfl
  have o1 := (blk_cell HO3.out 1).trans rfl
  have ol := (Array.getElem?_eq_some_iff.1 HO3.out).1
  have of : ∀ j, w3.frozen? ⟨w.heap.size + 1 + 1, j, none⟩ = false := fun j => by simp [World.frozen?, HO3.out]
  have r0 := (blk_cell HR3.out 0).trans rfl
  have r1 := (blk_cell HR3.out 1).trans rfl
  have rl := (Array.getElem?_eq_some_iff.1 HR3.out).1
  have rf : ∀ j, w3.frozen? ⟨w.heap.size + 1, j, none⟩ = false := fun j => by simp [World.frozen?, HR3.out]
  have n1 : ¬ w.heap.size + 1 + 1 = w.heap.size + 1 := by omega
  have n2 : ¬ w.heap.size + 1 = w.heap.size + 1 + 1 := by omega
  go_wp2
  have hb9 := set_snd (v' := .slice (some ⟨K2, 0, none⟩) ws.length ws.length) (set_fst (u' := .slice (some ⟨G, 0, none⟩) l.length l.length) (set_off (c := w.heap.size + 1 + 1) (i := 1) (u := .slice (some ⟨K2, 0, none⟩) ws.length ws.length) HR3.out n2))
  have v0 := (blk_cell hb9 0).trans rfl
  have v1 := (blk_cell hb9 1).trans rfl
  exact bodyPost_ret (v := .agg #[.slice (some ⟨G, 0, none⟩) l.length l.length, .slice (some ⟨K2, 0, none⟩) ws.length ws.length]) (by simp [results, Tryd.results42, go_sem, v0, v1]) rfl
    ⟨⟨G, K2, rfl, ((HG3.out.away (by omega)).away (by omega)).away (by omega), ((HK3.out.away (by omega)).away (by omega)).away (by omega), by omega, by omega⟩,
      ((HB3.out.setCell (p := ⟨w.heap.size + 1 + 1, 1, none⟩) (by show w.heap.size ≤ w.heap.size + 1 + 1; omega) _).setCell (p := ⟨w.heap.size + 1, 0, none⟩) (by show w.heap.size ≤ w.heap.size + 1; omega) _).setCell (p := ⟨w.heap.size + 1, 1, none⟩) (by show w.heap.size ≤ w.heap.size + 1; omega) _⟩

/-- What toDesk makes. -/
def DeskMade (W : World) (e : Ending) (r : Int) (l ws : List Op7) (s : List Int) : Prop := ∃ g g2 g3, e = .returned (.agg #[.int .i64 r, .slice (some ⟨g, 0, none⟩) l.length l.length, .slice (some ⟨g2, 0, none⟩) ws.length ws.length, .slice (some ⟨g3, 0, none⟩) s.length s.length]) ∧ OpsAt W g l ∧ OpsAt W g2 ws ∧ IntsAt W g3 s
set_option maxRecDepth 100000 in
set_option maxHeartbeats 2000000 in
theorem toDesk_any (r : Int) (l ws : List Op7) (s : List Int) (p q t : Option Addr) (cap cap2 cap3 : Nat) (w : World) (hl : ArgOps w p l) (hn : l.length ≤ 1048576) (hcap : l.length ≤ cap) (hs : ArgOps w q ws) (hn2 : ws.length ≤ 1048576) (hcap2 : ws.length ≤ cap2) (hi : ArgInts w t s) (hn3 : s.length ≤ 1048576) (hcap3 : s.length ≤ cap3) :
    Calls Tryd.prog 22 #[.agg #[.int .i64 r, .slice p l.length cap, .slice q ws.length cap2, .slice t s.length cap3]] w fun e w' => DeskMade w' e r l ws s ∧ Below w.heap.size w w' := by
  have HL := hideIt hl
  have HS := hideIt hs
  have HI := hideIt hi
  clear hl hs hi
  obtain ⟨W0, hW0⟩ : ∃ W0, ((w.alloc (.cells #[.int .i64 r, .slice p l.length cap, .slice q ws.length cap2, .slice t s.length cap3] 35)).alloc (.cells #[.int .i64 0, .slice none 0 0, .slice none 0 0, .slice none 0 0] 41)).alloc (.cells #[.int .i64 r, .slice none 0 0, .slice none 0 0, .slice none 0 0] 41) = W0 := ⟨_, rfl⟩
  have hB0 : Below w.heap.size w W0 := by rw [← hW0]; exact (((Below.refl _ _).alloc (Nat.le_refl _) _).alloc (by simp) _).alloc (by simp; omega) _
  have hA0 : W0.heap[w.heap.size]? = some (.cells #[.int .i64 r, .slice p l.length cap, .slice q ws.length cap2, .slice t s.length cap3] 35 (0, 0)) := by
    rw [← hW0]
    exact blk_below (World.alloc_heap_new _ _) (((Below.refl _ _).alloc (Nat.le_refl _) _).alloc (by simp) _)
  have hR0 : W0.heap[w.heap.size + 1]? = some (.cells #[.int .i64 0, .slice none 0 0, .slice none 0 0, .slice none 0 0] 41 (0, 0)) := by
    rw [← hW0]
    have h := World.alloc_heap_new (w.alloc (.cells #[.int .i64 r, .slice p l.length cap, .slice q ws.length cap2, .slice t s.length cap3] 35)) (.cells #[.int .i64 0, .slice none 0 0, .slice none 0 0, .slice none 0 0] 41)
    rw [World.size_alloc] at h
    exact blk_below h ((Below.refl _ _).alloc (Nat.le_refl _) _)
  have hO0 : W0.heap[w.heap.size + 1 + 1]? = some (.cells #[.int .i64 r, .slice none 0 0, .slice none 0 0, .slice none 0 0] 41 (0, 0)) := by
    rw [← hW0]
    have h := World.alloc_heap_new ((w.alloc (.cells #[.int .i64 r, .slice p l.length cap, .slice q ws.length cap2, .slice t s.length cap3] 35)).alloc (.cells #[.int .i64 0, .slice none 0 0, .slice none 0 0, .slice none 0 0] 41)) (.cells #[.int .i64 r, .slice none 0 0, .slice none 0 0, .slice none 0 0] 41)
    rw [World.size_alloc, World.size_alloc] at h
    exact h
  have HB0 := hideIt hB0
  have HA0 := hideIt hA0
  have HR0 := hideIt hR0
  have HO0 := hideIt hO0
  have HW0 := hideIt hW0
  clear hB0 hA0 hR0 hO0 hW0
  go_enter Tryd.func22, Tryd.ntmps22
  go_wp2_with fail
  rw [HW0.out]
  clear HW0
  have hz0 : w.heap.size + 1 + 1 < W0.heap.size := (Array.getElem?_eq_some_iff.1 HO0.out).1
  refine (toDocB_any l ws p q cap cap2 _ (HL.out.below HB0.out) hn hcap (HS.out.below HB0.out) hn2 hcap2).mono ?_
  rintro e w1 ⟨⟨g, g2, rfl, hg, hg2, hgg, hgg2⟩, hb1⟩
  have hgz : w.heap.size + 1 + 1 < w1.heap.size := Nat.lt_of_lt_of_le hz0 hb1.size
  have HB1 := hideIt (Bstep HB0.out hb1)
  have HA1 := hideIt (blk_below HA0.out hb1)
  have HR1 := hideIt (blk_below HR0.out hb1)
  have HO1 := hideIt (blk_below HO0.out hb1)
  have HG := hideIt hg
  have HG2 := hideIt hg2
  clear hg hg2 HB0 HA0 HR0 HO0
  have a3 := (blk_cell HA1.out 3).trans rfl
  have al := (Array.getElem?_eq_some_iff.1 HA1.out).1
  have o0 := (blk_cell HO1.out 0).trans rfl
  have o1 := (blk_cell HO1.out 1).trans rfl
  have o2 := (blk_cell HO1.out 2).trans rfl
  have o3 := (blk_cell HO1.out 3).trans rfl
  have of : ∀ j, w1.frozen? ⟨w.heap.size + 1 + 1, j, none⟩ = false := fun j => by simp [World.frozen?, HO1.out]
  go_wp2_with fail
  have HO2 := hideIt (set_cs (i := 2) (u := .slice (some ⟨g2, 0, none⟩) ws.length ws.length) (set_cs (i := 1) (u := .slice (some ⟨g, 0, none⟩) l.length l.length) HO1.out))
  have HA2 := hideIt (set_off (i := 2) (u := .slice (some ⟨g2, 0, none⟩) ws.length ws.length) (set_off (c := w.heap.size + 1 + 1) (i := 1) (u := .slice (some ⟨g, 0, none⟩) l.length l.length) HA1.out (by omega)) (show w.heap.size ≠ w.heap.size + 1 + 1 by omega))
  have HR2 := hideIt (set_off (i := 2) (u := .slice (some ⟨g2, 0, none⟩) ws.length ws.length) (set_off (c := w.heap.size + 1 + 1) (i := 1) (u := .slice (some ⟨g, 0, none⟩) l.length l.length) HR1.out (by omega)) (show w.heap.size + 1 ≠ w.heap.size + 1 + 1 by omega))
  have HG' := hideIt (OpsAt.away (i := 2) (u := .slice (some ⟨g2, 0, none⟩) ws.length ws.length) (OpsAt.away (b := w.heap.size + 1 + 1) (i := 1) (u := .slice (some ⟨g, 0, none⟩) l.length l.length) HG.out (by omega)) (show g ≠ w.heap.size + 1 + 1 by omega))
  have HG2' := hideIt (OpsAt.away (i := 2) (u := .slice (some ⟨g2, 0, none⟩) ws.length ws.length) (OpsAt.away (b := w.heap.size + 1 + 1) (i := 1) (u := .slice (some ⟨g, 0, none⟩) l.length l.length) HG2.out (by omega)) (show g2 ≠ w.heap.size + 1 + 1 by omega))
  have HB2 := hideIt ((HB1.out.setCell (p := ⟨w.heap.size + 1 + 1, 1, none⟩) (by show w.heap.size ≤ w.heap.size + 1 + 1; omega) (.slice (some ⟨g, 0, none⟩) l.length l.length)).setCell (p := ⟨w.heap.size + 1 + 1, 2, none⟩) (by show w.heap.size ≤ w.heap.size + 1 + 1; omega) (.slice (some ⟨g2, 0, none⟩) ws.length ws.length))
  clear HO1 HA1 HR1 HG HG2 HB1 a3 al o0 o1 o2 o3 of
  have hgz2 : w.heap.size + 1 + 1 < ((w1.setCell ⟨w.heap.size + 1 + 1, 1, none⟩ (.slice (some ⟨g, 0, none⟩) l.length l.length)).setCell ⟨w.heap.size + 1 + 1, 2, none⟩ (.slice (some ⟨g2, 0, none⟩) ws.length ws.length)).heap.size := by simpa using hgz
  generalize (w1.setCell ⟨w.heap.size + 1 + 1, 1, none⟩ (.slice (some ⟨g, 0, none⟩) l.length l.length)).setCell ⟨w.heap.size + 1 + 1, 2, none⟩ (.slice (some ⟨g2, 0, none⟩) ws.length ws.length) = W2 at *
  refine (toIntS_any s t cap3 _ (HI.out.below HB2.out) hn3 hcap3).mono ?_
  rintro e w3 ⟨rfl, hi3, _, hb3⟩
  have HI3 := hideIt hi3
  have HG3 := hideIt (HG'.out.below hb3 HG'.out.1)
  have HK3 := hideIt (HG2'.out.below hb3 HG2'.out.1)
  have HB3 := hideIt (Bstep HB2.out hb3)
  have HO3 := hideIt (blk_below HO2.out hb3)
  have HR3 := hideIt (blk_below HR2.out hb3)
  clear hi3 hb3 HO2 HA2 HR2 HG' HG2' HB2
  generalize W2.heap.size = C at *
  have o0 := (blk_cell HO3.out 0).trans rfl
  have o1 := (blk_cell HO3.out 1).trans rfl
  have o2 := (blk_cell HO3.out 2).trans rfl
  have o3 := (blk_cell HO3.out 3).trans rfl
  have ol := (Array.getElem?_eq_some_iff.1 HO3.out).1
  have of : ∀ j, w3.frozen? ⟨w.heap.size + 1 + 1, j, none⟩ = false := fun j => by simp [World.frozen?, HO3.out]
  have r0 := (blk_cell HR3.out 0).trans rfl
  have r1 := (blk_cell HR3.out 1).trans rfl
  have r2 := (blk_cell HR3.out 2).trans rfl
  have r3 := (blk_cell HR3.out 3).trans rfl
  have rl := (Array.getElem?_eq_some_iff.1 HR3.out).1
  have rf : ∀ j, w3.frozen? ⟨w.heap.size + 1, j, none⟩ = false := fun j => by simp [World.frozen?, HR3.out]
  have n1 : ¬ w.heap.size + 1 + 1 = w.heap.size + 1 := by omega
  have n2 : ¬ w.heap.size + 1 = w.heap.size + 1 + 1 := by omega
  go_wp2
  have hb9 := set_cs (i := 3) (u := .slice (some ⟨C, 0, none⟩) s.length s.length) (set_cs (i := 2) (u := .slice (some ⟨g2, 0, none⟩) ws.length ws.length) (set_cs (i := 1) (u := .slice (some ⟨g, 0, none⟩) l.length l.length) (set_cs (i := 0) (u := .int .i64 r) (set_off (c := w.heap.size + 1 + 1) (i := 3) (u := .slice (some ⟨C, 0, none⟩) s.length s.length) HR3.out n2))))
  have v0 := (blk_cell hb9 0).trans rfl
  have v1 := (blk_cell hb9 1).trans rfl
  have v2 := (blk_cell hb9 2).trans rfl
  have v3 := (blk_cell hb9 3).trans rfl
  exact bodyPost_ret (v := .agg #[.int .i64 r, .slice (some ⟨g, 0, none⟩) l.length l.length, .slice (some ⟨g2, 0, none⟩) ws.length ws.length, .slice (some ⟨C, 0, none⟩) s.length s.length]) (by simp [results, Tryd.results22, go_sem, v0, v1, v2, v3]) rfl
    ⟨⟨g, g2, C, rfl, ((((HG3.out.away (by omega)).away (by omega)).away (by omega)).away (by omega)).away (by omega), ((((HK3.out.away (by omega)).away (by omega)).away (by omega)).away (by omega)).away (by omega), ((((HI3.out.away (by omega)).away (by omega)).away (by omega)).away (by omega)).away (by omega)⟩,
      ((((HB3.out.setCell (p := ⟨w.heap.size + 1 + 1, 3, none⟩) (by show w.heap.size ≤ w.heap.size + 1 + 1; omega) _).setCell (p := ⟨w.heap.size + 1, 0, none⟩) (by show w.heap.size ≤ w.heap.size + 1; omega) _).setCell (p := ⟨w.heap.size + 1, 1, none⟩) (by show w.heap.size ≤ w.heap.size + 1; omega) _).setCell (p := ⟨w.heap.size + 1, 2, none⟩) (by show w.heap.size ≤ w.heap.size + 1; omega) _).setCell (p := ⟨w.heap.size + 1, 3, none⟩) (by show w.heap.size ≤ w.heap.size + 1; omega) _⟩

set_option maxHeartbeats 1000000 in
theorem eqDesk_same (r : Int) (l ws : List Op7) (s : List Int) (g g2 g3 h h2 h3 : Nat) (w : World) (h1 : OpsAt w g l) (h2' : OpsAt w g2 ws) (h3' : IntsAt w g3 s) (k1 : OpsAt w h l) (k2 : OpsAt w h2 ws) (k3 : IntsAt w h3 s) (hn : l.length ≤ 1048576) (hn2 : ws.length ≤ 1048576) (hn3 : s.length ≤ 1048576) :
    Calls Tryd.prog 24 #[.agg #[.int .i64 r, .slice (some ⟨g, 0, none⟩) l.length l.length, .slice (some ⟨g2, 0, none⟩) ws.length ws.length, .slice (some ⟨g3, 0, none⟩) s.length s.length], .agg #[.int .i64 r, .slice (some ⟨h, 0, none⟩) l.length l.length, .slice (some ⟨h2, 0, none⟩) ws.length ws.length, .slice (some ⟨h3, 0, none⟩) s.length s.length]] w fun e w' => e = .returned (.bool true) ∧ Below w.heap.size w w' := by
  have H1 := hideIt h1
  have H2 := hideIt h2'
  have H3 := hideIt h3'
  have K1 := hideIt k1
  have K2 := hideIt k2
  have K3 := hideIt k3
  have l1 := h1.1
  have l2 := h2'.1
  have l3 := h3'.1
  have m1 := k1.1
  have m2 := k2.1
  have m3 := k3.1
  clear h1 h2' h3' k1 k2 k3
  go_enter Tryd.func24, Tryd.ntmps24
  go_wp2_with fail
  have HB0 : Hid (Below w.heap.size w ((w.alloc (.cells #[.int .i64 r, .slice (some ⟨g, 0, none⟩) l.length l.length, .slice (some ⟨g2, 0, none⟩) ws.length ws.length, .slice (some ⟨g3, 0, none⟩) s.length s.length] 41)).alloc (.cells #[.int .i64 r, .slice (some ⟨h, 0, none⟩) l.length l.length, .slice (some ⟨h2, 0, none⟩) ws.length ws.length, .slice (some ⟨h3, 0, none⟩) s.length s.length] 41))) := ((Below.refl _ _).alloc (Nat.le_refl _) _).alloc (by simp) _
  refine (eqDoc_same l ws _ _ _ _ _ (H1.out.below HB0.out l1) (H2.out.below HB0.out l2) (K1.out.below HB0.out m1) (K2.out.below HB0.out m2) hn hn2).mono ?_
  rintro e w1 ⟨rfl, hb1⟩
  have HB1 := hideIt (Bstep HB0.out hb1)
  have hc : ∀ b o, b < w.heap.size + 2 → w1.cell? ⟨b, o, none⟩ = _ := fun b o h => (bcell hb1).1 b o (by simp; omega)
  have x1 := hc w.heap.size 3 (by omega)
  have y1 := hc (w.heap.size + 1) 3 (by omega)
  simp [go_sem] at x1 y1
  clear hb1 hc
  go_wp2_with fail
  refine (eqIntS_same s _ _ _ _ _ (H3.out.below HB1.out l3) (K3.out.below HB1.out m3) hn3 (Nat.le_refl _) (Nat.le_refl _)).mono ?_
  rintro e w2 ⟨rfl, hb2⟩
  clear x1 y1
  go_wp2
  go_ret
  first | exact ⟨rfl, Bstep HB1.out hb2⟩ | exact ⟨rfl, by subst hb2; exact HB1.out⟩
end Go.Proofs.YtficnhlkefpfnaaDoor

namespace Go.Proofs.YtficnhlkefpfnaaDoor
open Go.RowKit
set_option linter.unusedSimpArgs false
set_option linter.unusedVariables false
attribute [local go_sem ↓] Go.wp_at_zero Go.wp_at_succ

theorem desk_doc {r : Int} {l ws : List Op7} {s : List Int} (h : deskB r l ws s = true) : opsB l = true := by
  unfold deskB docB at h
  simp only [Bool.and_eq_true] at h
  exact h.2.1.1
theorem seenY_any (l : List Op7) (hO : opsB l = true) (g cap : Nat) (x : Addr) (w : World) (hl : OpsAt w g l) (hn : l.length ≤ 1048576) (hcap : l.length ≤ cap)
    (he : w.cell? ⟨0, 0, none⟩ = some (.iface 200 (.pointer (some x)))) (h0 : 0 < w.heap.size) :
    Calls Tryd.prog 70 #[.slice (some ⟨g, 0, none⟩) l.length cap] w fun e w' => (∃ G, w.heap.size ≤ G ∧ e = .returned (.slice (some ⟨G, 0, none⟩) 3 3) ∧ IntsAt w' G [cnt l 1, cnt l 2, cnt l 3] ∧ ∀ j, w'.frozen? ⟨G, j, none⟩ = false) ∧ Below w.heap.size w w' := by
  refine (implSeen_any l g cap x w hl hn hcap he h0).mono ?_
  rintro e w' ⟨(⟨_, G, h⟩ | ⟨h, _⟩), hb⟩
  · exact ⟨⟨G, h⟩, hb⟩
  · rw [hO] at h; cases h
set_option maxRecDepth 100000 in
set_option maxHeartbeats 1000000 in
theorem implPull_any (r : Int) (l ws : List Op7) (s : List Int) (g cap g2 cap2 g3 cap3 : Nat) (x : Addr) (w : World) (hl : OpsAt w g l) (hn : l.length ≤ 1048576) (hcap : l.length ≤ cap) (hs : OpsAt w g2 ws) (hn2 : ws.length ≤ 1048576) (hcap2 : ws.length ≤ cap2) (hi : IntsAt w g3 s) (hn3 : s.length ≤ 1048576) (hcap3 : s.length ≤ cap3)
    (he : w.cell? ⟨0, 0, none⟩ = some (.iface 200 (.pointer (some x)))) (h0 : 0 < w.heap.size) :
    Calls Tryd.prog 26 #[.agg #[.int .i64 r, .slice (some ⟨g, 0, none⟩) l.length cap, .slice (some ⟨g2, 0, none⟩) ws.length cap2, .slice (some ⟨g3, 0, none⟩) s.length cap3]] w fun e w' =>
      ((deskB r l ws s = true ∧ ∃ G, w.heap.size ≤ G ∧ e = .returned (.tuple #[.agg #[.int .i64 1, .int .i64 r, .slice (some ⟨G, 0, none⟩) 3 3, .slice none 0 0], .bool true]) ∧ IntsAt w' G [cnt l 1, cnt l 2, cnt l 3] ∧ ∀ j, w'.frozen? ⟨G, j, none⟩ = false) ∨ (deskB r l ws s = false ∧ e = .returned (.tuple #[.agg #[.int .i64 0, .int .i64 0, .slice none 0 0, .slice none 0 0], .bool false]))) ∧ Below w.heap.size w w' := by
  have HL := hideIt hl
  have HS := hideIt hs
  have HI := hideIt hi
  have hgw := hl.1
  have hgs := hs.1
  have hgi := hi.1
  clear hl hs hi
  obtain ⟨zz, hzz⟩ : ∃ zz, deskB r l ws s = zz := ⟨_, rfl⟩
  have HZ := hideIt hzz
  clear hzz
  have hB0 : Below w.heap.size w ((w.alloc (.cells #[.int .i64 r, .slice (some ⟨g, 0, none⟩) l.length cap, .slice (some ⟨g2, 0, none⟩) ws.length cap2, .slice (some ⟨g3, 0, none⟩) s.length cap3] 41)).alloc (.cells #[.int .i64 0, .int .i64 0, .slice none 0 0, .slice none 0 0] 46)) := ((Below.refl _ _).alloc (Nat.le_refl _) _).alloc (by simp) _
  have hD0 : ((w.alloc (.cells #[.int .i64 r, .slice (some ⟨g, 0, none⟩) l.length cap, .slice (some ⟨g2, 0, none⟩) ws.length cap2, .slice (some ⟨g3, 0, none⟩) s.length cap3] 41)).alloc (.cells #[.int .i64 0, .int .i64 0, .slice none 0 0, .slice none 0 0] 46)).heap[w.heap.size]? = some (.cells #[.int .i64 r, .slice (some ⟨g, 0, none⟩) l.length cap, .slice (some ⟨g2, 0, none⟩) ws.length cap2, .slice (some ⟨g3, 0, none⟩) s.length cap3] 41 (0, 0)) := blk_below (World.alloc_heap_new _ _) ((Below.refl _ _).alloc (Nat.le_refl _) _)
  have hR0 : ((w.alloc (.cells #[.int .i64 r, .slice (some ⟨g, 0, none⟩) l.length cap, .slice (some ⟨g2, 0, none⟩) ws.length cap2, .slice (some ⟨g3, 0, none⟩) s.length cap3] 41)).alloc (.cells #[.int .i64 0, .int .i64 0, .slice none 0 0, .slice none 0 0] 46)).heap[w.heap.size + 1]? = some (.cells #[.int .i64 0, .int .i64 0, .slice none 0 0, .slice none 0 0] 46 (0, 0)) := by
    have h := World.alloc_heap_new (w.alloc (.cells #[.int .i64 r, .slice (some ⟨g, 0, none⟩) l.length cap, .slice (some ⟨g2, 0, none⟩) ws.length cap2, .slice (some ⟨g3, 0, none⟩) s.length cap3] 41)) (.cells #[.int .i64 0, .int .i64 0, .slice none 0 0, .slice none 0 0] 46)
    rw [World.size_alloc] at h
    exact h
  have HB0 := hideIt hB0
  have HD0 := hideIt hD0
  have HR0 := hideIt hR0
  clear hB0 hD0 hR0
  go_enter Tryd.func26, Tryd.ntmps26
  go_wp2_with fail
  refine (implDesk_any r l ws s g cap g2 cap2 g3 cap3 x _ (HL.out.below HB0.out hgw) hn hcap (HS.out.below HB0.out hgs) hn2 hcap2 (HI.out.below HB0.out hgi) hn3 hcap3 (errB HB0.out h0 he) (posB HB0.out h0)).mono ?_
  rintro e w1 ⟨rfl, hb1⟩
  rw [HZ.out]
  cases zz
  all_goals
    have HB1 := hideIt (Bstep HB0.out hb1)
    have HD1 := hideIt (blk_below HD0.out hb1)
    have HR1 := hideIt (blk_below HR0.out hb1)
    clear hb1 HB0 HD0 HR0
    have d0 := (blk_cell HD1.out 0).trans rfl
    have d1 := (blk_cell HD1.out 1).trans rfl
    have d2 := (blk_cell HD1.out 2).trans rfl
    have d3 := (blk_cell HD1.out 3).trans rfl
    have dl := (Array.getElem?_eq_some_iff.1 HD1.out).1
    have r0 := (blk_cell HR1.out 0).trans rfl
    have r1 := (blk_cell HR1.out 1).trans rfl
    have r2 := (blk_cell HR1.out 2).trans rfl
    have r3 := (blk_cell HR1.out 3).trans rfl
    have rl := (Array.getElem?_eq_some_iff.1 HR1.out).1
    have rf : ∀ j, w1.frozen? ⟨w.heap.size + 1, j, none⟩ = false := fun j => by simp [World.frozen?, HR1.out]
  · go_wp2
    have hb9 := set_cs (i := 3) (u := .slice none 0 0) (set_cs (i := 2) (u := .slice none 0 0) (set_cs (i := 1) (u := .int .i64 0) (set_cs (i := 0) (u := .int .i64 0) HR1.out)))
    have v0 := (blk_cell hb9 0).trans rfl
    have v1 := (blk_cell hb9 1).trans rfl
    have v2 := (blk_cell hb9 2).trans rfl
    have v3 := (blk_cell hb9 3).trans rfl
    exact bodyPost_ret (v := .tuple #[.agg #[.int .i64 0, .int .i64 0, .slice none 0 0, .slice none 0 0], .bool false]) (by simp [results, Tryd.results26, go_sem, v0, v1, v2, v3]) rfl ⟨.inr ⟨HZ.out, rfl⟩, (((HB1.out.setCell (p := ⟨w.heap.size + 1, 0, none⟩) (by show w.heap.size ≤ w.heap.size + 1; omega) _).setCell (p := ⟨w.heap.size + 1, 1, none⟩) (by show w.heap.size ≤ w.heap.size + 1; omega) _).setCell (p := ⟨w.heap.size + 1, 2, none⟩) (by show w.heap.size ≤ w.heap.size + 1; omega) _).setCell (p := ⟨w.heap.size + 1, 3, none⟩) (by show w.heap.size ≤ w.heap.size + 1; omega) _⟩
  · go_wp2_with fail
    refine (workOf_any r _ _ _ _ _ _ _ _ _ _).mono ?_
    rintro e w2 ⟨b, rfl, hb, hW2, hb2⟩
    have hz1 : w.heap.size + 1 < w1.heap.size := rl
    have HW2 := hideIt hW2
    have HB2 := hideIt (Bstep HB1.out hb2)
    have HR2 := hideIt (blk_below HR1.out hb2)
    clear hW2 hb2 HB1 HD1 HR1 d0 d1 d2 d3 dl r0 r1 r2 r3 rl rf
    obtain ⟨c0, c1, c2, c3⟩ := HW2.out.cells
    have cl := (Array.getElem?_eq_some_iff.1 HW2.out).1
    have HO := hideIt (desk_doc HZ.out)
    have r0 := (blk_cell HR2.out 0).trans rfl
    have r1 := (blk_cell HR2.out 1).trans rfl
    have r2 := (blk_cell HR2.out 2).trans rfl
    have r3 := (blk_cell HR2.out 3).trans rfl
    have rl := (Array.getElem?_eq_some_iff.1 HR2.out).1
    have rf : ∀ j, w2.frozen? ⟨w.heap.size + 1, j, none⟩ = false := fun j => by simp [World.frozen?, HR2.out]
    have hbR : ¬ b = w.heap.size + 1 := by omega
    have hRb : ¬ w.heap.size + 1 = b := by omega
    go_wp2
    have HBd := hideIt HB2.out.drew
    have HWd : Hid (WorkAt (World.drew w2) b _ _ r _) := HW2.out
    have HRd : Hid ((World.drew w2).heap[w.heap.size + 1]? = some (.cells #[.int .i64 0, .int .i64 0, .slice none 0 0, .slice none 0 0] 46 (0, 0))) := HR2.out
    have hrz : w.heap.size + 1 < (World.drew w2).heap.size := rl
    clear HB2 HW2 HR2
    go_region_with (first | (go_at_call 70; refine (seenY_any l HO.out g cap x _ (HL.out.below HBd.out hgw) hn hcap (errB HBd.out h0 he) (posB HBd.out h0)).mono ?_; rintro e w3 ⟨⟨G, hG, rfl, hI, hf⟩, hb3⟩; have HBd := hideIt (Bstep HBd.out hb3); have HWd := hideIt (HWd.out.below hb3); have HRd := hideIt (blk_below HRd.out hb3); obtain ⟨c0, c1, c2, c3⟩ := HWd.out.cells; have cl := (Array.getElem?_eq_some_iff.1 HWd.out).1; have r0 := (blk_cell HRd.out 0).trans rfl; have r1 := (blk_cell HRd.out 1).trans rfl; have r2 := (blk_cell HRd.out 2).trans rfl; have r3 := (blk_cell HRd.out 3).trans rfl; have rl := (Array.getElem?_eq_some_iff.1 HRd.out).1; have rf : ∀ j, w3.frozen? ⟨w.heap.size + 1, j, none⟩ = false := (fun j => by simp [World.frozen?, HRd.out]); have HIT := hideIt hI; have HFZ := hideIt hf; clear hI hf hb3))
    all_goals
      go_wp2
      have hGR : G ≠ w.heap.size + 1 := by omega
      have hb9 := set_cs (i := 3) (u := .slice none 0 0) (set_cs (i := 2) (u := .slice (some ⟨G, 0, none⟩) 3 3) (set_cs (i := 1) (u := .int .i64 r) (set_cs (i := 0) (u := .int .i64 1) HRd.out)))
      have v0 := (blk_cell hb9 0).trans rfl
      have v1 := (blk_cell hb9 1).trans rfl
      have v2 := (blk_cell hb9 2).trans rfl
      have v3 := (blk_cell hb9 3).trans rfl
      exact bodyPost_ret (v := .tuple #[.agg #[.int .i64 1, .int .i64 r, .slice (some ⟨G, 0, none⟩) 3 3, .slice none 0 0], .bool true]) (by simp [results, Tryd.results26, go_sem, v0, v1, v2, v3]) rfl ⟨.inl ⟨HZ.out, G, by omega, rfl, (((HIT.out.away hGR).away hGR).away hGR).away hGR, fun j => by simp [HFZ.out j]⟩, (((HBd.out.setCell (p := ⟨w.heap.size + 1, 0, none⟩) (by show w.heap.size ≤ w.heap.size + 1; omega) _).setCell (p := ⟨w.heap.size + 1, 1, none⟩) (by show w.heap.size ≤ w.heap.size + 1; omega) _).setCell (p := ⟨w.heap.size + 1, 2, none⟩) (by show w.heap.size ≤ w.heap.size + 1; omega) _).setCell (p := ⟨w.heap.size + 1, 3, none⟩) (by show w.heap.size ≤ w.heap.size + 1; omega) _⟩
theorem l1SeenE_any (l : List Op7) (g cap : Nat) (w : World) (hl : OpsAt w g l) (hn : l.length ≤ 1048576) (hcap : l.length ≤ cap) (hok : l.all okO = true) (hord : ordB l = true) :
    Calls Tryd.prog 103 #[.slice (some ⟨g, 0, none⟩) l.length cap] w fun e w' => (∃ G, w.heap.size ≤ G ∧ e = .returned (.slice (some ⟨G, 0, none⟩) 3 3) ∧ IntsAt w' G [cnt l 1, cnt l 2, cnt l 3]) ∧ Below w.heap.size w w' := by
  refine (l1Seen_any l g cap w hl hn hcap hok hord).mono ?_
  rintro e w' ⟨rfl, h, hb⟩
  exact ⟨⟨_, Nat.le_refl _, rfl, h⟩, hb⟩
set_option maxRecDepth 100000 in
set_option maxHeartbeats 1000000 in
theorem l21Pull_any (r : Int) (l ws : List Op7) (s : List Int) (hO : opsB l = true) (g cap g2 cap2 g3 cap3 : Nat) (w : World) (hl : OpsAt w g l) (hn : l.length ≤ 1048576) (hcap : l.length ≤ cap) :
    Calls Tryd.prog 69 #[.agg #[.int .i64 r, .slice (some ⟨g, 0, none⟩) l.length cap, .slice (some ⟨g2, 0, none⟩) ws.length cap2, .slice (some ⟨g3, 0, none⟩) s.length cap3]] w fun e w' =>
      (∃ G K, e = .returned (.agg #[.int .i64 1, .int .i64 r, .slice (some ⟨G, 0, none⟩) 3 3, .slice (some ⟨K, 0, none⟩) 0 0]) ∧ IntsAt w' G [cnt l 1, cnt l 2, cnt l 3] ∧ w.heap.size ≤ G) ∧ Below w.heap.size w w' := by
  have HL := hideIt hl
  have hgw := hl.1
  have HOP := hideIt (opsB_parts hO)
  clear hl
  have hB0 : Below w.heap.size w ((w.alloc (.cells #[.int .i64 r, .slice (some ⟨g, 0, none⟩) l.length cap, .slice (some ⟨g2, 0, none⟩) ws.length cap2, .slice (some ⟨g3, 0, none⟩) s.length cap3] 41)).alloc (.cells #[.int .i64 0, .int .i64 0, .slice none 0 0, .slice none 0 0] 46)) := ((Below.refl _ _).alloc (Nat.le_refl _) _).alloc (by simp) _
  have hD0 : ((w.alloc (.cells #[.int .i64 r, .slice (some ⟨g, 0, none⟩) l.length cap, .slice (some ⟨g2, 0, none⟩) ws.length cap2, .slice (some ⟨g3, 0, none⟩) s.length cap3] 41)).alloc (.cells #[.int .i64 0, .int .i64 0, .slice none 0 0, .slice none 0 0] 46)).heap[w.heap.size]? = some (.cells #[.int .i64 r, .slice (some ⟨g, 0, none⟩) l.length cap, .slice (some ⟨g2, 0, none⟩) ws.length cap2, .slice (some ⟨g3, 0, none⟩) s.length cap3] 41 (0, 0)) := blk_below (World.alloc_heap_new _ _) ((Below.refl _ _).alloc (Nat.le_refl _) _)
  have hR0 : ((w.alloc (.cells #[.int .i64 r, .slice (some ⟨g, 0, none⟩) l.length cap, .slice (some ⟨g2, 0, none⟩) ws.length cap2, .slice (some ⟨g3, 0, none⟩) s.length cap3] 41)).alloc (.cells #[.int .i64 0, .int .i64 0, .slice none 0 0, .slice none 0 0] 46)).heap[w.heap.size + 1]? = some (.cells #[.int .i64 0, .int .i64 0, .slice none 0 0, .slice none 0 0] 46 (0, 0)) := by
    have h := World.alloc_heap_new (w.alloc (.cells #[.int .i64 r, .slice (some ⟨g, 0, none⟩) l.length cap, .slice (some ⟨g2, 0, none⟩) ws.length cap2, .slice (some ⟨g3, 0, none⟩) s.length cap3] 41)) (.cells #[.int .i64 0, .int .i64 0, .slice none 0 0, .slice none 0 0] 46)
    rw [World.size_alloc] at h
    exact h
  have HB0 := hideIt hB0
  have HD0 := hideIt hD0
  have HR0 := hideIt hR0
  clear hB0 hD0 hR0
  go_enter Tryd.func69, Tryd.ntmps69
  go_wp2_with fail
  generalize (w.alloc (.cells #[.int .i64 r, .slice (some ⟨g, 0, none⟩) l.length cap, .slice (some ⟨g2, 0, none⟩) ws.length cap2, .slice (some ⟨g3, 0, none⟩) s.length cap3] 41)).alloc (.cells #[.int .i64 0, .int .i64 0, .slice none 0 0, .slice none 0 0] 46) = W0 at *
  have d0 := (blk_cell HD0.out 0).trans rfl
  have d1 := (blk_cell HD0.out 1).trans rfl
  have r0 := (blk_cell HR0.out 0).trans rfl
  have r1 := (blk_cell HR0.out 1).trans rfl
  have r2 := (blk_cell HR0.out 2).trans rfl
  have r3 := (blk_cell HR0.out 3).trans rfl
  have rl := (Array.getElem?_eq_some_iff.1 HR0.out).1
  have rf : ∀ j, W0.frozen? ⟨w.heap.size + 1, j, none⟩ = false := fun j => by simp [World.frozen?, HR0.out]
  have HBd := hideIt HB0.out.drew
  have HDd : Hid ((World.drew W0).heap[w.heap.size]? = some (.cells #[.int .i64 r, .slice (some ⟨g, 0, none⟩) l.length cap, .slice (some ⟨g2, 0, none⟩) ws.length cap2, .slice (some ⟨g3, 0, none⟩) s.length cap3] 41 (0, 0))) := HD0.out
  have HRd : Hid ((World.drew W0).heap[w.heap.size + 1]? = some (.cells #[.int .i64 0, .int .i64 0, .slice none 0 0, .slice none 0 0] 46 (0, 0))) := HR0.out
  have hrz : w.heap.size + 1 < W0.heap.size := rl
  clear HB0 HD0 HR0
  go_wp2
  have hSd : (World.drew W0).cell? ⟨w.heap.size, 0, none⟩ = some (.int .i64 r) ∧ (World.drew W0).cell? ⟨w.heap.size, 1, none⟩ = some (.slice (some ⟨g, 0, none⟩) l.length cap) := ⟨(blk_cell HDd.out 0).trans rfl, (blk_cell HDd.out 1).trans rfl⟩
  refine wp_region_held_drew (S := fun W' => W'.cell? ⟨w.heap.size, 0, none⟩ = some (.int .i64 r) ∧ W'.cell? ⟨w.heap.size, 1, none⟩ = some (.slice (some ⟨g, 0, none⟩) l.length cap)) (by kernel_rfl) hSd (fun hHeld => ?_)
  try dsimp only at hHeld
  refine wpAnyH_take (i := 0) (oi := { dst := some 3, op := Op.fieldAddr 41 (Operand.tmp 1) 0, type := 0, pos := "l21_desk.go:65", after := #[], guard := none }) (v := ?_) rfl (by kernel_rfl) (by kernel_rfl) (by kernel_rfl) (fun _ _ _ h => h) (Or.inl ⟨by rfl, ?_⟩) (by with_reducible assumption) ?_
  rotate_left
  · (intro wq hSw; (try dsimp only at hSw); go_simp; try with_reducible rfl)
  try simp only [Act.put, List.setIfInBounds_toArray, List.set_cons_zero, List.set_cons_succ]
  refine wpAnyH_take (i := 1) (oi := { dst := some 4, op := Op.load 3 (Operand.tmp 3), type := 3, pos := "l21_desk.go:65", after := #[{ on := 0, ground := Ground.data }], guard := none }) (v := ?_) rfl (by kernel_rfl) (by kernel_rfl) (by kernel_rfl) (fun _ _ _ h => h) (Or.inl ⟨by rfl, ?_⟩) (by with_reducible assumption) ?_
  rotate_left
  · (intro wq hSw; (try dsimp only at hSw); go_simp; try with_reducible rfl)
  try simp only [Act.put, List.setIfInBounds_toArray, List.set_cons_zero, List.set_cons_succ]
  refine wpAnyH_take (i := 2) (oi := { dst := some 5, op := Op.fieldAddr 41 (Operand.tmp 1) 1, type := 0, pos := "l21_desk.go:65", after := #[], guard := none }) (v := ?_) rfl (by kernel_rfl) (by kernel_rfl) (by kernel_rfl) (fun _ _ _ h => h) (Or.inl ⟨by rfl, ?_⟩) (by with_reducible assumption) ?_
  rotate_left
  · (intro wq hSw; (try dsimp only at hSw); go_simp; try with_reducible rfl)
  try simp only [Act.put, List.setIfInBounds_toArray, List.set_cons_zero, List.set_cons_succ]
  refine wpAnyH_take (i := 3) (oi := { dst := some 6, op := Op.fieldAddr 39 (Operand.tmp 5) 0, type := 0, pos := "l21_desk.go:65", after := #[{ on := 2, ground := Ground.data }], guard := none }) (v := ?_) rfl (by kernel_rfl) (by kernel_rfl) (by kernel_rfl) (fun _ _ _ h => h) (Or.inl ⟨by rfl, ?_⟩) (by with_reducible assumption) ?_
  rotate_left
  · (intro wq hSw; (try dsimp only at hSw); go_simp; try with_reducible rfl)
  try simp only [Act.put, List.setIfInBounds_toArray, List.set_cons_zero, List.set_cons_succ]
  refine wpAnyH_take (i := 4) (oi := { dst := some 7, op := Op.load 24 (Operand.tmp 6), type := 24, pos := "l21_desk.go:65", after := #[{ on := 3, ground := Ground.data }], guard := none }) (v := ?_) rfl (by kernel_rfl) (by kernel_rfl) (by kernel_rfl) (fun _ _ _ h => h) (Or.inl ⟨by rfl, ?_⟩) (by with_reducible assumption) ?_
  rotate_left
  · (intro wq hSw; (try dsimp only at hSw); go_simp; try with_reducible rfl)
  try simp only [Act.put, List.setIfInBounds_toArray, List.set_cons_zero, List.set_cons_succ]
  refine wpAnyH_ready (rs := [5, 6]) (by kernel_rfl) (by simp) ?_
  refine AllReadyH.cons (o := { dst := some 8, op := Op.call { callee := Callee.value (Operand.func 103), args := #[Operand.tmp 7], argTypes := #[24] }, type := 33, pos := "l21_desk.go:65", after := #[{ on := 4, ground := Ground.data }], guard := none }) rfl (fun K hK => ?_) ?_
  · skip
    go_simp
    go_wp2_with (first | (go_at_call 103; refine (l1SeenE_any l g cap _ (HL.out.below HBd.out hgw) hn hcap HOP.out.1 HOP.out.2).mono ?_; rintro e w3 ⟨⟨G, hG, rfl, hI⟩, hb3⟩))
    have HBd := hideIt (Bstep HBd.out hb3)
    have HDd := hideIt (blk_below HDd.out hb3)
    have HRd := hideIt (blk_below HRd.out hb3)
    have HIT := hideIt hI
    have hGR : G ≠ w.heap.size + 1 := by simp at hG; omega
    have hS : w3.cell? ⟨w.heap.size, 0, none⟩ = some (.int .i64 r) ∧ w3.cell? ⟨w.heap.size, 1, none⟩ = some (.slice (some ⟨g, 0, none⟩) l.length cap) := ⟨(blk_cell HDd.out 0).trans rfl, (blk_cell HDd.out 1).trans rfl⟩
    clear hI hb3
    refine hK.out _ _ (by with_reducible assumption) (fun hHeld => ?_)
    clear hK K hHeld
    try simp only [Act.put, List.setIfInBounds_toArray, List.set_cons_zero, List.set_cons_succ]
    refine wpAnyH_ready (rs := [6]) (by kernel_rfl) (by simp) ?_
    refine AllReadyH.cons (o := { dst := some 9, op := Op.buildSlice 24 0 #[], type := 24, pos := "l21_desk.go:65", after := #[], guard := none }) rfl (fun K hK => ?_) AllReadyH.nil
    go_simp
    have HBd : Hid (Below w.heap.size w (w3.alloc (.cells #[] 71))) := HBd.out.alloc HBd.out.size (.cells #[] 71)
    have HDd : Hid ((World.heap (w3.alloc (.cells #[] 71)))[w.heap.size]? = some (.cells #[.int .i64 r, .slice (some ⟨g, 0, none⟩) l.length cap, .slice (some ⟨g2, 0, none⟩) ws.length cap2, .slice (some ⟨g3, 0, none⟩) s.length cap3] 41 (0, 0))) := blk_below HDd.out ((Below.refl _ _).alloc (Nat.le_refl _) (.cells #[] 71))
    have HRd : Hid ((World.heap (w3.alloc (.cells #[] 71)))[w.heap.size + 1]? = some (.cells #[.int .i64 0, .int .i64 0, .slice none 0 0, .slice none 0 0] 46 (0, 0))) := blk_below HRd.out ((Below.refl _ _).alloc (Nat.le_refl _) (.cells #[] 71))
    have HIT := hideIt (HIT.out.below ((Below.refl _ _).alloc (Nat.le_refl _) (.cells #[] 71)) HIT.out.1)
    have hS : (w3.alloc (.cells #[] 71)).cell? ⟨w.heap.size, 0, none⟩ = some (.int .i64 r) ∧ (w3.alloc (.cells #[] 71)).cell? ⟨w.heap.size, 1, none⟩ = some (.slice (some ⟨g, 0, none⟩) l.length cap) := ⟨(blk_cell HDd.out 0).trans rfl, (blk_cell HDd.out 1).trans rfl⟩
    refine hK.out _ _ (by with_reducible assumption) (fun hHeld => ?_)
    clear hK K hHeld
    try simp only [Act.put, List.setIfInBounds_toArray, List.set_cons_zero, List.set_cons_succ]
    refine wpAnyH_take (i := 7) (oi := { dst := some 10, op := Op.build 46 #[(0, Operand.const (Value.int IntKind.i64 1)), (1, Operand.tmp 4), (2, Operand.tmp 8), (3, Operand.tmp 9)], type := 46, pos := "l21_desk.go:65", after := #[{ on := 1, ground := Ground.data }, { on := 5, ground := Ground.data }, { on := 6, ground := Ground.data }], guard := none }) (v := ?_) rfl (by kernel_rfl) (by kernel_rfl) (by kernel_rfl) (fun _ _ _ h => h) (Or.inl ⟨by rfl, ?_⟩) (by with_reducible assumption) ?_
    rotate_left
    · (intro wq hSw; (try dsimp only at hSw); go_simp; try with_reducible rfl)
    try simp only [Act.put, List.setIfInBounds_toArray, List.set_cons_zero, List.set_cons_succ]
    have r0 := (blk_cell HRd.out 0).trans rfl
    have r1 := (blk_cell HRd.out 1).trans rfl
    have r2 := (blk_cell HRd.out 2).trans rfl
    have r3 := (blk_cell HRd.out 3).trans rfl
    have rl := (Array.getElem?_eq_some_iff.1 HRd.out).1
    have rf : ∀ j, World.frozen? (w3.alloc (.cells #[] 71)) ⟨w.heap.size + 1, j, none⟩ = false := fun j => by have h := HRd.out; simp [World.frozen?, h]
    refine wpAnyH_ready (rs := [8]) (by kernel_rfl) (by simp) ?_
    refine AllReadyH.cons (o := { dst := none, op := Op.store 46 (Operand.tmp 2) (Operand.tmp 10), type := 0, pos := "l21_desk.go:65", after := #[{ on := 7, ground := Ground.data }, { on := 5, ground := Ground.chain }, { on := 0, ground := Ground.phase }, { on := 1, ground := Ground.phase }, { on := 2, ground := Ground.phase }, { on := 3, ground := Ground.phase }, { on := 4, ground := Ground.phase }, { on := 5, ground := Ground.phase }, { on := 6, ground := Ground.phase }, { on := 7, ground := Ground.phase }], guard := none }) rfl (fun K hK => ?_) AllReadyH.nil
    go_simp
    have hn1 : w.heap.size ≠ w.heap.size + 1 := by omega
    refine hK.out _ _ ⟨(blk_cell (set_off (set_off (set_off (set_off HDd.out hn1) hn1) hn1) hn1) 0).trans rfl, (blk_cell (set_off (set_off (set_off (set_off HDd.out hn1) hn1) hn1) hn1) 1).trans rfl⟩ (fun hHeld => ?_)
    clear hK K hHeld
    try simp only [Act.put, List.setIfInBounds_toArray, List.set_cons_zero, List.set_cons_succ]
    refine wpAnyH_done (by kernel_rfl) ?_ _
    go_wp2
    have hb9 := set_cs (i := 3) (u := .slice (some ⟨w3.heap.size, 0, none⟩) 0 0) (set_cs (i := 2) (u := .slice (some ⟨G, 0, none⟩) 3 3) (set_cs (i := 1) (u := .int .i64 r) (set_cs (i := 0) (u := .int .i64 1) HRd.out)))
    have v0 := (blk_cell hb9 0).trans rfl
    have v1 := (blk_cell hb9 1).trans rfl
    have v2 := (blk_cell hb9 2).trans rfl
    have v3 := (blk_cell hb9 3).trans rfl
    exact bodyPost_ret (v := .agg #[.int .i64 1, .int .i64 r, .slice (some ⟨G, 0, none⟩) 3 3, .slice (some ⟨w3.heap.size, 0, none⟩) 0 0]) (by simp [results, Tryd.results69, go_sem, v0, v1, v2, v3]) rfl ⟨⟨G, _, rfl, (((HIT.out.away hGR).away hGR).away hGR).away hGR, by simp at hG; omega⟩, (((HBd.out.setCell (p := ⟨w.heap.size + 1, 0, none⟩) (by show w.heap.size ≤ w.heap.size + 1; omega) _).setCell (p := ⟨w.heap.size + 1, 1, none⟩) (by show w.heap.size ≤ w.heap.size + 1; omega) _).setCell (p := ⟨w.heap.size + 1, 2, none⟩) (by show w.heap.size ≤ w.heap.size + 1; omega) _).setCell (p := ⟨w.heap.size + 1, 3, none⟩) (by show w.heap.size ≤ w.heap.size + 1; omega) _⟩
  refine AllReadyH.cons (o := { dst := some 9, op := Op.buildSlice 24 0 #[], type := 24, pos := "l21_desk.go:65", after := #[], guard := none }) rfl (fun K hK => ?_) AllReadyH.nil
  go_simp
  have HBd : Hid (Below w.heap.size w (World.drew (W0.alloc (.cells #[] 71)))) := HBd.out.alloc HBd.out.size (.cells #[] 71)
  have HDd : Hid ((World.heap (World.drew (W0.alloc (.cells #[] 71))))[w.heap.size]? = some (.cells #[.int .i64 r, .slice (some ⟨g, 0, none⟩) l.length cap, .slice (some ⟨g2, 0, none⟩) ws.length cap2, .slice (some ⟨g3, 0, none⟩) s.length cap3] 41 (0, 0))) := blk_below HDd.out ((Below.refl _ _).alloc (Nat.le_refl _) (.cells #[] 71))
  have HRd : Hid ((World.heap (World.drew (W0.alloc (.cells #[] 71))))[w.heap.size + 1]? = some (.cells #[.int .i64 0, .int .i64 0, .slice none 0 0, .slice none 0 0] 46 (0, 0))) := blk_below HRd.out ((Below.refl _ _).alloc (Nat.le_refl _) (.cells #[] 71))
  have hS : (World.drew (W0.alloc (.cells #[] 71))).cell? ⟨w.heap.size, 0, none⟩ = some (.int .i64 r) ∧ (World.drew (W0.alloc (.cells #[] 71))).cell? ⟨w.heap.size, 1, none⟩ = some (.slice (some ⟨g, 0, none⟩) l.length cap) := ⟨(blk_cell HDd.out 0).trans rfl, (blk_cell HDd.out 1).trans rfl⟩
  refine hK.out _ _ (by with_reducible assumption) (fun hHeld => ?_)
  clear hK K hHeld
  try simp only [Act.put, List.setIfInBounds_toArray, List.set_cons_zero, List.set_cons_succ]
  refine wpAnyH_ready (rs := [5]) (by kernel_rfl) (by simp) ?_
  refine AllReadyH.cons (o := { dst := some 8, op := Op.call { callee := Callee.value (Operand.func 103), args := #[Operand.tmp 7], argTypes := #[24] }, type := 33, pos := "l21_desk.go:65", after := #[{ on := 4, ground := Ground.data }], guard := none }) rfl (fun K hK => ?_) AllReadyH.nil
  go_simp
  go_wp2_with (first | (go_at_call 103; refine (l1SeenE_any l g cap _ (HL.out.below HBd.out hgw) hn hcap HOP.out.1 HOP.out.2).mono ?_; rintro e w3 ⟨⟨G, hG, rfl, hI⟩, hb3⟩))
  have HBd := hideIt (Bstep HBd.out hb3)
  have HDd := hideIt (blk_below HDd.out hb3)
  have HRd := hideIt (blk_below HRd.out hb3)
  have HIT := hideIt hI
  have hGR : G ≠ w.heap.size + 1 := by simp at hG; omega
  have hS : w3.cell? ⟨w.heap.size, 0, none⟩ = some (.int .i64 r) ∧ w3.cell? ⟨w.heap.size, 1, none⟩ = some (.slice (some ⟨g, 0, none⟩) l.length cap) := ⟨(blk_cell HDd.out 0).trans rfl, (blk_cell HDd.out 1).trans rfl⟩
  clear hI hb3
  refine hK.out _ _ (by with_reducible assumption) (fun hHeld => ?_)
  clear hK K hHeld
  try simp only [Act.put, List.setIfInBounds_toArray, List.set_cons_zero, List.set_cons_succ]
  refine wpAnyH_take (i := 7) (oi := { dst := some 10, op := Op.build 46 #[(0, Operand.const (Value.int IntKind.i64 1)), (1, Operand.tmp 4), (2, Operand.tmp 8), (3, Operand.tmp 9)], type := 46, pos := "l21_desk.go:65", after := #[{ on := 1, ground := Ground.data }, { on := 5, ground := Ground.data }, { on := 6, ground := Ground.data }], guard := none }) (v := ?_) rfl (by kernel_rfl) (by kernel_rfl) (by kernel_rfl) (fun _ _ _ h => h) (Or.inl ⟨by rfl, ?_⟩) (by with_reducible assumption) ?_
  rotate_left
  · (intro wq hSw; (try dsimp only at hSw); go_simp; try with_reducible rfl)
  try simp only [Act.put, List.setIfInBounds_toArray, List.set_cons_zero, List.set_cons_succ]
  have r0 := (blk_cell HRd.out 0).trans rfl
  have r1 := (blk_cell HRd.out 1).trans rfl
  have r2 := (blk_cell HRd.out 2).trans rfl
  have r3 := (blk_cell HRd.out 3).trans rfl
  have rl := (Array.getElem?_eq_some_iff.1 HRd.out).1
  have rf : ∀ j, World.frozen? w3 ⟨w.heap.size + 1, j, none⟩ = false := fun j => by have h := HRd.out; simp [World.frozen?, h]
  refine wpAnyH_ready (rs := [8]) (by kernel_rfl) (by simp) ?_
  refine AllReadyH.cons (o := { dst := none, op := Op.store 46 (Operand.tmp 2) (Operand.tmp 10), type := 0, pos := "l21_desk.go:65", after := #[{ on := 7, ground := Ground.data }, { on := 5, ground := Ground.chain }, { on := 0, ground := Ground.phase }, { on := 1, ground := Ground.phase }, { on := 2, ground := Ground.phase }, { on := 3, ground := Ground.phase }, { on := 4, ground := Ground.phase }, { on := 5, ground := Ground.phase }, { on := 6, ground := Ground.phase }, { on := 7, ground := Ground.phase }], guard := none }) rfl (fun K hK => ?_) AllReadyH.nil
  go_simp
  have hn1 : w.heap.size ≠ w.heap.size + 1 := by omega
  refine hK.out _ _ ⟨(blk_cell (set_off (set_off (set_off (set_off HDd.out hn1) hn1) hn1) hn1) 0).trans rfl, (blk_cell (set_off (set_off (set_off (set_off HDd.out hn1) hn1) hn1) hn1) 1).trans rfl⟩ (fun hHeld => ?_)
  clear hK K hHeld
  try simp only [Act.put, List.setIfInBounds_toArray, List.set_cons_zero, List.set_cons_succ]
  refine wpAnyH_done (by kernel_rfl) ?_ _
  go_wp2
  have hb9 := set_cs (i := 3) (u := .slice (some ⟨W0.heap.size, 0, none⟩) 0 0) (set_cs (i := 2) (u := .slice (some ⟨G, 0, none⟩) 3 3) (set_cs (i := 1) (u := .int .i64 r) (set_cs (i := 0) (u := .int .i64 1) HRd.out)))
  have v0 := (blk_cell hb9 0).trans rfl
  have v1 := (blk_cell hb9 1).trans rfl
  have v2 := (blk_cell hb9 2).trans rfl
  have v3 := (blk_cell hb9 3).trans rfl
  exact bodyPost_ret (v := .agg #[.int .i64 1, .int .i64 r, .slice (some ⟨G, 0, none⟩) 3 3, .slice (some ⟨W0.heap.size, 0, none⟩) 0 0]) (by simp [results, Tryd.results69, go_sem, v0, v1, v2, v3]) rfl ⟨⟨G, _, rfl, (((HIT.out.away hGR).away hGR).away hGR).away hGR, by simp at hG; omega⟩, (((HBd.out.setCell (p := ⟨w.heap.size + 1, 0, none⟩) (by show w.heap.size ≤ w.heap.size + 1; omega) _).setCell (p := ⟨w.heap.size + 1, 1, none⟩) (by show w.heap.size ≤ w.heap.size + 1; omega) _).setCell (p := ⟨w.heap.size + 1, 2, none⟩) (by show w.heap.size ≤ w.heap.size + 1; omega) _).setCell (p := ⟨w.heap.size + 1, 3, none⟩) (by show w.heap.size ≤ w.heap.size + 1; omega) _⟩
set_option maxRecDepth 100000 in
set_option maxHeartbeats 1000000 in
theorem specPull_any (r : Int) (l ws : List Op7) (s : List Int) (g cap g2 cap2 g3 cap3 : Nat) (w : World) (hl : OpsAt w g l) (hn : l.length ≤ 1048576) (hcap : l.length ≤ cap) (hs : OpsAt w g2 ws) (hn2 : ws.length ≤ 1048576) (hcap2 : ws.length ≤ cap2) (hi : IntsAt w g3 s) (hn3 : s.length ≤ 1048576) (hcap3 : s.length ≤ cap3) :
    Calls Tryd.prog 25 #[.agg #[.int .i64 r, .slice (some ⟨g, 0, none⟩) l.length cap, .slice (some ⟨g2, 0, none⟩) ws.length cap2, .slice (some ⟨g3, 0, none⟩) s.length cap3]] w fun e w' =>
      ((deskB r l ws s = true ∧ ∃ G K, e = .returned (.tuple #[.agg #[.int .i64 1, .int .i64 r, .slice (some ⟨G, 0, none⟩) 3 3, .slice (some ⟨K, 0, none⟩) 0 0], .bool true]) ∧ IntsAt w' G [cnt l 1, cnt l 2, cnt l 3]) ∨ (deskB r l ws s = false ∧ e = .returned (.tuple #[.agg #[.int .i64 0, .int .i64 0, .slice none 0 0, .slice none 0 0], .bool false]))) ∧ Below w.heap.size w w' := by
  have HL := hideIt hl
  have HS := hideIt hs
  have HI := hideIt hi
  have hgw := hl.1
  have hgs := hs.1
  have hgi := hi.1
  clear hl hs hi
  obtain ⟨zz, hzz⟩ : ∃ zz, deskB r l ws s = zz := ⟨_, rfl⟩
  have HZ := hideIt hzz
  clear hzz
  have hB0 : Below w.heap.size w ((w.alloc (.cells #[.int .i64 r, .slice (some ⟨g, 0, none⟩) l.length cap, .slice (some ⟨g2, 0, none⟩) ws.length cap2, .slice (some ⟨g3, 0, none⟩) s.length cap3] 41)).alloc (.cells #[.int .i64 0, .int .i64 0, .slice none 0 0, .slice none 0 0] 46)) := ((Below.refl _ _).alloc (Nat.le_refl _) _).alloc (by simp) _
  have hD0 : ((w.alloc (.cells #[.int .i64 r, .slice (some ⟨g, 0, none⟩) l.length cap, .slice (some ⟨g2, 0, none⟩) ws.length cap2, .slice (some ⟨g3, 0, none⟩) s.length cap3] 41)).alloc (.cells #[.int .i64 0, .int .i64 0, .slice none 0 0, .slice none 0 0] 46)).heap[w.heap.size]? = some (.cells #[.int .i64 r, .slice (some ⟨g, 0, none⟩) l.length cap, .slice (some ⟨g2, 0, none⟩) ws.length cap2, .slice (some ⟨g3, 0, none⟩) s.length cap3] 41 (0, 0)) := blk_below (World.alloc_heap_new _ _) ((Below.refl _ _).alloc (Nat.le_refl _) _)
  have hR0 : ((w.alloc (.cells #[.int .i64 r, .slice (some ⟨g, 0, none⟩) l.length cap, .slice (some ⟨g2, 0, none⟩) ws.length cap2, .slice (some ⟨g3, 0, none⟩) s.length cap3] 41)).alloc (.cells #[.int .i64 0, .int .i64 0, .slice none 0 0, .slice none 0 0] 46)).heap[w.heap.size + 1]? = some (.cells #[.int .i64 0, .int .i64 0, .slice none 0 0, .slice none 0 0] 46 (0, 0)) := by
    have h := World.alloc_heap_new (w.alloc (.cells #[.int .i64 r, .slice (some ⟨g, 0, none⟩) l.length cap, .slice (some ⟨g2, 0, none⟩) ws.length cap2, .slice (some ⟨g3, 0, none⟩) s.length cap3] 41)) (.cells #[.int .i64 0, .int .i64 0, .slice none 0 0, .slice none 0 0] 46)
    rw [World.size_alloc] at h
    exact h
  have HB0 := hideIt hB0
  have HD0 := hideIt hD0
  have HR0 := hideIt hR0
  clear hB0 hD0 hR0
  go_enter Tryd.func25, Tryd.ntmps25
  go_wp2_with fail
  refine (specDesk_any r l ws s g cap g2 cap2 g3 cap3 _ (HL.out.below HB0.out hgw) hn hcap (HS.out.below HB0.out hgs) hn2 hcap2 (HI.out.below HB0.out hgi) hn3 hcap3).mono ?_
  rintro e w1 ⟨rfl, hb1⟩
  rw [HZ.out]
  cases zz
  all_goals
    have HB1 := hideIt (Bstep HB0.out hb1)
    have HD1 := hideIt (blk_below HD0.out hb1)
    have HR1 := hideIt (blk_below HR0.out hb1)
    clear hb1 HB0 HD0 HR0
    have d0 := (blk_cell HD1.out 0).trans rfl
    have d1 := (blk_cell HD1.out 1).trans rfl
    have d2 := (blk_cell HD1.out 2).trans rfl
    have d3 := (blk_cell HD1.out 3).trans rfl
    have dl := (Array.getElem?_eq_some_iff.1 HD1.out).1
    have r0 := (blk_cell HR1.out 0).trans rfl
    have r1 := (blk_cell HR1.out 1).trans rfl
    have r2 := (blk_cell HR1.out 2).trans rfl
    have r3 := (blk_cell HR1.out 3).trans rfl
    have rl := (Array.getElem?_eq_some_iff.1 HR1.out).1
    have rf : ∀ j, w1.frozen? ⟨w.heap.size + 1, j, none⟩ = false := fun j => by simp [World.frozen?, HR1.out]
  · go_wp2
    have hb9 := set_cs (i := 3) (u := .slice none 0 0) (set_cs (i := 2) (u := .slice none 0 0) (set_cs (i := 1) (u := .int .i64 0) (set_cs (i := 0) (u := .int .i64 0) HR1.out)))
    have v0 := (blk_cell hb9 0).trans rfl
    have v1 := (blk_cell hb9 1).trans rfl
    have v2 := (blk_cell hb9 2).trans rfl
    have v3 := (blk_cell hb9 3).trans rfl
    exact bodyPost_ret (v := .tuple #[.agg #[.int .i64 0, .int .i64 0, .slice none 0 0, .slice none 0 0], .bool false]) (by simp [results, Tryd.results25, go_sem, v0, v1, v2, v3]) rfl ⟨.inr ⟨HZ.out, rfl⟩, (((HB1.out.setCell (p := ⟨w.heap.size + 1, 0, none⟩) (by show w.heap.size ≤ w.heap.size + 1; omega) _).setCell (p := ⟨w.heap.size + 1, 1, none⟩) (by show w.heap.size ≤ w.heap.size + 1; omega) _).setCell (p := ⟨w.heap.size + 1, 2, none⟩) (by show w.heap.size ≤ w.heap.size + 1; omega) _).setCell (p := ⟨w.heap.size + 1, 3, none⟩) (by show w.heap.size ≤ w.heap.size + 1; omega) _⟩
  · go_wp2_with fail
    refine (l21Pull_any r l ws s (desk_doc HZ.out) g cap g2 cap2 g3 cap3 _ (HL.out.below HB1.out hgw) hn hcap).mono ?_
    rintro e w2 ⟨⟨G, K, rfl, hI, hG⟩, hb2⟩
    have hGR : G ≠ w.heap.size + 1 := by omega
    have HIT := hideIt hI
    have HB2 := hideIt (Bstep HB1.out hb2)
    have HR2 := hideIt (blk_below HR1.out hb2)
    clear hI hb2 d0 d1 d2 d3 dl r0 r1 r2 r3 rl rf
    have r0 := (blk_cell HR2.out 0).trans rfl
    have r1 := (blk_cell HR2.out 1).trans rfl
    have r2 := (blk_cell HR2.out 2).trans rfl
    have r3 := (blk_cell HR2.out 3).trans rfl
    have rl := (Array.getElem?_eq_some_iff.1 HR2.out).1
    have rf : ∀ j, w2.frozen? ⟨w.heap.size + 1, j, none⟩ = false := fun j => by simp [World.frozen?, HR2.out]
    go_wp2
    have hb9 := set_cs (i := 3) (u := .slice (some ⟨K, 0, none⟩) 0 0) (set_cs (i := 2) (u := .slice (some ⟨G, 0, none⟩) 3 3) (set_cs (i := 1) (u := .int .i64 r) (set_cs (i := 0) (u := .int .i64 1) HR2.out)))
    have v0 := (blk_cell hb9 0).trans rfl
    have v1 := (blk_cell hb9 1).trans rfl
    have v2 := (blk_cell hb9 2).trans rfl
    have v3 := (blk_cell hb9 3).trans rfl
    exact bodyPost_ret (v := .tuple #[.agg #[.int .i64 1, .int .i64 r, .slice (some ⟨G, 0, none⟩) 3 3, .slice (some ⟨K, 0, none⟩) 0 0], .bool true]) (by simp [results, Tryd.results25, go_sem, v0, v1, v2, v3]) rfl ⟨.inl ⟨HZ.out, G, K, rfl, (((HIT.out.away hGR).away hGR).away hGR).away hGR⟩, (((HB2.out.setCell (p := ⟨w.heap.size + 1, 0, none⟩) (by show w.heap.size ≤ w.heap.size + 1; omega) _).setCell (p := ⟨w.heap.size + 1, 1, none⟩) (by show w.heap.size ≤ w.heap.size + 1; omega) _).setCell (p := ⟨w.heap.size + 1, 2, none⟩) (by show w.heap.size ≤ w.heap.size + 1; omega) _).setCell (p := ⟨w.heap.size + 1, 3, none⟩) (by show w.heap.size ≤ w.heap.size + 1; omega) _⟩
end Go.Proofs.YtficnhlkefpfnaaDoor

namespace Go.Proofs.YtficnhlkefpfnaaDoor
open Go.RowKit
set_option linter.unusedSimpArgs false
set_option linter.unusedVariables false
attribute [local go_sem ↓] Go.wp_at_zero Go.wp_at_succ

/-- Whether something was seen. -/
def seenB (s : List Int) (a b : Int) : Bool := decide (a ≤ (s.length : Int)) && decide (b ≤ s.getD (a - 1).toNat 0)
theorem seenB_no {s : List Int} {a b : Int} (h : ¬ a ≤ (s.length : Int)) : seenB s a b = false := by simp [seenB, h]
theorem seenB_at {s : List Int} {a b z : Int} (h : a ≤ (s.length : Int)) (hz : s[(a - 1).toNat]? = some z) : seenB s a b = decide (b ≤ z) := by unfold seenB; rw [List.getD, hz]; simp [h]
theorem seen_at {s : List Int} {a : Int} (h1 : 1 ≤ a) (h : a ≤ (s.length : Int)) : ∃ z, s[(a - 1).toNat]? = some z := ⟨_, List.getElem?_eq_getElem (by omega)⟩

set_option maxRecDepth 100000 in
set_option maxHeartbeats 2000000 in
theorem l12Seen_any (s : List Int) (g cap : Nat) (a b : Int) (w : World) (hs : IntsAt w g s) (hn : s.length ≤ 1048576) (hcap : s.length ≤ cap) (h1 : 1 ≤ a) (h3 : a ≤ 3) :
    Calls Tryd.prog 106 #[.slice (some ⟨g, 0, none⟩) s.length cap, .agg #[.int .i64 a, .int .i64 b]] w fun e w' => e = .returned (.bool (seenB s a b)) ∧ Below w.heap.size w w' := by
  by_cases h : a ≤ (s.length : Int)
  · obtain ⟨z, hz⟩ := seen_at h1 h
    have hc := hs.2 _ _ hz
    rw [seenB_at h hz]
    have hg := hs.1
    clear hz hs
    generalize s.length = n at *
    obtain rfl | rfl | rfl : a = 1 ∨ a = 2 ∨ a = 3 := by omega
    all_goals
      simp at hc
      go_enter Tryd.func106, Tryd.ntmps106
      go_wp2
      go_quiet (fail)
      go_wp2
      go_ret
      exact ⟨rfl, below_drewN ((Below.refl _ _).alloc (Nat.le_refl _) _) _⟩
  · rw [seenB_no h]
    clear hs
    generalize s.length = n at *
    obtain ⟨rfl, rfl⟩ | ⟨rfl, rfl⟩ | ⟨rfl, rfl⟩ | ⟨rfl, rfl⟩ | ⟨rfl, rfl⟩ | ⟨rfl, rfl⟩ : (a = 1 ∧ n = 0) ∨ (a = 2 ∧ n = 0) ∨ (a = 2 ∧ n = 1) ∨ (a = 3 ∧ n = 0) ∨ (a = 3 ∧ n = 1) ∨ (a = 3 ∧ n = 2) := by omega
    all_goals
      go_enter Tryd.func106, Tryd.ntmps106
      go_wp2
      go_quiet (fail)
      go_wp2
      go_ret
      exact ⟨rfl, below_drewN ((Below.refl _ _).alloc (Nat.le_refl _) _) _⟩

set_option maxRecDepth 100000 in
set_option maxHeartbeats 2000000 in
theorem wasSeen_any (s : List Int) (g cap : Nat) (a b : Int) (w : World) (hs : IntsAt w g s) (hn : s.length ≤ 1048576) (hcap : s.length ≤ cap) (h1 : 1 ≤ a) (h3 : a ≤ 3) :
    Calls Tryd.prog 127 #[.slice (some ⟨g, 0, none⟩) s.length cap, .agg #[.int .i64 a, .int .i64 b]] w fun e w' => e = .returned (.bool (seenB s a b)) ∧ Below w.heap.size w w' := by
  by_cases h : a ≤ (s.length : Int)
  · obtain ⟨z, hz⟩ := seen_at h1 h
    have hc := hs.2 _ _ hz
    rw [seenB_at h hz]
    have hg := hs.1
    clear hz hs
    generalize s.length = n at *
    obtain rfl | rfl | rfl : a = 1 ∨ a = 2 ∨ a = 3 := by omega
    all_goals
      simp at hc
      go_enter Tryd.func127, Tryd.ntmps127
      go_wp2
      go_quiet (fail)
      go_wp2
      go_ret
      exact ⟨rfl, below_drewN ((Below.refl _ _).alloc (Nat.le_refl _) _) _⟩
  · rw [seenB_no h]
    clear hs
    generalize s.length = n at *
    obtain ⟨rfl, rfl⟩ | ⟨rfl, rfl⟩ | ⟨rfl, rfl⟩ | ⟨rfl, rfl⟩ | ⟨rfl, rfl⟩ | ⟨rfl, rfl⟩ : (a = 1 ∧ n = 0) ∨ (a = 2 ∧ n = 0) ∨ (a = 2 ∧ n = 1) ∨ (a = 3 ∧ n = 0) ∨ (a = 3 ∧ n = 1) ∨ (a = 3 ∧ n = 2) := by omega
    all_goals
      go_enter Tryd.func127, Tryd.ntmps127
      go_wp2
      go_quiet (fail)
      go_wp2
      go_ret
      exact ⟨rfl, below_drewN ((Below.refl _ _).alloc (Nat.le_refl _) _) _⟩
end Go.Proofs.YtficnhlkefpfnaaDoor

namespace Go.Proofs.YtficnhlkefpfnaaDoor
set_option linter.unusedSimpArgs false
set_option linter.unusedVariables false

/-- It is among them. -/
def hasI (out : List Op7) (r m : Int) : Bool := decide (¬ findI out r m < 0)
theorem hasI_any (out : List Op7) (r m : Int) : hasI out r m = out.any (hasId r m) := by
  unfold hasI
  rw [Bool.eq_iff_iff, decide_eq_true_eq, List.any_eq_true]
  constructor
  · intro h
    obtain ⟨y, hy, h1, h2⟩ := findI_yes h
    exact ⟨y, hy, by simp [hasId, h1, h2]⟩
  · rintro ⟨y, hy, h⟩ hf
    have := findI_not hf y hy
    simp [hasId] at h
    exact this h
theorem hasI_more (out : List Op7) (o : Op7) (r m : Int) : hasI (out ++ [o]) r m = (hasI out r m || (o.a == r && o.b == m)) := by
  rw [hasI_any, hasI_any, List.any_append]
  simp [hasId]
/-- It can be told. -/
def rdy (s : List Int) (out : List Op7) (o : Op7) : Bool :=
  (!seenB s o.a o.b && !hasI out o.a o.b) && (decide (o.b - 1 = 0) || seenB s o.a (o.b - 1) || hasI out o.a (o.b - 1)) && (decide (o.c = 0 ∧ o.d = 0) || seenB s o.c o.d || hasI out o.c o.d)
def tell (l : List Op7) (s : List Int) (out : List Op7) : List Op7 := match l.find? (rdy s out) with | none => out | some o => out ++ [o]
def past (l : List Op7) (s : List Int) : Nat → List Op7
  | 0 => []
  | k + 1 => tell l s (past l s k)
theorem past_len (l : List Op7) (s : List Int) : ∀ k, (past l s k).length ≤ k
  | 0 => by simp [past]
  | k + 1 => by
    have ih := past_len l s k
    unfold past tell
    split <;> simp <;> omega
theorem past_end {l : List Op7} {s : List Int} {k : Nat} (h : l.find? (rdy s (past l s k)) = none) : ∀ j, k ≤ j → past l s j = past l s k := by
  intro j hj
  induction j with
  | zero => have : k = 0 := by omega
            rw [this]
  | succ j ih =>
    rcases Nat.lt_or_ge k (j + 1) with h' | h'
    · have e := ih (by omega)
      show tell l s (past l s j) = _
      rw [e]; unfold tell; rw [h]
    · have : k = j + 1 := by omega
      rw [this]
theorem past_next {l : List Op7} {s : List Int} {k i : Nat} (hi : i < l.length) (h : rdy s (past l s k) l[i] = true) (hb : ∀ j (hj : j < l.length), j < i → rdy s (past l s k) l[j] = false) : past l s (k + 1) = past l s k ++ [l[i]] := by
  have e : l.find? (rdy s (past l s k)) = some l[i] := by
    rw [List.find?_eq_some_iff_getElem]
    exact ⟨h, i, hi, rfl, fun j hj => by simp [hb j (by omega) hj]⟩
  show tell l s (past l s k) = _
  unfold tell; rw [e]
theorem past_none {l : List Op7} {s : List Int} {k : Nat} (hb : ∀ j (hj : j < l.length), rdy s (past l s k) l[j] = false) : l.find? (rdy s (past l s k)) = none := by
  rw [List.find?_eq_none]
  intro x hx
  obtain ⟨j, hj, rfl⟩ := List.getElem_of_mem hx
  simp [hb j hj]
theorem past_sub (l : List Op7) (s : List Int) : ∀ k, (∀ x ∈ past l s k, x ∈ l) ∧ (past l s k).Pairwise fun p q => ¬ (p.a = q.a ∧ p.b = q.b)
  | 0 => by simp [past]
  | k + 1 => by
    obtain ⟨h1, h2⟩ := past_sub l s k
    unfold past tell
    split
    · exact ⟨h1, h2⟩
    · rename_i o ho
      have hr := List.find?_some ho
      have hm := List.mem_of_find?_eq_some ho
      refine ⟨fun x hx => ?_, ?_⟩
      · rcases List.mem_append.1 hx with hx | hx
        · exact h1 x hx
        · rw [List.mem_singleton.1 hx]; exact hm
      · rw [List.pairwise_append]
        refine ⟨h2, by simp, fun x hx y hy hxy => ?_⟩
        rw [List.mem_singleton.1 hy] at hxy
        unfold rdy at hr
        simp only [Bool.and_eq_true, Bool.not_eq_true', hasI_any] at hr
        have := List.any_eq_false.1 hr.1.1.2 x hx
        simp [hasId, hxy] at this
theorem past_le (l : List Op7) (s : List Int) (k : Nat) : (past l s k).length ≤ l.length := by
  obtain ⟨h1, h2⟩ := past_sub l s k
  have hn : (past l s k).Nodup := h2.imp fun {p q} h e => h (by rw [e]; exact ⟨rfl, rfl⟩)
  exact hn.length_le_of_subset h1
/-- What OpsPast answers. -/
def ansP (l : List Op7) (s : List Int) (most : Int) : List Op7 := if opsB l = true then past l s most.toNat else []
theorem ansP_len (l : List Op7) (s : List Int) (most : Int) : (ansP l s most).length ≤ l.length := by
  unfold ansP
  split
  · exact past_le _ _ _
  · simp

/-- What the program keeps: of each how much was seen or told. -/
structure KN (s : List Int) (out : List Op7) (kn : List Int) : Prop where
  len : kn.length = 3
  said : ∀ r n, 1 ≤ r → r ≤ 3 → 1 ≤ n → seenB kn r n = (seenB s r n || hasI out r n)
/-- It can be told, by what the program keeps. -/
def rdyK (kn : List Int) (o : Op7) : Bool := !seenB kn o.a o.b && (decide (o.b - 1 = 0) || seenB kn o.a (o.b - 1)) && (decide (o.d = 0) || seenB kn o.c o.d)
theorem okO_refd {o : Op7} (h : okO o = true) : (o.c = 0 ∧ o.d = 0) ∨ (1 ≤ o.c ∧ o.c ≤ 3 ∧ 1 ≤ o.d ∧ o.d ≤ 12) := by
  have := h
  unfold okO at this
  rw [opB_true] at this
  omega
theorem KN.rdy {s : List Int} {out : List Op7} {kn : List Int} (h : KN s out kn) {o : Op7} (ho : okO o = true) : rdyK kn o = rdy s out o := by
  obtain ⟨h1, h2, h3, h4⟩ := okO_id ho
  unfold rdyK Go.Proofs.YtficnhlkefpfnaaDoor.rdy
  rw [h.said _ _ h1 h2 h3]
  have e1 : (decide (o.b - 1 = 0) || seenB kn o.a (o.b - 1)) = (decide (o.b - 1 = 0) || seenB s o.a (o.b - 1) || hasI out o.a (o.b - 1)) := by
    by_cases hz : o.b - 1 = 0
    · simp [hz]
    · rw [h.said _ _ h1 h2 (by omega)]; simp [hz]
  have e2 : (decide (o.d = 0) || seenB kn o.c o.d) = (decide (o.c = 0 ∧ o.d = 0) || seenB s o.c o.d || hasI out o.c o.d) := by
    rcases okO_refd ho with ⟨hc, hd⟩ | ⟨hc1, hc2, hd1, hd2⟩
    · simp [hc, hd]
    · rw [h.said _ _ hc1 hc2 hd1]
      have : ¬ o.d = 0 := by omega
      simp [this]
  rw [e1, e2, Bool.not_or]
theorem seenB_kn {kn : List Int} (hl : kn.length = 3) {r n : Int} (h1 : 1 ≤ r) (h3 : r ≤ 3) : seenB kn r n = decide (n ≤ kn.getD (r - 1).toNat 0) := by
  unfold seenB
  rw [hl]
  simp [h3]
theorem KN.next {s : List Int} {out : List Op7} {kn : List Int} (h : KN s out kn) {o : Op7} (ho : okO o = true) (hr : rdyK kn o = true) : KN s (out ++ [o]) (kn.set (o.a - 1).toNat o.b) := by
  obtain ⟨h1, h2, h3, h4⟩ := okO_id ho
  refine ⟨by simp [h.len], fun r n hr1 hr3 hn => ?_⟩
  have hl' : (kn.set (o.a - 1).toNat o.b).length = 3 := by simp [h.len]
  rw [seenB_kn hl' hr1 hr3, hasI_more, ← Bool.or_assoc, ← h.said r n hr1 hr3 hn, seenB_kn h.len hr1 hr3]
  unfold rdyK at hr
  rw [seenB_kn h.len h1 h2, seenB_kn h.len h1 h2] at hr
  simp only [Bool.and_eq_true, Bool.not_eq_true', decide_eq_false_iff_not, Bool.or_eq_true, decide_eq_true_eq] at hr
  have hlen := h.len
  by_cases hra : o.a = r
  · subst hra
    have e : (kn.set (o.a - 1).toNat o.b).getD (o.a - 1).toNat 0 = o.b := by
      rw [List.getD, List.getElem?_set_self (by omega)]; rfl
    rw [e, Bool.eq_iff_iff]
    simp only [Bool.or_eq_true, decide_eq_true_eq, Bool.and_eq_true, beq_self_eq_true, true_and, beq_iff_eq]
    omega
  · have e : (kn.set (o.a - 1).toNat o.b).getD (r - 1).toNat 0 = kn.getD (r - 1).toNat 0 := by
      rw [List.getD, List.getElem?_set_ne (by omega)]; rfl
    rw [e]
    simp [hra]
/-- At the beginning: what was seen of three, and nothing of whom nothing is said. -/
def kn0 (s : List Int) : List Int := [s.getD 0 0, s.getD 1 0, s.getD 2 0]
theorem KN.zero (s : List Int) : KN s [] (kn0 s) := by
  refine ⟨rfl, fun r n h1 h3 hn => ?_⟩
  have e : hasI [] r n = false := by rw [hasI_any]; rfl
  rw [seenB_kn rfl h1 h3, e, Bool.or_false]
  unfold seenB
  have hg : (kn0 s).getD (r - 1).toNat 0 = s.getD (r - 1).toNat 0 := by
    obtain rfl | rfl | rfl : r = 1 ∨ r = 2 ∨ r = 3 := by omega
    all_goals rfl
  rw [hg, Bool.eq_iff_iff]
  simp only [Bool.and_eq_true, decide_eq_true_eq]
  constructor
  · intro h
    refine ⟨?_, h⟩
    by_cases hl : r ≤ (s.length : Int)
    · exact hl
    · rw [List.getD, List.getElem?_eq_none (by omega)] at h
      simp at h
      omega
  · exact fun h => h.2
end Go.Proofs.YtficnhlkefpfnaaDoor

namespace Go.Proofs.YtficnhlkefpfnaaDoor
open Go.RowKit
set_option linter.unusedSimpArgs false
set_option linter.unusedVariables false
attribute [local go_sem ↓] Go.wp_at_zero Go.wp_at_succ

set_option maxRecDepth 100000 in
set_option maxHeartbeats 2000000 in
theorem isKnown_any (s : List Int) (g cap : Nat) (a b : Int) (w : World) (hs : IntsAt w g s) (hn : s.length ≤ 1048576) (hcap : s.length ≤ cap) (h1 : b = 0 ∨ (1 ≤ a ∧ a ≤ 3)) :
    Calls Tryd.prog 128 #[.slice (some ⟨g, 0, none⟩) s.length cap, .agg #[.int .i64 a, .int .i64 b]] w fun e w' => e = .returned (.bool (decide (b = 0) || seenB s a b)) ∧ Below w.heap.size w w' := by
  have HB0 : Hid (Below w.heap.size w (w.alloc (.cells #[.int .i64 a, .int .i64 b] 69))) := (Below.refl _ _).alloc (Nat.le_refl _) _
  have HS := hideIt hs
  have hgw := hs.1
  clear hs
  by_cases hb : b = 0
  · subst hb
    go_enter Tryd.func128, Tryd.ntmps128
    go_wp2
    go_ret
    exact ⟨by simp, HB0.out⟩
  · obtain ⟨h1a, h1b⟩ := h1.resolve_left hb
    go_enter Tryd.func128, Tryd.ntmps128
    go_wp2_with fail
    refine (wasSeen_any s g cap a b _ (HS.out.below HB0.out hgw) hn hcap h1a h1b).mono ?_
    rintro e w1 ⟨rfl, hb1⟩
    have HB1 := hideIt (Bstep HB0.out hb1)
    clear hb1
    go_wp2
    go_ret
    exact ⟨by first | rfl | simp, HB1.out⟩

theorem blk_bel {w W : World} {b : Nat} {o : Obj} (h : w.heap[b]? = some o) (hb : Below w.heap.size w W) : W.heap[b]? = some o := (hb.block b (Array.getElem?_eq_some_iff.1 h).1).trans h
set_option maxRecDepth 100000 in
set_option maxHeartbeats 4000000 in
theorem canBeTold_any (s : List Int) (g cap : Nat) (o : Op7) (ho : okO o = true) (w : World) (hs : IntsAt w g s) (hn : s.length ≤ 1048576) (hcap : s.length ≤ cap) :
    Calls Tryd.prog 107 #[.slice (some ⟨g, 0, none⟩) s.length cap, .agg #[.int .i64 o.a, .int .i64 o.b, .int .i64 o.k, .int .i64 o.c, .int .i64 o.d, .int .i64 o.s, .int .i64 o.g]] w fun e w' => e = .returned (.bool (rdyK s o)) ∧ Below w.heap.size w w' := by
  obtain ⟨ha1, ha3, hb1, hb12⟩ := okO_id ho
  have hrf : o.d = 0 ∨ (1 ≤ o.c ∧ o.c ≤ 3) := by rcases okO_refd ho with h | h <;> omega
  have HS := hideIt hs
  have hgw := hs.1
  clear hs
  obtain ⟨W0, hW0⟩ : ∃ W0, ((w.alloc (.cells #[.int .i64 o.a, .int .i64 o.b, .int .i64 o.k, .int .i64 o.c, .int .i64 o.d, .int .i64 o.s, .int .i64 o.g] 71)).alloc (.cells #[.int .i64 o.a, .int .i64 (o.b - 1)] 69)) = W0 := ⟨_, rfl⟩
  have HBX : Hid (Below w.heap.size w W0) := by rw [← hW0]; exact ((Below.refl _ _).alloc (Nat.le_refl _) _).alloc (by simp) _
  have HOX : Hid (W0.heap[w.heap.size]? = some (.cells #[.int .i64 o.a, .int .i64 o.b, .int .i64 o.k, .int .i64 o.c, .int .i64 o.d, .int .i64 o.s, .int .i64 o.g] 71 (0, 0))) := by rw [← hW0]; exact (Below.heap_alloc _ _ _ (by simp)).trans (World.alloc_heap_new _ _)
  have HAX : Hid (W0.heap[w.heap.size + 1]? = some (.cells #[.int .i64 o.a, .int .i64 (o.b - 1)] 69 (0, 0))) := by
    rw [← hW0]
    have h := World.alloc_heap_new (w.alloc (.cells #[.int .i64 o.a, .int .i64 o.b, .int .i64 o.k, .int .i64 o.c, .int .i64 o.d, .int .i64 o.s, .int .i64 o.g] 71)) (.cells #[.int .i64 o.a, .int .i64 (o.b - 1)] 69)
    rw [World.size_alloc] at h
    exact h
  cases hz1 : seenB s o.a o.b
  · cases hz2 : (decide (o.b - 1 = 0) || seenB s o.a (o.b - 1))
    · have HZ1 := hideIt hz1
      have HZ2 := hideIt hz2
      have HE : Hid (rdyK s o = false) := by show _ = _; unfold rdyK; rw [hz1, hz2]; rfl
      clear hz1 hz2
      go_enter Tryd.func107, Tryd.ntmps107
      have y0 := (blk_cell HOX.out 0).trans rfl
      have y1 := (blk_cell HOX.out 1).trans rfl
      have y2 := (blk_cell HOX.out 2).trans rfl
      have y3 := (blk_cell HOX.out 3).trans rfl
      have y4 := (blk_cell HOX.out 4).trans rfl
      have y5 := (blk_cell HOX.out 5).trans rfl
      have y6 := (blk_cell HOX.out 6).trans rfl
      have t0 := (blk_cell HAX.out 0).trans rfl
      have t1 := (blk_cell HAX.out 1).trans rfl
      have yl := (Array.getElem?_eq_some_iff.1 HOX.out).1
      have tl := (Array.getElem?_eq_some_iff.1 HAX.out).1
      go_wp2_with fail
      refine (wasSeen_any s g cap o.a o.b _ (HS.out.below HBX.out hgw) hn hcap ha1 ha3).mono ?_
      rintro e w1 ⟨rfl, hb⟩
      rw [HZ1.out]
      replace HOX := hideIt (blk_bel HOX.out hb)
      replace HAX := hideIt (blk_bel HAX.out hb)
      replace HBX := hideIt (Bstep HBX.out hb)
      clear y0 y1 y2 y3 y4 y5 y6 t0 t1 yl tl hb
      clear hW0
      have y0 := (blk_cell HOX.out 0).trans rfl
      have y1 := (blk_cell HOX.out 1).trans rfl
      have y2 := (blk_cell HOX.out 2).trans rfl
      have y3 := (blk_cell HOX.out 3).trans rfl
      have y4 := (blk_cell HOX.out 4).trans rfl
      have y5 := (blk_cell HOX.out 5).trans rfl
      have y6 := (blk_cell HOX.out 6).trans rfl
      have t0 := (blk_cell HAX.out 0).trans rfl
      have t1 := (blk_cell HAX.out 1).trans rfl
      have yl := (Array.getElem?_eq_some_iff.1 HOX.out).1
      have tl := (Array.getElem?_eq_some_iff.1 HAX.out).1
      go_wp2_with fail
      refine (isKnown_any s g cap o.a (o.b - 1) _ (HS.out.below HBX.out hgw) hn hcap (.inr ⟨ha1, ha3⟩)).mono ?_
      rintro e w2 ⟨rfl, hb⟩
      rw [HZ2.out]
      replace HOX := hideIt (blk_bel HOX.out hb)
      replace HAX := hideIt (blk_bel HAX.out hb)
      replace HBX := hideIt (Bstep HBX.out hb)
      clear y0 y1 y2 y3 y4 y5 y6 t0 t1 yl tl hb
      have y0 := (blk_cell HOX.out 0).trans rfl
      have y1 := (blk_cell HOX.out 1).trans rfl
      have y2 := (blk_cell HOX.out 2).trans rfl
      have y3 := (blk_cell HOX.out 3).trans rfl
      have y4 := (blk_cell HOX.out 4).trans rfl
      have y5 := (blk_cell HOX.out 5).trans rfl
      have y6 := (blk_cell HOX.out 6).trans rfl
      have t0 := (blk_cell HAX.out 0).trans rfl
      have t1 := (blk_cell HAX.out 1).trans rfl
      have yl := (Array.getElem?_eq_some_iff.1 HOX.out).1
      have tl := (Array.getElem?_eq_some_iff.1 HAX.out).1
      go_wp2
      go_ret
      exact ⟨by rw [HE.out]; rfl, HBX.out⟩
    · have HZ1 := hideIt hz1
      have HZ2 := hideIt hz2
      obtain ⟨z, hz⟩ : ∃ z, (decide (o.d = 0) || seenB s o.c o.d) = z := ⟨_, rfl⟩
      have HZ3 := hideIt hz
      have HE : Hid (rdyK s o = z) := by show _ = _; unfold rdyK; rw [hz1, hz2, hz]; rfl
      clear hz1 hz2 hz
      go_enter Tryd.func107, Tryd.ntmps107
      have y0 := (blk_cell HOX.out 0).trans rfl
      have y1 := (blk_cell HOX.out 1).trans rfl
      have y2 := (blk_cell HOX.out 2).trans rfl
      have y3 := (blk_cell HOX.out 3).trans rfl
      have y4 := (blk_cell HOX.out 4).trans rfl
      have y5 := (blk_cell HOX.out 5).trans rfl
      have y6 := (blk_cell HOX.out 6).trans rfl
      have t0 := (blk_cell HAX.out 0).trans rfl
      have t1 := (blk_cell HAX.out 1).trans rfl
      have yl := (Array.getElem?_eq_some_iff.1 HOX.out).1
      have tl := (Array.getElem?_eq_some_iff.1 HAX.out).1
      go_wp2_with fail
      refine (wasSeen_any s g cap o.a o.b _ (HS.out.below HBX.out hgw) hn hcap ha1 ha3).mono ?_
      rintro e w1 ⟨rfl, hb⟩
      rw [HZ1.out]
      replace HOX := hideIt (blk_bel HOX.out hb)
      replace HAX := hideIt (blk_bel HAX.out hb)
      replace HBX := hideIt (Bstep HBX.out hb)
      clear y0 y1 y2 y3 y4 y5 y6 t0 t1 yl tl hb
      clear hW0
      have y0 := (blk_cell HOX.out 0).trans rfl
      have y1 := (blk_cell HOX.out 1).trans rfl
      have y2 := (blk_cell HOX.out 2).trans rfl
      have y3 := (blk_cell HOX.out 3).trans rfl
      have y4 := (blk_cell HOX.out 4).trans rfl
      have y5 := (blk_cell HOX.out 5).trans rfl
      have y6 := (blk_cell HOX.out 6).trans rfl
      have t0 := (blk_cell HAX.out 0).trans rfl
      have t1 := (blk_cell HAX.out 1).trans rfl
      have yl := (Array.getElem?_eq_some_iff.1 HOX.out).1
      have tl := (Array.getElem?_eq_some_iff.1 HAX.out).1
      go_wp2_with fail
      refine (isKnown_any s g cap o.a (o.b - 1) _ (HS.out.below HBX.out hgw) hn hcap (.inr ⟨ha1, ha3⟩)).mono ?_
      rintro e w2 ⟨rfl, hb⟩
      rw [HZ2.out]
      replace HOX := hideIt (blk_bel HOX.out hb)
      replace HAX := hideIt (blk_bel HAX.out hb)
      replace HBX := hideIt (Bstep HBX.out hb)
      clear y0 y1 y2 y3 y4 y5 y6 t0 t1 yl tl hb
      have y0 := (blk_cell HOX.out 0).trans rfl
      have y1 := (blk_cell HOX.out 1).trans rfl
      have y2 := (blk_cell HOX.out 2).trans rfl
      have y3 := (blk_cell HOX.out 3).trans rfl
      have y4 := (blk_cell HOX.out 4).trans rfl
      have y5 := (blk_cell HOX.out 5).trans rfl
      have y6 := (blk_cell HOX.out 6).trans rfl
      have t0 := (blk_cell HAX.out 0).trans rfl
      have t1 := (blk_cell HAX.out 1).trans rfl
      have yl := (Array.getElem?_eq_some_iff.1 HOX.out).1
      have tl := (Array.getElem?_eq_some_iff.1 HAX.out).1
      go_wp2_with fail
      refine (isKnown_any s g cap o.c o.d _ (HS.out.below HBX.out hgw) hn hcap hrf).mono ?_
      rintro e w3 ⟨rfl, hb⟩
      rw [HZ3.out]
      replace HOX := hideIt (blk_bel HOX.out hb)
      replace HAX := hideIt (blk_bel HAX.out hb)
      replace HBX := hideIt (Bstep HBX.out hb)
      clear y0 y1 y2 y3 y4 y5 y6 t0 t1 yl tl hb
      have y0 := (blk_cell HOX.out 0).trans rfl
      have y1 := (blk_cell HOX.out 1).trans rfl
      have y2 := (blk_cell HOX.out 2).trans rfl
      have y3 := (blk_cell HOX.out 3).trans rfl
      have y4 := (blk_cell HOX.out 4).trans rfl
      have y5 := (blk_cell HOX.out 5).trans rfl
      have y6 := (blk_cell HOX.out 6).trans rfl
      have t0 := (blk_cell HAX.out 0).trans rfl
      have t1 := (blk_cell HAX.out 1).trans rfl
      have yl := (Array.getElem?_eq_some_iff.1 HOX.out).1
      have tl := (Array.getElem?_eq_some_iff.1 HAX.out).1
      go_wp2
      go_ret
      exact ⟨by rw [HE.out]; rfl, HBX.out⟩
  · have HZ1 := hideIt hz1
    have HE : Hid (rdyK s o = false) := by show _ = _; unfold rdyK; rw [hz1]; rfl
    clear hz1
    go_enter Tryd.func107, Tryd.ntmps107
    have y0 := (blk_cell HOX.out 0).trans rfl
    have y1 := (blk_cell HOX.out 1).trans rfl
    have y2 := (blk_cell HOX.out 2).trans rfl
    have y3 := (blk_cell HOX.out 3).trans rfl
    have y4 := (blk_cell HOX.out 4).trans rfl
    have y5 := (blk_cell HOX.out 5).trans rfl
    have y6 := (blk_cell HOX.out 6).trans rfl
    have t0 := (blk_cell HAX.out 0).trans rfl
    have t1 := (blk_cell HAX.out 1).trans rfl
    have yl := (Array.getElem?_eq_some_iff.1 HOX.out).1
    have tl := (Array.getElem?_eq_some_iff.1 HAX.out).1
    go_wp2_with fail
    refine (wasSeen_any s g cap o.a o.b _ (HS.out.below HBX.out hgw) hn hcap ha1 ha3).mono ?_
    rintro e w1 ⟨rfl, hb⟩
    rw [HZ1.out]
    replace HOX := hideIt (blk_bel HOX.out hb)
    replace HAX := hideIt (blk_bel HAX.out hb)
    replace HBX := hideIt (Bstep HBX.out hb)
    clear y0 y1 y2 y3 y4 y5 y6 t0 t1 yl tl hb
    clear hW0
    have y0 := (blk_cell HOX.out 0).trans rfl
    have y1 := (blk_cell HOX.out 1).trans rfl
    have y2 := (blk_cell HOX.out 2).trans rfl
    have y3 := (blk_cell HOX.out 3).trans rfl
    have y4 := (blk_cell HOX.out 4).trans rfl
    have y5 := (blk_cell HOX.out 5).trans rfl
    have y6 := (blk_cell HOX.out 6).trans rfl
    have t0 := (blk_cell HAX.out 0).trans rfl
    have t1 := (blk_cell HAX.out 1).trans rfl
    have yl := (Array.getElem?_eq_some_iff.1 HOX.out).1
    have tl := (Array.getElem?_eq_some_iff.1 HAX.out).1
    go_wp2
    go_ret
    exact ⟨by rw [HE.out]; rfl, HBX.out⟩

/-- Where the first that can be told stands. -/
def NextSaid (l : List Op7) (kn : List Int) (z : Int) : Prop := (∃ k : Nat, z = k ∧ ∃ hk : k < l.length, rdyK kn l[k] = true ∧ ∀ j (hj : j < l.length), j < k → rdyK kn l[j] = false) ∨ (z = -1 ∧ ∀ j (hj : j < l.length), rdyK kn l[j] = false)
set_option maxRecDepth 100000 in
set_option maxHeartbeats 4000000 in
theorem nextTo_any (l : List Op7) (s : List Int) (g cap g2 cap2 : Nat) (hok : l.all okO = true) (w : World) (hl : OpsAt w g l) (hnl : l.length ≤ 1048576) (hcap : l.length ≤ cap) (hs : IntsAt w g2 s) (hn : s.length ≤ 1048576) (hcap2 : s.length ≤ cap2) :
    Calls Tryd.prog 77 #[.slice (some ⟨g, 0, none⟩) l.length cap, .slice (some ⟨g2, 0, none⟩) s.length cap2] w fun e w' => (∃ z : Int, e = .returned (.int .i64 z) ∧ NextSaid l s z) ∧ Below w.heap.size w w' := by
  have HL := hideIt hl
  have HS := hideIt hs
  have HOK := hideIt hok
  have hgw := hl.1
  have hgs := hs.1
  clear hl hs hok
  go_enter Tryd.func77, Tryd.ntmps77
  go_wp2
  go_loopw [9] (fun i wr => ∃ k : Nat, k ≤ l.length ∧ i = .int .i64 k ∧ (∀ j (hj : j < l.length), j < k → rdyK s l[j] = false) ∧ Below w.heap.size w wr)
    (fun i _ => l.length - (intOf i).toNat)
  case atStart => exact ⟨0, Nat.zero_le _, rfl, fun j _ h => by omega, Below.refl _ _⟩
  case round =>
    obtain ⟨k, hk, rfl, hag, hBr⟩ := hrel
    have HAG := hideIt hag
    have HBR := hideIt hBr
    clear hag hBr
    by_cases hlt : k < l.length
    · obtain ⟨y0, y1, y2, y3, y4, y5, y6⟩ := (HL.out.below HBR.out hgw).2 k l[k] (by simp [hlt])
      have HKO : Hid (okO l[k] = true) := all_iff.1 HOK.out k hlt
      have HYES : Hid (rdyK s l[k] = true → NextSaid l s k) := fun h => .inl ⟨k, rfl, hlt, h, HAG.out⟩
      have HNO : Hid (rdyK s l[k] = false → ∀ j (hj : j < l.length), j < k + 1 → rdyK s l[j] = false) := fun h j hj hjk => by
        rcases Nat.lt_or_ge j k with h' | h'
        · exact HAG.out j hj h'
        · obtain rfl : j = k := by omega
          exact h
      have hgr : g < wr.heap.size := Nat.lt_of_lt_of_le hgw HBR.out.size
      have hlt' : (k : Int) < (l.length : Int) := by omega
      have hk0 : (0 : Int) ≤ (k : Int) := by omega
      clear HAG
      generalize l[k] = o at *
      obtain ⟨z, hz⟩ : ∃ z, rdyK s o = z := ⟨_, rfl⟩
      have HZ := hideIt hz
      clear hz
      have HBX : Hid (Below w.heap.size w (wr.alloc (.cells #[.int .i64 o.a, .int .i64 o.b, .int .i64 o.k, .int .i64 o.c, .int .i64 o.d, .int .i64 o.s, .int .i64 o.g] 71))) := HBR.out.alloc HBR.out.size _
      cases z
      all_goals
        go_wp2_with fail
        refine (canBeTold_any s g2 cap2 o HKO.out _ (HS.out.below HBX.out hgs) hn hcap2).mono ?_
        rintro e w2 ⟨rfl, hb2⟩
        have HB2 := hideIt (Bstep HBX.out hb2)
        rw [HZ.out]
        clear hb2 y0 y1 y2 y3 y4 y5 y6 HBX
      · have HE := hideIt (HNO.out HZ.out)
        clear HYES HNO
        go_wp2
        exact ⟨⟨k + 1, by omega, by go_num, HE.out, HB2.out⟩, by simp [intOf]; omega⟩
      · have HE := hideIt (HYES.out HZ.out)
        clear HYES HNO
        go_wp2
        go_ret
        exact ⟨⟨_, rfl, HE.out⟩, HB2.out⟩
    · obtain rfl : k = l.length := by omega
      have HE : Hid (NextSaid l s (-1)) := .inr ⟨rfl, fun j hj => HAG.out j hj hj⟩
      clear HAG
      go_wp2
      go_ret
      exact ⟨⟨_, rfl, HE.out⟩, HBR.out⟩
end Go.Proofs.YtficnhlkefpfnaaDoor

namespace Go.Proofs.YtficnhlkefpfnaaDoor
open Go.RowKit
set_option linter.unusedSimpArgs false
set_option linter.unusedVariables false
attribute [local go_sem ↓] Go.wp_at_zero Go.wp_at_succ

/-- Of the first k what was seen. -/
def uptoK (l : List Op7) (s : List Int) (k : Nat) : List Op7 := (l.take k).filter fun p => seenB s p.a p.b
def uptoL (l : List Op7) (s : List Int) : List Op7 := l.filter fun p => seenB s p.a p.b
theorem upto_yes {l : List Op7} {s : List Int} {k : Nat} (hk : k < l.length) (h : seenB s l[k].a l[k].b = true) : uptoK l s (k + 1) = uptoK l s k ++ [l[k]] := by unfold uptoK; rw [List.take_succ_eq_append_getElem hk, List.filter_append]; simp [h]
theorem upto_no {l : List Op7} {s : List Int} {k : Nat} (hk : k < l.length) (h : seenB s l[k].a l[k].b = false) : uptoK l s (k + 1) = uptoK l s k := by unfold uptoK; rw [List.take_succ_eq_append_getElem hk, List.filter_append]; simp [h]
theorem upto_len (l : List Op7) (s : List Int) (k : Nat) : (uptoK l s k).length ≤ l.length := Nat.le_trans (List.length_filter_le _ _) (List.length_take_le' _ _)
theorem upto_all (l : List Op7) (s : List Int) : uptoK l s l.length = uptoL l s := by simp [uptoK, uptoL]
/-- What OpsUpto answers. -/
def ansU (l : List Op7) (s : List Int) : List Op7 := if opsB l = true then uptoL l s else []
theorem ansU_yes {l : List Op7} {s : List Int} (h : opsB l = true) : ansU l s = uptoL l s := if_pos h
theorem ansU_no {l : List Op7} {s : List Int} (h : opsB l = false) : ansU l s = [] := by unfold ansU; rw [h]; rfl
theorem ansU_len (l : List Op7) (s : List Int) : (ansU l s).length ≤ l.length := by
  unfold ansU
  split
  · exact List.length_filter_le _ _
  · exact Nat.zero_le _

/-- What one has so far. -/
structure UL (w wr : World) (v : Value) (L : List Op7) : Prop where
  row : wr.ownsRow w.heap.size 71 7 v L.length (opCells L)
  bel : Below w.heap.size w wr
theorem UL.below {w wr w' : World} {v : Value} {L : List Op7} (h : UL w wr v L) (hb : Below wr.heap.size wr w') : UL w w' v L :=
  ⟨h.row.kept (row := none) ⟨hb.os, hb.tape, hb.output, hb.size, fun i hi _ => hb.block i hi⟩ (by cases v.ownBlock <;> simp), Bstep h.bel hb⟩
theorem UL.app {w wr w' : World} {v v' : Value} {L M : List Op7} (h : UL w wr v L) (hg : wr.grownBy w' v.ownBlock) (hown : w'.ownsRow w.heap.size 71 7 v' (L.length + M.length) (opCells L ++ opCells M)) : UL w w' v' (L ++ M) :=
  ⟨by rw [opCells_app, List.length_append]; exact hown, below_grown h.bel hg h.bel.size (fun j e => (h.row.lt j e).1)⟩

end Go.Proofs.YtficnhlkefpfnaaDoor

namespace Go.Proofs.YtficnhlkefpfnaaDoor
open Go.RowKit
set_option linter.unusedSimpArgs false
set_option linter.unusedVariables false
attribute [local go_sem ↓] Go.wp_at_zero Go.wp_at_succ

theorem infoIntP : (Tryd.prog.info? 3).map (fun i => (i.zero, i.size, i.bytes)) = some (some (.int .i64 0), 1, 8) := by kernel_rfl
theorem sizeIntP : (Tryd.prog.info? 3).map (·.size) = some 1 := by kernel_rfl
theorem made3P : (madeCells (Value.int .i64 0).cells (3 * 1)).toList = [.int .i64 0, .int .i64 0, .int .i64 0] := by
  have := toList_madeCells_one (.int .i64 0) 3
  simpa [Value.cells, List.replicate] using this
theorem own3P {w : World} {base M : Nat} (h : w.ownsRow base 3 1 (.slice (some ⟨M, 0, none⟩) 3 3) 3 [.int .i64 0, .int .i64 0, .int .i64 0]) : w.heap[M]? = some (.cells #[.int .i64 0, .int .i64 0, .int .i64 0] 3 (0, 0)) ∧ base ≤ M := by
  rcases h.2 with ⟨h, _⟩ | ⟨g, cap, cur, e, hb, hg, _, _, hs, ht⟩
  · cases h
  · cases e
    have h1 : cur.toList = [.int .i64 0, .int .i64 0, .int .i64 0] := by
      rw [← ht, List.take_of_length_le (by simp; omega)]
    have h2 : cur = #[.int .i64 0, .int .i64 0, .int .i64 0] := by rw [← Array.toArray_toList (xs := cur), h1]
    subst h2
    exact ⟨hg, hb⟩
/-- What goes over: of three at most. -/
def over (s : List Int) : List Value := (s.take 3).map (.int .i64)
theorem over_len (s : List Int) : (over s).length = Nat.min s.length 3 := by
  simp [over, Nat.min_comm]
theorem over_row (s : List Int) : splice [Value.int .i64 0, .int .i64 0, .int .i64 0] 0 (over s) = (kn0 s).map (.int .i64) := by
  match s with
  | [] => rfl
  | [a] => rfl
  | [a, b] => rfl
  | a :: b :: c :: r => rfl
theorem over_one (s : List Int) : ∀ v ∈ over s, v.oneCell' = true := by
  intro v hv
  obtain ⟨z, _, rfl⟩ := List.mem_map.1 hv
  rfl
theorem over_src {W : World} {C : Nat} {s : List Int} (h : IntsAt W C s) : ∀ j v, (over s)[j]? = some v → W.cell? ((⟨C, 0, none⟩ : Addr).add j) = some v := by
  intro j v hj
  unfold over at hj
  rw [List.getElem?_map] at hj
  cases hz : (s.take 3)[j]? with
  | none => rw [hz] at hj; simp at hj
  | some z =>
    rw [hz] at hj
    simp at hj
    subst hj
    have h1 : s[j]? = some z := by
      rw [List.getElem?_take] at hz
      split at hz
      · exact hz
      · simp at hz
    have h2 := h.2 j z h1
    rcases Nat.eq_zero_or_pos j with rfl | hj0
    · simpa [Addr.add] using h2
    · have : j ≠ 0 := by omega
      simpa [Addr.add, this] using h2
theorem cellsNew' (w : World) (n : Nat) (hn : w.heap.size = n) (xs : List Value) (t : TypeId) : ∀ j u, xs[j]? = some u → (w.alloc (.cells xs.toArray t)).cell? ((⟨n, 0, none⟩ : Addr).add j) = some u := by
  subst hn
  exact cells_new w xs t
def lenV : Value → Nat
  | .slice _ n _ => n
  | _ => 0
theorem own_len {W : World} {b : Nat} {T : TypeId} {m : Nat} {v : Value} {n : Nat} {xs : List Value} (h : W.ownsRow b T m v n xs) : ∃ p c, v = .slice p n c := by
  rcases h.2 with ⟨rfl, h0⟩ | ⟨g, cap, cur, rfl, _⟩
  · exact ⟨none, 0, by rw [h0]⟩
  · exact ⟨_, _, rfl⟩
/-- What one has so far, and what is kept of each. -/
structure PK (w W : World) (M : Nat) (v : Value) (L : List Op7) (k0 k1 k2 : Int) : Prop where
  ul : UL w W v L
  km : W.heap[M]? = some (.cells #[.int .i64 k0, .int .i64 k1, .int .i64 k2] 3 (0, 0))
  hM : w.heap.size ≤ M
theorem PK.below {w W W' : World} {M : Nat} {v : Value} {L : List Op7} {k0 k1 k2 : Int} (h : PK w W M v L k0 k1 k2) (hb : Below W.heap.size W W') : PK w W' M v L k0 k1 k2 :=
  ⟨h.ul.below hb, blk_bel h.km hb, h.hM⟩
theorem PK.apart {w W : World} {M : Nat} {v : Value} {L : List Op7} {k0 k1 k2 : Int} (h : PK w W M v L k0 k1 k2) : v.ownBlock ≠ some M := by
  intro e
  rcases h.ul.row.2 with ⟨rfl, _⟩ | ⟨g, cap, cur, rfl, _, hgb, _⟩
  · simp [Value.ownBlock] at e
  · obtain rfl : g = M := by simpa [Value.ownBlock] using e
    rw [h.km] at hgb
    cases hgb
theorem PK.setAny {w W : World} {M : Nat} {v : Value} {L : List Op7} {k0 k1 k2 : Int} (h : PK w W M v L k0 k1 k2) (i : Nat) (u : Value) : UL w (W.setCell ⟨M, i, none⟩ u) v L ∧ (W.setCell ⟨M, i, none⟩ u).heap[M]? = some (.cells (#[Value.int .i64 k0, .int .i64 k1, .int .i64 k2].setIfInBounds i u) 3 (0, 0)) := by
  have hb : Below W.heap.size W W := Below.refl _ _
  refine ⟨⟨?_, h.ul.bel.setCell (p := ⟨M, i, none⟩) h.hM _⟩, heap_setCell_same W M i _ _ _ h.km⟩
  have hg : W.grownBy (W.setCell ⟨M, i, none⟩ u) (some M) := ⟨rfl, rfl, rfl, by simp, fun k hk hne => Below.heap_setCell _ _ _ _ (fun e => hne (by rw [e]))⟩
  exact h.ul.row.kept hg (.inr h.apart)
theorem PK.set0 {w W : World} {M : Nat} {v : Value} {L : List Op7} {k0 k1 k2 : Int} (h : PK w W M v L k0 k1 k2) (n : Int) : PK w (W.setCell ⟨M, 0, none⟩ (.int .i64 n)) M v L n k1 k2 := ⟨(h.setAny 0 _).1, (h.setAny 0 _).2, h.hM⟩
theorem PK.set1 {w W : World} {M : Nat} {v : Value} {L : List Op7} {k0 k1 k2 : Int} (h : PK w W M v L k0 k1 k2) (n : Int) : PK w (W.setCell ⟨M, 1, none⟩ (.int .i64 n)) M v L k0 n k2 := ⟨(h.setAny 1 _).1, (h.setAny 1 _).2, h.hM⟩
theorem PK.set2 {w W : World} {M : Nat} {v : Value} {L : List Op7} {k0 k1 k2 : Int} (h : PK w W M v L k0 k1 k2) (n : Int) : PK w (W.setCell ⟨M, 2, none⟩ (.int .i64 n)) M v L k0 k1 n := ⟨(h.setAny 2 _).1, (h.setAny 2 _).2, h.hM⟩
theorem PK.app {w W w3 : World} {M : Nat} {v v' : Value} {L N : List Op7} {k0 k1 k2 : Int} {tmp : Obj} (h : PK w W M v L k0 k1 k2) (hg : (W.alloc tmp).grownBy w3 v.ownBlock) (hown : w3.ownsRow w.heap.size 71 7 v' (L.length + N.length) (opCells L ++ opCells N)) : PK w w3 M v' (L ++ N) k0 k1 k2 := by
  have h2 := h.below (W' := W.alloc tmp) ((Below.refl _ _).alloc (Nat.le_refl _) _)
  exact ⟨UL.app h2.ul hg hown, (hg.block M (Array.getElem?_eq_some_iff.1 h2.km).1 (fun e => h.apart e.symm)).trans h2.km, h.hM⟩
theorem intsK {W : World} {M : Nat} {k0 k1 k2 : Int} (h : W.heap[M]? = some (.cells #[.int .i64 k0, .int .i64 k1, .int .i64 k2] 3 (0, 0))) : IntsAt W M [k0, k1, k2] := by
  refine ⟨(Array.getElem?_eq_some_iff.1 h).1, fun i z hz => ?_⟩
  match i with
  | 0 => simp at hz; subst hz; exact (blk_cell h 0).trans rfl
  | 1 => simp at hz; subst hz; exact (blk_cell h 1).trans rfl
  | 2 => simp at hz; subst hz; exact (blk_cell h 2).trans rfl
  | i + 3 => simp at hz

set_option maxRecDepth 100000 in
set_option maxHeartbeats 4000000 in
theorem implPast_any (l : List Op7) (s : List Int) (most : Int) (g cap g2 cap2 : Nat) (x : Addr) (w : World) (hl : OpsAt w g l) (hn : l.length ≤ 1048576) (hcap : l.length ≤ cap) (hs : IntsAt w g2 s) (hn2 : s.length ≤ 1048576) (hcap2 : s.length ≤ cap2)
    (he : w.cell? ⟨0, 0, none⟩ = some (.iface 200 (.pointer (some x)))) (h0 : 0 < w.heap.size) :
    Calls Tryd.prog 37 #[.slice (some ⟨g, 0, none⟩) l.length cap, .slice (some ⟨g2, 0, none⟩) s.length cap2, .int .i64 most] w fun e w' => ∃ v, e = .returned v ∧ w'.ownsRow w.heap.size 71 7 v (ansP l s most).length (opCells (ansP l s most)) ∧ Below w.heap.size w w' := by
  have HL := hideIt hl
  have HSN := hideIt hs
  have hgw := hl.1
  have hgs := hs.1
  clear hl hs
  obtain ⟨i0, hi, hz0', hz1', hz2⟩ := info_parts infoOp
  have HI1 := hideIt hi
  have HZ0 := hideIt hz0'
  have HZ1 := hideIt hz1'
  have HZ2 := hideIt hz2
  clear hi hz0' hz1' hz2
  obtain ⟨j0, hj, hj0, hj1, hj2⟩ := info_parts infoIntP
  have HJI := hideIt hj
  have HJ0 := hideIt hj0
  have HJ1 := hideIt hj1
  have HJ2 := hideIt hj2
  clear hj hj0 hj1 hj2
  cases ho : opsB l
  all_goals
    have HO := hideIt ho
    clear ho
    go_enter Tryd.func37, Tryd.ntmps37
    go_wp2_with fail
    refine (implOps_any l _ _ x _ HL.out hn hcap he h0).mono ?_
    rintro e w1 ⟨rfl, hb1⟩
    rw [th_same, HO.out]
    have HB1 := hideIt hb1
    clear hb1
  · go_wp2
    go_ret
    refine ⟨_, rfl, ?_, HB1.out⟩
    unfold ansP
    rw [HO.out]
    exact World.ownsRow_nil _ _ _ _
  · have HOK := hideIt (opsB_parts HO.out).1
    have HSN1 := hideIt (HSN.out.below HB1.out hgs)
    go_wp2_with (first
      | (at_make; refine wpList_make_full _ rfl _ _ 33 rfl w1.heap.size 3 j0 _ 1 Tryd.underlying33 HJI.out HJ0.out HJ1.out .i64 .i64 _ _ 3 rfl rfl rfl rfl (by rw [HJ2.out]; omega) (by unfold maxLen; omega) (Nat.le_refl _) ?_; intro w2 hown hgrow; rw [made3P] at hown; have hb2 : Below w1.heap.size w1 w2 := (Below.refl _ _).grown hgrow (Nat.le_refl _) (fun k h => by cases h); have HM := hideIt (own3P hown); have HB2 := hideIt (Bstep HB1.out hb2); have HS2 := hideIt (HSN1.out.below hb2 HSN1.out.1); clear hown hgrow hb2)
      | (refine wpList_copy_splice rfl _ _ 33 33 rfl 3 Tryd.underlying33 sizeIntP _ _ 3 3 s.length cap2 rfl rfl w1.heap.size 0 [.int .i64 0, .int .i64 0, .int .i64 0] 3 HM.out.1 (over s) (over_len s) (fun _ => ⟨rfl, _, rfl, over_src HS2.out⟩) (by rw [over_len]; exact Nat.le_trans (by rw [Nat.zero_add]; exact Nat.min_le_right _ _) (Nat.le_refl 3)) (over_one s) w.heap.size w HB2.out HB1.out.size ?_; intro w3 HG3 hB3; have HB3 := hideIt hB3; clear hB3))
    have HKM : Hid (w3.heap[w1.heap.size]? = some (.cells #[.int .i64 (s.getD 0 0), .int .i64 (s.getD 1 0), .int .i64 (s.getD 2 0)] 3 (0, 0))) := by
      have h := HG3.out
      rw [over_row] at h
      exact h
    have HPK : Hid (PK w w3 w1.heap.size (.slice none 0 0) [] (s.getD 0 0) (s.getD 1 0) (s.getD 2 0)) := ⟨⟨World.ownsRow_nil _ _ _ _, HB3.out⟩, HKM.out, HB1.out.size⟩
    clear HG3 HKM HM HS2 HSN1 HB2
    generalize hM : w1.heap.size = M at *
    clear hM
    go_loopw [8] (fun v wr => ∃ L k0 k1 k2, PK w wr M v L k0 k1 k2 ∧ KN s L [k0, k1, k2] ∧ L = past l s L.length ∧ L.length ≤ most.toNat)
      (fun v _ => l.length - lenV v)
    case atStart => exact ⟨[], _, _, _, HPK.out, KN.zero s, rfl, Nat.zero_le _⟩
    case round =>
      obtain ⟨L, k0, k1, k2, hp, hkn, hpl, hle⟩ := hrel
      have HP := hideIt hp
      have HKN := hideIt hkn
      have HPL := hideIt hpl
      obtain ⟨vp, vc, rfl⟩ := own_len hp.ul.row
      have hLl : L.length ≤ l.length := by rw [hpl]; exact past_le _ _ _
      clear hp hkn hpl HPK
      by_cases hmo : (L.length : Int) < most
      · go_wp2_with fail
        refine (nextTo_any l [k0, k1, k2] g cap M 3 HOK.out _ (HL.out.below HP.out.ul.bel hgw) hn hcap (intsK HP.out.km) (by simp) (by simp)).mono ?_
        rintro e w2 ⟨⟨z, rfl, hz⟩, hb2⟩
        have HP2 := hideIt (HP.out.below hb2)
        clear hb2 HP
        rcases hz with ⟨k, rfl, hk, hrd, hbf⟩ | ⟨rfl, hbf⟩
        · have hok : okO l[k] = true := all_iff.1 HOK.out k hk
          have HKO := hideIt hok
          have HRD := hideIt hrd
          have hnx : past l s (L.length + 1) = past l s L.length ++ [l[k]] := past_next hk (by rw [← HPL.out, ← HKN.out.rdy hok]; exact hrd) (fun j hj hjk => by rw [← HPL.out, ← HKN.out.rdy (all_iff.1 HOK.out j hj)]; exact hbf j hj hjk)
          have HLP : Hid (L ++ [l[k]] = past l s (L ++ [l[k]]).length) := by
            show _ = _
            rw [List.length_append, List.length_singleton, hnx, ← HPL.out]
          have hll2 : L.length + 1 ≤ l.length := by
            have h := past_le l s (L ++ [l[k]]).length
            rw [← HLP.out] at h
            simpa using h
          obtain ⟨y0, y1, y2, y3, y4, y5, y6⟩ := (HL.out.below HP2.out.ul.bel hgw).2 k l[k] (by simp [hk])
          obtain ⟨ha1, ha3, hb1, hb12⟩ := okO_id hok
          clear hnx hok hrd hbf HPL
          generalize l[k] = o at *
          obtain ⟨oa, ob, ok, oc, od, os, og⟩ := o
          dsimp only at ha1 ha3 hb1 hb12 y0 y1 y2 y3 y4 y5 y6
          have hgr : g < w2.heap.size := Nat.lt_of_lt_of_le hgw HP2.out.ul.bel.size
          have hk' : (k : Int) < (l.length : Int) := by omega
          have hk0 : (0 : Int) ≤ (k : Int) := by omega
          have hk1 : ¬ ((k : Int) < 0) := by omega
          have c0 := (blk_cell HP2.out.km 0).trans rfl
          have c1 := (blk_cell HP2.out.km 1).trans rfl
          have c2 := (blk_cell HP2.out.km 2).trans rfl
          have cf : ∀ j, w2.frozen? ⟨M, j, none⟩ = false := fun j => by simp [World.frozen?, HP2.out.km]
          have cl : M < w2.heap.size := (Array.getElem?_eq_some_iff.1 HP2.out.km).1
          obtain ha | ha | ha : oa = 1 ∨ oa = 2 ∨ oa = 3 := by omega
          · subst ha
            have HKN2 : Hid (KN s (L ++ [⟨1, ob, ok, oc, od, os, og⟩]) [ob, k1, k2]) := HKN.out.next (o := ⟨1, ob, ok, oc, od, os, og⟩) HKO.out HRD.out
            have HP' : Hid (PK w ((w2.setCell ⟨M, 0, none⟩ (.int .i64 ob)).alloc (.cells #[.int .i64 1, .int .i64 ob, .int .i64 ok, .int .i64 oc, .int .i64 od, .int .i64 os, .int .i64 og] 71)) M (.slice vp L.length vc) L ob k1 k2) := (HP2.out.set0 ob).below ((Below.refl _ _).alloc (Nat.le_refl _) _)
            clear HP2 HKN HKO HRD
            go_wp2_with (first
              | (at_builtin; refine wpList_append_own_at _ rfl _ _ 24 rfl w.heap.size 71 i0 _ 7 56 Tryd.underlying24 HI1.out HZ0.out HZ1.out HZ2.out rfl (by decide) _ _ _ rfl (HP'.out.ul.row.alloc _) ⟨w2.heap.size + 1, 0, none⟩ 1 1 (opCells [⟨1, ob, ok, oc, od, os, og⟩]) rfl rfl (cellsNew' _ _ (by simp) (opCells [⟨1, ob, ok, oc, od, os, og⟩]) 71) (opCells_one _) (by unfold maxLen; omega) (by omega) (by have := HP'.out.ul.bel.size; simp at this ⊢; omega) ?_; intro v' w3 hown3 hg3 _ _;
                  have HP3 := hideIt (HP'.out.app hg3 hown3); clear hown3 hg3))
            obtain ⟨p3, c3, rfl⟩ := own_len HP3.out.ul.row
            refine ⟨⟨L ++ [⟨1, ob, ok, oc, od, os, og⟩], ob, k1, k2, HP3.out, HKN2.out, HLP.out, ?_⟩, ?_⟩
            · rw [List.length_append]; simp; omega
            · simp [lenV]; omega
          · subst ha
            have HKN2 : Hid (KN s (L ++ [⟨2, ob, ok, oc, od, os, og⟩]) [k0, ob, k2]) := HKN.out.next (o := ⟨2, ob, ok, oc, od, os, og⟩) HKO.out HRD.out
            have HP' : Hid (PK w ((w2.setCell ⟨M, 1, none⟩ (.int .i64 ob)).alloc (.cells #[.int .i64 2, .int .i64 ob, .int .i64 ok, .int .i64 oc, .int .i64 od, .int .i64 os, .int .i64 og] 71)) M (.slice vp L.length vc) L k0 ob k2) := (HP2.out.set1 ob).below ((Below.refl _ _).alloc (Nat.le_refl _) _)
            clear HP2 HKN HKO HRD
            go_wp2_with (first
              | (at_builtin; refine wpList_append_own_at _ rfl _ _ 24 rfl w.heap.size 71 i0 _ 7 56 Tryd.underlying24 HI1.out HZ0.out HZ1.out HZ2.out rfl (by decide) _ _ _ rfl (HP'.out.ul.row.alloc _) ⟨w2.heap.size + 1, 0, none⟩ 1 1 (opCells [⟨2, ob, ok, oc, od, os, og⟩]) rfl rfl (cellsNew' _ _ (by simp) (opCells [⟨2, ob, ok, oc, od, os, og⟩]) 71) (opCells_one _) (by unfold maxLen; omega) (by omega) (by have := HP'.out.ul.bel.size; simp at this ⊢; omega) ?_; intro v' w3 hown3 hg3 _ _;
                  have HP3 := hideIt (HP'.out.app hg3 hown3); clear hown3 hg3))
            obtain ⟨p3, c3, rfl⟩ := own_len HP3.out.ul.row
            refine ⟨⟨L ++ [⟨2, ob, ok, oc, od, os, og⟩], k0, ob, k2, HP3.out, HKN2.out, HLP.out, ?_⟩, ?_⟩
            · rw [List.length_append]; simp; omega
            · simp [lenV]; omega
          · subst ha
            have HKN2 : Hid (KN s (L ++ [⟨3, ob, ok, oc, od, os, og⟩]) [k0, k1, ob]) := HKN.out.next (o := ⟨3, ob, ok, oc, od, os, og⟩) HKO.out HRD.out
            have HP' : Hid (PK w ((w2.setCell ⟨M, 2, none⟩ (.int .i64 ob)).alloc (.cells #[.int .i64 3, .int .i64 ob, .int .i64 ok, .int .i64 oc, .int .i64 od, .int .i64 os, .int .i64 og] 71)) M (.slice vp L.length vc) L k0 k1 ob) := (HP2.out.set2 ob).below ((Below.refl _ _).alloc (Nat.le_refl _) _)
            clear HP2 HKN HKO HRD
            go_wp2_with (first
              | (at_builtin; refine wpList_append_own_at _ rfl _ _ 24 rfl w.heap.size 71 i0 _ 7 56 Tryd.underlying24 HI1.out HZ0.out HZ1.out HZ2.out rfl (by decide) _ _ _ rfl (HP'.out.ul.row.alloc _) ⟨w2.heap.size + 1, 0, none⟩ 1 1 (opCells [⟨3, ob, ok, oc, od, os, og⟩]) rfl rfl (cellsNew' _ _ (by simp) (opCells [⟨3, ob, ok, oc, od, os, og⟩]) 71) (opCells_one _) (by unfold maxLen; omega) (by omega) (by have := HP'.out.ul.bel.size; simp at this ⊢; omega) ?_; intro v' w3 hown3 hg3 _ _;
                  have HP3 := hideIt (HP'.out.app hg3 hown3); clear hown3 hg3))
            obtain ⟨p3, c3, rfl⟩ := own_len HP3.out.ul.row
            refine ⟨⟨L ++ [⟨3, ob, ok, oc, od, os, og⟩], k0, k1, ob, HP3.out, HKN2.out, HLP.out, ?_⟩, ?_⟩
            · rw [List.length_append]; simp; omega
            · simp [lenV]; omega
        · have HE : Hid (ansP l s most = L) := by
            show _ = _
            unfold ansP
            rw [if_pos HO.out]
            have hnone := past_none (l := l) (s := s) (k := L.length) (fun j hj => by rw [← HPL.out, ← HKN.out.rdy (all_iff.1 HOK.out j hj)]; exact hbf j hj)
            rw [past_end hnone most.toNat hle, ← HPL.out]
          clear hbf
          go_wp2
          go_ret
          exact ⟨_, rfl, by rw [HE.out]; exact HP2.out.ul.row, HP2.out.ul.bel⟩
      · have HE : Hid (ansP l s most = L) := by
          show _ = _
          unfold ansP
          rw [if_pos HO.out, show most.toNat = L.length by omega, ← HPL.out]
        go_wp2
        go_ret
        exact ⟨_, rfl, by rw [HE.out]; exact HP.out.ul.row, HP.out.ul.bel⟩
end Go.Proofs.YtficnhlkefpfnaaDoor
