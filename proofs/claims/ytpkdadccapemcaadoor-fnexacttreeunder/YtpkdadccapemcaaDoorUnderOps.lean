/- Contracts of both TreeUnder. -/
import Derived.Test.YtpkdadccapemcaaDoorUnder
import Derived.Test.YtpkdadccapemcaaDoorSpecOps
namespace Go.Proofs.YtpkdadccapemcaaDoor
open Go.RowKit
set_option linter.unusedSimpArgs false
set_option linter.unusedVariables false
attribute [local go_sem ↓] Go.wp_at_zero Go.wp_at_succ

set_option maxRecDepth 100000 in
set_option maxHeartbeats 1000000 in
theorem implUnder_any (l : List Op7) (g cap : Nat) (ar am br bm : Int) (x : Addr) (w : World) (hl : OpsAt w g l) (hn : l.length ≤ 1048576) (hcap : l.length ≤ cap)
    (he : w.cell? ⟨0, 0, none⟩ = some (.iface 127 (.pointer (some x)))) (h0 : 0 < w.heap.size) (hr : wf64 ar) (hm : wf64 am) :
    Calls Tryd.prog 25 #[.slice (some ⟨g, 0, none⟩) l.length cap, .agg #[.int .i64 ar, .int .i64 am], .agg #[.int .i64 br, .int .i64 bm]] w fun e w' => e = .returned (.bool (undB l ar am br bm)) ∧ Below w.heap.size w w' := by
  have HL := hideIt hl
  have hgw := hl.1
  have HR := hideIt hr
  have HM := hideIt hm
  clear hl hr hm
  go_enter Tryd.func25, Tryd.ntmps25
  go_wp2_with fail
  have HB0 : Hid (Below w.heap.size w ((w.alloc (.cells #[.int .i64 ar, .int .i64 am] 38)).alloc (.cells #[.int .i64 br, .int .i64 bm] 38))) := ((Below.refl _ _).alloc (Nat.le_refl _) _).alloc (by simp) _
  refine (treeOf_any l g cap x _ (HL.out.below HB0.out hgw) hn hcap (errB HB0.out h0 he) (posB HB0.out h0)).mono ?_
  rintro e w1 ⟨(⟨ht, b1, b2, b3, base, rfl, hT⟩ | ⟨ht, rfl⟩), hb1⟩
  all_goals
    have HO := hideIt ht
    have HB1 : Hid (Below w.heap.size w w1) := HB0.out.trans (hb1.mono (by simp; omega))
    have herr1 : w1.cell? ⟨0, 0, none⟩ = some (.iface 127 (.pointer (some x))) := errB HB1.out h0 he
    have hp1 : 0 < w1.heap.size := posB HB1.out h0
    have k0 : w1.cell? ⟨w.heap.size, 0, none⟩ = some (.int .i64 ar) := by rw [(bcell hb1).1 _ _ (by simp; omega)]; simp [go_sem]
    have k1 : w1.cell? ⟨w.heap.size, 1, none⟩ = some (.int .i64 am) := by rw [(bcell hb1).1 _ _ (by simp; omega)]; simp [go_sem]
    have k2 : w1.cell? ⟨w.heap.size + 1, 0, none⟩ = some (.int .i64 br) := by rw [(bcell hb1).1 _ _ (by simp)]; simp [go_sem]
    have k3 : w1.cell? ⟨w.heap.size + 1, 1, none⟩ = some (.int .i64 bm) := by rw [(bcell hb1).1 _ _ (by simp)]; simp [go_sem]
    have hz1 : w.heap.size + 1 < w1.heap.size := by have := hb1.size; simp at this; omega
    have hz0 : w.heap.size < w1.heap.size := by omega
    clear ht hb1
  · have HTT := hideIt hT
    clear hT
    go_wp2_with (first | (go_at_call 30; refine (is_nil x _).mono ?_; rintro e w'' ⟨rfl, rfl⟩))
    refine (under_any l HO.out b1 b2 b3 base ar am br bm _ (HTT.out.below ((Below.refl _ _).alloc (Nat.le_refl _) _)) HR.out HM.out).mono ?_
    rintro e w2 ⟨rfl, hb2⟩
    have HB2 := hideIt (Bstep (HB1.out.alloc HB1.out.size _) hb2)
    clear hb2
    go_wp2
    go_ret
    exact ⟨ret_bool (by unfold undB; rw [HO.out]; rfl), HB2.out⟩
  · go_wp2_with (first | (go_at_call 30; refine (is_same x _).mono ?_; rintro e w'' ⟨rfl, rfl⟩))
    go_ret
    exact ⟨ret_bool (by unfold undB; rw [HO.out]; rfl), by have := HB1.out; go_grown⟩

/-- Where the specification's steps stand. -/
structure SI (l : List Op7) (w wr : World) (br bm : Int) (ans : Bool) (bb n : Nat) (x : Int × Int) : Prop where
  bel : Below w.heap.size w wr
  c0 : wr.cell? ⟨bb, 0, none⟩ = some (.int .i64 br)
  c1 : wr.cell? ⟨bb, 1, none⟩ = some (.int .i64 bm)
  lt : bb < wr.heap.size
  dp : Dp l n x
  un : underN l n x br bm = ans
theorem SI.next {l : List Op7} {w wr w' : World} {br bm : Int} {ans : Bool} {bb n : Nat} {x : Int × Int} (h : SI l w wr br bm ans bb n x) (hops : opsB l = true) {o : Op7} (ho : putAt l x = some o) (hne : ¬ (o.c = br ∧ o.d = bm)) (hb : Below wr.heap.size wr w') :
    ∃ m, m < n ∧ SI l w w' br bm ans bb m (o.c, o.d) := by
  obtain ⟨m, rfl, hd⟩ := dp_step hops h.dp ho
  exact ⟨m, Nat.lt_succ_self _, ⟨Bstep h.bel hb, ((bcell hb).1 _ _ h.lt).trans h.c0, ((bcell hb).1 _ _ h.lt).trans h.c1, Nat.lt_of_lt_of_le h.lt hb.size, hd, by rw [← under_on ho hne]; exact h.un⟩⟩

set_option maxRecDepth 100000 in
set_option maxHeartbeats 1000000 in
theorem specUnder_any (l : List Op7) (g cap : Nat) (ar am br bm : Int) (w : World) (hl : OpsAt w g l) (hn : l.length ≤ 1048576) (hcap : l.length ≤ cap) :
    Calls Tryd.prog 24 #[.slice (some ⟨g, 0, none⟩) l.length cap, .agg #[.int .i64 ar, .int .i64 am], .agg #[.int .i64 br, .int .i64 bm]] w fun e w' => e = .returned (.bool (undB l ar am br bm)) ∧ Below w.heap.size w w' := by
  have HL := hideIt hl
  have hgw := hl.1
  clear hl
  have HB0 : Hid (Below w.heap.size w ((w.alloc (.cells #[.int .i64 ar, .int .i64 am] 38)).alloc (.cells #[.int .i64 br, .int .i64 bm] 38))) := ((Below.refl _ _).alloc (Nat.le_refl _) _).alloc (by simp) _
  cases ho : opsB l
  all_goals
    have HO := hideIt ho
    clear ho
    go_enter Tryd.func24, Tryd.ntmps24
    go_wp2_with fail
    refine (specOps_any l _ _ _ (HL.out.below HB0.out hgw) hn hcap).mono ?_
    rintro e w1 ⟨rfl, hb1⟩
    rw [HO.out]
    have HB1 : Hid (Below w.heap.size w w1) := HB0.out.trans (hb1.mono (by simp; omega))
    have k0 : w1.cell? ⟨w.heap.size, 0, none⟩ = some (.int .i64 ar) := by rw [(bcell hb1).1 _ _ (by simp; omega)]; simp [go_sem]
    have k1 : w1.cell? ⟨w.heap.size, 1, none⟩ = some (.int .i64 am) := by rw [(bcell hb1).1 _ _ (by simp; omega)]; simp [go_sem]
    have k2 : w1.cell? ⟨w.heap.size + 1, 0, none⟩ = some (.int .i64 br) := by rw [(bcell hb1).1 _ _ (by simp)]; simp [go_sem]
    have k3 : w1.cell? ⟨w.heap.size + 1, 1, none⟩ = some (.int .i64 bm) := by rw [(bcell hb1).1 _ _ (by simp)]; simp [go_sem]
    have hz1 : w.heap.size + 1 < w1.heap.size := by have := hb1.size; simp at this; omega
    have hz0 : w.heap.size < w1.heap.size := by omega
    clear hb1
  · go_wp2
    go_ret
    exact ⟨ret_bool (by unfold undB; rw [HO.out]; rfl), HB1.out⟩
  · go_wp2_with fail
    refine (l1Find_any l _ _ _ _ _ (HL.out.below HB1.out hgw) hn hcap).mono ?_
    rintro e w2 ⟨rfl, hb2⟩
    have HB2 := hideIt (Bstep HB1.out hb2)
    have j2 := ((bcell hb2).1 (w.heap.size + 1) 0 hz1).trans k2
    have j3 := ((bcell hb2).1 (w.heap.size + 1) 1 hz1).trans k3
    have hy1 : w.heap.size + 1 < w2.heap.size := Nat.lt_of_lt_of_le hz1 hb2.size
    clear hb2
    go_wp2
    generalize hbb : w.heap.size + 1 = bb at *
    go_loopw [7] (fun s7 wr => ∃ n x, s7 = .int .i64 (findI l x.1 x.2) ∧ SI l w wr br bm (underN l (l.length + 1) (ar, am) br bm) bb n x)
      (fun s7 wr => least (fun n => ∃ x, s7 = .int .i64 (findI l x.1 x.2) ∧ SI l w wr br bm (underN l (l.length + 1) (ar, am) br bm) bb n x))
    case atStart => exact ⟨l.length + 1, (ar, am), rfl, ⟨HB2.out, j2, j3, hy1, dp_start HO.out _, rfl⟩⟩
    case round =>
      obtain ⟨n1, hn1⟩ := hrel
      obtain ⟨⟨x, e7, hU⟩, -⟩ := least_spec (p := fun n => ∃ x, u7 = .int .i64 (findI l x.1 x.2) ∧ SI l w wr br bm (underN l (l.length + 1) (ar, am) br bm) bb n x) hn1
      generalize hN : least _ = N at hU
      have HN := hideIt hN
      have HU := hideIt hU
      clear hn1 hN hU j2 j3 hy1 k0 k1 k2 k3 hz1 hz0
      have c0 := HU.out.c0
      have c1 := HU.out.c1
      have hbl := HU.out.lt
      have HLr := hideIt (HL.out.below HU.out.bel hgw)
      have hgr : g < wr.heap.size := HLr.out.1
      rcases find_cases l x with ⟨hf, hp⟩ | ⟨i, o, hf, hi, hoi, hp⟩
      · rw [hf] at e7
        have HP := hideIt hp
        clear hf hp
        subst e7
        go_wp2
        go_ret
        exact ⟨ret_bool (by unfold undB; rw [HO.out, if_pos rfl, ← HU.out.un, under_no HP.out]), HU.out.bel⟩
      · rw [hf] at e7
        clear hf
        subst e7
        obtain ⟨y0, y1, y2, y3, y4, y5, y6⟩ := HLr.out.2 i o hoi
        have hlt' : (i : Int) < (l.length : Int) := by omega
        have hi0 : (0 : Int) ≤ (i : Int) := by omega
        by_cases hk : o.k = 1
        · rw [if_pos hk] at hp
          have HP := hideIt hp
          rw [hk] at y2
          clear hp
          have HIN := hideIt (okO_num (List.all_eq_true.1 (opsParts HO.out).1 o (putAt_some HP.out).2.2.1))
          by_cases hcr : o.c = br
          · by_cases hdm : o.d = bm
            · have HD : Hid (o.c = br ∧ o.d = bm) := ⟨hcr, hdm⟩
              rw [hcr] at y3
              rw [hdm] at y4
              clear hcr hdm hk
              go_wp2
              go_quiet (fail)
              go_wp2
              go_ret
              exact ⟨ret_bool (by
              obtain ⟨m, hm, _⟩ := dp_step HO.out HU.out.dp HP.out
              unfold undB
              rw [HO.out, ← HU.out.un, hm, under_hit HP.out HD.out]; rfl), below_drewN HU.out.bel _⟩
            · have HD : Hid (¬ (o.c = br ∧ o.d = bm)) := fun h => hdm h.2
              clear hk
              subst hcr
              go_wp2
              go_quiet (fail)
              go_wp2_with fail
              refine (l1Find_any l _ _ _ _ _ (HLr.out.below (below_drewN (Below.refl _ _) _) hgr) hn hcap).mono ?_
              rintro e w3 ⟨rfl, hb3⟩
              have hb3' : Below wr.heap.size wr w3 := (below_drewN (Below.refl _ _) _).trans (hb3.mono (by simp))
              obtain ⟨m, hm, hU2⟩ := HU.out.next HO.out HP.out (by have h := HD.out; first | exact h | simpa using h) hb3'
              clear hb3 hb3'
              go_wp2
              exact ⟨⟨m, (o.c, o.d), rfl, hU2⟩, least_lt (m := m) ⟨(o.c, o.d), rfl, hU2⟩ hm HN.out⟩
          · have HD : Hid (¬ (o.c = br ∧ o.d = bm)) := fun h => hcr h.1
            clear hk
            go_wp2
            go_quiet (fail)
            go_wp2_with fail
            refine (l1Find_any l _ _ _ _ _ (HLr.out.below (below_drewN (Below.refl _ _) _) hgr) hn hcap).mono ?_
            rintro e w3 ⟨rfl, hb3⟩
            have hb3' : Below wr.heap.size wr w3 := (below_drewN (Below.refl _ _) _).trans (hb3.mono (by simp))
            obtain ⟨m, hm, hU2⟩ := HU.out.next HO.out HP.out (by have h := HD.out; first | exact h | simpa using h) hb3'
            clear hb3 hb3'
            go_wp2
            exact ⟨⟨m, (o.c, o.d), rfl, hU2⟩, least_lt (m := m) ⟨(o.c, o.d), rfl, hU2⟩ hm HN.out⟩
        · rw [if_neg hk] at hp
          have HP := hideIt hp
          clear hp
          go_wp2
          go_ret
          exact ⟨ret_bool (by unfold undB; rw [HO.out, if_pos rfl, ← HU.out.un, under_no HP.out]), HU.out.bel⟩
end Go.Proofs.YtpkdadccapemcaaDoor
