/- The contract of thingsOf, and of the program's OpsOk. -/
import Derived.Test.YtpkdadccapemcaaDoorRefPlaces
import Derived.Test.YtpkdadccapemcaaDoorInOrder
import Derived.Test.YtpkdadccapemcaaDoorCircle
namespace Go.Proofs.YtpkdadccapemcaaDoor
open Go.RowKit
set_option linter.unusedSimpArgs false
set_option linter.unusedVariables false

/-- What was done is ok, as the program asks it. -/
def thB (l : List Op7) : Bool := decide (l.length ≤ 36) && (l.all okO && (ordB l && (l.all (refI l) && (List.range l.length).all (fun i => cnF (l.map (plc l)) l.length i))))

theorem places_plc (l : List Op7) : placesB (l.map (plc l)) := fun i hi => by
  have := plc_lt l (l[i]'(by simpa using hi))
  simpa using this

theorem infoThing : (Tryd.prog.info? 87).map (fun i => (i.zero, i.size, i.bytes)) = some (some .nilIface, 1, 16) := by kernel_rfl
theorem things_of_owns {w : World} {base M n cap : Nat} {l : List Op7} (hn : n = l.length) (h : w.ownsRow base 87 1 (.slice (some ⟨M, 0, none⟩) n cap) n (l.map thV)) : ThingsAt w M l := by
  subst hn
  refine ⟨(h.lt M rfl).2, fun i x hx => ?_⟩
  have hi : i < l.length := (List.getElem?_eq_some_iff.1 hx).1
  rw [h.cellAt i (by omega)]
  simp [hx]
theorem thV_one (o : Op7) : (thV o).oneCell' = true := by
  unfold thV; split <;> rfl

/-- thingOf at a thing in form. -/
theorem thingOf_yes (o : Op7) (h : okO o = true) (w : World) :
    Calls Tryd.prog 54 #[.agg #[.int .i64 o.a, .int .i64 o.b, .int .i64 o.k, .int .i64 o.c, .int .i64 o.d, .int .i64 o.s, .int .i64 o.g]] w fun e w' => e = .returned (.tuple #[thV o, .nilIface]) ∧ Below w.heap.size w w' := by
  have h' := h
  unfold okO at h'
  rw [opB_true] at h'
  obtain ⟨h1, h2, h3⟩ := h'
  rcases thV_cases h with ⟨e1, e2⟩ | ⟨e1, e2⟩
  · rcases h3 with h3 | h3
    · rw [e1, e2]; exact thingOf_put _ _ _ _ _ _ _ (idB_true.2 h1) h2 (decide_eq_true h3.2)
    · omega
  · rcases h3 with h3 | h3
    · omega
    · rw [e1, e2]; exact thingOf_take _ _ _ _ _ _ _ (idB_true.2 h1) h2 (decide_eq_true h3.2)

theorem cir_any (l : List Op7) (M : Nat) (w : World) (hl : IntsAt w M (l.map (plc l))) (hn : l.length ≤ 1048576) :
    Calls Tryd.prog 57 #[.slice (some ⟨M, 0, none⟩) l.length l.length] w fun e w' => e = .returned (.bool (!(List.range l.length).all (fun i => cnF (l.map (plc l)) l.length i))) ∧ w' = w := by
  have h := circle_any (l.map (plc l)) M l.length w hl (by simpa using hn) (by simp) (places_plc l)
  simp only [List.length_map] at h
  exact h

set_option maxRecDepth 100000 in
set_option maxHeartbeats 4000000 in
theorem things_any (l : List Op7) (g cap : Nat) (x : Addr) (w : World) (hl : OpsAt w g l) (hn : l.length ≤ 1048576) (hcap : l.length ≤ cap)
    (he : w.cell? ⟨0, 0, none⟩ = some (.iface 127 (.pointer (some x)))) (h0 : 0 < w.heap.size) :
    Calls Tryd.prog 45 #[.slice (some ⟨g, 0, none⟩) l.length cap] w fun e w' =>
      ((thB l = true ∧ ∃ M, w.heap.size ≤ M ∧ e = .returned (.tuple #[.slice (some ⟨M, 0, none⟩) l.length l.length, .nilIface]) ∧ ThingsAt w' M l) ∨
       (thB l = false ∧ e = .returned (.tuple #[.slice none 0 0, .iface 127 (.pointer (some x))]))) ∧ Below w.heap.size w w' := by
  have hgw : g < w.heap.size := hl.1
  have HL0 : Hid (OpsAt w g l) := hl
  clear hl
  by_cases h36 : l.length ≤ 36
  · obtain ⟨i0, hi, hz0, hz1, hz2⟩ := info_parts infoThing
    have HI := hideIt hi
    have HZ0 := hideIt hz0
    have HZ1 := hideIt hz1
    have HZ2 := hideIt hz2
    clear hi hz0 hz1 hz2
    go_enter Tryd.func45, Tryd.ntmps45
    go_wp2_with (first
      | (at_make; refine wpList_make_own _ rfl _ _ 83 rfl w.heap.size 87 i0 _ 1 Tryd.underlying83 HI.out HZ0.out HZ1.out .i64 .i64 _ l.length rfl rfl rfl (by rw [HZ2.out]; omega) (by unfold maxLen; omega) (Nat.le_refl _) ?_; intro w2 hown hgrow))
    have hB2 : Below w.heap.size w w2 := (Below.refl _ _).grown hgrow (Nat.le_refl _) (fun k h => by cases h)
    have hM : w.heap.size < w2.heap.size := (hown.lt _ rfl).2
    clear hgrow
    go_loopw [4, 20] (fun v i wr => ∃ k : Nat, k ≤ l.length ∧ i = .int .i64 k ∧ v = .slice (some ⟨w.heap.size, 0, none⟩) k l.length ∧ (∀ j (hj : j < l.length), j < k → okO l[j] = true) ∧ wr.ownsRow w.heap.size 87 1 (.slice (some ⟨w.heap.size, 0, none⟩) k l.length) k ((l.take k).map thV) ∧ Below w.heap.size w wr)
      (fun _ i _ => l.length - (intOf i).toNat)
    case atStart => exact ⟨0, Nat.zero_le _, rfl, rfl, fun j hj h => by omega, by simpa using hown, hB2⟩
    case round =>
      obtain ⟨k, hk, rfl, rfl, hno, hown', hB⟩ := hrel
      have HN := hideIt hno
      have HW := hideIt hown'
      have HB := hideIt hB
      have hMr : w.heap.size < wr.heap.size := (hown'.lt _ rfl).2
      have HL := hideIt (HL0.out.below hB hgw)
      have hgr : g < wr.heap.size := HL.out.1
      have hp0 : 0 < wr.heap.size := by omega
      have herr : wr.cell? ⟨0, 0, none⟩ = some (.iface 127 (.pointer (some x))) := by rw [(bcell HB.out).1 _ _ h0]; exact he
      clear hno hown' hB hown hB2
      by_cases hlt : k < l.length
      · obtain ⟨c0, c1, c2, c3, c4, c5, c6⟩ := HL.out.2 k l[k] (by simp [hlt])
        have hmap : Hid ((l.take (k + 1)).map thV = (l.take k).map thV ++ [thV l[k]]) := by
          show (l.take (k + 1)).map thV = _
          rw [List.take_succ_eq_append_getElem hlt, List.map_append]; rfl
        have hnext : Hid (okO l[k] = true → ∀ j (hj : j < l.length), j < k + 1 → okO l[j] = true) := fun hf j hj hj1 => by
          rcases Nat.lt_or_ge j k with h | h
          · exact HN.out j hj h
          · obtain rfl : j = k := by omega
            exact hf
        have hbadr : Hid (okO l[k] = false → thB l = false) := fun h => by unfold thB; rw [all_false hlt h]; simp
        generalize l[k] = o at *
        have hlt' : (k : Int) < (l.length : Int) := by omega
        have hk0 : (0 : Int) ≤ (k : Int) := by omega
        cases hoo : okO o
        · have HO := hideIt hoo
          clear hoo
          go_wp2_with (first
            | (go_at_call 54; refine (thingOf_no _ _ _ _ _ _ _ x _ ?_ ?_ HO.out).mono ?_; (rw [World.cell?_alloc_lt _ _ _ hp0]; exact herr); (simp); rintro e w3 ⟨rfl, hb3⟩; have HC := hideIt hb3; clear hb3))
          have hB3 : Below wr.heap.size wr w3 := ((Below.refl _ _).alloc (Nat.le_refl _) _).trans (HC.out.mono (by simp))
          go_ret2
          exact ⟨.inr ⟨hbadr.out HO.out, rfl⟩, Bstep HB.out hB3⟩
        · have HO := hideIt hoo
          clear hoo
          rcases thV_cases HO.out with ⟨hc1, -⟩ | ⟨hc1, -⟩
          all_goals
            have HC1 := hideIt hc1
            clear hc1
            go_wp2_with (first
              | (go_at_call 54; refine (thingOf_yes o HO.out _).mono ?_; rintro e w3 ⟨rfl, hb3⟩; rw [HC1.out]; have HC : Hid (Below wr.heap.size wr w3) := ((Below.refl _ _).alloc (Nat.le_refl _) _).trans (hb3.mono (by simp)); clear hb3)
              | (at_builtin; refine wpList_append_fits _ rfl _ _ 83 rfl w.heap.size 87 i0 1 Tryd.underlying83 HI.out HZ1.out w.heap.size k l.length ((l.take k).map thV) rfl (ownsRow_below HW.out (HC.out.trans ((Below.refl _ _).alloc HC.out.size _)) (own_lt hMr)) _ 1 1 [thV o] rfl rfl (by rintro (_ | j) u hu <;> simp at hu; subst hu; rw [HC1.out]; simp [Addr.add, go_sem]) (by simp [thV_one]) (by omega) ?_; intro w4 hown4 hgrow4))
            have hB4 : Below w.heap.size w w4 := ((Bstep HB.out HC.out).alloc (by have := HC.out.size; omega) _).grown hgrow4 (by have := HC.out.size; simp; omega) (fun k h => by cases h; exact Nat.le_refl _)
            exact ⟨⟨k + 1, by omega, by go_num, rfl, hnext.out HO.out, by rw [hmap.out]; exact hown4, hB4⟩, by simp [intOf]; omega⟩
      · obtain rfl : k = l.length := by omega
        have HOK : Hid (l.all okO = true) := all_iff.2 fun j hj => HN.out j hj hj
        have HT : Hid (ThingsAt wr w.heap.size l) := things_of_owns (base := w.heap.size) (n := l.length) (cap := l.length) rfl (by have h := HW.out; rw [List.take_length] at h; exact h)
        clear HN HW hk hlt
        go_wp2_with fail
        refine (inOrder_any l w.heap.size l.length _ HT.out hn (Nat.le_refl _) HOK.out).mono ?_
        rintro e w3 ⟨rfl, hb3⟩
        have HB3 : Hid (Below w.heap.size w w3) := Bstep HB.out hb3
        have HT3 : Hid (ThingsAt w3 w.heap.size l) := HT.out.below hb3 hMr
        have hz3 : w.heap.size < w3.heap.size := HT3.out.1
        have hp3 : 0 < w3.heap.size := by omega
        have herr3 : w3.cell? ⟨0, 0, none⟩ = some (.iface 127 (.pointer (some x))) := by rw [(bcell HB3.out).1 _ _ h0]; exact he
        clear hb3 HT HB HL hgr herr hp0 hMr
        cases hord : ordB l
        · have HR := hideIt hord
          clear hord
          go_wp2
          go_region
          go_wp2
          go_ret2
          exact ⟨.inr ⟨by unfold thB; rw [HR.out]; simp, rfl⟩, by have := HB3.out; go_grown⟩
        · have HR := hideIt hord
          clear hord
          go_wp2_with fail
          refine (refs_any l w.heap.size l.length x _ HT3.out h36 (Nat.le_refl _) HOK.out herr3 hp3).mono ?_
          rintro e w4 ⟨(⟨hrf, M2, rfl, hI⟩ | ⟨hrf, rfl⟩), hb4⟩
          · have HRF := hideIt hrf
            have HI4 := hideIt hI
            have HB4 : Hid (Below w.heap.size w w4) := Bstep HB3.out hb4
            have HT4 : Hid (ThingsAt w4 w.heap.size l) := HT3.out.below hb4 hz3
            have hp4 : 0 < w4.heap.size := by have := HT4.out.1; omega
            have herr4 : w4.cell? ⟨0, 0, none⟩ = some (.iface 127 (.pointer (some x))) := by rw [(bcell HB4.out).1 _ _ h0]; exact he
            clear hrf hI hb4 HB3 HT3 herr3 hp3 hz3
            cases hcy : (List.range l.length).all (fun i => cnF (l.map (plc l)) l.length i)
            · have HCY := hideIt hcy
              clear hcy
              go_wp2_with (first
                | (go_at_call 57; refine (cir_any l M2 _ HI4.out hn).mono ?_; rintro e w5 ⟨rfl, rfl⟩; rw [HCY.out]))
              go_region
              go_wp2
              go_ret2
              exact ⟨.inr ⟨by unfold thB; rw [HCY.out]; simp, rfl⟩, by have := HB4.out; go_grown⟩
            · have HCY := hideIt hcy
              clear hcy
              go_wp2_with (first
                | (go_at_call 57; refine (cir_any l M2 _ HI4.out hn).mono ?_; rintro e w5 ⟨rfl, rfl⟩; rw [HCY.out]))
              go_ret2
              exact ⟨.inl ⟨by unfold thB; rw [HOK.out, HR.out, HRF.out, HCY.out]; simp [h36], w.heap.size, Nat.le_refl _, rfl, HT4.out⟩, HB4.out⟩
          · have HRF := hideIt hrf
            have HB4 : Hid (Below w.heap.size w w4) := Bstep HB3.out hb4
            clear hrf hb4
            go_wp2
            go_ret2
            exact ⟨.inr ⟨by unfold thB; rw [HRF.out]; simp, rfl⟩, HB4.out⟩
  · go_enter Tryd.func45, Tryd.ntmps45
    have h36' : (36 : Int) < (l.length : Int) := by omega
    go_wp2
    go_region
    go_wp2
    go_ret2
    exact ⟨.inr ⟨by unfold thB; rw [decide_eq_false h36]; rfl, rfl⟩, by go_grown⟩
end Go.Proofs.YtpkdadccapemcaaDoor
