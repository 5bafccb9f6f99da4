/- Contracts of l1Refs and l1Deep. -/
import Derived.Test.YtpkdadccapemcaaDoorFind
namespace Go.Proofs.YtpkdadccapemcaaDoor
open Go.RowKit
set_option linter.unusedSimpArgs false
set_option linter.unusedVariables false

/-- Where what a thing refers to stands, if it is there. -/
theorem next_some {l : List Op7} {o p : Op7} (h : nextO l o = some p) : ∃ i : Nat, ∃ hi : i < l.length, findI l o.c o.d = i ∧ l[i] = p := by
  unfold nextO at h
  unfold findI
  cases hf : l.findIdx? (hasId o.c o.d) with
  | none => rw [hf] at h; cases h
  | some i =>
    rw [hf] at h
    simp only at h
    obtain ⟨hi, he⟩ := List.getElem?_eq_some_iff.1 h
    exact ⟨i, hi, rfl, he⟩
theorem next_none {l : List Op7} {o : Op7} (h : nextO l o = none) : findI l o.c o.d = -1 := by
  unfold nextO at h
  unfold findI
  cases hf : l.findIdx? (hasId o.c o.d) with
  | none => rfl
  | some i =>
    rw [hf] at h
    simp only at h
    obtain ⟨hi, _⟩ := List.findIdx?_eq_some_iff_getElem.1 hf
    rw [List.getElem?_eq_getElem hi] at h
    cases h

set_option maxHeartbeats 1000000 in
theorem l1Refs_any (l : List Op7) (g cap : Nat) (o : Op7) (w : World) (hl : OpsAt w g l) (hn : l.length ≤ 1048576) (hcap : l.length ≤ cap) :
    Calls Tryd.prog 42 #[.slice (some ⟨g, 0, none⟩) l.length cap, .agg #[.int .i64 o.a, .int .i64 o.b, .int .i64 o.k, .int .i64 o.c, .int .i64 o.d, .int .i64 o.s, .int .i64 o.g]] w fun e w' => e = .returned (.bool (refsB l o)) ∧ Below w.heap.size w w' := by
  have HL : Hid (OpsAt w g l) := hl
  have hgw : g < w.heap.size := hl.1
  have Hres : Hid (refsB l o = (noB o.c o.d || (match nextO l o with | some p => p.k == 1 | none => false))) := rfl
  cases hx : nextO l o with
  | none =>
    have hfi : Hid (findI l o.c o.d = -1) := next_none hx
    rw [hx] at Hres
    clear hx hl
    obtain ⟨oa, ob, ok, oc, od, os', og⟩ := o
    simp only at *
    by_cases hz : oc = 0 ∧ od = 0
    · obtain ⟨rfl, rfl⟩ := hz
      go_enter Tryd.func42, Tryd.ntmps42
      go_wp2_with (first
        | (go_at_call 38; refine (l1Find_any l g cap _ _ _ ?_ hn hcap).mono ?_; (exact HL.out.below ((Below.refl _ _).alloc (Nat.le_refl _) _) hgw); rintro e w' ⟨rfl, hb⟩; rw [hfi.out]; have hB : Below w.heap.size w w' := Bstep (by go_grown) hb; have hlt : w.heap.size < w'.heap.size := (by have := hb.size; (try simp at this); omega); obtain ⟨hc, hf⟩ := bcell hb; clear hb))
      go_ret
      exact ⟨ret_bool (by rw [Hres.out]; simp [noB]), by first | assumption | go_grown⟩
    · have hzz : ¬ oc = 0 ∨ ¬ od = 0 := by omega
      by_cases hz1 : oc = 0
      · subst hz1
        have hz2 : ¬ od = 0 := by omega
        clear hz hzz
        go_enter Tryd.func42, Tryd.ntmps42
        go_wp2_with (first
          | (go_at_call 38; refine (l1Find_any l g cap _ _ _ ?_ hn hcap).mono ?_; (exact HL.out.below ((Below.refl _ _).alloc (Nat.le_refl _) _) hgw); rintro e w' ⟨rfl, hb⟩; rw [hfi.out]; have hB : Below w.heap.size w w' := Bstep (by go_grown) hb; have hlt : w.heap.size < w'.heap.size := (by have := hb.size; (try simp at this); omega); obtain ⟨hc, hf⟩ := bcell hb; clear hb))
        go_ret
        exact ⟨ret_bool (by rw [Hres.out]; simp [noB, hz2]), by first | assumption | go_grown⟩
      · clear hz hzz
        go_enter Tryd.func42, Tryd.ntmps42
        go_wp2_with (first
          | (go_at_call 38; refine (l1Find_any l g cap _ _ _ ?_ hn hcap).mono ?_; (exact HL.out.below ((Below.refl _ _).alloc (Nat.le_refl _) _) hgw); rintro e w' ⟨rfl, hb⟩; rw [hfi.out]; have hB : Below w.heap.size w w' := Bstep (by go_grown) hb; have hlt : w.heap.size < w'.heap.size := (by have := hb.size; (try simp at this); omega); obtain ⟨hc, hf⟩ := bcell hb; clear hb))
        go_ret
        exact ⟨ret_bool (by rw [Hres.out]; simp [noB, hz1]), by first | assumption | go_grown⟩
  | some p =>
    obtain ⟨i, hi, hfi', hp⟩ := next_some hx
    have hfi : Hid (findI l o.c o.d = i) := hfi'
    have hget : Hid (l[i]? = some p) := by show l[i]? = some p; rw [List.getElem?_eq_getElem hi, hp]
    rw [hx] at Hres
    clear hx hl hfi' hp
    obtain ⟨oa, ob, ok, oc, od, os', og⟩ := o
    obtain ⟨pa, pb, pk, pc, pd, ps, pg⟩ := p
    simp only at *
    have hi1 : (i : Int) < (l.length : Int) := by omega
    have hi0 : (0 : Int) ≤ (i : Int) := by omega
    by_cases hz : oc = 0 ∧ od = 0
    · obtain ⟨rfl, rfl⟩ := hz
      go_enter Tryd.func42, Tryd.ntmps42
      go_wp2_with (first
        | (go_at_call 38; refine (l1Find_any l g cap _ _ _ ?_ hn hcap).mono ?_; (exact HL.out.below ((Below.refl _ _).alloc (Nat.le_refl _) _) hgw); rintro e w' ⟨rfl, hb⟩; rw [hfi.out]; have hB : Below w.heap.size w w' := Bstep (by go_grown) hb; have hkc : w'.cell? ⟨g, i * 7 + 2, none⟩ = some (.int .i64 pk) := ((HL.out.below hB hgw).2 i _ hget.out).2.2.1; have hlt : w.heap.size < w'.heap.size := (by have := hb.size; (try simp at this); omega); obtain ⟨hc, hf⟩ := bcell hb; clear hb))
      go_ret
      exact ⟨ret_bool (by rw [Hres.out]; simp [noB]), by first | assumption | go_grown⟩
    · by_cases hz1 : oc = 0
      · subst hz1
        have hz2 : ¬ od = 0 := by omega
        clear hz
        go_enter Tryd.func42, Tryd.ntmps42
        go_wp2_with (first
          | (go_at_call 38; refine (l1Find_any l g cap _ _ _ ?_ hn hcap).mono ?_; (exact HL.out.below ((Below.refl _ _).alloc (Nat.le_refl _) _) hgw); rintro e w' ⟨rfl, hb⟩; rw [hfi.out]; have hB : Below w.heap.size w w' := Bstep (by go_grown) hb; have hkc : w'.cell? ⟨g, i * 7 + 2, none⟩ = some (.int .i64 pk) := ((HL.out.below hB hgw).2 i _ hget.out).2.2.1; have hlt : w.heap.size < w'.heap.size := (by have := hb.size; (try simp at this); omega); obtain ⟨hc, hf⟩ := bcell hb; clear hb))
        go_ret
        exact ⟨ret_bool (by rw [Hres.out]; simp [noB, hz2]), by first | assumption | go_grown⟩
      · clear hz
        go_enter Tryd.func42, Tryd.ntmps42
        go_wp2_with (first
          | (go_at_call 38; refine (l1Find_any l g cap _ _ _ ?_ hn hcap).mono ?_; (exact HL.out.below ((Below.refl _ _).alloc (Nat.le_refl _) _) hgw); rintro e w' ⟨rfl, hb⟩; rw [hfi.out]; have hB : Below w.heap.size w w' := Bstep (by go_grown) hb; have hkc : w'.cell? ⟨g, i * 7 + 2, none⟩ = some (.int .i64 pk) := ((HL.out.below hB hgw).2 i _ hget.out).2.2.1; have hlt : w.heap.size < w'.heap.size := (by have := hb.size; (try simp at this); omega); obtain ⟨hc, hf⟩ := bcell hb; clear hb))
        go_ret
        exact ⟨ret_bool (by rw [Hres.out]; simp [noB, hz1]), by first | assumption | go_grown⟩

set_option maxHeartbeats 1000000 in
theorem l1Deep_any (l : List Op7) (g cap : Nat) (o : Op7) (w : World) (hl : OpsAt w g l) (hn : l.length ≤ 1048576) (hcap : l.length ≤ cap) (ho : refsB l o = true) (hall : l.all (refsB l) = true) :
    Calls Tryd.prog 43 #[.slice (some ⟨g, 0, none⟩) l.length cap, .agg #[.int .i64 o.a, .int .i64 o.b, .int .i64 o.k, .int .i64 o.c, .int .i64 o.d, .int .i64 o.s, .int .i64 o.g]] w fun e w' => e = .returned (.bool (deepF l (l.length + 1) o)) ∧ Below w.heap.size w w' := by
  have hgw : g < w.heap.size := hl.1
  generalize hres : deepF l (l.length + 1) o = res
  go_enter Tryd.func43, Tryd.ntmps43
  go_wp2
  go_loopw [5] (fun i wr => ∃ (k : Nat) (q : Op7), k ≤ l.length + 1 ∧ i = .int .i64 k ∧ deepF l (l.length + 1 - k) q = res ∧ refsB l q = true ∧ w.heap.size < wr.heap.size ∧ (∀ j, wr.frozen? ⟨w.heap.size, j, none⟩ = false) ∧
      wr.cell? ⟨w.heap.size, 0, none⟩ = some (.int .i64 q.a) ∧ wr.cell? ⟨w.heap.size, 1, none⟩ = some (.int .i64 q.b) ∧ wr.cell? ⟨w.heap.size, 2, none⟩ = some (.int .i64 q.k) ∧ wr.cell? ⟨w.heap.size, 3, none⟩ = some (.int .i64 q.c) ∧ wr.cell? ⟨w.heap.size, 4, none⟩ = some (.int .i64 q.d) ∧ wr.cell? ⟨w.heap.size, 5, none⟩ = some (.int .i64 q.s) ∧ wr.cell? ⟨w.heap.size, 6, none⟩ = some (.int .i64 q.g) ∧ Below w.heap.size w wr)
    (fun i _ => l.length + 1 - (intOf i).toNat)
  case atStart => exact ⟨0, o, Nat.zero_le _, rfl, hres, ho, by simp, fun j => by simp [go_sem], by simp [go_sem], by simp [go_sem], by simp [go_sem], by simp [go_sem], by simp [go_sem], by simp [go_sem], by simp [go_sem], by go_grown⟩
  case round =>
    obtain ⟨k, q, hk, rfl, hq, hrq, hws, hfz, c0, c1, c2, c3, c4, c5, c6, hB⟩ := hrel
    have HL : Hid (OpsAt wr g l) := hl.below hB hgw
    have hgr : g < wr.heap.size := HL.out.1
    have HB : Hid (Below w.heap.size w wr) := hB
    have HA : Hid (l.all (refsB l) = true) := hall
    have HQ : Hid (deepF l (l.length + 1 - k) q = res) := hq
    have HR : Hid (refsB l q = true) := hrq
    clear hB hl hall ho hres hq hrq
    by_cases hlt : k < l.length + 1
    · obtain ⟨f, hf⟩ : ∃ f, l.length + 1 - k = f + 1 := ⟨l.length - k, by omega⟩
      have hle : (k : Int) ≤ (l.length : Int) := by omega
      by_cases hz : q.c = 0 ∧ q.d = 0
      · have hfin : Hid (res = true) := by
          show res = true
          have := HQ.out; rw [hf] at this; rw [← this]; simp [deepF, noB, hz.1, hz.2]
        obtain ⟨hz1, hz2⟩ := hz
        rw [hz1] at c3
        rw [hz2] at c4
        clear hz1 hz2
        go_wp2
        go_ret
        exact ⟨ret_bool hfin.out.symm, by first | exact HB.out | go_grown⟩
      · have hzb : noB q.c q.d = false := decide_eq_false hz
        have hnx : ∃ p, nextO l q = some p := by
          have := HR.out
          unfold refsB at this
          rw [hzb] at this
          cases hx : nextO l q with
          | none => rw [hx] at this; cases this
          | some p => exact ⟨p, rfl⟩
        obtain ⟨p, hp⟩ := hnx
        obtain ⟨i, hi, hfi', hpi⟩ := next_some hp
        have hfi : Hid (findI l q.c q.d = i) := hfi'
        have hget : Hid (l[i]? = some p) := by show l[i]? = some p; rw [List.getElem?_eq_getElem hi, hpi]
        have hnext : Hid (deepF l (l.length + 1 - (k + 1)) p = res) := by
          show deepF l (l.length + 1 - (k + 1)) p = res
          have := HQ.out; rw [hf] at this
          rw [show l.length + 1 - (k + 1) = f from by omega, ← this]
          simp [deepF, hzb, hp]
        have hrp : Hid (refsB l p = true) := by show refsB l p = true; rw [← hpi]; exact all_iff.1 HA.out i hi
        clear hzb hp hfi' hpi HQ HR hf
        have hi1 : (i : Int) < (l.length : Int) := by omega
        have hi0 : (0 : Int) ≤ (i : Int) := by omega
        obtain ⟨qa, qb, qk, qc, qd, qs, qg⟩ := q
        simp only at *
        by_cases hz1 : qc = 0
        · subst hz1
          have hz2 : ¬ qd = 0 := by omega
          clear hz
          go_wp2_with (first
            | (go_at_call 38; refine (l1Find_any l g cap _ _ _ HL.out hn hcap).mono ?_; rintro e w2 ⟨rfl, hb⟩; rw [hfi.out]; have HB2 : Hid (Below wr.heap.size wr w2) := hb; obtain ⟨e0, e1, e2, e3, e4, e5, e6⟩ := (HL.out.below hb hgr).2 i _ hget.out; have hcb : ∀ o, w2.cell? ⟨w.heap.size, o, none⟩ = wr.cell? ⟨w.heap.size, o, none⟩ := (fun o => (bcell hb).1 _ _ hws); have hfb : ∀ o, w2.frozen? ⟨w.heap.size, o, none⟩ = wr.frozen? ⟨w.heap.size, o, none⟩ := (fun o => (bcell hb).2 _ _ hws); clear hb))
          have hw2 : w.heap.size < w2.heap.size := Nat.lt_of_lt_of_le hws HB2.out.size
          refine ⟨⟨k + 1, p, by omega, by go_num, hnext.out, hrp.out, by simpa using hw2, fun j => by simp [hfb, hfz], by simp [hcb, c0, c1, c2, c3, c4, c5, c6, go_sem], by simp [hcb, c0, c1, c2, c3, c4, c5, c6, go_sem], by simp [hcb, c0, c1, c2, c3, c4, c5, c6, go_sem], by simp [hcb, c0, c1, c2, c3, c4, c5, c6, go_sem], by simp [hcb, c0, c1, c2, c3, c4, c5, c6, go_sem], by simp [hcb, c0, c1, c2, c3, c4, c5, c6, go_sem], by simp [hcb, c0, c1, c2, c3, c4, c5, c6, go_sem], ?_⟩, by simp [intOf]; omega⟩
          exact (((((((Bstep HB.out HB2.out).setCell (Nat.le_refl _) _).setCell (Nat.le_refl _) _).setCell (Nat.le_refl _) _).setCell (Nat.le_refl _) _).setCell (Nat.le_refl _) _).setCell (Nat.le_refl _) _).setCell (Nat.le_refl _) _
        · clear hz
          go_wp2_with (first
            | (go_at_call 38; refine (l1Find_any l g cap _ _ _ HL.out hn hcap).mono ?_; rintro e w2 ⟨rfl, hb⟩; rw [hfi.out]; have HB2 : Hid (Below wr.heap.size wr w2) := hb; obtain ⟨e0, e1, e2, e3, e4, e5, e6⟩ := (HL.out.below hb hgr).2 i _ hget.out; have hcb : ∀ o, w2.cell? ⟨w.heap.size, o, none⟩ = wr.cell? ⟨w.heap.size, o, none⟩ := (fun o => (bcell hb).1 _ _ hws); have hfb : ∀ o, w2.frozen? ⟨w.heap.size, o, none⟩ = wr.frozen? ⟨w.heap.size, o, none⟩ := (fun o => (bcell hb).2 _ _ hws); clear hb))
          have hw2 : w.heap.size < w2.heap.size := Nat.lt_of_lt_of_le hws HB2.out.size
          refine ⟨⟨k + 1, p, by omega, by go_num, hnext.out, hrp.out, by simpa using hw2, fun j => by simp [hfb, hfz], by simp [hcb, c0, c1, c2, c3, c4, c5, c6, go_sem], by simp [hcb, c0, c1, c2, c3, c4, c5, c6, go_sem], by simp [hcb, c0, c1, c2, c3, c4, c5, c6, go_sem], by simp [hcb, c0, c1, c2, c3, c4, c5, c6, go_sem], by simp [hcb, c0, c1, c2, c3, c4, c5, c6, go_sem], by simp [hcb, c0, c1, c2, c3, c4, c5, c6, go_sem], by simp [hcb, c0, c1, c2, c3, c4, c5, c6, go_sem], ?_⟩, by simp [intOf]; omega⟩
          exact (((((((Bstep HB.out HB2.out).setCell (Nat.le_refl _) _).setCell (Nat.le_refl _) _).setCell (Nat.le_refl _) _).setCell (Nat.le_refl _) _).setCell (Nat.le_refl _) _).setCell (Nat.le_refl _) _).setCell (Nat.le_refl _) _
    · have hk' : k = l.length + 1 := by omega
      subst hk'
      have hfin : Hid (res = false) := by
        show res = false
        have := HQ.out; rw [← this]; simp [deepF]
      clear HQ HR
      go_wp2
      go_ret
      exact ⟨ret_bool hfin.out.symm, by first | exact HB.out | go_grown⟩
end Go.Proofs.YtpkdadccapemcaaDoor
