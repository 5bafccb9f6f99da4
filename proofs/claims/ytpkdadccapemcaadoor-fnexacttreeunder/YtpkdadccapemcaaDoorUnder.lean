/- The contract of the tree's under. -/
import Derived.Test.YtpkdadccapemcaaDoorUnderMath
import Derived.Test.YtpkdadccapemcaaDoorTreeOf
namespace Go.Proofs.YtpkdadccapemcaaDoor
open Go.RowKit
open Go.Maps (Keyed)
set_option linter.unusedSimpArgs false
set_option linter.unusedVariables false
attribute [local go_sem ↓] Go.wp_at_zero Go.wp_at_succ

theorem least_is (p : Nat → Prop) : ∀ n, p n → ∃ m, p m ∧ ∀ k, p k → m ≤ k := by
  intro n
  induction n using Nat.strongRecOn with
  | ind n ih =>
    intro hn
    by_cases h : ∃ k, k < n ∧ p k
    · obtain ⟨k, hk, hp⟩ := h
      exact ih k hk hp
    · exact ⟨n, hn, fun k hk => by
        rcases Nat.lt_or_ge k n with h1 | h1
        · exact absurd ⟨k, h1, hk⟩ h
        · exact h1⟩
open Classical in
/-- The least number of which p holds. -/
noncomputable def least (p : Nat → Prop) : Nat := if h : ∃ m, p m ∧ ∀ k, p k → m ≤ k then Classical.choose h else 0
theorem least_spec {p : Nat → Prop} {n : Nat} (h : p n) : p (least p) ∧ ∀ k, p k → least p ≤ k := by
  have h' := least_is p n h
  unfold least
  rw [dif_pos h']
  exact Classical.choose_spec h'

/-- The sign of an id, or nothing. -/
def signAt (l : List Op7) (x : Int × Int) : Op7 := (putAt l x).getD ⟨0, 0, 0, 0, 0, 0, 0⟩
theorem sign_look {l : List Op7} (h : opsB l = true) (x : Int × Int) : (signF l x).getD (.agg #[.int .i64 0, .int .i64 0, .int .i64 0, .int .i64 0, .int .i64 0, .int .i64 0]) = .agg #[.int .i64 (signAt l x).a, .int .i64 (signAt l x).b, .int .i64 (signAt l x).c, .int .i64 (signAt l x).d, .int .i64 (signAt l x).s, .int .i64 (signAt l x).g] ∧ (signF l x).isSome = (putAt l x).isSome := by
  obtain ⟨hok, hord⟩ := opsParts h
  rw [signF_is l (once_of hok hord) x]
  unfold signAt
  cases putAt l x <;> simp [putV]

/-- Where the steps stand. -/
structure UI (l : List Op7) (w wr : World) (b1 : Nat) (br bm : Int) (ans : Bool) (bb n : Nat) (x : Int × Int) (sb : Nat) : Prop where
  bel : Below w.heap.size w wr
  tc : wr.cell? ⟨w.heap.size, 0, none⟩ = some (.map (some b1))
  c0 : wr.cell? ⟨bb, 0, none⟩ = some (.int .i64 br)
  c1 : wr.cell? ⟨bb, 1, none⟩ = some (.int .i64 bm)
  eb : w.heap.size < bb
  gt : bb < sb
  lt : sb < wr.heap.size
  fz : ∀ j, wr.frozen? ⟨sb, j, none⟩ = false
  x0 : wr.cell? ⟨sb, 0, none⟩ = some (.int .i64 (signAt l x).a)
  x1 : wr.cell? ⟨sb, 1, none⟩ = some (.int .i64 (signAt l x).b)
  x2 : wr.cell? ⟨sb, 2, none⟩ = some (.int .i64 (signAt l x).c)
  x3 : wr.cell? ⟨sb, 3, none⟩ = some (.int .i64 (signAt l x).d)
  x4 : wr.cell? ⟨sb, 4, none⟩ = some (.int .i64 (signAt l x).s)
  x5 : wr.cell? ⟨sb, 5, none⟩ = some (.int .i64 (signAt l x).g)
  dp : Dp l n x
  un : underN l n x br bm = ans

theorem UI.next {l : List Op7} {w wr : World} {b1 : Nat} {br bm : Int} {ans : Bool} {bb n : Nat} {x : Int × Int} {sb : Nat} (h : UI l w wr b1 br bm ans bb n x sb) (hops : opsB l = true) {o : Op7} (ho : putAt l x = some o) (hne : ¬ (o.c = br ∧ o.d = bm)) (T : TypeId) :
    ∃ m, m < n ∧ UI l w (wr.alloc (.cells #[.int .i64 (signAt l (o.c, o.d)).a, .int .i64 (signAt l (o.c, o.d)).b, .int .i64 (signAt l (o.c, o.d)).c, .int .i64 (signAt l (o.c, o.d)).d, .int .i64 (signAt l (o.c, o.d)).s, .int .i64 (signAt l (o.c, o.d)).g] T)) b1 br bm ans bb m (o.c, o.d) wr.heap.size := by
  obtain ⟨m, rfl, hd⟩ := dp_step hops h.dp ho
  have h1 := h.eb
  have h2 := h.gt
  have h3 := h.lt
  have hc : ∀ b j, b < wr.heap.size → (wr.alloc (.cells #[.int .i64 (signAt l (o.c, o.d)).a, .int .i64 (signAt l (o.c, o.d)).b, .int .i64 (signAt l (o.c, o.d)).c, .int .i64 (signAt l (o.c, o.d)).d, .int .i64 (signAt l (o.c, o.d)).s, .int .i64 (signAt l (o.c, o.d)).g] T)).cell? ⟨b, j, none⟩ = wr.cell? ⟨b, j, none⟩ := fun b j hb => World.cell?_alloc_lt _ _ _ hb
  exact ⟨m, Nat.lt_succ_self _, ⟨h.bel.alloc h.bel.size _, (hc _ _ (by omega)).trans h.tc, (hc _ _ (by omega)).trans h.c0, (hc _ _ (by omega)).trans h.c1, h1, by omega, by simp, fun j => by simp [go_sem], by simp [go_sem], by simp [go_sem], by simp [go_sem], by simp [go_sem], by simp [go_sem], by simp [go_sem], hd, by rw [← under_on ho hne]; exact h.un⟩⟩
theorem least_lt {p q : Nat → Prop} {m N : Nat} (hq : q m) (hm : m < N) (hN : least p = N) : least q < least p := by
  rw [hN]
  exact Nat.lt_of_le_of_lt ((least_spec hq).2 m hq) hm

set_option maxRecDepth 100000 in
set_option maxHeartbeats 4000000 in
theorem under_any (l : List Op7) (hops : opsB l = true) (b1 b2 b3 base : Nat) (ar am br bm : Int) (w : World) (hT : TreeAt w b1 b2 b3 base l) (h1 : wf64 ar) (h2 : wf64 am) :
    Calls Tryd.prog 39 #[.agg #[.map (some b1), .map (some b2), .map (some b3)], .agg #[.int .i64 ar, .int .i64 am], .agg #[.int .i64 br, .int .i64 bm]] w fun e w' => e = .returned (.bool (underN l (l.length + 1) (ar, am) br bm)) ∧ Below w.heap.size w w' := by
  have HT := hideIt hT
  have HO := hideIt hops
  obtain ⟨kl, hkl⟩ := key_id h1 h2
  have HKL := hideIt hkl
  have HB0 : Hid (Below w.heap.size w (((w.alloc (.cells #[.map (some b1), .map (some b2), .map (some b3)] 55)).alloc (.cells #[.int .i64 ar, .int .i64 am] 38)).alloc (.cells #[.int .i64 br, .int .i64 bm] 38))) :=
    (((Below.refl _ _).alloc (Nat.le_refl _) _).alloc (by simp) _).alloc (by simp; omega) _
  clear hT hops hkl h1 h2
  obtain ⟨hv, hq⟩ := sign_look HO.out (ar, am)
  have HV := hideIt hv
  have HQ := hideIt hq
  clear hv hq
  go_enter Tryd.func39, Tryd.ntmps39
  go_wp2_with (first
    | (at_lookup; refine wpList_look1 (t := 51) (e := 77) rfl _ _ rfl keyedId Tryd.underlying51 (.agg #[.int .i64 0, .int .i64 0, .int .i64 0, .int .i64 0, .int .i64 0, .int .i64 0]) (zeroPut _) encId_inj rfl (HT.out.1.below HB0.out HT.out.1.lt) (ar, am) rfl kl HKL.out _ HV.out _ HQ.out ?_))
  generalize hbb : w.heap.size + 1 + 1 = bb
  generalize hs0 : bb + 1 = s0
  go_loopw [7, 8] (fun s7 s8 wr => ∃ n x sb, s7 = .pointer (some ⟨sb, 0, none⟩) ∧ s8 = .bool (putAt l x).isSome ∧ UI l w wr b1 br bm (underN l (l.length + 1) (ar, am) br bm) bb n x sb)
    (fun s7 s8 wr => least (fun n => ∃ x sb, s7 = .pointer (some ⟨sb, 0, none⟩) ∧ s8 = .bool (putAt l x).isSome ∧ UI l w wr b1 br bm (underN l (l.length + 1) (ar, am) br bm) bb n x sb))
  case atStart =>
    subst hs0 hbb
    exact ⟨l.length + 1, (ar, am), _, rfl, rfl, ⟨by have := HB0.out; go_grown, by simp [go_sem], by simp [go_sem], by simp [go_sem], by omega, by omega, by simp, fun j => by simp [go_sem], by simp [go_sem], by simp [go_sem], by simp [go_sem], by simp [go_sem], by simp [go_sem], by simp [go_sem], dp_start HO.out _, rfl⟩⟩
  case round =>
    obtain ⟨n1, hn1⟩ := hrel
    obtain ⟨⟨x, sb, e7, e8, hU⟩, -⟩ := least_spec (p := fun n => ∃ x sb, u7 = .pointer (some ⟨sb, 0, none⟩) ∧ u8 = .bool (putAt l x).isSome ∧ UI l w wr b1 br bm (underN l (l.length + 1) (ar, am) br bm) bb n x sb) hn1
    generalize hN : least _ = N at hU
    have HN := hideIt hN
    have HU := hideIt hU
    clear hn1 hN hU
    have tc := HU.out.tc
    have c0 := HU.out.c0
    have c1 := HU.out.c1
    have hbs := HU.out.gt
    have hsl := HU.out.lt
    have hwb := HU.out.eb
    have hwr : w.heap.size < wr.heap.size := by omega
    have hbr : bb < wr.heap.size := by omega
    have x0 := HU.out.x0
    have x1 := HU.out.x1
    have x2 := HU.out.x2
    have x3 := HU.out.x3
    have x4 := HU.out.x4
    have x5 := HU.out.x5
    have fz := HU.out.fz
    cases hp : putAt l x with
    | none =>
      have HP := hideIt hp
      rw [hp] at e8
      clear hp
      subst e7 e8
      go_wp2
      go_ret
      exact ⟨ret_bool (by rw [← HU.out.un, under_no HP.out]), HU.out.bel⟩
    | some o =>
      have HP := hideIt hp
      rw [hp] at e8
      have hs : signAt l x = o := by unfold signAt; rw [hp]; rfl
      rw [hs] at x0 x1 x2 x3 x4 x5
      clear hp hs
      subst e7 e8
      by_cases hcr : o.c = br
      · by_cases hdm : o.d = bm
        · have HD : Hid (o.c = br ∧ o.d = bm) := ⟨hcr, hdm⟩
          rw [hcr] at x2
          rw [hdm] at x3
          clear hcr hdm
          go_wp2
          go_ret
          exact ⟨ret_bool (by
            obtain ⟨m, hm, _⟩ := dp_step HO.out HU.out.dp HP.out
            rw [← HU.out.un, hm, under_hit HP.out HD.out]), HU.out.bel⟩
        · have HNE : ¬ (o.c = br ∧ o.d = bm) := fun h => hdm h.2
          have HD : Hid (¬ (o.c = br ∧ o.d = bm)) := fun h => HNE h
          clear HNE
          subst hcr
          obtain ⟨kl2, hkl2⟩ := key_id (r := o.c) (m := o.d) (wf_small (by have := okO_num (List.all_eq_true.1 (opsParts HO.out).1 o (putAt_some HP.out).2.2.1); omega)) (wf_small (by have := okO_num (List.all_eq_true.1 (opsParts HO.out).1 o (putAt_some HP.out).2.2.1); omega))
          have HK2 := hideIt hkl2
          obtain ⟨hv2, hq2⟩ := sign_look HO.out (o.c, o.d)
          have HV2 := hideIt hv2
          have HQ2 := hideIt hq2
          clear hkl2 hv2 hq2
          go_wp2_with (first
            | (at_lookup; refine wpList_look1 (t := 51) (e := 77) rfl _ _ rfl keyedId Tryd.underlying51 (.agg #[.int .i64 0, .int .i64 0, .int .i64 0, .int .i64 0, .int .i64 0, .int .i64 0]) (zeroPut _) encId_inj rfl (HT.out.1.below (HU.out.bel.alloc HU.out.bel.size _) HT.out.1.lt) (o.c, o.d) rfl kl2 HK2.out _ HV2.out _ HQ2.out ?_))
          obtain ⟨m, hm, hU2⟩ := HU.out.next HO.out HP.out HD.out 77
          exact ⟨⟨m, (o.c, o.d), _, rfl, rfl, hU2⟩, least_lt (m := m) ⟨(o.c, o.d), _, rfl, rfl, hU2⟩ hm HN.out⟩
      · have HNE : ¬ (o.c = br ∧ o.d = bm) := fun h => hcr h.1
        have HD : Hid (¬ (o.c = br ∧ o.d = bm)) := fun h => HNE h
        clear HNE
        obtain ⟨kl2, hkl2⟩ := key_id (r := o.c) (m := o.d) (wf_small (by have := okO_num (List.all_eq_true.1 (opsParts HO.out).1 o (putAt_some HP.out).2.2.1); omega)) (wf_small (by have := okO_num (List.all_eq_true.1 (opsParts HO.out).1 o (putAt_some HP.out).2.2.1); omega))
        have HK2 := hideIt hkl2
        obtain ⟨hv2, hq2⟩ := sign_look HO.out (o.c, o.d)
        have HV2 := hideIt hv2
        have HQ2 := hideIt hq2
        clear hkl2 hv2 hq2
        go_wp2_with (first
          | (at_lookup; refine wpList_look1 (t := 51) (e := 77) rfl _ _ rfl keyedId Tryd.underlying51 (.agg #[.int .i64 0, .int .i64 0, .int .i64 0, .int .i64 0, .int .i64 0, .int .i64 0]) (zeroPut _) encId_inj rfl (HT.out.1.below (HU.out.bel.alloc HU.out.bel.size _) HT.out.1.lt) (o.c, o.d) rfl kl2 HK2.out _ HV2.out _ HQ2.out ?_))
        obtain ⟨m, hm, hU2⟩ := HU.out.next HO.out HP.out HD.out 77
        exact ⟨⟨m, (o.c, o.d), _, rfl, rfl, hU2⟩, least_lt (m := m) ⟨(o.c, o.d), _, rfl, rfl, hU2⟩ hm HN.out⟩
end Go.Proofs.YtpkdadccapemcaaDoor
