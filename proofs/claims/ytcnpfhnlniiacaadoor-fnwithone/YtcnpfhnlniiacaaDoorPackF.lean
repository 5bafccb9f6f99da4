/- How bytes that came in read. -/
import Derived.Test.YtcnpfhnlniiacaaDoorPackB
import Derived.Test.YtcnpfhnlniiacaaDoorPackA
import Derived.Test.YtcnpfhnlniiacaaDoorPackD
import Derived.Test.YtcnpfhnlniiacaaDoorPackC
import Derived.BigQuiet
import Derived.WalkSmall
import Derived.Maps.OwnIn
import Derived.RangeFuncNested
import Derived.RangeFuncBound
import Derived.RangeFuncCalls
import Derived.RangeFuncLeaves
import Derived.Shelf.Abstract
import Derived.OwnWalkIn
import Derived.TacticsInMore
import Derived.LoopNIn
import Derived.LoopIn
import Derived.RangeFuncBox
import Derived.Test.YtcnpfhnlniiacaaDoorRows
import Derived.WalkKit
import Derived.ProofKit
import Derived.OpenShut
import Derived.ChangeOld
import Derived.Below
import Derived.Lib.SmallJoins
import Derived.Stop.LaidErr
import Derived.LaidMore
import Derived.Stop.Joined
import Derived.ChangeSlices
namespace Go.Proofs.YtcnpfhnlniiacaaDoor
open Go.RowKit
set_option linter.unusedSimpArgs false
set_option linter.unusedVariables false

/-- One comes from x to br, bm within n steps. -/
def underN (l : List Op7) : Nat → Int × Int → Int → Int → Bool
  | 0, _, _, _ => false
  | n + 1, x, br, bm => match putAt l x with | none => false | some o => if o.c = br ∧ o.d = bm then true else underN l n (o.c, o.d) br bm
/-- From x one comes to nothing within n steps. -/
def Dp (l : List Op7) (n : Nat) (x : Int × Int) : Prop := ∀ o, putAt l x = some o → deepF l n o = true

theorem findIdx_get {l : List Op7} {p : Op7 → Bool} : (match l.findIdx? p with | some i => l[i]? | none => none) = l.find? p := by
  induction l with
  | nil => rfl
  | cons a r ih =>
    rw [List.findIdx?_cons, List.find?_cons]
    cases h : p a
    · simp only [Bool.false_eq_true, if_false]
      rw [← ih]
      cases r.findIdx? p <;> simp
    · simp
theorem nextO_find (l : List Op7) (o : Op7) : nextO l o = l.find? (hasId o.c o.d) := by
  unfold nextO
  exact findIdx_get
theorem putAt_some {l : List Op7} {x : Int × Int} {o : Op7} (h : putAt l x = some o) : l.find? (hasId x.1 x.2) = some o ∧ o.k = 1 ∧ o ∈ l ∧ o.a = x.1 ∧ o.b = x.2 := by
  unfold putAt at h
  cases hf : l.find? (hasId x.1 x.2) with
  | none => rw [hf] at h; cases h
  | some p =>
    rw [hf] at h
    simp only at h
    split at h
    · rename_i hk
      obtain rfl := Option.some.inj h
      have h1 := List.find?_some hf
      have h2 : p.a = x.1 ∧ p.b = x.2 := by simpa [hasId] using h1
      exact ⟨rfl, hk, List.mem_of_find?_eq_some hf, h2.1, h2.2⟩
    · cases h
theorem opsDeep {l : List Op7} (h : opsB l = true) : l.all (deepF l (l.length + 1)) = true := by
  unfold opsB at h
  simp only [Bool.and_eq_true] at h
  exact h.2.2.2
theorem dp_start {l : List Op7} (h : opsB l = true) (x : Int × Int) : Dp l (l.length + 1) x := fun o ho =>
  List.all_eq_true.1 (opsDeep h) o (putAt_some ho).2.2.1
theorem dp_step {l : List Op7} (h : opsB l = true) {n : Nat} {x : Int × Int} (hd : Dp l n x) {o : Op7} (ho : putAt l x = some o) : ∃ m, n = m + 1 ∧ Dp l m (o.c, o.d) := by
  have h1 := hd o ho
  rcases n with _ | m
  · simp [deepF] at h1
  · refine ⟨m, rfl, fun q hq => ?_⟩
    obtain ⟨hf, _, hm, ha, hb⟩ := putAt_some hq
    have hid := okO_id (List.all_eq_true.1 (opsParts h).1 q hm)
    have hno : noB o.c o.d = false := by unfold noB; exact decide_eq_false (by omega)
    unfold deepF at h1
    rw [hno, nextO_find, hf] at h1
    simpa using h1
theorem under_hit {l : List Op7} {m : Nat} {x : Int × Int} {o : Op7} {br bm : Int} (ho : putAt l x = some o) (h : o.c = br ∧ o.d = bm) : underN l (m + 1) x br bm = true := by
  unfold underN; rw [ho]; simp [h]
theorem under_on {l : List Op7} {m : Nat} {x : Int × Int} {o : Op7} {br bm : Int} (ho : putAt l x = some o) (h : ¬ (o.c = br ∧ o.d = bm)) : underN l (m + 1) x br bm = underN l m (o.c, o.d) br bm := by
  rw [underN]; rw [ho]; simp only; rw [if_neg h]
theorem under_no {l : List Op7} {n : Nat} {x : Int × Int} {br bm : Int} (ho : putAt l x = none) : underN l n x br bm = false := by
  rcases n with _ | m
  · rfl
  · unfold underN; rw [ho]
theorem find_cases (l : List Op7) (x : Int × Int) : (findI l x.1 x.2 = -1 ∧ putAt l x = none) ∨ ∃ (i : Nat) (o : Op7), findI l x.1 x.2 = i ∧ i < l.length ∧ l[i]? = some o ∧ putAt l x = if o.k = 1 then some o else none := by
  have hf := findIdx_get (l := l) (p := hasId x.1 x.2)
  unfold findI putAt
  cases h : l.findIdx? (hasId x.1 x.2) with
  | none =>
    rw [h] at hf
    rw [← hf]
    exact .inl ⟨rfl, rfl⟩
  | some i =>
    rw [h] at hf
    have hi : i < l.length := (List.findIdx?_eq_some_iff_getElem.1 h).1
    rw [← hf]
    refine .inr ⟨i, l[i], rfl, hi, by simp [hi], ?_⟩
    simp [hi]
/-- Who is under whom, if what was done is ok. -/
def undB (l : List Op7) (ar am br bm : Int) : Bool := if opsB l = true then underN l (l.length + 1) (ar, am) br bm else false
end Go.Proofs.YtcnpfhnlniiacaaDoor

namespace Go.Proofs.YtcnpfhnlniiacaaDoor
open Go.RowKit
open Go.Maps (Keyed)
set_option linter.unusedSimpArgs false
set_option linter.unusedVariables false
attribute [local go_sem ↓] Go.wp_at_zero Go.wp_at_succ

theorem least_is (p : Nat → Prop) : ∀ n, p n → ∃ m, p m ∧ ∀ k, p k → m ≤ k := by
  intro n
  induction n using Nat.strongRecOn with
  | ind n ih =>
    intro hn
    by_cases h : ∃ k, k < n ∧ p k
    · obtain ⟨k, hk, hp⟩ := h
      exact ih k hk hp
    · exact ⟨n, hn, fun k hk => by
        rcases Nat.lt_or_ge k n with h1 | h1
        · exact absurd ⟨k, h1, hk⟩ h
        · exact h1⟩
open Classical in
/-- The least number of which p holds. -/
noncomputable def least (p : Nat → Prop) : Nat := if h : ∃ m, p m ∧ ∀ k, p k → m ≤ k then Classical.choose h else 0
theorem least_spec {p : Nat → Prop} {n : Nat} (h : p n) : p (least p) ∧ ∀ k, p k → least p ≤ k := by
  have h' := least_is p n h
  unfold least
  rw [dif_pos h']
  exact Classical.choose_spec h'

/-- The sign of an id, or nothing. -/
def signAt (l : List Op7) (x : Int × Int) : Op7 := (putAt l x).getD ⟨0, 0, 0, 0, 0, 0, 0⟩
theorem sign_look {l : List Op7} (h : opsB l = true) (x : Int × Int) : (signF l x).getD (.agg #[.int .i64 0, .int .i64 0, .int .i64 0, .int .i64 0, .int .i64 0, .int .i64 0]) = .agg #[.int .i64 (signAt l x).a, .int .i64 (signAt l x).b, .int .i64 (signAt l x).c, .int .i64 (signAt l x).d, .int .i64 (signAt l x).s, .int .i64 (signAt l x).g] ∧ (signF l x).isSome = (putAt l x).isSome := by
  obtain ⟨hok, hord⟩ := opsParts h
  rw [signF_is l (once_of hok hord) x]
  unfold signAt
  cases putAt l x <;> simp [putV]

/-- Where the steps stand. -/
structure UI (l : List Op7) (w wr : World) (b1 : Nat) (br bm : Int) (ans : Bool) (bb n : Nat) (x : Int × Int) (sb : Nat) : Prop where
  bel : Below w.heap.size w wr
  tc : wr.cell? ⟨w.heap.size, 0, none⟩ = some (.map (some b1))
  c0 : wr.cell? ⟨bb, 0, none⟩ = some (.int .i64 br)
  c1 : wr.cell? ⟨bb, 1, none⟩ = some (.int .i64 bm)
  eb : w.heap.size < bb
  gt : bb < sb
  lt : sb < wr.heap.size
  fz : ∀ j, wr.frozen? ⟨sb, j, none⟩ = false
  x0 : wr.cell? ⟨sb, 0, none⟩ = some (.int .i64 (signAt l x).a)
  x1 : wr.cell? ⟨sb, 1, none⟩ = some (.int .i64 (signAt l x).b)
  x2 : wr.cell? ⟨sb, 2, none⟩ = some (.int .i64 (signAt l x).c)
  x3 : wr.cell? ⟨sb, 3, none⟩ = some (.int .i64 (signAt l x).d)
  x4 : wr.cell? ⟨sb, 4, none⟩ = some (.int .i64 (signAt l x).s)
  x5 : wr.cell? ⟨sb, 5, none⟩ = some (.int .i64 (signAt l x).g)
  dp : Dp l n x
  un : underN l n x br bm = ans

theorem UI.next {l : List Op7} {w wr : World} {b1 : Nat} {br bm : Int} {ans : Bool} {bb n : Nat} {x : Int × Int} {sb : Nat} (h : UI l w wr b1 br bm ans bb n x sb) (hops : opsB l = true) {o : Op7} (ho : putAt l x = some o) (hne : ¬ (o.c = br ∧ o.d = bm)) (T : TypeId) :
    ∃ m, m < n ∧ UI l w (wr.alloc (.cells #[.int .i64 (signAt l (o.c, o.d)).a, .int .i64 (signAt l (o.c, o.d)).b, .int .i64 (signAt l (o.c, o.d)).c, .int .i64 (signAt l (o.c, o.d)).d, .int .i64 (signAt l (o.c, o.d)).s, .int .i64 (signAt l (o.c, o.d)).g] T)) b1 br bm ans bb m (o.c, o.d) wr.heap.size := by
  obtain ⟨m, rfl, hd⟩ := dp_step hops h.dp ho
  have h1 := h.eb
  have h2 := h.gt
  have h3 := h.lt
  have hc : ∀ b j, b < wr.heap.size → (wr.alloc (.cells #[.int .i64 (signAt l (o.c, o.d)).a, .int .i64 (signAt l (o.c, o.d)).b, .int .i64 (signAt l (o.c, o.d)).c, .int .i64 (signAt l (o.c, o.d)).d, .int .i64 (signAt l (o.c, o.d)).s, .int .i64 (signAt l (o.c, o.d)).g] T)).cell? ⟨b, j, none⟩ = wr.cell? ⟨b, j, none⟩ := fun b j hb => World.cell?_alloc_lt _ _ _ hb
  exact ⟨m, Nat.lt_succ_self _, ⟨h.bel.alloc h.bel.size _, (hc _ _ (by omega)).trans h.tc, (hc _ _ (by omega)).trans h.c0, (hc _ _ (by omega)).trans h.c1, h1, by omega, by simp, fun j => by simp [go_sem], by simp [go_sem], by simp [go_sem], by simp [go_sem], by simp [go_sem], by simp [go_sem], by simp [go_sem], hd, by rw [← under_on ho hne]; exact h.un⟩⟩
theorem least_lt {p q : Nat → Prop} {m N : Nat} (hq : q m) (hm : m < N) (hN : least p = N) : least q < least p := by
  rw [hN]
  exact Nat.lt_of_le_of_lt ((least_spec hq).2 m hq) hm

set_option maxRecDepth 100000 in
set_option maxHeartbeats 4000000 in
theorem under_any (l : List Op7) (hops : opsB l = true) (b1 b2 b3 base : Nat) (ar am br bm : Int) (w : World) (hT : TreeAt w b1 b2 b3 base l) (h1 : wf64 ar) (h2 : wf64 am) :
    Calls Tryd.prog 54 #[.agg #[.map (some b1), .map (some b2), .map (some b3)], .agg #[.int .i64 ar, .int .i64 am], .agg #[.int .i64 br, .int .i64 bm]] w fun e w' => e = .returned (.bool (underN l (l.length + 1) (ar, am) br bm)) ∧ Below w.heap.size w w' := by
  have HT := hideIt hT
  have HO := hideIt hops
  obtain ⟨kl, hkl⟩ := key_id h1 h2
  have HKL := hideIt hkl
  have HB0 : Hid (Below w.heap.size w (((w.alloc (.cells #[.map (some b1), .map (some b2), .map (some b3)] 75)).alloc (.cells #[.int .i64 ar, .int .i64 am] 25)).alloc (.cells #[.int .i64 br, .int .i64 bm] 25))) :=
    (((Below.refl _ _).alloc (Nat.le_refl _) _).alloc (by simp) _).alloc (by simp; omega) _
  clear hT hops hkl h1 h2
  obtain ⟨hv, hq⟩ := sign_look HO.out (ar, am)
  have HV := hideIt hv
  have HQ := hideIt hq
  clear hv hq
  go_enter Tryd.func54, Tryd.ntmps54
  go_wp2_with (first
    | (at_lookup; refine wpList_look1 (t := 71) (e := 87) rfl _ _ rfl keyedId Tryd.underlying71 (.agg #[.int .i64 0, .int .i64 0, .int .i64 0, .int .i64 0, .int .i64 0, .int .i64 0]) (zeroPut _) encId_inj rfl (HT.out.1.below HB0.out HT.out.1.lt) (ar, am) rfl kl HKL.out _ HV.out _ HQ.out ?_))
  generalize hbb : w.heap.size + 1 + 1 = bb
  generalize hs0 : bb + 1 = s0
  go_loopw [7, 8] (fun s7 s8 wr => ∃ n x sb, s7 = .pointer (some ⟨sb, 0, none⟩) ∧ s8 = .bool (putAt l x).isSome ∧ UI l w wr b1 br bm (underN l (l.length + 1) (ar, am) br bm) bb n x sb)
    (fun s7 s8 wr => least (fun n => ∃ x sb, s7 = .pointer (some ⟨sb, 0, none⟩) ∧ s8 = .bool (putAt l x).isSome ∧ UI l w wr b1 br bm (underN l (l.length + 1) (ar, am) br bm) bb n x sb))
  case atStart =>
    subst hs0 hbb
    exact ⟨l.length + 1, (ar, am), _, rfl, rfl, ⟨by have := HB0.out; go_grown, by simp [go_sem], by simp [go_sem], by simp [go_sem], by omega, by omega, by simp, fun j => by simp [go_sem], by simp [go_sem], by simp [go_sem], by simp [go_sem], by simp [go_sem], by simp [go_sem], by simp [go_sem], dp_start HO.out _, rfl⟩⟩
  case round =>
    obtain ⟨n1, hn1⟩ := hrel
    obtain ⟨⟨x, sb, e7, e8, hU⟩, -⟩ := least_spec (p := fun n => ∃ x sb, u7 = .pointer (some ⟨sb, 0, none⟩) ∧ u8 = .bool (putAt l x).isSome ∧ UI l w wr b1 br bm (underN l (l.length + 1) (ar, am) br bm) bb n x sb) hn1
    generalize hN : least _ = N at hU
    have HN := hideIt hN
    have HU := hideIt hU
    clear hn1 hN hU
    have tc := HU.out.tc
    have c0 := HU.out.c0
    have c1 := HU.out.c1
    have hbs := HU.out.gt
    have hsl := HU.out.lt
    have hwb := HU.out.eb
    have hwr : w.heap.size < wr.heap.size := by omega
    have hbr : bb < wr.heap.size := by omega
    have x0 := HU.out.x0
    have x1 := HU.out.x1
    have x2 := HU.out.x2
    have x3 := HU.out.x3
    have x4 := HU.out.x4
    have x5 := HU.out.x5
    have fz := HU.out.fz
    cases hp : putAt l x with
    | none =>
      have HP := hideIt hp
      rw [hp] at e8
      clear hp
      subst e7 e8
      go_wp2
      go_ret
      exact ⟨ret_bool (by rw [← HU.out.un, under_no HP.out]), HU.out.bel⟩
    | some o =>
      have HP := hideIt hp
      rw [hp] at e8
      have hs : signAt l x = o := by unfold signAt; rw [hp]; rfl
      rw [hs] at x0 x1 x2 x3 x4 x5
      clear hp hs
      subst e7 e8
      by_cases hcr : o.c = br
      · by_cases hdm : o.d = bm
        · have HD : Hid (o.c = br ∧ o.d = bm) := ⟨hcr, hdm⟩
          rw [hcr] at x2
          rw [hdm] at x3
          clear hcr hdm
          go_wp2
          go_ret
          exact ⟨ret_bool (by
            obtain ⟨m, hm, _⟩ := dp_step HO.out HU.out.dp HP.out
            rw [← HU.out.un, hm, under_hit HP.out HD.out]), HU.out.bel⟩
        · have HNE : ¬ (o.c = br ∧ o.d = bm) := fun h => hdm h.2
          have HD : Hid (¬ (o.c = br ∧ o.d = bm)) := fun h => HNE h
          clear HNE
          subst hcr
          obtain ⟨kl2, hkl2⟩ := key_id (r := o.c) (m := o.d) (wf_small (by have := okO_num (List.all_eq_true.1 (opsParts HO.out).1 o (putAt_some HP.out).2.2.1); omega)) (wf_small (by have := okO_num (List.all_eq_true.1 (opsParts HO.out).1 o (putAt_some HP.out).2.2.1); omega))
          have HK2 := hideIt hkl2
          obtain ⟨hv2, hq2⟩ := sign_look HO.out (o.c, o.d)
          have HV2 := hideIt hv2
          have HQ2 := hideIt hq2
          clear hkl2 hv2 hq2
          go_wp2_with (first
            | (at_lookup; refine wpList_look1 (t := 71) (e := 87) rfl _ _ rfl keyedId Tryd.underlying71 (.agg #[.int .i64 0, .int .i64 0, .int .i64 0, .int .i64 0, .int .i64 0, .int .i64 0]) (zeroPut _) encId_inj rfl (HT.out.1.below (HU.out.bel.alloc HU.out.bel.size _) HT.out.1.lt) (o.c, o.d) rfl kl2 HK2.out _ HV2.out _ HQ2.out ?_))
          obtain ⟨m, hm, hU2⟩ := HU.out.next HO.out HP.out HD.out 87
          exact ⟨⟨m, (o.c, o.d), _, rfl, rfl, hU2⟩, least_lt (m := m) ⟨(o.c, o.d), _, rfl, rfl, hU2⟩ hm HN.out⟩
      · have HNE : ¬ (o.c = br ∧ o.d = bm) := fun h => hcr h.1
        have HD : Hid (¬ (o.c = br ∧ o.d = bm)) := fun h => HNE h
        clear HNE
        obtain ⟨kl2, hkl2⟩ := key_id (r := o.c) (m := o.d) (wf_small (by have := okO_num (List.all_eq_true.1 (opsParts HO.out).1 o (putAt_some HP.out).2.2.1); omega)) (wf_small (by have := okO_num (List.all_eq_true.1 (opsParts HO.out).1 o (putAt_some HP.out).2.2.1); omega))
        have HK2 := hideIt hkl2
        obtain ⟨hv2, hq2⟩ := sign_look HO.out (o.c, o.d)
        have HV2 := hideIt hv2
        have HQ2 := hideIt hq2
        clear hkl2 hv2 hq2
        go_wp2_with (first
          | (at_lookup; refine wpList_look1 (t := 71) (e := 87) rfl _ _ rfl keyedId Tryd.underlying71 (.agg #[.int .i64 0, .int .i64 0, .int .i64 0, .int .i64 0, .int .i64 0, .int .i64 0]) (zeroPut _) encId_inj rfl (HT.out.1.below (HU.out.bel.alloc HU.out.bel.size _) HT.out.1.lt) (o.c, o.d) rfl kl2 HK2.out _ HV2.out _ HQ2.out ?_))
        obtain ⟨m, hm, hU2⟩ := HU.out.next HO.out HP.out HD.out 87
        exact ⟨⟨m, (o.c, o.d), _, rfl, rfl, hU2⟩, least_lt (m := m) ⟨(o.c, o.d), _, rfl, rfl, hU2⟩ hm HN.out⟩
end Go.Proofs.YtcnpfhnlniiacaaDoor

namespace Go.Proofs.YtcnpfhnlniiacaaDoor
open Go.RowKit
set_option linter.unusedSimpArgs false
set_option linter.unusedVariables false
attribute [local go_sem ↓] Go.wp_at_zero Go.wp_at_succ

set_option maxRecDepth 100000 in
set_option maxHeartbeats 1000000 in
theorem implUnder_any (l : List Op7) (g cap : Nat) (ar am br bm : Int) (x : Addr) (w : World) (hl : OpsAt w g l) (hn : l.length ≤ 1048576) (hcap : l.length ≤ cap)
    (he : w.cell? ⟨0, 0, none⟩ = some (.iface 164 (.pointer (some x)))) (h0 : 0 < w.heap.size) (hr : wf64 ar) (hm : wf64 am) :
    Calls Tryd.prog 16 #[.slice (some ⟨g, 0, none⟩) l.length cap, .agg #[.int .i64 ar, .int .i64 am], .agg #[.int .i64 br, .int .i64 bm]] w fun e w' => e = .returned (.bool (undB l ar am br bm)) ∧ Below w.heap.size w w' := by
  have HL := hideIt hl
  have hgw := hl.1
  have HR := hideIt hr
  have HM := hideIt hm
  clear hl hr hm
  go_enter Tryd.func16, Tryd.ntmps16
  go_wp2_with fail
  have HB0 : Hid (Below w.heap.size w ((w.alloc (.cells #[.int .i64 ar, .int .i64 am] 25)).alloc (.cells #[.int .i64 br, .int .i64 bm] 25))) := ((Below.refl _ _).alloc (Nat.le_refl _) _).alloc (by simp) _
  refine (treeOf_any l g cap x _ (HL.out.below HB0.out hgw) hn hcap (errB HB0.out h0 he) (posB HB0.out h0)).mono ?_
  rintro e w1 ⟨(⟨ht, b1, b2, b3, base, rfl, hT⟩ | ⟨ht, rfl⟩), hb1⟩
  all_goals
    have HO := hideIt ht
    have HB1 : Hid (Below w.heap.size w w1) := HB0.out.trans (hb1.mono (by simp; omega))
    have herr1 : w1.cell? ⟨0, 0, none⟩ = some (.iface 164 (.pointer (some x))) := errB HB1.out h0 he
    have hp1 : 0 < w1.heap.size := posB HB1.out h0
    have k0 : w1.cell? ⟨w.heap.size, 0, none⟩ = some (.int .i64 ar) := by rw [(bcell hb1).1 _ _ (by simp; omega)]; simp [go_sem]
    have k1 : w1.cell? ⟨w.heap.size, 1, none⟩ = some (.int .i64 am) := by rw [(bcell hb1).1 _ _ (by simp; omega)]; simp [go_sem]
    have k2 : w1.cell? ⟨w.heap.size + 1, 0, none⟩ = some (.int .i64 br) := by rw [(bcell hb1).1 _ _ (by simp)]; simp [go_sem]
    have k3 : w1.cell? ⟨w.heap.size + 1, 1, none⟩ = some (.int .i64 bm) := by rw [(bcell hb1).1 _ _ (by simp)]; simp [go_sem]
    have hz1 : w.heap.size + 1 < w1.heap.size := by have := hb1.size; simp at this; omega
    have hz0 : w.heap.size < w1.heap.size := by omega
    clear ht hb1
  · have HTT := hideIt hT
    clear hT
    go_wp2_with (first | (go_at_call 53; refine (is_nil x _).mono ?_; rintro e w'' ⟨rfl, rfl⟩))
    refine (under_any l HO.out b1 b2 b3 base ar am br bm _ (HTT.out.below ((Below.refl _ _).alloc (Nat.le_refl _) _)) HR.out HM.out).mono ?_
    rintro e w2 ⟨rfl, hb2⟩
    have HB2 := hideIt (Bstep (HB1.out.alloc HB1.out.size _) hb2)
    clear hb2
    go_wp2
    go_ret
    exact ⟨ret_bool (by unfold undB; rw [HO.out]; rfl), HB2.out⟩
  · go_wp2_with (first | (go_at_call 53; refine (is_same x _).mono ?_; rintro e w'' ⟨rfl, rfl⟩))
    go_ret
    exact ⟨ret_bool (by unfold undB; rw [HO.out]; rfl), by have := HB1.out; go_grown⟩

/-- Where the specification's steps stand. -/
structure SI (l : List Op7) (w wr : World) (br bm : Int) (ans : Bool) (bb n : Nat) (x : Int × Int) : Prop where
  bel : Below w.heap.size w wr
  c0 : wr.cell? ⟨bb, 0, none⟩ = some (.int .i64 br)
  c1 : wr.cell? ⟨bb, 1, none⟩ = some (.int .i64 bm)
  lt : bb < wr.heap.size
  dp : Dp l n x
  un : underN l n x br bm = ans
theorem SI.next {l : List Op7} {w wr w' : World} {br bm : Int} {ans : Bool} {bb n : Nat} {x : Int × Int} (h : SI l w wr br bm ans bb n x) (hops : opsB l = true) {o : Op7} (ho : putAt l x = some o) (hne : ¬ (o.c = br ∧ o.d = bm)) (hb : Below wr.heap.size wr w') :
    ∃ m, m < n ∧ SI l w w' br bm ans bb m (o.c, o.d) := by
  obtain ⟨m, rfl, hd⟩ := dp_step hops h.dp ho
  exact ⟨m, Nat.lt_succ_self _, ⟨Bstep h.bel hb, ((bcell hb).1 _ _ h.lt).trans h.c0, ((bcell hb).1 _ _ h.lt).trans h.c1, Nat.lt_of_lt_of_le h.lt hb.size, hd, by rw [← under_on ho hne]; exact h.un⟩⟩

set_option maxRecDepth 100000 in
set_option maxHeartbeats 1000000 in
theorem specUnder_any (l : List Op7) (g cap : Nat) (ar am br bm : Int) (w : World) (hl : OpsAt w g l) (hn : l.length ≤ 1048576) (hcap : l.length ≤ cap) :
    Calls Tryd.prog 17 #[.slice (some ⟨g, 0, none⟩) l.length cap, .agg #[.int .i64 ar, .int .i64 am], .agg #[.int .i64 br, .int .i64 bm]] w fun e w' => e = .returned (.bool (undB l ar am br bm)) ∧ Below w.heap.size w w' := by
  have HL := hideIt hl
  have hgw := hl.1
  clear hl
  have HB0 : Hid (Below w.heap.size w ((w.alloc (.cells #[.int .i64 ar, .int .i64 am] 25)).alloc (.cells #[.int .i64 br, .int .i64 bm] 25))) := ((Below.refl _ _).alloc (Nat.le_refl _) _).alloc (by simp) _
  cases ho : opsB l
  all_goals
    have HO := hideIt ho
    clear ho
    go_enter Tryd.func17, Tryd.ntmps17
    go_wp2_with fail
    refine (specOps_any l _ _ _ (HL.out.below HB0.out hgw) hn hcap).mono ?_
    rintro e w1 ⟨rfl, hb1⟩
    rw [HO.out]
    have HB1 : Hid (Below w.heap.size w w1) := HB0.out.trans (hb1.mono (by simp; omega))
    have k0 : w1.cell? ⟨w.heap.size, 0, none⟩ = some (.int .i64 ar) := by rw [(bcell hb1).1 _ _ (by simp; omega)]; simp [go_sem]
    have k1 : w1.cell? ⟨w.heap.size, 1, none⟩ = some (.int .i64 am) := by rw [(bcell hb1).1 _ _ (by simp; omega)]; simp [go_sem]
    have k2 : w1.cell? ⟨w.heap.size + 1, 0, none⟩ = some (.int .i64 br) := by rw [(bcell hb1).1 _ _ (by simp)]; simp [go_sem]
    have k3 : w1.cell? ⟨w.heap.size + 1, 1, none⟩ = some (.int .i64 bm) := by rw [(bcell hb1).1 _ _ (by simp)]; simp [go_sem]
    have hz1 : w.heap.size + 1 < w1.heap.size := by have := hb1.size; simp at this; omega
    have hz0 : w.heap.size < w1.heap.size := by omega
    clear hb1
  · go_wp2
    go_ret
    exact ⟨ret_bool (by unfold undB; rw [HO.out]; rfl), HB1.out⟩
  · go_wp2_with fail
    refine (l1Find_any l _ _ _ _ _ (HL.out.below HB1.out hgw) hn hcap).mono ?_
    rintro e w2 ⟨rfl, hb2⟩
    have HB2 := hideIt (Bstep HB1.out hb2)
    have j2 := ((bcell hb2).1 (w.heap.size + 1) 0 hz1).trans k2
    have j3 := ((bcell hb2).1 (w.heap.size + 1) 1 hz1).trans k3
    have hy1 : w.heap.size + 1 < w2.heap.size := Nat.lt_of_lt_of_le hz1 hb2.size
    clear hb2
    go_wp2
    generalize hbb : w.heap.size + 1 = bb at *
    go_loopw [7] (fun s7 wr => ∃ n x, s7 = .int .i64 (findI l x.1 x.2) ∧ SI l w wr br bm (underN l (l.length + 1) (ar, am) br bm) bb n x)
      (fun s7 wr => least (fun n => ∃ x, s7 = .int .i64 (findI l x.1 x.2) ∧ SI l w wr br bm (underN l (l.length + 1) (ar, am) br bm) bb n x))
    case atStart => exact ⟨l.length + 1, (ar, am), rfl, ⟨HB2.out, j2, j3, hy1, dp_start HO.out _, rfl⟩⟩
    case round =>
      obtain ⟨n1, hn1⟩ := hrel
      obtain ⟨⟨x, e7, hU⟩, -⟩ := least_spec (p := fun n => ∃ x, u7 = .int .i64 (findI l x.1 x.2) ∧ SI l w wr br bm (underN l (l.length + 1) (ar, am) br bm) bb n x) hn1
      generalize hN : least _ = N at hU
      have HN := hideIt hN
      have HU := hideIt hU
      clear hn1 hN hU j2 j3 hy1 k0 k1 k2 k3 hz1 hz0
      have c0 := HU.out.c0
      have c1 := HU.out.c1
      have hbl := HU.out.lt
      have HLr := hideIt (HL.out.below HU.out.bel hgw)
      have hgr : g < wr.heap.size := HLr.out.1
      rcases find_cases l x with ⟨hf, hp⟩ | ⟨i, o, hf, hi, hoi, hp⟩
      · rw [hf] at e7
        have HP := hideIt hp
        clear hf hp
        subst e7
        go_wp2
        go_ret
        exact ⟨ret_bool (by unfold undB; rw [HO.out, if_pos rfl, ← HU.out.un, under_no HP.out]), HU.out.bel⟩
      · rw [hf] at e7
        clear hf
        subst e7
        obtain ⟨y0, y1, y2, y3, y4, y5, y6⟩ := HLr.out.2 i o hoi
        have hlt' : (i : Int) < (l.length : Int) := by omega
        have hi0 : (0 : Int) ≤ (i : Int) := by omega
        by_cases hk : o.k = 1
        · rw [if_pos hk] at hp
          have HP := hideIt hp
          rw [hk] at y2
          clear hp
          have HIN := hideIt (okO_num (List.all_eq_true.1 (opsParts HO.out).1 o (putAt_some HP.out).2.2.1))
          by_cases hcr : o.c = br
          · by_cases hdm : o.d = bm
            · have HD : Hid (o.c = br ∧ o.d = bm) := ⟨hcr, hdm⟩
              rw [hcr] at y3
              rw [hdm] at y4
              clear hcr hdm hk
              go_wp2
              go_quiet (fail)
              go_wp2
              go_ret
              exact ⟨ret_bool (by
              obtain ⟨m, hm, _⟩ := dp_step HO.out HU.out.dp HP.out
              unfold undB
              rw [HO.out, ← HU.out.un, hm, under_hit HP.out HD.out]; rfl), below_drewN HU.out.bel _⟩
            · have HD : Hid (¬ (o.c = br ∧ o.d = bm)) := fun h => hdm h.2
              clear hk
              subst hcr
              go_wp2
              go_quiet (fail)
              go_wp2_with fail
              refine (l1Find_any l _ _ _ _ _ (HLr.out.below (below_drewN (Below.refl _ _) _) hgr) hn hcap).mono ?_
              rintro e w3 ⟨rfl, hb3⟩
              have hb3' : Below wr.heap.size wr w3 := (below_drewN (Below.refl _ _) _).trans (hb3.mono (by simp))
              obtain ⟨m, hm, hU2⟩ := HU.out.next HO.out HP.out (by have h := HD.out; first | exact h | simpa using h) hb3'
              clear hb3 hb3'
              go_wp2
              exact ⟨⟨m, (o.c, o.d), rfl, hU2⟩, least_lt (m := m) ⟨(o.c, o.d), rfl, hU2⟩ hm HN.out⟩
          · have HD : Hid (¬ (o.c = br ∧ o.d = bm)) := fun h => hcr h.1
            clear hk
            go_wp2
            go_quiet (fail)
            go_wp2_with fail
            refine (l1Find_any l _ _ _ _ _ (HLr.out.below (below_drewN (Below.refl _ _) _) hgr) hn hcap).mono ?_
            rintro e w3 ⟨rfl, hb3⟩
            have hb3' : Below wr.heap.size wr w3 := (below_drewN (Below.refl _ _) _).trans (hb3.mono (by simp))
            obtain ⟨m, hm, hU2⟩ := HU.out.next HO.out HP.out (by have h := HD.out; first | exact h | simpa using h) hb3'
            clear hb3 hb3'
            go_wp2
            exact ⟨⟨m, (o.c, o.d), rfl, hU2⟩, least_lt (m := m) ⟨(o.c, o.d), rfl, hU2⟩ hm HN.out⟩
        · rw [if_neg hk] at hp
          have HP := hideIt hp
          clear hp
          go_wp2
          go_ret
          exact ⟨ret_bool (by unfold undB; rw [HO.out, if_pos rfl, ← HU.out.un, under_no HP.out]), HU.out.bel⟩
end Go.Proofs.YtcnpfhnlniiacaaDoor

namespace Go.Proofs.YtcnpfhnlniiacaaDoor
open Go.RowKit
set_option linter.unusedSimpArgs false
set_option linter.unusedVariables false
attribute [local go_sem ↓] Go.wp_at_zero Go.wp_at_succ

set_option maxRecDepth 100000 in
set_option maxHeartbeats 1000000 in
theorem implUnderO_any (l : List Op7) (g cap : Nat) (ar am br bm : Int) (x : Addr) (w : World) (hl : OpsAt w g l) (hn : l.length ≤ 1048576) (hcap : l.length ≤ cap)
    (he : w.cell? ⟨0, 0, none⟩ = some (.iface 164 (.pointer (some x)))) (h0 : 0 < w.heap.size) (hr : opsB l = true → wf64 ar) (hm : opsB l = true → wf64 am) :
    Calls Tryd.prog 16 #[.slice (some ⟨g, 0, none⟩) l.length cap, .agg #[.int .i64 ar, .int .i64 am], .agg #[.int .i64 br, .int .i64 bm]] w fun e w' => e = .returned (.bool (undB l ar am br bm)) ∧ Below w.heap.size w w' := by
  have HL := hideIt hl
  have hgw := hl.1
  have HR := hideIt hr
  have HM := hideIt hm
  clear hl hr hm
  go_enter Tryd.func16, Tryd.ntmps16
  go_wp2_with fail
  have HB0 : Hid (Below w.heap.size w ((w.alloc (.cells #[.int .i64 ar, .int .i64 am] 25)).alloc (.cells #[.int .i64 br, .int .i64 bm] 25))) := ((Below.refl _ _).alloc (Nat.le_refl _) _).alloc (by simp) _
  refine (treeOf_any l g cap x _ (HL.out.below HB0.out hgw) hn hcap (errB HB0.out h0 he) (posB HB0.out h0)).mono ?_
  rintro e w1 ⟨(⟨ht, b1, b2, b3, base, rfl, hT⟩ | ⟨ht, rfl⟩), hb1⟩
  all_goals
    have HO := hideIt ht
    have HB1 : Hid (Below w.heap.size w w1) := HB0.out.trans (hb1.mono (by simp; omega))
    have herr1 : w1.cell? ⟨0, 0, none⟩ = some (.iface 164 (.pointer (some x))) := errB HB1.out h0 he
    have hp1 : 0 < w1.heap.size := posB HB1.out h0
    have k0 : w1.cell? ⟨w.heap.size, 0, none⟩ = some (.int .i64 ar) := by rw [(bcell hb1).1 _ _ (by simp; omega)]; simp [go_sem]
    have k1 : w1.cell? ⟨w.heap.size, 1, none⟩ = some (.int .i64 am) := by rw [(bcell hb1).1 _ _ (by simp; omega)]; simp [go_sem]
    have k2 : w1.cell? ⟨w.heap.size + 1, 0, none⟩ = some (.int .i64 br) := by rw [(bcell hb1).1 _ _ (by simp)]; simp [go_sem]
    have k3 : w1.cell? ⟨w.heap.size + 1, 1, none⟩ = some (.int .i64 bm) := by rw [(bcell hb1).1 _ _ (by simp)]; simp [go_sem]
    have hz1 : w.heap.size + 1 < w1.heap.size := by have := hb1.size; simp at this; omega
    have hz0 : w.heap.size < w1.heap.size := by omega
    clear ht hb1
  · have HTT := hideIt hT
    clear hT
    go_wp2_with (first | (go_at_call 53; refine (is_nil x _).mono ?_; rintro e w'' ⟨rfl, rfl⟩))
    refine (under_any l HO.out b1 b2 b3 base ar am br bm _ (HTT.out.below ((Below.refl _ _).alloc (Nat.le_refl _) _)) (HR.out HO.out) (HM.out HO.out)).mono ?_
    rintro e w2 ⟨rfl, hb2⟩
    have HB2 := hideIt (Bstep (HB1.out.alloc HB1.out.size _) hb2)
    clear hb2
    go_wp2
    go_ret
    exact ⟨ret_bool (by unfold undB; rw [HO.out]; rfl), HB2.out⟩
  · go_wp2_with (first | (go_at_call 53; refine (is_same x _).mono ?_; rintro e w'' ⟨rfl, rfl⟩))
    go_ret
    exact ⟨ret_bool (by unfold undB; rw [HO.out]; rfl), by have := HB1.out; go_grown⟩

end Go.Proofs.YtcnpfhnlniiacaaDoor

namespace Go.Proofs.YtcnpfhnlniiacaaDoor
open Go.RowKit
set_option linter.unusedSimpArgs false
set_option linter.unusedVariables false
attribute [local go_sem ↓] Go.wp_at_zero Go.wp_at_succ

set_option maxRecDepth 100000 in
set_option maxHeartbeats 1000000 in
theorem l71Id_small (w : World) (q : Nat) (p : Option Addr) (n cap k : Nat) (h : RdAt w q p n cap k) (hk : k ≤ 1073741800) :
    Calls Tryd.prog 79 #[.pointer (some ⟨q, 0, none⟩)] w fun e w' => (∃ r m : Int, (-2 ≤ r ∧ r ≤ 20 ∧ -2 ≤ m ∧ m ≤ 20) ∧ e = .returned (.agg #[.int .i64 r, .int .i64 m])) ∧ (∃ k', k' ≤ k + 3 ∧ RdAt w' q p n cap k') ∧ OnlyQ q w w' := by
  have H := hideIt h
  clear h
  go_enter Tryd.func79, Tryd.ntmps79
  go_wp2_with fail
  refine (pick_any _ q p n cap k 12 (H.out.alloc _) (by omega) (by omega) (by omega)).mono ?_
  rintro e w1 ⟨⟨c, hc0, hc1, rfl⟩, hR, hO⟩
  have hqw := H.out.lt
  have r0 : w1.cell? ⟨w.heap.size, 0, none⟩ = some (.int .i64 0) := by rw [hO.cell _ _ (by simp) (by omega)]; simp [go_sem]
  have r1 : w1.cell? ⟨w.heap.size, 1, none⟩ = some (.int .i64 0) := by rw [hO.cell _ _ (by simp) (by omega)]; simp [go_sem]
  have rf : ∀ j, w1.frozen? ⟨w.heap.size, j, none⟩ = false := fun j => by rw [hO.frozen _ _ (by simp) (by omega)]; simp [go_sem]
  have hs1 : w.heap.size < w1.heap.size := by have := hO.size; simp at this; omega
  have HR := hideIt hR
  have HO := hideIt (((OnlyQ.refl q w).alloc H.out.lt _).trans hO)
  clear hR hO
  have hne : ¬ w.heap.size = q := by omega
  have hne' : ¬ q = w.heap.size := by omega
  by_cases hz : c = 0
  · subst hz
    go_wp2_with fail
    refine (pick_any _ q p n cap (k + 1) 5 (HR.out.alloc _) (by omega) (by omega) (by omega)).mono ?_
    rintro e w2 ⟨⟨d, hd0, hd1, rfl⟩, hR2, hO2⟩
    have s0 : w2.cell? ⟨w.heap.size, 0, none⟩ = some (.int .i64 0) := by rw [hO2.cell _ _ (by simp; omega) hne, World.cell?_alloc_lt _ _ _ hs1]; exact r0
    have s1 : w2.cell? ⟨w.heap.size, 1, none⟩ = some (.int .i64 0) := by rw [hO2.cell _ _ (by simp; omega) hne, World.cell?_alloc_lt _ _ _ hs1]; exact r1
    have sf : ∀ j, w2.frozen? ⟨w.heap.size, j, none⟩ = false := fun j => by rw [hO2.frozen _ _ (by simp; omega) hne, World.frozen?_alloc_past _ _ _ hs1]; exact rf j
    have sl : ∀ j, w2.cell? ⟨w1.heap.size, j, none⟩ = _ := fun j => hO2.cell w1.heap.size j (by simp) (by omega)
    have HO2 := hideIt ((HO.out.alloc hqw _).trans hO2)
    have HR2 := hideIt hR2
    clear hR2 hO2 r0 r1 rf
    obtain rfl | rfl | rfl | rfl | rfl : d = 0 ∨ d = 1 ∨ d = 2 ∨ d = 3 ∨ d = 4 := by omega
    all_goals
      go_wp2
      have hO3 : ∀ u v, OnlyQ q w ((w2.setCell ⟨w.heap.size, 0, none⟩ u).setCell ⟨w.heap.size, 1, none⟩ v) := fun u v => (HO2.out.set hqw (g := w.heap.size) (Nat.le_refl _) 0 u).set hqw (g := w.heap.size) (Nat.le_refl _) 1 v
      have hR3 : ∀ u v, RdAt ((w2.setCell ⟨w.heap.size, 0, none⟩ u).setCell ⟨w.heap.size, 1, none⟩ v) q p n cap (k + 2) := fun u v => H.out.fin HR2.out (hO3 u v) (fun o => by simp [go_sem, hne, hne']) (fun o => by simp)
    · exact bodyPost_ret (v := .agg #[.int .i64 0, .int .i64 0]) (by simp [results, Tryd.results79, go_sem, s0, s1]) rfl ⟨⟨_, _, by omega, rfl⟩, ⟨k + 2, by omega, hR3 _ _⟩, hO3 _ _⟩
    · exact bodyPost_ret (v := .agg #[.int .i64 4, .int .i64 1]) (by simp [results, Tryd.results79, go_sem, s0, s1]) rfl ⟨⟨_, _, by omega, rfl⟩, ⟨k + 2, by omega, hR3 _ _⟩, hO3 _ _⟩
    · exact bodyPost_ret (v := .agg #[.int .i64 1, .int .i64 0]) (by simp [results, Tryd.results79, go_sem, s0, s1]) rfl ⟨⟨_, _, by omega, rfl⟩, ⟨k + 2, by omega, hR3 _ _⟩, hO3 _ _⟩
    · exact bodyPost_ret (v := .agg #[.int .i64 1, .int .i64 13]) (by simp [results, Tryd.results79, go_sem, s0, s1]) rfl ⟨⟨_, _, by omega, rfl⟩, ⟨k + 2, by omega, hR3 _ _⟩, hO3 _ _⟩
    · exact bodyPost_ret (v := .agg #[.int .i64 (-1), .int .i64 2]) (by simp [results, Tryd.results79, go_sem, s0, s1]) rfl ⟨⟨_, _, by omega, rfl⟩, ⟨k + 2, by omega, hR3 _ _⟩, hO3 _ _⟩
  · go_wp2_with fail
    refine (pick_any _ q p n cap (k + 1) 3 HR.out (by omega) (by omega) (by omega)).mono ?_
    rintro e w2 ⟨⟨d, hd0, hd1, rfl⟩, hR2, hO2⟩
    have s0 : w2.cell? ⟨w.heap.size, 0, none⟩ = some (.int .i64 0) := by rw [hO2.cell _ _ hs1 hne]; exact r0
    have s1 : w2.cell? ⟨w.heap.size, 1, none⟩ = some (.int .i64 0) := by rw [hO2.cell _ _ hs1 hne]; exact r1
    have sf : ∀ j, w2.frozen? ⟨w.heap.size, j, none⟩ = false := fun j => by rw [hO2.frozen _ _ hs1 hne]; exact rf j
    have hs2 := Nat.lt_of_lt_of_le hs1 hO2.size
    have HO2 := hideIt (HO.out.trans hO2)
    have HR2 := hideIt hR2
    clear hR2 hO2 r0 r1 rf
    go_wp2_with fail
    refine (pick_any _ q p n cap (k + 2) 5 HR2.out (by omega) (by omega) (by omega)).mono ?_
    rintro e w3 ⟨⟨f, hf0, hf1, rfl⟩, hR3, hO3⟩
    have t0 : w3.cell? ⟨w.heap.size, 0, none⟩ = some (.int .i64 0) := by rw [hO3.cell _ _ hs2 hne]; exact s0
    have t1 : w3.cell? ⟨w.heap.size, 1, none⟩ = some (.int .i64 0) := by rw [hO3.cell _ _ hs2 hne]; exact s1
    have tf : ∀ j, w3.frozen? ⟨w.heap.size, j, none⟩ = false := fun j => by rw [hO3.frozen _ _ hs2 hne]; exact sf j
    have HO3 := hideIt (HO2.out.trans hO3)
    have HR3 := hideIt hR3
    clear hR3 hO3 s0 s1 sf
    go_wp2
    have hO4 := (HO3.out.set hqw (g := w.heap.size) (Nat.le_refl _) 0 (.int .i64 (1 + d))).set hqw (g := w.heap.size) (Nat.le_refl _) 1 (.int .i64 (1 + f))
    exact bodyPost_ret (v := .agg #[.int .i64 (1 + d), .int .i64 (1 + f)]) (by simp [results, Tryd.results79, go_sem, t0, t1]) rfl ⟨⟨_, _, by omega, rfl⟩, ⟨k + 3, by omega, H.out.fin HR3.out hO4 (fun o => by simp [go_sem, hne, hne']) (fun o => by simp)⟩, hO4⟩
end Go.Proofs.YtcnpfhnlniiacaaDoor

namespace Go.Proofs.YtcnpfhnlniiacaaDoor
open Go.RowKit
set_option linter.unusedSimpArgs false
set_option linter.unusedVariables false
attribute [local go_sem ↓] Go.wp_at_zero Go.wp_at_succ

/-- An id of a thing, or a small one. -/
def IdIn (L : List Op7) (r m : Int) : Prop := (∃ o ∈ L, o.a = r ∧ o.b = m) ∨ (-2 ≤ r ∧ r ≤ 20 ∧ -2 ≤ m ∧ m ≤ 20)

set_option maxRecDepth 100000 in
set_option maxHeartbeats 1000000 in
theorem l71SomeL_any (w : World) (q : Nat) (p : Option Addr) (n cap k base G c : Nat) (L : List Op7) (hm : L.length ≤ 74) (h : RdAt w q p n cap k) (hk : k ≤ 100000) (hs : OwnOps w base G c L) (hq : q < base) (hqw : q < w.heap.size) :
    Calls Tryd.prog 50 #[.pointer (some ⟨q, 0, none⟩), .slice (some ⟨G, 0, none⟩) L.length c] w fun e w' => (∃ r m : Int, IdIn L r m ∧ e = .returned (.agg #[.int .i64 r, .int .i64 m])) ∧ (∃ k', k' ≤ k + 4 ∧ RdAt w' q p n cap k') ∧ OnlyQ q w w' := by
  have H := hideIt h
  have HS := hideIt hs
  clear h hs
  have hne : ¬ w.heap.size = q := by omega
  have hne' : ¬ q = w.heap.size := by omega
  by_cases h0 : L.length = 0
  · have h0' : (L.length : Int) = 0 := by omega
    go_enter Tryd.func50, Tryd.ntmps50
    go_wp2_with fail
    refine (l71Id_small _ q p n cap k (H.out.alloc _) (by omega)).mono ?_
    rintro e w9 ⟨⟨a, b, hsm, rfl⟩, ⟨k9, hk9, hR9⟩, hO8⟩
    have s0 : w9.cell? ⟨w.heap.size, 0, none⟩ = some (.int .i64 0) := by rw [hO8.cell _ _ (by simp) (by omega)]; simp [go_sem]
    have s1 : w9.cell? ⟨w.heap.size, 1, none⟩ = some (.int .i64 0) := by rw [hO8.cell _ _ (by simp) (by omega)]; simp [go_sem]
    have sf : ∀ j, w9.frozen? ⟨w.heap.size, j, none⟩ = false := fun j => by rw [hO8.frozen _ _ (by simp) (by omega)]; simp [go_sem]
    have HR9 := hideIt hR9
    have HO9 := hideIt (((OnlyQ.refl q w).alloc hqw _).trans hO8)
    clear hR9 hO8
    go_wp2
    have hO9 := (HO9.out.set hqw (g := w.heap.size) (Nat.le_refl _) 0 (.int .i64 a)).set hqw (g := w.heap.size) (Nat.le_refl _) 1 (.int .i64 b)
    exact bodyPost_ret (v := .agg #[.int .i64 a, .int .i64 b]) (by simp [results, Tryd.results50, go_sem, s0, s1]) rfl ⟨⟨_, _, .inr hsm, rfl⟩, ⟨k9, by omega, H.out.fin HR9.out hO9 (fun o => by simp [go_sem, hne, hne']) (fun o => by simp)⟩, hO9⟩
  · go_enter Tryd.func50, Tryd.ntmps50
    go_wp2_with fail
    refine (pick_any _ q p n cap k 6 (H.out.alloc _) (by omega) (by omega) (by omega)).mono ?_
    rintro e w1 ⟨⟨x, hx0, hx1, rfl⟩, hR1, hO1⟩
    have r0 : w1.cell? ⟨w.heap.size, 0, none⟩ = some (.int .i64 0) := by rw [hO1.cell _ _ (by simp) (by omega)]; simp [go_sem]
    have r1 : w1.cell? ⟨w.heap.size, 1, none⟩ = some (.int .i64 0) := by rw [hO1.cell _ _ (by simp) (by omega)]; simp [go_sem]
    have rf : ∀ j, w1.frozen? ⟨w.heap.size, j, none⟩ = false := fun j => by rw [hO1.frozen _ _ (by simp) (by omega)]; simp [go_sem]
    have hs1 : w.heap.size < w1.heap.size := by have := hO1.size; simp at this; omega
    have HS1 := hideIt ((HS.out.below ((Below.refl _ _).alloc (Nat.le_refl _) _)).only hO1 (by have := HS.out.lt.1; omega))
    have HR1 := hideIt hR1
    have HO1 := hideIt (((OnlyQ.refl q w).alloc hqw _).trans hO1)
    clear hR1 hO1
    by_cases hz : x = 0
    · subst hz
      go_wp2_with fail
      refine (l71Id_small _ q p n cap (k + 1) HR1.out (by omega)).mono ?_
      rintro e w9 ⟨⟨a, b, hsm, rfl⟩, ⟨k9, hk9, hR9⟩, hO8⟩
      have s0 : w9.cell? ⟨w.heap.size, 0, none⟩ = some (.int .i64 0) := by rw [hO8.cell _ _ (by omega) (by omega)]; exact r0
      have s1 : w9.cell? ⟨w.heap.size, 1, none⟩ = some (.int .i64 0) := by rw [hO8.cell _ _ (by omega) (by omega)]; exact r1
      have sf : ∀ j, w9.frozen? ⟨w.heap.size, j, none⟩ = false := fun j => by rw [hO8.frozen _ _ (by omega) (by omega)]; exact rf j
      have HR9 := hideIt hR9
      have HO9 := hideIt (HO1.out.trans hO8)
      clear hR9 hO8
      go_wp2
      have hO9 := (HO9.out.set hqw (g := w.heap.size) (Nat.le_refl _) 0 (.int .i64 a)).set hqw (g := w.heap.size) (Nat.le_refl _) 1 (.int .i64 b)
      exact bodyPost_ret (v := .agg #[.int .i64 a, .int .i64 b]) (by simp [results, Tryd.results50, go_sem, s0, s1]) rfl ⟨⟨_, _, .inr hsm, rfl⟩, ⟨k9, by omega, H.out.fin HR9.out hO9 (fun o => by simp [go_sem, hne, hne']) (fun o => by simp)⟩, hO9⟩
    · have hpos : (0 : Int) < x := by omega
      go_wp2_with fail
      refine (pick_any _ q p n cap (k + 1) _ HR1.out (by omega) (by omega) (by omega)).mono ?_
      rintro e w2 ⟨⟨y, hy0, hy1, rfl⟩, hR2, hO2⟩
      obtain ⟨j, rfl⟩ := Int.eq_ofNat_of_zero_le hy0
      have s0 : w2.cell? ⟨w.heap.size, 0, none⟩ = some (.int .i64 0) := by rw [hO2.cell _ _ (by omega) (by omega)]; exact r0
      have s1 : w2.cell? ⟨w.heap.size, 1, none⟩ = some (.int .i64 0) := by rw [hO2.cell _ _ (by omega) (by omega)]; exact r1
      have sf : ∀ j, w2.frozen? ⟨w.heap.size, j, none⟩ = false := fun j => by rw [hO2.frozen _ _ (by omega) (by omega)]; exact rf j
      obtain ⟨y0, y1, _⟩ := (HS1.out.only hO2 (by have := HS1.out.lt.1; omega)).at.2 j (L[j]'(by omega)) (by simp)
      have HID : Hid (IdIn L (L[j]'(by omega)).a (L[j]'(by omega)).b) := .inl ⟨L[j]'(by omega), List.getElem_mem _, rfl, rfl⟩
      generalize (L[j]'(by omega)) = o at *
      have HR9 := hideIt hR2
      have HO9 := hideIt (HO1.out.trans hO2)
      clear hR2 hO2 r0 r1 rf
      generalize o.a = oa at *
      generalize o.b = ob at *
      go_wp2
      have hO9 := (HO9.out.set hqw (g := w.heap.size) (Nat.le_refl _) 0 (.int .i64 oa)).set hqw (g := w.heap.size) (Nat.le_refl _) 1 (.int .i64 ob)
      exact bodyPost_ret (v := .agg #[.int .i64 oa, .int .i64 ob]) (by simp [results, Tryd.results50, go_sem, s0, s1]) rfl ⟨⟨_, _, HID.out, rfl⟩, ⟨k + 1 + 1, by omega, H.out.fin HR9.out hO9 (fun o => by simp [go_sem, hne, hne']) (fun o => by simp)⟩, hO9⟩
/-- An id in its box, that may be written. -/
structure Bx (W : World) (A : Nat) (r m : Int) : Prop where
  x0 : W.cell? ⟨A, 0, none⟩ = some (.int .i64 r)
  x1 : W.cell? ⟨A, 1, none⟩ = some (.int .i64 m)
  fz : ∀ j, W.frozen? ⟨A, j, none⟩ = false
  lt : A < W.heap.size
theorem Bx.below {W W' : World} {A : Nat} {r m : Int} (h : Bx W A r m) (hb : Below W.heap.size W W') : Bx W' A r m :=
  ⟨((bcell hb).1 _ _ h.lt).trans h.x0, ((bcell hb).1 _ _ h.lt).trans h.x1, fun j => ((bcell hb).2 _ _ h.lt).trans (h.fz j), Nat.lt_of_lt_of_le h.lt hb.size⟩
theorem Bx.only {W W' : World} {A q : Nat} {r m : Int} (h : Bx W A r m) (ho : OnlyQ q W W') (hne : A ≠ q) : Bx W' A r m :=
  ⟨(ho.cell _ _ h.lt hne).trans h.x0, (ho.cell _ _ h.lt hne).trans h.x1, fun j => (ho.frozen _ _ h.lt hne).trans (h.fz j), Nat.lt_of_lt_of_le h.lt ho.size⟩
theorem Bx.new (W : World) (r m : Int) (T : TypeId) : Bx (W.alloc (.cells #[.int .i64 r, .int .i64 m] T)) W.heap.size r m :=
  ⟨by simp [go_sem], by simp [go_sem], fun j => by simp [go_sem], by simp⟩
theorem Bx.put {W : World} {A : Nat} {r m : Int} (h : Bx W A r m) (r' m' : Int) : Bx ((W.setCell ⟨A, 0, none⟩ (.int .i64 r')).setCell ⟨A, 1, none⟩ (.int .i64 m')) A r' m' := by
  have x0 := h.x0
  have x1 := h.x1
  exact ⟨by simp [go_sem, x0, x1], by simp [go_sem, x0, x1], fun j => by simp [h.fz], by simpa using h.lt⟩
theorem Bx.other {W : World} {A A' : Nat} {r m : Int} (h : Bx W A r m) (hne : A ≠ A') (u v : Value) : Bx ((W.setCell ⟨A', 0, none⟩ u).setCell ⟨A', 1, none⟩ v) A r m := by
  have hc : ∀ i, ((W.setCell ⟨A', 0, none⟩ u).setCell ⟨A', 1, none⟩ v).cell? ⟨A, i, none⟩ = W.cell? ⟨A, i, none⟩ := fun i => by
    rw [World.cell?_setCell_other _ _ _ _ (by intro he; have := congrArg Addr.block he; simp at this; omega), World.cell?_setCell_other _ _ _ _ (by intro he; have := congrArg Addr.block he; simp at this; omega)]
  exact ⟨(hc _).trans h.x0, (hc _).trans h.x1, fun j => by rw [World.frozen?_setCell, World.frozen?_setCell]; exact h.fz j, by simpa using h.lt⟩
theorem fin4b {w W : World} {r1 : Nat} (hb : Below w.heap.size w W) (h1 : w.heap.size ≤ r1) (u0 u1 v0 v1 : Value) : Below w.heap.size w ((((W.setCell ⟨w.heap.size, 0, none⟩ u0).setCell ⟨w.heap.size, 1, none⟩ u1).setCell ⟨r1, 0, none⟩ v0).setCell ⟨r1, 1, none⟩ v1).drew :=
  ((((hb.setCell (p := ⟨w.heap.size, 0, none⟩) (Nat.le_refl _) u0).setCell (p := ⟨w.heap.size, 1, none⟩) (Nat.le_refl _) u1).setCell (p := ⟨r1, 0, none⟩) h1 v0).setCell (p := ⟨r1, 1, none⟩) h1 v1).drew
theorem fin4o {W : World} {base G c r0 r1 : Nat} {L : List Op7} (h : OwnOps W base G c L) (h0 : G ≠ r0) (h1 : G ≠ r1) (u0 u1 v0 v1 : Value) : OwnOps ((((W.setCell ⟨r0, 0, none⟩ u0).setCell ⟨r0, 1, none⟩ u1).setCell ⟨r1, 0, none⟩ v0).setCell ⟨r1, 1, none⟩ v1).drew base G c L :=
  ((((h.set h0 u0).set h0 u1).set h1 v0).set h1 v1).below ((Below.refl _ _).drew)
/-- Where the drawing of two ids stands. -/
structure DU (w wS wr : World) (q G c : Nat) (L : List Op7) (A B : Nat) (ar am br bm : Int) : Prop where
  only : OnlyQ q wS wr
  own : OwnOps wr wS.heap.size G c L
  a : Bx wr A ar am
  b : Bx wr B br bm
  ia : IdIn L ar am
  ib : IdIn L br bm
theorem DU.below {w wS wr w' : World} {q G c A B : Nat} {L : List Op7} {ar am br bm : Int} (h : DU w wS wr q G c L A B ar am br bm) (hq : q < wS.heap.size) (hb : Below wr.heap.size wr w') : DU w wS w' q G c L A B ar am br bm :=
  ⟨h.only.then hq hb, h.own.below hb, h.a.below hb, h.b.below hb, h.ia, h.ib⟩
theorem DU.next {w wS wr w' : World} {q G c A B : Nat} {L : List Op7} {ar am br bm : Int} (h : DU w wS wr q G c L A B ar am br bm) (hq : q < wS.heap.size) (hA : wS.heap.size ≤ A) (hB : wS.heap.size ≤ B) (ho : OnlyQ q wr w') : DU w wS w' q G c L A B ar am br bm :=
  ⟨h.only.trans ho, h.own.only ho (by have := h.own.lt.1; omega), h.a.only ho (by omega), h.b.only ho (by omega), h.ia, h.ib⟩
theorem DU.setA {w wS wr : World} {q G c A B : Nat} {L : List Op7} {ar am br bm : Int} (h : DU w wS wr q G c L A B ar am br bm) (hq : q < wS.heap.size) (hA : wS.heap.size ≤ A) (hAB : A ≠ B) (hAG : G ≠ A) (r m : Int) (hi : IdIn L r m) : DU w wS ((wr.setCell ⟨A, 0, none⟩ (.int .i64 r)).setCell ⟨A, 1, none⟩ (.int .i64 m)) q G c L A B r m br bm :=
  ⟨(h.only.set hq hA 0 _).set hq hA 1 _, (h.own.set hAG _).set hAG _, h.a.put r m, h.b.other (Ne.symm hAB) _ _, hi, h.ib⟩
theorem DU.setB {w wS wr : World} {q G c A B : Nat} {L : List Op7} {ar am br bm : Int} (h : DU w wS wr q G c L A B ar am br bm) (hq : q < wS.heap.size) (hB : wS.heap.size ≤ B) (hAB : A ≠ B) (hBG : G ≠ B) (r m : Int) (hi : IdIn L r m) : DU w wS ((wr.setCell ⟨B, 0, none⟩ (.int .i64 r)).setCell ⟨B, 1, none⟩ (.int .i64 m)) q G c L A B ar am r m :=
  ⟨(h.only.set hq hB 0 _).set hq hB 1 _, (h.own.set hBG _).set hBG _, h.a.other hAB _ _, h.b.put r m, h.ia, hi⟩

set_option maxRecDepth 100000 in
set_option maxHeartbeats 4000000 in
theorem drawUnder_any (w : World) (p : Option Addr) (n cap : Nat) (h : ArgBytes w p n) (hcap : n ≤ cap) (hn : n ≤ 1048576) :
    Calls Tryd.prog 15 #[.slice p n cap] w fun e w' => ∃ G c L, ∃ ar am br bm : Int, e = .returned (.tuple #[.slice (some ⟨G, 0, none⟩) (L : List Op7).length c, .agg #[.int .i64 ar, .int .i64 am], .agg #[.int .i64 br, .int .i64 bm]]) ∧ L.length ≤ 74 ∧ IdIn L ar am ∧ IdIn L br bm ∧ OwnOps w' w.heap.size G c L ∧ Below w.heap.size w w' := by
  have H := hideIt h
  clear h
  go_enter Tryd.func15, Tryd.ntmps15
  go_wp2_with fail
  have hB0 : Below w.heap.size w ((w.alloc (.cells #[.int .i64 0, .int .i64 0] 25)).alloc (.cells #[.int .i64 0, .int .i64 0] 25)) := ((Below.refl _ _).alloc (Nat.le_refl _) _).alloc (by simp) _
  have hX0 : Bx ((w.alloc (.cells #[.int .i64 0, .int .i64 0] 25)).alloc (.cells #[.int .i64 0, .int .i64 0] 25)) w.heap.size 0 0 := (Bx.new w 0 0 _).below ((Below.refl _ _).alloc (Nat.le_refl _) _)
  have hX1 : Bx ((w.alloc (.cells #[.int .i64 0, .int .i64 0] 25)).alloc (.cells #[.int .i64 0, .int .i64 0] 25)) (w.heap.size + 1) 0 0 := by
    have := Bx.new (w.alloc (.cells #[.int .i64 0, .int .i64 0] 25)) 0 0 25
    rw [World.size_alloc] at this
    exact this
  have hne01 : ¬ w.heap.size + 1 = w.heap.size := by omega
  have hb01 : w.heap.size ≤ w.heap.size + 1 := by omega
  generalize (w.alloc (.cells #[.int .i64 0, .int .i64 0] 25)).alloc (.cells #[.int .i64 0, .int .i64 0] 25) = W0 at *
  generalize hR1 : w.heap.size + 1 = r1 at *
  refine (open_any _ p n cap (H.out.below hB0) hcap hn).mono ?_
  rintro e wS ⟨n', rfl, hRS, hbS⟩
  have HX0 := hideIt (hX0.below hbS)
  have HX1 := hideIt (hX1.below hbS)
  have HBS := hideIt (hB0.trans (hbS.mono hB0.size))
  have HRS := hideIt hRS
  have hqS := hRS.lt
  have hl0 := hX0.lt
  have hl1 := hX1.lt
  have hzS := hbS.size
  clear hRS hbS hX0 hX1 hB0
  generalize W0.heap.size = q at *
  go_wp2_with fail
  refine (l71Off_any _ _ p n' cap 0 HRS.out (by omega)).mono ?_
  rintro e w2 ⟨⟨G, c, _, rfl, ⟨L, rfl, hL, hS2⟩⟩, ⟨k2, hk2, hR2⟩, hO2⟩
  have HS2 := hideIt hS2
  have HR2 := hideIt hR2
  have HO2 := hideIt hO2
  have hG2 := hS2.lt
  have hz2 := hO2.size
  clear hS2 hR2 hO2
  go_wp2_with fail
  refine (l71SomeL_any _ _ p n' cap k2 _ G c L hL HR2.out (by omega) HS2.out hqS HR2.out.lt).mono ?_
  rintro e w3 ⟨⟨ar, am, hia, rfl⟩, ⟨k3, hk3, hR3⟩, hO3⟩
  have hz3 := hO3.size
  have HIA := hideIt hia
  have HS3 := hideIt ((HS2.out.only hO3 (by omega)).below ((Below.refl _ _).alloc (Nat.le_refl _) (.cells #[.int .i64 ar, .int .i64 am] 25)))
  have HR3 := hideIt (hR3.alloc (.cells #[.int .i64 ar, .int .i64 am] 25))
  have HO3 := hideIt ((HO2.out.trans hO3).alloc hqS (.cells #[.int .i64 ar, .int .i64 am] 25))
  have HA3 := hideIt (Bx.new w3 ar am 25)
  clear hR3 hO3 hia HS2 HR2 HO2
  go_wp2_with fail
  have hA3 : wS.heap.size ≤ w3.heap.size := by omega
  have hAG : G ≠ w3.heap.size := by omega
  have hW3 : w3.heap.size < (w3.alloc (.cells #[.int .i64 ar, .int .i64 am] 25)).heap.size := by simp
  generalize w3.alloc (.cells #[.int .i64 ar, .int .i64 am] 25) = W3 at *
  generalize w3.heap.size = A at *
  refine (l71SomeL_any _ _ p n' cap k3 _ G c L hL HR3.out (by omega) HS3.out hqS HR3.out.lt).mono ?_
  rintro e w4 ⟨⟨br, bm, hib, rfl⟩, ⟨k4, hk4, hR4⟩, hO4⟩
  have hz4 := hO4.size
  have HU4 : Hid (DU w wS (w4.alloc (.cells #[.int .i64 br, .int .i64 bm] 25)) q G c L A w4.heap.size ar am br bm) :=
    ⟨(HO3.out.trans hO4).alloc hqS _, (HS3.out.only hO4 (by omega)).below ((Below.refl _ _).alloc (Nat.le_refl _) _), (HA3.out.only hO4 (by omega)).below ((Below.refl _ _).alloc (Nat.le_refl _) _), Bx.new w4 br bm _, HIA.out, hib⟩
  have HR4 := hideIt (hR4.alloc (.cells #[.int .i64 br, .int .i64 bm] 25))
  clear hR4 hO4 hib HS3 HR3 HO3 HA3 HIA
  go_wp2_with fail
  have hAB : A ≠ w4.heap.size := by omega
  have hB4 : wS.heap.size ≤ w4.heap.size := by omega
  have hBG : G ≠ w4.heap.size := by omega
  generalize w4.alloc (.cells #[.int .i64 br, .int .i64 bm] 25) = W4 at *
  generalize w4.heap.size = B at *
  go_loopw [9] (fun i wr => ∃ k j : Nat, k ≤ 12 ∧ j ≤ k4 + 20 * k ∧ i = .int .i64 k ∧ RdAt wr q p n' cap j ∧ ∃ ar am br bm : Int, DU w wS wr q G c L A B ar am br bm) (fun i _ => 13 - (intOf i).toNat)
  case atStart => exact ⟨0, k4, by omega, by omega, rfl, HR4.out, ar, am, br, bm, HU4.out⟩
  case round =>
    clear HR4 HU4
    obtain ⟨k, j, hk, hj, rfl, hR, ar, am, br, bm, hU⟩ := hrel
    have HR := hideIt hR
    have HU := hideIt hU
    clear hR hU
    by_cases hk12 : k < 12
    · have hk' : (k : Int) < 12 := by omega
      go_wp2_with fail
      refine (pick_any _ q p n' cap j 12 HR.out (by omega) (by omega) (by omega)).mono ?_
      rintro e w5 ⟨⟨x, hx0, hx1, rfl⟩, hR5, hO5⟩
      have HR := hideIt hR5
      have HU := hideIt (HU.out.next hqS hA3 hB4 hO5)
      clear hR5 hO5
      by_cases hz : x = 0
      · subst hz
        have hxa0 := HU.out.a.x0
        have hxa1 := HU.out.a.x1
        have hxb0 := HU.out.b.x0
        have hxb1 := HU.out.b.x1
        have hr0 := HX0.out.only HU.out.only (by omega)
        have hr1 := HX1.out.only HU.out.only (by omega)
        have c0 := hr0.x0
        have c1 := hr0.x1
        have cf := hr0.fz
        have d0 := hr1.x0
        have d1 := hr1.x1
        have df := hr1.fz
        have HOWN : Hid (OwnOps w5 w.heap.size G c L) := ownsRow_base (by omega) HU.out.own
        have HBEL : Hid (Below w.heap.size w w5) := HBS.out.trans (HU.out.only.below.mono (by omega))
        have HIA := hideIt HU.out.ia
        have HIB := hideIt HU.out.ib
        clear HU HR hr0 hr1
        have hn1 : ¬ A = w.heap.size := by omega
        have hn2 : ¬ B = w.heap.size := by omega
        have hn3 : ¬ A = r1 := by omega
        have hn4 : ¬ B = r1 := by omega
        have hn5 : ¬ w.heap.size = A := by omega
        have hn6 : ¬ w.heap.size = B := by omega
        have hn7 : ¬ r1 = A := by omega
        have hn8 : ¬ r1 = B := by omega
        have hne10 : ¬ w.heap.size = r1 := by omega
        go_wp2
        go_region_with (fail)
        all_goals
          go_wp2
          refine bodyPost_ret (v := .tuple #[.slice (some ⟨G, 0, none⟩) L.length c, .agg #[.int .i64 ar, .int .i64 am], .agg #[.int .i64 br, .int .i64 bm]]) (by simp [results, Tryd.results15, go_sem, c0, c1, d0, d1, hne01, hne10]) rfl ⟨G, c, L, ar, am, br, bm, rfl, hL, HIA.out, HIB.out, ?_, ?_⟩
          · exact fin4o HOWN.out (by omega) (by omega) _ _ _ _
          · exact fin4b HBEL.out hb01 _ _ _ _
      · have hpos : (0 : Int) < x := by omega
        have xa0 := HU.out.a.x0
        have xa1 := HU.out.a.x1
        have xb0 := HU.out.b.x0
        have xb1 := HU.out.b.x1
        have hlA := HU.out.a.lt
        have hlB := HU.out.b.lt
        cases hund : undB L ar am br bm
        all_goals
          have HUN := hideIt hund
          clear hund
          go_wp2_with fail
          refine (specUnder_any L G c ar am br bm _ HU.out.own.at (by omega) HU.out.own.cap).mono ?_
          rintro e w6 ⟨rfl, hb6⟩
          rw [HUN.out]
          have HR := hideIt (HR.out.below hb6)
          have HU := hideIt (HU.out.below hqS hb6)
          clear hb6 xa0 xa1 xb0 xb1 hlA hlB
        · go_wp2_with fail
          refine (l71SomeL_any _ _ p n' cap (j + 1) _ G c L hL HR.out (by omega) HU.out.own hqS HR.out.lt).mono ?_
          rintro e w7 ⟨⟨ar', am', hia', rfl⟩, ⟨k7, hk7, hR7⟩, hO7⟩
          have HU := hideIt (HU.out.next hqS hA3 hB4 hO7)
          have HR := hideIt hR7
          have HIA' := hideIt hia'
          clear hR7 hO7 hia'
          have xa0 := HU.out.a.x0
          have xa1 := HU.out.a.x1
          have xaf := HU.out.a.fz
          go_wp2_with fail
          have HU := hideIt (HU.out.setA hqS hA3 hAB hAG ar' am' HIA'.out)
          have HR := hideIt (HRS.out.fin HR.out HU.out.only (fun y => by simp [go_sem, show ¬ A = q by omega, show ¬ q = A by omega]) (fun y => by simp))
          clear xa0 xa1 xaf
          generalize (w7.setCell ⟨A, 0, none⟩ (.int .i64 ar')).setCell ⟨A, 1, none⟩ (.int .i64 am') = W7 at *
          refine (l71SomeL_any _ _ p n' cap k7 _ G c L hL HR.out (by omega) HU.out.own hqS HR.out.lt).mono ?_
          rintro e w8 ⟨⟨br', bm', hib', rfl⟩, ⟨k8, hk8, hR8⟩, hO8⟩
          have HU := hideIt (HU.out.next hqS hA3 hB4 hO8)
          have HR := hideIt hR8
          have HIB' := hideIt hib'
          clear hR8 hO8 hib'
          have xb0 := HU.out.b.x0
          have xb1 := HU.out.b.x1
          have xbf := HU.out.b.fz
          go_wp2
          have HU := hideIt (HU.out.setB hqS hB4 hAB hBG br' bm' HIB'.out)
          have HR := hideIt (HRS.out.fin HR.out HU.out.only (fun y => by simp [go_sem, show ¬ B = q by omega, show ¬ q = B by omega]) (fun y => by simp))
          exact ⟨⟨k + 1, k8, by omega, by omega, by go_num, HR.out, ar', am', br', bm', HU.out⟩, by simp [intOf]; omega⟩
        · have hxa0 := HU.out.a.x0
          have hxa1 := HU.out.a.x1
          have hxb0 := HU.out.b.x0
          have hxb1 := HU.out.b.x1
          have hr0 := HX0.out.only HU.out.only (by omega)
          have hr1 := HX1.out.only HU.out.only (by omega)
          have c0 := hr0.x0
          have c1 := hr0.x1
          have cf := hr0.fz
          have d0 := hr1.x0
          have d1 := hr1.x1
          have df := hr1.fz
          have HOWN : Hid (OwnOps w6 w.heap.size G c L) := ownsRow_base (by omega) HU.out.own
          have HBEL : Hid (Below w.heap.size w w6) := HBS.out.trans (HU.out.only.below.mono (by omega))
          have HIA := hideIt HU.out.ia
          have HIB := hideIt HU.out.ib
          clear HU HR hr0 hr1
          have hn1 : ¬ A = w.heap.size := by omega
          have hn2 : ¬ B = w.heap.size := by omega
          have hn3 : ¬ A = r1 := by omega
          have hn4 : ¬ B = r1 := by omega
          have hn5 : ¬ w.heap.size = A := by omega
          have hn6 : ¬ w.heap.size = B := by omega
          have hn7 : ¬ r1 = A := by omega
          have hn8 : ¬ r1 = B := by omega
          have hne10 : ¬ w.heap.size = r1 := by omega
          go_wp2
          go_region_with (fail)
          all_goals
            go_wp2
            refine bodyPost_ret (v := .tuple #[.slice (some ⟨G, 0, none⟩) L.length c, .agg #[.int .i64 ar, .int .i64 am], .agg #[.int .i64 br, .int .i64 bm]]) (by simp [results, Tryd.results15, go_sem, c0, c1, d0, d1, hne01, hne10]) rfl ⟨G, c, L, ar, am, br, bm, rfl, hL, HIA.out, HIB.out, ?_, ?_⟩
            · exact fin4o HOWN.out (by omega) (by omega) _ _ _ _
            · exact fin4b HBEL.out hb01 _ _ _ _
    · have hk' : ¬ ((k : Int) < 12) := by omega
      have hxa0 := HU.out.a.x0
      have hxa1 := HU.out.a.x1
      have hxb0 := HU.out.b.x0
      have hxb1 := HU.out.b.x1
      have hr0 := HX0.out.only HU.out.only (by omega)
      have hr1 := HX1.out.only HU.out.only (by omega)
      have c0 := hr0.x0
      have c1 := hr0.x1
      have cf := hr0.fz
      have d0 := hr1.x0
      have d1 := hr1.x1
      have df := hr1.fz
      have HOWN : Hid (OwnOps wr w.heap.size G c L) := ownsRow_base (by omega) HU.out.own
      have HBEL : Hid (Below w.heap.size w wr) := HBS.out.trans (HU.out.only.below.mono (by omega))
      have HIA := hideIt HU.out.ia
      have HIB := hideIt HU.out.ib
      clear HU HR hr0 hr1
      have hn1 : ¬ A = w.heap.size := by omega
      have hn2 : ¬ B = w.heap.size := by omega
      have hn3 : ¬ A = r1 := by omega
      have hn4 : ¬ B = r1 := by omega
      have hn5 : ¬ w.heap.size = A := by omega
      have hn6 : ¬ w.heap.size = B := by omega
      have hn7 : ¬ r1 = A := by omega
      have hn8 : ¬ r1 = B := by omega
      have hne10 : ¬ w.heap.size = r1 := by omega
      go_wp2
      go_region_with (fail)
      all_goals
        go_wp2
        refine bodyPost_ret (v := .tuple #[.slice (some ⟨G, 0, none⟩) L.length c, .agg #[.int .i64 ar, .int .i64 am], .agg #[.int .i64 br, .int .i64 bm]]) (by simp [results, Tryd.results15, go_sem, c0, c1, d0, d1, hne01, hne10]) rfl ⟨G, c, L, ar, am, br, bm, rfl, hL, HIA.out, HIB.out, ?_, ?_⟩
        · exact fin4o HOWN.out (by omega) (by omega) _ _ _ _
        · exact fin4b HBEL.out hb01 _ _ _ _
end Go.Proofs.YtcnpfhnlniiacaaDoor

namespace Go.Proofs.YtcnpfhnlniiacaaDoor
open Go.RowKit
set_option linter.unusedSimpArgs false
set_option linter.unusedVariables false
attribute [local go_sem ↓] Go.wp_at_zero Go.wp_at_succ

/-- Where the thing of an id stands, if what was done is ok. -/
def findB (l : List Op7) (r m : Int) : Int := if opsB l = true then findI l r m else -1
theorem opsB_parts {l : List Op7} (h : opsB l = true) : l.all okO = true ∧ ordB l = true := by
  unfold opsB at h
  simp only [Bool.and_eq_true] at h
  exact ⟨h.1, h.2.1⟩


theorem keepF {w w1 w2 : World} {u v : Value} (hb : Below w1.heap.size w1 w2)
    (h : w1.cell? ⟨w.heap.size, 0, none⟩ = some u ∧ w1.cell? ⟨w.heap.size, 1, none⟩ = some v ∧ w.heap.size < w1.heap.size ∧ Below w.heap.size w w1) :
    w2.cell? ⟨w.heap.size, 0, none⟩ = some u ∧ w2.cell? ⟨w.heap.size, 1, none⟩ = some v ∧ w.heap.size < w2.heap.size ∧ Below w.heap.size w w2 := by
  obtain ⟨h1, h2, h4, h5⟩ := h
  obtain ⟨hc, _⟩ := bcell hb
  exact ⟨(hc _ _ h4).trans h1, (hc _ _ h4).trans h2, Nat.lt_of_lt_of_le h4 hb.size, Bstep h5 hb⟩

set_option maxRecDepth 100000 in
set_option maxHeartbeats 1000000 in
theorem implFind_any (l : List Op7) (g cap : Nat) (r m : Int) (x : Addr) (w : World) (hl : OpsAt w g l) (hn : l.length ≤ 1048576) (hcap : l.length ≤ cap)
    (he : w.cell? ⟨0, 0, none⟩ = some (.iface 164 (.pointer (some x)))) (h0 : 0 < w.heap.size) :
    Calls Tryd.prog 28 #[.slice (some ⟨g, 0, none⟩) l.length cap, .agg #[.int .i64 r, .int .i64 m]] w fun e w' => e = .returned (.int .i64 (findB l r m)) ∧ Below w.heap.size w w' := by
  have HL := hideIt hl
  have hgw := hl.1
  clear hl
  go_enter Tryd.func28, Tryd.ntmps28
  go_wp2_with fail
  have HB0 : Hid (Below w.heap.size w (w.alloc (.cells #[.int .i64 r, .int .i64 m] 25))) := (Below.refl _ _).alloc (Nat.le_refl _) _
  refine (things_any l g cap x _ (HL.out.below HB0.out hgw) hn hcap (errB HB0.out h0 he) (posB HB0.out h0)).mono ?_
  rintro e w1 ⟨(⟨ht, M, hMM, rfl, hT⟩ | ⟨ht, rfl⟩), hb1⟩
  all_goals
    have HT := hideIt (ht.symm.trans (th_same l))
    have HB1 : Hid (Below w.heap.size w w1) := HB0.out.trans (hb1.mono (by simp))
    have herr1 : w1.cell? ⟨0, 0, none⟩ = some (.iface 164 (.pointer (some x))) := errB HB1.out h0 he
    have k0 : w1.cell? ⟨w.heap.size, 0, none⟩ = some (.int .i64 r) := by rw [(bcell hb1).1 _ _ (by simp)]; simp [go_sem]
    have k1 : w1.cell? ⟨w.heap.size, 1, none⟩ = some (.int .i64 m) := by rw [(bcell hb1).1 _ _ (by simp)]; simp [go_sem]
    have hz1 : w.heap.size < w1.heap.size := by have := hb1.size; simp at this; omega
    clear ht hb1
  · have HTT := hideIt hT
    have hM1 : M < w1.heap.size := hT.1
    obtain ⟨hok, hord⟩ := opsB_parts HT.out.symm
    have HOK := hideIt hok
    have HPL : Hid (placeI (cnt l 1) (cnt l 2) (cnt l 3) r m = findB l r m) := by
      show placeI _ _ _ _ _ = _
      rw [← find_place hok hord]; unfold findB; rw [← HT.out]; rfl
    have hlen := len_le hok hord
    have b1 : Hid ((0 ≤ cnt l 1 ∧ cnt l 1 ≤ 1048576) ∧ (0 ≤ cnt l 2 ∧ cnt l 2 ≤ 1048576)) := by
      have h1 := cnt_nonneg l 1
      have h2 := cnt_nonneg l 2
      have h3 := cnt_nonneg l 3
      have h4 := cnt_sum l
      exact ⟨⟨by omega, by omega⟩, ⟨by omega, by omega⟩⟩
    clear hT hok hord hMM
    go_wp2_with (first | (go_at_call 53; refine (is_nil x _).mono ?_; rintro e w'' ⟨rfl, rfl⟩))
    go_region_held3 (fun w' => w'.cell? ⟨w.heap.size, 0, none⟩ = some (.int .i64 r) ∧ w'.cell? ⟨w.heap.size, 1, none⟩ = some (.int .i64 m) ∧ w.heap.size < w'.heap.size ∧ Below w.heap.size w w')
      (first | exact keepF hb2 (by with_reducible assumption) | exact ⟨k0, k1, hz1, HB1.out.drew⟩)
      (first
        | (go_at_call 66; refine (count_any l M l.length _ (HTT.out.below ((Below.refl _ _).drew) hM1) hn (Nat.le_refl _) HOK.out).mono ?_; rintro e w2 ⟨rfl, hse, hfz2, hb2⟩; have HSE := hideIt hse; clear hse hfz2)
        | (go_at_call 65; refine (place_any _ _ _ _ _ _ _ HSE.out b1.out.1 b1.out.2).mono ?_; rintro e w3 ⟨rfl, hb2⟩; rw [HPL.out]))
    rename_i hS
    have HB3 := hideIt hS.2.2.2
    clear hS hb2
    go_wp2
    go_ret
    exact ⟨rfl, HB3.out⟩
  · go_wp2_with (first | (go_at_call 53; refine (is_same x _).mono ?_; rintro e w'' ⟨rfl, rfl⟩))
    go_ret
    exact ⟨ret_int (by unfold findB; rw [← HT.out]; rfl), HB1.out⟩
end Go.Proofs.YtcnpfhnlniiacaaDoor

namespace Go.Proofs.YtcnpfhnlniiacaaDoor
open Go.RowKit
set_option linter.unusedSimpArgs false
set_option linter.unusedVariables false

theorem opsB_all {l : List Op7} (h : opsB l = true) : l.all okO = true ∧ ordB l = true ∧ l.all (refsB l) = true ∧ l.all (deepF l (l.length + 1)) = true := by
  unfold opsB at h
  simp only [Bool.and_eq_true] at h
  exact ⟨h.1, h.2.1, h.2.2.1, h.2.2.2⟩
theorem next_mem {l : List Op7} {o p : Op7} (h : nextO l o = some p) : p ∈ l ∧ p.a = o.c ∧ p.b = o.d := by
  rw [nextO_find'] at h
  have h1 := List.mem_of_find?_eq_some h
  have h2 := List.find?_some h
  simp [hasId] at h2
  exact ⟨h1, h2.1, h2.2⟩
theorem deep_up {l : List Op7} (hr : l.all (refsB l) = true) : ∀ (n : Nat) (o : Op7), o ∈ l → deepF l n o = true → ∃ d, Up l d (o.c, o.d) := by
  intro n
  induction n with
  | zero => intro o _ h; simp [deepF] at h
  | succ n ih =>
    intro o ho h
    unfold deepF at h
    cases hb : noB o.c o.d
    · rw [hb] at h
      cases hx : nextO l o with
      | none => rw [hx] at h; simp at h
      | some p =>
        rw [hx] at h
        obtain ⟨hm, ha, hb'⟩ := next_mem hx
        have hk : p.k = 1 := by
          have := List.all_eq_true.1 hr o ho
          unfold refsB at this
          rw [hb, hx] at this
          simpa using this
        obtain ⟨d, hd⟩ := ih p hm (by simpa using h)
        have := Up.step hm hk hd
        rw [ha, hb'] at this
        exact ⟨d + 1, this⟩
    · unfold noB at hb
      have := of_decide_eq_true hb
      rw [this.1, this.2]
      exact ⟨0, Up.zero⟩
theorem put_up {l : List Op7} (h : opsB l = true) {o : Op7} (ho : o ∈ l) : ∃ d, Up l d (o.c, o.d) := by
  obtain ⟨_, _, h3, h4⟩ := opsB_all h
  exact deep_up h3 _ o ho (List.all_eq_true.1 h4 o ho)
theorem kid_of {l : List Op7} {o : Op7} (ho : o ∈ l) (hk : o.k = 1) : o ∈ kidsL l (o.c, o.d, o.s) := by
  unfold kidsL
  rw [List.mem_filter]
  exact ⟨ho, by simp [isKid, hk]⟩
theorem side_kid {l : List Op7} {n : Nat} {x : Int × Int × Int} {o : Op7} (ho : o ∈ kidsL l x) : o ∈ sideO l (n + 1) x ∧ ∀ s, s = 0 ∨ s = 1 → ∀ y ∈ sideO l n (o.a, o.b, s), y ∈ sideO l (n + 1) x := by
  rw [show sideO l (n + 1) x = (kidsL l x).flatMap fun o => sideO l n (o.a, o.b, 0) ++ o :: sideO l n (o.a, o.b, 1) from rfl]
  refine ⟨List.mem_flatMap.2 ⟨o, ho, by simp⟩, fun s hs y hy => List.mem_flatMap.2 ⟨o, ho, ?_⟩⟩
  rcases hs with rfl | rfl
  · exact List.mem_append.2 (.inl hy)
  · exact List.mem_append.2 (.inr (List.mem_cons_of_mem _ hy))
theorem put_side {l : List Op7} (h : opsB l = true) {o : Op7} (ho : o ∈ l) (hk : o.k = 1) : (o.c = 0 ∧ o.d = 0 ∧ o.s = 1) ∨ (1 ≤ o.c ∧ (o.s = 0 ∨ o.s = 1)) := by
  have := List.all_eq_true.1 (opsB_all h).1 o ho
  unfold okO at this
  rw [opB_true] at this
  omega
theorem up_all {l : List Op7} (h : opsB l = true) : ∀ (d : Nat) (o : Op7), o ∈ l → o.k = 1 → Up l d (o.c, o.d) → o ∈ allO l ∧ ∀ s, s = 0 ∨ s = 1 → ∀ y ∈ sideO l (l.length + 2 - (d + 1)) (o.a, o.b, s), y ∈ allO l := by
  intro d
  induction d with
  | zero =>
    intro o ho hk hu
    have e : o.c = 0 ∧ o.d = 0 := by
      rcases up_inv hu with ⟨_, hx⟩ | ⟨e, p, he, _⟩
      · exact ⟨congrArg Prod.fst hx, congrArg Prod.snd hx⟩
      · omega
    have hs : o.s = 1 := by
      rcases put_side h ho hk with ⟨_, _, h⟩ | ⟨h, _⟩
      · exact h
      · omega
    have hkid := kid_of ho hk
    rw [e.1, e.2, hs] at hkid
    exact side_kid (n := l.length + 1) hkid
  | succ d ih =>
    intro o ho hk hu
    have hle := up_le h (Up.step ho hk hu)
    rcases up_inv hu with ⟨h0, _⟩ | ⟨e, p, he, hm, hpk, hu', hx⟩
    · omega
    · obtain rfl : e = d := by omega
      have ha : o.c = p.a := congrArg Prod.fst hx
      have hb : o.d = p.b := congrArg Prod.snd hx
      have hpp := op_pos (opsB_all h).1 hm
      have hs : o.s = 0 ∨ o.s = 1 := by
        rcases put_side h ho hk with ⟨_, _, h⟩ | ⟨_, h⟩
        · exact .inr h
        · exact h
      obtain ⟨_, hsub⟩ := ih p hm hpk hu'
      have hkid := kid_of ho hk
      rw [ha, hb] at hkid
      have e1 : l.length + 2 - (e + 1) = (l.length + 2 - (e + 1 + 1)) + 1 := by omega
      rw [e1] at hsub
      obtain ⟨h1, h2⟩ := side_kid (n := l.length + 2 - (e + 1 + 1)) hkid
      exact ⟨hsub o.s hs o h1, fun s hs' y hy => hsub o.s hs y (h2 s hs' y hy)⟩
/-- What was put stands. -/
theorem all_mem {l : List Op7} (h : opsB l = true) {o : Op7} (ho : o ∈ l) (hk : o.k = 1) : o ∈ allO l := by
  obtain ⟨d, hd⟩ := put_up h ho
  exact (up_all h d o ho hk hd).1
theorem side_put {l : List Op7} (n : Nat) {x : Int × Int × Int} {p : Op7} (h : p ∈ sideO l n x) : p ∈ l ∧ p.k = 1 := by
  obtain ⟨j, hj⟩ := side_desc n h
  clear h
  induction j generalizing x with
  | zero =>
    simp only [Desc] at hj
    obtain ⟨h1, h2, _⟩ := mem_kids hj
    exact ⟨h1, h2⟩
  | succ j ih =>
    simp only [Desc] at hj
    obtain ⟨o, s, _, h⟩ := hj
    exact ih h
/-- Those that stand are those that were put. -/
theorem all_perm {l : List Op7} (h : opsB l = true) : (allO l).Perm (l.filter fun o => o.k == 1) := by
  have hl : l.Nodup := nodup_of_once (once_of (opsB_all h).1 (opsB_all h).2.1)
  refine (List.perm_ext_iff_of_nodup (nodup_all h) (hl.filter _)).2 fun o => ⟨fun ho => ?_, fun ho => ?_⟩
  · obtain ⟨h1, h2⟩ := side_put _ ho
    exact List.mem_filter.2 ⟨h1, by simp [h2]⟩
  · obtain ⟨h1, h2⟩ := List.mem_filter.1 ho
    exact all_mem h h1 (by simpa using h2)
end Go.Proofs.YtcnpfhnlniiacaaDoor

namespace Go.Proofs.YtcnpfhnlniiacaaDoor
open Go.RowKit
set_option linter.unusedSimpArgs false
set_option linter.unusedVariables false

/-- One comes from x to b in j steps, one at least. -/
inductive Path (l : List Op7) : Nat → Int × Int → Int × Int → Prop
  | one {x : Int × Int} {o : Op7} (h : putAt l x = some o) : Path l 1 x (o.c, o.d)
  | step {j : Nat} {x b : Int × Int} {o : Op7} (h : putAt l x = some o) (hp : Path l j (o.c, o.d) b) : Path l (j + 1) x b
theorem Path.pos {l : List Op7} {j : Nat} {x b : Int × Int} (h : Path l j x b) : 1 ≤ j := by
  cases h <;> omega
theorem Path.trans {l : List Op7} {i j : Nat} {a b c : Int × Int} (h : Path l i a b) (h' : Path l j b c) : Path l (i + j) a c := by
  induction h with
  | one h => rw [Nat.add_comm]; exact .step h h'
  | step h _ ih => rw [show ∀ i j : Nat, i + 1 + j = i + j + 1 by omega]; exact .step h (ih h')
theorem Path.up {l : List Op7} (ho : opsB l = true) {j : Nat} {x b : Int × Int} (h : Path l j x b) : ∃ d, Up l d b ∧ Up l (d + j) x := by
  induction h with
  | one h =>
    obtain ⟨_, hk, hm, ha, hb⟩ := putAt_some h
    obtain ⟨d, hd⟩ := put_up ho hm
    have := Up.step hm hk hd
    rw [ha, hb] at this
    exact ⟨d, hd, this⟩
  | step h _ ih =>
    obtain ⟨_, hk, hm, ha, hb⟩ := putAt_some h
    obtain ⟨d, h1, h2⟩ := ih
    have := Up.step hm hk h2
    rw [ha, hb] at this
    exact ⟨d, h1, this⟩
theorem under_path {l : List Op7} : ∀ (n : Nat) {x b : Int × Int}, underN l n x b.1 b.2 = true → ∃ j, Path l j x b := by
  intro n
  induction n with
  | zero => intro x b h; simp [underN] at h
  | succ n ih =>
    intro x b h
    cases hp : putAt l x with
    | none => rw [under_no hp] at h; cases h
    | some o =>
      by_cases he : o.c = b.1 ∧ o.d = b.2
      · have := Path.one (l := l) hp
        rw [he.1, he.2] at this
        exact ⟨1, this⟩
      · rw [under_on hp he] at h
        obtain ⟨j, hj⟩ := ih h
        exact ⟨j + 1, .step hp hj⟩
theorem path_under {l : List Op7} {j : Nat} {x b : Int × Int} (h : Path l j x b) : ∀ n, j ≤ n → underN l n x b.1 b.2 = true := by
  induction h with
  | one h =>
    intro n hn
    obtain ⟨m, rfl⟩ : ∃ m, n = m + 1 := ⟨n - 1, by omega⟩
    exact under_hit h ⟨rfl, rfl⟩
  | step h hp ih =>
    rename_i x b o
    intro n hn
    obtain ⟨m, rfl⟩ : ∃ m, n = m + 1 := ⟨n - 1, by omega⟩
    by_cases he : o.c = b.1 ∧ o.d = b.2
    · exact under_hit h he
    · rw [under_on h he]
      exact ih m (by omega)
theorem und_path {l : List Op7} (ho : opsB l = true) {a b : Int × Int} : undB l a.1 a.2 b.1 b.2 = true ↔ ∃ j, Path l j a b := by
  unfold undB
  rw [if_pos ho]
  constructor
  · exact under_path _
  · rintro ⟨j, hj⟩
    obtain ⟨d, _, h2⟩ := hj.up ho
    exact path_under hj _ (by have := up_le ho h2; omega)
theorem und_ops {l : List Op7} {a b c d : Int} (h : undB l a b c d = true) : opsB l = true := by
  unfold undB at h
  cases ho : opsB l
  · rw [ho] at h; cases h
  · rfl
theorem und_trans {l : List Op7} {a b c : Int × Int} (h : undB l a.1 a.2 b.1 b.2 = true) (h' : undB l b.1 b.2 c.1 c.2 = true) : undB l a.1 a.2 c.1 c.2 = true := by
  have ho := und_ops h
  obtain ⟨i, hi⟩ := (und_path ho).1 h
  obtain ⟨j, hj⟩ := (und_path ho).1 h'
  exact (und_path ho).2 ⟨_, hi.trans hj⟩
theorem und_irr {l : List Op7} (ho : opsB l = true) (a : Int × Int) : undB l a.1 a.2 a.1 a.2 = false := by
  cases h : undB l a.1 a.2 a.1 a.2
  · rfl
  · obtain ⟨j, hj⟩ := (und_path ho).1 h
    obtain ⟨d, h1, h2⟩ := hj.up ho
    have := up_once (opsB_all ho).1 (once_of (opsB_all ho).1 (opsB_all ho).2.1) h1 h2
    have := hj.pos
    omega
theorem und_asym {l : List Op7} {a b : Int × Int} (h : undB l a.1 a.2 b.1 b.2 = true) : undB l b.1 b.2 a.1 a.2 = false := by
  cases h' : undB l b.1 b.2 a.1 a.2
  · rfl
  · have := und_trans h h'
    rw [und_irr (und_ops h)] at this
    cases this
theorem put_here {l : List Op7} (ho : opsB l = true) {o : Op7} (hm : o ∈ l) (hk : o.k = 1) : putAt l (o.a, o.b) = some o := by
  unfold putAt
  rw [find_self (once_of (opsB_all ho).1 (opsB_all ho).2.1) hm]
  simp [hk]
theorem Path.last {l : List Op7} {j : Nat} {x b : Int × Int} (h : Path l j x b) : ∃ o, o ∈ l ∧ o.k = 1 ∧ (o.c, o.d) = b ∧ (x = (o.a, o.b) ∨ ∃ i, Path l i x (o.a, o.b)) := by
  induction h with
  | one h =>
    obtain ⟨_, hk, hm, ha, hb⟩ := putAt_some h
    exact ⟨_, hm, hk, rfl, .inl (by rw [ha, hb])⟩
  | step h hp ih =>
    obtain ⟨p, hm, hk, he, h' | ⟨i, hi⟩⟩ := ih
    · refine ⟨p, hm, hk, he, .inr ⟨1, ?_⟩⟩
      have := Path.one (l := l) h
      rw [h'] at this
      exact this
    · exact ⟨p, hm, hk, he, .inr ⟨i + 1, .step h hi⟩⟩
/-- Those that were put beside one, on either side. -/
def kidsB (l : List Op7) (b : Int × Int) : List Op7 := kidsL l (b.1, b.2, 0) ++ kidsL l (b.1, b.2, 1)
/-- A kid of b, or under it. -/
def byKid (l : List Op7) (a : Int × Int) (o : Op7) : Bool := (o.a == a.1 && o.b == a.2) || undB l a.1 a.2 o.a o.b
theorem und_kids {l : List Op7} (ho : opsB l = true) (a b : Int × Int) : undB l a.1 a.2 b.1 b.2 = (kidsB l b).any (byKid l a) := by
  rw [Bool.eq_iff_iff, und_path ho, List.any_eq_true]
  constructor
  · rintro ⟨j, hj⟩
    obtain ⟨o, hm, hk, he, h⟩ := hj.last
    have hkid := kid_of hm hk
    have hs : o.s = 0 ∨ o.s = 1 := by
      rcases put_side ho hm hk with ⟨_, _, h⟩ | ⟨_, h⟩
      · exact .inr h
      · exact h
    have hc : o.c = b.1 := congrArg Prod.fst he
    have hd : o.d = b.2 := congrArg Prod.snd he
    refine ⟨o, ?_, ?_⟩
    · unfold kidsB
      rw [hc, hd] at hkid
      rcases hs with e | e <;> rw [e] at hkid
      · exact List.mem_append.2 (.inl hkid)
      · exact List.mem_append.2 (.inr hkid)
    · unfold byKid
      rcases h with rfl | ⟨i, hi⟩
      · simp
      · have := (und_path ho (a := a) (b := (o.a, o.b))).2 ⟨i, hi⟩
        simp only [] at this
        rw [this, Bool.or_true]
  · rintro ⟨o, hm, h⟩
    have hko : ∃ s, o ∈ kidsL l (b.1, b.2, s) := by
      unfold kidsB at hm
      rcases List.mem_append.1 hm with h | h
      · exact ⟨0, h⟩
      · exact ⟨1, h⟩
    obtain ⟨s, hks⟩ := hko
    obtain ⟨h1, h2, h3⟩ := mem_kids hks
    have hc : b.1 = o.c := congrArg Prod.fst h3
    have hd : b.2 = o.d := congrArg (fun y => y.2.1) h3
    have hone : Path l 1 (o.a, o.b) b := by
      have := Path.one (l := l) (put_here ho h1 h2)
      rw [← hc, ← hd] at this
      exact this
    unfold byKid at h
    rcases Bool.or_eq_true _ _ |>.mp h with h | h
    · have : o.a = a.1 ∧ o.b = a.2 := by simpa using h
      rw [this.1, this.2] at hone
      exact ⟨1, hone⟩
    · obtain ⟨j, hj⟩ := (und_path ho (a := a) (b := (o.a, o.b))).1 h
      exact ⟨_, hj.trans hone⟩
theorem Path.mem {l : List Op7} {j : Nat} {x b : Int × Int} (h : Path l j x b) : ∃ o ∈ l, o.k = 1 ∧ o.a = x.1 ∧ o.b = x.2 := by
  cases h with
  | one h => obtain ⟨_, hk, hm, ha, hb⟩ := putAt_some h; exact ⟨_, hm, hk, ha, hb⟩
  | step h _ => obtain ⟨_, hk, hm, ha, hb⟩ := putAt_some h; exact ⟨_, hm, hk, ha, hb⟩
theorem und_mem {l : List Op7} {a b c d : Int} (h : undB l a b c d = true) : ∃ o ∈ l, o.k = 1 ∧ o.a = a ∧ o.b = b := by
  obtain ⟨j, hj⟩ := (und_path (und_ops h) (a := (a, b)) (b := (c, d))).1 h
  exact hj.mem
end Go.Proofs.YtcnpfhnlniiacaaDoor

namespace Go.Proofs.YtcnpfhnlniiacaaDoor
open Go.RowKit
set_option linter.unusedSimpArgs false
set_option linter.unusedVariables false
attribute [local go_sem ↓] Go.wp_at_zero Go.wp_at_succ

/-- A row of leaves, as a slice; where there are some, its cells. -/
theorem lf_cases {w : World} {base : Nat} {v : Value} {L : List Lf} (h : w.ownsRow base 41 4 v L.length (lfCells L)) : ∃ q c, v = .slice q L.length c ∧ (0 < L.length → ∃ g, q = some ⟨g, 0, none⟩ ∧ L.length ≤ c ∧ base ≤ g ∧ g < w.heap.size ∧ ∀ j, j < L.length * 4 → w.cell? ⟨g, j, none⟩ = (lfCells L)[j]?) := by
  rcases h.2 with ⟨e, e0⟩ | ⟨g', c', cur, e, hb, hg, h2, _⟩
  · exact ⟨none, 0, by rw [e, e0], fun h => by omega⟩
  · subst e
    exact ⟨some ⟨g', 0, none⟩, c', rfl, fun _ => ⟨g', rfl, h2, hb, (Array.getElem?_eq_some_iff.1 hg).1, fun j hj => World.ownsRow.cellAt h j hj⟩⟩

set_option maxRecDepth 100000 in
set_option maxHeartbeats 1000000 in
theorem ltLeaves_rows (L : List Lf) (v1 v2 : Value) (base1 base2 : Nat) (w : World) (h1 : w.ownsRow base1 41 4 v1 L.length (lfCells L)) (h2 : w.ownsRow base2 41 4 v2 L.length (lfCells L)) (hn : L.length ≤ 1048576) :
    Calls Tryd.prog 22 #[v1, v2] w fun e w' => e = .returned (.bool true) ∧ Below w.heap.size w w' := by
  obtain ⟨q1, c1, rfl, hq1⟩ := lf_cases h1
  obtain ⟨q2, c2, rfl, hq2⟩ := lf_cases h2
  have HQ1 := hideIt hq1
  have HQ2 := hideIt hq2
  clear h1 h2 hq1 hq2
  go_enter Tryd.func22, Tryd.ntmps22
  go_wp2
  go_loopw [5] (fun i wr => ∃ k : Nat, k ≤ L.length ∧ i = .int .i64 k ∧ Below w.heap.size w wr) (fun i _ => L.length - (intOf i).toNat)
  case atStart => exact ⟨0, Nat.zero_le _, rfl, by go_grown⟩
  case round =>
    obtain ⟨k, hk, rfl, hB⟩ := hrel
    have HB := hideIt hB
    by_cases hlt : k < L.length
    · obtain ⟨g1, rfl, hc1, hb1, hg1, hx1⟩ := HQ1.out (by omega)
      obtain ⟨g2, rfl, hc2, hb2, hg2, hx2⟩ := HQ2.out (by omega)
      obtain ⟨i0, i1, i2, i3⟩ := lfCells_at L k L[k] (by simp [hlt])
      have y0 := ((bcell hB).1 g1 _ hg1).trans ((hx1 (k * 4) (by omega)).trans i0)
      have y1 := ((bcell hB).1 g1 _ hg1).trans ((hx1 (k * 4 + 1) (by omega)).trans i1)
      have y2 := ((bcell hB).1 g1 _ hg1).trans ((hx1 (k * 4 + 2) (by omega)).trans i2)
      have y3 := ((bcell hB).1 g1 _ hg1).trans ((hx1 (k * 4 + 3) (by omega)).trans i3)
      have z0 := ((bcell hB).1 g2 _ hg2).trans ((hx2 (k * 4) (by omega)).trans i0)
      have z1 := ((bcell hB).1 g2 _ hg2).trans ((hx2 (k * 4 + 1) (by omega)).trans i1)
      have z2 := ((bcell hB).1 g2 _ hg2).trans ((hx2 (k * 4 + 2) (by omega)).trans i2)
      have z3 := ((bcell hB).1 g2 _ hg2).trans ((hx2 (k * 4 + 3) (by omega)).trans i3)
      have hlt' : (k : Int) < (L.length : Int) := by omega
      have hk0 : (0 : Int) ≤ (k : Int) := by omega
      generalize L[k] = y at *
      clear hB i0 i1 i2 i3 hx1 hx2
      go_wp2
      go_quiet (fail)
      go_wp2
      exact ⟨⟨k + 1, by omega, by go_num, below_drewN HB.out _⟩, by simp [intOf]; omega⟩
    · clear hB
      go_wp2
      go_ret
      exact ⟨rfl, HB.out⟩

/-- Where a sign stands first among leaves; -1, if it does not. -/
def atI (F : List Lf) (r m : Int) : Int := match F.findIdx? (fun y => y.a == r && y.b == m) with | some i => i | none => -1
theorem atI_none {F : List Lf} {r m : Int} (h : ∀ j (hj : j < F.length), ¬ (F[j].a = r ∧ F[j].b = m)) : atI F r m = -1 := by
  unfold atI
  rw [List.findIdx?_eq_none_iff.2 (fun y hy => by
    obtain ⟨j, hj, rfl⟩ := List.getElem_of_mem hy
    have := h j hj
    cases e : (F[j].a == r && F[j].b == m)
    · rfl
    · exact absurd (by simpa using e) this)]
theorem atI_some {F : List Lf} {r m : Int} {k : Nat} (hk : k < F.length) (h : F[k].a = r ∧ F[k].b = m) (hb : ∀ j (hj : j < F.length), j < k → ¬ (F[j].a = r ∧ F[j].b = m)) : atI F r m = k := by
  unfold atI
  rw [List.findIdx?_eq_some_iff_getElem.2 ⟨hk, by simp [h.1, h.2], fun j hj => by
    have := hb j (by omega) hj
    cases e : (F[j].a == r && F[j].b == m)
    · simp
    · exact absurd (by simpa using e) this⟩]
theorem atI_hit {F : List Lf} {r m : Int} {y : Lf} (hy : y ∈ F) (ha : y.a = r) (hb : y.b = m) : ∃ k, ∃ hk : k < F.length, atI F r m = (k : Nat) ∧ F[k].a = r ∧ F[k].b = m := by
  unfold atI
  cases e : F.findIdx? (fun y => y.a == r && y.b == m) with
  | none =>
    have := List.findIdx?_eq_none_iff.1 e y hy
    simp [ha, hb] at this
  | some k =>
    obtain ⟨h1, h2, _⟩ := List.findIdx?_eq_some_iff_getElem.1 e
    exact ⟨k, h1, rfl, by simpa using h2⟩
theorem atI_miss {F : List Lf} {r m : Int} (h : ∀ y ∈ F, ¬ (y.a = r ∧ y.b = m)) : atI F r m = -1 := atI_none fun j hj => h _ (List.getElem_mem hj)

theorem specLf_any (l : List Op7) (g cap : Nat) (w : World) (hl : OpsAt w g l) (hn : l.length ≤ 1048576) (hcap : l.length ≤ cap) :
    Calls Tryd.prog 23 #[.slice (some ⟨g, 0, none⟩) l.length cap] w fun e w' => ∃ v, e = .returned v ∧ w'.ownsRow w.heap.size 41 4 v (lfs l (standL l)).length (lfCells (lfs l (standL l))) ∧ Below w.heap.size w w' := by
  refine (specLeaves_any l g cap w hl hn hcap).mono ?_
  rintro e w' ⟨G, c, rfl, hr, hb⟩
  rw [lfs_cells, ← lfs_len l (standL l)] at hr
  exact ⟨_, by rw [← lfs_len l (standL l)], hr, hb⟩

set_option maxRecDepth 100000 in
set_option maxHeartbeats 1000000 in
theorem ltAt_any (F : List Lf) (v : Value) (base : Nat) (r m : Int) (w : World) (h : w.ownsRow base 41 4 v F.length (lfCells F)) (hn : F.length ≤ 1048576) :
    Calls Tryd.prog 24 #[v, .agg #[.int .i64 r, .int .i64 m]] w fun e w' => e = .returned (.int .i64 (atI F r m)) ∧ Below w.heap.size w w' := by
  obtain ⟨q1, c1, rfl, hq1⟩ := lf_cases h
  have HQ1 := hideIt hq1
  clear h hq1
  go_enter Tryd.func24, Tryd.ntmps24
  go_wp2
  go_loopw [5] (fun i wr => ∃ k : Nat, k ≤ F.length ∧ i = .int .i64 k ∧ (∀ j (hj : j < F.length), j < k → ¬ (F[j].a = r ∧ F[j].b = m)) ∧ wr.cell? ⟨w.heap.size, 0, none⟩ = some (.int .i64 r) ∧ wr.cell? ⟨w.heap.size, 1, none⟩ = some (.int .i64 m) ∧ Below w.heap.size w wr) (fun i _ => F.length - (intOf i).toNat)
  case atStart => exact ⟨0, Nat.zero_le _, rfl, fun j hj h => by omega, by simp [go_sem], by simp [go_sem], by go_grown⟩
  case round =>
    obtain ⟨k, hk, rfl, hno, hr, hm, hB⟩ := hrel
    have HN : Hid (∀ j (hj : j < F.length), j < k → ¬ (F[j].a = r ∧ F[j].b = m)) := hno
    have HB := hideIt hB
    by_cases hlt : k < F.length
    · obtain ⟨g1, rfl, hc1, hb1, hg1, hx1⟩ := HQ1.out (by omega)
      obtain ⟨i0, i1, i2, i3⟩ := lfCells_at F k F[k] (by simp [hlt])
      have y0 := ((bcell hB).1 g1 _ hg1).trans ((hx1 (k * 4) (by omega)).trans i0)
      have y1 := ((bcell hB).1 g1 _ hg1).trans ((hx1 (k * 4 + 1) (by omega)).trans i1)
      have hlt' : (k : Int) < (F.length : Int) := by omega
      have hk0 : (0 : Int) ≤ (k : Int) := by omega
      have HS : Hid (F[k].a = r ∧ F[k].b = m → atI F r m = k) := fun h => atI_some hlt h HN.out
      have HX : Hid (¬ (F[k].a = r ∧ F[k].b = m) → ∀ j (hj : j < F.length), j < k + 1 → ¬ (F[j].a = r ∧ F[j].b = m)) := fun hf j hj hj1 => by
        rcases Nat.lt_or_ge j k with h | h
        · exact HN.out j hj h
        · obtain rfl : j = k := by omega
          exact hf
      generalize F[k].a = xa at *
      generalize F[k].b = xb at *
      clear hno hB i0 i1 i2 i3 hx1
      by_cases ha : xa = r
      · by_cases hb : xb = m
        · have hfin := hideIt (HS.out ⟨ha, hb⟩)
          subst ha hb
          clear HS HX HN
          go_wp2
          go_quiet (fail)
          go_wp2
          go_ret
          exact ⟨ret_int hfin.out.symm, below_drewN HB.out _⟩
        · have HE := hideIt (HX.out (fun h => hb h.2))
          subst ha
          clear HS HX HN
          go_wp2
          go_quiet (fail)
          go_wp2
          exact ⟨⟨k + 1, by omega, by go_num, HE.out, by simpa using hr, by simpa using hm, below_drewN HB.out _⟩, by simp [intOf]; omega⟩
      · have HE := hideIt (HX.out (fun h => ha h.1))
        clear HS HX HN
        go_wp2
        go_quiet (fail)
        go_wp2
        exact ⟨⟨k + 1, by omega, by go_num, HE.out, by simpa using hr, by simpa using hm, below_drewN HB.out _⟩, by simp [intOf]; omega⟩
    · clear hno hB
      go_wp2
      go_ret
      exact ⟨ret_int (atI_none fun j hj => HN.out j hj (by omega)).symm, HB.out⟩
end Go.Proofs.YtcnpfhnlniiacaaDoor

namespace Go.Proofs.YtcnpfhnlniiacaaDoor
open Go.RowKit
set_option linter.unusedSimpArgs false
set_option linter.unusedVariables false

theorem once_ops {l : List Op7} (h : opsB l = true) : OnceIds l := once_of (opsB_all h).1 (opsB_all h).2.1
theorem lfs_at {l A : List Op7} {k : Nat} (hk : k < (lfs l A).length) : ∃ p ∈ A, (lfs l A)[k] = ⟨p.a, p.b, p.g, goneB l (p.a, p.b)⟩ := by
  unfold lfs at *
  rw [List.length_map] at hk
  exact ⟨A[k], List.getElem_mem hk, by simp⟩
theorem put_leaf {l : List Op7} (h : opsB l = true) {o : Op7} (ho : o ∈ l) (hk : o.k = 1) : ∃ k, ∃ hk : k < (lfs l (allO l)).length, atI (lfs l (allO l)) o.a o.b = (k : Nat) ∧ (lfs l (allO l))[k] = ⟨o.a, o.b, o.g, goneB l (o.a, o.b)⟩ := by
  have hy : (⟨o.a, o.b, o.g, goneB l (o.a, o.b)⟩ : Lf) ∈ lfs l (allO l) := List.mem_map.2 ⟨o, all_mem h ho hk, rfl⟩
  obtain ⟨k, hk', h1, h2, h3⟩ := atI_hit (r := o.a) (m := o.b) hy rfl rfl
  obtain ⟨p, hp, he⟩ := lfs_at hk'
  rw [he] at h2 h3
  have e : p = o := once_eq (once_ops h) (side_put _ hp).1 ho h2 h3
  subst e
  exact ⟨k, hk', h1, he⟩
theorem take_leaf {l : List Op7} (h : opsB l = true) {o : Op7} (ho : o ∈ l) (hk : o.k = 2) : atI (lfs l (allO l)) o.a o.b = -1 := by
  refine atI_miss fun y hy hab => ?_
  obtain ⟨p, hp, rfl⟩ := List.mem_map.1 hy
  obtain ⟨h1, h2⟩ := side_put _ hp
  have e : p = o := once_eq (once_ops h) h1 ho hab.1 hab.2
  subst e
  omega
theorem ref_leaf {l : List Op7} (h : opsB l = true) {o : Op7} (ho : o ∈ l) (hk : o.k = 2) : ∃ k, ∃ hk : k < (lfs l (allO l)).length, atI (lfs l (allO l)) o.c o.d = (k : Nat) ∧ (lfs l (allO l))[k].z = true := by
  have hok := List.all_eq_true.1 (opsB_all h).1 o ho
  unfold okO at hok
  rw [opB_true] at hok
  have hr := List.all_eq_true.1 (opsB_all h).2.2.1 o ho
  unfold refsB at hr
  have hno : noB o.c o.d = false := by unfold noB; exact decide_eq_false (by omega)
  rw [hno] at hr
  cases hx : nextO l o with
  | none => rw [hx] at hr; simp at hr
  | some p =>
    rw [hx] at hr
    have hpk : p.k = 1 := by simpa using hr
    obtain ⟨hm, ha, hb⟩ := next_mem hx
    obtain ⟨k, hk', h1, h2⟩ := put_leaf h hm hpk
    rw [ha, hb] at h1 h2
    refine ⟨k, hk', h1, ?_⟩
    rw [h2]
    obtain ⟨j, hj, rfl⟩ := List.getElem_of_mem ho
    exact gone_yes (x := (l[j].c, l[j].d)) (i := j) (by simp [hj]) hk rfl rfl
/-- How many of the first i take nothing away. -/
def stayTo (L : List Op7) (i : Nat) : Nat := (L.take i).countP fun o => !(o.k == 2)
theorem stayTo_le (L : List Op7) (i : Nat) : stayTo L i ≤ i := Nat.le_trans List.countP_le_length (List.length_take_le _ _)
theorem stayTo_yes {L : List Op7} {i : Nat} (hi : i < L.length) (h : ¬ L[i].k = 2) : stayTo L (i + 1) = stayTo L i + 1 := by
  unfold stayTo
  rw [List.take_succ_eq_append_getElem hi, List.countP_append]
  simp only [List.countP_singleton]
  rw [if_pos (by simp [h])]
theorem stayTo_no {L : List Op7} {i : Nat} (hi : i < L.length) (h : L[i].k = 2) : stayTo L (i + 1) = stayTo L i := by
  unfold stayTo
  rw [List.take_succ_eq_append_getElem hi, List.countP_append]
  simp only [List.countP_singleton]
  rw [if_neg (by simp [h])]
  rfl
theorem op_kind {l : List Op7} (h : opsB l = true) {o : Op7} (ho : o ∈ l) : o.k = 1 ∨ o.k = 2 := by
  have hok := List.all_eq_true.1 (opsB_all h).1 o ho
  unfold okO at hok
  rw [opB_true] at hok
  omega
theorem stayTo_all {l : List Op7} (h : opsB l = true) : stayTo l l.length = (lfs l (allO l)).length := by
  rw [lfs_len, (all_perm h).length_eq, ← List.countP_eq_length_filter]
  unfold stayTo
  rw [List.take_length]
  refine List.countP_congr fun o ho => ?_
  rcases op_kind h ho with e | e <;> simp [e]
end Go.Proofs.YtcnpfhnlniiacaaDoor

namespace Go.Proofs.YtcnpfhnlniiacaaDoor
open Go.RowKit
set_option linter.unusedSimpArgs false
set_option linter.unusedVariables false

theorem countP_two {α : Type} {p q r : α → Bool} : ∀ (l : List α), (∀ o ∈ l, p o = (q o || r o) ∧ (q o && r o) = false) → l.countP p = l.countP q + l.countP r
  | [], _ => rfl
  | o :: l, h => by
    have ih := countP_two l (fun o ho => h o (List.mem_cons_of_mem _ ho))
    obtain ⟨h1, h2⟩ := h o (by simp)
    rw [List.countP_cons, List.countP_cons, List.countP_cons, ih, h1]
    cases hq : q o <;> cases hr : r o <;> rw [hq, hr] at h2 <;> simp at h2 ⊢ <;> omega
theorem put_s {l : List Op7} (h : opsB l = true) {o : Op7} (ho : o ∈ l) (hk : o.k = 1) : o.s = 0 ∨ o.s = 1 := by
  rcases put_side h ho hk with ⟨_, _, h⟩ | ⟨_, h⟩
  · exact .inr h
  · exact h
/-- Those that were put beside one stand on its left, or on its right. -/
theorem kid_sides {l : List Op7} (h : opsB l = true) (a b : Int) : (l.countP fun q => q.k == 1 && decide ((q.c, q.d) = (a, b))) = (kidsL l (a, b, 0)).length + (kidsL l (a, b, 1)).length := by
  unfold kidsL
  rw [← List.countP_eq_length_filter, ← List.countP_eq_length_filter]
  refine countP_two l fun o ho => ?_
  by_cases hk : o.k = 1
  · have hs := put_s h ho hk
    by_cases hc : o.c = a <;> by_cases hd : o.d = b <;> rcases hs with e | e <;> simp [isKid, hk, hc, hd, e]
  · have hk' : (o.k == 1) = false := by simp [hk]
    simp [isKid, hk']
/-- Nothing, and those of the first i that were put. -/
def midTo (L : List Op7) (i : Nat) : List (Int × Int) := (0, 0) :: ((L.take i).filter fun o => !(o.k == 2)).map fun o => (o.a, o.b)
/-- How many were put beside them. -/
def kidsTo (L : List Op7) (i : Nat) : Nat := L.countP fun q => q.k == 1 && decide ((q.c, q.d) ∈ midTo L i)
theorem kidsTo_zero {l : List Op7} (h : opsB l = true) : kidsTo l 0 = (kidsL l (0, 0, 0)).length + (kidsL l (0, 0, 1)).length := by
  rw [← kid_sides h 0 0]
  unfold kidsTo midTo
  simp
theorem kidsTo_no {L : List Op7} {i : Nat} (hi : i < L.length) (h : L[i].k = 2) : kidsTo L (i + 1) = kidsTo L i := by
  have hm : midTo L (i + 1) = midTo L i := by
    unfold midTo
    rw [List.take_succ_eq_append_getElem hi, List.filter_append, List.filter_cons_of_neg (by simp [h]), List.filter_nil, List.append_nil]
  unfold kidsTo
  rw [hm]
theorem midTo_not {l : List Op7} (h : opsB l = true) {i : Nat} (hi : i < l.length) : (l[i].a, l[i].b) ∉ midTo l i := by
  have hpos := op_pos (opsB_all h).1 (List.getElem_mem hi)
  unfold midTo
  intro hm
  rcases List.mem_cons.1 hm with e | hm
  · have := congrArg Prod.fst e
    simp at this
    omega
  · obtain ⟨o, ho, e⟩ := List.mem_map.1 hm
    obtain ⟨j, hj, rfl⟩ := List.getElem_of_mem (List.mem_filter.1 ho).1
    rw [List.length_take] at hj
    rw [List.getElem_take] at e
    have e1 : l[j].a = l[i].a := congrArg Prod.fst e
    have e2 : l[j].b = l[i].b := congrArg Prod.snd e
    have := once_ops h j i l[j] l[i] (by simp) (by simp) e1 e2
    omega
theorem kidsTo_yes {l : List Op7} (h : opsB l = true) {i : Nat} (hi : i < l.length) (hk : ¬ l[i].k = 2) : kidsTo l (i + 1) = kidsTo l i + (kidsL l (l[i].a, l[i].b, 0)).length + (kidsL l (l[i].a, l[i].b, 1)).length := by
  rw [Nat.add_assoc, ← kid_sides h]
  have hno := midTo_not h hi
  have hm : midTo l (i + 1) = midTo l i ++ [(l[i].a, l[i].b)] := by
    unfold midTo
    rw [List.take_succ_eq_append_getElem hi, List.filter_append, List.map_append]
    simp [hk]
  unfold kidsTo
  refine countP_two l fun o ho => ?_
  rw [hm]
  by_cases hc : (o.c, o.d) = (l[i].a, l[i].b)
  · rw [hc]
    constructor
    · cases hkk : (o.k == 1) <;> simp
    · simp [hno]
  · constructor
    · simp only [List.mem_append, List.mem_singleton, hc, or_false, decide_false, Bool.and_false, Bool.or_false]
    · simp [hc]
theorem kidsTo_all {l : List Op7} (h : opsB l = true) : kidsTo l l.length = (lfs l (allO l)).length := by
  rw [lfs_len, (all_perm h).length_eq, ← List.countP_eq_length_filter]
  unfold kidsTo
  refine List.countP_congr fun o ho => ?_
  have hr := List.all_eq_true.1 (opsB_all h).2.2.1 o ho
  unfold refsB at hr
  have hin : (o.c, o.d) ∈ midTo l l.length := by
    unfold midTo
    rw [List.take_length]
    cases hno : noB o.c o.d
    · rw [hno] at hr
      cases hx : nextO l o with
      | none => rw [hx] at hr; simp at hr
      | some p =>
        rw [hx] at hr
        have hpk : p.k = 1 := by simpa using hr
        obtain ⟨hm, ha, hb⟩ := next_mem hx
        exact List.mem_cons_of_mem _ (List.mem_map.2 ⟨p, List.mem_filter.2 ⟨hm, by simp [hpk]⟩, by rw [ha, hb]⟩)
    · unfold noB at hno
      have := of_decide_eq_true hno
      rw [this.1, this.2]
      simp
  simp [hin]
theorem kidsTo_le (L : List Op7) (i : Nat) : kidsTo L i ≤ L.length := List.countP_le_length
end Go.Proofs.YtcnpfhnlniiacaaDoor

namespace Go.Proofs.YtcnpfhnlniiacaaDoor
open Go.RowKit
set_option linter.unusedSimpArgs false
set_option linter.unusedVariables false

/-- A sign in the row of all, with all that was put beside it, on both sides. -/
theorem side_both {l : List Op7} : ∀ (n d : Nat) (x : Int × Int × Int) (p : Op7), Up l d (x.1, x.2.1) → d + n = l.length + 2 → p ∈ sideO l n x →
    ∃ pre post n' d', Up l d' (p.a, p.b) ∧ d' + n' = l.length + 2 ∧ sideO l n x = pre ++ (sideO l n' (p.a, p.b, 0) ++ p :: sideO l n' (p.a, p.b, 1)) ++ post := by
  intro n
  induction n with
  | zero => intro d x p _ _ h; cases h
  | succ n ih =>
    intro d x p hu hd hp
    obtain ⟨o, ho, hpo⟩ := List.mem_flatMap.1 hp
    have huo := up_kid ho hu
    obtain ⟨K1, K2, hK⟩ := List.append_of_mem ho
    have hS : sideO l (n + 1) x = sideK l n K1 ++ (sideO l n (o.a, o.b, 0) ++ o :: sideO l n (o.a, o.b, 1)) ++ sideK l n K2 := by
      rw [sideK_all, hK]
      simp [sideK]
    rcases List.mem_append.1 hpo with h | h
    · obtain ⟨pre, post, n', d', h1, h2, h3⟩ := ih (d + 1) (o.a, o.b, 0) p huo (by omega) h
      exact ⟨sideK l n K1 ++ pre, post ++ (o :: sideO l n (o.a, o.b, 1)) ++ sideK l n K2, n', d', h1, h2, by rw [hS, h3]; simp⟩
    · rcases List.mem_cons.1 h with rfl | h
      · exact ⟨sideK l n K1, sideK l n K2, n, d + 1, huo, by omega, by rw [hS]⟩
      · obtain ⟨pre, post, n', d', h1, h2, h3⟩ := ih (d + 1) (o.a, o.b, 1) p huo (by omega) h
        exact ⟨sideK l n K1 ++ sideO l n (o.a, o.b, 0) ++ o :: pre, post ++ sideK l n K2, n', d', h1, h2, by rw [hS, h3]; simp⟩
theorem all_both {l : List Op7} {p : Op7} (hp : p ∈ allO l) : ∃ pre post n d, Up l d (p.a, p.b) ∧ d + n = l.length + 2 ∧ allO l = pre ++ (sideO l n (p.a, p.b, 0) ++ p :: sideO l n (p.a, p.b, 1)) ++ post :=
  side_both (l.length + 2) 0 (0, 0, 1) p Up.zero (by omega) hp
theorem desc_snoc {l : List Op7} : ∀ (i : Nat) {x : Int × Int × Int} {p q : Op7} {s : Int}, Desc l i x p → q ∈ kidsL l (p.a, p.b, s) → Desc l (i + 1) x q := by
  intro i
  induction i with
  | zero => intro x p q s h hq; exact ⟨p, s, h, hq⟩
  | succ i ih => rintro x p q s ⟨o, t, ho, hd⟩ hq; exact ⟨o, t, ho, ih hd hq⟩
/-- What is under b stands beside it, on a side. -/
theorem path_desc {l : List Op7} (ho : opsB l = true) {j : Nat} {q b : Int × Int} (h : Path l j q b) : ∃ i p s, j = i + 1 ∧ p ∈ l ∧ p.k = 1 ∧ q = (p.a, p.b) ∧ Desc l i (b.1, b.2, s) p := by
  induction h with
  | one h =>
    obtain ⟨_, hk, hm, ha, hb⟩ := putAt_some h
    exact ⟨0, _, _, rfl, hm, hk, by rw [ha, hb], kid_of hm hk⟩
  | step h hp ih =>
    rename_i j x b o
    obtain ⟨_, hk, hm, ha, hb⟩ := putAt_some h
    obtain ⟨i, p, s, rfl, _, _, he, hd⟩ := ih
    have hkid := kid_of hm hk
    have h1 : o.c = p.a := congrArg Prod.fst he
    have h2 : o.d = p.b := congrArg Prod.snd he
    rw [h1, h2] at hkid
    exact ⟨i + 1, o, s, rfl, hm, hk, by rw [ha, hb], desc_snoc i hd hkid⟩
theorem desc_path {l : List Op7} (ho : opsB l = true) : ∀ (i : Nat) {x : Int × Int × Int} {p : Op7}, Desc l i x p → Path l (i + 1) (p.a, p.b) (x.1, x.2.1) := by
  intro i
  induction i with
  | zero =>
    intro x p h
    obtain ⟨h1, h2, rfl⟩ := mem_kids h
    exact Path.one (put_here ho h1 h2)
  | succ i ih =>
    rintro x p ⟨o, s, hk, hd⟩
    have h' := ih hd
    obtain ⟨h1, h2, rfl⟩ := mem_kids hk
    exact h'.trans (Path.one (put_here ho h1 h2))
theorem kid_s {l : List Op7} (h : opsB l = true) {x : Int × Int × Int} {o : Op7} (ho : o ∈ kidsL l x) : x.2.2 = 0 ∨ x.2.2 = 1 := by
  obtain ⟨h1, h2, rfl⟩ := mem_kids ho
  exact put_s h h1 h2
theorem desc_s {l : List Op7} (h : opsB l = true) : ∀ (i : Nat) {x : Int × Int × Int} {p : Op7}, Desc l i x p → x.2.2 = 0 ∨ x.2.2 = 1 := by
  intro i
  cases i with
  | zero => intro x p hd; exact kid_s h hd
  | succ i => rintro x p ⟨o, s, hk, _⟩; exact kid_s h hk
theorem desc_in {l : List Op7} (h : opsB l = true) : ∀ (i : Nat) {x : Int × Int × Int} {p : Op7} (n : Nat), Desc l i x p → i < n → p ∈ sideO l n x := by
  intro i
  induction i with
  | zero =>
    intro x p n hd hn
    obtain ⟨m, rfl⟩ : ∃ m, n = m + 1 := ⟨n - 1, by omega⟩
    exact (side_kid (n := m) hd).1
  | succ i ih =>
    rintro x p n ⟨o, s, hk, hd⟩ hn
    obtain ⟨m, rfl⟩ : ∃ m, n = m + 1 := ⟨n - 1, by omega⟩
    exact (side_kid (n := m) hk).2 s (desc_s h i hd) p (ih m hd (by omega))
theorem desc_deep {l : List Op7} (h : opsB l = true) {i d n : Nat} {x : Int × Int × Int} {p : Op7} (hd : Desc l i x p) (hu : Up l d (x.1, x.2.1)) (hn : d + n = l.length + 2) : p ∈ sideO l n x := by
  refine desc_in h i n hd ?_
  have := up_le h (desc_up i hd hu)
  omega
/-- A sign, or one that is under it. -/
def atOrB (l : List Op7) (p q : Op7) : Bool := (q.a == p.a && q.b == p.b) || undB l q.a q.b p.a p.b
theorem atOr_side {l : List Op7} (h : opsB l = true) {p q : Op7} {n d : Nat} (hu : Up l d (p.a, p.b)) (hn : d + n = l.length + 2) (hq : q ∈ l) (hp : p ∈ l) (hb : atOrB l p q = true) : q ∈ sideO l n (p.a, p.b, 0) ++ p :: sideO l n (p.a, p.b, 1) := by
  unfold atOrB at hb
  rcases Bool.or_eq_true _ _ |>.mp hb with hb | hb
  · have : q.a = p.a ∧ q.b = p.b := by simpa using hb
    rw [once_eq (once_ops h) hq hp this.1 this.2]
    simp
  · obtain ⟨j, hj⟩ := (und_path h (a := (q.a, q.b)) (b := (p.a, p.b))).1 hb
    obtain ⟨i, q', s, _, hm', _, he, hd⟩ := path_desc h hj
    obtain rfl := once_eq (once_ops h) hq hm' (congrArg Prod.fst he) (congrArg Prod.snd he)
    have hin := desc_deep h hd hu hn
    rcases desc_s h i hd with e | e <;> simp only at e <;> subst e
    · exact List.mem_append.2 (.inl hin)
    · exact List.mem_append.2 (.inr (List.mem_cons_of_mem _ hin))
theorem side_atOr {l : List Op7} (h : opsB l = true) {p q : Op7} {n : Nat} (hq : q ∈ sideO l n (p.a, p.b, 0) ++ p :: sideO l n (p.a, p.b, 1)) : atOrB l p q = true := by
  have key : ∀ s, q ∈ sideO l n (p.a, p.b, s) → atOrB l p q = true := fun s hs => by
    obtain ⟨i, hd⟩ := side_desc n hs
    have := (und_path h (a := (q.a, q.b)) (b := (p.a, p.b))).2 ⟨_, desc_path h i hd⟩
    unfold atOrB
    simp only at this
    rw [this, Bool.or_true]
  rcases List.mem_append.1 hq with hq | hq
  · exact key 0 hq
  · rcases List.mem_cons.1 hq with rfl | hq
    · simp [atOrB]
    · exact key 1 hq
theorem nodup_mid {α : Type} {A M B : List α} (h : (A ++ M ++ B).Nodup) {i : Nat} {q : α} (hi : (A ++ M ++ B)[i]? = some q) : q ∈ M ↔ A.length ≤ i ∧ i < A.length + M.length := by
  constructor
  · intro hq
    obtain ⟨j, hj⟩ := List.mem_iff_getElem?.1 hq
    have hjl := (List.getElem?_eq_some_iff.1 hj).1
    have h2 : (A ++ M ++ B)[A.length + j]? = some q := by
      rw [List.append_assoc, List.getElem?_append_right (by omega), List.getElem?_append_left (by omega)]
      simpa using hj
    have := (List.getElem?_inj (List.getElem?_eq_some_iff.1 hi).1 h).1 (hi.trans h2.symm)
    omega
  · rintro ⟨h1, h2⟩
    rw [List.append_assoc, List.getElem?_append_right h1, List.getElem?_append_left (by omega)] at hi
    exact List.mem_of_getElem? hi
/-- The signs that are one, or under it, stand together. -/
theorem whole_all {l : List Op7} (h : opsB l = true) {p : Op7} (hp : p ∈ allO l) : ∃ lo hi, lo < hi ∧ hi ≤ (allO l).length ∧ ∀ (i : Nat) (q : Op7), (allO l)[i]? = some q → (atOrB l p q = true ↔ lo ≤ i ∧ i < hi) := by
  obtain ⟨pre, post, n, d, hu, hn, he⟩ := all_both hp
  refine ⟨pre.length, pre.length + (sideO l n (p.a, p.b, 0) ++ p :: sideO l n (p.a, p.b, 1)).length, by simp; omega, by rw [he]; simp, fun i q hq => ?_⟩
  have hnd := nodup_all h
  have hq' := hq
  rw [he] at hq' hnd
  rw [← nodup_mid hnd hq']
  exact ⟨fun hb => atOr_side h hu hn (side_put _ (List.mem_of_getElem? hq)).1 (side_put _ hp).1 hb, fun hm => side_atOr h hm⟩
/-- What was put on a side of a sign stands on that side of it. -/
theorem side_all {l : List Op7} (h : opsB l = true) {o p q : Op7} (ho : o ∈ l) (hk : o.k = 1) (hp : p ∈ l) (hpk : p.k = 1) (hpa : p.a = o.c) (hpb : p.b = o.d) {i k : Nat} (hi : (allO l)[i]? = some q) (hkk : (allO l)[k]? = some p) (hb : atOrB l o q = true) : (k < i) ↔ o.s = 1 := by
  obtain ⟨pre, post, n, d, hu, hn, he⟩ := all_both (all_mem h hp hpk)
  have hq : q ∈ l := (side_put _ (List.mem_of_getElem? hi)).1
  have hdesc : ∃ j, Desc l j (p.a, p.b, o.s) q := by
    have hkid : o ∈ kidsL l (p.a, p.b, o.s) := by rw [hpa, hpb]; exact kid_of ho hk
    unfold atOrB at hb
    rcases Bool.or_eq_true _ _ |>.mp hb with hb | hb
    · have : q.a = o.a ∧ q.b = o.b := by simpa using hb
      rw [once_eq (once_ops h) hq ho this.1 this.2]
      exact ⟨0, hkid⟩
    · obtain ⟨j, hj⟩ := (und_path h (a := (q.a, q.b)) (b := (o.a, o.b))).1 hb
      obtain ⟨i, q', s, _, hm', _, he', hd⟩ := path_desc h hj
      obtain rfl := once_eq (once_ops h) hq hm' (congrArg Prod.fst he') (congrArg Prod.snd he')
      exact ⟨i + 1, o, s, hkid, hd⟩
  obtain ⟨j, hj⟩ := hdesc
  have hin := desc_deep h hj hu hn
  have hnd := nodup_all h
  rw [he] at hi hkk hnd
  have hkp : k = pre.length + (sideO l n (p.a, p.b, 0)).length := by
    have h2 : (pre ++ (sideO l n (p.a, p.b, 0) ++ p :: sideO l n (p.a, p.b, 1)) ++ post)[pre.length + (sideO l n (p.a, p.b, 0)).length]? = some p := by
      rw [List.append_assoc, List.getElem?_append_right (by omega), List.getElem?_append_left (by simp), List.getElem?_append_right (by omega)]
      simp
    exact (List.getElem?_inj (List.getElem?_eq_some_iff.1 hkk).1 hnd).1 (hkk.trans h2.symm)
  rcases desc_s h j hj with e | e <;> simp only at e <;> rw [e] at hin
  · rw [show pre ++ (sideO l n (p.a, p.b, 0) ++ p :: sideO l n (p.a, p.b, 1)) ++ post = pre ++ sideO l n (p.a, p.b, 0) ++ (p :: sideO l n (p.a, p.b, 1) ++ post) by simp] at hi hnd
    have := (nodup_mid hnd hi).1 hin
    rw [e]
    constructor
    · intro; omega
    · intro h; omega
  · rw [show pre ++ (sideO l n (p.a, p.b, 0) ++ p :: sideO l n (p.a, p.b, 1)) ++ post = (pre ++ sideO l n (p.a, p.b, 0) ++ [p]) ++ sideO l n (p.a, p.b, 1) ++ post by simp] at hi hnd
    have := (nodup_mid hnd hi).1 hin
    rw [e]
    simp only [List.length_append, List.length_cons, List.length_nil] at this
    constructor
    · intro; rfl
    · intro; omega
end Go.Proofs.YtcnpfhnlniiacaaDoor

namespace Go.Proofs.YtcnpfhnlniiacaaDoor
open Go.RowKit
set_option linter.unusedSimpArgs false
set_option linter.unusedVariables false

theorem lfs_get {l A : List Op7} {k : Nat} (hk : k < (lfs l A).length) : ∃ p, A[k]? = some p ∧ (lfs l A)[k] = ⟨p.a, p.b, p.g, goneB l (p.a, p.b)⟩ := by
  unfold lfs at *
  rw [List.length_map] at hk
  exact ⟨A[k], by simp [hk], by simp⟩
theorem atOr_iff (l : List Op7) (p q : Op7) : atOrB l p q = true ↔ (q.a = p.a ∧ q.b = p.b) ∨ undB l q.a q.b p.a p.b = true := by
  unfold atOrB
  simp only [Bool.or_eq_true, Bool.and_eq_true, beq_iff_eq]
theorem whole_leaves {l : List Op7} (h : opsB l = true) {j : Nat} (hj : j < (lfs l (allO l)).length) : ∃ lo hi, lo < hi ∧ hi ≤ (lfs l (allO l)).length ∧ ∀ i (hi' : i < (lfs l (allO l)).length), (((lfs l (allO l))[i].a = (lfs l (allO l))[j].a ∧ (lfs l (allO l))[i].b = (lfs l (allO l))[j].b) ∨ undB l (lfs l (allO l))[i].a (lfs l (allO l))[i].b (lfs l (allO l))[j].a (lfs l (allO l))[j].b = true) ↔ (lo ≤ i ∧ i < hi) := by
  obtain ⟨p, hp, ep⟩ := lfs_get hj
  obtain ⟨lo, hi, h1, h2, h3⟩ := whole_all h (List.mem_of_getElem? hp)
  refine ⟨lo, hi, h1, by rw [lfs_len]; exact h2, fun i hi' => ?_⟩
  obtain ⟨q, hq, eq⟩ := lfs_get hi'
  rw [ep, eq, ← h3 i q hq, atOr_iff]
theorem side_leaves {l : List Op7} (h : opsB l = true) {o : Op7} (ho : o ∈ l) (hk : o.k = 1) (h0 : ¬ (o.c = 0 ∧ o.d = 0)) : ∃ t : Nat, t < (lfs l (allO l)).length ∧ atI (lfs l (allO l)) o.c o.d = (t : Nat) ∧ ∀ i (hi : i < (lfs l (allO l)).length), (((lfs l (allO l))[i].a = o.a ∧ (lfs l (allO l))[i].b = o.b) ∨ undB l (lfs l (allO l))[i].a (lfs l (allO l))[i].b o.a o.b = true) → (t < i ↔ o.s = 1) := by
  obtain ⟨d, hd⟩ := put_up h ho
  rcases up_inv hd with ⟨_, hx⟩ | ⟨e, p, _, hm, hpk, _, hx⟩
  · exact absurd ⟨congrArg Prod.fst hx, congrArg Prod.snd hx⟩ h0
  · have ha : o.c = p.a := congrArg Prod.fst hx
    have hb : o.d = p.b := congrArg Prod.snd hx
    obtain ⟨t, ht, h1, h2⟩ := put_leaf h hm hpk
    obtain ⟨p', hp', ep⟩ := lfs_get ht
    have e1 : p' = p := by
      rw [ep] at h2
      exact once_eq (once_ops h) (side_put _ (List.mem_of_getElem? hp')).1 hm (congrArg Lf.a h2) (congrArg Lf.b h2)
    subst e1
    refine ⟨t, ht, by rw [ha, hb]; exact h1, fun i hi hor => ?_⟩
    obtain ⟨q, hq, eq⟩ := lfs_get hi
    rw [eq] at hor
    exact side_all h ho hk hm hpk ha.symm hb.symm hq hp' ((atOr_iff l o q).2 hor)
/-- The first, the last, and how many of the first k stand from lo to hi. -/
def fstI (lo : Nat) (k : Nat) : Int := if k ≤ lo then -1 else lo
def lstI (lo hi : Nat) (k : Nat) : Int := if k ≤ lo then -1 else (min k hi : Nat) - 1
def numI (lo hi : Nat) (k : Nat) : Int := (min k hi - min k lo : Nat)
theorem fstI_out {lo hi k : Nat} (h : ¬ (lo ≤ k ∧ k < hi)) (hl : lo < hi) : fstI lo (k + 1) = fstI lo k ∧ lstI lo hi (k + 1) = lstI lo hi k ∧ numI lo hi (k + 1) = numI lo hi k := by
  unfold fstI lstI numI
  refine ⟨?_, ?_, ?_⟩
  · split <;> split <;> omega
  · split <;> split <;> omega
  · omega
theorem fstI_in {lo hi k : Nat} (h : lo ≤ k ∧ k < hi) : fstI lo (k + 1) = lo ∧ lstI lo hi (k + 1) = k ∧ numI lo hi (k + 1) = numI lo hi k + 1 ∧ ((k = lo ∧ fstI lo k = -1) ∨ fstI lo k = lo) := by
  unfold fstI lstI numI
  refine ⟨?_, ?_, ?_, ?_⟩
  · split <;> omega
  · split <;> omega
  · omega
  · by_cases e : k = lo
    · exact .inl ⟨e, by rw [if_pos (by omega)]⟩
    · exact .inr (by rw [if_neg (by omega)])
theorem fstI_end {lo hi k : Nat} (h : lo < hi) (hk : hi ≤ k) : fstI lo k = lo ∧ lstI lo hi k = (hi : Int) - 1 ∧ numI lo hi k = (hi : Int) - lo := by
  unfold fstI lstI numI
  refine ⟨?_, ?_, ?_⟩
  · split <;> omega
  · split <;> omega
  · omega
theorem numI_le (lo hi k : Nat) : 0 ≤ numI lo hi k ∧ numI lo hi k ≤ k := by unfold numI; omega
/-- The cells of a leaf. -/
theorem lf_at {w : World} {base g c : Nat} {F : List Lf} (h : w.ownsRow base 41 4 (.slice (some ⟨g, 0, none⟩) F.length c) F.length (lfCells F)) {k : Nat} {y : Lf} (hk : F[k]? = some y) : w.cell? ⟨g, k * 4, none⟩ = some (.int .i64 y.a) ∧ w.cell? ⟨g, k * 4 + 1, none⟩ = some (.int .i64 y.b) ∧ w.cell? ⟨g, k * 4 + 2, none⟩ = some (.int .i64 y.g) ∧ w.cell? ⟨g, k * 4 + 3, none⟩ = some (.bool y.z) := by
  have hl := (List.getElem?_eq_some_iff.1 hk).1
  obtain ⟨h0, h1, h2, h3⟩ := lfCells_at F k y hk
  exact ⟨(World.ownsRow.cellAt h _ (by omega)).trans h0, (World.ownsRow.cellAt h _ (by omega)).trans h1, (World.ownsRow.cellAt h _ (by omega)).trans h2, (World.ownsRow.cellAt h _ (by omega)).trans h3⟩
end Go.Proofs.YtcnpfhnlniiacaaDoor

namespace Go.Proofs.YtcnpfhnlniiacaaDoor
open Go.RowKit
set_option linter.unusedSimpArgs false
set_option linter.unusedVariables false
attribute [local go_sem ↓] Go.wp_at_zero Go.wp_at_succ

set_option maxRecDepth 100000 in
set_option maxHeartbeats 1000000 in
theorem leafOf_any (l : List Op7) (hops : opsB l = true) (hn : l.length ≤ 1048576) (b1 b2 b3 base : Nat) (o : Op7) (hok : okO o = true) (w : World) (hT : TreeAt w b1 b2 b3 base l) :
    Calls Tryd.prog 112 #[.agg #[.map (some b1), .map (some b2), .map (some b3)], .agg #[.int .i64 o.a, .int .i64 o.b, .int .i64 o.c, .int .i64 o.d, .int .i64 o.s, .int .i64 o.g]] w fun e w' => e = .returned (.agg #[.int .i64 o.a, .int .i64 o.b, .int .i64 o.g, .bool (goneB l (o.a, o.b))]) ∧ Below w.heap.size w w' := by
  have HT := hideIt hT
  have hnum := okO_num hok
  obtain ⟨kl, hkl⟩ := key_id (r := o.a) (m := o.b) (wf_small (by omega)) (wf_small (by omega))
  have HKL := hideIt hkl
  have HG : Hid (goneB l (o.a, o.b) = decide (0 < takesN l (o.a, o.b))) := gone_take (opsParts hops).1 _
  have HV : Hid ((takeF l (o.a, o.b)).getD (.int .i64 0) = .int .i64 (takesN l (o.a, o.b) : Nat)) := takeF_get l _
  have hle := takesN_le l (o.a, o.b)
  generalize takesN l (o.a, o.b) = nn at *
  clear hT hkl
  go_enter Tryd.func112, Tryd.ntmps112
  go_wp2_with fail
  have HBW : Hid (Below w.heap.size w (((w.alloc (.cells #[.map (some b1), .map (some b2), .map (some b3)] 75)).alloc (.cells #[.int .i64 o.a, .int .i64 o.b, .int .i64 o.c, .int .i64 o.d, .int .i64 o.s, .int .i64 o.g] 87)).alloc (.cells #[.int .i64 0, .int .i64 0, .int .i64 0, .bool false] 41))) := (((Below.refl _ _).alloc (Nat.le_refl _) _).alloc (by simp) _).alloc (by simp; omega) _
  have L0 : (Instr.lookup 73 (.map (some b3)) (.agg #[.int .i64 o.a, .int .i64 o.b]) false).run Tryd.prog (((w.alloc (.cells #[.map (some b1), .map (some b2), .map (some b3)] 75)).alloc (.cells #[.int .i64 o.a, .int .i64 o.b, .int .i64 o.c, .int .i64 o.d, .int .i64 o.s, .int .i64 o.g] 87)).alloc (.cells #[.int .i64 0, .int .i64 0, .int .i64 0, .bool false] 41)).drew = .ok (.int .i64 nn) (((w.alloc (.cells #[.map (some b1), .map (some b2), .map (some b3)] 75)).alloc (.cells #[.int .i64 o.a, .int .i64 o.b, .int .i64 o.c, .int .i64 o.d, .int .i64 o.s, .int .i64 o.g] 87)).alloc (.cells #[.int .i64 0, .int .i64 0, .int .i64 0, .bool false] 41)).drew := by
    have hM : MapFn Tryd.prog 25 (((w.alloc (.cells #[.map (some b1), .map (some b2), .map (some b3)] 75)).alloc (.cells #[.int .i64 o.a, .int .i64 o.b, .int .i64 o.c, .int .i64 o.d, .int .i64 o.s, .int .i64 o.g] 87)).alloc (.cells #[.int .i64 0, .int .i64 0, .int .i64 0, .bool false] 41)).drew b3 encId (takeF l) := HT.out.2.2.below HBW.out.drew HT.out.2.2.lt
    have h := hM.look false keyedId Tryd.underlying73 (zeroInt _) encId_inj (o.a, o.b) HKL.out
    rw [HV.out] at h
    exact h
  have n0 : (0 : Int) ≤ (nn : Int) := by omega
  have n1 : (nn : Int) ≤ 1048576 := by omega
  go_region_held3 (fun w' => w'.cell? ⟨w.heap.size, 2, none⟩ = some (.map (some b3)) ∧ w'.cell? ⟨w.heap.size + 1, 0, none⟩ = some (.int .i64 o.a) ∧ w'.cell? ⟨w.heap.size + 1, 1, none⟩ = some (.int .i64 o.b) ∧ w'.cell? ⟨w.heap.size + 1, 5, none⟩ = some (.int .i64 o.g))
    (first | exact ⟨by simp [go_sem], by simp [go_sem], by simp [go_sem], by simp [go_sem]⟩)
    (fail)
  rename_i hS
  clear hS
  go_wp2
  have hG : decide (0 < nn) = goneB l (o.a, o.b) := HG.out.symm
  exact bodyPost_ret (v := .agg #[.int .i64 o.a, .int .i64 o.b, .int .i64 o.g, .bool (goneB l (o.a, o.b))]) (by simp [results, Tryd.results112, go_sem, hG]) rfl ⟨rfl, by have := HBW.out; go_grown⟩

/-- The look-up without 'ok', at the operation, inside a fence. -/
theorem wpListIn_look0 {α : Type} {P : Program} {k t e : TypeId} {w : World} {b : Nat} {enc : α → Value} {f : α → Option Value} {F : Fence} {nF : Nat} {ops : Array Oper} {rest : List Oper} {o : Oper} {A : Act} {Q : Exit → Act → World → Prop}
    (hg : o.guard = none) (m x : Operand) (hop : o.op = Op.lookup t m x false) (K : Go.Maps.Keyed P k) (ht : P.underlying t = some (.map k e)) (z : Value) (hz : (zeroValue e).run P w = .ok z w)
    (hinj : ∀ a a', enc a = enc a' → a = a') (hm : A.eval m = .map (some b)) (hown : MapFn P k w b enc f) (a : α) (hx : A.eval x = enc a) (kl : Lit) (hkey : keyOf P k (enc a) = some kl) (v : Value) (hv : (f a).getD z = v)
    (hK : wpListIn F nF P ops Q rest (A.put o.dst v) w) :
    wpListIn F nF P ops Q (o :: rest) A w := by
  refine wpListIn_plain hg fun K' hK' => ?_
  have hrun := hown.look false K ht hz hinj a hkey
  rw [hv] at hrun
  unfold Oper.wpIn
  refine ⟨by simp [Oper.about, hop], ?_⟩
  rw [Oper.semAt_plain F _ _ (by rw [hop]; intro c hc'; cases hc')]
  simp [execOp, hop, hm, hx, hrun, Result.andThen]
  exact hK' _ _ hK
end Go.Proofs.YtcnpfhnlniiacaaDoor

namespace Go.Proofs.YtcnpfhnlniiacaaDoor
open Go.RowKit Go.Shelf
set_option linter.unusedSimpArgs false
set_option linter.unusedVariables false
attribute [local go_sem] Oper.semAt_some

theorem room_none {F : Fence} (hd : F.depth = none) (k : Nat) : F.room k := fun d h => by rw [hd] at h; cases h
theorem round_any {F : Fence} (hd : F.depth = none) {m m' : Nat} {P : Program} {l : Nat} {f : FuncId} {tmps : Array Value} {assign body : Code} {w : World} {R : Ending → World → Prop}
    (h : RoundIn F m P l f tmps assign body w R) : RoundIn F m' P l f tmps assign body w R := ⟨h.1, fun c cs _ => h.2 c cs (room_none hd _)⟩
theorem yield_any {F : Fence} (hd : F.depth = none) {m : Nat} (m' : Nat) {P : Program} {l : Nat} {args : Array Value} {W : World} {R : Ending → World → Prop} (h : YieldAt F m P l args W R) : YieldAt F m' P l args W R := by
  obtain ⟨fn, tmps, assign, body, hy, hR⟩ := h
  exact ⟨fn, tmps, assign, body, hy, round_any hd hR⟩

/-- What a round keeps: all that lay below n0, and the walk's own blocks. -/
def KpT (n0 : Nat) (W W' : World) : Prop := Below n0 W W' ∧ ∀ (b : Nat) (cur : Array Value) (T : TypeId) (fr : Nat × Nat), W.heap[b]? = some (.cells cur T fr) → (T = 75 ∨ T = 83 ∨ T = 87) → W'.heap[b]? = W.heap[b]?
theorem KpT.refl (n0 : Nat) (W : World) : KpT n0 W W := ⟨Below.refl _ _, fun _ _ _ _ _ _ => rfl⟩
theorem KpT.trans {n0 : Nat} {A B C : World} (h : KpT n0 A B) (k : KpT n0 B C) : KpT n0 A C :=
  ⟨h.1.trans k.1, fun b cur T fr hb hT => by have e := h.2 b cur T fr hb hT; exact (k.2 b cur T fr (e.trans hb) hT).trans e⟩
theorem KpT.of_below {n0 : Nat} {W W' : World} (hn : n0 ≤ W.heap.size) (h : Below W.heap.size W W') : KpT n0 W W' :=
  ⟨h.mono hn, fun b cur T fr hb _ => h.block b (Array.getElem?_eq_some_iff.1 hb).1⟩
theorem KpT.cell {n0 : Nat} {W W' : World} (h : KpT n0 W W') {b : Nat} {cur : Array Value} {T : TypeId} {fr : Nat × Nat} (hb : W.heap[b]? = some (.cells cur T fr)) (hT : T = 75 ∨ T = 83 ∨ T = 87) : W'.heap[b]? = some (.cells cur T fr) :=
  (h.2 b cur T fr hb hT).trans hb
/-- How a part of the walk ends: all of xs have come; or a round has said 'no more'. -/
def EPost (n0 : Nat) (J Jx : List Lf → World → Prop) (pre xs : List Lf) (W : World) (e : Ending) (W' : World) : Prop :=
  (e = .returned (.bool true) ∧ J (pre ++ xs) W' ∧ KpT n0 W W') ∨ (e = .returned (.bool false) ∧ ∃ q, Jx q W')
theorem abides_below {B : Nat} {J : List Lf → World → Prop} (hJ : AbidesFrom B J) {pre : List Lf} {W W' : World} (h : J pre W) (hb : Below W.heap.size W W') : J pre W' :=
  hJ pre W W' none h ⟨hb.os, hb.tape, hb.output, hb.size, fun i hi _ => hb.block i hi⟩ (fun r e => by cases e)
theorem blk_cell {W : World} {b : Nat} {cur : Array Value} {T : TypeId} (h : W.heap[b]? = some (.cells cur T (0, 0))) (j : Nat) : W.cell? ⟨b, j, none⟩ = cur[j]? := by simp [World.cell?, h]

set_option maxRecDepth 100000 in
set_option maxHeartbeats 4000000 in
theorem eachOf_in (l : List Op7) (hops : opsB l = true) (hn : l.length ≤ 1048576) (w0 : World) (b1 b2 b3 base : Nat) (hT : TreeAt w0 b1 b2 b3 base l) (lp B N : Nat) (J Jx : List Lf → World → Prop) (hJ : AbidesFrom B J)
    (hY : ∀ m pre (x : Lf) W, J pre W → pre.length < N → YieldAt Fence.wide m Tryd.prog lp #[.agg #[.int .i64 x.a, .int .i64 x.b, .int .i64 x.g, .bool x.z]] W fun e W' =>
      (e = .returned (.bool true) ∧ J (pre ++ [x]) W' ∧ KpT w0.heap.size W W') ∨ (e = .returned (.bool false) ∧ Jx (pre ++ [x]) W'))
    (o : Op7) (hok : okO o = true) (X0 X1 : List Lf)
    (ih0 : ∀ k pre W, Below w0.heap.size w0 W → J pre W → pre.length + X0.length ≤ N → CallsIn Fence.wide k Tryd.prog 85 #[.agg #[.map (some b1), .map (some b2), .map (some b3)], .agg #[.int .i64 o.a, .int .i64 o.b, .int .i64 0], .func (.yield lp) #[] #[]] W (EPost w0.heap.size J Jx pre X0 W))
    (ih1 : ∀ k pre W, Below w0.heap.size w0 W → J pre W → pre.length + X1.length ≤ N → CallsIn Fence.wide k Tryd.prog 85 #[.agg #[.map (some b1), .map (some b2), .map (some b3)], .agg #[.int .i64 o.a, .int .i64 o.b, .int .i64 1], .func (.yield lp) #[] #[]] W (EPost w0.heap.size J Jx pre X1 W))
    (k : Nat) (pre : List Lf) (W : World) (hW : Below w0.heap.size w0 W) (h0 : J pre W) (hN : pre.length + (X0.length + 1 + X1.length) ≤ N) :
    CallsIn Fence.wide k Tryd.prog 101 #[.agg #[.map (some b1), .map (some b2), .map (some b3)], .agg #[.int .i64 o.a, .int .i64 o.b, .int .i64 o.c, .int .i64 o.d, .int .i64 o.s, .int .i64 o.g], .func (.yield lp) #[] #[]] W (EPost w0.heap.size J Jx pre (X0 ++ ⟨o.a, o.b, o.g, goneB l (o.a, o.b)⟩ :: X1) W) := by
  refine callsIn_of_wp Tryd.func101 rfl trivial ?_ rfl
  simp only [Tryd.ntmps101, List.size_toArray, List.length_cons, List.length_nil, Nat.reduceAdd, Nat.reduceSub, Array.replicate_succ, Array.replicate_zero, List.push_toArray, List.append_toArray, List.nil_append, List.cons_append]
  have hn0 : w0.heap.size ≤ W.heap.size := hW.size
  have HBa : Hid (Below W.heap.size W ((W.alloc (.cells #[.map (some b1), .map (some b2), .map (some b3)] 75)).alloc (.cells #[.int .i64 o.a, .int .i64 o.b, .int .i64 o.c, .int .i64 o.d, .int .i64 o.s, .int .i64 o.g] 87))) := ((Below.refl _ _).alloc (Nat.le_refl _) _).alloc (by simp) _
  have HKa : Hid (KpT w0.heap.size W ((W.alloc (.cells #[.map (some b1), .map (some b2), .map (some b3)] 75)).alloc (.cells #[.int .i64 o.a, .int .i64 o.b, .int .i64 o.c, .int .i64 o.d, .int .i64 o.s, .int .i64 o.g] 87))) := KpT.of_below hn0 HBa.out
  have HWa : Hid (Below w0.heap.size w0 ((W.alloc (.cells #[.map (some b1), .map (some b2), .map (some b3)] 75)).alloc (.cells #[.int .i64 o.a, .int .i64 o.b, .int .i64 o.c, .int .i64 o.d, .int .i64 o.s, .int .i64 o.g] 87))) := hW.trans HKa.out.1
  have HTa : Hid (((W.alloc (.cells #[.map (some b1), .map (some b2), .map (some b3)] 75)).alloc (.cells #[.int .i64 o.a, .int .i64 o.b, .int .i64 o.c, .int .i64 o.d, .int .i64 o.s, .int .i64 o.g] 87)).heap[W.heap.size]? = some (.cells #[.map (some b1), .map (some b2), .map (some b3)] 75 (0, 0))) := (Below.heap_alloc _ _ _ (by simp)).trans (World.alloc_heap_new _ _)
  have HSa : Hid (((W.alloc (.cells #[.map (some b1), .map (some b2), .map (some b3)] 75)).alloc (.cells #[.int .i64 o.a, .int .i64 o.b, .int .i64 o.c, .int .i64 o.d, .int .i64 o.s, .int .i64 o.g] 87)).heap[W.heap.size + 1]? = some (.cells #[.int .i64 o.a, .int .i64 o.b, .int .i64 o.c, .int .i64 o.d, .int .i64 o.s, .int .i64 o.g] 87 (0, 0))) := by
    have h := World.alloc_heap_new (W.alloc (.cells #[.map (some b1), .map (some b2), .map (some b3)] 75)) (.cells #[.int .i64 o.a, .int .i64 o.b, .int .i64 o.c, .int .i64 o.d, .int .i64 o.s, .int .i64 o.g] 87)
    rw [World.size_alloc] at h
    exact h
  have IH0 := hideIt ih0
  have IH1 := hideIt ih1
  have HY := hideIt hY
  have HJ := hideIt hJ
  have HT := hideIt hT
  have HJa := hideIt (abides_below hJ h0 HBa.out)
  clear ih0 ih1 hY hJ hT h0 hW
  gi_wp2
  refine ⟨trivial, (fun h => by cases h), ?_⟩
  refine (IH0.out _ pre _ HWa.out HJa.out (by omega)).mono ?_
  rintro e W1 (⟨rfl, hJ1, hK1⟩ | ⟨rfl, q, hq⟩)
  · have t1 := hK1.cell HTa.out (.inl rfl)
    have s1 := hK1.cell HSa.out (.inr (.inr rfl))
    have HT1 := hideIt t1
    have HS1 := hideIt s1
    have HJ1 := hideIt hJ1
    have HK1 := hideIt (HKa.out.trans hK1)
    have HW1 := hideIt (HWa.out.trans hK1.1)
    have ct0 := (blk_cell t1 0).trans rfl
    have ct1 := (blk_cell t1 1).trans rfl
    have ct2 := (blk_cell t1 2).trans rfl
    have cs0 := (blk_cell s1 0).trans rfl
    have cs1 := (blk_cell s1 1).trans rfl
    have cs2 := (blk_cell s1 2).trans rfl
    have cs3 := (blk_cell s1 3).trans rfl
    have cs4 := (blk_cell s1 4).trans rfl
    have cs5 := (blk_cell s1 5).trans rfl
    clear t1 s1 hJ1 hK1 HJa HKa HWa HTa HSa HBa
    gi_wp2
    refine ⟨trivial, (fun h => by cases h), ?_⟩
    refine (callsIn_wide.2 (leafOf_any l hops hn b1 b2 b3 base o hok W1 (HT.out.below HW1.out))).mono ?_
    rintro e W2 ⟨rfl, hb2⟩
    have HK2 := hideIt (KpT.of_below (n0 := w0.heap.size) HW1.out.size hb2)
    have HJ2 := hideIt (abides_below HJ.out HJ1.out hb2)
    clear hb2 ct0 ct1 ct2 cs0 cs1 cs2 cs3 cs4 cs5 HJ1
    obtain ⟨fn, tmps, assign, body, hy, hR⟩ := HY.out (k - 1) (pre ++ X0) ⟨o.a, o.b, o.g, goneB l (o.a, o.b)⟩ W2 HJ2.out (by simp; omega)
    dsimp only at hy
    have HR := hideIt hR
    clear hR
    gi_wp2
    refine ⟨(fun h => by cases h), ?_⟩
    refine HR.out.mono ?_
    rintro e W3 (⟨rfl, hJ3, hK3⟩ | ⟨rfl, hx3⟩)
    · have hk13 := HK2.out.trans hK3
      have t3 := hk13.cell HT1.out (.inl rfl)
      have s3 := hk13.cell HS1.out (.inr (.inr rfl))
      have HJ3 := hideIt hJ3
      have HK3 := hideIt (HK1.out.trans hk13)
      have HW3 := hideIt (HW1.out.trans hk13.1)
      have ct0 := (blk_cell t3 0).trans rfl
      have ct1 := (blk_cell t3 1).trans rfl
      have ct2 := (blk_cell t3 2).trans rfl
      have cs0 := (blk_cell s3 0).trans rfl
      have cs1 := (blk_cell s3 1).trans rfl
      have cs2 := (blk_cell s3 2).trans rfl
      have cs3 := (blk_cell s3 3).trans rfl
      have cs4 := (blk_cell s3 4).trans rfl
      have cs5 := (blk_cell s3 5).trans rfl
      clear hk13 t3 s3 hJ3 hK3 HR hy HJ2 HK2 HT1 HS1 HK1 HW1
      gi_wp2
      refine ⟨trivial, (fun h => by cases h), ?_⟩
      refine (IH1.out _ (pre ++ X0 ++ [⟨o.a, o.b, o.g, goneB l (o.a, o.b)⟩]) _ HW3.out HJ3.out (by simp; omega)).mono ?_
      rintro e W4 (⟨rfl, hJ4, hK4⟩ | ⟨rfl, q, hq⟩)
      · gi_wp2
        go_ret
        exact .inl ⟨rfl, by simpa [List.append_assoc] using hJ4, HK3.out.trans hK4⟩
      · gi_wp2
        go_ret
        exact .inr ⟨rfl, q, hq⟩
    · gi_wp2
      refine ⟨trivial, ?_⟩
      gi_wp2
      go_ret
      exact .inr ⟨rfl, _, hx3⟩
  · gi_wp2
    refine ⟨trivial, ?_⟩
    gi_wp2
    refine ⟨fun _ h => (by cases h), ?_⟩
    gi_wp2
    refine ⟨trivial, ?_⟩
    gi_wp2
    go_ret
    exact .inr ⟨rfl, q, hq⟩

theorem up_num {l : List Op7} (hok : l.all okO = true) {d : Nat} {x : Int × Int} (h : Up l d x) : (0 ≤ x.1 ∧ x.1 ≤ 3) ∧ (0 ≤ x.2 ∧ x.2 ≤ 12) := by
  rcases up_inv h with ⟨_, rfl⟩ | ⟨e, o, _, hm, _, _, rfl⟩
  · simp
  · have := okO_num (List.all_eq_true.1 hok o hm)
    simp only
    omega
theorem lfs_app (l A B : List Op7) : lfs l (A ++ B) = lfs l A ++ lfs l B := by simp [lfs]
theorem lfs_step {l : List Op7} {n : Nat} {K : List Op7} {k : Nat} (h : k < K.length) : lfs l (sideK l n (K.take (k + 1))) = lfs l (sideK l n (K.take k)) ++ (lfs l (sideO l n (K[k].a, K[k].b, 0)) ++ ⟨K[k].a, K[k].b, K[k].g, goneB l (K[k].a, K[k].b)⟩ :: lfs l (sideO l n (K[k].a, K[k].b, 1))) := by
  rw [sideK_step h]
  simp [lfs]

set_option maxRecDepth 100000 in
set_option maxHeartbeats 4000000 in
theorem eachKid_in (l : List Op7) (hops : opsB l = true) (hn : l.length ≤ 1048576) (w0 : World) (b1 b2 b3 base : Nat) (hT : TreeAt w0 b1 b2 b3 base l) (lp B N : Nat) (J Jx : List Lf → World → Prop) (hJ : AbidesFrom B J)
    (hY : ∀ m pre (x : Lf) W, J pre W → pre.length < N → YieldAt Fence.wide m Tryd.prog lp #[.agg #[.int .i64 x.a, .int .i64 x.b, .int .i64 x.g, .bool x.z]] W fun e W' =>
      (e = .returned (.bool true) ∧ J (pre ++ [x]) W' ∧ KpT w0.heap.size W W') ∨ (e = .returned (.bool false) ∧ Jx (pre ++ [x]) W')) :
    ∀ (n d : Nat) (r m s : Int), Up l d (r, m) → (s = 0 ∨ s = 1) → d + n = l.length + 2 → ∀ k pre W, Below w0.heap.size w0 W → J pre W → pre.length + (lfs l (sideO l n (r, m, s))).length ≤ N →
      CallsIn Fence.wide k Tryd.prog 85 #[.agg #[.map (some b1), .map (some b2), .map (some b3)], .agg #[.int .i64 r, .int .i64 m, .int .i64 s], .func (.yield lp) #[] #[]] W (EPost w0.heap.size J Jx pre (lfs l (sideO l n (r, m, s))) W) := by
  intro n
  induction n with
  | zero =>
    intro d r m s hu _ hd
    have := up_le hops hu
    omega
  | succ n ih =>
    intro d r m s hu hs01 hd k pre W hW h0 hN
    have hnum := up_num (opsParts hops).1 hu
    simp only at hnum
    obtain ⟨ks, hks⟩ := key_spot (r := r) (m := m) (s := s) (wf_small (by omega)) (wf_small (by omega)) (wf_small (by omega))
    have OF : Hid (∀ o ∈ kidsL l (r, m, s), ∀ k pre W, Below w0.heap.size w0 W → J pre W → pre.length + ((lfs l (sideO l n (o.a, o.b, 0))).length + 1 + (lfs l (sideO l n (o.a, o.b, 1))).length) ≤ N →
        CallsIn Fence.wide k Tryd.prog 101 #[.agg #[.map (some b1), .map (some b2), .map (some b3)], .agg #[.int .i64 o.a, .int .i64 o.b, .int .i64 o.c, .int .i64 o.d, .int .i64 o.s, .int .i64 o.g], .func (.yield lp) #[] #[]] W (EPost w0.heap.size J Jx pre (lfs l (sideO l n (o.a, o.b, 0)) ++ ⟨o.a, o.b, o.g, goneB l (o.a, o.b)⟩ :: lfs l (sideO l n (o.a, o.b, 1))) W)) :=
      fun o ho k pre W hW h0 hN => eachOf_in l hops hn w0 b1 b2 b3 base hT lp B N J Jx hJ hY o (List.all_eq_true.1 (opsParts hops).1 o (mem_kids ho).1) _ _
        (fun k pre W hW h0 hN => ih (d + 1) o.a o.b 0 (up_kid ho hu) (.inl rfl) (by omega) k pre W hW h0 hN)
        (fun k pre W hW h0 hN => ih (d + 1) o.a o.b 1 (up_kid ho hu) (.inr rfl) (by omega) k pre W hW h0 hN) k pre W hW h0 hN
    rw [sideK_all] at hN ⊢
    obtain ⟨f, hf⟩ := hT.2.1
    have hrow := hf.at (r, m, s)
    have hM : Hid (MapFn Tryd.prog 83 w0 b2 encSpot f) := hf.1
    obtain ⟨v0, hv0⟩ : ∃ v0, (f (r, m, s)).getD (.slice none 0 0) = v0 := ⟨_, rfl⟩
    rw [hv0] at hrow
    have HV0 := hideIt hv0
    have HKS := hideIt hks
    have HJ := hideIt hJ
    have hn0 : w0.heap.size ≤ W.heap.size := hW.size
    have hKl : (kidsL l (r, m, s)).length ≤ 1048576 := Nat.le_trans (kids_le l _) hn
    clear ih hu hd hY hJ hT hf hv0 hks hops
    generalize kidsL l (r, m, s) = K at *
    have HBa : Hid (Below W.heap.size W ((W.alloc (.cells #[.map (some b1), .map (some b2), .map (some b3)] 75)).alloc (.cells #[.int .i64 r, .int .i64 m, .int .i64 s] 83))) := ((Below.refl _ _).alloc (Nat.le_refl _) _).alloc (by simp) _
    have HKa : Hid (KpT w0.heap.size W ((W.alloc (.cells #[.map (some b1), .map (some b2), .map (some b3)] 75)).alloc (.cells #[.int .i64 r, .int .i64 m, .int .i64 s] 83))) := KpT.of_below hn0 HBa.out
    have HWa := hideIt (hW.trans HKa.out.1)
    have HTa : Hid (((W.alloc (.cells #[.map (some b1), .map (some b2), .map (some b3)] 75)).alloc (.cells #[.int .i64 r, .int .i64 m, .int .i64 s] 83)).heap[W.heap.size]? = some (.cells #[.map (some b1), .map (some b2), .map (some b3)] 75 (0, 0))) := (Below.heap_alloc _ _ _ (by simp)).trans (World.alloc_heap_new _ _)
    have HJa := hideIt (abides_below HJ.out h0 HBa.out)
    clear h0 hW
    rcases row_cases hrow with ⟨hlen, p0, c0, rfl⟩ | ⟨hlen, G, cap0, rfl, hcap0, hGl, hcell⟩
    · obtain rfl : K = [] := List.length_eq_zero_iff.1 hlen
      refine callsIn_of_wp Tryd.func85 rfl trivial ?_ rfl
      simp only [Tryd.ntmps85, List.size_toArray, List.length_cons, List.length_nil, Nat.reduceAdd, Nat.reduceSub, Array.replicate_succ, Array.replicate_zero, List.push_toArray, List.append_toArray, List.nil_append, List.cons_append]
      gi_wp2_with (first
        | (gi_at_lookup; refine wpListIn_look0 (t := 72) (e := 81) rfl _ _ rfl keyedSpot Tryd.underlying72 (.slice none 0 0) (zeroSlice _) encSpot_inj rfl (hM.out.below HWa.out hM.out.lt) (r, m, s) rfl ks HKS.out _ HV0.out ?_)
        | gi_in)
      gi_loopw [14] (fun i wr => ∃ j : Nat, j = 0 ∧ i = .int .i64 j ∧ J pre wr ∧ KpT w0.heap.size W wr)
        (fun _ _ => 0)
      case atStart => exact ⟨0, rfl, rfl, HJa.out, HKa.out⟩
      case round =>
        obtain ⟨j, rfl, rfl, hj, hkp⟩ := hrel
        gi_wp2
        go_ret
        exact .inl ⟨rfl, by simpa [sideK, lfs] using hj, hkp⟩
    · have HCE := hideIt hcell
      clear hrow hcell
      refine callsIn_of_wp Tryd.func85 rfl trivial ?_ rfl
      simp only [Tryd.ntmps85, List.size_toArray, List.length_cons, List.length_nil, Nat.reduceAdd, Nat.reduceSub, Array.replicate_succ, Array.replicate_zero, List.push_toArray, List.append_toArray, List.nil_append, List.cons_append]
      gi_wp2_with (first
        | (gi_at_lookup; refine wpListIn_look0 (t := 72) (e := 81) rfl _ _ rfl keyedSpot Tryd.underlying72 (.slice none 0 0) (zeroSlice _) encSpot_inj rfl (hM.out.below HWa.out hM.out.lt) (r, m, s) rfl ks HKS.out _ HV0.out ?_)
        | gi_in)
      gi_loopw [14] (fun i wr => ∃ j : Nat, j ≤ K.length ∧ i = .int .i64 j ∧ J (pre ++ lfs l (sideK l n (K.take j))) wr ∧ KpT w0.heap.size W wr ∧ Below w0.heap.size w0 wr ∧ wr.heap[W.heap.size]? = some (.cells #[.map (some b1), .map (some b2), .map (some b3)] 75 (0, 0)))
        (fun i _ => K.length - (intOf i).toNat)
      case atStart => exact ⟨0, Nat.zero_le _, rfl, by simpa [sideK, lfs] using HJa.out, HKa.out, HWa.out, HTa.out⟩
      case round =>
        obtain ⟨j, hj, rfl, hJj, hKj, hWj, hTj⟩ := hrel
        have HJj := hideIt hJj
        have HKj := hideIt hKj
        have HWj := hideIt hWj
        have ct0 := (blk_cell hTj 0).trans rfl
        have ct1 := (blk_cell hTj 1).trans rfl
        have ct2 := (blk_cell hTj 2).trans rfl
        have HTj := hideIt hTj
        have hlw : W.heap.size < wr.heap.size := (Array.getElem?_eq_some_iff.1 hTj).1
        clear hJj hKj hTj HJa HKa HWa HTa HBa
        by_cases hlt : j < K.length
        · obtain ⟨i0', i1', i2', i3', i4', i5'⟩ := putCells_at K j K[j] (by simp [hlt])
          have cc : ∀ q, q < K.length * 6 → wr.cell? ⟨G, q, none⟩ = (putCells K)[q]? := fun q hq => (hWj.cell (p := ⟨G, q, none⟩) hGl).trans (HCE.out q hq)
          have y0 := (cc (j * 6) (by omega)).trans i0'
          have y1 := (cc (j * 6 + 1) (by omega)).trans i1'
          have y2 := (cc (j * 6 + 2) (by omega)).trans i2'
          have y3 := (cc (j * 6 + 3) (by omega)).trans i3'
          have y4 := (cc (j * 6 + 4) (by omega)).trans i4'
          have y5 := (cc (j * 6 + 5) (by omega)).trans i5'
          have HMK : Hid (K[j] ∈ K) := List.getElem_mem hlt
          have HST := hideIt (lfs_step (l := l) (n := n) hlt)
          have HLE : Hid (pre.length + (lfs l (sideK l n (K.take (j + 1)))).length ≤ N) := by
            have h := sideK_le (l := l) (n := n) (K := K) (j + 1)
            show pre.length + (lfs l (sideK l n (K.take (j + 1)))).length ≤ N
            rw [lfs_len] at hN ⊢
            omega
          have hGr : G < wr.heap.size := Nat.lt_of_lt_of_le hGl hWj.size
          generalize K[j] = o at *
          have hlt' : (j : Int) < (K.length : Int) := by omega
          have hj0 : (0 : Int) ≤ (j : Int) := by omega
          clear cc i0' i1' i2' i3' i4' i5' hWj
          have HBo : Hid (Below wr.heap.size wr (wr.alloc (.cells #[.int .i64 o.a, .int .i64 o.b, .int .i64 o.c, .int .i64 o.d, .int .i64 o.s, .int .i64 o.g] 87))) := (Below.refl _ _).alloc (Nat.le_refl _) _
          have HKo := hideIt (KpT.of_below (n0 := w0.heap.size) HWj.out.size HBo.out)
          have HJo := hideIt (abides_below HJ.out HJj.out HBo.out)
          have HWo := hideIt (HWj.out.trans HKo.out.1)
          have hll : pre.length + (lfs l (sideK l n (K.take j))).length + ((lfs l (sideO l n (o.a, o.b, 0))).length + 1 + (lfs l (sideO l n (o.a, o.b, 1))).length) ≤ N := by
            have h := HLE.out
            rw [HST.out] at h
            simp only [List.length_append, List.length_cons] at h
            omega
          gi_wp2
          refine ⟨trivial, (fun h => by cases h), ?_⟩
          refine (OF.out o HMK.out _ (pre ++ lfs l (sideK l n (K.take j))) _ HWo.out HJo.out (by rw [List.length_append]; exact hll)).mono ?_
          rintro e W5 (⟨rfl, hJ5, hK5⟩ | ⟨rfl, q, hq⟩)
          · have HJ5 := hideIt hJ5
            have HK5 := hideIt (HKo.out.trans hK5)
            clear hJ5 hK5
            gi_wp2
            exact ⟨⟨j + 1, by omega, by go_num, by rw [HST.out, ← List.append_assoc]; exact HJ5.out, HKj.out.trans HK5.out, HWj.out.trans HK5.out.1, HK5.out.cell HTj.out (.inl rfl)⟩, by simp [intOf]; omega⟩
          · gi_wp2
            go_ret
            exact .inr ⟨rfl, q, hq⟩
        · obtain rfl : j = K.length := by omega
          gi_wp2
          go_ret
          exact .inl ⟨rfl, by have h := HJj.out; rw [List.take_length] at h; exact h, HKj.out⟩
end Go.Proofs.YtcnpfhnlniiacaaDoor

namespace Go.Proofs.YtcnpfhnlniiacaaDoor
open Go.RowKit Go.Shelf
set_option linter.unusedSimpArgs false
set_option linter.unusedVariables false
attribute [local go_sem] Oper.semAt_some

theorem leaves_any (v1 v2 v3 : Value) (w : World) (h : v1.cells = #[v1] ∧ v2.cells = #[v2] ∧ v3.cells = #[v3]) (b1 b2 b3 : Nat) (hv : v1 = .map (some b1) ∧ v2 = .map (some b2) ∧ v3 = .map (some b3)) :
    Calls Tryd.prog 61 #[.agg #[v1, v2, v3]] w fun e w' => e = .returned (.func (.func 84) #[] #[.pointer (some ⟨w.heap.size, 0, none⟩)]) ∧ w' = w.alloc (.cells #[v1, v2, v3] 75) := by
  obtain ⟨rfl, rfl, rfl⟩ := hv
  go_enter Tryd.func61, Tryd.ntmps61
  go_wp2
  go_ret
  exact ⟨rfl, rfl⟩

/-- A leaf as a value. -/
def lfV (x : Lf) : Value := .agg #[.int .i64 x.a, .int .i64 x.b, .int .i64 x.g, .bool x.z]

set_option maxRecDepth 100000 in
set_option maxHeartbeats 2000000 in
theorem leaves1_in (l : List Op7) (hops : opsB l = true) (hn : l.length ≤ 1048576) (w0 : World) (b1 b2 b3 base : Nat) (hT : TreeAt w0 b1 b2 b3 base l) (lp B : Nat) (J Jx : List Lf → World → Prop) (hJ : AbidesFrom B J)
    (hY : ∀ m pre (x : Lf) W, J pre W → pre.length < (allO l).length → YieldAt Fence.wide m Tryd.prog lp #[lfV x] W fun e W' =>
      (e = .returned (.bool true) ∧ J (pre ++ [x]) W' ∧ KpT w0.heap.size W W') ∨ (e = .returned (.bool false) ∧ Jx (pre ++ [x]) W'))
    (k Bt : Nat) (W : World) (hW : Below w0.heap.size w0 W) (h0 : J [] W) (hB : W.heap[Bt]? = some (.cells #[.map (some b1), .map (some b2), .map (some b3)] 75 (0, 0))) :
    CallsIn Fence.wide k Tryd.prog 84 #[.func (.yield lp) #[] #[], .pointer (some ⟨Bt, 0, none⟩)] W fun e W' => (∃ v, e = .returned v) ∧ ((∃ xs, xs = lfs l (allO l) ∧ J xs W') ∨ (∃ pre, True ∧ Jx pre W')) := by
  have hK := eachKid_in l hops hn w0 b1 b2 b3 base hT lp B (allO l).length J Jx hJ hY (l.length + 2) 0 0 0 1 Up.zero (.inr rfl) (by omega)
  have HK := hideIt hK
  have ct0 := (blk_cell hB 0).trans rfl
  have ct1 := (blk_cell hB 1).trans rfl
  have ct2 := (blk_cell hB 2).trans rfl
  clear hK hY hT
  refine callsIn_of_wp Tryd.func84 rfl trivial ?_ rfl
  simp only [Tryd.ntmps84, List.size_toArray, List.length_cons, List.length_nil, Nat.reduceAdd, Nat.reduceSub, Array.replicate_succ, Array.replicate_zero, List.push_toArray, List.append_toArray, List.nil_append, List.cons_append]
  gi_wp2
  refine ⟨trivial, (fun h => by cases h), ?_⟩
  refine (HK.out _ [] _ hW h0 (by simp [lfs_len, allO])).mono ?_
  rintro e W5 (⟨rfl, hJ5, hK5⟩ | ⟨rfl, q, hq⟩)
  · gi_wp2
    go_end0
    exact ⟨⟨_, rfl⟩, .inl ⟨_, rfl, by have h := hJ5; rw [List.nil_append] at h; exact h⟩⟩
  · gi_wp2
    go_end0
    exact ⟨⟨_, rfl⟩, .inr ⟨q, trivial, hq⟩⟩

theorem leaves_stops (l : List Op7) (hops : opsB l = true) (hn : l.length ≤ 1048576) (w0 : World) (b1 b2 b3 base : Nat) (hT : TreeAt w0 b1 b2 b3 base l) (n Bt : Nat) (w : World) (hW : Below w0.heap.size w0 w)
    (hB : w.heap[Bt]? = some (.cells #[.map (some b1), .map (some b2), .map (some b3)] 75 (0, 0))) :
    SeqStopsK Fence.wide n Tryd.prog 84 #[.pointer (some ⟨Bt, 0, none⟩)] (fun x : Lf => #[lfV x]) (KpT w0.heap.size) (fun ys => ys = lfs l (allO l)) (fun _ => True) (allO l).length w := fun lp J Jx W hb hJ hJx hY h0 =>
  leaves1_in l hops hn w0 b1 b2 b3 base hT lp W.heap.size J Jx hJ (fun m pre x W1 h1 h2 => yield_any rfl m (hY pre x W1 h1 h2)) n Bt W (hW.trans (hb.mono hW.size)) h0
    ((hb.block Bt (Array.getElem?_eq_some_iff.1 hB).1).trans hB)

theorem kpT_b {n0 : Nat} {w : World} (hn : n0 ≤ w.heap.size) (W : World) (l : Nat) (o o' : Obj) (hl : w.heap.size ≤ l) (h : W.heap[l]? = some o) (hc : o.isCells = false) (hw : o.isWalk = false) : KpT n0 W (W.putObj l o') :=
  ⟨belowK_b hn W l o o' hl h hc hw, fun b cur T fr hb _ => World.putObj_heap_other (fun e => by subst e; rw [hb] at h; cases h; cases hc)⟩
/-- A row of leaves, and a box, are none of the walk's own blocks. -/
theorem kpT_row {n0 : Nat} {W W' : World} {row : Option Nat} (hn : n0 ≤ W.heap.size) (hg : W.grownBy W' row) (hr : ∀ j, row = some j → n0 ≤ j ∧ ∃ cur T fr, W.heap[j]? = some (.cells cur T fr) ∧ ¬ (T = 75 ∨ T = 83 ∨ T = 87)) : KpT n0 W W' :=
  ⟨(Below.refl n0 W).grown hg hn (fun k e => (hr k e).1), fun b cur T fr hb hT => hg.block b (Array.getElem?_eq_some_iff.1 hb).1 (fun e => by
    obtain ⟨_, cur', T', fr', h1, h2⟩ := hr b e.symm
    rw [hb] at h1
    cases h1
    exact h2 hT)⟩
theorem own_type {W : World} {b : Nat} {T : TypeId} {m : Nat} {v : Value} {n : Nat} {xs : List Value} (h : W.ownsRow b T m v n xs) {j : Nat} (e : v.ownBlock = some j) (hT : ¬ (T = 75 ∨ T = 83 ∨ T = 87)) : ∃ cur T fr, W.heap[j]? = some (.cells cur T fr) ∧ ¬ (T = 75 ∨ T = 83 ∨ T = 87) := by
  rcases h.2 with ⟨rfl, _⟩ | ⟨g, cap, cur, rfl, _, hg, _⟩
  · cases e
  · obtain rfl : g = j := by simpa [Value.ownBlock] using e
    exact ⟨cur, T, _, hg, hT⟩
theorem lf_one : ∀ {a b g : Int} {z : Bool}, ∀ u ∈ [Value.int .i64 a, .int .i64 b, .int .i64 g, .bool z], u.oneCell' = true := by
  intro a b g z u hu
  simp at hu
  rcases hu with rfl | rfl | rfl | rfl <;> rfl
theorem lfCells_more (L : List Lf) (x : Lf) : lfCells (L ++ [x]) = lfCells L ++ [.int .i64 x.a, .int .i64 x.b, .int .i64 x.g, .bool x.z] := by simp [lfCells]

set_option maxRecDepth 100000 in
set_option maxHeartbeats 2000000 in
theorem appendSeq_in (l : List Op7) (hops : opsB l = true) (hn : l.length ≤ 1048576) (w0 : World) (b1 b2 b3 base : Nat) (hT : TreeAt w0 b1 b2 b3 base l) (n Bt : Nat) (h2 : 2 ≤ n) (w : World) (hW : Below w0.heap.size w0 w)
    (hB : w.heap[Bt]? = some (.cells #[.map (some b1), .map (some b2), .map (some b3)] 75 (0, 0))) :
    CallsIn Fence.wide n Tryd.prog 83 #[.slice none 0 0, .func (.func 84) #[] #[.pointer (some ⟨Bt, 0, none⟩)]] w fun e w' => ∃ v, e = .returned v ∧ w'.ownsRow w.heap.size 41 4 v (lfs l (allO l)).length (lfCells (lfs l (allO l))) ∧ Below w.heap.size w w' := by
  have h1 : 1 ≤ n := by omega
  have hlen : (allO l).length ≤ 1048576 := Nat.le_trans (all_len hops) hn
  obtain ⟨i0, hi, hz0, hz1, hz2⟩ := info_parts infoLeaf
  have HI1 := hideIt hi
  have HZ0 := hideIt hz0
  have HZ1 := hideIt hz1
  have HZ2 := hideIt hz2
  clear hi hz0 hz1 hz2
  have hsz : (w.alloc (.cells #[.slice none 0 0] 37)).heap.size = w.heap.size + 1 := by simp
  have hBw : Below w.heap.size w (w.alloc (.cells #[.slice none 0 0] 37)) := (Below.refl _ _).alloc (Nat.le_refl _) _
  have hn0 : w0.heap.size ≤ w.heap.size := hW.size
  have HSQ := hideIt (leaves_stops l hops hn w0 b1 b2 b3 base hT (n - 1) Bt (w.alloc (.cells #[.slice none 0 0] 37)) (hW.trans (hBw.mono hn0)) ((hBw.block Bt (Array.getElem?_eq_some_iff.1 hB).1).trans hB))
  clear hT hW hB
  refine callsIn_of_wp_marks Tryd.func83 rfl trivial ?_ rfl
  simp only [Tryd.ntmps83, List.size_toArray, List.length_cons, List.length_nil, Nat.reduceAdd, Nat.reduceSub, Array.replicate_succ, Array.replicate_zero, List.push_toArray, List.append_toArray, List.nil_append, List.cons_append]
  gi_wp2
  refine wpIn_rangeFunc_ownH rfl h1 (gf := 84) (lb := #[.pointer (some ⟨Bt, 0, none⟩)]) rfl trivial (enters_of Tryd.func84 (by kernel_rfl) rfl) HSQ.out
    (fun h k => h.trans k) (kpT_b (by omega)) (Below.refl _ _) (fun _ => rfl)
    (fun pre W => (∃ v, Boxed W w.heap.size 37 v ∧ W.ownsRow w.heap.size 41 4 v pre.length (lfCells pre) ∧ True) ∧ Below w.heap.size w W)
    (fun _ _ _ => False)
    (OwnFrom.and (Own.from (holdsRow_own w.heap.size w.heap.size 37 41 4 (fun pre : List Lf => pre.length) (fun pre => lfCells pre) (fun _ _ => True)) _) (ownFrom_below (Nat.le_refl _) (by omega)))
    (fun _ _ _ _ _ hs _ _ => hs)
    ⟨⟨_, Boxed.new _ _ _, World.ownsRow_nil _ _ _ _, trivial⟩, hBw⟩
    (fun x a' W => ∃ Bx, w.heap.size + 1 ≤ Bx ∧ W.heap[Bx]? = some (.cells #[.int .i64 x.a, .int .i64 x.b, .int .i64 x.g, .bool x.z] 41 (0, 0)) ∧ a' = { tmps := #[.slice none 0 0, .func (.func 84) #[] #[.pointer (some ⟨Bt, 0, none⟩)], .pointer (some ⟨w.heap.size, 0, none⟩), undef, .slice none 0 0, .pointer (some ⟨Bx, 0, none⟩), .func (.func 84) #[] #[.pointer (some ⟨Bt, 0, none⟩)], lfV x, undef, undef, undef, undef, undef], defers := [] })
    ?hAx ?assign ?body ?done ?stop
  case hAx =>
    rintro x a' _ A B row ⟨Bx, hb, hx, ha⟩ hg hr
    exact ⟨Bx, hb, (hg.block Bx (Array.getElem?_eq_some_iff.1 hx).1 (fun e => by obtain ⟨_, o, ho, hc⟩ := hr Bx e.symm; rw [hx] at ho; cases ho; cases hc)).trans hx, ha⟩
  case assign =>
    rintro lp pre x W K ⟨⟨v, bv, hrow, _⟩, hBl⟩ hK
    unfold lfV
    gi_wp2
    exact hK _ _ ((KeepsOthers.alloc _ _).from _) (KpT.of_below (by have := hBl.size; omega) ((Below.refl _ _).alloc (Nat.le_refl _) _)) ⟨⟨v, bv.alloc _, hrow.alloc _, trivial⟩, hBl.alloc hBl.size _⟩ ⟨W.heap.size, by have := bv.lt; omega, World.alloc_heap_new _ _, rfl⟩
  case body =>
    rintro lp pre x a' W hl ⟨rr, hr⟩ ⟨⟨v, bv, hrow, _⟩, hBl⟩ ⟨Bx, hbx, hx, rfl⟩ hlt
    have hc := bv.cell
    have x0 := (blk_cell hx 0).trans rfl
    have x1 := (blk_cell hx 1).trans rfl
    have x2 := (blk_cell hx 2).trans rfl
    have x3 := (blk_cell hx 3).trans rfl
    have HRW := hideIt hrow
    have HBL := hideIt hBl
    have HBV := hideIt bv
    have hwl : w.heap.size ≤ W.heap.size := hBl.size
    clear hrow hBl hr
    gi_wp2_with (first
      | (gi_at_builtin; refine wpListIn_append_own _ rfl _ _ 37 rfl w.heap.size 41 i0 _ 4 32 Tryd.underlying37 HI1.out HZ0.out HZ1.out HZ2.out rfl (by decide) _ _ _ rfl (HRW.out.alloc _) ⟨W.heap.size, 0, none⟩ 1 1 [.int .i64 x.a, .int .i64 x.b, .int .i64 x.g, .bool x.z] rfl rfl (cells_new W [.int .i64 x.a, .int .i64 x.b, .int .i64 x.g, .bool x.z] 41) lf_one (by unfold maxLen; omega) (by omega) (by simp; omega) ?_; intro v' w1 hown' hgrow _; obtain ⟨g', cap', rfl⟩ := ownsRow_succ hown'; obtain ⟨hv1, hv2, hr2, hk2, hb2⟩ := HBV.out.appended (by decide) HRW.out hwl (Nat.le_refl _) hown' hgrow; have hc1 := hv1.cell; have hf1 := hv1.frozen;
          have HKP : Hid (KpT w0.heap.size W (w1.setCell ⟨w.heap.size, 0, none⟩ (.slice (some ⟨g', 0, none⟩) (pre.length + 1) cap'))) := (KpT.of_below (by omega) ((Below.refl _ _).alloc (Nat.le_refl _) _)).trans ((kpT_row (by simp; omega) hgrow (fun j e => ⟨Nat.le_trans hn0 ((HRW.out.lt j e).1), own_type (HRW.out.alloc _) e (by decide)⟩)).trans (kpT_row (by have := hgrow.size; simp at this; omega) (grownBy_setCell' _ _ _) (fun j e => by cases e; exact ⟨hn0, _, _, _, hv1, by decide⟩)));
          have HV2 := hideIt hv2; have HR2 := hideIt hr2; have HK2 := hideIt hk2; have HB2 := hideIt hb2; clear hv2 hr2 hk2 hb2 hv1 hown' hgrow)
      | gi_in)
    exact ⟨HK2.out.from _, HKP.out, ⟨_, HV2.out, by rw [lfCells_more, List.length_append]; exact HR2.out, trivial⟩, HBL.out.trans HB2.out⟩
  case done =>
    rintro D ys W hD rfl ⟨⟨v, bv, hrow, _⟩, hBl⟩ hK
    have hc := bv.cell
    have hrow' := hrow
    rw [hsz] at hD
    rcases hrow.2 with ⟨rfl, _⟩ | ⟨g', cap', cur', rfl, _⟩
    all_goals
      gi_wp2
      refine ⟨by simp, .inl ⟨_, _, rfl, run_takeDeferred hK, ?_⟩⟩
      exact ⟨_, results_tmp rfl _ _ _, _, rfl, ownsRow_putObj hrow' _ hK rfl, hBl.trans (belowK_b (w := w) (Nat.le_refl _) W D _ _ (by omega) hK rfl rfl)⟩
  case stop =>
    rintro D c pre W _ _ h _
    exact h.elim

set_option maxRecDepth 100000 in
set_option maxHeartbeats 2000000 in
theorem collect_any (l : List Op7) (hops : opsB l = true) (hn : l.length ≤ 1048576) (w0 : World) (b1 b2 b3 base : Nat) (hT : TreeAt w0 b1 b2 b3 base l) (Bt : Nat) (w : World) (hW : Below w0.heap.size w0 w)
    (hB : w.heap[Bt]? = some (.cells #[.map (some b1), .map (some b2), .map (some b3)] 75 (0, 0))) :
    Calls Tryd.prog 60 #[.func (.func 84) #[] #[.pointer (some ⟨Bt, 0, none⟩)]] w fun e w' => ∃ v, e = .returned v ∧ w'.ownsRow w.heap.size 41 4 v (lfs l (allO l)).length (lfCells (lfs l (allO l))) ∧ Below w.heap.size w w' := by
  have HA := hideIt (callsIn_wide.1 (appendSeq_in l hops hn w0 b1 b2 b3 base hT 2 Bt (Nat.le_refl _) w hW hB))
  clear hT hW hB
  go_enter Tryd.func60, Tryd.ntmps60
  go_wp2_with fail
  refine HA.out.mono ?_
  rintro e w1 ⟨v, rfl, hr, hb⟩
  go_wp2
  go_ret
  exact ⟨_, rfl, hr, hb⟩

set_option maxRecDepth 100000 in
set_option maxHeartbeats 1000000 in
theorem implLeaves_any (l : List Op7) (g cap : Nat) (x : Addr) (w : World) (hl : OpsAt w g l) (hn : l.length ≤ 1048576) (hcap : l.length ≤ cap)
    (he : w.cell? ⟨0, 0, none⟩ = some (.iface 164 (.pointer (some x)))) (h0 : 0 < w.heap.size) :
    Calls Tryd.prog 21 #[.slice (some ⟨g, 0, none⟩) l.length cap] w fun e w' => ∃ v, e = .returned v ∧ w'.ownsRow w.heap.size 41 4 v (lfs l (standL l)).length (lfCells (lfs l (standL l))) ∧ Below w.heap.size w w' := by
  have HL := hideIt hl
  have hgw := hl.1
  clear hl
  go_enter Tryd.func21, Tryd.ntmps21
  go_wp2_with fail
  refine (treeOf_any l g cap x _ HL.out hn hcap he h0).mono ?_
  rintro e w1 ⟨(⟨ht, b1, b2, b3, base, rfl, hT⟩ | ⟨ht, rfl⟩), hb1⟩
  all_goals
    have HO := hideIt ht
    have HB1 := hideIt hb1
    have herr1 : w1.cell? ⟨0, 0, none⟩ = some (.iface 164 (.pointer (some x))) := errB HB1.out h0 he
    have hp1 : 0 < w1.heap.size := posB HB1.out h0
    clear ht hb1
  · have HTT := hideIt hT
    have HE : Hid (standL l = allO l) := by show standL l = allO l; unfold standL; rw [HO.out]; rfl
    clear hT
    go_wp2_with (first | (go_at_call 53; refine (is_nil x _).mono ?_; rintro e w'' ⟨rfl, rfl⟩))
    refine (leaves_any _ _ _ _ ⟨rfl, rfl, rfl⟩ b1 b2 b3 ⟨rfl, rfl, rfl⟩).mono ?_
    rintro e w2 ⟨rfl, hw2⟩
    have HW2 := hideIt hw2
    have hbb : Below w1.heap.size w1 w2 := by rw [hw2]; exact ((Below.refl _ _).alloc (Nat.le_refl _) _).alloc (by simp) _
    have hblk : w2.heap[(w1.alloc (.cells #[.map (some b1), .map (some b2), .map (some b3)] 75)).heap.size]? = some (.cells #[.map (some b1), .map (some b2), .map (some b3)] 75 (0, 0)) := by rw [hw2]; exact World.alloc_heap_new _ _
    rw [World.size_alloc] at hblk
    have HBB := hideIt hbb
    have HBK := hideIt hblk
    clear hbb hblk hw2
    go_wp2_with fail
    refine (collect_any l HO.out hn w1 b1 b2 b3 base HTT.out _ _ HBB.out HBK.out).mono ?_
    rintro e w3 ⟨v, rfl, hr, hb3⟩
    have HR3 := hideIt (ownsRow_base (Nat.le_trans HB1.out.size HBB.out.size) hr)
    have HB3 := hideIt (Bstep (Bstep HB1.out HBB.out) hb3)
    clear hr hb3
    go_wp2
    go_ret
    rw [HE.out]
    exact ⟨_, rfl, HR3.out, HB3.out⟩
  · have HE : Hid (standL l = []) := by show standL l = []; unfold standL; rw [HO.out]; rfl
    go_wp2_with (first | (go_at_call 53; refine (is_same x _).mono ?_; rintro e w'' ⟨rfl, rfl⟩))
    go_ret
    rw [HE.out]
    exact ⟨_, rfl, World.ownsRow_nil _ _ _ _, HB1.out.alloc HB1.out.size _⟩
end Go.Proofs.YtcnpfhnlniiacaaDoor

namespace Go.Proofs.YtcnpfhnlniiacaaDoor
open Go.RowKit
set_option linter.unusedSimpArgs false
set_option linter.unusedVariables false
attribute [local go_sem ↓] Go.wp_at_zero Go.wp_at_succ

theorem idCells_at : ∀ (L : List (Int × Int)) (i : Nat) (x : Int × Int), L[i]? = some x → (idCells L)[i * 2]? = some (.int .i64 x.1) ∧ (idCells L)[i * 2 + 1]? = some (.int .i64 x.2)
  | [], i, x, h => by simp at h
  | y :: r, 0, x, h => by simp at h; subst h; simp [idCells]
  | y :: r, i + 1, x, h => by
    have h' := idCells_at r i x (by simpa using h)
    have e : idCells (y :: r) = [.int .i64 y.1, .int .i64 y.2] ++ idCells r := by simp [idCells]
    have hs : ∀ j, (idCells (y :: r))[(i + 1) * 2 + j]? = (idCells r)[i * 2 + j]? := fun j => by
      rw [e, List.getElem?_append_right (by simp; omega)]
      congr 1
      simp
      omega
    have h0 := hs 0
    simp only [Nat.add_zero] at h0
    rw [h0, hs 1]
    exact h'

theorem implKidsS_any (l : List Op7) (hO : opsB l = true) (g cap : Nat) (r m s : Int) (x : Addr) (w : World) (hl : OpsAt w g l) (hn : l.length ≤ 1048576) (hcap : l.length ≤ cap)
    (he : w.cell? ⟨0, 0, none⟩ = some (.iface 164 (.pointer (some x)))) (h0 : 0 < w.heap.size) (hr : wf64 r) (hm : wf64 m) (hs : wf64 s) :
    Calls Tryd.prog 19 #[.slice (some ⟨g, 0, none⟩) l.length cap, .agg #[.int .i64 r, .int .i64 m], .int .i64 s] w fun e w' => ∃ q c, e = .returned (.slice q (kidsL l (r, m, s)).length c) ∧ (0 < (kidsL l (r, m, s)).length → ∃ gk, q = some ⟨gk, 0, none⟩ ∧ (kidsL l (r, m, s)).length ≤ c ∧ gk < w'.heap.size ∧ ∀ j, j < (kidsL l (r, m, s)).length * 2 → w'.cell? ⟨gk, j, none⟩ = (idCells (idsOf (kidsL l (r, m, s))))[j]?) ∧ Below w.heap.size w w' := by
  refine (implKids_any l g cap r m s x w hl hn hcap he h0 hr hm hs).mono ?_
  rintro e w' ⟨v, rfl, hr, hb⟩
  have e1 : kidIds l r m s = idsOf (kidsL l (r, m, s)) := by unfold kidIds; rw [if_pos hO]
  rw [e1, idsOf_len] at hr
  rcases hr.2 with ⟨e, e0⟩ | ⟨g', c', cur, e, _, hg, h2, _⟩
  · exact ⟨none, 0, by rw [e, e0], fun h => by omega, hb⟩
  · subst e
    exact ⟨some ⟨g', 0, none⟩, c', rfl, fun _ => ⟨g', rfl, h2, (Array.getElem?_eq_some_iff.1 hg).1, fun j hj => World.ownsRow.cellAt hr j hj⟩, hb⟩

theorem op_wf {l : List Op7} (h : opsB l = true) {o : Op7} (ho : o ∈ l) : wf64 o.a ∧ wf64 o.b ∧ wf64 o.c ∧ wf64 o.d ∧ wf64 o.s := by
  have := okO_num (List.all_eq_true.1 (opsB_all h).1 o ho)
  exact ⟨wf_small ⟨by omega, by omega⟩, wf_small ⟨by omega, by omega⟩, wf_small ⟨by omega, by omega⟩, wf_small ⟨by omega, by omega⟩, wf_small ⟨by omega, by omega⟩⟩
/-- Is an id among the first k kids? -/
def inTo (K : List Op7) (k : Nat) (a b : Int) : Bool := (K.take k).any fun o => o.a == a && o.b == b
theorem inTo_zero (K : List Op7) (a b : Int) : inTo K 0 a b = false := by simp [inTo]
theorem inTo_more {K : List Op7} {k : Nat} (hk : k < K.length) (a b : Int) : inTo K (k + 1) a b = (inTo K k a b || (K[k].a == a && K[k].b == b)) := by
  unfold inTo
  rw [List.take_succ_eq_append_getElem hk, List.any_append]
  simp
theorem inTo_all {K : List Op7} {o : Op7} (h : o ∈ K) : inTo K K.length o.a o.b = true := by
  unfold inTo
  rw [List.take_length]
  exact List.any_eq_true.2 ⟨o, h, by simp⟩

end Go.Proofs.YtcnpfhnlniiacaaDoor

namespace Go.Proofs.YtcnpfhnlniiacaaDoor
open Go.ChangeShapes Go.WideShapes Go.ChangeAt Go.RowKit Go.Joins

theorem own : ownKnob Tryd.prog.godebug = none := by kernel_rfl
theorem laidOut : laidOutB Tryd.prog = true := by kernel_rfl
theorem cells_int : Tryd.prog.cellsOf 3 = 1 := by kernel_rfl

/-- The name of the one listed variable. -/
abbrev errName : String := Rows.fnUnderOrderSpec.vars.headD ""
/-- What the rows list. -/
abbrev laid1 : List (String × DataW Unit) := Rows.fnUnderOrderRow.laid
theorem gErr : Tryd.prog.globalNamed errName = some 0 := by kernel_rfl
theorem tErr : (Tryd.prog.globals[0]?).map (·.type) = some 77 := by kernel_rfl
def nmOf : DataW Unit → String
  | .iface n _ => n
  | _ => ""
theorem star : "*" ++ "errors.errorString" = nmOf Rows.laid_loop_example_tatting_impl_errNoThing := by decide
theorem nameErr (u : TypeId) (h : Tryd.prog.typeName? 3 u = some (nmOf Rows.laid_loop_example_tatting_impl_errNoThing)) : u = 164 :=
  typeName_ptr_named (nm := "errors.errorString") (by rw [star]; kernel_rfl) (by kernel_rfl) (by decide) u (by rw [star]; exact h)

theorem door_met (os : Os) (args : Array Value) : laidMetH Tryd.prog laid1 ((World.doorLaid Tryd.prog 28 os).forCall (fun _ _ => 0) ⟨#[], args, []⟩).memory :=
  laidMetH_of_parts3 (fuel := 8) (laidMet_of_run' 8 (by kernel_rfl) (by kernel_rfl)) (by kernel_rfl) (by kernel_rfl)

/-- WHAT THE CONDITION GIVES THE WALKS: the one error's cell. -/
theorem of_laid {W : World} (h : laidMetH Tryd.prog laid1 W) : ∃ x : Addr, W.var? Tryd.prog errName = some #[.iface 164 (.pointer (some x))] ∧ W.cell? ⟨0, 0, none⟩ = some (.iface 164 (.pointer (some x))) ∧ 0 < W.heap.size := by
  rw [MakeChecks.laidMetH_plain _ _ _ (by kernel_rfl)] at h
  obtain ⟨x, s, hv, hc, _, _⟩ := laid_sentinel h gErr tErr Tryd.underlying77 nameErr Tryd.underlying164 Tryd.underlying190 rfl rfl Tryd.underlying9 (by kernel_rfl) (by kernel_rfl)
  have hcell : W.cell? ⟨0, 0, none⟩ = some (.iface 164 (.pointer (some x))) := by simpa using World.var?_cell gErr hv 0
  refine ⟨x, hv, hcell, ?_⟩
  rcases Nat.eq_zero_or_pos W.heap.size with h0 | h0
  · exfalso
    simp [World.cell?, Array.eq_empty_of_size_eq_zero h0] at hcell
  · exact h0

/-- The variable holds what it held, where nothing that was there has turned. -/
theorem var_kept {W W' : World} {x : Value} (hb : Below W.heap.size W W') (h0 : 0 < W.heap.size) (hv : W.var? Tryd.prog errName = some #[x]) : W'.var? Tryd.prog errName = some #[x] := by
  unfold World.var? at hv ⊢
  rw [gErr] at hv ⊢
  simp only [Option.bind_some] at hv ⊢
  rw [hb.block 0 h0]
  exact hv
end Go.Proofs.YtcnpfhnlniiacaaDoor

namespace Go.Proofs.YtcnpfhnlniiacaaDoor
open Go.ChangeShapes Go.WideShapes Go.ChangeAt Go.RowKit Go.Joins

theorem cells_byte : Tryd.prog.cellsOf 5 = 1 := by kernel_rfl

set_option maxRecDepth 100000 in
theorem open_bytes {H : Type} {enc : TypeId × Value → H} {w : World} {r : Reach} {b0 : Nat} {spare : Nat → Bool} {held : Bool} {v : Value} {d : DataW H} {p : List MemPlace}
    (hv : Value.okWide Tryd.prog w r b0 22 v) (h : DataW.Trod enc Tryd.prog w 0 spare held 22 v d p) :
    ∃ (q : Option Addr) (n cap : Nat), v = .slice q n cap ∧ n ≤ cap ∧ cap ≤ maxLen ∧ ArgBytes w q n := by
  obtain ⟨q, len, cap, rfl⟩ := okWide_slice Tryd.underlying22 hv
  obtain ⟨fuel, hf⟩ := h
  rcases open_ints Tryd.underlying22 Tryd.underlying5 cells_byte hf with ⟨hcs, _⟩ | ⟨a, len', cap', zs, hcs, _, hl, hm, hz, _, hcell, hwz⟩
  · simp [Value.cells] at hcs
    obtain ⟨rfl, rfl, rfl⟩ := hcs
    exact ⟨none, 0, 0, rfl, Nat.le_refl _, Nat.zero_le _, .inl rfl⟩
  · simp [Value.cells] at hcs
    obtain ⟨rfl, rfl, rfl⟩ := hcs
    refine ⟨some a, len, cap, rfl, hl, hm, ?_⟩
    have hlz : len ≤ zs.length := by rw [hz]; split <;> omega
    rcases Nat.eq_zero_or_pos len with h0 | h0
    · exact .inl h0
    obtain ⟨b, off, spot⟩ := a
    have hspot : spot = none := by simpa [Addr.add] using World.cell?_spot (hcell 0 (by omega))
    subst hspot
    refine .inr ⟨b, off, rfl, ?_, fun i hi => ?_⟩
    · have := World.block_lt_of_cell? w _ (hcell 0 (by omega))
      simpa [Addr.add_lit] using this
    · have hc := hcell i (by omega)
      rw [Addr.add_lit] at hc
      have hb := range_u8 hwz i
      exact ⟨zs.getD i 0, by simpa [List.getD] using hb.1, by simpa [List.getD] using hb.2, hc⟩

end Go.Proofs.YtcnpfhnlniiacaaDoor
