/-
  PROVED: each sign of drawn things is a kid of what it was put beside, on its side, and all kids together are as many as there are signs (the given card of FnKidsAll), for every input; the one listed variable, the program's error, reads as its own initialiser lays it.
-/
import Derived.Test.YthhlhogknpgccaaDoorPackF
import Derived.Test.YthhlhogknpgccaaDoorPackD
import Derived.Test.YthhlhogknpgccaaDoorRows
import Derived.WalkKit
import Derived.ProofKit
import Derived.OpenShut
import Derived.ChangeOld
import Derived.Below
import Derived.Lib.SmallJoins
import Derived.Stop.LaidErr
import Derived.LaidMore
import Derived.Stop.Joined
import Derived.ChangeSlices
import Derived.Test.YthhlhogknpgccaaDoorTie
import Derived.Test.YthhlhogknpgccaaDoorCards
import Derived.SevenTiedAt
namespace Go.Proofs.YthhlhogknpgccaaDoor
open Go.RowKit
set_option linter.unusedSimpArgs false
set_option linter.unusedVariables false

theorem countP_two {α : Type} {p q r : α → Bool} : ∀ (l : List α), (∀ o ∈ l, p o = (q o || r o) ∧ (q o && r o) = false) → l.countP p = l.countP q + l.countP r
  | [], _ => rfl
  | o :: l, h => by
    have ih := countP_two l (fun o ho => h o (List.mem_cons_of_mem _ ho))
    obtain ⟨h1, h2⟩ := h o (by simp)
    rw [List.countP_cons, List.countP_cons, List.countP_cons, ih, h1]
    cases hq : q o <;> cases hr : r o <;> rw [hq, hr] at h2 <;> simp at h2 ⊢ <;> omega
theorem put_s {l : List Op7} (h : opsB l = true) {o : Op7} (ho : o ∈ l) (hk : o.k = 1) : o.s = 0 ∨ o.s = 1 := by
  rcases put_side h ho hk with ⟨_, _, h⟩ | ⟨_, h⟩
  · exact .inr h
  · exact h
/-- Those that were put beside one stand on its left, or on its right. -/
theorem kid_sides {l : List Op7} (h : opsB l = true) (a b : Int) : (l.countP fun q => q.k == 1 && decide ((q.c, q.d) = (a, b))) = (kidsL l (a, b, 0)).length + (kidsL l (a, b, 1)).length := by
  unfold kidsL
  rw [← List.countP_eq_length_filter, ← List.countP_eq_length_filter]
  refine countP_two l fun o ho => ?_
  by_cases hk : o.k = 1
  · have hs := put_s h ho hk
    by_cases hc : o.c = a <;> by_cases hd : o.d = b <;> rcases hs with e | e <;> simp [isKid, hk, hc, hd, e]
  · have hk' : (o.k == 1) = false := by simp [hk]
    simp [isKid, hk']
/-- Nothing, and those of the first i that were put. -/
def midTo (L : List Op7) (i : Nat) : List (Int × Int) := (0, 0) :: ((L.take i).filter fun o => !(o.k == 2)).map fun o => (o.a, o.b)
/-- How many were put beside them. -/
def kidsTo (L : List Op7) (i : Nat) : Nat := L.countP fun q => q.k == 1 && decide ((q.c, q.d) ∈ midTo L i)
theorem kidsTo_zero {l : List Op7} (h : opsB l = true) : kidsTo l 0 = (kidsL l (0, 0, 0)).length + (kidsL l (0, 0, 1)).length := by
  rw [← kid_sides h 0 0]
  unfold kidsTo midTo
  simp
theorem kidsTo_no {L : List Op7} {i : Nat} (hi : i < L.length) (h : L[i].k = 2) : kidsTo L (i + 1) = kidsTo L i := by
  have hm : midTo L (i + 1) = midTo L i := by
    unfold midTo
    rw [List.take_succ_eq_append_getElem hi, List.filter_append, List.filter_cons_of_neg (by simp [h]), List.filter_nil, List.append_nil]
  unfold kidsTo
  rw [hm]
theorem midTo_not {l : List Op7} (h : opsB l = true) {i : Nat} (hi : i < l.length) : (l[i].a, l[i].b) ∉ midTo l i := by
  have hpos := op_pos (opsB_all h).1 (List.getElem_mem hi)
  unfold midTo
  intro hm
  rcases List.mem_cons.1 hm with e | hm
  · have := congrArg Prod.fst e
    simp at this
    omega
  · obtain ⟨o, ho, e⟩ := List.mem_map.1 hm
    obtain ⟨j, hj, rfl⟩ := List.getElem_of_mem (List.mem_filter.1 ho).1
    rw [List.length_take] at hj
    rw [List.getElem_take] at e
    have e1 : l[j].a = l[i].a := congrArg Prod.fst e
    have e2 : l[j].b = l[i].b := congrArg Prod.snd e
    have := once_ops h j i l[j] l[i] (by simp) (by simp) e1 e2
    omega
theorem kidsTo_yes {l : List Op7} (h : opsB l = true) {i : Nat} (hi : i < l.length) (hk : ¬ l[i].k = 2) : kidsTo l (i + 1) = kidsTo l i + (kidsL l (l[i].a, l[i].b, 0)).length + (kidsL l (l[i].a, l[i].b, 1)).length := by
  rw [Nat.add_assoc, ← kid_sides h]
  have hno := midTo_not h hi
  have hm : midTo l (i + 1) = midTo l i ++ [(l[i].a, l[i].b)] := by
    unfold midTo
    rw [List.take_succ_eq_append_getElem hi, List.filter_append, List.map_append]
    simp [hk]
  unfold kidsTo
  refine countP_two l fun o ho => ?_
  rw [hm]
  by_cases hc : (o.c, o.d) = (l[i].a, l[i].b)
  · rw [hc]
    constructor
    · cases hkk : (o.k == 1) <;> simp
    · simp [hno]
  · constructor
    · simp only [List.mem_append, List.mem_singleton, hc, or_false, decide_false, Bool.and_false, Bool.or_false]
    · simp [hc]
theorem kidsTo_all {l : List Op7} (h : opsB l = true) : kidsTo l l.length = (lfs l (allO l)).length := by
  rw [lfs_len, (all_perm h).length_eq, ← List.countP_eq_length_filter]
  unfold kidsTo
  refine List.countP_congr fun o ho => ?_
  have hr := List.all_eq_true.1 (opsB_all h).2.2.1 o ho
  unfold refsB at hr
  have hin : (o.c, o.d) ∈ midTo l l.length := by
    unfold midTo
    rw [List.take_length]
    cases hno : noB o.c o.d
    · rw [hno] at hr
      cases hx : nextO l o with
      | none => rw [hx] at hr; simp at hr
      | some p =>
        rw [hx] at hr
        have hpk : p.k = 1 := by simpa using hr
        obtain ⟨hm, ha, hb⟩ := next_mem hx
        exact List.mem_cons_of_mem _ (List.mem_map.2 ⟨p, List.mem_filter.2 ⟨hm, by simp [hpk]⟩, by rw [ha, hb]⟩)
    · unfold noB at hno
      have := of_decide_eq_true hno
      rw [this.1, this.2]
      simp
  simp [hin]
theorem kidsTo_le (L : List Op7) (i : Nat) : kidsTo L i ≤ L.length := List.countP_le_length
end Go.Proofs.YthhlhogknpgccaaDoor

namespace Go.Proofs.YthhlhogknpgccaaDoor
open Go.RowKit
set_option linter.unusedSimpArgs false
set_option linter.unusedVariables false
attribute [local go_sem ↓] Go.wp_at_zero Go.wp_at_succ

theorem idCells_at : ∀ (L : List (Int × Int)) (i : Nat) (x : Int × Int), L[i]? = some x → (idCells L)[i * 2]? = some (.int .i64 x.1) ∧ (idCells L)[i * 2 + 1]? = some (.int .i64 x.2)
  | [], i, x, h => by simp at h
  | y :: r, 0, x, h => by simp at h; subst h; simp [idCells]
  | y :: r, i + 1, x, h => by
    have h' := idCells_at r i x (by simpa using h)
    have e : idCells (y :: r) = [.int .i64 y.1, .int .i64 y.2] ++ idCells r := by simp [idCells]
    have hs : ∀ j, (idCells (y :: r))[(i + 1) * 2 + j]? = (idCells r)[i * 2 + j]? := fun j => by
      rw [e, List.getElem?_append_right (by simp; omega)]
      congr 1
      simp
      omega
    have h0 := hs 0
    simp only [Nat.add_zero] at h0
    rw [h0, hs 1]
    exact h'

theorem implKidsS_any (l : List Op7) (hO : opsB l = true) (g cap : Nat) (r m s : Int) (x : Addr) (w : World) (hl : OpsAt w g l) (hn : l.length ≤ 1048576) (hcap : l.length ≤ cap)
    (he : w.cell? ⟨0, 0, none⟩ = some (.iface 138 (.pointer (some x)))) (h0 : 0 < w.heap.size) (hr : wf64 r) (hm : wf64 m) (hs : wf64 s) :
    Calls Tryd.prog 18 #[.slice (some ⟨g, 0, none⟩) l.length cap, .agg #[.int .i64 r, .int .i64 m], .int .i64 s] w fun e w' => ∃ q c, e = .returned (.slice q (kidsL l (r, m, s)).length c) ∧ (0 < (kidsL l (r, m, s)).length → ∃ gk, q = some ⟨gk, 0, none⟩ ∧ (kidsL l (r, m, s)).length ≤ c ∧ gk < w'.heap.size ∧ ∀ j, j < (kidsL l (r, m, s)).length * 2 → w'.cell? ⟨gk, j, none⟩ = (idCells (idsOf (kidsL l (r, m, s))))[j]?) ∧ Below w.heap.size w w' := by
  refine (implKids_any l g cap r m s x w hl hn hcap he h0 hr hm hs).mono ?_
  rintro e w' ⟨v, rfl, hr, hb⟩
  have e1 : kidIds l r m s = idsOf (kidsL l (r, m, s)) := by unfold kidIds; rw [if_pos hO]
  rw [e1, idsOf_len] at hr
  rcases hr.2 with ⟨e, e0⟩ | ⟨g', c', cur, e, _, hg, h2, _⟩
  · exact ⟨none, 0, by rw [e, e0], fun h => by omega, hb⟩
  · subst e
    exact ⟨some ⟨g', 0, none⟩, c', rfl, fun _ => ⟨g', rfl, h2, (Array.getElem?_eq_some_iff.1 hg).1, fun j hj => World.ownsRow.cellAt hr j hj⟩, hb⟩

theorem op_wf {l : List Op7} (h : opsB l = true) {o : Op7} (ho : o ∈ l) : wf64 o.a ∧ wf64 o.b ∧ wf64 o.c ∧ wf64 o.d ∧ wf64 o.s := by
  have := okO_num (List.all_eq_true.1 (opsB_all h).1 o ho)
  exact ⟨wf_small ⟨by omega, by omega⟩, wf_small ⟨by omega, by omega⟩, wf_small ⟨by omega, by omega⟩, wf_small ⟨by omega, by omega⟩, wf_small ⟨by omega, by omega⟩⟩
/-- Is an id among the first k kids? -/
def inTo (K : List Op7) (k : Nat) (a b : Int) : Bool := (K.take k).any fun o => o.a == a && o.b == b
theorem inTo_zero (K : List Op7) (a b : Int) : inTo K 0 a b = false := by simp [inTo]
theorem inTo_more {K : List Op7} {k : Nat} (hk : k < K.length) (a b : Int) : inTo K (k + 1) a b = (inTo K k a b || (K[k].a == a && K[k].b == b)) := by
  unfold inTo
  rw [List.take_succ_eq_append_getElem hk, List.any_append]
  simp
theorem inTo_all {K : List Op7} {o : Op7} (h : o ∈ K) : inTo K K.length o.a o.b = true := by
  unfold inTo
  rw [List.take_length]
  exact List.any_eq_true.2 ⟨o, h, by simp⟩

set_option maxRecDepth 100000 in
set_option maxHeartbeats 4000000 in
theorem walkKidsAll (w : World) (p : Option Addr) (n cap : Nat) (h : ArgBytes w p n) (hcap : n ≤ cap) (hmax : cap ≤ maxLen) (x : Addr)
    (he : w.cell? ⟨0, 0, none⟩ = some (.iface 138 (.pointer (some x)))) (h0 : 0 < w.heap.size) :
    Calls Tryd.prog 7 #[.slice p n cap] w fun e w' => e = .returned (.bool true) ∧ Below w.heap.size w w' := by
  have H := hideIt h
  clear h
  by_cases hn : n ≤ 1048576
  · go_enter Tryd.func7, Tryd.ntmps7
    go_wp2_with fail
    refine (drawLeaves_any _ p n cap H.out hcap hn).mono ?_
    rintro e w1 ⟨G, c, _, rfl, ⟨L, rfl, hL, hS⟩, hb1⟩
    have HS := hideIt hS
    have HB := hideIt hb1
    clear hS hb1
    go_wp2_with fail
    refine (implLeaves_any L G c x _ HS.out.at (by omega) HS.out.cap (errB HB.out h0 he) (posB HB.out h0)).mono ?_
    rintro e w2 ⟨v, rfl, hr2, hb2⟩
    have hF : (lfs L (standL L)).length ≤ 74 := by rw [lfs_len]; exact Nat.le_trans (stand_len L) hL
    have HR := hideIt (ownsRow_base HB.out.size hr2)
    have HS := hideIt (HS.out.below hb2)
    have HB := hideIt (Bstep HB.out hb2)
    clear hb2 hr2
    cases ho : opsB L
    · have HO := hideIt ho
      clear ho
      go_wp2_with (first
        | (go_at_call 12; refine (specLf_any L G c _ HS.out.at (by omega) HS.out.cap).mono ?_; rintro e w3 ⟨v3, rfl, hr3, hb3⟩; have HR3 := hideIt hr3; have HR := hideIt (rowKeep HR.out hb3); have HS := hideIt (HS.out.below hb3); have HB := hideIt (Bstep HB.out hb3); clear hb3 hr3)
        | (go_at_call 11; refine (ltLeaves_rows (lfs L (standL L)) _ _ _ _ _ HR.out HR3.out (by omega)).mono ?_; rintro e w4 ⟨rfl, hb4⟩; have HR := hideIt (rowKeep HR.out hb4); have HS := hideIt (HS.out.below hb4); have HB := hideIt (Bstep HB.out hb4); clear hb4)
        | (go_at_call 13; refine (specOps_any L G c _ HS.out.at (by omega) HS.out.cap).mono ?_; rintro e w5 ⟨rfl, hb5⟩; rw [HO.out]; have HR := hideIt (rowKeep HR.out hb5); have HS := hideIt (HS.out.below hb5); have HB := hideIt (Bstep HB.out hb5); clear hb5))
      go_ret
      exact ⟨rfl, HB.out⟩
    · have HO := hideIt ho
      have hst : standL L = allO L := by unfold standL; rw [if_pos ho]
      clear ho
      go_wp2_with (first
        | (go_at_call 12; refine (specLf_any L G c _ HS.out.at (by omega) HS.out.cap).mono ?_; rintro e w3 ⟨v3, rfl, hr3, hb3⟩; have HR3 := hideIt hr3; have HR := hideIt (rowKeep HR.out hb3); have HS := hideIt (HS.out.below hb3); have HB := hideIt (Bstep HB.out hb3); clear hb3 hr3)
        | (go_at_call 11; refine (ltLeaves_rows (lfs L (standL L)) _ _ _ _ _ HR.out HR3.out (by omega)).mono ?_; rintro e w4 ⟨rfl, hb4⟩; have HR := hideIt (rowKeep HR.out hb4); have HS := hideIt (HS.out.below hb4); have HB := hideIt (Bstep HB.out hb4); clear hb4)
        | (go_at_call 13; refine (specOps_any L G c _ HS.out.at (by omega) HS.out.cap).mono ?_; rintro e w5 ⟨rfl, hb5⟩; rw [HO.out]; have HR := hideIt (rowKeep HR.out hb5); have HS := hideIt (HS.out.below hb5); have HB := hideIt (Bstep HB.out hb5); clear hb5))
      rw [hst] at HR hF
      have HKA := hideIt (kidsTo_all HO.out)
      have hkz := kidsTo_zero HO.out
      have hkl := kidsTo_le L 0
      generalize lfs L (allO L) = F at *
      obtain ⟨q4, c4, rfl, _⟩ := lf_cases HR.out
      clear HR
      generalize hz0 : (kidsL L (0, 0, 0)).length = z0 at *
      generalize hz1 : (kidsL L (0, 0, 1)).length = z1 at *
      have hz0b : (z0 : Int) ≤ 74 := by omega
      have hz1b : (z1 : Int) ≤ 74 := by omega
      go_wp2_with (first
            | (go_at_call 18; refine (implKidsS_any L HO.out G c _ _ _ x _ HS.out.at (by omega) HS.out.cap (errB HB.out h0 he) (posB HB.out h0) (wf_small ⟨by omega, by omega⟩) (wf_small ⟨by omega, by omega⟩) (wf_small ⟨by omega, by omega⟩)).mono ?_; rintro e w6 ⟨q6, c6, rfl, _, hb6⟩; have HS := hideIt (HS.out.below hb6); have HB := hideIt (Bstep HB.out hb6); clear hb6))
      all_goals
        go_loopw [5, 6] (fun nv i wr => ∃ k : Nat, k ≤ L.length ∧ i = .int .i64 k ∧ nv = .int .i64 (kidsTo L k : Nat) ∧ OwnOps wr w.heap.size G c L ∧ Below w.heap.size w wr) (fun _ i _ => L.length - (intOf i).toNat)
        case atStart => exact ⟨0, Nat.zero_le _, rfl, by rw [hkz]; congr 1; omega, HS.out, HB.out⟩
        case round =>
          clear HS HB
          obtain ⟨k, hk, rfl, rfl, hS, hB⟩ := hrel
          have HS := hideIt hS
          have HB := hideIt hB
          clear hS hB
          by_cases hlt : k < L.length
          · have hlt' : (k : Int) < (L.length : Int) := by omega
            have hk0 : (0 : Int) ≤ (k : Int) := by omega
            have hpk : L[k]? = some L[k] := by simp [hlt]
            have hmem : L[k] ∈ L := List.getElem_mem hlt
            have HY : Hid (¬ L[k].k = 2 → kidsTo L (k + 1) = kidsTo L k + (kidsL L (L[k].a, L[k].b, 0)).length + (kidsL L (L[k].a, L[k].b, 1)).length) := kidsTo_yes HO.out hlt
            have HN : Hid (L[k].k = 2 → kidsTo L (k + 1) = kidsTo L k) := kidsTo_no hlt
            have hkind := op_kind HO.out hmem
            have hwf := op_wf HO.out hmem
            generalize L[k] = o at *
            obtain ⟨y0, y1, y2, y3, y4, y5, y6⟩ := HS.out.at.2 k o hpk
            rcases hkind with hk1 | hk2
            · have hk2 : ¬ o.k = 2 := by omega
              have hE := HY.out hk2
              have hle := kidsTo_le L (k + 1)
              obtain ⟨hwa, hwb, hwc, hwd, hws⟩ := hwf
              have HKID := hideIt (kid_of hmem hk1)
              clear HY HN
              have HE := hideIt hE
              generalize hl0 : (kidsL L (o.a, o.b, 0)).length = l0 at *
              generalize hl1 : (kidsL L (o.a, o.b, 1)).length = l1 at *
              have hb0 : (l0 : Int) ≤ 74 := by omega
              have hb1 : (l1 : Int) ≤ 74 := by omega
              have hb2 : ((kidsTo L k : Nat) : Int) ≤ 74 := by omega
              have hww : IntKind.i64.wrap (IntKind.i64.wrap (((kidsTo L k : Nat) : Int) + (l0 : Int)) + (l1 : Int)) = ((kidsTo L k : Nat) : Int) + (l0 : Int) + (l1 : Int) := by
                rw [IntWalk.i64_in (((kidsTo L k : Nat) : Int) + (l0 : Int)) ⟨by omega, by omega⟩]
                exact IntWalk.i64_in _ ⟨by omega, by omega⟩
              have HWW := hideIt hww
              clear hww
              go_wp2
              have HS := hideIt (HS.out.below ((Below.refl _ _).drew))
              have HB := hideIt (HB.out.drew)
              go_region_held3 (fun w' => w'.cell? ⟨G, k * 7, none⟩ = some (.int .i64 o.a) ∧ w'.cell? ⟨G, k * 7 + 1, none⟩ = some (.int .i64 o.b)) (first | exact ⟨y0, y1⟩)
                (first
            | (go_at_call 18; refine (implKidsS_any L HO.out G c _ _ _ x _ HS.out.at (by omega) HS.out.cap (errB HB.out h0 he) (posB HB.out h0) (hwa) (hwb) (wf_small ⟨by omega, by omega⟩)).mono ?_; rintro e w6 ⟨q6, c6, rfl, _, hb6⟩; have y0 : w6.cell? ⟨G, k * 7, none⟩ = _ := ((bcell hb6).1 G _ HS.out.lt.2).trans y0; have y1 : w6.cell? ⟨G, k * 7 + 1, none⟩ = _ := ((bcell hb6).1 G _ HS.out.lt.2).trans y1; have HS := hideIt (HS.out.below hb6); have HB := hideIt (Bstep HB.out hb6); clear hb6))
              all_goals
                rename_i hHH
                clear hHH
                have HX := hideIt y0
                clear y0 y1 y2 y3 y4 y5 y6
                obtain ⟨y0, y1, y2, y3, y4, y5, y6⟩ := HS.out.at.2 k o hpk
                go_wp2
                have HS := hideIt (HS.out.below ((Below.refl _ _).drew))
                have HB := hideIt (HB.out.drew)
                go_region_held3 (fun w' => w'.cell? ⟨G, k * 7 + 3, none⟩ = some (.int .i64 o.c) ∧ w'.cell? ⟨G, k * 7 + 4, none⟩ = some (.int .i64 o.d) ∧ w'.cell? ⟨G, k * 7 + 5, none⟩ = some (.int .i64 o.s)) (first | exact ⟨y3, y4, y5⟩ | exact ⟨u3, u4, u5⟩)
                  (first
                  | (go_at_call 18; refine (implKidsS_any L HO.out G c _ _ _ x _ HS.out.at (by omega) HS.out.cap (errB HB.out h0 he) (posB HB.out h0) hwc hwd hws).mono ?_; rintro e w7 ⟨q7, c7, rfl, hq7, hb7⟩; have u3 : w7.cell? ⟨G, k * 7 + 3, none⟩ = _ := ((bcell hb7).1 G _ HS.out.lt.2).trans y3; have u4 : w7.cell? ⟨G, k * 7 + 4, none⟩ = _ := ((bcell hb7).1 G _ HS.out.lt.2).trans y4; have u5 : w7.cell? ⟨G, k * 7 + 5, none⟩ = _ := ((bcell hb7).1 G _ HS.out.lt.2).trans y5; have HS := hideIt (HS.out.below hb7); have HB := hideIt (Bstep HB.out hb7); have HQ := hideIt hq7; clear hb7 hq7))
                rename_i hHH
                clear hHH u3 u4 u5 y0 y1 y2 y3 y4 y5 y6
                have hKl : (kidsL L (o.c, o.d, o.s)).length ≤ 74 := Nat.le_trans (List.length_filter_le _ _) hL
                generalize kidsL L (o.c, o.d, o.s) = K at *
                go_wp2
                go_loopw [7, 9] (fun iv i wr => ∃ j : Nat, j ≤ K.length ∧ i = .int .i64 j ∧ iv = .bool (inTo K j o.a o.b) ∧ (0 < K.length → ∃ gk, q7 = some ⟨gk, 0, none⟩ ∧ K.length ≤ c7 ∧ gk < wr.heap.size ∧ ∀ j, j < K.length * 2 → wr.cell? ⟨gk, j, none⟩ = (idCells (idsOf K))[j]?) ∧ OwnOps wr w.heap.size G c L ∧ Below w.heap.size w wr) (fun _ i _ => K.length - (intOf i).toNat)
                case atStart => exact ⟨0, Nat.zero_le _, rfl, by rw [inTo_zero], HQ.out, HS.out, HB.out⟩
                case round =>
                  clear HQ HS HB
                  obtain ⟨j, hj, rfl, rfl, hQ, hS, hB⟩ := hrel
                  have HQ := hideIt hQ
                  have HS := hideIt hS
                  have HB := hideIt hB
                  clear hQ hS hB
                  by_cases hjl : j < K.length
                  · obtain ⟨gk, rfl, hc7, hgk, hx7⟩ := HQ.out (by omega)
                    have hjl' : (j : Int) < (K.length : Int) := by omega
                    have hj0 : (0 : Int) ≤ (j : Int) := by omega
                    obtain ⟨y0, y1, _⟩ := HS.out.at.2 k o hpk
                    obtain ⟨v0, v1⟩ := idCells_at (idsOf K) j (K[j].a, K[j].b) (by simp [idsOf, hjl])
                    have z0 := (hx7 (j * 2) (by omega)).trans v0
                    have z1 := (hx7 (j * 2 + 1) (by omega)).trans v1
                    have HM := hideIt (inTo_more hjl o.a o.b)
                    clear v0 v1 hx7
                    generalize K[j] = q at *
                    have HQ' : Hid (∀ W', Below wr.heap.size wr W' → (0 < K.length → ∃ gk', some (⟨gk, 0, none⟩ : Addr) = some ⟨gk', 0, none⟩ ∧ K.length ≤ c7 ∧ gk' < W'.heap.size ∧ ∀ j, j < K.length * 2 → W'.cell? ⟨gk', j, none⟩ = (idCells (idsOf K))[j]?)) := fun W' hb' h => by
                      obtain ⟨gk', e', h1, h2, h3⟩ := HQ.out h
                      exact ⟨gk', e', h1, Nat.lt_of_lt_of_le h2 hb'.size, fun j hj => ((bcell hb').1 gk' _ h2).trans (h3 j hj)⟩
                    cases hgt : inTo K j o.a o.b
                    · by_cases hc : q.a = o.a
                      · by_cases hd : q.b = o.b
                        · have HE2 : Hid (inTo K (j + 1) o.a o.b = true) := by show inTo K (j + 1) o.a o.b = true; rw [HM.out, hgt]; simp [hc, hd]
                          clear HM hgt HQ
                          go_wp2
                          go_quiet (fail)
                          go_wp2
                          exact ⟨⟨j + 1, by omega, by go_num, by rw [HE2.out], HQ'.out _ (below_drewN (Below.refl _ _) _), HS.out.below (below_drewN (Below.refl _ _) _), below_drewN HB.out _⟩, by simp [intOf]; omega⟩
                        · have HE2 : Hid (inTo K (j + 1) o.a o.b = false) := by show inTo K (j + 1) o.a o.b = false; rw [HM.out, hgt]; simp [hc, hd]
                          clear HM hgt HQ
                          go_wp2
                          go_quiet (fail)
                          go_wp2
                          exact ⟨⟨j + 1, by omega, by go_num, by rw [HE2.out], HQ'.out _ (below_drewN (Below.refl _ _) _), HS.out.below (below_drewN (Below.refl _ _) _), below_drewN HB.out _⟩, by simp [intOf]; omega⟩
                      · have HE2 : Hid (inTo K (j + 1) o.a o.b = false) := by show inTo K (j + 1) o.a o.b = false; rw [HM.out, hgt]; simp [hc]
                        clear HM hgt HQ
                        go_wp2
                        go_quiet (fail)
                        go_wp2
                        exact ⟨⟨j + 1, by omega, by go_num, by rw [HE2.out], HQ'.out _ (below_drewN (Below.refl _ _) _), HS.out.below (below_drewN (Below.refl _ _) _), below_drewN HB.out _⟩, by simp [intOf]; omega⟩
                    · have HE2 : Hid (inTo K (j + 1) o.a o.b = true) := by show inTo K (j + 1) o.a o.b = true; rw [HM.out, hgt]; rfl
                      clear HM hgt HQ
                      go_wp2
                      go_quiet (fail)
                      go_wp2
                      exact ⟨⟨j + 1, by omega, by go_num, by rw [HE2.out], HQ'.out _ (below_drewN (Below.refl _ _) _), HS.out.below (below_drewN (Below.refl _ _) _), below_drewN HB.out _⟩, by simp [intOf]; omega⟩
                  · obtain rfl : j = K.length := by omega
                    rw [inTo_all HKID.out]
                    go_wp2
                    exact ⟨⟨k + 1, by omega, by go_num, by rw [HE.out]; congr 1 <;> first | rfl | (rw [HWW.out]) | omega, HS.out, HB.out⟩, by simp [intOf]; omega⟩
            · have HE := hideIt (HN.out hk2)
              clear HY HN
              go_wp2
              exact ⟨⟨k + 1, by omega, by go_num, by rw [HE.out], HS.out, HB.out⟩, by simp [intOf]; omega⟩
          · obtain rfl : k = L.length := by omega
            rw [HKA.out]
            go_wp2
            go_ret
            exact ⟨rfl, HB.out⟩
  · go_enter Tryd.func7, Tryd.ntmps7
    unfold maxLen at *
    have hn' : (1048576 : Int) < (n : Int) := by omega
    go_wp2
    go_ret
    exact ⟨rfl, Below.refl _ _⟩
end Go.Proofs.YthhlhogknpgccaaDoor

namespace Go.Proofs.YthhlhogknpgccaaDoor
open Go.ChangeShapes Go.WideShapes Go.ChangeAt Go.RowKit Go.Joins

theorem own : ownKnob Tryd.prog.godebug = none := by kernel_rfl
theorem laidOut : laidOutB Tryd.prog = true := by kernel_rfl
theorem cells_int : Tryd.prog.cellsOf 3 = 1 := by kernel_rfl

/-- The name of the one listed variable. -/
abbrev errName : String := Rows.fnLeavesAllSpec.vars.headD ""
/-- What the rows list. -/
abbrev laid1 : List (String × DataW Unit) := Rows.fnLeavesAllRow.laid
theorem gErr : Tryd.prog.globalNamed errName = some 0 := by kernel_rfl
theorem tErr : (Tryd.prog.globals[0]?).map (·.type) = some 52 := by kernel_rfl
def nmOf : DataW Unit → String
  | .iface n _ => n
  | _ => ""
theorem star : "*" ++ "errors.errorString" = nmOf Rows.laid_loop_example_tatting_impl_errNoThing := by decide
theorem nameErr (u : TypeId) (h : Tryd.prog.typeName? 3 u = some (nmOf Rows.laid_loop_example_tatting_impl_errNoThing)) : u = 138 :=
  typeName_ptr_named (nm := "errors.errorString") (by rw [star]; kernel_rfl) (by kernel_rfl) (by decide) u (by rw [star]; exact h)

theorem door_met (os : Os) (args : Array Value) : laidMetH Tryd.prog laid1 ((World.doorLaid Tryd.prog 28 os).forCall (fun _ _ => 0) ⟨#[], args, []⟩).memory :=
  laidMetH_of_parts3 (fuel := 8) (laidMet_of_run' 8 (by kernel_rfl) (by kernel_rfl)) (by kernel_rfl) (by kernel_rfl)

/-- WHAT THE CONDITION GIVES THE WALKS: the one error's cell. -/
theorem of_laid {W : World} (h : laidMetH Tryd.prog laid1 W) : ∃ x : Addr, W.var? Tryd.prog errName = some #[.iface 138 (.pointer (some x))] ∧ W.cell? ⟨0, 0, none⟩ = some (.iface 138 (.pointer (some x))) ∧ 0 < W.heap.size := by
  rw [MakeChecks.laidMetH_plain _ _ _ (by kernel_rfl)] at h
  obtain ⟨x, s, hv, hc, _, _⟩ := laid_sentinel h gErr tErr Tryd.underlying52 nameErr Tryd.underlying138 Tryd.underlying164 rfl rfl Tryd.underlying9 (by kernel_rfl) (by kernel_rfl)
  have hcell : W.cell? ⟨0, 0, none⟩ = some (.iface 138 (.pointer (some x))) := by simpa using World.var?_cell gErr hv 0
  refine ⟨x, hv, hcell, ?_⟩
  rcases Nat.eq_zero_or_pos W.heap.size with h0 | h0
  · exfalso
    simp [World.cell?, Array.eq_empty_of_size_eq_zero h0] at hcell
  · exact h0

/-- The variable holds what it held, where nothing that was there has turned. -/
theorem var_kept {W W' : World} {x : Value} (hb : Below W.heap.size W W') (h0 : 0 < W.heap.size) (hv : W.var? Tryd.prog errName = some #[x]) : W'.var? Tryd.prog errName = some #[x] := by
  unfold World.var? at hv ⊢
  rw [gErr] at hv ⊢
  simp only [Option.bind_some] at hv ⊢
  rw [hb.block 0 h0]
  exact hv
end Go.Proofs.YthhlhogknpgccaaDoor

namespace Go.Proofs.YthhlhogknpgccaaDoor
open Go.ChangeShapes Go.WideShapes Go.ChangeAt Go.RowKit Go.Joins

theorem cells_byte : Tryd.prog.cellsOf 5 = 1 := by kernel_rfl

set_option maxRecDepth 100000 in
theorem open_bytes {H : Type} {enc : TypeId × Value → H} {w : World} {r : Reach} {b0 : Nat} {spare : Nat → Bool} {held : Bool} {v : Value} {d : DataW H} {p : List MemPlace}
    (hv : Value.okWide Tryd.prog w r b0 22 v) (h : DataW.Trod enc Tryd.prog w 0 spare held 22 v d p) :
    ∃ (q : Option Addr) (n cap : Nat), v = .slice q n cap ∧ n ≤ cap ∧ cap ≤ maxLen ∧ ArgBytes w q n := by
  obtain ⟨q, len, cap, rfl⟩ := okWide_slice Tryd.underlying22 hv
  obtain ⟨fuel, hf⟩ := h
  rcases open_ints Tryd.underlying22 Tryd.underlying5 cells_byte hf with ⟨hcs, _⟩ | ⟨a, len', cap', zs, hcs, _, hl, hm, hz, _, hcell, hwz⟩
  · simp [Value.cells] at hcs
    obtain ⟨rfl, rfl, rfl⟩ := hcs
    exact ⟨none, 0, 0, rfl, Nat.le_refl _, Nat.zero_le _, .inl rfl⟩
  · simp [Value.cells] at hcs
    obtain ⟨rfl, rfl, rfl⟩ := hcs
    refine ⟨some a, len, cap, rfl, hl, hm, ?_⟩
    have hlz : len ≤ zs.length := by rw [hz]; split <;> omega
    rcases Nat.eq_zero_or_pos len with h0 | h0
    · exact .inl h0
    obtain ⟨b, off, spot⟩ := a
    have hspot : spot = none := by simpa [Addr.add] using World.cell?_spot (hcell 0 (by omega))
    subst hspot
    refine .inr ⟨b, off, rfl, ?_, fun i hi => ?_⟩
    · have := World.block_lt_of_cell? w _ (hcell 0 (by omega))
      simpa [Addr.add_lit] using this
    · have hc := hcell i (by omega)
      rw [Addr.add_lit] at hc
      have hb := range_u8 hwz i
      exact ⟨zs.getD i 0, by simpa [List.getD] using hb.1, by simpa [List.getD] using hb.2, hc⟩

end Go.Proofs.YthhlhogknpgccaaDoor

namespace Go.Proofs.YthhlhogknpgccaaDoor
open Go.ChangeShapes Go.WideShapes Go.ChangeAt Go.RowKit Go.Joins

set_option maxRecDepth 100000 in
theorem liftedFnKidsAll (os : Os) (started : os.Started) (H : Type) (enc : TypeId × Value → H) :
    ReturnsInHanded {} Tryd.checked os 7 .any (fun w args => (Rows.fnKidsAllSpec.pre enc Tryd.prog Tryd.f7 [] false w args ∧ laidMetH Tryd.prog laid1 w) ∧ sizedMet enc Tryd.prog Tryd.f7 (OpenSpec.ofChange Rows.fnKidsAllSpec) false w args)
      (Rows.fnKidsAllSpec.post enc Tryd.prog Tryd.f7 false true false false) := by
  refine returnsInHanded_of_change_and (C := Tryd.checked) (X := fun w _ => laidMetH Tryd.prog laid1 w) (fun _ _ _ hh h => h.of_heap hh) own started (by kernel_rfl) Tryd.func7
    (ChangeSpec.witness_shaped (enc := enc) (C := Tryd.checked) (os := os) (X := fun w _ => laidMetH Tryd.prog laid1 w) false (World.doorLaid Tryd.prog 28 os) #[.slice none 0 0] 8 rfl (World.shaped_of_RefB (by kernel_rfl) (by kernel_rfl)) (by kernel_rfl) (by kernel_rfl) (by kernel_rfl) (door_met os _)) ?_
  intro W base args ds gs before hval0 hW _ _ hL _
  have hval : ∀ (j : Nat) t v, Tryd.f7.params[j]? = some t → args[j]? = some v → Value.okWide Tryd.prog W .any base t v := hval0
  have hW' := hW
  obtain ⟨p, q, hA0, hV0, rfl, hfz, hnd⟩ := hW
  have hA : DataW.TrodAll enc Tryd.prog W 0 (fun _ => true) true Tryd.f7.params.toList args.toList ds p := hA0
  have hV : DataW.TrodVars enc Tryd.prog W (fun _ => true) [errName] gs q := hV0
  rw [Tryd.params7] at hA hval
  obtain ⟨v0, d0, rfl, rfl, h0⟩ := trodAll_one hA
  have k0 := h0
  have lt0 : ∀ x ∈ p, x.block < W.heap.size := by obtain ⟨m, hm⟩ := k0; exact DataW.trod_lt m _ _ _ hm
  obtain ⟨x, hv, hc, hpos⟩ := of_laid hL
  obtain ⟨rfl, rfl⟩ := hV.unique (vars_read1 enc gErr tErr Tryd.underlying52 hv trivial _)
  obtain ⟨q0, n0, c0, rfl, hc0, hm0, ha0⟩ := open_bytes (hval 0 22 v0 rfl rfl) h0
  clear hA0 hV0 hval0
  refine (walkKidsAll W q0 n0 c0 ha0 hc0 hm0 x hc hpos).mono fun e W' ⟨he, bel⟩ => ?_
  subst he
  exact ⟨_, rfl, _, _, _, [], p, [.cell 0 0], hW', trodAll_mk1 (shut_bool Tryd.underlying4 _), trodAll_mk1 (Below.trod laidOut (by kernel_rfl) (of_decide_eq_true (by kernel_rfl)) k0 bel lt0), vars_read1 enc gErr tErr Tryd.underlying52 (var_kept bel hpos hv) trivial _, bel.frame _, fun h => by cases h⟩

theorem fnKidsAll_row : Rows.FnKidsAllSaid :=
  OpenClaim.holds_of_wide 7 Tryd.f7 rfl rfl rfl rfl rfl rfl rfl ⟨rfl, rfl, rfl, rfl, rfl⟩ rfl rfl rfl rfl rfl (by kernel_rfl) Tryd.func7 (by kernel_rfl)
    (of_decide_eq_true (by kernel_rfl)) (by unfold Func.isWrapper; first | (rw [if_pos (by decide +kernel)]; kernel_rfl) | (rw [if_neg (by decide +kernel)]; exact ⟨rfl, rfl⟩))
    (fun os started H enc _ => liftedFnKidsAll os started H enc)

/-- THE STATEMENT. -/
theorem fnKidsAll_holds : Rows.FnKidsAllCardSaid :=
  Claim7.holds_tied_plain_at .later [] Rows.fnKidsAllCard.laidKinds true Rows.fnKidsAllCard.stood.harness true
    fnKidsAll_row (fun _ h => by cases h) (by kernel_rfl) (fun _ h => by cases h) fnKidsAll_row_tie rfl ⟨rfl, rfl⟩ (by kernel_rfl) rfl
    (fun f fn hf hfn => by
      obtain rfl : f = 7 := Option.some.inj ((show Tryd.prog.funcNamed Rows.fnKidsAllRow.func = some 7 by kernel_rfl).symm.trans hf) |>.symm
      obtain rfl : fn = Tryd.f7 := (Option.some.inj (Tryd.func7.symm.trans hfn)).symm
      exact ⟨by kernel_rfl, fun j t ht => by
        rw [Tryd.params7] at ht
        have hm : t ∈ [22] := by simpa using Array.mem_of_getElem? ht
        have hall : ([22].all fun u => !Tryd.prog.wantsStandIn u) = true := by kernel_rfl
        exact (show Tryd.prog.wantsStandIn t = false by simpa using List.all_eq_true.1 hall t hm)⟩)
    (by kernel_rfl)
#print axioms fnKidsAll_holds
end Go.Proofs.YthhlhogknpgccaaDoor
