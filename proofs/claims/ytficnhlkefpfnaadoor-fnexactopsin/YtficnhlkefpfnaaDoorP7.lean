/-
  PROVED: at every argument the program's OpsIn answers as its specification, and writes into no argument (the given card of FnExactOpsIn), for every input; the one listed variable, the program's error, reads as its own initialiser lays it.
-/
import Derived.Test.YtficnhlkefpfnaaDoorP3
import Derived.Test.YtficnhlkefpfnaaDoorP5
import Derived.Test.YtficnhlkefpfnaaDoorP2
import Derived.Test.YtficnhlkefpfnaaDoorP0
import Derived.Test.YtficnhlkefpfnaaDoorP6
import Derived.Test.YtficnhlkefpfnaaDoorTie
import Derived.Test.YtficnhlkefpfnaaDoorCards
import Derived.SevenTiedAt
namespace Go.Proofs.YtficnhlkefpfnaaDoor
open Go.RowKit
set_option linter.unusedSimpArgs false
set_option linter.unusedVariables false
attribute [local go_sem ↓] Go.wp_at_zero Go.wp_at_succ

/-- What a tells of something b tells too. -/
def hasB (b : List Op7) (x : Op7) : Prop := ¬ findI b x.a x.b < 0 ∧ b[(findI b x.a x.b).toNat]? = some x
theorem hasB_iff {b : List Op7} (hb : Asc b) {x : Op7} : hasB b x ↔ x ∈ b := by
  constructor
  · rintro ⟨_, h⟩
    exact List.mem_of_getElem? h
  · intro h
    have hf : ¬ findI b x.a x.b < 0 := fun hf => findI_not hf x h ⟨rfl, rfl⟩
    refine ⟨hf, ?_⟩
    obtain ⟨j, hj, hjl⟩ := findI_lt hf
    rw [hj]
    unfold findI at hj
    split at hj
    · rename_i i hi
      obtain ⟨h3, h4, _⟩ := List.findIdx?_eq_some_iff_getElem.1 hi
      have : i = j := by omega
      subst this
      unfold hasId at h4
      have h5 : b[i].a = x.a ∧ b[i].b = x.b := by simpa using h4
      have := asc_once hb (List.getElem_mem h3) h h5
      simp [h3, this]
    · omega
def InSaid (a b : List Op7) (z : Bool) : Prop := (z = true ∧ ∀ x ∈ a, hasB b x) ∨ (z = false ∧ ∃ x ∈ a, ¬ hasB b x)

set_option maxRecDepth 100000 in
set_option maxHeartbeats 2000000 in
theorem l12In_any (a b : List Op7) (ga ca gb cb : Nat) (w : World) (ha : OpsAt w ga a) (hb : OpsAt w gb b) (hna : a.length ≤ 1048576) (hnb : b.length ≤ 1048576) (hca : a.length ≤ ca) (hcb : b.length ≤ cb) :
    Calls Tryd.prog 72 #[.slice (some ⟨ga, 0, none⟩) a.length ca, .slice (some ⟨gb, 0, none⟩) b.length cb] w fun e w' => (∃ z, e = .returned (.bool z) ∧ InSaid a b z) ∧ Below w.heap.size w w' := by
  have HA := hideIt ha
  have HB := hideIt hb
  have hga := ha.1
  have hgb := hb.1
  clear ha hb
  go_enter Tryd.func72, Tryd.ntmps72
  go_wp2
  go_loopw [5] (fun i wr => ∃ k : Nat, k ≤ a.length ∧ i = .int .i64 k ∧ (∀ j (hj : j < a.length), j < k → hasB b a[j]) ∧ Below w.heap.size w wr) (fun i _ => a.length - (intOf i).toNat)
  case atStart => exact ⟨0, Nat.zero_le _, rfl, fun j _ h => by omega, by go_grown⟩
  case round =>
    obtain ⟨k, hk, rfl, hag, hBr⟩ := hrel
    have HAG : Hid (∀ j (hj : j < a.length), j < k → hasB b a[j]) := hag
    have HBr := hideIt hBr
    clear hag hBr
    by_cases hlt : k < a.length
    · have hlt' : (k : Int) < (a.length : Int) := by omega
      have hk0 : (0 : Int) ≤ (k : Int) := by omega
      have HX : Hid (hasB b a[k] → ∀ j (hj : j < a.length), j < k + 1 → hasB b a[j]) := fun h j hj hjk => by
        rcases Nat.lt_or_ge j k with h' | h'
        · exact HAG.out j hj h'
        · obtain rfl : j = k := by omega
          exact h
      have HM : Hid (a[k] ∈ a) := List.getElem_mem hlt
      have hpk : a[k]? = some a[k] := by simp [hlt]
      generalize a[k] = p at *
      have hgar : ga < wr.heap.size := Nat.lt_of_lt_of_le hga HBr.out.size
      have hgbr : gb < wr.heap.size := Nat.lt_of_lt_of_le hgb HBr.out.size
      have HAL := hideIt (HA.out.below HBr.out hga)
      have HBL := hideIt (HB.out.below HBr.out hgb)
      obtain ⟨y0, y1, y2, y3, y4, y5, y6⟩ := HAL.out.2 k p hpk
      go_wp2_with fail
      refine (l1Find_any b _ _ _ _ _ HBL.out hnb hcb).mono ?_
      rintro e w4 ⟨rfl, hb4⟩
      have HB4 := hideIt (Bstep HBr.out hb4)
      have HAL4 := hideIt (HA.out.below HB4.out hga)
      have HBL4 := hideIt (HB.out.below HB4.out hgb)
      clear hb4 y0 y1 y2 y3 y4 y5 y6 HAL HBL
      obtain ⟨y0, y1, y2, y3, y4, y5, y6⟩ := HAL4.out.2 k p hpk
      by_cases hf : findI b p.a p.b < 0
      · have HF : Hid (¬ hasB b p) := fun h => h.1 hf
        have hf2 : findI b p.a p.b = -1 := findI_m1 hf
        clear hf
        rw [hf2]
        clear hf2
        go_wp2
        go_quiet (fail)
        go_wp2
        go_ret
        exact ⟨⟨_, rfl, .inr ⟨rfl, p, HM.out, HF.out⟩⟩, below_drewN HB4.out nq⟩
      · obtain ⟨j, hj, hjl⟩ := findI_lt hf
        have hj' : b[j]? = some b[j] := by simp [hjl]
        obtain ⟨z0, z1, z2, z3, z4, z5, z6⟩ := HBL4.out.2 j _ hj'
        have HF : Hid (b[j] = p → hasB b p) := fun h => ⟨hf, by rw [hj]; simp [hjl, h]⟩
        have HG : Hid (b[j] ≠ p → ¬ hasB b p) := fun h hh => by
          have hh := hh.2
          rw [hj] at hh; simp [hjl] at hh; exact h hh
        rw [hj]
        clear hf hj hj'
        generalize b[j] = q at *
        have hj0 : (0 : Int) ≤ (j : Int) := by omega
        have hj1 : ¬ ((j : Int) < 0) := by omega
        have hjl' : (j : Int) < (b.length : Int) := by omega
        by_cases hq : q = p
        · have HFo := hideIt (HF.out hq)
          subst hq
          go_wp2
          go_quiet (fail)
          go_wp2
          exact ⟨⟨k + 1, by omega, by go_num, HX.out HFo.out, below_drewN HB4.out _⟩, by simp [intOf]; omega⟩
        · have HFo := hideIt (HG.out hq)
          have hne := op_ne hq
          clear HF HG HX hq hpk HAG HAL4 HBL4
          rcases hne with hne | ⟨e0, hne⟩ | ⟨e0, e1, hne⟩ | ⟨e0, e1, e2, hne⟩ | ⟨e0, e1, e2, e3, hne⟩ | ⟨e0, e1, e2, e3, e4, hne⟩ | ⟨e0, e1, e2, e3, e4, e5, hne⟩
          all_goals
            go_wp2
            go_quiet (fail)
            go_wp2
            go_ret
            exact ⟨⟨_, rfl, .inr ⟨rfl, p, HM.out, HFo.out⟩⟩, below_drewN HB4.out nq⟩
    · have hkl : k = a.length := by omega
      have HE : Hid (∀ x ∈ a, hasB b x) := fun x hx => by
        obtain ⟨i, hi⟩ := List.getElem?_of_mem hx
        obtain ⟨h1, h2⟩ := List.getElem?_eq_some_iff.1 hi
        rw [← h2]
        exact HAG.out i h1 (by omega)
      subst hkl
      clear HAG
      go_wp2
      go_ret
      exact ⟨⟨_, rfl, .inl ⟨rfl, HE.out⟩⟩, HBr.out⟩
/-- What OpsIn answers. -/
def OpsInSaid (a b : List Op7) (z : Bool) : Prop := (z = true ∧ opsB a = true ∧ opsB b = true ∧ ∀ x ∈ a, hasB b x) ∨ (z = false ∧ ¬ (opsB a = true ∧ opsB b = true ∧ ∀ x ∈ a, hasB b x))
set_option maxRecDepth 100000 in
set_option maxHeartbeats 2000000 in
theorem specIn_any (a b : List Op7) (ga ca gb cb : Nat) (w : World) (ha : OpsAt w ga a) (hb : OpsAt w gb b) (hna : a.length ≤ 1048576) (hnb : b.length ≤ 1048576) (hca : a.length ≤ ca) (hcb : b.length ≤ cb) :
    Calls Tryd.prog 31 #[.slice (some ⟨ga, 0, none⟩) a.length ca, .slice (some ⟨gb, 0, none⟩) b.length cb] w fun e w' => (∃ z, e = .returned (.bool z) ∧ OpsInSaid a b z) ∧ Below w.heap.size w w' := by
  have HA := hideIt ha
  have HB := hideIt hb
  have hga := ha.1
  have hgb := hb.1
  clear ha hb
  cases hoa : opsB a
  · have HO := hideIt hoa
    clear hoa
    go_enter Tryd.func31, Tryd.ntmps31
    go_wp2_with fail
    refine (specOps_any a _ _ _ HA.out hna hca).mono ?_
    rintro e w1 ⟨rfl, hb1⟩
    rw [HO.out]
    have HB1 := hideIt hb1
    clear hb1
    go_wp2
    go_ret
    exact ⟨⟨_, rfl, .inr ⟨rfl, fun h => by rw [HO.out] at h; exact absurd h.1 (by decide)⟩⟩, HB1.out⟩
  · cases hob : opsB b
    all_goals
      have HOA := hideIt hoa
      have HOB := hideIt hob
      clear hoa hob
      go_enter Tryd.func31, Tryd.ntmps31
      go_wp2_with fail
      refine (specOps_any a _ _ _ HA.out hna hca).mono ?_
      rintro e w1 ⟨rfl, hb1⟩
      rw [HOA.out]
      have HB1 := hideIt hb1
      clear hb1
      go_wp2_with fail
      refine (specOps_any b _ _ _ (HB.out.below HB1.out hgb) hnb hcb).mono ?_
      rintro e w2 ⟨rfl, hb2⟩
      rw [HOB.out]
      have HB2 := hideIt (Bstep HB1.out hb2)
      clear hb2 HB1
    · go_wp2
      go_ret
      exact ⟨⟨_, rfl, .inr ⟨rfl, fun h => by rw [HOB.out] at h; exact absurd h.2.1 (by decide)⟩⟩, HB2.out⟩
    · go_wp2_with fail
      refine (l12In_any a b _ _ _ _ _ (HA.out.below HB2.out hga) (HB.out.below HB2.out hgb) hna hnb hca hcb).mono ?_
      rintro e w3 ⟨⟨z, rfl, hz⟩, hb3⟩
      have HB3 := hideIt (Bstep HB2.out hb3)
      have HZ := hideIt hz
      clear hz hb3
      go_wp2
      go_ret
      refine ⟨⟨_, rfl, ?_⟩, HB3.out⟩
      rcases HZ.out with ⟨rfl, h⟩ | ⟨rfl, x, hx, h⟩
      · exact .inl ⟨rfl, HOA.out, HOB.out, h⟩
      · exact .inr ⟨rfl, fun hh => h (hh.2.2 x hx)⟩
end Go.Proofs.YtficnhlkefpfnaaDoor

namespace Go.Proofs.YtficnhlkefpfnaaDoor
open Go.RowKit Go.Shelf
set_option linter.unusedSimpArgs false
set_option linter.unusedVariables false
attribute [local go_sem] Oper.semAt_some

theorem ops_asc {l : List Op7} (h : opsB l = true) : Asc l := by
  exact ops_sorted h
/-- The box of the answer, and how great the memory is. -/
structure IB (R Q : Nat) (w W : World) : Prop where
  q : W.heap[R]? = some (.cells #[.bool false] 4 (0, 0))
  bel : Below R w W
  big : Q ≤ W.heap.size
theorem IB.below {R Q : Nat} {w W W' : World} (h : IB R Q w W) (hb : Below W.heap.size W W') : IB R Q w W' :=
  ⟨blk_bel7 h.q hb, h.bel.trans (hb.mono (by have := (Array.getElem?_eq_some_iff.1 h.q).1; omega)), Nat.le_trans h.big hb.size⟩
theorem IB.own {β : Type} {R Q B : Nat} {w : World} (hR : R ≤ w.heap.size) (hB : R ≤ B) : OwnFrom B (fun (_ : β) W => IB R Q w W) := by
  intro s A B' row hx hg hr
  exact ⟨own_blk B R (fun _ : β => #[.bool false]) _ s A B' row hx.q hg hr, ownFrom_below (β := β) hR hB s A B' row hx.bel hg hr, Nat.le_trans hx.big hg.size⟩
theorem IB.set {R Q : Nat} {w W : World} (h : IB R Q w W) : IB R Q w (W.setCell ⟨R, 0, none⟩ (.bool false)) :=
  ⟨pr_set h.q, h.bel.setCell (p := ⟨R, 0, none⟩) (Nat.le_refl _) _, by simpa using h.big⟩
theorem three (w : World) (o0 o1 o2 : Obj) (k : Nat) (hk : k < 3) : (((w.alloc o0).alloc o1).alloc o2).heap[w.heap.size + k]? = [o0, o1, o2][k]? := by
  have e : (((w.alloc o0).alloc o1).alloc o2).heap = ((w.heap.push o0).push o1).push o2 := rfl
  rw [e]
  have : k = 0 ∨ k = 1 ∨ k = 2 := by omega
  rcases this with rfl | rfl | rfl <;> simp [Array.getElem?_push, Array.getElem_push, Nat.add_assoc]
set_option maxRecDepth 100000 in
set_option maxHeartbeats 4000000 in
theorem implIn_in (a b : List Op7) (n : Nat) (h3 : 3 ≤ n) (ga ca gb cb : Nat) (x : Addr) (w : World) (ha : OpsAt w ga a) (hb : OpsAt w gb b) (hna : a.length ≤ 1048576) (hnb : b.length ≤ 1048576) (hca : a.length ≤ ca) (hcb : b.length ≤ cb)
    (he : w.cell? ⟨0, 0, none⟩ = some (.iface 200 (.pointer (some x)))) (h0 : 0 < w.heap.size) :
    CallsIn Fence.wide n Tryd.prog 32 #[.slice (some ⟨ga, 0, none⟩) a.length ca, .slice (some ⟨gb, 0, none⟩) b.length cb] w fun e w' => (∃ z, e = .returned (.bool z) ∧ OpsInSaid a b z) ∧ Below w.heap.size w w' := by
  have h1 : 1 ≤ n := by omega
  have HA := hideIt ha
  have HB := hideIt hb
  have hga := ha.1
  have hgb := hb.1
  clear ha hb
  refine callsIn_of_wp_marks Tryd.func32 rfl trivial ?_ rfl
  simp only [Tryd.ntmps32, List.size_toArray, List.length_cons, List.length_nil, Nat.reduceAdd, Nat.reduceSub, Array.replicate_succ, Array.replicate_zero, List.push_toArray, List.append_toArray, List.nil_append, List.cons_append]
  have HBX : Hid (Below w.heap.size w (w.alloc (.cells #[.bool false] 4))) := (Below.refl _ _).alloc (Nat.le_refl _) _
  have HRX : Hid ((w.alloc (.cells #[.bool false] 4)).heap[w.heap.size]? = some (.cells #[.bool false] 4 (0, 0))) := World.alloc_heap_new _ _
  cases hoa : opsB a
  · have HN : Hid (OpsInSaid a b false) := .inr ⟨rfl, fun h => by rw [hoa] at h; exact absurd h.1 (by decide)⟩
    have HOA := hideIt hoa
    clear hoa
    gi_wp2
    refine ⟨trivial, ?_⟩
    refine (callsIn_wide.2 (implOps_any a ga ca x _ (HA.out.below HBX.out hga) hna hca (errB HBX.out h0 he) (posB HBX.out h0))).mono ?_
    rintro e w1 ⟨rfl, hb1⟩
    rw [th_same, HOA.out]
    have HB1 := hideIt (Bstep HBX.out hb1)
    have hr1 := blk_bel7 HRX.out hb1
    have r0 := (blk_cell hr1 0).trans rfl
    have rf : ∀ j, w1.frozen? ⟨w.heap.size, j, none⟩ = false := fun j => by simp [World.frozen?, hr1]
    clear hb1
    gi_wp2
    refine ⟨trivial, ?_⟩
    gi_wp2
    have v0 := (blk_cell (pr_set (i := 0) (u := .bool false) hr1) 0).trans rfl
    exact ⟨.bool false, by simp [results, Tryd.results32, go_sem, v0], ⟨_, rfl, HN.out⟩, HB1.out.setCell (p := ⟨w.heap.size, 0, none⟩) (Nat.le_refl _) _⟩
  · have HOA := hideIt hoa
    clear hoa
    cases hob : opsB b
    all_goals
      have HOB := hideIt hob
      clear hob
      gi_wp2
      refine ⟨trivial, ?_⟩
      refine (callsIn_wide.2 (implOps_any a ga ca x _ (HA.out.below HBX.out hga) hna hca (errB HBX.out h0 he) (posB HBX.out h0))).mono ?_
      rintro e w1 ⟨rfl, hb1⟩
      rw [th_same, HOA.out]
      have HB1 := hideIt (Bstep HBX.out hb1)
      have HR1 := hideIt (blk_bel7 HRX.out hb1)
      clear hb1
      gi_wp2
      refine ⟨trivial, ?_⟩
      refine (callsIn_wide.2 (implOps_any b gb cb x _ (HB.out.below HB1.out hgb) hnb hcb (errB HB1.out h0 he) (posB HB1.out h0))).mono ?_
      rintro e w2 ⟨rfl, hb2⟩
      rw [th_same, HOB.out]
      have HR2 := hideIt (blk_bel7 HR1.out hb2)
      have HB2 := hideIt (Bstep HB1.out hb2)
      have hr2 := HR2.out
      have r0 := (blk_cell hr2 0).trans rfl
      have rf : ∀ j, w2.frozen? ⟨w.heap.size, j, none⟩ = false := fun j => by simp [World.frozen?, hr2]
      clear hb2 HB1 HR1
    · have HN : Hid (OpsInSaid a b false) := .inr ⟨rfl, fun h => by rw [HOB.out] at h; exact absurd h.2.1 (by decide)⟩
      gi_wp2
      have v0 := (blk_cell (pr_set (i := 0) (u := .bool false) hr2) 0).trans rfl
      exact ⟨.bool false, by simp [results, Tryd.results32, go_sem, v0], ⟨_, rfl, HN.out⟩, HB2.out.setCell (p := ⟨w.heap.size, 0, none⟩) (Nat.le_refl _) _⟩
    · clear r0 rf hr2
      gi_wp2
      refine ⟨trivial, ?_⟩
      refine (callsIn_wide.2 (inStep_any _ _ _ _ _ _ _)).mono ?_
      rintro e w3 ⟨rfl, TL, hw3⟩
      gi_wp2
      obtain ⟨W3, hW3⟩ : ∃ W3, (((w2.alloc (.cells #[.slice (some ⟨ga, 0, none⟩) a.length ca] 24)).alloc (.cells #[.slice (some ⟨gb, 0, none⟩) b.length cb] 24)).alloc (.cells #[.func (.func 74) #[] #[]] TL)) = W3 := ⟨_, rfl⟩
      obtain ⟨xa, xb, xl, hbw, hsz⟩ : W3.heap[w2.heap.size]? = some (.cells #[.slice (some ⟨ga, 0, none⟩) a.length ca] 24 (0, 0)) ∧ W3.heap[w2.heap.size + 1]? = some (.cells #[.slice (some ⟨gb, 0, none⟩) b.length cb] 24 (0, 0)) ∧ W3.heap[w2.heap.size + 2]? = some (.cells #[.func (.func 74) #[] #[]] TL (0, 0)) ∧ Below w2.heap.size w2 W3 ∧ W3.heap.size = w2.heap.size + 3 := by
        rw [← hW3]
        exact ⟨three w2 _ _ _ 0 (by omega), three w2 _ _ _ 1 (by omega), three w2 _ _ _ 2 (by omega), (((Below.refl _ _).alloc (Nat.le_refl _) _).alloc (by simp) _).alloc (by simp; omega) _, by simp⟩
      rw [hW3]
      have HSQ := hideIt (step_stops a b hna hnb (some ⟨ga, 0, none⟩) (some ⟨gb, 0, none⟩) ca cb w2.heap.size (w2.heap.size + 1) (w2.heap.size + 2) TL hca hcb w (.inr ⟨ga, rfl, HA.out⟩) (.inr ⟨gb, rfl, HB.out⟩) (n - 1) W3 (HB2.out.trans (hbw.mono HB2.out.size)) xa xb xl)
      have HI0 : Hid (IB w.heap.size (w2.heap.size + 3) w W3) := ⟨blk_bel7 HR2.out hbw, Bstep HB2.out hbw, by rw [hsz]; exact Nat.le_refl _⟩
      have hwR : w.heap.size < w2.heap.size := (Array.getElem?_eq_some_iff.1 HR2.out).1
      clear hW3 xa xb xl hbw HB2 HR2 HBX HRX
      generalize hQ : w2.heap.size = Q at *
      generalize hR : w.heap.size = R at *
      refine wpIn_rangeFunc_ownH rfl h1 (gf := 105) (lb := #[.pointer (some ⟨Q, 0, none⟩), .pointer (some ⟨Q + 1, 0, none⟩), .pointer (some ⟨Q + 2, 0, none⟩)]) rfl trivial (enters_of Tryd.func105 (by kernel_rfl) rfl) HSQ.out
        (fun h k => h.trans k) (kpS_b (by omega) (by omega) (by omega) (by omega)) (Below.refl _ _) (fun _ => rfl)
        (fun pre W => IB R (Q + 3) w W ∧ pre.all Pr.inB = true)
        (fun c pre W => IB R (Q + 3) w W ∧ (c = .ret ∧ ∃ p y, pre = p ++ [y] ∧ p.all Pr.inB = true ∧ y.inB = false))
        (OwnFrom.and (IB.own (by omega) (by omega)) (ownFrom_pure _ _))
        (fun c => OwnFrom.and (IB.own (by omega) (by omega)) (ownFrom_pure _ (fun pre : List Pr => c = .ret ∧ ∃ p y, pre = p ++ [y] ∧ p.all Pr.inB = true ∧ y.inB = false)))
        ⟨HI0.out, rfl⟩
        (fun x' a' W => ∃ Bx, Q + 3 ≤ Bx ∧ W.heap[Bx]? = some (.cells #[.int .i64 x'.one.a, .int .i64 x'.one.b, .int .i64 x'.one.k, .int .i64 x'.one.c, .int .i64 x'.one.d, .int .i64 x'.one.s, .int .i64 x'.one.g, .int .i64 x'.other.a, .int .i64 x'.other.b, .int .i64 x'.other.k, .int .i64 x'.other.c, .int .i64 x'.other.d, .int .i64 x'.other.s, .int .i64 x'.other.g, .bool x'.inOne, .bool x'.inOther] 98 (0, 0)) ∧ a' =
          { tmps := #[Value.slice (some { block := ga, off := 0 }) a.length ca,
            Value.slice (some { block := gb, off := 0 }) b.length cb, undef, undef,
            Value.pointer (some { block := R, off := 0 }), Value.pointer (some { block := Bx, off := 0 }),
            Value.slice (some { block := ga, off := 0 }) a.length ca, Value.bool true, Value.bool false, Value.bool false,
            Value.slice (some { block := gb, off := 0 }) b.length cb, Value.bool true, Value.bool false, Value.bool false,
            Value.slice (some { block := ga, off := 0 }) a.length ca,
            Value.slice (some { block := gb, off := 0 }) b.length cb,
            Value.func (Fn.func 105) #[]
              #[Value.pointer (some { block := Q, off := 0 }),
                Value.pointer (some { block := Q + 1, off := 0 }),
                Value.pointer (some { block := Q + 2, off := 0 })],
            prV x', undef, undef, undef, undef, undef, undef, undef, undef, undef, undef, undef, undef, undef, undef], defers := [] })
        ?hAx ?assign ?body ?done ?stop
      case hAx =>
        rintro x' a' _ A B row ⟨Bx, hb, hx, ha⟩ hg hr
        exact ⟨Bx, hb, (hg.block Bx (Array.getElem?_eq_some_iff.1 hx).1 (fun e => by obtain ⟨_, o, ho, hc⟩ := hr Bx e.symm; rw [hx] at ho; cases ho; cases hc)).trans hx, ha⟩
      case assign =>
        rintro lp pre x' W K ⟨hib, hall⟩ hK
        have hwl : R ≤ W.heap.size := by have := (Array.getElem?_eq_some_iff.1 hib.q).1; omega
        have hg3 := hib.big
        unfold prV
        gi_wp2
        exact hK _ _ ((KeepsOthers.alloc _ _).from _) (KpS.of_below (by omega) (by omega) (by omega) (by omega) ((Below.refl _ _).alloc (Nat.le_refl _) _)) ⟨hib.below ((Below.refl _ _).alloc (Nat.le_refl _) _), hall⟩ ⟨W.heap.size, by omega, World.alloc_heap_new _ _, rfl⟩
      case body =>
        rintro lp pre x' a' W hl ⟨rr, hr⟩ ⟨hib, hall⟩ ⟨Bx, hbx, hx, rfl⟩ hlt
        have HIB := hideIt hib
        have HALL := hideIt hall
        have r0 := (blk_cell hib.q 0).trans rfl
        have rf : W.frozen? ⟨R, 0, none⟩ = false := by simp [World.frozen?, hib.q]
        have hnR : Bx ≠ R := by omega
        have c0 := (blk_cell hx 0).trans rfl
        have c1 := (blk_cell hx 1).trans rfl
        have c2 := (blk_cell hx 2).trans rfl
        have c3 := (blk_cell hx 3).trans rfl
        have c4 := (blk_cell hx 4).trans rfl
        have c5 := (blk_cell hx 5).trans rfl
        have c6 := (blk_cell hx 6).trans rfl
        have c7 := (blk_cell hx 7).trans rfl
        have c8 := (blk_cell hx 8).trans rfl
        have c9 := (blk_cell hx 9).trans rfl
        have c10 := (blk_cell hx 10).trans rfl
        have c11 := (blk_cell hx 11).trans rfl
        have c12 := (blk_cell hx 12).trans rfl
        have c13 := (blk_cell hx 13).trans rfl
        have c14 := (blk_cell hx 14).trans rfl
        have c15 := (blk_cell hx 15).trans rfl
        have HYES : Hid (x'.inB = true → (pre ++ [x']).all Pr.inB = true) := fun h => by rw [List.all_append, hall]; simp [h]
        have HNO : Hid (x'.inB = false → ∃ p y, pre ++ [x'] = p ++ [y] ∧ p.all Pr.inB = true ∧ y.inB = false) := fun h => ⟨pre, x', rfl, hall, h⟩
        clear hx hib hall hr hlt
        obtain ⟨po, pt, i1, i2⟩ := x'
        dsimp only at c0 c1 c2 c3 c4 c5 c6 c7 c8 c9 c10 c11 c12 c13 c14 c15
        unfold prV
        cases i1
        · have HE := hideIt (HYES.out rfl)
          clear HYES HNO
          gi_wp2
          exact ⟨(KeepsOthers.refl _).from _, KpS.refl _ _ _ _ _, HIB.out, HE.out⟩
        · cases i2
          · have HF := hideIt (HNO.out rfl)
            clear HYES HNO
            gi_wp2
            exact ⟨(KeepsOthers.setCell _ _ _).from _, HIB.out.set, rfl, HF.out⟩
          · by_cases hq : po = pt
            · subst hq
              have HE := hideIt (HYES.out (by simp [Pr.inB, eqO_iff.2]))
              clear HYES HNO
              gi_wp2
              exact ⟨(KeepsOthers.refl _).from _, KpS.refl _ _ _ _ _, HIB.out, HE.out⟩
            · have HF := hideIt (HNO.out (by
                have : eqO po pt = false := by
                  cases h : eqO po pt
                  · rfl
                  · exact absurd (eqO_iff.1 h) hq
                simp [Pr.inB, this]))
              have hne := op_ne hq
              clear HYES HNO hq
              rcases hne with hne | ⟨e0, hne⟩ | ⟨e0, e1, hne⟩ | ⟨e0, e1, e2, hne⟩ | ⟨e0, e1, e2, e3, hne⟩ | ⟨e0, e1, e2, e3, e4, hne⟩ | ⟨e0, e1, e2, e3, e4, e5, hne⟩
              all_goals
                gi_wp2
                exact ⟨(KeepsOthers.setCell _ _ _).from _, HIB.out.set, rfl, HF.out⟩
      case done =>
        rintro D ys W hD hS ⟨hib, hall⟩ hK
        have HT : Hid (OpsInSaid a b true) := .inl ⟨rfl, HOA.out, HOB.out, fun x hx => (hasB_iff (ops_asc HOB.out)).2 (hS.sub hall x (by rw [List.take_length]; exact hx))⟩
        have HIB := hideIt hib
        have hDR : D ≠ R := by omega
        have hsz3 : W3.heap.size = Q + 3 := hsz
        have r0 := (blk_cell hib.q 0).trans rfl
        have rf : W.frozen? ⟨R, 0, none⟩ = false := by simp [World.frozen?, hib.q]
        clear hS hib hall
        gi_wp2
        have zK : (W.setCell ⟨R, 0, none⟩ (.bool true)).heap[D]? = some (.deferred (some [])) := blk_set hK hDR
        refine ⟨by simp, .inl ⟨_, _, rfl, run_takeDeferred zK, ?_⟩⟩
        have v0 : ((W.setCell ⟨R, 0, none⟩ (.bool true)).putObj D (.deferred none)).cell? ⟨R, 0, none⟩ = some (.bool true) := (cell_put _ hDR.symm).trans ((blk_cell (pr_set (i := 0) (u := .bool true) HIB.out.q) 0).trans rfl)
        exact ⟨.bool true, by simp [results, Tryd.results32, go_sem, v0], ⟨_, rfl, HT.out⟩, hR.symm ▸ (HIB.out.bel.setCell (p := ⟨R, 0, none⟩) (Nat.le_refl _) _).trans (belowK_b (w := W3) (by omega) _ D _ _ (by omega) zK rfl rfl)⟩
      case stop =>
        rintro D c pre W hD ⟨i, j, hw⟩ ⟨hib, rfl, p, y, rfl, hp, hy⟩ hK
        have HT : Hid (OpsInSaid a b false) := .inr ⟨rfl, fun h => by
          obtain ⟨z, hz, hzb⟩ := Walk.not_sub (ops_asc HOA.out) (ops_asc HOB.out) hw hp hy
          exact hzb ((hasB_iff (ops_asc HOB.out)).1 (h.2.2 z hz))⟩
        have HIB := hideIt hib
        have hDR : D ≠ R := by omega
        have hsz3 : W3.heap.size = Q + 3 := hsz
        have r0 := (blk_cell hib.q 0).trans rfl
        clear hw hib hp hy
        gi_wp2
        refine ⟨by simp, .inl ⟨_, _, rfl, run_takeDeferred hK, ?_⟩⟩
        have v0 : (W.putObj D (.deferred none)).cell? ⟨R, 0, none⟩ = some (.bool false) := (cell_put _ hDR.symm).trans r0
        exact ⟨.bool false, by simp [results, Tryd.results32, go_sem, v0], ⟨_, rfl, HT.out⟩, hR.symm ▸ HIB.out.bel.trans (belowK_b (w := W3) (by omega) W D _ _ (by omega) hK rfl rfl)⟩
theorem implIn_any (a b : List Op7) (ga ca gb cb : Nat) (x : Addr) (w : World) (ha : OpsAt w ga a) (hb : OpsAt w gb b) (hna : a.length ≤ 1048576) (hnb : b.length ≤ 1048576) (hca : a.length ≤ ca) (hcb : b.length ≤ cb)
    (he : w.cell? ⟨0, 0, none⟩ = some (.iface 200 (.pointer (some x)))) (h0 : 0 < w.heap.size) :
    Calls Tryd.prog 32 #[.slice (some ⟨ga, 0, none⟩) a.length ca, .slice (some ⟨gb, 0, none⟩) b.length cb] w fun e w' => (∃ z, e = .returned (.bool z) ∧ OpsInSaid a b z) ∧ Below w.heap.size w w' :=
  callsIn_wide.1 (implIn_in a b 3 (Nat.le_refl _) ga ca gb cb x w ha hb hna hnb hca hcb he h0)
end Go.Proofs.YtficnhlkefpfnaaDoor

namespace Go.Proofs.YtficnhlkefpfnaaDoor
open Go.RowKit
set_option linter.unusedSimpArgs false
set_option linter.unusedVariables false
attribute [local go_sem ↓] Go.wp_at_zero Go.wp_at_succ

theorem in_same {a b : List Op7} {z y : Bool} (h : OpsInSaid a b z) (k : OpsInSaid a b y) : z = y := by
  rcases h with ⟨rfl, h⟩ | ⟨rfl, h⟩ <;> rcases k with ⟨rfl, k⟩ | ⟨rfl, k⟩
  · rfl
  · exact absurd h k
  · exact absurd k h
  · rfl
set_option maxRecDepth 100000 in
set_option maxHeartbeats 4000000 in
theorem walkOpsIn (l : List Op7) (p : Option Addr) (cap : Nat) (m : List Op7) (q : Option Addr) (cap2 : Nat) (x : Addr) (w : World) (hl : ArgOps w p l) (hcap : l.length ≤ cap) (hmax : cap ≤ maxLen) (hm : ArgOps w q m) (hcap2 : m.length ≤ cap2) (hmax2 : cap2 ≤ maxLen)
    (he : w.cell? ⟨0, 0, none⟩ = some (.iface 200 (.pointer (some x)))) (h0 : 0 < w.heap.size) :
    Calls Tryd.prog 6 #[.slice p l.length cap, .slice q m.length cap2] w fun e w' => e = .returned (.bool true) ∧ Below w.heap.size w w' := by
  have HA := hideIt hl
  have HS := hideIt hm
  clear hl hm
  unfold maxLen at hmax hmax2
  by_cases hn : l.length ≤ 1048576
  · have h3 : ¬ (((1048576 - l.length : Nat) : Int) < 0) := by omega
    by_cases hn2 : l.length + m.length ≤ 1048576
    · have h4 : ¬ (((1048576 - l.length - m.length : Nat) : Int) < 0) := by omega
      go_enter Tryd.func6, Tryd.ntmps6
      go_wp2_with fail
      refine (szAny_ok p l.length cap 1048576 _ (Nat.le_refl _) hn).mono ?_
      rintro e w' ⟨rfl, rfl⟩
      go_wp2_with fail
      refine (szAny_ok q m.length cap2 (1048576 - l.length) _ (by omega) (by omega)).mono ?_
      rintro e w' ⟨rfl, rfl⟩
      clear hn
      go_wp2_with fail
      refine (toOpS_any l p cap _ HA.out (by omega) hcap).mono ?_
      rintro e w1 ⟨rfl, hA, hb⟩
      have HA1 := hideIt hA
      have HB1 := hideIt hb
      clear hA hb
      go_wp2_with fail
      refine (toOpS_any m q cap2 _ (HS.out.below HB1.out) (by omega) hcap2).mono ?_
      rintro e w2 ⟨rfl, hA, hb⟩
      have HS2 := hideIt hA
      have HA2 := hideIt (HA1.out.below hb HA1.out.1)
      have HB2 := hideIt (Bstep HB1.out hb)
      clear hA hb HA1 HB1
      go_wp2_with fail
      refine (specIn_any l m _ _ _ _ _ HA2.out HS2.out (by omega) (by omega) (Nat.le_refl _) (Nat.le_refl _)).mono ?_
      rintro e w3 ⟨⟨z, rfl, hz⟩, hb⟩
      have HZ := hideIt hz
      have HB3 := hideIt (Bstep HB2.out hb)
      clear hz hb HA2 HS2 HB2
      go_wp2_with fail
      refine (toOpS_any l p cap _ (HA.out.below HB3.out) (by omega) hcap).mono ?_
      rintro e w4 ⟨rfl, hA, hb⟩
      have HA4 := hideIt hA
      have HB4 := hideIt (Bstep HB3.out hb)
      clear hA hb HB3
      go_wp2_with fail
      refine (toOpS_any m q cap2 _ (HS.out.below HB4.out) (by omega) hcap2).mono ?_
      rintro e w5 ⟨rfl, hA, hb⟩
      have HS5 := hideIt hA
      have HA5 := hideIt (HA4.out.below hb HA4.out.1)
      have HB5 := hideIt (Bstep HB4.out hb)
      clear hA hb HA4 HB4
      go_wp2_with fail
      refine (implIn_any l m _ _ _ _ x _ HA5.out HS5.out (by omega) (by omega) (Nat.le_refl _) (Nat.le_refl _) (errB HB5.out h0 he) (posB HB5.out h0)).mono ?_
      rintro e w6 ⟨⟨y, rfl, hy⟩, hb⟩
      obtain rfl : y = z := in_same hy HZ.out
      have HA6 := hideIt (HA5.out.below hb HA5.out.1)
      have HS6 := hideIt (HS5.out.below hb HS5.out.1)
      have HB6 := hideIt (Bstep HB5.out hb)
      clear hy hb HA5 HS5 HB5 HZ
      go_wp2_with fail
      refine (toOpS_any l p cap _ (HA.out.below HB6.out) (by omega) hcap).mono ?_
      rintro e w7 ⟨rfl, hA, hb⟩
      have HX7 := hideIt hA
      have HA7 := hideIt (HA6.out.below hb HA6.out.1)
      have HS7 := hideIt (HS6.out.below hb HS6.out.1)
      have HB7 := hideIt (Bstep HB6.out hb)
      clear hA hb HA6 HS6 HB6
      go_wp2_with fail
      refine (eqOpS_same l _ _ _ _ _ HA7.out HX7.out (by omega) (Nat.le_refl _) (Nat.le_refl _)).mono ?_
      rintro e w8 ⟨rfl, hb⟩
      have HS8 := hideIt (HS7.out.below hb HS7.out.1)
      have HB8 := hideIt (Bstep HB7.out hb)
      clear hb HX7 HA7 HS7 HB7
      go_wp2_with fail
      refine (toOpS_any m q cap2 _ (HS.out.below HB8.out) (by omega) hcap2).mono ?_
      rintro e w9 ⟨rfl, hA, hb⟩
      have HX9 := hideIt hA
      have HS9 := hideIt (HS8.out.below hb HS8.out.1)
      have HB9 := hideIt (Bstep HB8.out hb)
      clear hA hb HS8 HB8
      go_wp2_with fail
      refine (eqOpS_same m _ _ _ _ _ HS9.out HX9.out (by omega) (Nat.le_refl _) (Nat.le_refl _)).mono ?_
      rintro e w10 ⟨rfl, hb⟩
      have HB10 := hideIt (Bstep HB9.out hb)
      clear hb HX9 HS9 HB9
      go_wp2
      go_ret
      exact ⟨rfl, HB10.out⟩
    · go_enter Tryd.func6, Tryd.ntmps6
      go_wp2_with fail
      refine (szAny_ok p l.length cap 1048576 _ (Nat.le_refl _) hn).mono ?_
      rintro e w' ⟨rfl, rfl⟩
      go_wp2_with fail
      refine (szAny_no q m.length cap2 (1048576 - l.length) _ (by omega) (by omega) (by unfold maxLen; omega)).mono ?_
      rintro e w' ⟨rfl, rfl⟩
      go_wp2
      go_ret
      exact ⟨rfl, Below.refl _ _⟩
  · go_enter Tryd.func6, Tryd.ntmps6
    go_wp2_with fail
    refine (szAny_no p l.length cap 1048576 _ (Nat.le_refl _) (by omega) (by unfold maxLen; omega)).mono ?_
    rintro e w' ⟨rfl, rfl⟩
    go_wp2
    go_ret
    exact ⟨rfl, Below.refl _ _⟩
end Go.Proofs.YtficnhlkefpfnaaDoor

namespace Go.Proofs.YtficnhlkefpfnaaDoor
open Go.ChangeShapes Go.WideShapes Go.ChangeAt Go.RowKit Go.Joins

set_option maxRecDepth 100000 in
theorem fnExactOpsIn_lifted (os : Os) (started : os.Started) (H : Type) (enc : TypeId × Value → H) :
    ReturnsInHanded {} Tryd.checked os 6 .any (fun w args => (Rows.fnExactOpsInSpec.pre enc Tryd.prog Tryd.f6 [] false w args ∧ laidMetH Tryd.prog laid1 w) ∧ sizedMet enc Tryd.prog Tryd.f6 (OpenSpec.ofChange Rows.fnExactOpsInSpec) false w args)
      (Rows.fnExactOpsInSpec.post enc Tryd.prog Tryd.f6 false true false false) := by
  refine returnsInHanded_of_change_and (C := Tryd.checked) (X := fun w _ => laidMetH Tryd.prog laid1 w) (fun _ _ _ hh h => h.of_heap hh) own started (by kernel_rfl) Tryd.func6
    (ChangeSpec.witness_shaped (enc := enc) (C := Tryd.checked) (os := os) (X := fun w _ => laidMetH Tryd.prog laid1 w) false (World.doorLaid Tryd.prog 28 os) #[.slice none 0 0, .slice none 0 0] 8 rfl (World.shaped_of_RefB (by kernel_rfl) (by kernel_rfl)) (by kernel_rfl) (by kernel_rfl) (by kernel_rfl) (door_met os _)) ?_
  intro W base args ds gs before hval0 hW _ _ hL _
  have hval : ∀ (j : Nat) t v, Tryd.f6.params[j]? = some t → args[j]? = some v → Value.okWide Tryd.prog W .any base t v := hval0
  have hW' := hW
  obtain ⟨p, q, hA0, hV0, rfl, hfz, hnd⟩ := hW
  have hA : DataW.TrodAll enc Tryd.prog W 0 (fun _ => true) true Tryd.f6.params.toList args.toList ds p := hA0
  have hV : DataW.TrodVars enc Tryd.prog W (fun _ => true) [errName] gs q := hV0
  rw [Tryd.params6] at hA hval
  obtain ⟨v0, v1, d0, d1, p0, p1, rfl, rfl, rfl, h0, h1⟩ := trodAll_two hA
  have kk0 := h0
  have lt0 : ∀ x ∈ p0, x.block < W.heap.size := by obtain ⟨m, hm⟩ := kk0; exact DataW.trod_lt m _ _ _ hm
  have kk1 := h1
  have lt1 : ∀ x ∈ p1, x.block < W.heap.size := by obtain ⟨m, hm⟩ := kk1; exact DataW.trod_lt m _ _ _ hm
  obtain ⟨x, hv, hc, hpos⟩ := of_laid hL
  obtain ⟨rfl, rfl⟩ := hV.unique (vars_read1 enc gErr tErr Tryd.underlying120 hv trivial _)
  obtain ⟨pa0, l0, cap0, rfl, hcap0, hmax0, hargs0⟩ := open_ops (hval 0 22 v0 rfl rfl) h0
  obtain ⟨pa1, l1, cap1, rfl, hcap1, hmax1, hargs1⟩ := open_ops (hval 1 22 v1 rfl rfl) h1
  clear hA0 hV0 hval0
  refine (walkOpsIn l0 pa0 cap0 l1 pa1 cap1 x W hargs0 hcap0 hmax0 hargs1 hcap1 hmax1 hc hpos).mono fun e W' ⟨he, bel⟩ => ?_
  subst he
  exact ⟨_, rfl, _, _, _, [], _, [.cell 0 0], hW', trodAll_mk1 (shut_bool Tryd.underlying4 _), (trodAll_cons_mk (Below.trod laidOut (by kernel_rfl) (of_decide_eq_true (by kernel_rfl)) kk0 bel lt0) (trodAll_cons_mk (Below.trod laidOut (by kernel_rfl) (of_decide_eq_true (by kernel_rfl)) kk1 bel lt1) trodAll_mk0)), vars_read1 enc gErr tErr Tryd.underlying120 (var_kept bel hpos hv) trivial _, bel.frame _, fun h => by cases h⟩

theorem fnExactOpsIn_row : Rows.FnExactOpsInSaid :=
  OpenClaim.holds_of_wide 6 Tryd.f6 rfl rfl rfl rfl rfl rfl rfl ⟨rfl, rfl, rfl, rfl, rfl⟩ rfl rfl rfl rfl rfl (by kernel_rfl) Tryd.func6 (by kernel_rfl)
    (of_decide_eq_true (by kernel_rfl)) (by unfold Func.isWrapper; first | (rw [if_pos (by decide +kernel)]; kernel_rfl) | (rw [if_neg (by decide +kernel)]; exact ⟨rfl, rfl⟩))
    (fun os started H enc _ => fnExactOpsIn_lifted os started H enc)

/-- THE STATEMENT. -/
theorem fnExactOpsIn_holds : Rows.FnExactOpsInCardSaid :=
  Claim7.holds_tied_plain_at .later [] Rows.fnExactOpsInCard.laidKinds true Rows.fnExactOpsInCard.stood.harness true
    fnExactOpsIn_row (fun _ h => by cases h) (by kernel_rfl) (fun _ h => by cases h) fnExactOpsIn_row_tie rfl ⟨rfl, rfl⟩ (by kernel_rfl) rfl
    (fun f fn hf hfn => by
      obtain rfl : f = 6 := Option.some.inj ((show Tryd.prog.funcNamed Rows.fnExactOpsInRow.func = some 6 by kernel_rfl).symm.trans hf) |>.symm
      obtain rfl : fn = Tryd.f6 := (Option.some.inj (Tryd.func6.symm.trans hfn)).symm
      exact ⟨by kernel_rfl, fun j t ht => by
        rw [Tryd.params6] at ht
        have hm : t ∈ [22] := by simpa using Array.mem_of_getElem? ht
        have hall : ([22].all fun u => !Tryd.prog.wantsStandIn u) = true := by kernel_rfl
        exact (show Tryd.prog.wantsStandIn t = false by simpa using List.all_eq_true.1 hall t hm)⟩)
    (by kernel_rfl)
#print axioms fnExactOpsIn_holds
end Go.Proofs.YtficnhlkefpfnaaDoor
