/-
  PROVED: at every argument the program's OpsMerge answers as its specification, writes into no argument, and its answer is memory of its own (the given card of FnExactOpsMerge), for every input; the one listed variable, the program's error, reads as its own initialiser lays it.
-/
import Derived.Test.YtficnhlkefpfnaaDoorP3
import Derived.Test.YtficnhlkefpfnaaDoorP5
import Derived.Test.YtficnhlkefpfnaaDoorP2
import Derived.Test.YtficnhlkefpfnaaDoorP0
import Derived.BigQuiet
import Derived.WalkSmall
import Derived.Test.YtficnhlkefpfnaaDoorP6
import Derived.Test.YtficnhlkefpfnaaDoorTie
import Derived.Test.YtficnhlkefpfnaaDoorCards
import Derived.SevenTiedAt
namespace Go.Proofs.YtficnhlkefpfnaaDoor
open Go.RowKit
set_option linter.unusedSimpArgs false
set_option linter.unusedVariables false
attribute [local go_sem ↓] Go.wp_at_zero Go.wp_at_succ

/-- What a tells of something b tells too. -/
def hasB (b : List Op7) (x : Op7) : Prop := ¬ findI b x.a x.b < 0 ∧ b[(findI b x.a x.b).toNat]? = some x
theorem hasB_iff {b : List Op7} (hb : Asc b) {x : Op7} : hasB b x ↔ x ∈ b := by
  constructor
  · rintro ⟨_, h⟩
    exact List.mem_of_getElem? h
  · intro h
    have hf : ¬ findI b x.a x.b < 0 := fun hf => findI_not hf x h ⟨rfl, rfl⟩
    refine ⟨hf, ?_⟩
    obtain ⟨j, hj, hjl⟩ := findI_lt hf
    rw [hj]
    unfold findI at hj
    split at hj
    · rename_i i hi
      obtain ⟨h3, h4, _⟩ := List.findIdx?_eq_some_iff_getElem.1 hi
      have : i = j := by omega
      subst this
      unfold hasId at h4
      have h5 : b[i].a = x.a ∧ b[i].b = x.b := by simpa using h4
      have := asc_once hb (List.getElem_mem h3) h h5
      simp [h3, this]
    · omega
def InSaid (a b : List Op7) (z : Bool) : Prop := (z = true ∧ ∀ x ∈ a, hasB b x) ∨ (z = false ∧ ∃ x ∈ a, ¬ hasB b x)

set_option maxRecDepth 100000 in
set_option maxHeartbeats 2000000 in
theorem l12In_any (a b : List Op7) (ga ca gb cb : Nat) (w : World) (ha : OpsAt w ga a) (hb : OpsAt w gb b) (hna : a.length ≤ 1048576) (hnb : b.length ≤ 1048576) (hca : a.length ≤ ca) (hcb : b.length ≤ cb) :
    Calls Tryd.prog 72 #[.slice (some ⟨ga, 0, none⟩) a.length ca, .slice (some ⟨gb, 0, none⟩) b.length cb] w fun e w' => (∃ z, e = .returned (.bool z) ∧ InSaid a b z) ∧ Below w.heap.size w w' := by
  have HA := hideIt ha
  have HB := hideIt hb
  have hga := ha.1
  have hgb := hb.1
  clear ha hb
  go_enter Tryd.func72, Tryd.ntmps72
  go_wp2
  go_loopw [5] (fun i wr => ∃ k : Nat, k ≤ a.length ∧ i = .int .i64 k ∧ (∀ j (hj : j < a.length), j < k → hasB b a[j]) ∧ Below w.heap.size w wr) (fun i _ => a.length - (intOf i).toNat)
  case atStart => exact ⟨0, Nat.zero_le _, rfl, fun j _ h => by omega, by go_grown⟩
  case round =>
    obtain ⟨k, hk, rfl, hag, hBr⟩ := hrel
    have HAG : Hid (∀ j (hj : j < a.length), j < k → hasB b a[j]) := hag
    have HBr := hideIt hBr
    clear hag hBr
    by_cases hlt : k < a.length
    · have hlt' : (k : Int) < (a.length : Int) := by omega
      have hk0 : (0 : Int) ≤ (k : Int) := by omega
      have HX : Hid (hasB b a[k] → ∀ j (hj : j < a.length), j < k + 1 → hasB b a[j]) := fun h j hj hjk => by
        rcases Nat.lt_or_ge j k with h' | h'
        · exact HAG.out j hj h'
        · obtain rfl : j = k := by omega
          exact h
      have HM : Hid (a[k] ∈ a) := List.getElem_mem hlt
      have hpk : a[k]? = some a[k] := by simp [hlt]
      generalize a[k] = p at *
      have hgar : ga < wr.heap.size := Nat.lt_of_lt_of_le hga HBr.out.size
      have hgbr : gb < wr.heap.size := Nat.lt_of_lt_of_le hgb HBr.out.size
      have HAL := hideIt (HA.out.below HBr.out hga)
      have HBL := hideIt (HB.out.below HBr.out hgb)
      obtain ⟨y0, y1, y2, y3, y4, y5, y6⟩ := HAL.out.2 k p hpk
      go_wp2_with fail
      refine (l1Find_any b _ _ _ _ _ HBL.out hnb hcb).mono ?_
      rintro e w4 ⟨rfl, hb4⟩
      have HB4 := hideIt (Bstep HBr.out hb4)
      have HAL4 := hideIt (HA.out.below HB4.out hga)
      have HBL4 := hideIt (HB.out.below HB4.out hgb)
      clear hb4 y0 y1 y2 y3 y4 y5 y6 HAL HBL
      obtain ⟨y0, y1, y2, y3, y4, y5, y6⟩ := HAL4.out.2 k p hpk
      by_cases hf : findI b p.a p.b < 0
      · have HF : Hid (¬ hasB b p) := fun h => h.1 hf
        have hf2 : findI b p.a p.b = -1 := findI_m1 hf
        clear hf
        rw [hf2]
        clear hf2
        go_wp2
        go_quiet (fail)
        go_wp2
        go_ret
        exact ⟨⟨_, rfl, .inr ⟨rfl, p, HM.out, HF.out⟩⟩, below_drewN HB4.out nq⟩
      · obtain ⟨j, hj, hjl⟩ := findI_lt hf
        have hj' : b[j]? = some b[j] := by simp [hjl]
        obtain ⟨z0, z1, z2, z3, z4, z5, z6⟩ := HBL4.out.2 j _ hj'
        have HF : Hid (b[j] = p → hasB b p) := fun h => ⟨hf, by rw [hj]; simp [hjl, h]⟩
        have HG : Hid (b[j] ≠ p → ¬ hasB b p) := fun h hh => by
          have hh := hh.2
          rw [hj] at hh; simp [hjl] at hh; exact h hh
        rw [hj]
        clear hf hj hj'
        generalize b[j] = q at *
        have hj0 : (0 : Int) ≤ (j : Int) := by omega
        have hj1 : ¬ ((j : Int) < 0) := by omega
        have hjl' : (j : Int) < (b.length : Int) := by omega
        by_cases hq : q = p
        · have HFo := hideIt (HF.out hq)
          subst hq
          go_wp2
          go_quiet (fail)
          go_wp2
          exact ⟨⟨k + 1, by omega, by go_num, HX.out HFo.out, below_drewN HB4.out _⟩, by simp [intOf]; omega⟩
        · have HFo := hideIt (HG.out hq)
          have hne := op_ne hq
          clear HF HG HX hq hpk HAG HAL4 HBL4
          rcases hne with hne | ⟨e0, hne⟩ | ⟨e0, e1, hne⟩ | ⟨e0, e1, e2, hne⟩ | ⟨e0, e1, e2, e3, hne⟩ | ⟨e0, e1, e2, e3, e4, hne⟩ | ⟨e0, e1, e2, e3, e4, e5, hne⟩
          all_goals
            go_wp2
            go_quiet (fail)
            go_wp2
            go_ret
            exact ⟨⟨_, rfl, .inr ⟨rfl, p, HM.out, HFo.out⟩⟩, below_drewN HB4.out nq⟩
    · have hkl : k = a.length := by omega
      have HE : Hid (∀ x ∈ a, hasB b x) := fun x hx => by
        obtain ⟨i, hi⟩ := List.getElem?_of_mem hx
        obtain ⟨h1, h2⟩ := List.getElem?_eq_some_iff.1 hi
        rw [← h2]
        exact HAG.out i h1 (by omega)
      subst hkl
      clear HAG
      go_wp2
      go_ret
      exact ⟨⟨_, rfl, .inl ⟨rfl, HE.out⟩⟩, HBr.out⟩
/-- What OpsIn answers. -/
def OpsInSaid (a b : List Op7) (z : Bool) : Prop := (z = true ∧ opsB a = true ∧ opsB b = true ∧ ∀ x ∈ a, hasB b x) ∨ (z = false ∧ ¬ (opsB a = true ∧ opsB b = true ∧ ∀ x ∈ a, hasB b x))
set_option maxRecDepth 100000 in
set_option maxHeartbeats 2000000 in
theorem specIn_any (a b : List Op7) (ga ca gb cb : Nat) (w : World) (ha : OpsAt w ga a) (hb : OpsAt w gb b) (hna : a.length ≤ 1048576) (hnb : b.length ≤ 1048576) (hca : a.length ≤ ca) (hcb : b.length ≤ cb) :
    Calls Tryd.prog 31 #[.slice (some ⟨ga, 0, none⟩) a.length ca, .slice (some ⟨gb, 0, none⟩) b.length cb] w fun e w' => (∃ z, e = .returned (.bool z) ∧ OpsInSaid a b z) ∧ Below w.heap.size w w' := by
  have HA := hideIt ha
  have HB := hideIt hb
  have hga := ha.1
  have hgb := hb.1
  clear ha hb
  cases hoa : opsB a
  · have HO := hideIt hoa
    clear hoa
    go_enter Tryd.func31, Tryd.ntmps31
    go_wp2_with fail
    refine (specOps_any a _ _ _ HA.out hna hca).mono ?_
    rintro e w1 ⟨rfl, hb1⟩
    rw [HO.out]
    have HB1 := hideIt hb1
    clear hb1
    go_wp2
    go_ret
    exact ⟨⟨_, rfl, .inr ⟨rfl, fun h => by rw [HO.out] at h; exact absurd h.1 (by decide)⟩⟩, HB1.out⟩
  · cases hob : opsB b
    all_goals
      have HOA := hideIt hoa
      have HOB := hideIt hob
      clear hoa hob
      go_enter Tryd.func31, Tryd.ntmps31
      go_wp2_with fail
      refine (specOps_any a _ _ _ HA.out hna hca).mono ?_
      rintro e w1 ⟨rfl, hb1⟩
      rw [HOA.out]
      have HB1 := hideIt hb1
      clear hb1
      go_wp2_with fail
      refine (specOps_any b _ _ _ (HB.out.below HB1.out hgb) hnb hcb).mono ?_
      rintro e w2 ⟨rfl, hb2⟩
      rw [HOB.out]
      have HB2 := hideIt (Bstep HB1.out hb2)
      clear hb2 HB1
    · go_wp2
      go_ret
      exact ⟨⟨_, rfl, .inr ⟨rfl, fun h => by rw [HOB.out] at h; exact absurd h.2.1 (by decide)⟩⟩, HB2.out⟩
    · go_wp2_with fail
      refine (l12In_any a b _ _ _ _ _ (HA.out.below HB2.out hga) (HB.out.below HB2.out hgb) hna hnb hca hcb).mono ?_
      rintro e w3 ⟨⟨z, rfl, hz⟩, hb3⟩
      have HB3 := hideIt (Bstep HB2.out hb3)
      have HZ := hideIt hz
      clear hz hb3
      go_wp2
      go_ret
      refine ⟨⟨_, rfl, ?_⟩, HB3.out⟩
      rcases HZ.out with ⟨rfl, h⟩ | ⟨rfl, x, hx, h⟩
      · exact .inl ⟨rfl, HOA.out, HOB.out, h⟩
      · exact .inr ⟨rfl, fun hh => h (hh.2.2 x hx)⟩
end Go.Proofs.YtficnhlkefpfnaaDoor

namespace Go.Proofs.YtficnhlkefpfnaaDoor
open Go.RowKit Go.Shelf
set_option linter.unusedSimpArgs false
set_option linter.unusedVariables false
attribute [local go_sem] Oper.semAt_some

theorem ops_asc {l : List Op7} (h : opsB l = true) : Asc l := by
  exact ops_sorted h
/-- The box of the answer, and how great the memory is. -/
structure IB (R Q : Nat) (w W : World) : Prop where
  q : W.heap[R]? = some (.cells #[.bool false] 4 (0, 0))
  bel : Below R w W
  big : Q ≤ W.heap.size
theorem IB.below {R Q : Nat} {w W W' : World} (h : IB R Q w W) (hb : Below W.heap.size W W') : IB R Q w W' :=
  ⟨blk_bel7 h.q hb, h.bel.trans (hb.mono (by have := (Array.getElem?_eq_some_iff.1 h.q).1; omega)), Nat.le_trans h.big hb.size⟩
theorem IB.own {β : Type} {R Q B : Nat} {w : World} (hR : R ≤ w.heap.size) (hB : R ≤ B) : OwnFrom B (fun (_ : β) W => IB R Q w W) := by
  intro s A B' row hx hg hr
  exact ⟨own_blk B R (fun _ : β => #[.bool false]) _ s A B' row hx.q hg hr, ownFrom_below (β := β) hR hB s A B' row hx.bel hg hr, Nat.le_trans hx.big hg.size⟩
theorem IB.set {R Q : Nat} {w W : World} (h : IB R Q w W) : IB R Q w (W.setCell ⟨R, 0, none⟩ (.bool false)) :=
  ⟨pr_set h.q, h.bel.setCell (p := ⟨R, 0, none⟩) (Nat.le_refl _) _, by simpa using h.big⟩
theorem three (w : World) (o0 o1 o2 : Obj) (k : Nat) (hk : k < 3) : (((w.alloc o0).alloc o1).alloc o2).heap[w.heap.size + k]? = [o0, o1, o2][k]? := by
  have e : (((w.alloc o0).alloc o1).alloc o2).heap = ((w.heap.push o0).push o1).push o2 := rfl
  rw [e]
  have : k = 0 ∨ k = 1 ∨ k = 2 := by omega
  rcases this with rfl | rfl | rfl <;> simp [Array.getElem?_push, Array.getElem_push, Nat.add_assoc]
set_option maxRecDepth 100000 in
set_option maxHeartbeats 4000000 in
theorem implIn_in (a b : List Op7) (n : Nat) (h3 : 3 ≤ n) (ga ca gb cb : Nat) (x : Addr) (w : World) (ha : OpsAt w ga a) (hb : OpsAt w gb b) (hna : a.length ≤ 1048576) (hnb : b.length ≤ 1048576) (hca : a.length ≤ ca) (hcb : b.length ≤ cb)
    (he : w.cell? ⟨0, 0, none⟩ = some (.iface 200 (.pointer (some x)))) (h0 : 0 < w.heap.size) :
    CallsIn Fence.wide n Tryd.prog 32 #[.slice (some ⟨ga, 0, none⟩) a.length ca, .slice (some ⟨gb, 0, none⟩) b.length cb] w fun e w' => (∃ z, e = .returned (.bool z) ∧ OpsInSaid a b z) ∧ Below w.heap.size w w' := by
  have h1 : 1 ≤ n := by omega
  have HA := hideIt ha
  have HB := hideIt hb
  have hga := ha.1
  have hgb := hb.1
  clear ha hb
  refine callsIn_of_wp_marks Tryd.func32 rfl trivial ?_ rfl
  simp only [Tryd.ntmps32, List.size_toArray, List.length_cons, List.length_nil, Nat.reduceAdd, Nat.reduceSub, Array.replicate_succ, Array.replicate_zero, List.push_toArray, List.append_toArray, List.nil_append, List.cons_append]
  have HBX : Hid (Below w.heap.size w (w.alloc (.cells #[.bool false] 4))) := (Below.refl _ _).alloc (Nat.le_refl _) _
  have HRX : Hid ((w.alloc (.cells #[.bool false] 4)).heap[w.heap.size]? = some (.cells #[.bool false] 4 (0, 0))) := World.alloc_heap_new _ _
  cases hoa : opsB a
  · have HN : Hid (OpsInSaid a b false) := .inr ⟨rfl, fun h => by rw [hoa] at h; exact absurd h.1 (by decide)⟩
    have HOA := hideIt hoa
    clear hoa
    gi_wp2
    refine ⟨trivial, ?_⟩
    refine (callsIn_wide.2 (implOps_any a ga ca x _ (HA.out.below HBX.out hga) hna hca (errB HBX.out h0 he) (posB HBX.out h0))).mono ?_
    rintro e w1 ⟨rfl, hb1⟩
    rw [th_same, HOA.out]
    have HB1 := hideIt (Bstep HBX.out hb1)
    have hr1 := blk_bel7 HRX.out hb1
    have r0 := (blk_cell hr1 0).trans rfl
    have rf : ∀ j, w1.frozen? ⟨w.heap.size, j, none⟩ = false := fun j => by simp [World.frozen?, hr1]
    clear hb1
    gi_wp2
    refine ⟨trivial, ?_⟩
    gi_wp2
    have v0 := (blk_cell (pr_set (i := 0) (u := .bool false) hr1) 0).trans rfl
    exact ⟨.bool false, by simp [results, Tryd.results32, go_sem, v0], ⟨_, rfl, HN.out⟩, HB1.out.setCell (p := ⟨w.heap.size, 0, none⟩) (Nat.le_refl _) _⟩
  · have HOA := hideIt hoa
    clear hoa
    cases hob : opsB b
    all_goals
      have HOB := hideIt hob
      clear hob
      gi_wp2
      refine ⟨trivial, ?_⟩
      refine (callsIn_wide.2 (implOps_any a ga ca x _ (HA.out.below HBX.out hga) hna hca (errB HBX.out h0 he) (posB HBX.out h0))).mono ?_
      rintro e w1 ⟨rfl, hb1⟩
      rw [th_same, HOA.out]
      have HB1 := hideIt (Bstep HBX.out hb1)
      have HR1 := hideIt (blk_bel7 HRX.out hb1)
      clear hb1
      gi_wp2
      refine ⟨trivial, ?_⟩
      refine (callsIn_wide.2 (implOps_any b gb cb x _ (HB.out.below HB1.out hgb) hnb hcb (errB HB1.out h0 he) (posB HB1.out h0))).mono ?_
      rintro e w2 ⟨rfl, hb2⟩
      rw [th_same, HOB.out]
      have HR2 := hideIt (blk_bel7 HR1.out hb2)
      have HB2 := hideIt (Bstep HB1.out hb2)
      have hr2 := HR2.out
      have r0 := (blk_cell hr2 0).trans rfl
      have rf : ∀ j, w2.frozen? ⟨w.heap.size, j, none⟩ = false := fun j => by simp [World.frozen?, hr2]
      clear hb2 HB1 HR1
    · have HN : Hid (OpsInSaid a b false) := .inr ⟨rfl, fun h => by rw [HOB.out] at h; exact absurd h.2.1 (by decide)⟩
      gi_wp2
      have v0 := (blk_cell (pr_set (i := 0) (u := .bool false) hr2) 0).trans rfl
      exact ⟨.bool false, by simp [results, Tryd.results32, go_sem, v0], ⟨_, rfl, HN.out⟩, HB2.out.setCell (p := ⟨w.heap.size, 0, none⟩) (Nat.le_refl _) _⟩
    · clear r0 rf hr2
      gi_wp2
      refine ⟨trivial, ?_⟩
      refine (callsIn_wide.2 (inStep_any _ _ _ _ _ _ _)).mono ?_
      rintro e w3 ⟨rfl, TL, hw3⟩
      gi_wp2
      obtain ⟨W3, hW3⟩ : ∃ W3, (((w2.alloc (.cells #[.slice (some ⟨ga, 0, none⟩) a.length ca] 24)).alloc (.cells #[.slice (some ⟨gb, 0, none⟩) b.length cb] 24)).alloc (.cells #[.func (.func 74) #[] #[]] TL)) = W3 := ⟨_, rfl⟩
      obtain ⟨xa, xb, xl, hbw, hsz⟩ : W3.heap[w2.heap.size]? = some (.cells #[.slice (some ⟨ga, 0, none⟩) a.length ca] 24 (0, 0)) ∧ W3.heap[w2.heap.size + 1]? = some (.cells #[.slice (some ⟨gb, 0, none⟩) b.length cb] 24 (0, 0)) ∧ W3.heap[w2.heap.size + 2]? = some (.cells #[.func (.func 74) #[] #[]] TL (0, 0)) ∧ Below w2.heap.size w2 W3 ∧ W3.heap.size = w2.heap.size + 3 := by
        rw [← hW3]
        exact ⟨three w2 _ _ _ 0 (by omega), three w2 _ _ _ 1 (by omega), three w2 _ _ _ 2 (by omega), (((Below.refl _ _).alloc (Nat.le_refl _) _).alloc (by simp) _).alloc (by simp; omega) _, by simp⟩
      rw [hW3]
      have HSQ := hideIt (step_stops a b hna hnb (some ⟨ga, 0, none⟩) (some ⟨gb, 0, none⟩) ca cb w2.heap.size (w2.heap.size + 1) (w2.heap.size + 2) TL hca hcb w (.inr ⟨ga, rfl, HA.out⟩) (.inr ⟨gb, rfl, HB.out⟩) (n - 1) W3 (HB2.out.trans (hbw.mono HB2.out.size)) xa xb xl)
      have HI0 : Hid (IB w.heap.size (w2.heap.size + 3) w W3) := ⟨blk_bel7 HR2.out hbw, Bstep HB2.out hbw, by rw [hsz]; exact Nat.le_refl _⟩
      have hwR : w.heap.size < w2.heap.size := (Array.getElem?_eq_some_iff.1 HR2.out).1
      clear hW3 xa xb xl hbw HB2 HR2 HBX HRX
      generalize hQ : w2.heap.size = Q at *
      generalize hR : w.heap.size = R at *
      refine wpIn_rangeFunc_ownH rfl h1 (gf := 105) (lb := #[.pointer (some ⟨Q, 0, none⟩), .pointer (some ⟨Q + 1, 0, none⟩), .pointer (some ⟨Q + 2, 0, none⟩)]) rfl trivial (enters_of Tryd.func105 (by kernel_rfl) rfl) HSQ.out
        (fun h k => h.trans k) (kpS_b (by omega) (by omega) (by omega) (by omega)) (Below.refl _ _) (fun _ => rfl)
        (fun pre W => IB R (Q + 3) w W ∧ pre.all Pr.inB = true)
        (fun c pre W => IB R (Q + 3) w W ∧ (c = .ret ∧ ∃ p y, pre = p ++ [y] ∧ p.all Pr.inB = true ∧ y.inB = false))
        (OwnFrom.and (IB.own (by omega) (by omega)) (ownFrom_pure _ _))
        (fun c => OwnFrom.and (IB.own (by omega) (by omega)) (ownFrom_pure _ (fun pre : List Pr => c = .ret ∧ ∃ p y, pre = p ++ [y] ∧ p.all Pr.inB = true ∧ y.inB = false)))
        ⟨HI0.out, rfl⟩
        (fun x' a' W => ∃ Bx, Q + 3 ≤ Bx ∧ W.heap[Bx]? = some (.cells #[.int .i64 x'.one.a, .int .i64 x'.one.b, .int .i64 x'.one.k, .int .i64 x'.one.c, .int .i64 x'.one.d, .int .i64 x'.one.s, .int .i64 x'.one.g, .int .i64 x'.other.a, .int .i64 x'.other.b, .int .i64 x'.other.k, .int .i64 x'.other.c, .int .i64 x'.other.d, .int .i64 x'.other.s, .int .i64 x'.other.g, .bool x'.inOne, .bool x'.inOther] 98 (0, 0)) ∧ a' =
          { tmps := #[Value.slice (some { block := ga, off := 0 }) a.length ca,
            Value.slice (some { block := gb, off := 0 }) b.length cb, undef, undef,
            Value.pointer (some { block := R, off := 0 }), Value.pointer (some { block := Bx, off := 0 }),
            Value.slice (some { block := ga, off := 0 }) a.length ca, Value.bool true, Value.bool false, Value.bool false,
            Value.slice (some { block := gb, off := 0 }) b.length cb, Value.bool true, Value.bool false, Value.bool false,
            Value.slice (some { block := ga, off := 0 }) a.length ca,
            Value.slice (some { block := gb, off := 0 }) b.length cb,
            Value.func (Fn.func 105) #[]
              #[Value.pointer (some { block := Q, off := 0 }),
                Value.pointer (some { block := Q + 1, off := 0 }),
                Value.pointer (some { block := Q + 2, off := 0 })],
            prV x', undef, undef, undef, undef, undef, undef, undef, undef, undef, undef, undef, undef, undef, undef], defers := [] })
        ?hAx ?assign ?body ?done ?stop
      case hAx =>
        rintro x' a' _ A B row ⟨Bx, hb, hx, ha⟩ hg hr
        exact ⟨Bx, hb, (hg.block Bx (Array.getElem?_eq_some_iff.1 hx).1 (fun e => by obtain ⟨_, o, ho, hc⟩ := hr Bx e.symm; rw [hx] at ho; cases ho; cases hc)).trans hx, ha⟩
      case assign =>
        rintro lp pre x' W K ⟨hib, hall⟩ hK
        have hwl : R ≤ W.heap.size := by have := (Array.getElem?_eq_some_iff.1 hib.q).1; omega
        have hg3 := hib.big
        unfold prV
        gi_wp2
        exact hK _ _ ((KeepsOthers.alloc _ _).from _) (KpS.of_below (by omega) (by omega) (by omega) (by omega) ((Below.refl _ _).alloc (Nat.le_refl _) _)) ⟨hib.below ((Below.refl _ _).alloc (Nat.le_refl _) _), hall⟩ ⟨W.heap.size, by omega, World.alloc_heap_new _ _, rfl⟩
      case body =>
        rintro lp pre x' a' W hl ⟨rr, hr⟩ ⟨hib, hall⟩ ⟨Bx, hbx, hx, rfl⟩ hlt
        have HIB := hideIt hib
        have HALL := hideIt hall
        have r0 := (blk_cell hib.q 0).trans rfl
        have rf : W.frozen? ⟨R, 0, none⟩ = false := by simp [World.frozen?, hib.q]
        have hnR : Bx ≠ R := by omega
        have c0 := (blk_cell hx 0).trans rfl
        have c1 := (blk_cell hx 1).trans rfl
        have c2 := (blk_cell hx 2).trans rfl
        have c3 := (blk_cell hx 3).trans rfl
        have c4 := (blk_cell hx 4).trans rfl
        have c5 := (blk_cell hx 5).trans rfl
        have c6 := (blk_cell hx 6).trans rfl
        have c7 := (blk_cell hx 7).trans rfl
        have c8 := (blk_cell hx 8).trans rfl
        have c9 := (blk_cell hx 9).trans rfl
        have c10 := (blk_cell hx 10).trans rfl
        have c11 := (blk_cell hx 11).trans rfl
        have c12 := (blk_cell hx 12).trans rfl
        have c13 := (blk_cell hx 13).trans rfl
        have c14 := (blk_cell hx 14).trans rfl
        have c15 := (blk_cell hx 15).trans rfl
        have HYES : Hid (x'.inB = true → (pre ++ [x']).all Pr.inB = true) := fun h => by rw [List.all_append, hall]; simp [h]
        have HNO : Hid (x'.inB = false → ∃ p y, pre ++ [x'] = p ++ [y] ∧ p.all Pr.inB = true ∧ y.inB = false) := fun h => ⟨pre, x', rfl, hall, h⟩
        clear hx hib hall hr hlt
        obtain ⟨po, pt, i1, i2⟩ := x'
        dsimp only at c0 c1 c2 c3 c4 c5 c6 c7 c8 c9 c10 c11 c12 c13 c14 c15
        unfold prV
        cases i1
        · have HE := hideIt (HYES.out rfl)
          clear HYES HNO
          gi_wp2
          exact ⟨(KeepsOthers.refl _).from _, KpS.refl _ _ _ _ _, HIB.out, HE.out⟩
        · cases i2
          · have HF := hideIt (HNO.out rfl)
            clear HYES HNO
            gi_wp2
            exact ⟨(KeepsOthers.setCell _ _ _).from _, HIB.out.set, rfl, HF.out⟩
          · by_cases hq : po = pt
            · subst hq
              have HE := hideIt (HYES.out (by simp [Pr.inB, eqO_iff.2]))
              clear HYES HNO
              gi_wp2
              exact ⟨(KeepsOthers.refl _).from _, KpS.refl _ _ _ _ _, HIB.out, HE.out⟩
            · have HF := hideIt (HNO.out (by
                have : eqO po pt = false := by
                  cases h : eqO po pt
                  · rfl
                  · exact absurd (eqO_iff.1 h) hq
                simp [Pr.inB, this]))
              have hne := op_ne hq
              clear HYES HNO hq
              rcases hne with hne | ⟨e0, hne⟩ | ⟨e0, e1, hne⟩ | ⟨e0, e1, e2, hne⟩ | ⟨e0, e1, e2, e3, hne⟩ | ⟨e0, e1, e2, e3, e4, hne⟩ | ⟨e0, e1, e2, e3, e4, e5, hne⟩
              all_goals
                gi_wp2
                exact ⟨(KeepsOthers.setCell _ _ _).from _, HIB.out.set, rfl, HF.out⟩
      case done =>
        rintro D ys W hD hS ⟨hib, hall⟩ hK
        have HT : Hid (OpsInSaid a b true) := .inl ⟨rfl, HOA.out, HOB.out, fun x hx => (hasB_iff (ops_asc HOB.out)).2 (hS.sub hall x (by rw [List.take_length]; exact hx))⟩
        have HIB := hideIt hib
        have hDR : D ≠ R := by omega
        have hsz3 : W3.heap.size = Q + 3 := hsz
        have r0 := (blk_cell hib.q 0).trans rfl
        have rf : W.frozen? ⟨R, 0, none⟩ = false := by simp [World.frozen?, hib.q]
        clear hS hib hall
        gi_wp2
        have zK : (W.setCell ⟨R, 0, none⟩ (.bool true)).heap[D]? = some (.deferred (some [])) := blk_set hK hDR
        refine ⟨by simp, .inl ⟨_, _, rfl, run_takeDeferred zK, ?_⟩⟩
        have v0 : ((W.setCell ⟨R, 0, none⟩ (.bool true)).putObj D (.deferred none)).cell? ⟨R, 0, none⟩ = some (.bool true) := (cell_put _ hDR.symm).trans ((blk_cell (pr_set (i := 0) (u := .bool true) HIB.out.q) 0).trans rfl)
        exact ⟨.bool true, by simp [results, Tryd.results32, go_sem, v0], ⟨_, rfl, HT.out⟩, hR.symm ▸ (HIB.out.bel.setCell (p := ⟨R, 0, none⟩) (Nat.le_refl _) _).trans (belowK_b (w := W3) (by omega) _ D _ _ (by omega) zK rfl rfl)⟩
      case stop =>
        rintro D c pre W hD ⟨i, j, hw⟩ ⟨hib, rfl, p, y, rfl, hp, hy⟩ hK
        have HT : Hid (OpsInSaid a b false) := .inr ⟨rfl, fun h => by
          obtain ⟨z, hz, hzb⟩ := Walk.not_sub (ops_asc HOA.out) (ops_asc HOB.out) hw hp hy
          exact hzb ((hasB_iff (ops_asc HOB.out)).1 (h.2.2 z hz))⟩
        have HIB := hideIt hib
        have hDR : D ≠ R := by omega
        have hsz3 : W3.heap.size = Q + 3 := hsz
        have r0 := (blk_cell hib.q 0).trans rfl
        clear hw hib hp hy
        gi_wp2
        refine ⟨by simp, .inl ⟨_, _, rfl, run_takeDeferred hK, ?_⟩⟩
        have v0 : (W.putObj D (.deferred none)).cell? ⟨R, 0, none⟩ = some (.bool false) := (cell_put _ hDR.symm).trans r0
        exact ⟨.bool false, by simp [results, Tryd.results32, go_sem, v0], ⟨_, rfl, HT.out⟩, hR.symm ▸ HIB.out.bel.trans (belowK_b (w := W3) (by omega) W D _ _ (by omega) hK rfl rfl)⟩
theorem implIn_any (a b : List Op7) (ga ca gb cb : Nat) (x : Addr) (w : World) (ha : OpsAt w ga a) (hb : OpsAt w gb b) (hna : a.length ≤ 1048576) (hnb : b.length ≤ 1048576) (hca : a.length ≤ ca) (hcb : b.length ≤ cb)
    (he : w.cell? ⟨0, 0, none⟩ = some (.iface 200 (.pointer (some x)))) (h0 : 0 < w.heap.size) :
    Calls Tryd.prog 32 #[.slice (some ⟨ga, 0, none⟩) a.length ca, .slice (some ⟨gb, 0, none⟩) b.length cb] w fun e w' => (∃ z, e = .returned (.bool z) ∧ OpsInSaid a b z) ∧ Below w.heap.size w w' :=
  callsIn_wide.1 (implIn_in a b 3 (Nat.le_refl _) ga ca gb cb x w ha hb hna hnb hca hcb he h0)
end Go.Proofs.YtficnhlkefpfnaaDoor

namespace Go.Proofs.YtficnhlkefpfnaaDoor
open Go.RowKit Go.Shelf
set_option linter.unusedSimpArgs false
set_option linter.unusedVariables false
attribute [local go_sem] Oper.semAt_some

/-- The two boxes of the answer. -/
structure MBv (R : Nat) (v z : Value) (w W : World) : Prop where
  r : W.heap[R]? = some (.cells #[v] 24 (0, 0))
  z : W.heap[R + 1]? = some (.cells #[z] 4 (0, 0))
  bel : Below R w W
abbrev MB (R : Nat) (w W : World) : Prop := MBv R (.slice none 0 0) (.bool false) w W
theorem MBv.below {R : Nat} {v z : Value} {w W W' : World} (h : MBv R v z w W) (hb : Below W.heap.size W W') : MBv R v z w W' :=
  ⟨blk_bel7 h.r hb, blk_bel7 h.z hb, h.bel.trans (hb.mono (by have := (Array.getElem?_eq_some_iff.1 h.r).1; omega))⟩
theorem MBv.setR {R : Nat} {v z : Value} {w W : World} (h : MBv R v z w W) (u : Value) : MBv R u z w (W.setCell ⟨R, 0, none⟩ u) :=
  ⟨pr_set h.r, blk_set h.z (by omega), h.bel.setCell (p := ⟨R, 0, none⟩) (Nat.le_refl _) _⟩
theorem MBv.setZ {R : Nat} {v z : Value} {w W : World} (h : MBv R v z w W) (u : Value) : MBv R v u w (W.setCell ⟨R + 1, 0, none⟩ u) :=
  ⟨blk_set h.r (by omega), pr_set h.z, h.bel.setCell (p := ⟨R + 1, 0, none⟩) (Nat.le_succ _) _⟩
theorem MBv.own {β : Type} {R B : Nat} {v z : Value} {w : World} (hR : R ≤ w.heap.size) (hB : R ≤ B) : OwnFrom B (fun (_ : β) W => MBv R v z w W) := by
  intro s A B' row hx hg hr
  exact ⟨own_blk B R (fun _ : β => #[v]) _ s A B' row hx.r hg hr, own_blk B (R + 1) (fun _ : β => #[z]) _ s A B' row hx.z hg hr, ownFrom_below (β := β) hR hB s A B' row hx.bel hg hr⟩
theorem four (w : World) (o0 o1 o2 o3 : Obj) (k : Nat) (hk : k < 4) : ((((w.alloc o0).alloc o1).alloc o2).alloc o3).heap[w.heap.size + k]? = [o0, o1, o2, o3][k]? := by
  have e : ((((w.alloc o0).alloc o1).alloc o2).alloc o3).heap = (((w.heap.push o0).push o1).push o2).push o3 := rfl
  rw [e]
  have : k = 0 ∨ k = 1 ∨ k = 2 ∨ k = 3 := by omega
  rcases this with rfl | rfl | rfl | rfl <;> simp [Array.getElem?_push, Array.getElem_push, Nat.add_assoc]
theorem inStepT_any (p q : Option Addr) (n c m d : Nat) (w : World) :
    Calls Tryd.prog 73 #[.slice p n c, .slice q m d, .func (.func 74) #[] #[]] w fun e w' => e = .returned (.func (.func 105) #[] #[.pointer (some ⟨w.heap.size, 0, none⟩), .pointer (some ⟨w.heap.size + 1, 0, none⟩), .pointer (some ⟨w.heap.size + 2, 0, none⟩)]) ∧ w' = ((w.alloc (.cells #[.slice p n c] 24)).alloc (.cells #[.slice q m d] 24)).alloc (.cells #[.func (.func 74) #[] #[]] 82) := by
  go_enter Tryd.func73, Tryd.ntmps73
  go_wp2
  go_ret
  exact ⟨by first | rfl | simp, rfl⟩
theorem op_one7 (o : Op7) : ∀ u ∈ [Value.int .i64 o.a, .int .i64 o.b, .int .i64 o.k, .int .i64 o.c, .int .i64 o.d, .int .i64 o.s, .int .i64 o.g], u.oneCell' = true := by
  intro u hu
  simp at hu
  rcases hu with rfl | rfl | rfl | rfl | rfl | rfl | rfl <;> rfl
/-- What stays through the rounds: the boxes of the answer, and of what is gone by. -/
structure CM (R Q : Nat) (a b : List Op7) (ga ca gb cb : Nat) (w W : World) : Prop where
  mb : MB R w W
  xa : W.heap[Q + 1]? = some (.cells #[.slice (some ⟨ga, 0, none⟩) a.length ca] 24 (0, 0))
  xb : W.heap[Q + 1 + 1]? = some (.cells #[.slice (some ⟨gb, 0, none⟩) b.length cb] 24 (0, 0))
  xl : W.heap[Q + 1 + 2]? = some (.cells #[.func (.func 74) #[] #[]] 82 (0, 0))
  big : Q + 4 ≤ W.heap.size
theorem CM.below {R Q : Nat} {a b : List Op7} {ga ca gb cb : Nat} {w W W' : World} (h : CM R Q a b ga ca gb cb w W) (hb : Below W.heap.size W W') : CM R Q a b ga ca gb cb w W' :=
  ⟨h.mb.below hb, blk_bel7 h.xa hb, blk_bel7 h.xb hb, blk_bel7 h.xl hb, Nat.le_trans h.big hb.size⟩
theorem CM.own {β : Type} {R Q B : Nat} {a b : List Op7} {ga ca gb cb : Nat} {w : World} (hR : R ≤ w.heap.size) (hB : R ≤ B) : OwnFrom B (fun (_ : β) W => CM R Q a b ga ca gb cb w W) := by
  intro s A B' row hx hg hr
  exact ⟨MBv.own (β := β) hR hB s A B' row hx.mb hg hr, own_blk B (Q + 1) (fun _ : β => #[.slice (some ⟨ga, 0, none⟩) a.length ca]) _ s A B' row hx.xa hg hr, own_blk B (Q + 1 + 1) (fun _ : β => #[.slice (some ⟨gb, 0, none⟩) b.length cb]) _ s A B' row hx.xb hg hr, own_blk B (Q + 1 + 2) (fun _ : β => #[.func (.func 74) #[] #[]]) _ s A B' row hx.xl hg hr, Nat.le_trans hx.big hg.size⟩
/-- A box is not the row's own block, so it stays when the row grows. -/
theorem stay_app {R Q : Nat} {W w2 : World} {tmp : Obj} {v u : Value} {k : Nat} {xs : List Value} {c : Nat} {cv : Value} {T : TypeId} (hx : Boxed W c T cv) (hT : T ≠ 71) (hne : c ≠ Q) (hgrow : (W.alloc tmp).grownBy w2 v.ownBlock) (hrow : W.ownsRow R 71 7 v k xs) : Boxed (w2.setCell ⟨Q, 0, none⟩ u) c T cv :=
  ((hx.alloc tmp).kept hgrow (hx.not_row hT hrow)).other hne u
theorem CM.app {R Q : Nat} {a b : List Op7} {ga ca gb cb : Nat} {w W w2 : World} {tmp : Obj} {v u0 : Value} {k : Nat} {xs : List Value} (h : CM R Q a b ga ca gb cb w W) (hb : Below R W (w2.setCell ⟨Q, 0, none⟩ u0)) (hgrow : (W.alloc tmp).grownBy w2 v.ownBlock) (hrow : W.ownsRow R 71 7 v k xs) (hRQ : R + 1 < Q) : CM R Q a b ga ca gb cb w (w2.setCell ⟨Q, 0, none⟩ u0) := by
  refine ⟨⟨stay_app h.mb.r (by decide) (by omega) hgrow hrow, stay_app h.mb.z (by decide) (by omega) hgrow hrow, h.mb.bel.trans hb⟩, stay_app h.xa (by decide) (by omega) hgrow hrow, stay_app h.xb (by decide) (by omega) hgrow hrow, stay_app h.xl (by decide) (by omega) hgrow hrow, ?_⟩
  exact Nat.le_trans h.big hb.size
theorem kpS_app {R Q : Nat} {a b : List Op7} {ga ca gb cb : Nat} {w W w2 : World} {tmp : Obj} {v u0 : Value} {k : Nat} {xs : List Value} (h : CM R Q a b ga ca gb cb w W) (hb : Below R W (w2.setCell ⟨Q, 0, none⟩ u0)) (hgrow : (W.alloc tmp).grownBy w2 v.ownBlock) (hrow : W.ownsRow R 71 7 v k xs) (hRQ : R + 1 < Q) : KpS R (Q + 1) (Q + 1 + 1) (Q + 1 + 2) W (w2.setCell ⟨Q, 0, none⟩ u0) := by
  have h2 := CM.app h hb hgrow hrow hRQ
  exact ⟨hb, h2.xa.trans h.xa.symm, h2.xb.trans h.xb.symm, h2.xl.trans h.xl.symm⟩
set_option maxRecDepth 100000 in
set_option maxHeartbeats 4000000 in
theorem implMerge_in (a b : List Op7) (n : Nat) (h3 : 3 ≤ n) (ga ca gb cb : Nat) (x : Addr) (w : World) (ha : OpsAt w ga a) (hb : OpsAt w gb b) (hna : a.length ≤ 1048576) (hnb : b.length ≤ 1048576) (hca : a.length ≤ ca) (hcb : b.length ≤ cb)
    (he : w.cell? ⟨0, 0, none⟩ = some (.iface 200 (.pointer (some x)))) (h0 : 0 < w.heap.size) :
    CallsIn Fence.wide n Tryd.prog 34 #[.slice (some ⟨ga, 0, none⟩) a.length ca, .slice (some ⟨gb, 0, none⟩) b.length cb] w fun e w' => (∃ v L z, e = .returned (.tuple #[v, .bool z]) ∧ w'.ownsRow w.heap.size 71 7 v L.length (opCells L) ∧ MergeSaid a b L z) ∧ Below w.heap.size w w' := by
  have h1 : 1 ≤ n := by omega
  have HA := hideIt ha
  have HB := hideIt hb
  have hga := ha.1
  have hgb := hb.1
  clear ha hb
  refine callsIn_of_wp_marks Tryd.func34 rfl trivial ?_ rfl
  simp only [Tryd.ntmps34, List.size_toArray, List.length_cons, List.length_nil, Nat.reduceAdd, Nat.reduceSub, Array.replicate_succ, Array.replicate_zero, List.push_toArray, List.append_toArray, List.nil_append, List.cons_append]
  obtain ⟨W0, hW0⟩ : ∃ W0, ((w.alloc (.cells #[.slice none 0 0] 24)).alloc (.cells #[.bool false] 4)) = W0 := ⟨_, rfl⟩
  have HBX : Hid (Below w.heap.size w W0) := by rw [← hW0]; exact ((Below.refl _ _).alloc (Nat.le_refl _) _).alloc (by simp) _
  have HRX : Hid (MB w.heap.size w W0) := by rw [← hW0]; exact ⟨(Below.heap_alloc _ _ _ (by simp)).trans (World.alloc_heap_new _ _), by have h := World.alloc_heap_new (w.alloc (.cells #[.slice none 0 0] 24)) (.cells #[.bool false] 4); rw [World.size_alloc] at h; exact h, ((Below.refl _ _).alloc (Nat.le_refl _) _).alloc (by simp) _⟩
  cases hoa : opsB a
  · have HN : Hid (MergeSaid a b [] false) := .inr ⟨rfl, rfl, fun h => by rw [hoa] at h; exact absurd h.1 (by decide)⟩
    have HOA := hideIt hoa
    clear hoa
    gi_wp2
    refine ⟨trivial, ?_⟩
    refine (callsIn_wide.2 (implOps_any a ga ca x _ (HA.out.below HBX.out hga) hna hca (errB HBX.out h0 he) (posB HBX.out h0))).mono ?_
    rintro e w1 ⟨rfl, hb1⟩
    rw [th_same, HOA.out]
    have HR1 := hideIt (HRX.out.below hb1)
    have r0 := (blk_cell HR1.out.r 0).trans rfl
    have z0 := (blk_cell HR1.out.z 0).trans rfl
    have rf : w1.frozen? ⟨w.heap.size, 0, none⟩ = false := by simp [World.frozen?, HR1.out.r]
    have zf : w1.frozen? ⟨w.heap.size + 1, 0, none⟩ = false := by simp [World.frozen?, HR1.out.z]
    clear hb1 hW0
    gi_wp2
    refine ⟨trivial, ?_⟩
    gi_wp2
    have HR2 := (HR1.out.setR (.slice none 0 0)).setZ (.bool false)
    have v0 := (blk_cell HR2.r 0).trans rfl
    have v1 := (blk_cell HR2.z 0).trans rfl
    exact ⟨.tuple #[.slice none 0 0, .bool false], by simp [results, Tryd.results34, go_sem, v0, v1], ⟨_, _, _, rfl, World.ownsRow_nil _ _ _ _, HN.out⟩, HR2.bel⟩
  · have HOA := hideIt hoa
    clear hoa
    cases hob : opsB b
    all_goals
      have HOB := hideIt hob
      clear hob
      gi_wp2
      refine ⟨trivial, ?_⟩
      refine (callsIn_wide.2 (implOps_any a ga ca x _ (HA.out.below HBX.out hga) hna hca (errB HBX.out h0 he) (posB HBX.out h0))).mono ?_
      rintro e w1 ⟨rfl, hb1⟩
      rw [th_same, HOA.out]
      have HR1 := hideIt (HRX.out.below hb1)
      clear hb1
      gi_wp2
      refine ⟨trivial, ?_⟩
      refine (callsIn_wide.2 (implOps_any b gb cb x _ (HB.out.below HR1.out.bel hgb) hnb hcb (errB HR1.out.bel h0 he) (posB HR1.out.bel h0))).mono ?_
      rintro e w2 ⟨rfl, hb2⟩
      rw [th_same, HOB.out]
      have HR2 := hideIt (HR1.out.below hb2)
      have r0 := (blk_cell HR2.out.r 0).trans rfl
      have z0 := (blk_cell HR2.out.z 0).trans rfl
      have rf : w2.frozen? ⟨w.heap.size, 0, none⟩ = false := by simp [World.frozen?, HR2.out.r]
      have zf : w2.frozen? ⟨w.heap.size + 1, 0, none⟩ = false := by simp [World.frozen?, HR2.out.z]
      clear hb2 HR1
    · have HN : Hid (MergeSaid a b [] false) := .inr ⟨rfl, rfl, fun h => by rw [HOB.out] at h; exact absurd h.2.1 (by decide)⟩
      clear hW0
      gi_wp2
      have HR3 := (HR2.out.setR (.slice none 0 0)).setZ (.bool false)
      have v0 := (blk_cell HR3.r 0).trans rfl
      have v1 := (blk_cell HR3.z 0).trans rfl
      exact ⟨.tuple #[.slice none 0 0, .bool false], by simp [results, Tryd.results34, go_sem, v0, v1], ⟨_, _, _, rfl, World.ownsRow_nil _ _ _ _, HN.out⟩, HR3.bel⟩
    · clear r0 z0 rf zf hW0
      gi_wp2
      refine ⟨trivial, ?_⟩
      refine (callsIn_wide.2 (inStepT_any _ _ _ _ _ _ _)).mono ?_
      rintro e w3 ⟨rfl, hw3⟩
      gi_wp2
      obtain ⟨W3, hW3⟩ : ∃ W3, ((((w2.alloc (.cells #[.slice none 0 0] 24)).alloc (.cells #[.slice (some ⟨ga, 0, none⟩) a.length ca] 24)).alloc (.cells #[.slice (some ⟨gb, 0, none⟩) b.length cb] 24)).alloc (.cells #[.func (.func 74) #[] #[]] 82)) = W3 := ⟨_, rfl⟩
      obtain ⟨xv, xa, xb, xl, hbw, hsz⟩ : Boxed W3 w2.heap.size 24 (.slice none 0 0) ∧ W3.heap[w2.heap.size + 1]? = some (.cells #[.slice (some ⟨ga, 0, none⟩) a.length ca] 24 (0, 0)) ∧ W3.heap[w2.heap.size + 1 + 1]? = some (.cells #[.slice (some ⟨gb, 0, none⟩) b.length cb] 24 (0, 0)) ∧ W3.heap[w2.heap.size + 1 + 2]? = some (.cells #[.func (.func 74) #[] #[]] 82 (0, 0)) ∧ Below w2.heap.size w2 W3 ∧ W3.heap.size = w2.heap.size + 4 := by
        rw [← hW3]
        exact ⟨four w2 _ _ _ _ 0 (by omega), four w2 _ _ _ _ 1 (by omega), four w2 _ _ _ _ 2 (by omega), four w2 _ _ _ _ 3 (by omega), ((((Below.refl _ _).alloc (Nat.le_refl _) _).alloc (by simp) _).alloc (by simp; omega) _).alloc (by simp; omega) _, by simp⟩
      rw [hW3]
      have HSQ := hideIt (step_stops a b hna hnb (some ⟨ga, 0, none⟩) (some ⟨gb, 0, none⟩) ca cb (w2.heap.size + 1) (w2.heap.size + 1 + 1) (w2.heap.size + 1 + 2) 82 hca hcb w (.inr ⟨ga, rfl, HA.out⟩) (.inr ⟨gb, rfl, HB.out⟩) (n - 1) W3 (HR2.out.bel.trans (hbw.mono HR2.out.bel.size)) xa xb xl)
      have HCM0 : Hid (CM w.heap.size w2.heap.size a b ga ca gb cb w W3) := ⟨HR2.out.below hbw, xa, xb, xl, by omega⟩
      have HXV := hideIt xv
      have hwR : w.heap.size + 1 < w2.heap.size := (Array.getElem?_eq_some_iff.1 HR2.out.z).1
      obtain ⟨i0, hi, hz0, hz1, hz2⟩ := info_parts infoOp
      have HI1 := hideIt hi
      have HZ0 := hideIt hz0
      have HZ1 := hideIt hz1
      have HZ2 := hideIt hz2
      clear hi hz0 hz1 hz2 hW3 xv xa xb xl hbw HR2 HBX HRX
      generalize hQ : w2.heap.size = Q at *
      generalize hR : w.heap.size = R at *
      refine wpIn_rangeFunc_ownH rfl h1 (gf := 105) (lb := #[.pointer (some ⟨Q + 1, 0, none⟩), .pointer (some ⟨Q + 1 + 1, 0, none⟩), .pointer (some ⟨Q + 1 + 2, 0, none⟩)]) rfl trivial (enters_of Tryd.func105 (by kernel_rfl) rfl) HSQ.out
        (fun h k => h.trans k) (kpS_b (by omega) (by omega) (by omega) (by omega)) (Below.refl _ _) (fun _ => rfl)
        (fun pre W => CM R Q a b ga ca gb cb w W ∧ (∃ v, Boxed W Q 24 v ∧ W.ownsRow R 71 7 v pre.length (opCells (pre.map Pr.pick)) ∧ True) ∧ pre.all Pr.ok = true)
        (fun c pre W => MB R w W ∧ (c = .ret ∧ ∃ p y, pre = p ++ [y] ∧ y.ok = false))
        (OwnFrom.and (CM.own (by omega) (by omega)) (OwnFrom.and (Own.from (holdsRow_own R Q 24 71 7 (fun pre : List Pr => pre.length) (fun pre => opCells (pre.map Pr.pick)) (fun _ _ => True)) _) (ownFrom_pure _ _)))
        (fun c => OwnFrom.and (MBv.own (by omega) (by omega)) (ownFrom_pure _ (fun pre : List Pr => c = .ret ∧ ∃ p y, pre = p ++ [y] ∧ y.ok = false)))
        ⟨HCM0.out, ⟨_, HXV.out, World.ownsRow_nil _ _ _ _, trivial⟩, rfl⟩
        (fun x' a' W => ∃ Bx, Q + 4 ≤ Bx ∧ W.heap[Bx]? = some (.cells #[.int .i64 x'.one.a, .int .i64 x'.one.b, .int .i64 x'.one.k, .int .i64 x'.one.c, .int .i64 x'.one.d, .int .i64 x'.one.s, .int .i64 x'.one.g, .int .i64 x'.other.a, .int .i64 x'.other.b, .int .i64 x'.other.k, .int .i64 x'.other.c, .int .i64 x'.other.d, .int .i64 x'.other.s, .int .i64 x'.other.g, .bool x'.inOne, .bool x'.inOther] 98 (0, 0)) ∧ a' =
          { tmps := #[Value.slice (some { block := ga, off := 0 }) a.length ca,
            Value.slice (some { block := gb, off := 0 }) b.length cb, undef, undef,
            Value.pointer (some { block := R, off := 0 }),
            Value.pointer (some { block := R + 1, off := 0 }),
            Value.pointer (some { block := Q, off := 0 }), Value.pointer (some { block := Bx, off := 0 }),
            Value.slice (some { block := ga, off := 0 }) a.length ca, Value.bool true, Value.bool false, Value.bool false,
            Value.slice (some { block := gb, off := 0 }) b.length cb, Value.bool true, Value.bool false, Value.bool false,
            Value.slice (some { block := ga, off := 0 }) a.length ca,
            Value.slice (some { block := gb, off := 0 }) b.length cb,
            Value.func (Fn.func 105) #[]
              #[Value.pointer (some { block := Q + 1, off := 0 }),
                Value.pointer (some { block := Q + 1 + 1, off := 0 }),
                Value.pointer (some { block := Q + 1 + 2, off := 0 })],
            prV x', undef, undef, undef, undef, undef, undef, undef, undef, undef, undef, undef, undef, undef, undef,
            undef, undef, undef, undef, undef, undef, undef, undef, undef, undef, undef, undef, undef, undef], defers := [] })
        ?hAx ?assign ?body ?done ?stop
      case hAx =>
        rintro x' a' _ A B row ⟨Bx, hb, hx, ha⟩ hg hr
        exact ⟨Bx, hb, (hg.block Bx (Array.getElem?_eq_some_iff.1 hx).1 (fun e => by obtain ⟨_, o, ho, hc⟩ := hr Bx e.symm; rw [hx] at ho; cases ho; cases hc)).trans hx, ha⟩
      case assign =>
        rintro lp pre x' W K ⟨hcm, ⟨v, bv, hrow, _⟩, hall⟩ hK
        have hg3 := hcm.big
        unfold prV
        gi_wp2
        exact hK _ _ ((KeepsOthers.alloc _ _).from _) (KpS.of_below (by omega) (by omega) (by omega) (by omega) ((Below.refl _ _).alloc (Nat.le_refl _) _)) ⟨hcm.below ((Below.refl _ _).alloc (Nat.le_refl _) _), ⟨v, bv.alloc _, hrow.alloc _, trivial⟩, hall⟩ ⟨W.heap.size, by omega, World.alloc_heap_new _ _, rfl⟩
      case body =>
        rintro lp pre x' a' W hl ⟨rr, hr⟩ ⟨hcm, ⟨v, bv, hrow, _⟩, hall⟩ ⟨Bx, hbx, hx, rfl⟩ hlt
        have HCM := hideIt hcm
        have HRW := hideIt hrow
        have HBV := hideIt bv
        have hwl : R ≤ W.heap.size := by have := hcm.big; omega
        have hc := bv.cell
        have r0 := (blk_cell hcm.mb.r 0).trans rfl
        have z0 := (blk_cell hcm.mb.z 0).trans rfl
        have rf : W.frozen? ⟨R, 0, none⟩ = false := by simp [World.frozen?, hcm.mb.r]
        have zf : W.frozen? ⟨R + 1, 0, none⟩ = false := by simp [World.frozen?, hcm.mb.z]
        have hnR : Bx ≠ R := by omega
        have hnZ : Bx ≠ R + 1 := by omega
        have hsl : pre.length ≤ 2097152 := by omega
        have c0 := (blk_cell hx 0).trans rfl
        have c1 := (blk_cell hx 1).trans rfl
        have c2 := (blk_cell hx 2).trans rfl
        have c3 := (blk_cell hx 3).trans rfl
        have c4 := (blk_cell hx 4).trans rfl
        have c5 := (blk_cell hx 5).trans rfl
        have c6 := (blk_cell hx 6).trans rfl
        have c7 := (blk_cell hx 7).trans rfl
        have c8 := (blk_cell hx 8).trans rfl
        have c9 := (blk_cell hx 9).trans rfl
        have c10 := (blk_cell hx 10).trans rfl
        have c11 := (blk_cell hx 11).trans rfl
        have c12 := (blk_cell hx 12).trans rfl
        have c13 := (blk_cell hx 13).trans rfl
        have c14 := (blk_cell hx 14).trans rfl
        have c15 := (blk_cell hx 15).trans rfl
        have HYES : Hid (x'.ok = true → (pre ++ [x']).map Pr.pick = pre.map Pr.pick ++ [x'.pick] ∧ (pre ++ [x']).all Pr.ok = true) := fun h => ⟨by simp, by rw [List.all_append, hall]; simp [h]⟩
        have HNO : Hid (x'.ok = false → ∃ p y, pre ++ [x'] = p ++ [y] ∧ y.ok = false) := fun h => ⟨pre, x', rfl, h⟩
        clear hx hcm hall hr hlt hrow bv
        obtain ⟨po, pt, i1, i2⟩ := x'
        dsimp only at c0 c1 c2 c3 c4 c5 c6 c7 c8 c9 c10 c11 c12 c13 c14 c15
        unfold prV
        cases i1
        · have HE := hideIt (HYES.out rfl)
          clear HYES HNO r0 z0 rf zf
          gi_wp2_with (first
            | (gi_at_builtin; refine wpListIn_append_own _ rfl _ _ 24 rfl R 71 i0 _ 7 56 Tryd.underlying24 HI1.out HZ0.out HZ1.out HZ2.out rfl (by decide) _ _ _ rfl (HRW.out.alloc _) ⟨W.heap.size, 0, none⟩ 1 1 [.int .i64 pt.a, .int .i64 pt.b, .int .i64 pt.k, .int .i64 pt.c, .int .i64 pt.d, .int .i64 pt.s, .int .i64 pt.g] rfl rfl (cells_new W [.int .i64 pt.a, .int .i64 pt.b, .int .i64 pt.k, .int .i64 pt.c, .int .i64 pt.d, .int .i64 pt.s, .int .i64 pt.g] 71) (op_one7 pt) (by unfold maxLen; omega) (by omega) (by simp; omega) ?_; intro v' w2 hown' hgrow _; obtain ⟨g', cap', rfl⟩ := ownsRow_succ hown'; obtain ⟨hv1, hv2, hr2, hk2, hb2⟩ := HBV.out.appended (by decide) HRW.out hwl (by omega) hown' hgrow; have hc1 := hv1.cell; have hf1 := hv1.frozen;
                have HKP : Hid (KpS R (Q + 1) (Q + 1 + 1) (Q + 1 + 2) W (w2.setCell ⟨Q, 0, none⟩ (.slice (some ⟨g', 0, none⟩) (pre.length + 1) cap'))) := kpS_app HCM.out hb2 hgrow HRW.out (by omega);
                have HC2 : Hid (CM R Q a b ga ca gb cb w (w2.setCell ⟨Q, 0, none⟩ (.slice (some ⟨g', 0, none⟩) (pre.length + 1) cap'))) := CM.app HCM.out hb2 hgrow HRW.out (by omega);
                have HV2 := hideIt hv2; have HR2 := hideIt hr2; have HK2 := hideIt hk2; clear hv2 hr2 hk2 hb2 hv1 hown' hgrow)
            | gi_in)
          exact ⟨HK2.out.from _, HKP.out, HC2.out, ⟨_, HV2.out, by rw [HE.out.1, List.length_append, opCells_app]; exact HR2.out, trivial⟩, HE.out.2⟩
        · cases i2
          · have HE := hideIt (HYES.out rfl)
            clear HYES HNO r0 z0 rf zf
            gi_wp2_with (first
              | (gi_at_builtin; refine wpListIn_append_own _ rfl _ _ 24 rfl R 71 i0 _ 7 56 Tryd.underlying24 HI1.out HZ0.out HZ1.out HZ2.out rfl (by decide) _ _ _ rfl (HRW.out.alloc _) ⟨W.heap.size, 0, none⟩ 1 1 [.int .i64 po.a, .int .i64 po.b, .int .i64 po.k, .int .i64 po.c, .int .i64 po.d, .int .i64 po.s, .int .i64 po.g] rfl rfl (cells_new W [.int .i64 po.a, .int .i64 po.b, .int .i64 po.k, .int .i64 po.c, .int .i64 po.d, .int .i64 po.s, .int .i64 po.g] 71) (op_one7 po) (by unfold maxLen; omega) (by omega) (by simp; omega) ?_; intro v' w2 hown' hgrow _; obtain ⟨g', cap', rfl⟩ := ownsRow_succ hown'; obtain ⟨hv1, hv2, hr2, hk2, hb2⟩ := HBV.out.appended (by decide) HRW.out hwl (by omega) hown' hgrow; have hc1 := hv1.cell; have hf1 := hv1.frozen;
                  have HKP : Hid (KpS R (Q + 1) (Q + 1 + 1) (Q + 1 + 2) W (w2.setCell ⟨Q, 0, none⟩ (.slice (some ⟨g', 0, none⟩) (pre.length + 1) cap'))) := kpS_app HCM.out hb2 hgrow HRW.out (by omega);
                  have HC2 : Hid (CM R Q a b ga ca gb cb w (w2.setCell ⟨Q, 0, none⟩ (.slice (some ⟨g', 0, none⟩) (pre.length + 1) cap'))) := CM.app HCM.out hb2 hgrow HRW.out (by omega);
                  have HV2 := hideIt hv2; have HR2 := hideIt hr2; have HK2 := hideIt hk2; clear hv2 hr2 hk2 hb2 hv1 hown' hgrow)
              | gi_in)
            exact ⟨HK2.out.from _, HKP.out, HC2.out, ⟨_, HV2.out, by rw [HE.out.1, List.length_append, opCells_app]; exact HR2.out, trivial⟩, HE.out.2⟩
          · by_cases hq : po = pt
            · subst hq
              have HE := hideIt (HYES.out (by simp [Pr.ok, eqO_iff.2]))
              clear HYES HNO r0 z0 rf zf
              gi_wp2_with (first
                | (gi_at_builtin; refine wpListIn_append_own _ rfl _ _ 24 rfl R 71 i0 _ 7 56 Tryd.underlying24 HI1.out HZ0.out HZ1.out HZ2.out rfl (by decide) _ _ _ rfl (HRW.out.alloc _) ⟨W.heap.size, 0, none⟩ 1 1 [.int .i64 po.a, .int .i64 po.b, .int .i64 po.k, .int .i64 po.c, .int .i64 po.d, .int .i64 po.s, .int .i64 po.g] rfl rfl (cells_new W [.int .i64 po.a, .int .i64 po.b, .int .i64 po.k, .int .i64 po.c, .int .i64 po.d, .int .i64 po.s, .int .i64 po.g] 71) (op_one7 po) (by unfold maxLen; omega) (by omega) (by simp; omega) ?_; intro v' w2 hown' hgrow _; obtain ⟨g', cap', rfl⟩ := ownsRow_succ hown'; obtain ⟨hv1, hv2, hr2, hk2, hb2⟩ := HBV.out.appended (by decide) HRW.out hwl (by omega) hown' hgrow; have hc1 := hv1.cell; have hf1 := hv1.frozen;
                    have HKP : Hid (KpS R (Q + 1) (Q + 1 + 1) (Q + 1 + 2) W (w2.setCell ⟨Q, 0, none⟩ (.slice (some ⟨g', 0, none⟩) (pre.length + 1) cap'))) := kpS_app HCM.out hb2 hgrow HRW.out (by omega);
                    have HC2 : Hid (CM R Q a b ga ca gb cb w (w2.setCell ⟨Q, 0, none⟩ (.slice (some ⟨g', 0, none⟩) (pre.length + 1) cap'))) := CM.app HCM.out hb2 hgrow HRW.out (by omega);
                    have HV2 := hideIt hv2; have HR2 := hideIt hr2; have HK2 := hideIt hk2; clear hv2 hr2 hk2 hb2 hv1 hown' hgrow)
                | gi_in)
              exact ⟨HK2.out.from _, HKP.out, HC2.out, ⟨_, HV2.out, by rw [HE.out.1, List.length_append, opCells_app]; exact HR2.out, trivial⟩, HE.out.2⟩
            · have HF := hideIt (HNO.out (by
                have : eqO po pt = false := by
                  cases h : eqO po pt
                  · rfl
                  · exact absurd (eqO_iff.1 h) hq
                simp [Pr.ok, this]))
              have hne := op_ne hq
              clear HYES HNO hq
              rcases hne with hne | ⟨e0, hne⟩ | ⟨e0, e1, hne⟩ | ⟨e0, e1, e2, hne⟩ | ⟨e0, e1, e2, e3, hne⟩ | ⟨e0, e1, e2, e3, e4, hne⟩ | ⟨e0, e1, e2, e3, e4, e5, hne⟩
              all_goals
                gi_wp2
                exact ⟨((KeepsOthers.setCell _ _ _).trans (KeepsOthers.setCell _ _ _)).from _, (HCM.out.mb.setR _).setZ _, rfl, HF.out⟩
      case done =>
        rintro D ys W hD hS ⟨hcm, ⟨v, bv, hrow, _⟩, hall⟩ hK
        rw [show ys.length = (ys.map Pr.pick).length by simp] at hrow
        obtain ⟨hpk, hag⟩ := hS.done (ops_asc HOA.out) (ops_asc HOB.out) hall
        have HT : Hid (MergeSaid a b (ys.map Pr.pick) true) := .inl ⟨rfl, HOA.out, HOB.out, hag, hpk⟩
        have HCM := hideIt hcm
        have HRW := hideIt hrow
        have hDR : D ≠ R := by omega
        have hDZ : D ≠ R + 1 := by omega
        have hsz3 : W3.heap.size = Q + 4 := hsz
        have hc := bv.cell
        have r0 := (blk_cell hcm.mb.r 0).trans rfl
        have z0 := (blk_cell hcm.mb.z 0).trans rfl
        have rf : W.frozen? ⟨R, 0, none⟩ = false := by simp [World.frozen?, hcm.mb.r]
        have zf : W.frozen? ⟨R + 1, 0, none⟩ = false := by simp [World.frozen?, hcm.mb.z]
        have hrow2 : ((W.setCell ⟨R, 0, none⟩ v).setCell ⟨R + 1, 0, none⟩ (.bool true)).ownsRow R 71 7 v (ys.map Pr.pick).length (opCells (ys.map Pr.pick)) := by
          have hb1 : Boxed W R 24 (.slice none 0 0) := hcm.mb.r
          have hb2 : Boxed W (R + 1) 4 (.bool false) := hcm.mb.z
          have h1 := hrow.kept (grownBy_setCell' W R v) (.inr (hb1.not_row (by decide) hrow).symm)
          have hb3 : Boxed (W.setCell ⟨R, 0, none⟩ v) (R + 1) 4 (.bool false) := hb2.other (by omega) _
          exact h1.kept (grownBy_setCell' _ (R + 1) _) (.inr (hb3.not_row (by decide) h1).symm)
        have HR2 := hideIt hrow2
        have zK : ((W.setCell ⟨R, 0, none⟩ v).setCell ⟨R + 1, 0, none⟩ (.bool true)).heap[D]? = some (.deferred (some [])) := blk_set (blk_set hK hDR) hDZ
        have HM2 := hideIt ((hcm.mb.setR v).setZ (.bool true))
        clear hpk hag hS hcm hall hrow hrow2
        have hlv : ∃ q k c, v = .slice q k c := by
          rcases HRW.out.2 with ⟨rfl, _⟩ | ⟨g', cap', cur', rfl, _⟩
          · exact ⟨_, _, _, rfl⟩
          · exact ⟨_, _, _, rfl⟩
        obtain ⟨vq, vk, vc, rfl⟩ := hlv
        gi_wp2
        refine ⟨by simp, .inl ⟨_, _, rfl, run_takeDeferred zK, ?_⟩⟩
        have v0 : (((W.setCell ⟨R, 0, none⟩ (.slice vq vk vc)).setCell ⟨R + 1, 0, none⟩ (.bool true)).putObj D (.deferred none)).cell? ⟨R, 0, none⟩ = some (.slice vq vk vc) := (cell_put _ hDR.symm).trans ((blk_cell HM2.out.r 0).trans rfl)
        have v1 : (((W.setCell ⟨R, 0, none⟩ (.slice vq vk vc)).setCell ⟨R + 1, 0, none⟩ (.bool true)).putObj D (.deferred none)).cell? ⟨R + 1, 0, none⟩ = some (.bool true) := (cell_put _ hDZ.symm).trans ((blk_cell HM2.out.z 0).trans rfl)
        exact ⟨.tuple #[.slice vq vk vc, .bool true], by simp [results, Tryd.results34, go_sem, v0, v1], ⟨_, _, _, rfl, hR.symm ▸ ownsRow_putObj HR2.out _ zK rfl, HT.out⟩, hR.symm ▸ HM2.out.bel.trans (belowK_b (w := W3) (by omega) _ D _ _ (by omega) zK rfl rfl)⟩
      case stop =>
        rintro D c pre W hD ⟨i, j, hw⟩ ⟨hmb, rfl, p, y, rfl, hy⟩ hK
        have HT : Hid (MergeSaid a b [] false) := .inr ⟨rfl, rfl, fun h => by
          obtain ⟨z, hz, hzb⟩ := Walk.not_agr (ops_asc HOA.out) hw hy
          exact hzb (h.2.2 z hz)⟩
        have HMB := hideIt hmb
        have hDR : D ≠ R := by omega
        have hDZ : D ≠ R + 1 := by omega
        have hsz3 : W3.heap.size = Q + 4 := hsz
        clear hw hmb hy
        gi_wp2
        refine ⟨by simp, .inl ⟨_, _, rfl, run_takeDeferred hK, ?_⟩⟩
        have v0 : (W.putObj D (.deferred none)).cell? ⟨R, 0, none⟩ = some (.slice none 0 0) := (cell_put _ hDR.symm).trans ((blk_cell HMB.out.r 0).trans rfl)
        have v1 : (W.putObj D (.deferred none)).cell? ⟨R + 1, 0, none⟩ = some (.bool false) := (cell_put _ hDZ.symm).trans ((blk_cell HMB.out.z 0).trans rfl)
        exact ⟨.tuple #[.slice none 0 0, .bool false], by simp [results, Tryd.results34, go_sem, v0, v1], ⟨_, _, _, rfl, World.ownsRow_nil _ _ _ _, HT.out⟩, hR.symm ▸ HMB.out.bel.trans (belowK_b (w := W3) (by omega) W D _ _ (by omega) hK rfl rfl)⟩
theorem implMerge_any (a b : List Op7) (ga ca gb cb : Nat) (x : Addr) (w : World) (ha : OpsAt w ga a) (hb : OpsAt w gb b) (hna : a.length ≤ 1048576) (hnb : b.length ≤ 1048576) (hca : a.length ≤ ca) (hcb : b.length ≤ cb)
    (he : w.cell? ⟨0, 0, none⟩ = some (.iface 200 (.pointer (some x)))) (h0 : 0 < w.heap.size) :
    Calls Tryd.prog 34 #[.slice (some ⟨ga, 0, none⟩) a.length ca, .slice (some ⟨gb, 0, none⟩) b.length cb] w fun e w' => (∃ v L z, e = .returned (.tuple #[v, .bool z]) ∧ w'.ownsRow w.heap.size 71 7 v L.length (opCells L) ∧ MergeSaid a b L z) ∧ Below w.heap.size w w' :=
  callsIn_wide.1 (implMerge_in a b 3 (Nat.le_refl _) ga ca gb cb x w ha hb hna hnb hca hcb he h0)
end Go.Proofs.YtficnhlkefpfnaaDoor

namespace Go.Proofs.YtficnhlkefpfnaaDoor
open Go.RowKit
set_option linter.unusedSimpArgs false
set_option linter.unusedVariables false

theorem eqIntS_none (p q : Option Addr) (c1 c2 : Nat) (w : World) :
    Calls Tryd.prog 38 #[.slice p 0 c1, .slice q 0 c2] w fun e w' => e = .returned (.bool true) ∧ w' = w := by
  go_enter Tryd.func38, Tryd.ntmps38
  go_wp2
  refine wp_loop_rounds 1 ?_
  rw [rounds_succ]
  go_wp2
  go_ret
  exact ⟨rfl, rfl⟩
theorem heldIntS_none (p : Option Addr) (c : Nat) (w : World) :
    Calls Tryd.prog 71 #[.slice p 0 c, .int .i64 1] w fun e w' => e = .returned (.int .i64 1) ∧ w' = w := by
  go_enter Tryd.func71, Tryd.ntmps71
  go_wp2
  refine wp_loop_rounds 1 ?_
  rw [rounds_succ]
  go_wp2
  go_ret
  exact ⟨rfl, rfl⟩
theorem markIntS_none (p : Option Addr) (c : Nat) (w : World) :
    Calls Tryd.prog 39 #[.slice p 0 c, .int .i64 1] w fun e w' => e = .returned (.int .i64 1) ∧ w' = w := by
  go_enter Tryd.func39, Tryd.ntmps39
  go_wp2
  refine wp_loop_rounds 1 ?_
  rw [rounds_succ]
  go_wp2
  go_ret
  exact ⟨rfl, rfl⟩
set_option maxHeartbeats 1000000 in
theorem eqIntS_same (xs : List Int) (g1 g2 cap1 cap2 : Nat) (w : World) (hl1 : IntsAt w g1 xs) (hl2 : IntsAt w g2 xs) (hn : xs.length ≤ 1048576) (hcap1 : xs.length ≤ cap1) (hcap2 : xs.length ≤ cap2) :
    Calls Tryd.prog 38 #[.slice (some ⟨g1, 0, none⟩) xs.length cap1, .slice (some ⟨g2, 0, none⟩) xs.length cap2] w fun e w' => e = .returned (.bool true) ∧ Below w.heap.size w w' := by
  go_enter Tryd.func38, Tryd.ntmps38
  go_wp2
  go_loopw [5] (fun i wr => ∃ k : Nat, k ≤ xs.length ∧ i = .int .i64 k ∧ Below w.heap.size w wr)
    (fun i _ => xs.length - (intOf i).toNat)
  case atStart => exact ⟨0, Nat.zero_le _, rfl, by go_grown⟩
  case round =>
    obtain ⟨k, hk, rfl, hB⟩ := hrel
    have HB : Hid (Below w.heap.size w wr) := hB
    by_cases hlt : k < xs.length
    · have j1 := (hl1.below hB hl1.1).2 k xs[k] (by simp [hlt])
      have j2 := (hl2.below hB hl2.1).2 k xs[k] (by simp [hlt])
      generalize xs[k] = x at *
      have hlt' : (k : Int) < (xs.length : Int) := by omega
      have hk0 : (0 : Int) ≤ (k : Int) := by omega
      clear hB hl1 hl2
      go_wp2
      go_quiet (fail)
      go_wp2
      exact ⟨⟨k + 1, by omega, by go_num, below_drewN HB.out _⟩, by simp [intOf]; omega⟩
    · clear hB hl1 hl2
      go_wp2
      go_ret
      exact ⟨rfl, HB.out⟩
theorem held3 (g cap : Nat) (w : World) (hl : IntsAt w g [1, 2, 3]) :
    Calls Tryd.prog 71 #[.slice (some ⟨g, 0, none⟩) 3 3, .int .i64 1] w fun e w' => e = .returned (.int .i64 4) ∧ w' = w := by
  have h0 := hl.2 0 _ rfl
  have h1 := hl.2 1 _ rfl
  have h2 := hl.2 2 _ rfl
  clear hl
  go_enter Tryd.func71, Tryd.ntmps71
  go_wp2
  go_rounds 4
  go_ret
  exact ⟨rfl, rfl⟩
theorem mark3 (g : Nat) (x1 x2 x3 : Int) (w : World) (hl : IntsAt w g [x1, x2, x3]) (hf : ∀ j, w.frozen? ⟨g, j, none⟩ = false) :
    Calls Tryd.prog 39 #[.slice (some ⟨g, 0, none⟩) 3 3, .int .i64 1] w fun e w' => e = .returned (.int .i64 4) ∧ w' = ((w.setCell ⟨g, 0, none⟩ (.int .i64 1)).setCell ⟨g, 1, none⟩ (.int .i64 2)).setCell ⟨g, 2, none⟩ (.int .i64 3) := by
  have h0 := hl.2 0 _ rfl
  have h1 := hl.2 1 _ rfl
  have h2 := hl.2 2 _ rfl
  clear hl
  go_enter Tryd.func39, Tryd.ntmps39
  go_wp2
  go_rounds 4
  go_ret
  exact ⟨rfl, rfl⟩
/-- But for one block nothing has turned. -/
structure OnlyBlk (g : Nat) (w w' : World) : Prop where
  os : w'.os = w.os
  tape : w'.tape = w.tape
  output : w'.output = w.output
  size : w'.heap.size = w.heap.size
  block : ∀ k, k ≠ g → w'.heap[k]? = w.heap[k]?
theorem OnlyBlk.refl (g : Nat) (w : World) : OnlyBlk g w w := ⟨rfl, rfl, rfl, rfl, fun _ _ => rfl⟩
theorem OnlyBlk.setCell {g : Nat} {w w' : World} (h : OnlyBlk g w w') (j : Nat) (u : Value) : OnlyBlk g w (w'.setCell ⟨g, j, none⟩ u) :=
  ⟨h.os, h.tape, h.output, by simp [h.size], fun k hk => by rw [Below.heap_setCell _ _ _ _ hk]; exact h.block k hk⟩
theorem OnlyBlk.below {g B : Nat} {w w' : World} (h : OnlyBlk g w w') (hB : B ≤ g) : Below B w w' :=
  ⟨h.os, h.tape, h.output, by rw [h.size]; exact Nat.le_refl _, fun k hk => h.block k (by omega)⟩
theorem OnlyBlk.ints {g b : Nat} {w w' : World} {xs : List Int} (h : OnlyBlk g w w') (hb : b ≠ g) (hl : IntsAt w b xs) : IntsAt w' b xs := by
  refine ⟨by rw [h.size]; exact hl.1, fun i x hx => ?_⟩
  have e : w'.cell? ⟨b, i, none⟩ = w.cell? ⟨b, i, none⟩ := by simp [World.cell?, h.block b hb]
  rw [e]; exact hl.2 i x hx
/-- A block of things that may be written. -/
def Blk (w : World) (g n : Nat) : Prop := ∃ cur : Array Value, w.heap[g]? = some (.cells cur 71 (0, 0)) ∧ cur.size = n * 7
theorem Blk.setCell {w : World} {g n : Nat} (h : Blk w g n) (j : Nat) (u : Value) : Blk (w.setCell ⟨g, j, none⟩ u) g n := by
  obtain ⟨cur, h1, h2⟩ := h
  exact ⟨_, heap_setCell_same w g j cur 71 u h1, by simpa using h2⟩
theorem Blk.frozen {w : World} {g n : Nat} (h : Blk w g n) (j : Nat) : w.frozen? ⟨g, j, none⟩ = false := by
  obtain ⟨cur, h1, _⟩ := h
  simp [World.frozen?, h1]
theorem Blk.cell {w : World} {g n : Nat} (h : Blk w g n) (j : Nat) (hj : j < n * 7) : ∃ u, w.cell? ⟨g, j, none⟩ = some u := by
  obtain ⟨cur, h1, h2⟩ := h
  exact ⟨cur[j]'(by omega), by simp [World.cell?, h1]⟩

set_option maxHeartbeats 2000000 in
theorem markOpS_any (g n cap : Nat) (w : World) (hl : Blk w g n) (hn : n ≤ 1048576) (hcap : n ≤ cap) :
    Calls Tryd.prog 18 #[.slice (some ⟨g, 0, none⟩) n cap, .int .i64 1] w fun e w' => e = .returned (.int .i64 (1 + 7 * n)) ∧ OnlyBlk g w w' := by
  have HL := hideIt hl
  clear hl
  go_enter Tryd.func18, Tryd.ntmps18
  go_wp2
  go_loopw [1, 5] (fun m i wr => ∃ k : Nat, k ≤ n ∧ i = .int .i64 k ∧ m = .int .i64 (1 + 7 * k) ∧ Blk wr g n ∧ OnlyBlk g w wr)
    (fun _ i _ => n - (intOf i).toNat)
  case atStart => exact ⟨0, Nat.zero_le _, rfl, rfl, HL.out, OnlyBlk.refl _ _⟩
  case round =>
    obtain ⟨k, hk, rfl, rfl, hb, ho⟩ := hrel
    have HBK := hideIt hb
    have HO := hideIt ho
    clear ho
    by_cases hlt : k < n
    · have hfz : ∀ j, wr.frozen? ⟨g, j, none⟩ = false := fun j => hb.frozen j
      obtain ⟨u0, e0⟩ := hb.cell (k * 7) (by omega)
      obtain ⟨v1, e1⟩ := hb.cell (k * 7 + 1) (by omega)
      obtain ⟨v2, e2⟩ := hb.cell (k * 7 + 2) (by omega)
      obtain ⟨v3, e3⟩ := hb.cell (k * 7 + 3) (by omega)
      obtain ⟨v4, e4⟩ := hb.cell (k * 7 + 4) (by omega)
      obtain ⟨v5, e5⟩ := hb.cell (k * 7 + 5) (by omega)
      obtain ⟨v6, e6⟩ := hb.cell (k * 7 + 6) (by omega)
      have hlt' : (k : Int) < (n : Int) := by omega
      have hk0 : (0 : Int) ≤ (k : Int) := by omega
      clear hb
      go_wp2
      exact ⟨⟨k + 1, by omega, by go_num, by go_num, ((((((HBK.out.setCell _ _).setCell _ _).setCell _ _).setCell _ _).setCell _ _).setCell _ _).setCell _ _, ((((((HO.out.setCell _ _).setCell _ _).setCell _ _).setCell _ _).setCell _ _).setCell _ _).setCell _ _⟩, by simp [intOf]; omega⟩
    · obtain rfl : k = n := by omega
      clear hb
      go_wp2
      go_ret
      exact ⟨rfl, HO.out⟩
end Go.Proofs.YtficnhlkefpfnaaDoor

namespace Go.Proofs.YtficnhlkefpfnaaDoor
open Go.RowKit
set_option linter.unusedSimpArgs false
set_option linter.unusedVariables false

set_option maxHeartbeats 2000000 in
theorem markOpS_from (k0 : Int) (hk0' : 0 ≤ k0) (hk1' : k0 ≤ 100000000) (g n cap : Nat) (w : World) (hl : Blk w g n) (hn : n ≤ 1048576) (hcap : n ≤ cap) :
    Calls Tryd.prog 18 #[.slice (some ⟨g, 0, none⟩) n cap, .int .i64 k0] w fun e w' => e = .returned (.int .i64 (k0 + 7 * n)) ∧ OnlyBlk g w w' := by
  have HL := hideIt hl
  clear hl
  go_enter Tryd.func18, Tryd.ntmps18
  go_wp2
  go_loopw [1, 5] (fun m i wr => ∃ k : Nat, k ≤ n ∧ i = .int .i64 k ∧ m = .int .i64 (k0 + 7 * k) ∧ Blk wr g n ∧ OnlyBlk g w wr)
    (fun _ i _ => n - (intOf i).toNat)
  case atStart => exact ⟨0, Nat.zero_le _, rfl, by simp, HL.out, OnlyBlk.refl _ _⟩
  case round =>
    obtain ⟨k, hk, rfl, rfl, hb, ho⟩ := hrel
    have HBK := hideIt hb
    have HO := hideIt ho
    clear ho
    by_cases hlt : k < n
    · have hfz : ∀ j, wr.frozen? ⟨g, j, none⟩ = false := fun j => hb.frozen j
      obtain ⟨u0, e0⟩ := hb.cell (k * 7) (by omega)
      obtain ⟨v1, e1⟩ := hb.cell (k * 7 + 1) (by omega)
      obtain ⟨v2, e2⟩ := hb.cell (k * 7 + 2) (by omega)
      obtain ⟨v3, e3⟩ := hb.cell (k * 7 + 3) (by omega)
      obtain ⟨v4, e4⟩ := hb.cell (k * 7 + 4) (by omega)
      obtain ⟨v5, e5⟩ := hb.cell (k * 7 + 5) (by omega)
      obtain ⟨v6, e6⟩ := hb.cell (k * 7 + 6) (by omega)
      have hlt' : (k : Int) < (n : Int) := by omega
      have hk0 : (0 : Int) ≤ (k : Int) := by omega
      clear hb
      go_wp2
      exact ⟨⟨k + 1, by omega, by go_num, by go_num, ((((((HBK.out.setCell _ _).setCell _ _).setCell _ _).setCell _ _).setCell _ _).setCell _ _).setCell _ _, ((((((HO.out.setCell _ _).setCell _ _).setCell _ _).setCell _ _).setCell _ _).setCell _ _).setCell _ _⟩, by simp [intOf]; omega⟩
    · obtain rfl : k = n := by omega
      clear hb
      go_wp2
      go_ret
      exact ⟨rfl, HO.out⟩
end Go.Proofs.YtficnhlkefpfnaaDoor

namespace Go.Proofs.YtficnhlkefpfnaaDoor
open Go.RowKit
set_option linter.unusedSimpArgs false
set_option linter.unusedVariables false
attribute [local go_sem ↓] Go.wp_at_zero Go.wp_at_succ

/-- What marks leave. -/
def markO (i : Nat) : Op7 := ⟨1 + 7 * (i : Int), 1 + 7 * (i : Int) + 1, 1 + 7 * (i : Int) + 1 + 1, 1 + 7 * (i : Int) + 1 + 1 + 1, 1 + 7 * (i : Int) + 1 + 1 + 1 + 1, 1 + 7 * (i : Int) + 1 + 1 + 1 + 1 + 1, 1 + 7 * (i : Int) + 1 + 1 + 1 + 1 + 1 + 1⟩
def marksO (n : Nat) : List Op7 := (List.range n).map markO
theorem marksO_len (n : Nat) : (marksO n).length = n := by simp [marksO]
theorem marksO_at {n i : Nat} (h : i < n) : (marksO n)[i]? = some (markO i) := by simp [marksO, h]
theorem opRow_cases {w : World} {base : Nat} {v : Value} {n : Nat} {xs : List Value} (h : w.ownsRow base 71 7 v n xs) : (n = 0 ∧ ∃ p c, v = .slice p 0 c) ∨ (0 < n ∧ ∃ g cap, v = .slice (some ⟨g, 0, none⟩) n cap ∧ n ≤ cap ∧ g < w.heap.size ∧ ∀ j, j < n * 7 → w.cell? ⟨g, j, none⟩ = xs[j]?) := by
  rcases Nat.eq_zero_or_pos n with rfl | h0
  · refine .inl ⟨rfl, ?_⟩
    rcases h.2 with ⟨e, _⟩ | ⟨g, cap, cur, e, _⟩
    · exact ⟨_, _, e⟩
    · exact ⟨_, _, e⟩
  · refine .inr ⟨h0, ?_⟩
    have h' := h
    rcases h.2 with ⟨_, e⟩ | ⟨g, cap, cur, e, h1, h2, h3, _⟩
    · omega
    · subst e
      exact ⟨g, cap, rfl, h3, (Array.getElem?_eq_some_iff.1 h2).1, fun j hj => World.ownsRow.cellAt h' j hj⟩

set_option maxHeartbeats 2000000 in
theorem heldOpS_row (v : Value) (n base : Nat) (w : World) (h : w.ownsRow base 71 7 v n (opCells (marksO n))) (hn : n ≤ 1048576) :
    Calls Tryd.prog 19 #[v, .int .i64 1] w fun e w' => e = .returned (.int .i64 (1 + 7 * n)) ∧ Below w.heap.size w w' := by
  rcases opRow_cases h with ⟨rfl, p1, c1, rfl⟩ | ⟨h0, g, cap, rfl, hc, hg, hx⟩
  · go_enter Tryd.func19, Tryd.ntmps19
    go_wp2
    refine wp_loop_rounds 1 ?_
    rw [rounds_succ]
    go_wp2
    go_ret
    exact ⟨rfl, Below.refl _ _⟩
  · have HX := hideIt hx
    clear h hx
    go_enter Tryd.func19, Tryd.ntmps19
    go_wp2
    go_loopw [1, 5] (fun q i wr => ∃ k : Nat, k ≤ n ∧ i = .int .i64 k ∧ q = .int .i64 (1 + 7 * k) ∧ Below w.heap.size w wr)
      (fun _ i _ => n - (intOf i).toNat)
    case atStart => exact ⟨0, Nat.zero_le _, rfl, rfl, by go_grown⟩
    case round =>
      obtain ⟨k, hk, rfl, rfl, hB⟩ := hrel
      have HB : Hid (Below w.heap.size w wr) := hB
      by_cases hlt : k < n
      · obtain ⟨i0, i1, i2, i3, i4, i5, i6⟩ := opCells_at _ k _ (marksO_at hlt)
        have y0 := ((bcell hB).1 g _ hg).trans ((HX.out (k * 7) (by omega)).trans i0)
        have y1 := ((bcell hB).1 g _ hg).trans ((HX.out (k * 7 + 1) (by omega)).trans i1)
        have y2 := ((bcell hB).1 g _ hg).trans ((HX.out (k * 7 + 2) (by omega)).trans i2)
        have y3 := ((bcell hB).1 g _ hg).trans ((HX.out (k * 7 + 3) (by omega)).trans i3)
        have y4 := ((bcell hB).1 g _ hg).trans ((HX.out (k * 7 + 4) (by omega)).trans i4)
        have y5 := ((bcell hB).1 g _ hg).trans ((HX.out (k * 7 + 5) (by omega)).trans i5)
        have y6 := ((bcell hB).1 g _ hg).trans ((HX.out (k * 7 + 6) (by omega)).trans i6)
        simp only [markO] at y0 y1 y2 y3 y4 y5 y6
        have hlt' : (k : Int) < (n : Int) := by omega
        have hk0 : (0 : Int) ≤ (k : Int) := by omega
        clear hB i0 i1 i2 i3 i4 i5 i6
        go_wp2
        exact ⟨⟨k + 1, by omega, by go_num, by go_num, HB.out⟩, by simp [intOf]; omega⟩
      · obtain rfl : k = n := by omega
        clear hB
        go_wp2
        go_ret
        exact ⟨rfl, HB.out⟩

/-- A block of things of which the first k are marked. -/
def MarkO (w : World) (g cap k : Nat) : Prop := ∃ cur : Array Value, w.heap[g]? = some (.cells cur 71 (0, 0)) ∧ cur.size = cap * 7 ∧ ∀ i, i < k → cur[i * 7]? = some (.int .i64 (markO i).a) ∧ cur[i * 7 + 1]? = some (.int .i64 (markO i).b) ∧ cur[i * 7 + 2]? = some (.int .i64 (markO i).k) ∧ cur[i * 7 + 3]? = some (.int .i64 (markO i).c) ∧ cur[i * 7 + 4]? = some (.int .i64 (markO i).d) ∧ cur[i * 7 + 5]? = some (.int .i64 (markO i).s) ∧ cur[i * 7 + 6]? = some (.int .i64 (markO i).g)
theorem MarkO.step {w : World} {g cap k : Nat} (h : MarkO w g cap k) (hk : k < cap) : MarkO (((((((w.setCell ⟨g, k * 7, none⟩ (.int .i64 (markO k).a)).setCell ⟨g, k * 7 + 1, none⟩ (.int .i64 (markO k).b)).setCell ⟨g, k * 7 + 2, none⟩ (.int .i64 (markO k).k)).setCell ⟨g, k * 7 + 3, none⟩ (.int .i64 (markO k).c)).setCell ⟨g, k * 7 + 4, none⟩ (.int .i64 (markO k).d)).setCell ⟨g, k * 7 + 5, none⟩ (.int .i64 (markO k).s)).setCell ⟨g, k * 7 + 6, none⟩ (.int .i64 (markO k).g)) g cap (k + 1) := by
  obtain ⟨cur, hb, hs, hc⟩ := h
  have b0 := heap_setCell_same w g (k * 7) cur 71 (.int .i64 (markO k).a) hb
  have b1 := heap_setCell_same _ g (k * 7 + 1) _ 71 (.int .i64 (markO k).b) b0
  have b2 := heap_setCell_same _ g (k * 7 + 2) _ 71 (.int .i64 (markO k).k) b1
  have b3 := heap_setCell_same _ g (k * 7 + 3) _ 71 (.int .i64 (markO k).c) b2
  have b4 := heap_setCell_same _ g (k * 7 + 4) _ 71 (.int .i64 (markO k).d) b3
  have b5 := heap_setCell_same _ g (k * 7 + 5) _ 71 (.int .i64 (markO k).s) b4
  have b6 := heap_setCell_same _ g (k * 7 + 6) _ 71 (.int .i64 (markO k).g) b5
  refine ⟨_, b6, by simpa using hs, fun i hi => ?_⟩
  rcases Nat.lt_or_ge i k with h1 | h1
  · obtain ⟨c0, c1, c2, c3, c4, c5, c6⟩ := hc i h1
    refine ⟨?_, ?_, ?_, ?_, ?_, ?_, ?_⟩ <;> (simp only [Array.getElem?_setIfInBounds, Array.size_setIfInBounds]; rw [if_neg (by omega), if_neg (by omega), if_neg (by omega), if_neg (by omega), if_neg (by omega), if_neg (by omega), if_neg (by omega)]; assumption)
  · obtain rfl : i = k := by omega
    refine ⟨?_, ?_, ?_, ?_, ?_, ?_, ?_⟩ <;> (simp [Array.getElem?_setIfInBounds]; omega)
theorem MarkO.frozen {w : World} {g cap k : Nat} (h : MarkO w g cap k) (j : Nat) : w.frozen? ⟨g, j, none⟩ = false := by
  obtain ⟨cur, h1, _⟩ := h
  simp [World.frozen?, h1]
theorem MarkO.cell {w : World} {g cap k : Nat} (h : MarkO w g cap k) (j : Nat) (hj : j < cap * 7) : ∃ u, w.cell? ⟨g, j, none⟩ = some u := by
  obtain ⟨cur, h1, h2, _⟩ := h
  exact ⟨cur[j]'(by omega), by simp [World.cell?, h1]⟩
theorem MarkO.row {w : World} {g cap n base : Nat} (h : MarkO w g cap n) (hn : n ≤ cap) (hm : cap ≤ maxLen) (hb : base ≤ g) : w.ownsRow base 71 7 (.slice (some ⟨g, 0, none⟩) n cap) n (opCells (marksO n)) := by
  obtain ⟨cur, h1, h2, h3⟩ := h
  refine ⟨by rw [opCells_len, marksO_len], .inr ⟨g, cap, cur, rfl, hb, h1, hn, hm, h2, ?_⟩⟩
  apply List.ext_getElem?
  intro j
  rcases Nat.lt_or_ge j (n * 7) with hj | hj
  · rw [List.getElem?_take_of_lt hj]
    obtain ⟨c0, c1, c2, c3, c4, c5, c6⟩ := h3 (j / 7) (by omega)
    obtain ⟨d0, d1, d2, d3, d4, d5, d6⟩ := opCells_at (marksO n) (j / 7) _ (marksO_at (by omega))
    have hj7 : j % 7 = 0 ∨ j % 7 = 1 ∨ j % 7 = 2 ∨ j % 7 = 3 ∨ j % 7 = 4 ∨ j % 7 = 5 ∨ j % 7 = 6 := by omega
    rcases hj7 with hm2 | hm2 | hm2 | hm2 | hm2 | hm2 | hm2
    · rw [show j = j / 7 * 7 by omega, d0]; simpa using c0
    · rw [show j = j / 7 * 7 + 1 by omega, d1]; simpa using c1
    · rw [show j = j / 7 * 7 + 2 by omega, d2]; simpa using c2
    · rw [show j = j / 7 * 7 + 3 by omega, d3]; simpa using c3
    · rw [show j = j / 7 * 7 + 4 by omega, d4]; simpa using c4
    · rw [show j = j / 7 * 7 + 5 by omega, d5]; simpa using c5
    · rw [show j = j / 7 * 7 + 6 by omega, d6]; simpa using c6
  · rw [List.getElem?_eq_none (by simp; omega), List.getElem?_eq_none (by rw [opCells_len, marksO_len]; omega)]

set_option maxHeartbeats 2000000 in
theorem markOpS_row (v : Value) (n base : Nat) (xs : List Value) (w : World) (h : w.ownsRow base 71 7 v n xs) (hn : n ≤ 1048576) :
    Calls Tryd.prog 18 #[v, .int .i64 1] w fun e w' => e = .returned (.int .i64 (1 + 7 * n)) ∧ w'.ownsRow base 71 7 v n (opCells (marksO n)) ∧ w.grownBy w' v.ownBlock := by
  rcases Nat.eq_zero_or_pos n with rfl | h0
  · have h' := h
    rcases opRow_cases h with ⟨_, p1, c1, rfl⟩ | ⟨h0, _⟩
    · have HR : Hid (w.ownsRow base 71 7 (.slice p1 0 c1) 0 (opCells (marksO 0))) := by
        obtain ⟨e1, e2⟩ := h'
        have : xs = [] := List.eq_nil_of_length_eq_zero (by simpa using e1)
        subst this
        exact ⟨rfl, e2.imp id (fun ⟨g, cap, cur, a1, a2, a3, a4, a5, a6, _⟩ => ⟨g, cap, cur, a1, a2, a3, a4, a5, a6, by simp [marksO, opCells]⟩)⟩
      clear h h'
      go_enter Tryd.func18, Tryd.ntmps18
      go_wp2
      refine wp_loop_rounds 1 ?_
      rw [rounds_succ]
      go_wp2
      go_ret
      exact ⟨rfl, HR.out, ⟨rfl, rfl, rfl, Nat.le_refl _, fun _ _ _ => rfl⟩⟩
    · omega
  · obtain ⟨g, cap, cur, rfl, hb, hg, hc, hmx, hcs, _⟩ : ∃ g cap cur, v = .slice (some ⟨g, 0, none⟩) n cap ∧ base ≤ g ∧ w.heap[g]? = some (.cells cur 71 (0, 0)) ∧ n ≤ cap ∧ cap ≤ maxLen ∧ cur.size = cap * 7 ∧ cur.toList.take (n * 7) = xs := by
      rcases h.2 with ⟨_, h1⟩ | h1
      · omega
      · exact h1
    have HM0 : Hid (MarkO w g cap 0) := ⟨cur, hg, hcs, fun i hi => by omega⟩
    clear h hg hcs
    go_enter Tryd.func18, Tryd.ntmps18
    go_wp2
    go_loopw [1, 5] (fun q i wr => ∃ k : Nat, k ≤ n ∧ i = .int .i64 k ∧ q = .int .i64 (1 + 7 * k) ∧ MarkO wr g cap k ∧ w.grownBy wr (some g))
      (fun _ i _ => n - (intOf i).toNat)
    case atStart => exact ⟨0, Nat.zero_le _, rfl, rfl, HM0.out, ⟨rfl, rfl, rfl, Nat.le_refl _, fun _ _ _ => rfl⟩⟩
    case round =>
      obtain ⟨k, hk, rfl, rfl, hM, hG⟩ := hrel
      have HM := hideIt hM
      have HG := hideIt hG
      by_cases hlt : k < n
      · have hfz : ∀ j, wr.frozen? ⟨g, j, none⟩ = false := fun j => hM.frozen j
        obtain ⟨v0, e0⟩ := hM.cell (k * 7) (by omega)
        obtain ⟨v1, e1⟩ := hM.cell (k * 7 + 1) (by omega)
        obtain ⟨v2, e2⟩ := hM.cell (k * 7 + 2) (by omega)
        obtain ⟨v3, e3⟩ := hM.cell (k * 7 + 3) (by omega)
        obtain ⟨v4, e4⟩ := hM.cell (k * 7 + 4) (by omega)
        obtain ⟨v5, e5⟩ := hM.cell (k * 7 + 5) (by omega)
        obtain ⟨v6, e6⟩ := hM.cell (k * 7 + 6) (by omega)
        have hlt' : (k : Int) < (n : Int) := by omega
        have hk0 : (0 : Int) ≤ (k : Int) := by omega
        clear hM hG
        go_wp2
        exact ⟨⟨k + 1, by omega, by go_num, by go_num, HM.out.step (by omega), ((((((HG.out.trans (set_cell_grown _ ⟨g, _, none⟩ _)).trans (set_cell_grown _ ⟨g, _, none⟩ _)).trans (set_cell_grown _ ⟨g, _, none⟩ _)).trans (set_cell_grown _ ⟨g, _, none⟩ _)).trans (set_cell_grown _ ⟨g, _, none⟩ _)).trans (set_cell_grown _ ⟨g, _, none⟩ _)).trans (set_cell_grown _ ⟨g, _, none⟩ _)⟩, by simp [intOf]; omega⟩
      · obtain rfl : k = n := by omega
        clear hM hG
        go_wp2
        go_ret
        exact ⟨rfl, HM.out.row hc hmx hb, HG.out⟩
end Go.Proofs.YtficnhlkefpfnaaDoor

namespace Go.Proofs.YtficnhlkefpfnaaDoor
open Go.RowKit
set_option linter.unusedSimpArgs false
set_option linter.unusedVariables false

set_option maxHeartbeats 1000000 in
theorem toOpS_someF (l : List Op7) (b off cap : Nat) (w : World) (hl : LawAt w b off l) (hn : l.length ≤ 1048576) (hcap : l.length ≤ cap) :
    Calls Tryd.prog 15 #[.slice (some ⟨b, off, none⟩) l.length cap] w fun e w' => e = .returned (.slice (some ⟨w.heap.size, 0, none⟩) l.length l.length) ∧ Filled w' w.heap.size l.length l ∧ Below w.heap.size w w' := by
  obtain ⟨i0, hi, hz0, hz1, hz2⟩ := info_parts infoOpT
  go_enter Tryd.func15, Tryd.ntmps15
  go_wp2_with (first
    | (at_make; refine wpList_make_full _ rfl _ _ 24 rfl w.heap.size 71 i0 _ 7 Tryd.underlying24 hi hz0 hz1 .i64 .i64 _ _ l.length rfl rfl rfl rfl (by rw [hz2]; omega) (by unfold maxLen; omega) (Nat.le_refl _) ?_; intro w1 hown hgrow))
  clear hi hz0 hz1 hz2
  have hB1 : Below w.heap.size w w1 := (Below.refl _ _).grown hgrow (Nat.le_refl _) (fun k h => by cases h)
  have hF0 : Filled w1 w.heap.size 0 l := by
    obtain ⟨_, ⟨h, _⟩ | ⟨g, cap', cur, hv, _, hb, _, _, hs, _⟩⟩ := hown
    · cases h
    · simp only [Value.slice.injEq, Option.some.injEq, Addr.mk.injEq] at hv
      obtain ⟨⟨rfl, _⟩, _, rfl⟩ := hv
      exact ⟨cur, hb, hs, fun i o _ h => by omega⟩
  clear hown hgrow
  go_loopw [4] (fun i wr => ∃ k : Nat, k ≤ l.length ∧ i = .int .i64 k ∧ Filled wr w.heap.size k l ∧ Below w.heap.size w wr)
    (fun i _ => l.length - (intOf i).toNat)
  case atStart => exact ⟨0, Nat.zero_le _, rfl, hF0, hB1⟩
  case round =>
    obtain ⟨k, hk, rfl, hF, hB⟩ := hrel
    have HB : Hid (Below w.heap.size w wr) := hB
    have HF : Hid (Filled wr w.heap.size k l) := hF
    by_cases hlt : k < l.length
    · obtain ⟨h0, h1, h2, h3, h4, h5, h6⟩ := (hl.below hB hl.1).2 k l[k] (by simp [hlt])
      have hbk := (hl.below hB hl.1).1
      obtain ⟨cur, hblk, hsz, hcur⟩ := hF
      have hBlt : w.heap.size < wr.heap.size := by
        rcases Nat.lt_or_ge w.heap.size wr.heap.size with h | h
        · exact h
        · simp [Array.getElem?_eq_none h] at hblk
      have hfz : ∀ o, wr.frozen? ⟨w.heap.size, o, none⟩ = false := fun o => frozen_of_block hblk o
      have hex : ∀ j, j < 7 → ∃ u, wr.cell? ⟨w.heap.size, k * 7 + j, none⟩ = some u := fun j hj => by
        rw [cell_of_block hblk]; exact ⟨_, Array.getElem?_eq_getElem (by omega)⟩
      obtain ⟨u0, e0⟩ := hex 0 (by omega)
      obtain ⟨u1, e1⟩ := hex 1 (by omega)
      obtain ⟨u2, e2⟩ := hex 2 (by omega)
      obtain ⟨u3, e3⟩ := hex 3 (by omega)
      obtain ⟨u4', e4⟩ := hex 4 (by omega)
      obtain ⟨u5', e5⟩ := hex 5 (by omega)
      obtain ⟨u6', e6⟩ := hex 6 (by omega)
      simp only [Nat.add_zero] at e0
      have hlt' : (k : Int) < (l.length : Int) := by omega
      have hk0 : (0 : Int) ≤ (k : Int) := by omega
      clear hB hl hblk hsz hcur hex hB1 hF0
      go_wp2_with (first
        | (go_at_call 46; refine (toOp_any _ _ _ _ _ _ _ _).mono ?_; rintro e w2 ⟨rfl, hb2⟩; obtain ⟨hc2, hf2⟩ := bcell hb2; have HB2 : Hid (Below wr.heap.size wr w2) := hb2; clear hb2))
      exact ⟨⟨k + 1, by omega, by go_num, (HF.out.below HB2.out hBlt).step hlt, (((((((Bstep HB.out HB2.out).setCell (Nat.le_refl _) _).setCell (Nat.le_refl _) _).setCell (Nat.le_refl _) _).setCell (Nat.le_refl _) _).setCell (Nat.le_refl _) _).setCell (Nat.le_refl _) _).setCell (Nat.le_refl _) _⟩, by simp [intOf]; omega⟩
    · obtain rfl : k = l.length := by omega
      clear hB hF hl hB1 hF0
      go_wp2
      go_ret
      exact ⟨rfl, HF.out, HB.out⟩

set_option maxHeartbeats 1000000 in
theorem toOpS_zeroF (p : Option Addr) (cap : Nat) (w : World) :
    Calls Tryd.prog 15 #[.slice p 0 cap] w fun e w' => e = .returned (.slice (some ⟨w.heap.size, 0, none⟩) 0 0) ∧ Filled w' w.heap.size 0 [] ∧ Below w.heap.size w w' := by
  obtain ⟨i0, hi, hz0, hz1, hz2⟩ := info_parts infoOpT
  go_enter Tryd.func15, Tryd.ntmps15
  go_wp2_with (first
    | (at_make; refine wpList_make_full _ rfl _ _ 24 rfl w.heap.size 71 i0 _ 7 Tryd.underlying24 hi hz0 hz1 .i64 .i64 _ _ 0 rfl rfl rfl rfl (by omega) (by unfold maxLen; omega) (Nat.le_refl _) ?_; intro w1 hown hgrow))
  clear hi hz0 hz1 hz2
  have hB1 : Below w.heap.size w w1 := (Below.refl _ _).grown hgrow (Nat.le_refl _) (fun k h => by cases h)
  have hF0 : Filled w1 w.heap.size 0 [] := by
    obtain ⟨_, ⟨h, _⟩ | ⟨g, cap', cur, hv, _, hb, _, _, hs, _⟩⟩ := hown
    · cases h
    · simp only [Value.slice.injEq, Option.some.injEq, Addr.mk.injEq] at hv
      obtain ⟨⟨rfl, _⟩, _, rfl⟩ := hv
      exact ⟨cur, hb, by simpa using hs, fun i o _ h => by omega⟩
  clear hown hgrow
  refine wp_loop_rounds 1 ?_
  rw [rounds_succ]
  go_wp2
  go_ret
  exact ⟨rfl, hF0, hB1⟩


theorem Filled.blk {w : World} {g k : Nat} {l : List Op7} (h : Filled w g k l) : Blk w g l.length := by
  obtain ⟨cur, h1, h2, _⟩ := h
  exact ⟨cur, h1, h2⟩
theorem Blk.below {w w' : World} {g n B : Nat} (h : Blk w g n) (hb : Below B w w') (hB : g < B) : Blk w' g n := by
  obtain ⟨cur, h1, h2⟩ := h
  exact ⟨cur, (hb.block g hB).trans h1, h2⟩
theorem toOpS_anyF (l : List Op7) (p : Option Addr) (cap : Nat) (w : World) (hl : ArgOps w p l) (hn : l.length ≤ 1048576) (hcap : l.length ≤ cap) :
    Calls Tryd.prog 15 #[.slice p l.length cap] w fun e w' => e = .returned (.slice (some ⟨w.heap.size, 0, none⟩) l.length l.length) ∧ OpsAt w' w.heap.size l ∧ Blk w' w.heap.size l.length ∧ Below w.heap.size w w' := by
  rcases hl with rfl | ⟨b, off, rfl, hl⟩
  · refine (toOpS_zeroF p cap w).mono ?_
    rintro e w' ⟨rfl, hF, hB⟩
    exact ⟨rfl, hF.at, hF.blk, hB⟩
  · refine (toOpS_someF l b off cap w hl hn hcap).mono ?_
    rintro e w' ⟨rfl, hF, hB⟩
    exact ⟨rfl, hF.at, hF.blk, hB⟩
end Go.Proofs.YtficnhlkefpfnaaDoor

namespace Go.Proofs.YtficnhlkefpfnaaDoor
open Go.RowKit
set_option linter.unusedSimpArgs false
set_option linter.unusedVariables false
attribute [local go_sem ↓] Go.wp_at_zero Go.wp_at_succ

theorem rowBelowO {w w' : World} {b : Nat} {T : TypeId} {m : Nat} {v : Value} {n : Nat} {xs : List Value} (h : w.ownsRow b T m v n xs) (hb : Below w.heap.size w w') : w'.ownsRow b T m v n xs :=
  h.kept (row := none) ⟨hb.os, hb.tape, hb.output, hb.size, fun i hi _ => hb.block i hi⟩ (by cases v.ownBlock <;> simp)
set_option maxHeartbeats 1000000 in
theorem eqOpS_rows (L : List Op7) (v1 v2 : Value) (base1 base2 : Nat) (w : World) (h1 : w.ownsRow base1 71 7 v1 L.length (opCells L)) (h2 : w.ownsRow base2 71 7 v2 L.length (opCells L)) (hn : L.length ≤ 1048576) :
    Calls Tryd.prog 17 #[v1, v2] w fun e w' => e = .returned (.bool true) ∧ Below w.heap.size w w' := by
  rcases opRow_cases h1 with ⟨h0, p1, c1, rfl⟩ | ⟨h0, g1, c1, rfl, hc1, hg1, hx1⟩
  · rcases opRow_cases h2 with ⟨_, p2, c2, rfl⟩ | ⟨h0', _⟩
    · clear h1 h2
      go_enter Tryd.func17, Tryd.ntmps17
      go_wp2
      refine wp_loop_rounds 1 ?_
      rw [rounds_succ]
      go_wp2
      go_ret
      exact ⟨rfl, Below.refl _ _⟩
    · omega
  · rcases opRow_cases h2 with ⟨h0', _⟩ | ⟨_, g2, c2, rfl, hc2, hg2, hx2⟩
    · omega
    · have at1 : OpsAt w g1 L := OwnOps.at (show OwnOps w base1 g1 c1 L from h1)
      have at2 : OpsAt w g2 L := OwnOps.at (show OwnOps w base2 g2 c2 L from h2)
      exact eqOpS_same L g1 g2 c1 c2 w at1 at2 hn hc1 hc2


/-- The specification's answer, the program's, and the blocks X to Z of what was handed in. -/
structure QR (w W : World) (L Lg : List Op7) (vw vg : Value) (X Z : Nat) : Prop where
  rw : W.ownsRow w.heap.size 71 7 vw L.length (opCells L)
  rg : W.ownsRow (Z + 1) 71 7 vg Lg.length (opCells Lg)
  wx : ∀ j, vw.ownBlock = some j → j < X
  xz : w.heap.size ≤ X
  xl : X ≤ Z
  zl : Z < W.heap.size
  bel : Below w.heap.size w W
theorem QR.below {w W W' : World} {L Lg : List Op7} {vw vg : Value} {X Z : Nat} (h : QR w W L Lg vw vg X Z) (hb : Below W.heap.size W W') : QR w W' L Lg vw vg X Z :=
  ⟨rowBelowO h.rw hb, rowBelowO h.rg hb, h.wx, h.xz, h.xl, Nat.lt_of_lt_of_le h.zl hb.size, Bstep h.bel hb⟩
theorem QR.marked {w W W' : World} {L Lg : List Op7} {vw vg : Value} {X Z b : Nat} (h : QR w W L Lg vw vg X Z) (ho : OnlyBlk b W W') (h1 : X ≤ b) (h2 : b ≤ Z) : QR w W' L Lg vw vg X Z := by
  have hx := h.xz
  have hz := h.zl
  have hg : W.grownBy W' (some b) := ⟨ho.os, ho.tape, ho.output, by rw [ho.size]; exact Nat.le_refl _, fun i _ hne => ho.block i (fun e => hne (by rw [e]))⟩
  refine ⟨h.rw.kept hg ?_, h.rg.kept hg ?_, h.wx, hx, h.xl, by rw [ho.size]; exact hz, h.bel.trans (ho.below (by omega))⟩
  · cases hv : vw.ownBlock with
    | none => exact .inl rfl
    | some j => exact .inr fun e => by have := h.wx j hv; have := Option.some.inj e; omega
  · cases hv : vg.ownBlock with
    | none => exact .inl rfl
    | some j => exact .inr fun e => by have := (h.rg.lt j hv).1; have := Option.some.inj e; omega
theorem QR.own {w W W' : World} {L Lg Lg' : List Op7} {vw vg : Value} {X Z : Nat} (h : QR w W L Lg vw vg X Z) (hg : W.grownBy W' vg.ownBlock) (hr : W'.ownsRow (Z + 1) 71 7 vg Lg'.length (opCells Lg')) : QR w W' L Lg' vw vg X Z := by
  have h1 := h.xz
  have h2 := h.xl
  have ge : ∀ j, vg.ownBlock = some j → Z + 1 ≤ j := fun j e => (h.rg.lt j e).1
  refine ⟨h.rw.kept hg ?_, hr, h.wx, h1, h2, Nat.lt_of_lt_of_le h.zl hg.size, below_grown h.bel hg h.bel.size (fun j e => by have := ge j e; omega)⟩
  cases hv : vw.ownBlock with
  | none => exact .inl rfl
  | some j => exact .inr fun e => by have := h.wx j hv; have := ge j e.symm; omega
end Go.Proofs.YtficnhlkefpfnaaDoor

namespace Go.Proofs.YtficnhlkefpfnaaDoor
open Go.RowKit
set_option linter.unusedSimpArgs false
set_option linter.unusedVariables false
attribute [local go_sem ↓] Go.wp_at_zero Go.wp_at_succ

theorem merge_same {a b L M : List Op7} {z y : Bool} (h : MergeSaid a b L z) (k : MergeSaid a b M y) : L = M ∧ z = y := by
  rcases h with ⟨rfl, h1, h2, h3, rfl⟩ | ⟨rfl, rfl, h⟩ <;> rcases k with ⟨rfl, k1, k2, k3, rfl⟩ | ⟨rfl, rfl, k⟩
  · exact ⟨rfl, rfl⟩
  · exact absurd ⟨h1, h2, h3⟩ k
  · exact absurd ⟨k1, k2, k3⟩ h
  · exact ⟨rfl, rfl⟩
theorem merge_len {a b L : List Op7} {z : Bool} (h : MergeSaid a b L z) : L.length ≤ a.length + b.length := by
  rcases h with ⟨rfl, _, _, _, rfl⟩ | ⟨rfl, rfl, _⟩
  · exact mer_len (Nat.le_refl _)
  · simp
set_option maxRecDepth 100000 in
set_option maxHeartbeats 4000000 in
theorem walkOpsMerge (l : List Op7) (p : Option Addr) (cap : Nat) (m : List Op7) (q : Option Addr) (cap2 : Nat) (x : Addr) (w : World) (hl : ArgOps w p l) (hcap : l.length ≤ cap) (hmax : cap ≤ maxLen) (hm : ArgOps w q m) (hcap2 : m.length ≤ cap2) (hmax2 : cap2 ≤ maxLen)
    (he : w.cell? ⟨0, 0, none⟩ = some (.iface 200 (.pointer (some x)))) (h0 : 0 < w.heap.size) :
    Calls Tryd.prog 7 #[.slice p l.length cap, .slice q m.length cap2] w fun e w' => e = .returned (.bool true) ∧ Below w.heap.size w w' := by
  have HA := hideIt hl
  have HS := hideIt hm
  clear hl hm
  unfold maxLen at hmax hmax2
  by_cases hn : l.length ≤ 1048576
  · have h3 : ¬ (((1048576 - l.length : Nat) : Int) < 0) := by omega
    by_cases hn2 : l.length + m.length ≤ 1048576
    · have h4 : ¬ (((1048576 - l.length - m.length : Nat) : Int) < 0) := by omega
      have h5 : ¬ ((1 + 7 * (l.length : Int) + 7 * (m.length : Int)) < 0) := by omega
      go_enter Tryd.func7, Tryd.ntmps7
      go_wp2_with fail
      refine (szAny_ok p l.length cap 1048576 _ (Nat.le_refl _) hn).mono ?_
      rintro e w' ⟨rfl, hw'⟩
      rw [hw']
      clear hw'
      go_wp2_with fail
      refine (szAny_ok q m.length cap2 (1048576 - l.length) _ (by omega) (by omega)).mono ?_
      rintro e w' ⟨rfl, hw'⟩
      rw [hw']
      clear hw'
      clear hn
      go_wp2_with fail
      refine (toOpS_any l p cap _ HA.out (by omega) hcap).mono ?_
      rintro e w1 ⟨rfl, hA, hb⟩
      have HA1 := hideIt hA
      have HB1 := hideIt hb
      clear hA hb
      go_wp2_with fail
      refine (toOpS_any m q cap2 _ (HS.out.below HB1.out) (by omega) hcap2).mono ?_
      rintro e w2 ⟨rfl, hA, hb⟩
      have HS2 := hideIt hA
      have HA2 := hideIt (HA1.out.below hb HA1.out.1)
      have HB2 := hideIt (Bstep HB1.out hb)
      clear hA hb HA1 HB1
      go_wp2_with fail
      refine (opsMerge_any l m _ _ _ _ _ HA2.out HS2.out (by omega) (by omega) (Nat.le_refl _) (Nat.le_refl _)).mono ?_
      rintro e w3 ⟨GW, cW, L, z, rfl, hrw, hz, hB3⟩
      have HZ := hideIt hz
      have HKL : Hid (L.length ≤ 1048576) := Nat.le_trans (merge_len hz) hn2
      have hrw' : w3.ownsRow w2.heap.size 71 7 (.slice (some ⟨GW, 0, none⟩) L.length cW) L.length (opCells L) := hrw
      have HRW := hideIt (ownsRow_base (b' := w.heap.size) HB2.out.size hrw')
      have HB3 := hideIt (Bstep HB2.out hB3)
      clear hrw hrw' hB3 HA2 HS2 HB2 hz
      generalize hvw : Value.slice (some ⟨GW, 0, none⟩) L.length cW = vw at *
      clear hvw
      go_wp2_with fail
      refine (toOpS_anyF l p cap _ (HA.out.below HB3.out) (by omega) hcap).mono ?_
      rintro e w4 ⟨rfl, hA4, hK4, hB4⟩
      have HA4 := hideIt hA4
      have HK4 := hideIt hK4
      have HR4 := hideIt (rowBelowO HRW.out hB4)
      have HWX : Hid (∀ j, vw.ownBlock = some j → j < w3.heap.size) := fun j e => (HRW.out.lt j e).2
      have hX : w.heap.size ≤ w3.heap.size := HB3.out.size
      have HB4 := hideIt (Bstep HB3.out hB4)
      clear hA4 hK4 hB4 HRW HB3
      generalize hXX : w3.heap.size = X at *
      clear hXX
      go_wp2_with fail
      refine (toOpS_anyF m q cap2 _ (HS.out.below HB4.out) (by omega) hcap2).mono ?_
      rintro e w5 ⟨rfl, hI5, hJ5, hB5⟩
      have HI5 := hideIt hI5
      have HJ5 := hideIt hJ5
      have HA5 := hideIt (HA4.out.below hB5 HA4.out.1)
      have HK5 := hideIt (HK4.out.below hB5 HA4.out.1)
      have HR5 := hideIt (rowBelowO HR4.out hB5)
      have hXZ : X < w4.heap.size := HA4.out.1
      have HB5 := hideIt (Bstep HB4.out hB5)
      clear hI5 hJ5 hB5 HA4 HK4 HR4 HB4
      generalize hZZ : w4.heap.size = Z at *
      clear hZZ
      go_wp2_with fail
      refine (implMerge_any l m _ _ _ _ x _ HA5.out HI5.out (by omega) (by omega) (Nat.le_refl _) (Nat.le_refl _) (errB HB5.out h0 he) (posB HB5.out h0)).mono ?_
      rintro e w6 ⟨⟨vg, L', z', rfl, hrg, hz'⟩, hB6⟩
      obtain ⟨rfl, rfl⟩ := merge_same hz' HZ.out
      have HA6 := hideIt (HA5.out.below hB6 HA5.out.1)
      have HK6 := hideIt (HK5.out.below hB6 HA5.out.1)
      have HI6 := hideIt (HI5.out.below hB6 HI5.out.1)
      have HJ6 := hideIt (HJ5.out.below hB6 HI5.out.1)
      have HW6 : Hid (QR w w6 L' L' vw vg X Z) := ⟨rowBelowO HR5.out hB6, ownsRow_base HI5.out.1 hrg, HWX.out, hX, Nat.le_of_lt hXZ, HI6.out.1, Bstep HB5.out hB6⟩
      clear hz' hrg hB6 HA5 HK5 HI5 HJ5 HR5 HB5
      go_wp2_with fail
      refine (eqOpS_rows L' _ _ _ _ _ HW6.out.rg HW6.out.rw HKL.out).mono ?_
      rintro e w7 ⟨rfl, hB7⟩
      have HA7 := hideIt (HA6.out.below hB7 HA6.out.1)
      have HK7 := hideIt (HK6.out.below hB7 HA6.out.1)
      have HI7 := hideIt (HI6.out.below hB7 HI6.out.1)
      have HJ7 := hideIt (HJ6.out.below hB7 HI6.out.1)
      have HW7 := hideIt (HW6.out.below hB7)
      clear hB7 HA6 HK6 HI6 HJ6 HW6
      go_wp2_with fail
      refine (toOpS_any l p cap _ (HA.out.below HW7.out.bel) (by omega) hcap).mono ?_
      rintro e w8 ⟨rfl, hA8', hB8⟩
      have HA88 := hideIt hA8'
      have HA8 := hideIt (HA7.out.below hB8 HA7.out.1)
      have HK8 := hideIt (HK7.out.below hB8 HA7.out.1)
      have HI8 := hideIt (HI7.out.below hB8 HI7.out.1)
      have HJ8 := hideIt (HJ7.out.below hB8 HI7.out.1)
      have HW8 := hideIt (HW7.out.below hB8)
      clear hA8' hB8 HA7 HK7 HI7 HJ7 HW7
      go_wp2_with fail
      refine (eqOpS_same l _ _ _ _ _ HA8.out HA88.out (by omega) (Nat.le_refl _) (Nat.le_refl _)).mono ?_
      rintro e w9 ⟨rfl, hB9⟩
      have HK9 := hideIt (HK8.out.below hB9 HA8.out.1)
      have hX9 : X < w9.heap.size := Nat.lt_of_lt_of_le HA8.out.1 hB9.size
      have HI9 := hideIt (HI8.out.below hB9 HI8.out.1)
      have HJ9 := hideIt (HJ8.out.below hB9 HI8.out.1)
      have HW9 := hideIt (HW8.out.below hB9)
      clear hB9 HA8 HA88 HK8 HI8 HJ8 HW8
      go_wp2_with fail
      refine (toOpS_any m q cap2 _ (HS.out.below HW9.out.bel) (by omega) hcap2).mono ?_
      rintro e w10 ⟨rfl, hI10, hB10⟩
      have HII := hideIt hI10
      have HK10 := hideIt (HK9.out.below hB10 hX9)
      have hX10 : X < w10.heap.size := Nat.lt_of_lt_of_le hX9 hB10.size
      have HI10 := hideIt (HI9.out.below hB10 HI9.out.1)
      have HJ10 := hideIt (HJ9.out.below hB10 HI9.out.1)
      have HW10 := hideIt (HW9.out.below hB10)
      clear hI10 hB10 HK9 HI9 HJ9 HW9
      go_wp2_with fail
      refine (eqOpS_same m _ _ _ _ _ HI10.out HII.out (by omega) (Nat.le_refl _) (Nat.le_refl _)).mono ?_
      rintro e w11 ⟨rfl, hB11⟩
      have HK11 := hideIt (HK10.out.below hB11 hX10)
      have HJ11 := hideIt (HJ10.out.below hB11 HI10.out.1)
      have HW11 := hideIt (HW10.out.below hB11)
      clear hB11 HII HK10 HI10 HJ10 HW10 hX9 hX10
      go_wp2_with fail
      refine (markOpS_any X l.length _ _ HK11.out (by omega) (Nat.le_refl _)).mono ?_
      rintro e w12 ⟨rfl, hO12⟩
      have HJ12 : Hid (Blk w12 Z m.length) := by
        obtain ⟨cur, h1, h2⟩ := HJ11.out
        exact ⟨cur, (hO12.block Z (by omega)).trans h1, h2⟩
      have HW12 := hideIt (HW11.out.marked hO12 (Nat.le_refl _) (by omega))
      clear hO12 HK11 HJ11 HW11
      go_wp2_with fail
      refine (markOpS_from (1 + 7 * (l.length : Int)) (by omega) (by omega) Z m.length _ _ HJ12.out (by omega) (Nat.le_refl _)).mono ?_
      rintro e w13 ⟨rfl, hO13⟩
      have HW13 := hideIt (HW12.out.marked hO13 (by omega) (Nat.le_refl _))
      clear hO13 HJ12 HW12
      go_wp2_with fail
      refine (eqOpS_rows L' _ _ _ _ _ HW13.out.rg HW13.out.rw HKL.out).mono ?_
      rintro e w14 ⟨rfl, hB14⟩
      have HW14 := hideIt (HW13.out.below hB14)
      clear hB14 HW13
      go_wp2_with fail
      refine (markOpS_row vg L'.length _ _ _ HW14.out.rg HKL.out).mono ?_
      rintro e w15 ⟨rfl, hr15, hg15⟩
      have HW15 := hideIt (HW14.out.own (Lg' := marksO L'.length) hg15 (by rw [marksO_len]; exact hr15))
      clear hr15 hg15 HW14
      go_wp2_with fail
      refine (heldOpS_row vg L'.length _ _ (by have h := HW15.out.rg; rw [marksO_len] at h; exact h) HKL.out).mono ?_
      rintro e w16 ⟨rfl, hB16⟩
      have HW16 := hideIt (HW15.out.below hB16)
      have hkl := HKL.out
      generalize hNN : L'.length = N at *
      have HNN := hideIt hNN
      clear hNN hB16 HW15
      go_wp2_with fail
      refine (toOpS_any l p cap _ (HA.out.below HW16.out.bel) (by omega) hcap).mono ?_
      rintro e w17 ⟨rfl, hA17, hB17⟩
      have HA17 := hideIt hA17
      have HW17 := hideIt (HW16.out.below hB17)
      clear hA17 hB17 HW16
      go_wp2_with fail
      refine (toOpS_any m q cap2 _ (HS.out.below HW17.out.bel) (by omega) hcap2).mono ?_
      rintro e w18 ⟨rfl, hI18, hB18⟩
      have HI18 := hideIt hI18
      have HA18 := hideIt (HA17.out.below hB18 HA17.out.1)
      have HW18 := hideIt (HW17.out.below hB18)
      clear hI18 hB18 HA17 HW17
      go_wp2_with fail
      refine (implMerge_any l m _ _ _ _ x _ HA18.out HI18.out (by omega) (by omega) (Nat.le_refl _) (Nat.le_refl _) (errB HW18.out.bel h0 he) (posB HW18.out.bel h0)).mono ?_
      rintro e w19 ⟨⟨vh, L2, z2, rfl, hrh, hz2⟩, hB19⟩
      obtain ⟨rfl, rfl⟩ := merge_same HZ.out hz2
      have HRH := hideIt hrh
      have HW19 := hideIt (HW18.out.below hB19)
      clear hrh hz2 hB19 HA18 HI18 HW18
      go_wp2_with fail
      refine (eqOpS_rows L' _ _ _ _ _ HRH.out HW19.out.rw (by rw [HNN.out]; exact hkl)).mono ?_
      rintro e w20 ⟨rfl, hB20⟩
      have HW20 := hideIt (HW19.out.below hB20)
      clear hB20 HRH HW19
      go_wp2_with fail
      refine (heldOpS_row vg N _ _ (by have h := HW20.out.rg; rw [marksO_len] at h; exact h) hkl).mono ?_
      rintro e w21 ⟨rfl, hB21⟩
      have HW21 := hideIt (HW20.out.below hB21)
      clear hB21
      go_wp2
      go_ret
      exact ⟨rfl, HW21.out.bel⟩
    · go_enter Tryd.func7, Tryd.ntmps7
      go_wp2_with fail
      refine (szAny_ok p l.length cap 1048576 _ (Nat.le_refl _) hn).mono ?_
      rintro e w' ⟨rfl, hw'⟩
      rw [hw']
      clear hw'
      go_wp2_with fail
      refine (szAny_no q m.length cap2 (1048576 - l.length) _ (by omega) (by omega) (by unfold maxLen; omega)).mono ?_
      rintro e w' ⟨rfl, hw'⟩
      rw [hw']
      clear hw'
      go_wp2
      go_ret
      exact ⟨rfl, Below.refl _ _⟩
  · go_enter Tryd.func7, Tryd.ntmps7
    go_wp2_with fail
    refine (szAny_no p l.length cap 1048576 _ (Nat.le_refl _) (by omega) (by unfold maxLen; omega)).mono ?_
    rintro e w' ⟨rfl, hw'⟩
    rw [hw']
    clear hw'
    go_wp2
    go_ret
    exact ⟨rfl, Below.refl _ _⟩
end Go.Proofs.YtficnhlkefpfnaaDoor

namespace Go.Proofs.YtficnhlkefpfnaaDoor
open Go.ChangeShapes Go.WideShapes Go.ChangeAt Go.RowKit Go.Joins

set_option maxRecDepth 100000 in
theorem fnExactOpsMerge_lifted (os : Os) (started : os.Started) (H : Type) (enc : TypeId × Value → H) :
    ReturnsInHanded {} Tryd.checked os 7 .any (fun w args => (Rows.fnExactOpsMergeSpec.pre enc Tryd.prog Tryd.f7 [] false w args ∧ laidMetH Tryd.prog laid1 w) ∧ sizedMet enc Tryd.prog Tryd.f7 (OpenSpec.ofChange Rows.fnExactOpsMergeSpec) false w args)
      (Rows.fnExactOpsMergeSpec.post enc Tryd.prog Tryd.f7 false true false false) := by
  refine returnsInHanded_of_change_and (C := Tryd.checked) (X := fun w _ => laidMetH Tryd.prog laid1 w) (fun _ _ _ hh h => h.of_heap hh) own started (by kernel_rfl) Tryd.func7
    (ChangeSpec.witness_shaped (enc := enc) (C := Tryd.checked) (os := os) (X := fun w _ => laidMetH Tryd.prog laid1 w) false (World.doorLaid Tryd.prog 28 os) #[.slice none 0 0, .slice none 0 0] 8 rfl (World.shaped_of_RefB (by kernel_rfl) (by kernel_rfl)) (by kernel_rfl) (by kernel_rfl) (by kernel_rfl) (door_met os _)) ?_
  intro W base args ds gs before hval0 hW _ _ hL _
  have hval : ∀ (j : Nat) t v, Tryd.f7.params[j]? = some t → args[j]? = some v → Value.okWide Tryd.prog W .any base t v := hval0
  have hW' := hW
  obtain ⟨p, q, hA0, hV0, rfl, hfz, hnd⟩ := hW
  have hA : DataW.TrodAll enc Tryd.prog W 0 (fun _ => true) true Tryd.f7.params.toList args.toList ds p := hA0
  have hV : DataW.TrodVars enc Tryd.prog W (fun _ => true) [errName] gs q := hV0
  rw [Tryd.params7] at hA hval
  obtain ⟨v0, v1, d0, d1, p0, p1, rfl, rfl, rfl, h0, h1⟩ := trodAll_two hA
  have kk0 := h0
  have lt0 : ∀ x ∈ p0, x.block < W.heap.size := by obtain ⟨m, hm⟩ := kk0; exact DataW.trod_lt m _ _ _ hm
  have kk1 := h1
  have lt1 : ∀ x ∈ p1, x.block < W.heap.size := by obtain ⟨m, hm⟩ := kk1; exact DataW.trod_lt m _ _ _ hm
  obtain ⟨x, hv, hc, hpos⟩ := of_laid hL
  obtain ⟨rfl, rfl⟩ := hV.unique (vars_read1 enc gErr tErr Tryd.underlying120 hv trivial _)
  obtain ⟨pa0, l0, cap0, rfl, hcap0, hmax0, hargs0⟩ := open_ops (hval 0 22 v0 rfl rfl) h0
  obtain ⟨pa1, l1, cap1, rfl, hcap1, hmax1, hargs1⟩ := open_ops (hval 1 22 v1 rfl rfl) h1
  clear hA0 hV0 hval0
  refine (walkOpsMerge l0 pa0 cap0 l1 pa1 cap1 x W hargs0 hcap0 hmax0 hargs1 hcap1 hmax1 hc hpos).mono fun e W' ⟨he, bel⟩ => ?_
  subst he
  exact ⟨_, rfl, _, _, _, [], _, [.cell 0 0], hW', trodAll_mk1 (shut_bool Tryd.underlying4 _), (trodAll_cons_mk (Below.trod laidOut (by kernel_rfl) (of_decide_eq_true (by kernel_rfl)) kk0 bel lt0) (trodAll_cons_mk (Below.trod laidOut (by kernel_rfl) (of_decide_eq_true (by kernel_rfl)) kk1 bel lt1) trodAll_mk0)), vars_read1 enc gErr tErr Tryd.underlying120 (var_kept bel hpos hv) trivial _, bel.frame _, fun h => by cases h⟩

theorem fnExactOpsMerge_row : Rows.FnExactOpsMergeSaid :=
  OpenClaim.holds_of_wide 7 Tryd.f7 rfl rfl rfl rfl rfl rfl rfl ⟨rfl, rfl, rfl, rfl, rfl⟩ rfl rfl rfl rfl rfl (by kernel_rfl) Tryd.func7 (by kernel_rfl)
    (of_decide_eq_true (by kernel_rfl)) (by unfold Func.isWrapper; first | (rw [if_pos (by decide +kernel)]; kernel_rfl) | (rw [if_neg (by decide +kernel)]; exact ⟨rfl, rfl⟩))
    (fun os started H enc _ => fnExactOpsMerge_lifted os started H enc)

/-- THE STATEMENT. -/
theorem fnExactOpsMerge_holds : Rows.FnExactOpsMergeCardSaid :=
  Claim7.holds_tied_plain_at .later [] Rows.fnExactOpsMergeCard.laidKinds true Rows.fnExactOpsMergeCard.stood.harness true
    fnExactOpsMerge_row (fun _ h => by cases h) (by kernel_rfl) (fun _ h => by cases h) fnExactOpsMerge_row_tie rfl ⟨rfl, rfl⟩ (by kernel_rfl) rfl
    (fun f fn hf hfn => by
      obtain rfl : f = 7 := Option.some.inj ((show Tryd.prog.funcNamed Rows.fnExactOpsMergeRow.func = some 7 by kernel_rfl).symm.trans hf) |>.symm
      obtain rfl : fn = Tryd.f7 := (Option.some.inj (Tryd.func7.symm.trans hfn)).symm
      exact ⟨by kernel_rfl, fun j t ht => by
        rw [Tryd.params7] at ht
        have hm : t ∈ [22] := by simpa using Array.mem_of_getElem? ht
        have hall : ([22].all fun u => !Tryd.prog.wantsStandIn u) = true := by kernel_rfl
        exact (show Tryd.prog.wantsStandIn t = false by simpa using List.all_eq_true.1 hall t hm)⟩)
    (by kernel_rfl)
#print axioms fnExactOpsMerge_holds
end Go.Proofs.YtficnhlkefpfnaaDoor
