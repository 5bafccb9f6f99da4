/-
  PROVED: where its answers differ: without any one of its things of which nothing else speaks, what was done is OpsOk still, whatever bytes what was done and the place are drawn from (the given card of FnOpsLess), for every input; the one listed variable, the program's error, reads as its own initialiser lays it (the given card of FnOpsLess), for every input; the one listed variable, the program's error, reads as its own initialiser lays it.
-/
import Derived.Test.YtedanlmippfojaaDoorP3
import Derived.Test.YtedanlmippfojaaDoorP0
import Derived.Test.YtedanlmippfojaaDoorP4
import Derived.Test.YtedanlmippfojaaDoorP5
import Derived.Test.YtedanlmippfojaaDoorP1
import Derived.Test.YtedanlmippfojaaDoorP2
import Derived.Test.YtedanlmippfojaaDoorRows
import Derived.WalkKit
import Derived.ProofKit
import Derived.OpenShut
import Derived.ChangeOld
import Derived.Below
import Derived.Lib.SmallJoins
import Derived.Stop.LaidErr
import Derived.LaidMore
import Derived.Stop.Joined
import Derived.ChangeSlices
import Derived.Test.YtedanlmippfojaaDoorTie
import Derived.Test.YtedanlmippfojaaDoorCards
import Derived.SevenTiedAt
namespace Go.Proofs.YtedanlmippfojaaDoor
open Go.RowKit
set_option linter.unusedSimpArgs false
set_option linter.unusedVariables false
attribute [local go_sem ↓] Go.wp_at_zero Go.wp_at_succ

set_option maxRecDepth 100000 in
set_option maxHeartbeats 1000000 in
theorem drawOps_any (w : World) (p : Option Addr) (n cap : Nat) (h : ArgBytes w p n) (hcap : n ≤ cap) (hn : n ≤ 1048576) :
    Calls Tryd.prog 35 #[.slice p n cap] w fun e w' => ∃ G c m, e = .returned (.slice (some ⟨G, 0, none⟩) m c) ∧ SomeOps w' w.heap.size G c m 74 ∧ Below w.heap.size w w' := by
  have H := hideIt h
  clear h
  go_enter Tryd.func35, Tryd.ntmps35
  go_wp2_with fail
  refine (open_any _ p n cap H.out hcap hn).mono ?_
  rintro e w1 ⟨n', rfl, hR1, hb1⟩
  have HR1 := hideIt hR1
  have HB1 := hideIt hb1
  have hq1 := hR1.lt
  clear hR1 hb1
  go_wp2_with fail
  refine (l71Off_any _ _ p n' cap 0 HR1.out (by omega)).mono ?_
  rintro e w2 ⟨⟨G, c, m, rfl, hS2⟩, ⟨k2, hk2, hR2⟩, hO2⟩
  have HS2 := hideIt hS2
  have HR2 := hideIt hR2
  have HB2 := hideIt (HB1.out.trans hO2.below)
  clear hS2 hR2 hO2
  have hm74 : m ≤ 74 := by obtain ⟨L, h1, h2, h3⟩ := HS2.out; omega
  have hqW : w.heap.size ≤ w1.heap.size := by omega
  generalize hW1 : w1.heap.size = W1 at *
  generalize hWS : w.heap.size = q at *
  go_wp2_with fail
  refine (pick_any _ q p n' cap k2 5 HR2.out (by omega) (by omega) (by omega)).mono ?_
  rintro e w3 ⟨⟨x, hx0, hx1, rfl⟩, hR3, hO3⟩
  have HS3 := hideIt (HS2.out.only hO3 hq1)
  have HR3 := hideIt hR3
  have HB3 := hideIt (HB2.out.trans hO3.below)
  clear hR3 hO3
  by_cases hx : x = 0
  · subst hx
    by_cases hm1 : 1 < m
    · have hm1' : (1 : Int) < (m : Int) := by omega
      go_wp2_with fail
      refine (pick_any _ q p n' cap (k2 + 1) m HR3.out (by omega) (by omega) (by omega)).mono ?_
      rintro e w4 ⟨⟨y, hy0, hy1, rfl⟩, hR4, hO4⟩
      have HS4 := hideIt (HS3.out.only hO4 hq1)
      have HR4 := hideIt hR4
      have HB4 := hideIt (HB3.out.trans hO4.below)
      obtain ⟨k, rfl⟩ := Int.eq_ofNat_of_zero_le hy0
      have hkm : (k : Int) < (m : Int) := hy1
      clear hR4 hO4 HS3 HR3 HB3
      go_wp2_with fail
      refine (pick_any _ q p n' cap (k2 + 1 + 1) m HR4.out (by omega) (by omega) (by omega)).mono ?_
      rintro e w5 ⟨⟨z, hz0, hz1, rfl⟩, hR5, hO5⟩
      have HS5 := hideIt ((HS4.out.only hO5 hq1).base hqW)
      have HB5 := hideIt (HB4.out.trans hO5.below)
      obtain ⟨j, rfl⟩ := Int.eq_ofNat_of_zero_le hz0
      have hjm : (j : Int) < (m : Int) := hz1
      have hj0 : (0 : Int) ≤ (j : Int) := by omega
      have hk0 : (0 : Int) ≤ (k : Int) := by omega
      clear hR5 hO5 HS4 HR4 HB4
      obtain ⟨L, hLm, hL74, hOw⟩ := HS5.out
      have hkL : k < L.length := by omega
      have hjL : j < L.length := by omega
      obtain ⟨a0, a1, _⟩ := hOw.at.2 j L[j] (by simp [hjL])
      obtain ⟨_, _, _, b3, b4, _⟩ := hOw.at.2 k L[k] (by simp [hkL])
      have bf : ∀ i, w5.frozen? ⟨G, i, none⟩ = false := fun i => World.ownsRow.frozenAt hOw i
      have bl : G < w5.heap.size := hOw.at.1
      have HFIN : Hid (SomeOps ((w5.setCell ⟨G, k * 7 + 3, none⟩ (.int .i64 L[j].a)).setCell ⟨G, k * 7 + 4, none⟩ (.int .i64 L[j].b)) q G c m 74) := (HS5.out.turn (by omega) _).turn (by omega) _
      have hqG : q ≤ G := (World.ownsRow.lt hOw G rfl).1
      generalize L[j].a = va at *
      generalize L[j].b = vb at *
      generalize L[k].c = vc at *
      generalize L[k].d = vd at *
      clear hOw
      go_wp2_with fail
      go_ret
      rw [hWS]
      exact ⟨G, c, m, rfl, HFIN.out, ((by first | exact HB5.out | (rw [← hWS]; exact HB5.out) : Below q w w5).setCell (p := ⟨G, k * 7 + 3, none⟩) hqG _).setCell (p := ⟨G, k * 7 + 4, none⟩) hqG _⟩
    · have hm1' : ¬ (1 : Int) < (m : Int) := by omega
      go_wp2
      go_ret
      exact ⟨G, c, m, rfl, HS3.out.base (by omega), by first | exact HB3.out | (rw [← hWS] at HB3; exact HB3.out) | (rw [hWS]; exact HB3.out)⟩
  · go_wp2
    go_ret
    exact ⟨G, c, m, rfl, HS3.out.base (by omega), by first | exact HB3.out | (rw [← hWS] at HB3; exact HB3.out) | (rw [hWS]; exact HB3.out)⟩
end Go.Proofs.YtedanlmippfojaaDoor

namespace Go.Proofs.YtedanlmippfojaaDoor
open Go.RowKit
set_option linter.unusedSimpArgs false
set_option linter.unusedVariables false
attribute [local go_sem ↓] Go.wp_at_zero Go.wp_at_succ

set_option maxHeartbeats 400000 in
theorem known_any (l : List Op7) (g cap : Nat) (r m : Int) (w : World) (hl : OpsAt w g l) (hn : l.length ≤ 1048576) (hcap : l.length ≤ cap) :
    Calls Tryd.prog 39 #[.slice (some ⟨g, 0, none⟩) l.length cap, .agg #[.int .i64 r, .int .i64 m]] w fun e w' => e = .returned (.bool (decide (0 ≤ findI l r m))) ∧ Below w.heap.size w w' := by
  go_enter Tryd.func39, Tryd.ntmps39
  go_wp2
  go_loopw [5] (fun i wr => ∃ k : Nat, k ≤ l.length ∧ i = .int .i64 k ∧ (∀ j (hj : j < l.length), j < k → hasId r m l[j] = false) ∧ wr.cell? ⟨w.heap.size, 0, none⟩ = some (.int .i64 r) ∧ wr.cell? ⟨w.heap.size, 1, none⟩ = some (.int .i64 m) ∧ Below w.heap.size w wr)
    (fun i _ => l.length - (intOf i).toNat)
  case atStart => exact ⟨0, Nat.zero_le _, rfl, fun j hj h => by omega, by simp [go_sem], by simp [go_sem], by go_grown⟩
  case round =>
    obtain ⟨k, hk, rfl, hno, hr, hm, hB⟩ := hrel
    have HN : Hid (∀ j (hj : j < l.length), j < k → hasId r m l[j] = false) := hno
    have HB : Hid (Below w.heap.size w wr) := hB
    by_cases hlt : k < l.length
    · obtain ⟨h0, h1, _⟩ := (hl.below hB hl.1).2 k l[k] (by simp [hlt])
      have HX : Hid (hasId r m l[k] = (l[k].a == r && l[k].b == m)) := rfl
      generalize l[k].a = xa at h0 HX
      generalize l[k].b = xb at h1 HX
      have hlt' : (k : Int) < (l.length : Int) := by omega
      have hk0 : (0 : Int) ≤ (k : Int) := by omega
      clear hno hB hl
      have hnext : Hid (hasId r m l[k] = false → ∀ j (hj : j < l.length), j < k + 1 → hasId r m l[j] = false) := fun hf j hj hj1 => by
        rcases Nat.lt_or_ge j k with h | h
        · exact HN.out j hj h
        · obtain rfl : j = k := by omega
          exact hf
      by_cases hxa : xa = r
      · subst hxa
        by_cases hxb : xb = m
        · subst hxb
          have hfin : Hid (findI l xa xb = k) := findI_some hlt (by rw [HX.out]; simp) (fun j hj => HN.out j (by omega) hj)
          go_wp2
          go_quiet (fail)
          go_wp2
          go_ret
          exact ⟨by rw [hfin.out]; simp, below_drewN HB.out _⟩
        · have hf : Hid (hasId xa m l[k] = false) := by show hasId xa m l[k] = false; rw [HX.out]; simp [hxb]
          go_wp2
          go_quiet (fail)
          go_wp2
          exact ⟨⟨k + 1, by omega, by go_num, hnext.out hf.out, by simpa using hr, by simpa using hm, below_drewN HB.out _⟩, by simp [intOf]; omega⟩
      · have hf : Hid (hasId r m l[k] = false) := by show hasId r m l[k] = false; rw [HX.out]; simp [hxa]
        go_wp2
        go_quiet (fail)
        go_wp2
        exact ⟨⟨k + 1, by omega, by go_num, hnext.out hf.out, by simpa using hr, by simpa using hm, below_drewN HB.out _⟩, by simp [intOf]; omega⟩
    · clear hno hB hl
      go_wp2
      go_ret
      exact ⟨(by rw [findI_none]; rfl; intro o ho; obtain ⟨j, hj, rfl⟩ := List.getElem_of_mem ho; exact HN.out j hj (by omega)), HB.out⟩
end Go.Proofs.YtedanlmippfojaaDoor

namespace Go.Proofs.YtedanlmippfojaaDoor

theorem up_less {l l' : List Op7} {q : Op7} (hsub : ∀ p ∈ l, ¬ (p.a = q.a ∧ p.b = q.b) → p ∈ l') (hr : ∀ p ∈ l, ¬ (p.c = q.a ∧ p.d = q.b)) {d : Nat} {x : Int × Int} (h : Up l d x) : ¬ (x.1 = q.a ∧ x.2 = q.b) → Up l' d x := by
  induction h with
  | zero => exact fun _ => Up.zero
  | step hm hk _ ih => exact fun hx => Up.step (hsub _ hm hx) hk (ih (hr _ hm))
theorem less_ok {l : List Op7} (h : opsB l = true) {k : Nat} (hk : k < l.length) (hn : ∀ p ∈ l, ¬ (p.a = l[k].a ∧ p.b = l[k].b + 1)) (hr : ∀ p ∈ l, ¬ (p.c = l[k].a ∧ p.d = l[k].b)) : opsB (l.take k ++ l.drop (k + 1)) = true := by
  have ho := OkL.of h
  have hsp : l = l.take k ++ l[k] :: l.drop (k + 1) := by rw [← List.drop_eq_getElem_cons hk, List.take_append_drop]
  have hin : ∀ p ∈ l.take k ++ l.drop (k + 1), p ∈ l := fun p hp => by
    rw [hsp]
    rcases List.mem_append.1 hp with h1 | h1
    · exact List.mem_append_left _ h1
    · exact List.mem_append_right _ (List.mem_cons_of_mem _ h1)
  have hout : ∀ p ∈ l, p ≠ l[k] → p ∈ l.take k ++ l.drop (k + 1) := fun p hp hne => by
    rw [hsp] at hp
    rcases List.mem_append.1 hp with h1 | h1
    · exact List.mem_append_left _ h1
    · rcases List.mem_cons.1 h1 with h2 | h2
      · exact absurd h2 hne
      · exact List.mem_append_right _ h2
  have hids : ∀ p ∈ l, ¬ (p.a = l[k].a ∧ p.b = l[k].b) → p ∈ l.take k ++ l.drop (k + 1) := fun p hp hne => hout p hp (fun e => hne (by rw [e]; exact ⟨rfl, rfl⟩))
  have hsl : (l.take k ++ l.drop (k + 1)).Sublist l := by
    conv => rhs; rw [hsp]
    exact List.Sublist.append (List.Sublist.refl _) (List.sublist_cons_self _ _)
  refine OkL.ops ⟨fun o hm => ho.form o (hin o hm), ho.sorted.sublist hsl, fun p hp hb => ?_, fun o hm => ?_⟩
  · obtain ⟨q, hq, e1, e2⟩ := ho.prev p (hin p hp) hb
    refine ⟨q, hout q hq (fun e => ?_), e1, e2⟩
    subst e
    exact hn p (hin p hp) ⟨e1.symm, by omega⟩
  · obtain ⟨d, hd⟩ := ho.deep o (hin o hm)
    exact ⟨d, up_less hids hr hd (hr o (hin o hm))⟩
end Go.Proofs.YtedanlmippfojaaDoor

namespace Go.Proofs.YtedanlmippfojaaDoor
open Go.RowKit
set_option linter.unusedSimpArgs false
set_option linter.unusedVariables false
attribute [local go_sem ↓] Go.wp_at_zero Go.wp_at_succ

/-- Things, and the box of an id. -/
structure LW (w W : World) (G c B : Nat) (L : List Op7) (a b : Int) : Prop where
  own : OwnOps W w.heap.size G c L
  box : W.heap[B]? = some (.cells #[.int .i64 a, .int .i64 b] 27 (0, 0))
  bel : Below w.heap.size w W
theorem LW.below {w W W' : World} {G c B : Nat} {L : List Op7} {a b : Int} (h : LW w W G c B L a b) (hb : Below W.heap.size W W') : LW w W' G c B L a b := ⟨h.own.below hb, blk_below h.box hb, Bstep h.bel hb⟩

set_option maxRecDepth 100000 in
set_option maxHeartbeats 8000000 in
theorem walkOpsLess (w : World) (p p' : Option Addr) (n cap n' cap' : Nat) (h : ArgBytes w p n) (hcap : n ≤ cap) (hmax : cap ≤ maxLen) (h' : ArgBytes w p' n') (hcap' : n' ≤ cap') (hmax' : cap' ≤ maxLen) (x : Addr)
    (he : w.cell? ⟨0, 0, none⟩ = some (.iface 203 (.pointer (some x)))) (h0 : 0 < w.heap.size) :
    Calls Tryd.prog 11 #[.slice p n cap, .slice p' n' cap'] w fun e w' => e = .returned (.bool true) ∧ Below w.heap.size w w' := by
  have H := hideIt h
  clear h h'
  unfold maxLen at *
  by_cases hn : n ≤ 1048576
  · by_cases hn' : n' ≤ 1048576
    · go_enter Tryd.func11, Tryd.ntmps11
      go_wp2_with fail
      refine (drawOps_any _ p n cap H.out hcap hn).mono ?_
      rintro e w1 ⟨G, c, _, rfl, ⟨L, rfl, hL, hS⟩, hb1⟩
      have HS := hideIt hS
      have HB := hideIt hb1
      clear hS hb1
      go_wp2_with fail
      refine (implOps_any L G c x _ HS.out.at (by omega) HS.out.cap (errB HB.out h0 he) (posB HB.out h0)).mono ?_
      rintro e w2 ⟨rfl, hb2⟩
      rw [th_same]
      have HS := hideIt (HS.out.below hb2)
      have HB := hideIt (Bstep HB.out hb2)
      clear hb2
      cases ho : opsB L
      · have HO := hideIt ho
        clear ho
        go_wp2_with (first
          | (go_at_call 22; refine (specOps_any L G c _ HS.out.at (by omega) HS.out.cap).mono ?_; rintro e w3 ⟨rfl, hb3⟩; rw [HO.out]; have HS := hideIt (HS.out.below hb3); have HB := hideIt (Bstep HB.out hb3); clear hb3))
        go_ret
        exact ⟨rfl, HB.out⟩
      · have HO := hideIt ho
        clear ho
        by_cases hz : L.length = 0
        · obtain rfl : L = [] := List.length_eq_zero_iff.1 hz
          clear hz
          have HSZ : Hid (OpsAt w2 G [] ∧ G < w2.heap.size) := ⟨HS.out.at, HS.out.at.1⟩
          go_wp2_with fail
          refine (specOps_any [] G c _ HSZ.out.1 (by simp) (Nat.zero_le _)).mono ?_
          rintro e w3 ⟨rfl, hb3⟩
          rw [HO.out]
          have HSZ3 : Hid (OpsAt w3 G []) := HSZ.out.1.below hb3 HSZ.out.2
          have HB := hideIt (Bstep HB.out hb3)
          clear hb3
          go_wp2_with (first
            | (go_at_call 22; refine (specOps_any [] G c _ HSZ3.out (by simp) (Nat.zero_le _)).mono ?_; rintro e w4 ⟨rfl, hb4⟩; rw [HO.out]; have HB := hideIt (Bstep HB.out hb4); clear hb4))
          go_ret
          exact ⟨rfl, HB.out⟩
        · have hz' : ¬ ((L.length : Int) = 0) := by omega
          have hpos : 0 < L.length := by omega
          have hrem : (n' : Int) % (L.length : Int) = ((n' % L.length : Nat) : Int) := by omega
          have hrem2 : Int.tmod (n' : Int) (L.length : Int) = ((n' % L.length : Nat) : Int) := by rw [Int.tmod_eq_emod_of_nonneg (by omega)]; exact hrem
          have hkl : n' % L.length < L.length := Nat.mod_lt _ hpos
          generalize n' % L.length = k at *
          have hkl' : (k : Int) < (L.length : Int) := by omega
          have hk0 : (0 : Int) ≤ (k : Int) := by omega
          have hpk : L[k]? = some L[k] := by simp [hkl]
          have hok : okO L[k] = true := all_iff.1 (opsB_all HO.out).1 k hkl
          have hnum := okO_num hok
          have HLESS := hideIt (less_ok HO.out hkl)
          obtain ⟨o, hoe⟩ : ∃ o, L[k] = o := ⟨_, rfl⟩
          rw [hoe] at hpk hok hnum HLESS
          clear hoe
          have hw1 : IntKind.i64.wrap (o.b + 1) = o.b + 1 := IntWalk.i64_in _ ⟨by omega, by omega⟩
          go_wp2_with fail
          refine (specOps_any L G c _ HS.out.at (by omega) HS.out.cap).mono ?_
          rintro e w3 ⟨rfl, hb3⟩
          rw [HO.out]
          have HS := hideIt (HS.out.below hb3)
          have HB := hideIt (Bstep HB.out hb3)
          obtain ⟨y0, y1, _⟩ := HS.out.at.2 k o hpk
          have hgl := HS.out.at.1
          clear hb3
          go_wp2_with fail
          have hba : Below w3.heap.size w3 (w3.alloc (.cells #[.int .i64 o.a, .int .i64 o.b] 27)) := (Below.refl _ _).alloc (Nat.le_refl _) _
          have HLW : Hid (LW w (w3.alloc (.cells #[.int .i64 o.a, .int .i64 o.b] 27)) G c w3.heap.size L o.a o.b) := ⟨HS.out.below hba, World.alloc_heap_new _ _, HB.out.alloc HB.out.size _⟩
          clear y0 y1 hgl hba HS HB
          refine (known_any L G c o.a (o.b + 1) _ HLW.out.own.at (by omega) HLW.out.own.cap).mono ?_
          rintro e w4 ⟨rfl, hb4⟩
          have HLW := hideIt (HLW.out.below hb4)
          clear hb4
          generalize w3.heap.size = B at *
          by_cases hkn : 0 ≤ findI L o.a (o.b + 1)
          · rw [decide_eq_true hkn]
            go_wp2
            go_ret
            exact ⟨rfl, HLW.out.bel⟩
          · rw [decide_eq_false hkn]
            have HNX := hideIt (HLESS.out (find_new (by omega)))
            clear HLESS hkn
            generalize o.a = oa at *
            generalize o.b = ob at *
            go_wp2_with fail
            go_loopw [9] (fun i wr => ∃ j : Nat, j ≤ L.length ∧ i = .int .i64 j ∧ (∀ m (hm : m < L.length), m < j → ¬ (L[m].c = oa ∧ L[m].d = ob)) ∧ LW w wr G c B L oa ob)
              (fun i _ => L.length - (intOf i).toNat)
            case atStart => exact ⟨0, Nat.zero_le _, rfl, fun m hm h => by omega, HLW.out⟩
            case round =>
              clear HLW
              obtain ⟨j, hj, rfl, hno, hW⟩ := hrel
              have HN := hideIt hno
              have HLW := hideIt hW
              clear hno hW
              by_cases hlt : j < L.length
              · have hlt' : (j : Int) < (L.length : Int) := by omega
                have hj0 : (0 : Int) ≤ (j : Int) := by omega
                have hpj : L[j]? = some L[j] := by simp [hlt]
                have HSTEP : Hid (¬ (L[j].c = oa ∧ L[j].d = ob) → ∀ m (hm : m < L.length), m < j + 1 → ¬ (L[m].c = oa ∧ L[m].d = ob)) := fun hz m hm hmj => by
                  rcases Nat.lt_or_ge m j with h | h
                  · exact HN.out m hm h
                  · obtain rfl : m = j := by omega
                    exact hz
                generalize L[j] = pj at *
                obtain ⟨_, _, _, z3, z4, _⟩ := HLW.out.own.at.2 j pj hpj
                have b0 := (blk_cell HLW.out.box 0).trans rfl
                have b1 := (blk_cell HLW.out.box 1).trans rfl
                generalize pj.c = pc at *
                generalize pj.d = pd at *
                by_cases h1 : pc = oa
                · subst h1
                  by_cases h2 : pd = ob
                  · subst h2
                    go_wp2
                    go_quiet (fail)
                    go_wp2
                    go_ret
                    exact ⟨rfl, below_drewN HLW.out.bel _⟩
                  · go_wp2
                    go_quiet (fail)
                    go_wp2
                    exact ⟨⟨j + 1, by omega, by go_num, HSTEP.out (fun h => h2 h.2), HLW.out.below (below_drewN (Below.refl _ _) _)⟩, by simp [intOf]; omega⟩
                · go_wp2
                  go_quiet (fail)
                  go_wp2
                  exact ⟨⟨j + 1, by omega, by go_num, HSTEP.out (fun h => h1 h.1), HLW.out.below (below_drewN (Below.refl _ _) _)⟩, by simp [intOf]; omega⟩
              · obtain rfl : j = L.length := by omega
                have HFIN : Hid (opsB (L.take k ++ L.drop (k + 1)) = true) := HNX.out (fun p hp => by
                  obtain ⟨m, hm, rfl⟩ := List.getElem_of_mem hp
                  exact HN.out m hm hm)
                clear HN HNX
                obtain ⟨i0, hi, hz0, hz1, hz2⟩ := info_parts infoOp
                have HI1 := hideIt hi
                have HZ0 := hideIt hz0
                have HZ1 := hideIt hz1
                have HZ2 := hideIt hz2
                clear hi hz0 hz1 hz2
                have hcap0 := HLW.out.own.cap
                have hkc : (k : Int) ≤ (c : Int) := by omega
                have hk1 : IntKind.i64.wrap ((k : Int) + 1) = (k : Int) + 1 := IntWalk.i64_in _ ⟨by omega, by omega⟩
                have hk2 : (0 : Int) ≤ (k : Int) + 1 := by omega
                have hk3 : (k : Int) + 1 ≤ (L.length : Int) := by omega
                have hk4 : ((k : Int) + 1).toNat = k + 1 := by omega
                have hLd : (L.drop (k + 1)).length = L.length - (k + 1) := by simp
                have hGl := (World.ownsRow.lt HLW.out.own G rfl)
                have hww := HLW.out.bel.size
                have HSA : Hid (((wr.alloc (.cells #[] 29)).drew).ownsRow w.heap.size 29 7 (.slice (some ⟨wr.heap.size, 0, none⟩) 0 0) 0 []) :=
                  rowKeep (World.ownsRow_made (base := w.heap.size) (e := 29) (size := 7) wr #[] 0 hww (Nat.zero_le _) rfl) ((Below.refl _ _).drew)
                have HSB := hideIt ((HLW.out.own.below ((Below.refl _ _).alloc (Nat.le_refl _) (.cells #[] 29))).below ((Below.refl _ _).drew))
                have hzA : w.heap.size ≤ ((wr.alloc (.cells #[] 29)).drew).heap.size := Nat.le_trans hww (by simp)
                obtain ⟨v5, w5, hap1, hown5, hg5, hnil5, hloc5⟩ := run_append_own_at (P := Tryd.prog) ((wr.alloc (.cells #[] 29)).drew) w.heap.size 23 23 29 i0 _ 7 56 Tryd.underlying23 HI1.out HZ0.out HZ1.out HZ2.out rfl (by decide) _ 0 [] HSA.out ⟨G, 0, none⟩ k c (opCells (L.take k)) (by rw [opCells_len]; simp; omega) (HSB.out.at.cellsTake k) (opCells_one _) (by unfold maxLen; omega) (by omega) hzA
                have hS5 : OwnOps w5 w.heap.size G c L := World.ownsRow.kept HSB.out hg5 (.inr (by intro e; have e' : G = wr.heap.size := (by cases e; rfl); omega))
                have hsrc : ∀ j u, (opCells (L.drop (k + 1)))[j]? = some u → w5.cell? ((⟨G, if c = k + 1 then 0 else (k + 1) * 7, none⟩ : Addr).add j) = some u := by
                  intro j u hj
                  by_cases hcx : c = k + 1
                  · have h0 : L.drop (k + 1) = [] := List.drop_eq_nil_of_le (by omega)
                    rw [h0] at hj
                    simp [opCells] at hj
                  · rw [if_neg hcx]
                    exact hS5.at.cellsDrop (by omega) j u hj
                have haddr : (if c = k + 1 then (some ⟨G, 0, none⟩ : Option Addr) else some ⟨G, (k + 1) * 7, none⟩) = some ⟨G, if c = k + 1 then 0 else (k + 1) * 7, none⟩ := by split <;> rfl
                obtain ⟨v6, w6, hap2, hown6, hg6, hnil6, hloc6⟩ := run_append_own_at (P := Tryd.prog) w5 w.heap.size 23 23 29 i0 _ 7 56 Tryd.underlying23 HI1.out HZ0.out HZ1.out HZ2.out rfl (by decide) v5 _ _ hown5 ⟨G, if c = k + 1 then 0 else (k + 1) * 7, none⟩ (L.length - (k + 1)) (c - (k + 1)) (opCells (L.drop (k + 1))) (by rw [opCells_len, hLd]) hsrc (opCells_one _) (by unfold maxLen; omega) (by omega) (Nat.le_trans hzA hg5.size)
                have hB5 : Below w.heap.size w w5 := below_grown ((HLW.out.bel.alloc hww _).drew) hg5 hzA (fun j e => by have e' : j = wr.heap.size := (by cases e; rfl); omega)
                have hB6 : Below w.heap.size w w6 := below_grown hB5 hg6 hB5.size (fun j e => (hown5.lt j e).1)
                have HX : Hid (∃ g' c', v6 = .slice (some ⟨g', 0, none⟩) (L.length - 1) c' ∧ OwnOps w6 w.heap.size g' c' (L.take k ++ L.drop (k + 1))) := by
                  show ∃ g' c', _
                  have hn5 : ¬ v5 = .slice none 0 0 := fun e => by have := (hnil5.1 e).1; cases this
                  have hlen : 0 + k + (L.length - (k + 1)) = L.length - 1 := by omega
                  rw [hlen] at hown6
                  rcases hown6.2 with ⟨e, _⟩ | ⟨g', c', cur, e, _⟩
                  · exact absurd (hnil6.1 e).1 hn5
                  · subst e
                    refine ⟨g', c', rfl, ?_⟩
                    unfold OwnOps
                    rw [opCells_app, show (L.take k ++ L.drop (k + 1)).length = L.length - 1 by simp; omega]
                    simpa using hown6
                have HB6 := hideIt hB6
                clear hown5 hg5 hnil5 hloc5 hown6 hg6 hnil6 hloc6 hS5 hB5 hB6 hsrc
                obtain ⟨g6, c6, hv6, hO6⟩ := HX.out
                have HO6 := hideIt hO6
                have hlen6 : (L.take k ++ L.drop (k + 1)).length = L.length - 1 := by simp; omega
                have hLL : L.length - 1 ≤ 1048576 := by omega
                have hcc6 : L.length - 1 ≤ c6 := by have := hO6.cap; rw [hlen6] at this; exact this
                clear hO6 HX
                subst hv6
                generalize hM : L.take k ++ L.drop (k + 1) = M at *
                clear hM
                have HCAL : Hid (Calls Tryd.prog 36 #[.slice (some ⟨g6, 0, none⟩) (L.length - 1) c6] w6 fun e w' => e = .returned (.bool true) ∧ Below w.heap.size w w') := by
                  show Calls _ _ _ _ _
                  rw [← hlen6]
                  refine (implOps_any M g6 c6 x _ HO6.out.at (by omega) (by omega) (errB HB6.out h0 he) (posB HB6.out h0)).mono ?_
                  rintro e w7 ⟨rfl, hb7⟩
                  rw [th_same, HFIN.out]
                  exact ⟨rfl, Bstep HB6.out hb7⟩
                go_wp2_with fail
                go_region_held3 (fun _ => True) (exact trivial) (first
                  | (refine append_arm (t := 23) (v := .slice (some ⟨wr.heap.size, 0, none⟩) 0 0) (u := .slice (some ⟨G, 0, none⟩) k c) rfl rfl rfl rfl rfl hap1 ?_; clear hap1)
                  | (refine append_arm (t := 23) (v := v5) (u := .slice (some ⟨G, if c = k + 1 then 0 else (k + 1) * 7, none⟩) (L.length - (k + 1)) (c - (k + 1))) rfl rfl rfl rfl rfl hap2 ?_; clear hap2)
                  | (go_at_call 36; refine HCAL.out.mono ?_; rintro e w7 ⟨rfl, HB7⟩; dsimp only))
                all_goals go_wp2
                all_goals
                  go_ret
                  exact ⟨rfl, HB7⟩
    · go_enter Tryd.func11, Tryd.ntmps11
      have hn'' : (1048576 : Int) < (n' : Int) := by omega
      go_wp2
      go_ret
      exact ⟨rfl, Below.refl _ _⟩
  · go_enter Tryd.func11, Tryd.ntmps11
    have hn' : (1048576 : Int) < (n : Int) := by omega
    go_wp2
    go_ret
    exact ⟨rfl, Below.refl _ _⟩
end Go.Proofs.YtedanlmippfojaaDoor

namespace Go.Proofs.YtedanlmippfojaaDoor
open Go.ChangeShapes Go.WideShapes Go.ChangeAt Go.RowKit Go.Joins

theorem own : ownKnob Tryd.prog.godebug = none := by kernel_rfl
theorem laidOut : laidOutB Tryd.prog = true := by kernel_rfl
theorem cells_int : Tryd.prog.cellsOf 3 = 1 := by kernel_rfl

/-- The name of the one listed variable. -/
abbrev errName : String := Rows.fnTypeAnyoneSpec.vars.headD ""
/-- What the rows list. -/
abbrev laid1 : List (String × DataW Unit) := Rows.fnTypeAnyoneRow.laid
theorem gErr : Tryd.prog.globalNamed errName = some 0 := by kernel_rfl
theorem tErr : (Tryd.prog.globals[0]?).map (·.type) = some 93 := by kernel_rfl
def nmOf : DataW Unit → String
  | .iface n _ => n
  | _ => ""
theorem star : "*" ++ "errors.errorString" = nmOf Rows.laid_loop_example_tatting_impl_errNoThing := by decide
theorem nameErr (u : TypeId) (h : Tryd.prog.typeName? 3 u = some (nmOf Rows.laid_loop_example_tatting_impl_errNoThing)) : u = 203 :=
  typeName_ptr_named (nm := "errors.errorString") (by rw [star]; kernel_rfl) (by kernel_rfl) (by decide) u (by rw [star]; exact h)

theorem door_met (os : Os) (args : Array Value) : laidMetH Tryd.prog laid1 ((World.doorLaid Tryd.prog 28 os).forCall (fun _ _ => 0) ⟨#[], args, []⟩).memory :=
  laidMetH_of_parts3 (fuel := 8) (laidMet_of_run' 8 (by kernel_rfl) (by kernel_rfl)) (by kernel_rfl) (by kernel_rfl)

/-- WHAT THE CONDITION GIVES THE WALKS: the one error's cell. -/
theorem of_laid {W : World} (h : laidMetH Tryd.prog laid1 W) : ∃ x : Addr, W.var? Tryd.prog errName = some #[.iface 203 (.pointer (some x))] ∧ W.cell? ⟨0, 0, none⟩ = some (.iface 203 (.pointer (some x))) ∧ 0 < W.heap.size := by
  rw [MakeChecks.laidMetH_plain _ _ _ (by kernel_rfl)] at h
  obtain ⟨x, s, hv, hc, _, _⟩ := laid_sentinel h gErr tErr Tryd.underlying93 nameErr Tryd.underlying203 Tryd.underlying230 rfl rfl Tryd.underlying9 (by kernel_rfl) (by kernel_rfl)
  have hcell : W.cell? ⟨0, 0, none⟩ = some (.iface 203 (.pointer (some x))) := by simpa using World.var?_cell gErr hv 0
  refine ⟨x, hv, hcell, ?_⟩
  rcases Nat.eq_zero_or_pos W.heap.size with h0 | h0
  · exfalso
    simp [World.cell?, Array.eq_empty_of_size_eq_zero h0] at hcell
  · exact h0

/-- The variable holds what it held, where nothing that was there has turned. -/
theorem var_kept {W W' : World} {x : Value} (hb : Below W.heap.size W W') (h0 : 0 < W.heap.size) (hv : W.var? Tryd.prog errName = some #[x]) : W'.var? Tryd.prog errName = some #[x] := by
  unfold World.var? at hv ⊢
  rw [gErr] at hv ⊢
  simp only [Option.bind_some] at hv ⊢
  rw [hb.block 0 h0]
  exact hv
end Go.Proofs.YtedanlmippfojaaDoor

namespace Go.Proofs.YtedanlmippfojaaDoor
open Go.ChangeShapes Go.WideShapes Go.ChangeAt Go.RowKit Go.Joins

theorem cells_byte : Tryd.prog.cellsOf 5 = 1 := by kernel_rfl

set_option maxRecDepth 100000 in
theorem open_bytes {H : Type} {enc : TypeId × Value → H} {w : World} {r : Reach} {b0 : Nat} {spare : Nat → Bool} {held : Bool} {v : Value} {d : DataW H} {p : List MemPlace}
    (hv : Value.okWide Tryd.prog w r b0 22 v) (h : DataW.Trod enc Tryd.prog w 0 spare held 22 v d p) :
    ∃ (q : Option Addr) (n cap : Nat), v = .slice q n cap ∧ n ≤ cap ∧ cap ≤ maxLen ∧ ArgBytes w q n := by
  obtain ⟨q, len, cap, rfl⟩ := okWide_slice Tryd.underlying22 hv
  obtain ⟨fuel, hf⟩ := h
  rcases open_ints Tryd.underlying22 Tryd.underlying5 cells_byte hf with ⟨hcs, _⟩ | ⟨a, len', cap', zs, hcs, _, hl, hm, hz, _, hcell, hwz⟩
  · simp [Value.cells] at hcs
    obtain ⟨rfl, rfl, rfl⟩ := hcs
    exact ⟨none, 0, 0, rfl, Nat.le_refl _, Nat.zero_le _, .inl rfl⟩
  · simp [Value.cells] at hcs
    obtain ⟨rfl, rfl, rfl⟩ := hcs
    refine ⟨some a, len, cap, rfl, hl, hm, ?_⟩
    have hlz : len ≤ zs.length := by rw [hz]; split <;> omega
    rcases Nat.eq_zero_or_pos len with h0 | h0
    · exact .inl h0
    obtain ⟨b, off, spot⟩ := a
    have hspot : spot = none := by simpa [Addr.add] using World.cell?_spot (hcell 0 (by omega))
    subst hspot
    refine .inr ⟨b, off, rfl, ?_, fun i hi => ?_⟩
    · have := World.block_lt_of_cell? w _ (hcell 0 (by omega))
      simpa [Addr.add_lit] using this
    · have hc := hcell i (by omega)
      rw [Addr.add_lit] at hc
      have hb := range_u8 hwz i
      exact ⟨zs.getD i 0, by simpa [List.getD] using hb.1, by simpa [List.getD] using hb.2, hc⟩

end Go.Proofs.YtedanlmippfojaaDoor

namespace Go.Proofs.YtedanlmippfojaaDoor
open Go.ChangeShapes Go.WideShapes Go.ChangeAt Go.RowKit Go.Joins

set_option maxRecDepth 100000 in
theorem liftedFnOpsLess (os : Os) (started : os.Started) (H : Type) (enc : TypeId × Value → H) :
    ReturnsInHanded {} Tryd.checked os 11 .any (fun w args => (Rows.fnOpsLessSpec.pre enc Tryd.prog Tryd.f11 [] false w args ∧ laidMetH Tryd.prog laid1 w) ∧ sizedMet enc Tryd.prog Tryd.f11 (OpenSpec.ofChange Rows.fnOpsLessSpec) false w args)
      (Rows.fnOpsLessSpec.post enc Tryd.prog Tryd.f11 false true false false) := by
  refine returnsInHanded_of_change_and (C := Tryd.checked) (X := fun w _ => laidMetH Tryd.prog laid1 w) (fun _ _ _ hh h => h.of_heap hh) own started (by kernel_rfl) Tryd.func11
    (ChangeSpec.witness_shaped (enc := enc) (C := Tryd.checked) (os := os) (X := fun w _ => laidMetH Tryd.prog laid1 w) false (World.doorLaid Tryd.prog 28 os) #[.slice none 0 0, .slice none 0 0] 8 rfl (World.shaped_of_RefB (by kernel_rfl) (by kernel_rfl)) (by kernel_rfl) (by kernel_rfl) (by kernel_rfl) (door_met os _)) ?_
  intro W base args ds gs before hval0 hW _ _ hL _
  have hval : ∀ (j : Nat) t v, Tryd.f11.params[j]? = some t → args[j]? = some v → Value.okWide Tryd.prog W .any base t v := hval0
  have hW' := hW
  obtain ⟨p, q, hA0, hV0, rfl, hfz, hnd⟩ := hW
  have hA : DataW.TrodAll enc Tryd.prog W 0 (fun _ => true) true Tryd.f11.params.toList args.toList ds p := hA0
  have hV : DataW.TrodVars enc Tryd.prog W (fun _ => true) [errName] gs q := hV0
  rw [Tryd.params11] at hA hval
  obtain ⟨v0, v1, d0, d1, p0, p1, rfl, rfl, rfl, h0, h1⟩ := trodAll_two hA
  have k0 := h0
  have k1 := h1
  have lt0 : ∀ x ∈ p0, x.block < W.heap.size := by obtain ⟨m, hm⟩ := k0; exact DataW.trod_lt m _ _ _ hm
  have lt1 : ∀ x ∈ p1, x.block < W.heap.size := by obtain ⟨m, hm⟩ := k1; exact DataW.trod_lt m _ _ _ hm
  obtain ⟨x, hv, hc, hpos⟩ := of_laid hL
  obtain ⟨rfl, rfl⟩ := hV.unique (vars_read1 enc gErr tErr Tryd.underlying93 hv trivial _)
  obtain ⟨q0, n0, c0, rfl, hc0, hm0, ha0⟩ := open_bytes (hval 0 22 v0 rfl rfl) h0
  obtain ⟨q1, n1, c1, rfl, hc1, hm1, ha1⟩ := open_bytes (hval 1 22 v1 rfl rfl) h1
  clear hA0 hV0 hval0
  refine (walkOpsLess W q0 q1 n0 c0 n1 c1 ha0 hc0 hm0 ha1 hc1 hm1 x hc hpos).mono fun e W' ⟨he, bel⟩ => ?_
  subst he
  exact ⟨_, rfl, _, _, _, [], _, [.cell 0 0], hW', trodAll_mk1 (shut_bool Tryd.underlying4 _), (trodAll_cons_mk (Below.trod laidOut (by kernel_rfl) (of_decide_eq_true (by kernel_rfl)) k0 bel lt0) (trodAll_cons_mk (Below.trod laidOut (by kernel_rfl) (of_decide_eq_true (by kernel_rfl)) k1 bel lt1) trodAll_mk0)), vars_read1 enc gErr tErr Tryd.underlying93 (var_kept bel hpos hv) trivial _, bel.frame _, fun h => by cases h⟩

theorem fnOpsLess_row : Rows.FnOpsLessSaid :=
  OpenClaim.holds_of_wide 11 Tryd.f11 rfl rfl rfl rfl rfl rfl rfl ⟨rfl, rfl, rfl, rfl, rfl⟩ rfl rfl rfl rfl rfl (by kernel_rfl) Tryd.func11 (by kernel_rfl)
    (of_decide_eq_true (by kernel_rfl)) (by unfold Func.isWrapper; first | (rw [if_pos (by decide +kernel)]; kernel_rfl) | (rw [if_neg (by decide +kernel)]; exact ⟨rfl, rfl⟩))
    (fun os started H enc _ => liftedFnOpsLess os started H enc)

/-- THE STATEMENT. -/
theorem fnOpsLess_holds : Rows.FnOpsLessCardSaid :=
  Claim7.holds_tied_plain_at .later [] Rows.fnOpsLessCard.laidKinds true Rows.fnOpsLessCard.stood.harness true
    fnOpsLess_row (fun _ h => by cases h) (by kernel_rfl) (fun _ h => by cases h) fnOpsLess_row_tie rfl ⟨rfl, rfl⟩ (by kernel_rfl) rfl
    (fun f fn hf hfn => by
      obtain rfl : f = 11 := Option.some.inj ((show Tryd.prog.funcNamed Rows.fnOpsLessRow.func = some 11 by kernel_rfl).symm.trans hf) |>.symm
      obtain rfl : fn = Tryd.f11 := (Option.some.inj (Tryd.func11.symm.trans hfn)).symm
      exact ⟨by kernel_rfl, fun j t ht => by
        rw [Tryd.params11] at ht
        have hm : t ∈ [22, 22] := by simpa using Array.mem_of_getElem? ht
        have hall : ([22, 22].all fun u => !Tryd.prog.wantsStandIn u) = true := by kernel_rfl
        exact (show Tryd.prog.wantsStandIn t = false by simpa using List.all_eq_true.1 hall t hm)⟩)
    (by kernel_rfl)
#print axioms fnOpsLess_holds
end Go.Proofs.YtedanlmippfojaaDoor
