/-
  PROVED: What one did is there from the first thing on: of drawn things that are OpsOk each stands behind the one ahead, its own replica's one ahead is there, and what it refers to is nothing or a putting, whatever bytes they are drawn from (the given card of FnOpsBefore), for every input; the one listed variable, the program's error, reads as its own initialiser lays it (the given card of FnOpsBefore), for every input; the one listed variable, the program's error, reads as its own initialiser lays it.
-/
import Derived.Test.YtedanlmippfojaaDoorP3
import Derived.Test.YtedanlmippfojaaDoorP0
import Derived.Test.YtedanlmippfojaaDoorP4
import Derived.Test.YtedanlmippfojaaDoorP1
import Derived.Deep.RegionHeld3
import Derived.Test.YtedanlmippfojaaDoorRows
import Derived.WalkKit
import Derived.ProofKit
import Derived.OpenShut
import Derived.ChangeOld
import Derived.Below
import Derived.Lib.SmallJoins
import Derived.Stop.LaidErr
import Derived.LaidMore
import Derived.Stop.Joined
import Derived.Test.YtedanlmippfojaaDoorP2
import Derived.ChangeSlices
import Derived.Test.YtedanlmippfojaaDoorTie
import Derived.Test.YtedanlmippfojaaDoorCards
import Derived.SevenTiedAt
namespace Go.Proofs.YtedanlmippfojaaDoor
open Go.RowKit
set_option linter.unusedSimpArgs false
set_option linter.unusedVariables false
attribute [local go_sem ↓] Go.wp_at_zero Go.wp_at_succ

set_option maxRecDepth 100000 in
set_option maxHeartbeats 1000000 in
theorem drawOps_any (w : World) (p : Option Addr) (n cap : Nat) (h : ArgBytes w p n) (hcap : n ≤ cap) (hn : n ≤ 1048576) :
    Calls Tryd.prog 35 #[.slice p n cap] w fun e w' => ∃ G c m, e = .returned (.slice (some ⟨G, 0, none⟩) m c) ∧ SomeOps w' w.heap.size G c m 74 ∧ Below w.heap.size w w' := by
  have H := hideIt h
  clear h
  go_enter Tryd.func35, Tryd.ntmps35
  go_wp2_with fail
  refine (open_any _ p n cap H.out hcap hn).mono ?_
  rintro e w1 ⟨n', rfl, hR1, hb1⟩
  have HR1 := hideIt hR1
  have HB1 := hideIt hb1
  have hq1 := hR1.lt
  clear hR1 hb1
  go_wp2_with fail
  refine (l71Off_any _ _ p n' cap 0 HR1.out (by omega)).mono ?_
  rintro e w2 ⟨⟨G, c, m, rfl, hS2⟩, ⟨k2, hk2, hR2⟩, hO2⟩
  have HS2 := hideIt hS2
  have HR2 := hideIt hR2
  have HB2 := hideIt (HB1.out.trans hO2.below)
  clear hS2 hR2 hO2
  have hm74 : m ≤ 74 := by obtain ⟨L, h1, h2, h3⟩ := HS2.out; omega
  have hqW : w.heap.size ≤ w1.heap.size := by omega
  generalize hW1 : w1.heap.size = W1 at *
  generalize hWS : w.heap.size = q at *
  go_wp2_with fail
  refine (pick_any _ q p n' cap k2 5 HR2.out (by omega) (by omega) (by omega)).mono ?_
  rintro e w3 ⟨⟨x, hx0, hx1, rfl⟩, hR3, hO3⟩
  have HS3 := hideIt (HS2.out.only hO3 hq1)
  have HR3 := hideIt hR3
  have HB3 := hideIt (HB2.out.trans hO3.below)
  clear hR3 hO3
  by_cases hx : x = 0
  · subst hx
    by_cases hm1 : 1 < m
    · have hm1' : (1 : Int) < (m : Int) := by omega
      go_wp2_with fail
      refine (pick_any _ q p n' cap (k2 + 1) m HR3.out (by omega) (by omega) (by omega)).mono ?_
      rintro e w4 ⟨⟨y, hy0, hy1, rfl⟩, hR4, hO4⟩
      have HS4 := hideIt (HS3.out.only hO4 hq1)
      have HR4 := hideIt hR4
      have HB4 := hideIt (HB3.out.trans hO4.below)
      obtain ⟨k, rfl⟩ := Int.eq_ofNat_of_zero_le hy0
      have hkm : (k : Int) < (m : Int) := hy1
      clear hR4 hO4 HS3 HR3 HB3
      go_wp2_with fail
      refine (pick_any _ q p n' cap (k2 + 1 + 1) m HR4.out (by omega) (by omega) (by omega)).mono ?_
      rintro e w5 ⟨⟨z, hz0, hz1, rfl⟩, hR5, hO5⟩
      have HS5 := hideIt ((HS4.out.only hO5 hq1).base hqW)
      have HB5 := hideIt (HB4.out.trans hO5.below)
      obtain ⟨j, rfl⟩ := Int.eq_ofNat_of_zero_le hz0
      have hjm : (j : Int) < (m : Int) := hz1
      have hj0 : (0 : Int) ≤ (j : Int) := by omega
      have hk0 : (0 : Int) ≤ (k : Int) := by omega
      clear hR5 hO5 HS4 HR4 HB4
      obtain ⟨L, hLm, hL74, hOw⟩ := HS5.out
      have hkL : k < L.length := by omega
      have hjL : j < L.length := by omega
      obtain ⟨a0, a1, _⟩ := hOw.at.2 j L[j] (by simp [hjL])
      obtain ⟨_, _, _, b3, b4, _⟩ := hOw.at.2 k L[k] (by simp [hkL])
      have bf : ∀ i, w5.frozen? ⟨G, i, none⟩ = false := fun i => World.ownsRow.frozenAt hOw i
      have bl : G < w5.heap.size := hOw.at.1
      have HFIN : Hid (SomeOps ((w5.setCell ⟨G, k * 7 + 3, none⟩ (.int .i64 L[j].a)).setCell ⟨G, k * 7 + 4, none⟩ (.int .i64 L[j].b)) q G c m 74) := (HS5.out.turn (by omega) _).turn (by omega) _
      have hqG : q ≤ G := (World.ownsRow.lt hOw G rfl).1
      generalize L[j].a = va at *
      generalize L[j].b = vb at *
      generalize L[k].c = vc at *
      generalize L[k].d = vd at *
      clear hOw
      go_wp2_with fail
      go_ret
      rw [hWS]
      exact ⟨G, c, m, rfl, HFIN.out, ((by first | exact HB5.out | (rw [← hWS]; exact HB5.out) : Below q w w5).setCell (p := ⟨G, k * 7 + 3, none⟩) hqG _).setCell (p := ⟨G, k * 7 + 4, none⟩) hqG _⟩
    · have hm1' : ¬ (1 : Int) < (m : Int) := by omega
      go_wp2
      go_ret
      exact ⟨G, c, m, rfl, HS3.out.base (by omega), by first | exact HB3.out | (rw [← hWS] at HB3; exact HB3.out) | (rw [hWS]; exact HB3.out)⟩
  · go_wp2
    go_ret
    exact ⟨G, c, m, rfl, HS3.out.base (by omega), by first | exact HB3.out | (rw [← hWS] at HB3; exact HB3.out) | (rw [hWS]; exact HB3.out)⟩
end Go.Proofs.YtedanlmippfojaaDoor

namespace Go.Proofs.YtedanlmippfojaaDoor
open Go.RowKit
set_option linter.unusedSimpArgs false
set_option linter.unusedVariables false
attribute [local go_sem ↓] Go.wp_at_zero Go.wp_at_succ

set_option maxHeartbeats 400000 in
theorem known_any (l : List Op7) (g cap : Nat) (r m : Int) (w : World) (hl : OpsAt w g l) (hn : l.length ≤ 1048576) (hcap : l.length ≤ cap) :
    Calls Tryd.prog 39 #[.slice (some ⟨g, 0, none⟩) l.length cap, .agg #[.int .i64 r, .int .i64 m]] w fun e w' => e = .returned (.bool (decide (0 ≤ findI l r m))) ∧ Below w.heap.size w w' := by
  go_enter Tryd.func39, Tryd.ntmps39
  go_wp2
  go_loopw [5] (fun i wr => ∃ k : Nat, k ≤ l.length ∧ i = .int .i64 k ∧ (∀ j (hj : j < l.length), j < k → hasId r m l[j] = false) ∧ wr.cell? ⟨w.heap.size, 0, none⟩ = some (.int .i64 r) ∧ wr.cell? ⟨w.heap.size, 1, none⟩ = some (.int .i64 m) ∧ Below w.heap.size w wr)
    (fun i _ => l.length - (intOf i).toNat)
  case atStart => exact ⟨0, Nat.zero_le _, rfl, fun j hj h => by omega, by simp [go_sem], by simp [go_sem], by go_grown⟩
  case round =>
    obtain ⟨k, hk, rfl, hno, hr, hm, hB⟩ := hrel
    have HN : Hid (∀ j (hj : j < l.length), j < k → hasId r m l[j] = false) := hno
    have HB : Hid (Below w.heap.size w wr) := hB
    by_cases hlt : k < l.length
    · obtain ⟨h0, h1, _⟩ := (hl.below hB hl.1).2 k l[k] (by simp [hlt])
      have HX : Hid (hasId r m l[k] = (l[k].a == r && l[k].b == m)) := rfl
      generalize l[k].a = xa at h0 HX
      generalize l[k].b = xb at h1 HX
      have hlt' : (k : Int) < (l.length : Int) := by omega
      have hk0 : (0 : Int) ≤ (k : Int) := by omega
      clear hno hB hl
      have hnext : Hid (hasId r m l[k] = false → ∀ j (hj : j < l.length), j < k + 1 → hasId r m l[j] = false) := fun hf j hj hj1 => by
        rcases Nat.lt_or_ge j k with h | h
        · exact HN.out j hj h
        · obtain rfl : j = k := by omega
          exact hf
      by_cases hxa : xa = r
      · subst hxa
        by_cases hxb : xb = m
        · subst hxb
          have hfin : Hid (findI l xa xb = k) := findI_some hlt (by rw [HX.out]; simp) (fun j hj => HN.out j (by omega) hj)
          go_wp2
          go_quiet (fail)
          go_wp2
          go_ret
          exact ⟨by rw [hfin.out]; simp, below_drewN HB.out _⟩
        · have hf : Hid (hasId xa m l[k] = false) := by show hasId xa m l[k] = false; rw [HX.out]; simp [hxb]
          go_wp2
          go_quiet (fail)
          go_wp2
          exact ⟨⟨k + 1, by omega, by go_num, hnext.out hf.out, by simpa using hr, by simpa using hm, below_drewN HB.out _⟩, by simp [intOf]; omega⟩
      · have hf : Hid (hasId r m l[k] = false) := by show hasId r m l[k] = false; rw [HX.out]; simp [hxa]
        go_wp2
        go_quiet (fail)
        go_wp2
        exact ⟨⟨k + 1, by omega, by go_num, hnext.out hf.out, by simpa using hr, by simpa using hm, below_drewN HB.out _⟩, by simp [intOf]; omega⟩
    · clear hno hB hl
      go_wp2
      go_ret
      exact ⟨(by rw [findI_none]; rfl; intro o ho; obtain ⟨j, hj, rfl⟩ := List.getElem_of_mem ho; exact HN.out j hj (by omega)), HB.out⟩
end Go.Proofs.YtedanlmippfojaaDoor

namespace Go.Proofs.YtedanlmippfojaaDoor
open Go.RowKit
set_option linter.unusedSimpArgs false
set_option linter.unusedVariables false
attribute [local go_sem ↓] Go.wp_at_zero Go.wp_at_succ

/-- Of what is ok each is ok, the one ahead of it of its own replica is there, and what it refers to is nothing or a putting. -/
theorem bef_ok {L : List Op7} (h : opsB L = true) {j : Nat} (hj : j < L.length) : okO L[j] = true ∧ (1 < L[j].b → 0 ≤ findI L L[j].a (L[j].b - 1)) ∧
    ((L[j].c = 0 ∧ L[j].d = 0) ∨ (¬ (L[j].c = 0 ∧ L[j].d = 0) ∧ ∃ (k : Nat) (p : Op7), findI L L[j].c L[j].d = k ∧ k < L.length ∧ L[k]? = some p ∧ p.k = 1)) := by
  obtain ⟨hok, hord, href, _⟩ := opsB_all h
  refine ⟨all_iff.1 hok j hj, fun hb => ?_, ?_⟩
  · obtain ⟨q, hq, h1, h2⟩ := ord_prev hok hord _ (List.getElem_mem hj) hb
    obtain ⟨i, hi, _⟩ := find_at h hq
    rw [h1, h2] at hi
    omega
  · have hr := all_iff.1 href j hj
    unfold refsB at hr
    by_cases hz : L[j].c = 0 ∧ L[j].d = 0
    · exact .inl hz
    · refine .inr ⟨hz, ?_⟩
      have hn : noB L[j].c L[j].d = false := by
        cases hb : noB L[j].c L[j].d
        · rfl
        · exact absurd (by simpa [noB] using hb) hz
      rw [hn] at hr
      cases hx : nextO L L[j] with
      | none => rw [hx] at hr; simp at hr
      | some p =>
        rw [hx] at hr
        obtain ⟨hm, h1, h2⟩ := next_mem hx
        obtain ⟨i, hi, hl, he⟩ := find_at h hm
        rw [h1, h2] at hi
        exact ⟨i, p, hi, hl, he, by simpa using hr⟩
theorem bef_less {L : List Op7} (h : opsB L = true) {j : Nat} (hj : j + 1 < L.length) : L[j].a < L[j + 1].a ∨ (L[j].a = L[j + 1].a ∧ L[j].b < L[j + 1].b) := by
  obtain ⟨hok, hord, _⟩ := opsB_all h
  have hs := ord_iff.1 hord (j + 1) hj
  rw [step_succ hj] at hs
  have := of_decide_eq_true hs
  omega
/-- Things of one's own. -/
structure LBf (w : World) (G c : Nat) (L : List Op7) (W : World) : Prop where
  own : OwnOps W w.heap.size G c L
  bel : Below w.heap.size w W
theorem LBf.below {w W W' : World} {G c : Nat} {L : List Op7} (h : LBf w G c L W) (hb : Below W.heap.size W W') : LBf w G c L W' := ⟨h.own.below hb, Bstep h.bel hb⟩
theorem layS {w W : World} {G c j : Nat} {L : List Op7} {o : Op7} (hj : L[j]? = some o) (h : LBf w G c L W) : W.cell? ⟨G, j * 7, none⟩ = some (.int .i64 o.a) ∧ W.cell? ⟨G, j * 7 + 1, none⟩ = some (.int .i64 o.b) ∧ W.cell? ⟨G, j * 7 + 2, none⟩ = some (.int .i64 o.k) ∧ W.cell? ⟨G, j * 7 + 3, none⟩ = some (.int .i64 o.c) ∧ W.cell? ⟨G, j * 7 + 4, none⟩ = some (.int .i64 o.d) ∧ W.cell? ⟨G, j * 7 + 5, none⟩ = some (.int .i64 o.s) ∧ W.cell? ⟨G, j * 7 + 6, none⟩ = some (.int .i64 o.g) ∧ LBf w G c L W := by
  obtain ⟨h0, h1, h2, h3, h4, h5, h6⟩ := h.own.at.2 j o hj
  exact ⟨h0, h1, h2, h3, h4, h5, h6, h⟩
theorem restS {w W : World} {G c j : Nat} {L : List Op7} {o : Op7} (h : W.cell? ⟨G, j * 7, none⟩ = some (.int .i64 o.a) ∧ W.cell? ⟨G, j * 7 + 1, none⟩ = some (.int .i64 o.b) ∧ W.cell? ⟨G, j * 7 + 2, none⟩ = some (.int .i64 o.k) ∧ W.cell? ⟨G, j * 7 + 3, none⟩ = some (.int .i64 o.c) ∧ W.cell? ⟨G, j * 7 + 4, none⟩ = some (.int .i64 o.d) ∧ W.cell? ⟨G, j * 7 + 5, none⟩ = some (.int .i64 o.s) ∧ W.cell? ⟨G, j * 7 + 6, none⟩ = some (.int .i64 o.g) ∧ LBf w G c L W) : LBf w G c L W := h.2.2.2.2.2.2.2
theorem restS2 {w W : World} {G c j i : Nat} {L : List Op7} {o p : Op7} (h : W.cell? ⟨G, i * 7, none⟩ = some (.int .i64 p.a) ∧ W.cell? ⟨G, i * 7 + 1, none⟩ = some (.int .i64 p.b) ∧ W.cell? ⟨G, j * 7, none⟩ = some (.int .i64 o.a) ∧ W.cell? ⟨G, j * 7 + 1, none⟩ = some (.int .i64 o.b) ∧ W.cell? ⟨G, j * 7 + 2, none⟩ = some (.int .i64 o.k) ∧ W.cell? ⟨G, j * 7 + 3, none⟩ = some (.int .i64 o.c) ∧ W.cell? ⟨G, j * 7 + 4, none⟩ = some (.int .i64 o.d) ∧ W.cell? ⟨G, j * 7 + 5, none⟩ = some (.int .i64 o.s) ∧ W.cell? ⟨G, j * 7 + 6, none⟩ = some (.int .i64 o.g) ∧ LBf w G c L W) : LBf w G c L W := restS h.2.2
theorem restS3 {w W : World} {G c j k : Nat} {L : List Op7} {o : Op7} (h : W.cell? ⟨G, k * 7 + 2, none⟩ = some (.int .i64 1) ∧ W.cell? ⟨G, j * 7, none⟩ = some (.int .i64 o.a) ∧ W.cell? ⟨G, j * 7 + 1, none⟩ = some (.int .i64 o.b) ∧ W.cell? ⟨G, j * 7 + 2, none⟩ = some (.int .i64 o.k) ∧ W.cell? ⟨G, j * 7 + 3, none⟩ = some (.int .i64 o.c) ∧ W.cell? ⟨G, j * 7 + 4, none⟩ = some (.int .i64 o.d) ∧ W.cell? ⟨G, j * 7 + 5, none⟩ = some (.int .i64 o.s) ∧ W.cell? ⟨G, j * 7 + 6, none⟩ = some (.int .i64 o.g) ∧ LBf w G c L W) : LBf w G c L W := restS h.2
theorem layS2 {w W : World} {G c j i : Nat} {L : List Op7} {o p : Op7} (hj : L[j]? = some o) (hi : L[i]? = some p) (h : LBf w G c L W) : W.cell? ⟨G, i * 7, none⟩ = some (.int .i64 p.a) ∧ W.cell? ⟨G, i * 7 + 1, none⟩ = some (.int .i64 p.b) ∧ W.cell? ⟨G, j * 7, none⟩ = some (.int .i64 o.a) ∧ W.cell? ⟨G, j * 7 + 1, none⟩ = some (.int .i64 o.b) ∧ W.cell? ⟨G, j * 7 + 2, none⟩ = some (.int .i64 o.k) ∧ W.cell? ⟨G, j * 7 + 3, none⟩ = some (.int .i64 o.c) ∧ W.cell? ⟨G, j * 7 + 4, none⟩ = some (.int .i64 o.d) ∧ W.cell? ⟨G, j * 7 + 5, none⟩ = some (.int .i64 o.s) ∧ W.cell? ⟨G, j * 7 + 6, none⟩ = some (.int .i64 o.g) ∧ LBf w G c L W :=
  ⟨(h.own.at.2 i p hi).1, (h.own.at.2 i p hi).2.1, layS hj h⟩
theorem layS3 {w W : World} {G c j k : Nat} {L : List Op7} {o p : Op7} (hj : L[j]? = some o) (hk : L[k]? = some p) (hp : p.k = 1) (h : LBf w G c L W) : W.cell? ⟨G, k * 7 + 2, none⟩ = some (.int .i64 1) ∧ W.cell? ⟨G, j * 7, none⟩ = some (.int .i64 o.a) ∧ W.cell? ⟨G, j * 7 + 1, none⟩ = some (.int .i64 o.b) ∧ W.cell? ⟨G, j * 7 + 2, none⟩ = some (.int .i64 o.k) ∧ W.cell? ⟨G, j * 7 + 3, none⟩ = some (.int .i64 o.c) ∧ W.cell? ⟨G, j * 7 + 4, none⟩ = some (.int .i64 o.d) ∧ W.cell? ⟨G, j * 7 + 5, none⟩ = some (.int .i64 o.s) ∧ W.cell? ⟨G, j * 7 + 6, none⟩ = some (.int .i64 o.g) ∧ LBf w G c L W :=
  ⟨(h.own.at.2 k p hk).2.2.1.trans (by rw [hp]), layS hj h⟩

set_option maxRecDepth 100000 in
set_option maxHeartbeats 8000000 in
theorem walkOpsBefore (w : World) (p : Option Addr) (n cap : Nat) (h : ArgBytes w p n) (hcap : n ≤ cap) (hmax : cap ≤ maxLen) (x : Addr)
    (he : w.cell? ⟨0, 0, none⟩ = some (.iface 203 (.pointer (some x)))) (h0 : 0 < w.heap.size) :
    Calls Tryd.prog 10 #[.slice p n cap] w fun e w' => e = .returned (.bool true) ∧ Below w.heap.size w w' := by
  have H := hideIt h
  clear h
  unfold maxLen at *
  by_cases hn : n ≤ 1048576
  · · go_enter Tryd.func10, Tryd.ntmps10
      go_wp2_with fail
      refine (drawOps_any _ p n cap H.out hcap hn).mono ?_
      rintro e w1 ⟨G, c, _, rfl, ⟨L, rfl, hL, hS⟩, hb1⟩
      have HS := hideIt hS
      have HB := hideIt hb1
      clear hS hb1
      go_wp2_with fail
      refine (implOps_any L G c x _ HS.out.at (by omega) HS.out.cap (errB HB.out h0 he) (posB HB.out h0)).mono ?_
      rintro e w2 ⟨rfl, hb2⟩
      rw [th_same]
      have HS := hideIt (HS.out.below hb2)
      have HB := hideIt (Bstep HB.out hb2)
      clear hb2
      cases ho : opsB L
      · have HO := hideIt ho
        clear ho
        go_wp2_with (first
          | (go_at_call 22; refine (specOps_any L G c _ HS.out.at (by omega) HS.out.cap).mono ?_; rintro e w3 ⟨rfl, hb3⟩; rw [HO.out]; have HS := hideIt (HS.out.below hb3); have HB := hideIt (Bstep HB.out hb3); clear hb3))
        go_ret
        exact ⟨rfl, HB.out⟩
      · have HO := hideIt ho
        clear ho
        go_wp2_with fail
        refine (specOps_any L G c _ HS.out.at (by omega) HS.out.cap).mono ?_
        rintro e w3 ⟨rfl, hb3⟩
        rw [HO.out]
        have HS := hideIt (HS.out.below hb3)
        have HB := hideIt (Bstep HB.out hb3)
        have hcl : L.length ≤ c := HS.out.cap
        have hll : L.length ≤ 1048576 := by omega
        clear hb3
        go_wp2_with fail
        go_loopw [5] (fun i wr => ∃ j : Nat, j ≤ L.length ∧ i = .int .i64 j ∧ LBf w G c L wr)
          (fun i _ => L.length - (intOf i).toNat)
        case atStart => exact ⟨0, Nat.zero_le _, rfl, HS.out, HB.out⟩
        case round =>
          clear HS HB
          obtain ⟨j, hj, rfl, hW⟩ := hrel
          have HW := hideIt hW
          clear hW
          by_cases hlt : j < L.length
          · have hlt' : (j : Int) < (L.length : Int) := by omega
            have hj0 : (0 : Int) ≤ (j : Int) := by omega
            have hpj : L[j]? = some L[j] := by simp [hlt]
            have HJ1 : Hid (IntKind.i64.wrap ((j : Int) + 1) = (((j + 1 : Nat) : Nat) : Int)) := (IntWalk.i64_in _ ⟨by omega, by omega⟩)
            obtain ⟨hok, hkn, hrf⟩ := bef_ok HO.out hlt
            have hid := okO_id hok
            have HLE : Hid (∀ i, j = i + 1 → ∃ p, L[i]? = some p ∧ (p.a < L[j].a ∨ (p.a = L[j].a ∧ p.b < L[j].b))) := fun i hi => by
              subst hi
              exact ⟨L[i], by simp, bef_less HO.out hlt⟩
            obtain ⟨o, hoe⟩ : ∃ o, L[j] = o := ⟨_, rfl⟩
            rw [hoe] at hpj hok hkn hrf hid HLE
            clear hoe
            have HOK : Hid (opB o.a o.b o.k o.c o.d o.s o.g = true) := hok
            have HFB : Hid (findB L o.c o.d = findI L o.c o.d) := by show findB _ _ _ = _; unfold findB; rw [if_pos HO.out]
            have HRF := hideIt hrf
            have HKN := hideIt hkn
            obtain ⟨fv, hfv⟩ : ∃ fv, findI L o.c o.d = fv := ⟨_, rfl⟩
            have HFV := hideIt hfv
            have HFB : Hid (findB L o.c o.d = fv) := HFB.out.trans hfv
            clear hfv
            clear hok hkn hrf
            by_cases hz : j = 0
            · have hjz : ¬ 0 < j := by omega
              clear hz HLE
              have HSd := hideIt (layS hpj (HW.out.below ((Below.refl _ _).drew)))
              go_wp2_with fail
              refine wp_region_held_drew (S := fun W' => W'.cell? ⟨G, j * 7, none⟩ = some (.int .i64 o.a) ∧ W'.cell? ⟨G, j * 7 + 1, none⟩ = some (.int .i64 o.b) ∧ W'.cell? ⟨G, j * 7 + 2, none⟩ = some (.int .i64 o.k) ∧ W'.cell? ⟨G, j * 7 + 3, none⟩ = some (.int .i64 o.c) ∧ W'.cell? ⟨G, j * 7 + 4, none⟩ = some (.int .i64 o.d) ∧ W'.cell? ⟨G, j * 7 + 5, none⟩ = some (.int .i64 o.s) ∧ W'.cell? ⟨G, j * 7 + 6, none⟩ = some (.int .i64 o.g) ∧ LBf w G c L W') (by kernel_rfl) HSd.out (fun hHeld => ?_)
              try dsimp only at hHeld
              refine wpAnyH_take (i := 0) (oi := { dst := some 32, op := Op.move (Operand.tmp 5), type := 3, pos := "laws.go:80", after := #[], guard := none }) (v := ?_) rfl (by kernel_rfl) (by kernel_rfl) (by kernel_rfl) (fun _ _ _ h => h) (Or.inl ⟨by rfl, ?_⟩) (by with_reducible assumption) ?_
              rotate_left
              · (intro wq hSw; (try dsimp only at hSw); go_simp; try with_reducible rfl)
              try simp only [Act.put, List.setIfInBounds_toArray, List.set_cons_zero, List.set_cons_succ]
              refine wpAnyH_take (i := 1) (oi := { dst := some 33, op := Op.binOp BinOp.gtr 3 (Operand.tmp 32) (Operand.const (Value.int IntKind.i64 0)) 3, type := 4, pos := "laws.go:80", after := #[{ on := 0, ground := Ground.data }], guard := none }) (v := .bool false) rfl (by kernel_rfl) (by kernel_rfl) (by kernel_rfl) (fun _ _ _ h => h) (Or.inl ⟨by rfl, (fun wq _ => by go_simp <;> first | (simp [*]; done) | (simp; omega) | omega)⟩) (by with_reducible assumption) ?_
              try simp only [Act.put, List.setIfInBounds_toArray, List.set_cons_zero, List.set_cons_succ]
              refine wpAnyH_take (i := 2) (oi := { dst := some 34, op := Op.move (Operand.tmp 33), type := 4, pos := "laws.go:80", after := #[{ on := 1, ground := Ground.data }], guard := none }) (v := .bool false) rfl (by kernel_rfl) (by kernel_rfl) (by kernel_rfl) (fun _ _ _ h => h) (Or.inl ⟨by rfl, (fun wq _ => by go_simp <;> first | (simp [*]; done) | (simp; omega) | omega)⟩) (by with_reducible assumption) ?_
              try simp only [Act.put, List.setIfInBounds_toArray, List.set_cons_zero, List.set_cons_succ]
              refine wpAnyH_take (i := 3) (oi := { dst := some 35, op := Op.move (Operand.tmp 3), type := 23, pos := "laws.go:80", after := #[{ on := 2, ground := Ground.guard }], guard := some (2, true) }) (v := undef) rfl (by kernel_rfl) (by kernel_rfl) (by kernel_rfl) (fun _ _ _ h => h) (Or.inr ⟨by rfl, rfl⟩) (by with_reducible assumption) ?_
              try simp only [Act.put, List.setIfInBounds_toArray, List.set_cons_zero, List.set_cons_succ]
              refine wpAnyH_take (i := 4) (oi := { dst := some 36, op := Op.move (Operand.tmp 5), type := 3, pos := "laws.go:80", after := #[{ on := 2, ground := Ground.guard }], guard := some (2, true) }) (v := undef) rfl (by kernel_rfl) (by kernel_rfl) (by kernel_rfl) (fun _ _ _ h => h) (Or.inr ⟨by rfl, rfl⟩) (by with_reducible assumption) ?_
              try simp only [Act.put, List.setIfInBounds_toArray, List.set_cons_zero, List.set_cons_succ]
              refine wpAnyH_take (i := 5) (oi := { dst := some 37, op := Op.binOp BinOp.sub 3 (Operand.tmp 36) (Operand.const (Value.int IntKind.i64 1)) 3, type := 3, pos := "laws.go:80", after := #[{ on := 4, ground := Ground.data }, { on := 2, ground := Ground.guard }], guard := some (2, true) }) (v := undef) rfl (by kernel_rfl) (by kernel_rfl) (by kernel_rfl) (fun _ _ _ h => h) (Or.inr ⟨by rfl, rfl⟩) (by with_reducible assumption) ?_
              try simp only [Act.put, List.setIfInBounds_toArray, List.set_cons_zero, List.set_cons_succ]
              refine wpAnyH_take (i := 6) (oi := { dst := some 38, op := Op.indexAddr 23 (Operand.tmp 35) (Operand.tmp 37), type := 0, pos := "laws.go:80", after := #[{ on := 3, ground := Ground.data }, { on := 5, ground := Ground.data }, { on := 2, ground := Ground.guard }], guard := some (2, true) }) (v := undef) rfl (by kernel_rfl) (by kernel_rfl) (by kernel_rfl) (fun _ _ _ h => h) (Or.inr ⟨by rfl, rfl⟩) (by with_reducible assumption) ?_
              try simp only [Act.put, List.setIfInBounds_toArray, List.set_cons_zero, List.set_cons_succ]
              refine wpAnyH_take (i := 7) (oi := { dst := some 39, op := Op.fieldAddr 29 (Operand.tmp 38) 0, type := 0, pos := "laws.go:80", after := #[{ on := 6, ground := Ground.data }, { on := 2, ground := Ground.guard }], guard := some (2, true) }) (v := undef) rfl (by kernel_rfl) (by kernel_rfl) (by kernel_rfl) (fun _ _ _ h => h) (Or.inr ⟨by rfl, rfl⟩) (by with_reducible assumption) ?_
              try simp only [Act.put, List.setIfInBounds_toArray, List.set_cons_zero, List.set_cons_succ]
              refine wpAnyH_take (i := 8) (oi := { dst := some 40, op := Op.load 27 (Operand.tmp 39), type := 27, pos := "laws.go:80", after := #[{ on := 7, ground := Ground.data }, { on := 2, ground := Ground.guard }], guard := some (2, true) }) (v := undef) rfl (by kernel_rfl) (by kernel_rfl) (by kernel_rfl) (fun _ _ _ h => h) (Or.inr ⟨by rfl, rfl⟩) (by with_reducible assumption) ?_
              try simp only [Act.put, List.setIfInBounds_toArray, List.set_cons_zero, List.set_cons_succ]
              refine wpAnyH_take (i := 9) (oi := { dst := some 41, op := Op.move (Operand.tmp 3), type := 23, pos := "laws.go:80", after := #[{ on := 2, ground := Ground.guard }], guard := some (2, true) }) (v := undef) rfl (by kernel_rfl) (by kernel_rfl) (by kernel_rfl) (fun _ _ _ h => h) (Or.inr ⟨by rfl, rfl⟩) (by with_reducible assumption) ?_
              try simp only [Act.put, List.setIfInBounds_toArray, List.set_cons_zero, List.set_cons_succ]
              refine wpAnyH_take (i := 10) (oi := { dst := some 42, op := Op.move (Operand.tmp 5), type := 3, pos := "laws.go:80", after := #[{ on := 2, ground := Ground.guard }], guard := some (2, true) }) (v := undef) rfl (by kernel_rfl) (by kernel_rfl) (by kernel_rfl) (fun _ _ _ h => h) (Or.inr ⟨by rfl, rfl⟩) (by with_reducible assumption) ?_
              try simp only [Act.put, List.setIfInBounds_toArray, List.set_cons_zero, List.set_cons_succ]
              refine wpAnyH_take (i := 11) (oi := { dst := some 43, op := Op.indexAddr 23 (Operand.tmp 41) (Operand.tmp 42), type := 0, pos := "laws.go:80", after := #[{ on := 9, ground := Ground.data }, { on := 10, ground := Ground.data }, { on := 2, ground := Ground.guard }], guard := some (2, true) }) (v := undef) rfl (by kernel_rfl) (by kernel_rfl) (by kernel_rfl) (fun _ _ _ h => h) (Or.inr ⟨by rfl, rfl⟩) (by with_reducible assumption) ?_
              try simp only [Act.put, List.setIfInBounds_toArray, List.set_cons_zero, List.set_cons_succ]
              refine wpAnyH_take (i := 12) (oi := { dst := some 44, op := Op.fieldAddr 29 (Operand.tmp 43) 0, type := 0, pos := "laws.go:80", after := #[{ on := 11, ground := Ground.data }, { on := 2, ground := Ground.guard }], guard := some (2, true) }) (v := undef) rfl (by kernel_rfl) (by kernel_rfl) (by kernel_rfl) (fun _ _ _ h => h) (Or.inr ⟨by rfl, rfl⟩) (by with_reducible assumption) ?_
              try simp only [Act.put, List.setIfInBounds_toArray, List.set_cons_zero, List.set_cons_succ]
              refine wpAnyH_take (i := 13) (oi := { dst := some 45, op := Op.load 27 (Operand.tmp 44), type := 27, pos := "laws.go:80", after := #[{ on := 12, ground := Ground.data }, { on := 2, ground := Ground.guard }], guard := some (2, true) }) (v := undef) rfl (by kernel_rfl) (by kernel_rfl) (by kernel_rfl) (fun _ _ _ h => h) (Or.inr ⟨by rfl, rfl⟩) (by with_reducible assumption) ?_
              try simp only [Act.put, List.setIfInBounds_toArray, List.set_cons_zero, List.set_cons_succ]
              refine wpAnyH_take (i := 14) (oi := { dst := some 46, op := Op.call { callee := Callee.value (Operand.func 37), args := #[Operand.tmp 40, Operand.tmp 45], argTypes := #[27, 27] }, type := 4, pos := "laws.go:80", after := #[{ on := 8, ground := Ground.data }, { on := 13, ground := Ground.data }, { on := 2, ground := Ground.chain }, { on := 2, ground := Ground.guard }], guard := some (2, true) }) (v := undef) rfl (by kernel_rfl) (by kernel_rfl) (by kernel_rfl) (fun _ _ _ h => h) (Or.inr ⟨by rfl, rfl⟩) (by with_reducible assumption) ?_
              try simp only [Act.put, List.setIfInBounds_toArray, List.set_cons_zero, List.set_cons_succ]
              refine wpAnyH_take (i := 15) (oi := { dst := some 47, op := Op.unOp UnOp.not 4 (Operand.tmp 46), type := 4, pos := "laws.go:80", after := #[{ on := 14, ground := Ground.data }, { on := 2, ground := Ground.guard }], guard := some (2, true) }) (v := undef) rfl (by kernel_rfl) (by kernel_rfl) (by kernel_rfl) (fun _ _ _ h => h) (Or.inr ⟨by rfl, rfl⟩) (by with_reducible assumption) ?_
              try simp only [Act.put, List.setIfInBounds_toArray, List.set_cons_zero, List.set_cons_succ]
              refine wpAnyH_take (i := 16) (oi := { dst := some 48, op := Op.pick (Operand.tmp 34) (Operand.tmp 47) (Operand.const (Value.bool false)), type := 4, pos := "laws.go:80", after := #[{ on := 2, ground := Ground.data }, { on := 15, ground := Ground.data }], guard := none }) (v := ?_) rfl (by kernel_rfl) (by kernel_rfl) (by kernel_rfl) (fun _ _ _ h => h) (Or.inl ⟨by rfl, ?_⟩) (by with_reducible assumption) ?_
              rotate_left
              · (intro wq hSw; (try dsimp only at hSw); go_simp; try with_reducible rfl)
              try simp only [Act.put, List.setIfInBounds_toArray, List.set_cons_zero, List.set_cons_succ]
              refine wpAnyH_take (i := 17) (oi := { dst := some 49, op := Op.move (Operand.tmp 48), type := 4, pos := "laws.go:80", after := #[{ on := 16, ground := Ground.data }, { on := 14, ground := Ground.chain }], guard := none }) (v := ?_) rfl (by kernel_rfl) (by kernel_rfl) (by kernel_rfl) (fun _ _ _ h => h) (Or.inl ⟨by rfl, ?_⟩) (by with_reducible assumption) ?_
              rotate_left
              · (intro wq hSw; (try dsimp only at hSw); go_simp; try with_reducible rfl)
              try simp only [Act.put, List.setIfInBounds_toArray, List.set_cons_zero, List.set_cons_succ]
              refine wpAnyH_take (i := 18) (oi := { dst := some 50, op := Op.move (Operand.tmp 3), type := 23, pos := "laws.go:80", after := #[{ on := 17, ground := Ground.guard }], guard := some (17, false) }) (v := ?_) rfl (by kernel_rfl) (by kernel_rfl) (by kernel_rfl) (fun _ _ _ h => h) (Or.inl ⟨by rfl, ?_⟩) (by with_reducible assumption) ?_
              rotate_left
              · (intro wq hSw; (try dsimp only at hSw); go_simp; try with_reducible rfl)
              try simp only [Act.put, List.setIfInBounds_toArray, List.set_cons_zero, List.set_cons_succ]
              refine wpAnyH_take (i := 19) (oi := { dst := some 51, op := Op.move (Operand.tmp 5), type := 3, pos := "laws.go:80", after := #[{ on := 17, ground := Ground.guard }], guard := some (17, false) }) (v := ?_) rfl (by kernel_rfl) (by kernel_rfl) (by kernel_rfl) (fun _ _ _ h => h) (Or.inl ⟨by rfl, ?_⟩) (by with_reducible assumption) ?_
              rotate_left
              · (intro wq hSw; (try dsimp only at hSw); go_simp; try with_reducible rfl)
              try simp only [Act.put, List.setIfInBounds_toArray, List.set_cons_zero, List.set_cons_succ]
              refine wpAnyH_take (i := 20) (oi := { dst := some 52, op := Op.indexAddr 23 (Operand.tmp 50) (Operand.tmp 51), type := 0, pos := "laws.go:80", after := #[{ on := 18, ground := Ground.data }, { on := 19, ground := Ground.data }, { on := 17, ground := Ground.guard }], guard := some (17, false) }) (v := ?_) rfl (by kernel_rfl) (by kernel_rfl) (by kernel_rfl) (fun _ _ _ h => h) (Or.inl ⟨by rfl, ?_⟩) (by with_reducible assumption) ?_
              rotate_left
              · (intro wq hSw; (try dsimp only at hSw); go_simp; try with_reducible rfl)
              try simp only [Act.put, List.setIfInBounds_toArray, List.set_cons_zero, List.set_cons_succ]
              refine wpAnyH_take (i := 21) (oi := { dst := some 53, op := Op.load 29 (Operand.tmp 52), type := 29, pos := "laws.go:80", after := #[{ on := 20, ground := Ground.data }, { on := 17, ground := Ground.guard }], guard := some (17, false) }) (v := ?_) rfl (by kernel_rfl) (by kernel_rfl) (by kernel_rfl) (fun _ _ _ h => h) (Or.inl ⟨by rfl, ?_⟩) (by with_reducible assumption) ?_
              rotate_left
              · (intro wq hSw; (try dsimp only at hSw); go_simp; try with_reducible rfl)
              try simp only [Act.put, List.setIfInBounds_toArray, List.set_cons_zero, List.set_cons_succ]
              refine wpAnyH_ready (rs := [22]) (by kernel_rfl) (by simp) ?_
              refine AllReadyH.cons (o := { dst := some 54, op := Op.call { callee := Callee.value (Operand.func 38), args := #[Operand.tmp 53], argTypes := #[29] }, type := 4, pos := "laws.go:80", after := #[{ on := 21, ground := Ground.data }, { on := 17, ground := Ground.chain }, { on := 17, ground := Ground.guard }], guard := some (17, false) }) rfl (fun K hK => ?_) AllReadyH.nil
              go_simp
              go_wp2_with (first | (go_at_call 38; refine (implOp_any _ _ _ _ _ _ _ x _ (errB (LBf.bel (restS (j := j) (o := o) HSd.out)) h0 he) (posB (LBf.bel (restS (j := j) (o := o) HSd.out)) h0)).mono ?_; rintro e w8 ⟨rfl, hb2⟩; rw [HOK.out]))
              have hS := layS hpj ((restS (j := j) (o := o) HSd.out).below hb2)
              have HW8 := hideIt (restS (j := j) (o := o) hS)
              clear hb2 hHeld
              refine hK.out _ _ (by with_reducible assumption) (fun hHeld => ?_)
              clear hK K hHeld
              try simp only [Act.put, List.setIfInBounds_toArray, List.set_cons_zero, List.set_cons_succ]
              refine wpAnyH_take (i := 23) (oi := { dst := some 55, op := Op.unOp UnOp.not 4 (Operand.tmp 54), type := 4, pos := "laws.go:80", after := #[{ on := 22, ground := Ground.data }, { on := 17, ground := Ground.guard }], guard := some (17, false) }) (v := ?_) rfl (by kernel_rfl) (by kernel_rfl) (by kernel_rfl) (fun _ _ _ h => h) (Or.inl ⟨by rfl, ?_⟩) (by with_reducible assumption) ?_
              rotate_left
              · (intro wq hSw; (try dsimp only at hSw); go_simp; try with_reducible rfl)
              try simp only [Act.put, List.setIfInBounds_toArray, List.set_cons_zero, List.set_cons_succ]
              refine wpAnyH_take (i := 24) (oi := { dst := some 56, op := Op.pick (Operand.tmp 49) (Operand.const (Value.bool true)) (Operand.tmp 55), type := 4, pos := "laws.go:80", after := #[{ on := 17, ground := Ground.data }, { on := 23, ground := Ground.data }], guard := none }) (v := ?_) rfl (by kernel_rfl) (by kernel_rfl) (by kernel_rfl) (fun _ _ _ h => h) (Or.inl ⟨by rfl, ?_⟩) (by with_reducible assumption) ?_
              rotate_left
              · (intro wq hSw; (try dsimp only at hSw); go_simp; try with_reducible rfl)
              try simp only [Act.put, List.setIfInBounds_toArray, List.set_cons_zero, List.set_cons_succ]
              refine wpAnyH_done (by kernel_rfl) ?_ _
              clear HW HSd
              have HW := HW8
              clear HW8
              by_cases hb1 : 1 < o.b
              · have HKN : Hid (decide (0 ≤ findI L o.a (o.b - 1)) = true) := decide_eq_true (HKN.out hb1)
                have hw1 : IntKind.i64.wrap (o.b - 1) = o.b - 1 := IntWalk.i64_in _ ⟨by omega, by omega⟩
                have HS0 := hideIt (layS hpj HW.out)
                have HSd := hideIt (layS hpj (HW.out.below ((Below.refl _ _).drew)))
                go_wp2_with fail
                go_region_held3 (fun W' => W'.cell? ⟨G, j * 7, none⟩ = some (.int .i64 o.a) ∧ W'.cell? ⟨G, j * 7 + 1, none⟩ = some (.int .i64 o.b) ∧ W'.cell? ⟨G, j * 7 + 2, none⟩ = some (.int .i64 o.k) ∧ W'.cell? ⟨G, j * 7 + 3, none⟩ = some (.int .i64 o.c) ∧ W'.cell? ⟨G, j * 7 + 4, none⟩ = some (.int .i64 o.d) ∧ W'.cell? ⟨G, j * 7 + 5, none⟩ = some (.int .i64 o.s) ∧ W'.cell? ⟨G, j * 7 + 6, none⟩ = some (.int .i64 o.g) ∧ LBf w G c L W')
                  (first | with_reducible assumption | with_reducible exact HSd.out | with_reducible exact HS0.out | exact layS hpj ((restS (j := j) (o := o) (by with_reducible assumption)).below hb2))
                  (first
                    | (go_at_call 39; with_reducible refine (known_any L G c o.a (o.b - 1) _ (OwnOps.at (LBf.own (restS (j := j) (o := o) (by with_reducible assumption) : LBf w G c L _))) hll hcl).mono ?_; rintro e w8 ⟨rfl, hb2⟩; rw [HKN.out]))
                rename_i hS
                have HW := hideIt (restS (j := j) (o := o) hS)
                clear hS HS0 HSd
                obtain ⟨z0, z1, z2, z3, z4, z5, z6, _⟩ := layS hpj HW.out
                go_wp2_with fail
                refine (implFind_any L G c o.c o.d x _ HW.out.own.at hll hcl (errB HW.out.bel h0 he) (posB HW.out.bel h0)).mono ?_
                rintro e w8 ⟨rfl, hb2⟩
                rw [HFB.out]
                have HW := hideIt (HW.out.below hb2)
                clear hb2 z0 z1 z2 z3 z4 z5 z6
                rcases HRF.out with ⟨hc0, hd0⟩ | ⟨hcd, k, p, hfk, hkl, hpk, hk1⟩
                · obtain ⟨z0, z1, z2, z3, z4, z5, z6, _⟩ := layS hpj HW.out
                  rw [hc0] at z3
                  rw [hd0] at z4
                  go_wp2_with fail
                  all_goals exact ⟨⟨j + 1, by omega, by first | rfl | simp, HW.out⟩, by simp [intOf]; omega⟩
                · have hfk := HFV.out.symm.trans hfk
                  subst hfk
                  have hkl' : (k : Int) < (L.length : Int) := by omega
                  have hk0 : (0 : Int) ≤ (k : Int) := by omega
                  have hkn : ¬ ((k : Int) < 0) := by omega
                  have hkm : ¬ ((L.length : Int) ≤ (k : Int)) := by omega
                  have hkm2 : ¬ (L.length ≤ k) := by omega
                  obtain ⟨zk, z0, z1, z2, z3, z4, z5, z6, _⟩ := layS3 hpj hpk hk1 HW.out
                  go_wp2_with fail
                  all_goals exact ⟨⟨j + 1, by omega, by first | rfl | simp, HW.out⟩, by simp [intOf]; omega⟩
              · skip
                have HSd := hideIt (layS hpj (HW.out.below ((Below.refl _ _).drew)))
                go_wp2_with fail
                refine wp_region_held_drew (S := fun W' => W'.cell? ⟨G, j * 7, none⟩ = some (.int .i64 o.a) ∧ W'.cell? ⟨G, j * 7 + 1, none⟩ = some (.int .i64 o.b) ∧ W'.cell? ⟨G, j * 7 + 2, none⟩ = some (.int .i64 o.k) ∧ W'.cell? ⟨G, j * 7 + 3, none⟩ = some (.int .i64 o.c) ∧ W'.cell? ⟨G, j * 7 + 4, none⟩ = some (.int .i64 o.d) ∧ W'.cell? ⟨G, j * 7 + 5, none⟩ = some (.int .i64 o.s) ∧ W'.cell? ⟨G, j * 7 + 6, none⟩ = some (.int .i64 o.g) ∧ LBf w G c L W') (by kernel_rfl) HSd.out (fun hHeld => ?_)
                try dsimp only at hHeld
                refine wpAnyH_take (i := 0) (oi := { dst := some 57, op := Op.move (Operand.tmp 3), type := 23, pos := "laws.go:83", after := #[], guard := none }) (v := ?_) rfl (by kernel_rfl) (by kernel_rfl) (by kernel_rfl) (fun _ _ _ h => h) (Or.inl ⟨by rfl, ?_⟩) (by with_reducible assumption) ?_
                rotate_left
                · (intro wq hSw; (try dsimp only at hSw); go_simp; try with_reducible rfl)
                try simp only [Act.put, List.setIfInBounds_toArray, List.set_cons_zero, List.set_cons_succ]
                refine wpAnyH_take (i := 1) (oi := { dst := some 58, op := Op.move (Operand.tmp 5), type := 3, pos := "laws.go:83", after := #[], guard := none }) (v := ?_) rfl (by kernel_rfl) (by kernel_rfl) (by kernel_rfl) (fun _ _ _ h => h) (Or.inl ⟨by rfl, ?_⟩) (by with_reducible assumption) ?_
                rotate_left
                · (intro wq hSw; (try dsimp only at hSw); go_simp; try with_reducible rfl)
                try simp only [Act.put, List.setIfInBounds_toArray, List.set_cons_zero, List.set_cons_succ]
                refine wpAnyH_take (i := 2) (oi := { dst := some 59, op := Op.indexAddr 23 (Operand.tmp 57) (Operand.tmp 58), type := 0, pos := "laws.go:83", after := #[{ on := 0, ground := Ground.data }, { on := 1, ground := Ground.data }], guard := none }) (v := ?_) rfl (by kernel_rfl) (by kernel_rfl) (by kernel_rfl) (fun _ _ _ h => h) (Or.inl ⟨by rfl, ?_⟩) (by with_reducible assumption) ?_
                rotate_left
                · (intro wq hSw; (try dsimp only at hSw); go_simp; try with_reducible rfl)
                try simp only [Act.put, List.setIfInBounds_toArray, List.set_cons_zero, List.set_cons_succ]
                refine wpAnyH_take (i := 3) (oi := { dst := some 60, op := Op.fieldAddr 29 (Operand.tmp 59) 0, type := 0, pos := "laws.go:83", after := #[{ on := 2, ground := Ground.data }], guard := none }) (v := ?_) rfl (by kernel_rfl) (by kernel_rfl) (by kernel_rfl) (fun _ _ _ h => h) (Or.inl ⟨by rfl, ?_⟩) (by with_reducible assumption) ?_
                rotate_left
                · (intro wq hSw; (try dsimp only at hSw); go_simp; try with_reducible rfl)
                try simp only [Act.put, List.setIfInBounds_toArray, List.set_cons_zero, List.set_cons_succ]
                refine wpAnyH_take (i := 4) (oi := { dst := some 61, op := Op.fieldAddr 27 (Operand.tmp 60) 1, type := 0, pos := "laws.go:83", after := #[{ on := 3, ground := Ground.data }], guard := none }) (v := ?_) rfl (by kernel_rfl) (by kernel_rfl) (by kernel_rfl) (fun _ _ _ h => h) (Or.inl ⟨by rfl, ?_⟩) (by with_reducible assumption) ?_
                rotate_left
                · (intro wq hSw; (try dsimp only at hSw); go_simp; try with_reducible rfl)
                try simp only [Act.put, List.setIfInBounds_toArray, List.set_cons_zero, List.set_cons_succ]
                refine wpAnyH_take (i := 5) (oi := { dst := some 62, op := Op.load 3 (Operand.tmp 61), type := 3, pos := "laws.go:83", after := #[{ on := 4, ground := Ground.data }], guard := none }) (v := ?_) rfl (by kernel_rfl) (by kernel_rfl) (by kernel_rfl) (fun _ _ _ h => h) (Or.inl ⟨by rfl, ?_⟩) (by with_reducible assumption) ?_
                rotate_left
                · (intro wq hSw; (try dsimp only at hSw); go_simp; try with_reducible rfl)
                try simp only [Act.put, List.setIfInBounds_toArray, List.set_cons_zero, List.set_cons_succ]
                refine wpAnyH_take (i := 6) (oi := { dst := some 63, op := Op.binOp BinOp.gtr 3 (Operand.tmp 62) (Operand.const (Value.int IntKind.i64 1)) 3, type := 4, pos := "laws.go:83", after := #[{ on := 5, ground := Ground.data }], guard := none }) (v := .bool false) rfl (by kernel_rfl) (by kernel_rfl) (by kernel_rfl) (fun _ _ _ h => h) (Or.inl ⟨by rfl, (fun wq _ => by go_simp <;> first | (simp [*]; done) | (simp; omega) | omega)⟩) (by with_reducible assumption) ?_
                try simp only [Act.put, List.setIfInBounds_toArray, List.set_cons_zero, List.set_cons_succ]
                refine wpAnyH_take (i := 7) (oi := { dst := some 64, op := Op.move (Operand.tmp 63), type := 4, pos := "laws.go:83", after := #[{ on := 6, ground := Ground.data }], guard := none }) (v := .bool false) rfl (by kernel_rfl) (by kernel_rfl) (by kernel_rfl) (fun _ _ _ h => h) (Or.inl ⟨by rfl, (fun wq _ => by go_simp <;> first | (simp [*]; done) | (simp; omega) | omega)⟩) (by with_reducible assumption) ?_
                try simp only [Act.put, List.setIfInBounds_toArray, List.set_cons_zero, List.set_cons_succ]
                refine wpAnyH_take (i := 8) (oi := { dst := some 65, op := Op.move (Operand.tmp 3), type := 23, pos := "laws.go:83", after := #[{ on := 7, ground := Ground.guard }], guard := some (7, true) }) (v := undef) rfl (by kernel_rfl) (by kernel_rfl) (by kernel_rfl) (fun _ _ _ h => h) (Or.inr ⟨by rfl, rfl⟩) (by with_reducible assumption) ?_
                try simp only [Act.put, List.setIfInBounds_toArray, List.set_cons_zero, List.set_cons_succ]
                refine wpAnyH_take (i := 9) (oi := { dst := some 66, op := Op.move (Operand.tmp 3), type := 23, pos := "laws.go:83", after := #[{ on := 7, ground := Ground.guard }], guard := some (7, true) }) (v := undef) rfl (by kernel_rfl) (by kernel_rfl) (by kernel_rfl) (fun _ _ _ h => h) (Or.inr ⟨by rfl, rfl⟩) (by with_reducible assumption) ?_
                try simp only [Act.put, List.setIfInBounds_toArray, List.set_cons_zero, List.set_cons_succ]
                refine wpAnyH_take (i := 10) (oi := { dst := some 67, op := Op.move (Operand.tmp 5), type := 3, pos := "laws.go:83", after := #[{ on := 7, ground := Ground.guard }], guard := some (7, true) }) (v := undef) rfl (by kernel_rfl) (by kernel_rfl) (by kernel_rfl) (fun _ _ _ h => h) (Or.inr ⟨by rfl, rfl⟩) (by with_reducible assumption) ?_
                try simp only [Act.put, List.setIfInBounds_toArray, List.set_cons_zero, List.set_cons_succ]
                refine wpAnyH_take (i := 11) (oi := { dst := some 68, op := Op.indexAddr 23 (Operand.tmp 66) (Operand.tmp 67), type := 0, pos := "laws.go:83", after := #[{ on := 9, ground := Ground.data }, { on := 10, ground := Ground.data }, { on := 7, ground := Ground.guard }], guard := some (7, true) }) (v := undef) rfl (by kernel_rfl) (by kernel_rfl) (by kernel_rfl) (fun _ _ _ h => h) (Or.inr ⟨by rfl, rfl⟩) (by with_reducible assumption) ?_
                try simp only [Act.put, List.setIfInBounds_toArray, List.set_cons_zero, List.set_cons_succ]
                refine wpAnyH_take (i := 12) (oi := { dst := some 69, op := Op.fieldAddr 29 (Operand.tmp 68) 0, type := 0, pos := "laws.go:83", after := #[{ on := 11, ground := Ground.data }, { on := 7, ground := Ground.guard }], guard := some (7, true) }) (v := undef) rfl (by kernel_rfl) (by kernel_rfl) (by kernel_rfl) (fun _ _ _ h => h) (Or.inr ⟨by rfl, rfl⟩) (by with_reducible assumption) ?_
                try simp only [Act.put, List.setIfInBounds_toArray, List.set_cons_zero, List.set_cons_succ]
                refine wpAnyH_take (i := 13) (oi := { dst := some 70, op := Op.fieldAddr 27 (Operand.tmp 69) 0, type := 0, pos := "laws.go:83", after := #[{ on := 12, ground := Ground.data }, { on := 7, ground := Ground.guard }], guard := some (7, true) }) (v := undef) rfl (by kernel_rfl) (by kernel_rfl) (by kernel_rfl) (fun _ _ _ h => h) (Or.inr ⟨by rfl, rfl⟩) (by with_reducible assumption) ?_
                try simp only [Act.put, List.setIfInBounds_toArray, List.set_cons_zero, List.set_cons_succ]
                refine wpAnyH_take (i := 14) (oi := { dst := some 71, op := Op.load 3 (Operand.tmp 70), type := 3, pos := "laws.go:83", after := #[{ on := 13, ground := Ground.data }, { on := 7, ground := Ground.guard }], guard := some (7, true) }) (v := undef) rfl (by kernel_rfl) (by kernel_rfl) (by kernel_rfl) (fun _ _ _ h => h) (Or.inr ⟨by rfl, rfl⟩) (by with_reducible assumption) ?_
                try simp only [Act.put, List.setIfInBounds_toArray, List.set_cons_zero, List.set_cons_succ]
                refine wpAnyH_take (i := 15) (oi := { dst := some 72, op := Op.move (Operand.tmp 3), type := 23, pos := "laws.go:83", after := #[{ on := 7, ground := Ground.guard }], guard := some (7, true) }) (v := undef) rfl (by kernel_rfl) (by kernel_rfl) (by kernel_rfl) (fun _ _ _ h => h) (Or.inr ⟨by rfl, rfl⟩) (by with_reducible assumption) ?_
                try simp only [Act.put, List.setIfInBounds_toArray, List.set_cons_zero, List.set_cons_succ]
                refine wpAnyH_take (i := 16) (oi := { dst := some 73, op := Op.move (Operand.tmp 5), type := 3, pos := "laws.go:83", after := #[{ on := 7, ground := Ground.guard }], guard := some (7, true) }) (v := undef) rfl (by kernel_rfl) (by kernel_rfl) (by kernel_rfl) (fun _ _ _ h => h) (Or.inr ⟨by rfl, rfl⟩) (by with_reducible assumption) ?_
                try simp only [Act.put, List.setIfInBounds_toArray, List.set_cons_zero, List.set_cons_succ]
                refine wpAnyH_take (i := 17) (oi := { dst := some 74, op := Op.indexAddr 23 (Operand.tmp 72) (Operand.tmp 73), type := 0, pos := "laws.go:83", after := #[{ on := 15, ground := Ground.data }, { on := 16, ground := Ground.data }, { on := 7, ground := Ground.guard }], guard := some (7, true) }) (v := undef) rfl (by kernel_rfl) (by kernel_rfl) (by kernel_rfl) (fun _ _ _ h => h) (Or.inr ⟨by rfl, rfl⟩) (by with_reducible assumption) ?_
                try simp only [Act.put, List.setIfInBounds_toArray, List.set_cons_zero, List.set_cons_succ]
                refine wpAnyH_take (i := 18) (oi := { dst := some 75, op := Op.fieldAddr 29 (Operand.tmp 74) 0, type := 0, pos := "laws.go:83", after := #[{ on := 17, ground := Ground.data }, { on := 7, ground := Ground.guard }], guard := some (7, true) }) (v := undef) rfl (by kernel_rfl) (by kernel_rfl) (by kernel_rfl) (fun _ _ _ h => h) (Or.inr ⟨by rfl, rfl⟩) (by with_reducible assumption) ?_
                try simp only [Act.put, List.setIfInBounds_toArray, List.set_cons_zero, List.set_cons_succ]
                refine wpAnyH_take (i := 19) (oi := { dst := some 76, op := Op.fieldAddr 27 (Operand.tmp 75) 1, type := 0, pos := "laws.go:83", after := #[{ on := 18, ground := Ground.data }, { on := 7, ground := Ground.guard }], guard := some (7, true) }) (v := undef) rfl (by kernel_rfl) (by kernel_rfl) (by kernel_rfl) (fun _ _ _ h => h) (Or.inr ⟨by rfl, rfl⟩) (by with_reducible assumption) ?_
                try simp only [Act.put, List.setIfInBounds_toArray, List.set_cons_zero, List.set_cons_succ]
                refine wpAnyH_take (i := 20) (oi := { dst := some 77, op := Op.load 3 (Operand.tmp 76), type := 3, pos := "laws.go:83", after := #[{ on := 19, ground := Ground.data }, { on := 7, ground := Ground.guard }], guard := some (7, true) }) (v := undef) rfl (by kernel_rfl) (by kernel_rfl) (by kernel_rfl) (fun _ _ _ h => h) (Or.inr ⟨by rfl, rfl⟩) (by with_reducible assumption) ?_
                try simp only [Act.put, List.setIfInBounds_toArray, List.set_cons_zero, List.set_cons_succ]
                refine wpAnyH_take (i := 21) (oi := { dst := some 78, op := Op.binOp BinOp.sub 3 (Operand.tmp 77) (Operand.const (Value.int IntKind.i64 1)) 3, type := 3, pos := "laws.go:83", after := #[{ on := 20, ground := Ground.data }, { on := 7, ground := Ground.guard }], guard := some (7, true) }) (v := undef) rfl (by kernel_rfl) (by kernel_rfl) (by kernel_rfl) (fun _ _ _ h => h) (Or.inr ⟨by rfl, rfl⟩) (by with_reducible assumption) ?_
                try simp only [Act.put, List.setIfInBounds_toArray, List.set_cons_zero, List.set_cons_succ]
                refine wpAnyH_take (i := 22) (oi := { dst := some 79, op := Op.build 27 #[(0, Operand.tmp 71), (1, Operand.tmp 78)], type := 27, pos := "laws.go:83", after := #[{ on := 14, ground := Ground.data }, { on := 21, ground := Ground.data }, { on := 7, ground := Ground.guard }], guard := some (7, true) }) (v := undef) rfl (by kernel_rfl) (by kernel_rfl) (by kernel_rfl) (fun _ _ _ h => h) (Or.inr ⟨by rfl, rfl⟩) (by with_reducible assumption) ?_
                try simp only [Act.put, List.setIfInBounds_toArray, List.set_cons_zero, List.set_cons_succ]
                refine wpAnyH_take (i := 23) (oi := { dst := some 80, op := Op.call { callee := Callee.value (Operand.func 39), args := #[Operand.tmp 65, Operand.tmp 79], argTypes := #[23, 27] }, type := 4, pos := "laws.go:83", after := #[{ on := 8, ground := Ground.data }, { on := 22, ground := Ground.data }, { on := 7, ground := Ground.chain }, { on := 7, ground := Ground.guard }], guard := some (7, true) }) (v := undef) rfl (by kernel_rfl) (by kernel_rfl) (by kernel_rfl) (fun _ _ _ h => h) (Or.inr ⟨by rfl, rfl⟩) (by with_reducible assumption) ?_
                try simp only [Act.put, List.setIfInBounds_toArray, List.set_cons_zero, List.set_cons_succ]
                refine wpAnyH_take (i := 24) (oi := { dst := some 81, op := Op.unOp UnOp.not 4 (Operand.tmp 80), type := 4, pos := "laws.go:83", after := #[{ on := 23, ground := Ground.data }, { on := 7, ground := Ground.guard }], guard := some (7, true) }) (v := undef) rfl (by kernel_rfl) (by kernel_rfl) (by kernel_rfl) (fun _ _ _ h => h) (Or.inr ⟨by rfl, rfl⟩) (by with_reducible assumption) ?_
                try simp only [Act.put, List.setIfInBounds_toArray, List.set_cons_zero, List.set_cons_succ]
                refine wpAnyH_take (i := 25) (oi := { dst := some 82, op := Op.pick (Operand.tmp 64) (Operand.tmp 81) (Operand.const (Value.bool false)), type := 4, pos := "laws.go:83", after := #[{ on := 7, ground := Ground.data }, { on := 24, ground := Ground.data }], guard := none }) (v := ?_) rfl (by kernel_rfl) (by kernel_rfl) (by kernel_rfl) (fun _ _ _ h => h) (Or.inl ⟨by rfl, ?_⟩) (by with_reducible assumption) ?_
                rotate_left
                · (intro wq hSw; (try dsimp only at hSw); go_simp; try with_reducible rfl)
                try simp only [Act.put, List.setIfInBounds_toArray, List.set_cons_zero, List.set_cons_succ]
                refine wpAnyH_done (by kernel_rfl) ?_ _
                have HW := hideIt (restS (j := j) (o := o) HSd.out)
                clear HSd
                obtain ⟨z0, z1, z2, z3, z4, z5, z6, _⟩ := layS hpj HW.out
                go_wp2_with fail
                refine (implFind_any L G c o.c o.d x _ HW.out.own.at hll hcl (errB HW.out.bel h0 he) (posB HW.out.bel h0)).mono ?_
                rintro e w8 ⟨rfl, hb2⟩
                rw [HFB.out]
                have HW := hideIt (HW.out.below hb2)
                clear hb2 z0 z1 z2 z3 z4 z5 z6
                rcases HRF.out with ⟨hc0, hd0⟩ | ⟨hcd, k, p, hfk, hkl, hpk, hk1⟩
                · obtain ⟨z0, z1, z2, z3, z4, z5, z6, _⟩ := layS hpj HW.out
                  rw [hc0] at z3
                  rw [hd0] at z4
                  go_wp2_with fail
                  all_goals exact ⟨⟨j + 1, by omega, by first | rfl | simp, HW.out⟩, by simp [intOf]; omega⟩
                · have hfk := HFV.out.symm.trans hfk
                  subst hfk
                  have hkl' : (k : Int) < (L.length : Int) := by omega
                  have hk0 : (0 : Int) ≤ (k : Int) := by omega
                  have hkn : ¬ ((k : Int) < 0) := by omega
                  have hkm : ¬ ((L.length : Int) ≤ (k : Int)) := by omega
                  have hkm2 : ¬ (L.length ≤ k) := by omega
                  obtain ⟨zk, z0, z1, z2, z3, z4, z5, z6, _⟩ := layS3 hpj hpk hk1 HW.out
                  go_wp2_with fail
                  all_goals exact ⟨⟨j + 1, by omega, by first | rfl | simp, HW.out⟩, by simp [intOf]; omega⟩
            · obtain ⟨i, hi⟩ : ∃ i, j = i + 1 := ⟨j - 1, by omega⟩
              obtain ⟨p, hpi, hls⟩ := HLE.out i hi
              have hjz : 0 < j := by omega
              have HLS : Hid (decide (p.a < o.a ∨ (p.a = o.a ∧ p.b < o.b)) = true) := decide_eq_true hls
              have hwi : IntKind.i64.wrap ((j : Int) - 1) = (i : Int) := (IntWalk.i64_in _ ⟨by omega, by omega⟩).trans (by omega)
              have hi0 : (0 : Int) ≤ (i : Int) := by omega
              have hil : (i : Int) < (L.length : Int) := by omega
              clear hz hi HLE hls
              have HS0 := hideIt (layS2 hpj hpi HW.out)
              have HSd := hideIt (layS2 hpj hpi (HW.out.below ((Below.refl _ _).drew)))
              go_wp2_with fail
              go_region_held3 (fun W' => W'.cell? ⟨G, i * 7, none⟩ = some (.int .i64 p.a) ∧ W'.cell? ⟨G, i * 7 + 1, none⟩ = some (.int .i64 p.b) ∧ W'.cell? ⟨G, j * 7, none⟩ = some (.int .i64 o.a) ∧ W'.cell? ⟨G, j * 7 + 1, none⟩ = some (.int .i64 o.b) ∧ W'.cell? ⟨G, j * 7 + 2, none⟩ = some (.int .i64 o.k) ∧ W'.cell? ⟨G, j * 7 + 3, none⟩ = some (.int .i64 o.c) ∧ W'.cell? ⟨G, j * 7 + 4, none⟩ = some (.int .i64 o.d) ∧ W'.cell? ⟨G, j * 7 + 5, none⟩ = some (.int .i64 o.s) ∧ W'.cell? ⟨G, j * 7 + 6, none⟩ = some (.int .i64 o.g) ∧ LBf w G c L W')
                (first | with_reducible assumption | with_reducible exact HSd.out | with_reducible exact HS0.out | exact layS2 hpj hpi ((restS2 (j := j) (i := i) (o := o) (p := p) (by with_reducible assumption)).below hb2))
                (first
                  | (go_at_call 37; refine (implLess_any _ _ _ _ _).mono ?_; rintro e w8 ⟨rfl, hb2⟩; rw [HLS.out])
                  | (go_at_call 38; with_reducible refine (implOp_any _ _ _ _ _ _ _ x _ (errB (LBf.bel (restS2 (j := j) (i := i) (o := o) (p := p) (by with_reducible assumption) : LBf w G c L _)) h0 he) (posB (LBf.bel (restS2 (j := j) (i := i) (o := o) (p := p) (by with_reducible assumption) : LBf w G c L _)) h0)).mono ?_; rintro e w8 ⟨rfl, hb2⟩; rw [HOK.out]))
              rename_i hS
              have HW := hideIt (restS2 (j := j) (i := i) (o := o) (p := p) hS)
              clear hS HS0 HSd
              by_cases hb1 : 1 < o.b
              · have HKN : Hid (decide (0 ≤ findI L o.a (o.b - 1)) = true) := decide_eq_true (HKN.out hb1)
                have hw1 : IntKind.i64.wrap (o.b - 1) = o.b - 1 := IntWalk.i64_in _ ⟨by omega, by omega⟩
                have HS0 := hideIt (layS hpj HW.out)
                have HSd := hideIt (layS hpj (HW.out.below ((Below.refl _ _).drew)))
                go_wp2_with fail
                go_region_held3 (fun W' => W'.cell? ⟨G, j * 7, none⟩ = some (.int .i64 o.a) ∧ W'.cell? ⟨G, j * 7 + 1, none⟩ = some (.int .i64 o.b) ∧ W'.cell? ⟨G, j * 7 + 2, none⟩ = some (.int .i64 o.k) ∧ W'.cell? ⟨G, j * 7 + 3, none⟩ = some (.int .i64 o.c) ∧ W'.cell? ⟨G, j * 7 + 4, none⟩ = some (.int .i64 o.d) ∧ W'.cell? ⟨G, j * 7 + 5, none⟩ = some (.int .i64 o.s) ∧ W'.cell? ⟨G, j * 7 + 6, none⟩ = some (.int .i64 o.g) ∧ LBf w G c L W')
                  (first | with_reducible assumption | with_reducible exact HSd.out | with_reducible exact HS0.out | exact layS hpj ((restS (j := j) (o := o) (by with_reducible assumption)).below hb2))
                  (first
                    | (go_at_call 39; with_reducible refine (known_any L G c o.a (o.b - 1) _ (OwnOps.at (LBf.own (restS (j := j) (o := o) (by with_reducible assumption) : LBf w G c L _))) hll hcl).mono ?_; rintro e w8 ⟨rfl, hb2⟩; rw [HKN.out]))
                rename_i hS
                have HW := hideIt (restS (j := j) (o := o) hS)
                clear hS HS0 HSd
                obtain ⟨z0, z1, z2, z3, z4, z5, z6, _⟩ := layS hpj HW.out
                go_wp2_with fail
                refine (implFind_any L G c o.c o.d x _ HW.out.own.at hll hcl (errB HW.out.bel h0 he) (posB HW.out.bel h0)).mono ?_
                rintro e w8 ⟨rfl, hb2⟩
                rw [HFB.out]
                have HW := hideIt (HW.out.below hb2)
                clear hb2 z0 z1 z2 z3 z4 z5 z6
                rcases HRF.out with ⟨hc0, hd0⟩ | ⟨hcd, k, p, hfk, hkl, hpk, hk1⟩
                · obtain ⟨z0, z1, z2, z3, z4, z5, z6, _⟩ := layS hpj HW.out
                  rw [hc0] at z3
                  rw [hd0] at z4
                  go_wp2_with fail
                  all_goals exact ⟨⟨j + 1, by omega, by first | rfl | simp, HW.out⟩, by simp [intOf]; omega⟩
                · have hfk := HFV.out.symm.trans hfk
                  subst hfk
                  have hkl' : (k : Int) < (L.length : Int) := by omega
                  have hk0 : (0 : Int) ≤ (k : Int) := by omega
                  have hkn : ¬ ((k : Int) < 0) := by omega
                  have hkm : ¬ ((L.length : Int) ≤ (k : Int)) := by omega
                  have hkm2 : ¬ (L.length ≤ k) := by omega
                  obtain ⟨zk, z0, z1, z2, z3, z4, z5, z6, _⟩ := layS3 hpj hpk hk1 HW.out
                  go_wp2_with fail
                  all_goals exact ⟨⟨j + 1, by omega, by first | rfl | simp, HW.out⟩, by simp [intOf]; omega⟩
              · skip
                have HSd := hideIt (layS hpj (HW.out.below ((Below.refl _ _).drew)))
                go_wp2_with fail
                refine wp_region_held_drew (S := fun W' => W'.cell? ⟨G, j * 7, none⟩ = some (.int .i64 o.a) ∧ W'.cell? ⟨G, j * 7 + 1, none⟩ = some (.int .i64 o.b) ∧ W'.cell? ⟨G, j * 7 + 2, none⟩ = some (.int .i64 o.k) ∧ W'.cell? ⟨G, j * 7 + 3, none⟩ = some (.int .i64 o.c) ∧ W'.cell? ⟨G, j * 7 + 4, none⟩ = some (.int .i64 o.d) ∧ W'.cell? ⟨G, j * 7 + 5, none⟩ = some (.int .i64 o.s) ∧ W'.cell? ⟨G, j * 7 + 6, none⟩ = some (.int .i64 o.g) ∧ LBf w G c L W') (by kernel_rfl) HSd.out (fun hHeld => ?_)
                try dsimp only at hHeld
                refine wpAnyH_take (i := 0) (oi := { dst := some 57, op := Op.move (Operand.tmp 3), type := 23, pos := "laws.go:83", after := #[], guard := none }) (v := ?_) rfl (by kernel_rfl) (by kernel_rfl) (by kernel_rfl) (fun _ _ _ h => h) (Or.inl ⟨by rfl, ?_⟩) (by with_reducible assumption) ?_
                rotate_left
                · (intro wq hSw; (try dsimp only at hSw); go_simp; try with_reducible rfl)
                try simp only [Act.put, List.setIfInBounds_toArray, List.set_cons_zero, List.set_cons_succ]
                refine wpAnyH_take (i := 1) (oi := { dst := some 58, op := Op.move (Operand.tmp 5), type := 3, pos := "laws.go:83", after := #[], guard := none }) (v := ?_) rfl (by kernel_rfl) (by kernel_rfl) (by kernel_rfl) (fun _ _ _ h => h) (Or.inl ⟨by rfl, ?_⟩) (by with_reducible assumption) ?_
                rotate_left
                · (intro wq hSw; (try dsimp only at hSw); go_simp; try with_reducible rfl)
                try simp only [Act.put, List.setIfInBounds_toArray, List.set_cons_zero, List.set_cons_succ]
                refine wpAnyH_take (i := 2) (oi := { dst := some 59, op := Op.indexAddr 23 (Operand.tmp 57) (Operand.tmp 58), type := 0, pos := "laws.go:83", after := #[{ on := 0, ground := Ground.data }, { on := 1, ground := Ground.data }], guard := none }) (v := ?_) rfl (by kernel_rfl) (by kernel_rfl) (by kernel_rfl) (fun _ _ _ h => h) (Or.inl ⟨by rfl, ?_⟩) (by with_reducible assumption) ?_
                rotate_left
                · (intro wq hSw; (try dsimp only at hSw); go_simp; try with_reducible rfl)
                try simp only [Act.put, List.setIfInBounds_toArray, List.set_cons_zero, List.set_cons_succ]
                refine wpAnyH_take (i := 3) (oi := { dst := some 60, op := Op.fieldAddr 29 (Operand.tmp 59) 0, type := 0, pos := "laws.go:83", after := #[{ on := 2, ground := Ground.data }], guard := none }) (v := ?_) rfl (by kernel_rfl) (by kernel_rfl) (by kernel_rfl) (fun _ _ _ h => h) (Or.inl ⟨by rfl, ?_⟩) (by with_reducible assumption) ?_
                rotate_left
                · (intro wq hSw; (try dsimp only at hSw); go_simp; try with_reducible rfl)
                try simp only [Act.put, List.setIfInBounds_toArray, List.set_cons_zero, List.set_cons_succ]
                refine wpAnyH_take (i := 4) (oi := { dst := some 61, op := Op.fieldAddr 27 (Operand.tmp 60) 1, type := 0, pos := "laws.go:83", after := #[{ on := 3, ground := Ground.data }], guard := none }) (v := ?_) rfl (by kernel_rfl) (by kernel_rfl) (by kernel_rfl) (fun _ _ _ h => h) (Or.inl ⟨by rfl, ?_⟩) (by with_reducible assumption) ?_
                rotate_left
                · (intro wq hSw; (try dsimp only at hSw); go_simp; try with_reducible rfl)
                try simp only [Act.put, List.setIfInBounds_toArray, List.set_cons_zero, List.set_cons_succ]
                refine wpAnyH_take (i := 5) (oi := { dst := some 62, op := Op.load 3 (Operand.tmp 61), type := 3, pos := "laws.go:83", after := #[{ on := 4, ground := Ground.data }], guard := none }) (v := ?_) rfl (by kernel_rfl) (by kernel_rfl) (by kernel_rfl) (fun _ _ _ h => h) (Or.inl ⟨by rfl, ?_⟩) (by with_reducible assumption) ?_
                rotate_left
                · (intro wq hSw; (try dsimp only at hSw); go_simp; try with_reducible rfl)
                try simp only [Act.put, List.setIfInBounds_toArray, List.set_cons_zero, List.set_cons_succ]
                refine wpAnyH_take (i := 6) (oi := { dst := some 63, op := Op.binOp BinOp.gtr 3 (Operand.tmp 62) (Operand.const (Value.int IntKind.i64 1)) 3, type := 4, pos := "laws.go:83", after := #[{ on := 5, ground := Ground.data }], guard := none }) (v := .bool false) rfl (by kernel_rfl) (by kernel_rfl) (by kernel_rfl) (fun _ _ _ h => h) (Or.inl ⟨by rfl, (fun wq _ => by go_simp <;> first | (simp [*]; done) | (simp; omega) | omega)⟩) (by with_reducible assumption) ?_
                try simp only [Act.put, List.setIfInBounds_toArray, List.set_cons_zero, List.set_cons_succ]
                refine wpAnyH_take (i := 7) (oi := { dst := some 64, op := Op.move (Operand.tmp 63), type := 4, pos := "laws.go:83", after := #[{ on := 6, ground := Ground.data }], guard := none }) (v := .bool false) rfl (by kernel_rfl) (by kernel_rfl) (by kernel_rfl) (fun _ _ _ h => h) (Or.inl ⟨by rfl, (fun wq _ => by go_simp <;> first | (simp [*]; done) | (simp; omega) | omega)⟩) (by with_reducible assumption) ?_
                try simp only [Act.put, List.setIfInBounds_toArray, List.set_cons_zero, List.set_cons_succ]
                refine wpAnyH_take (i := 8) (oi := { dst := some 65, op := Op.move (Operand.tmp 3), type := 23, pos := "laws.go:83", after := #[{ on := 7, ground := Ground.guard }], guard := some (7, true) }) (v := undef) rfl (by kernel_rfl) (by kernel_rfl) (by kernel_rfl) (fun _ _ _ h => h) (Or.inr ⟨by rfl, rfl⟩) (by with_reducible assumption) ?_
                try simp only [Act.put, List.setIfInBounds_toArray, List.set_cons_zero, List.set_cons_succ]
                refine wpAnyH_take (i := 9) (oi := { dst := some 66, op := Op.move (Operand.tmp 3), type := 23, pos := "laws.go:83", after := #[{ on := 7, ground := Ground.guard }], guard := some (7, true) }) (v := undef) rfl (by kernel_rfl) (by kernel_rfl) (by kernel_rfl) (fun _ _ _ h => h) (Or.inr ⟨by rfl, rfl⟩) (by with_reducible assumption) ?_
                try simp only [Act.put, List.setIfInBounds_toArray, List.set_cons_zero, List.set_cons_succ]
                refine wpAnyH_take (i := 10) (oi := { dst := some 67, op := Op.move (Operand.tmp 5), type := 3, pos := "laws.go:83", after := #[{ on := 7, ground := Ground.guard }], guard := some (7, true) }) (v := undef) rfl (by kernel_rfl) (by kernel_rfl) (by kernel_rfl) (fun _ _ _ h => h) (Or.inr ⟨by rfl, rfl⟩) (by with_reducible assumption) ?_
                try simp only [Act.put, List.setIfInBounds_toArray, List.set_cons_zero, List.set_cons_succ]
                refine wpAnyH_take (i := 11) (oi := { dst := some 68, op := Op.indexAddr 23 (Operand.tmp 66) (Operand.tmp 67), type := 0, pos := "laws.go:83", after := #[{ on := 9, ground := Ground.data }, { on := 10, ground := Ground.data }, { on := 7, ground := Ground.guard }], guard := some (7, true) }) (v := undef) rfl (by kernel_rfl) (by kernel_rfl) (by kernel_rfl) (fun _ _ _ h => h) (Or.inr ⟨by rfl, rfl⟩) (by with_reducible assumption) ?_
                try simp only [Act.put, List.setIfInBounds_toArray, List.set_cons_zero, List.set_cons_succ]
                refine wpAnyH_take (i := 12) (oi := { dst := some 69, op := Op.fieldAddr 29 (Operand.tmp 68) 0, type := 0, pos := "laws.go:83", after := #[{ on := 11, ground := Ground.data }, { on := 7, ground := Ground.guard }], guard := some (7, true) }) (v := undef) rfl (by kernel_rfl) (by kernel_rfl) (by kernel_rfl) (fun _ _ _ h => h) (Or.inr ⟨by rfl, rfl⟩) (by with_reducible assumption) ?_
                try simp only [Act.put, List.setIfInBounds_toArray, List.set_cons_zero, List.set_cons_succ]
                refine wpAnyH_take (i := 13) (oi := { dst := some 70, op := Op.fieldAddr 27 (Operand.tmp 69) 0, type := 0, pos := "laws.go:83", after := #[{ on := 12, ground := Ground.data }, { on := 7, ground := Ground.guard }], guard := some (7, true) }) (v := undef) rfl (by kernel_rfl) (by kernel_rfl) (by kernel_rfl) (fun _ _ _ h => h) (Or.inr ⟨by rfl, rfl⟩) (by with_reducible assumption) ?_
                try simp only [Act.put, List.setIfInBounds_toArray, List.set_cons_zero, List.set_cons_succ]
                refine wpAnyH_take (i := 14) (oi := { dst := some 71, op := Op.load 3 (Operand.tmp 70), type := 3, pos := "laws.go:83", after := #[{ on := 13, ground := Ground.data }, { on := 7, ground := Ground.guard }], guard := some (7, true) }) (v := undef) rfl (by kernel_rfl) (by kernel_rfl) (by kernel_rfl) (fun _ _ _ h => h) (Or.inr ⟨by rfl, rfl⟩) (by with_reducible assumption) ?_
                try simp only [Act.put, List.setIfInBounds_toArray, List.set_cons_zero, List.set_cons_succ]
                refine wpAnyH_take (i := 15) (oi := { dst := some 72, op := Op.move (Operand.tmp 3), type := 23, pos := "laws.go:83", after := #[{ on := 7, ground := Ground.guard }], guard := some (7, true) }) (v := undef) rfl (by kernel_rfl) (by kernel_rfl) (by kernel_rfl) (fun _ _ _ h => h) (Or.inr ⟨by rfl, rfl⟩) (by with_reducible assumption) ?_
                try simp only [Act.put, List.setIfInBounds_toArray, List.set_cons_zero, List.set_cons_succ]
                refine wpAnyH_take (i := 16) (oi := { dst := some 73, op := Op.move (Operand.tmp 5), type := 3, pos := "laws.go:83", after := #[{ on := 7, ground := Ground.guard }], guard := some (7, true) }) (v := undef) rfl (by kernel_rfl) (by kernel_rfl) (by kernel_rfl) (fun _ _ _ h => h) (Or.inr ⟨by rfl, rfl⟩) (by with_reducible assumption) ?_
                try simp only [Act.put, List.setIfInBounds_toArray, List.set_cons_zero, List.set_cons_succ]
                refine wpAnyH_take (i := 17) (oi := { dst := some 74, op := Op.indexAddr 23 (Operand.tmp 72) (Operand.tmp 73), type := 0, pos := "laws.go:83", after := #[{ on := 15, ground := Ground.data }, { on := 16, ground := Ground.data }, { on := 7, ground := Ground.guard }], guard := some (7, true) }) (v := undef) rfl (by kernel_rfl) (by kernel_rfl) (by kernel_rfl) (fun _ _ _ h => h) (Or.inr ⟨by rfl, rfl⟩) (by with_reducible assumption) ?_
                try simp only [Act.put, List.setIfInBounds_toArray, List.set_cons_zero, List.set_cons_succ]
                refine wpAnyH_take (i := 18) (oi := { dst := some 75, op := Op.fieldAddr 29 (Operand.tmp 74) 0, type := 0, pos := "laws.go:83", after := #[{ on := 17, ground := Ground.data }, { on := 7, ground := Ground.guard }], guard := some (7, true) }) (v := undef) rfl (by kernel_rfl) (by kernel_rfl) (by kernel_rfl) (fun _ _ _ h => h) (Or.inr ⟨by rfl, rfl⟩) (by with_reducible assumption) ?_
                try simp only [Act.put, List.setIfInBounds_toArray, List.set_cons_zero, List.set_cons_succ]
                refine wpAnyH_take (i := 19) (oi := { dst := some 76, op := Op.fieldAddr 27 (Operand.tmp 75) 1, type := 0, pos := "laws.go:83", after := #[{ on := 18, ground := Ground.data }, { on := 7, ground := Ground.guard }], guard := some (7, true) }) (v := undef) rfl (by kernel_rfl) (by kernel_rfl) (by kernel_rfl) (fun _ _ _ h => h) (Or.inr ⟨by rfl, rfl⟩) (by with_reducible assumption) ?_
                try simp only [Act.put, List.setIfInBounds_toArray, List.set_cons_zero, List.set_cons_succ]
                refine wpAnyH_take (i := 20) (oi := { dst := some 77, op := Op.load 3 (Operand.tmp 76), type := 3, pos := "laws.go:83", after := #[{ on := 19, ground := Ground.data }, { on := 7, ground := Ground.guard }], guard := some (7, true) }) (v := undef) rfl (by kernel_rfl) (by kernel_rfl) (by kernel_rfl) (fun _ _ _ h => h) (Or.inr ⟨by rfl, rfl⟩) (by with_reducible assumption) ?_
                try simp only [Act.put, List.setIfInBounds_toArray, List.set_cons_zero, List.set_cons_succ]
                refine wpAnyH_take (i := 21) (oi := { dst := some 78, op := Op.binOp BinOp.sub 3 (Operand.tmp 77) (Operand.const (Value.int IntKind.i64 1)) 3, type := 3, pos := "laws.go:83", after := #[{ on := 20, ground := Ground.data }, { on := 7, ground := Ground.guard }], guard := some (7, true) }) (v := undef) rfl (by kernel_rfl) (by kernel_rfl) (by kernel_rfl) (fun _ _ _ h => h) (Or.inr ⟨by rfl, rfl⟩) (by with_reducible assumption) ?_
                try simp only [Act.put, List.setIfInBounds_toArray, List.set_cons_zero, List.set_cons_succ]
                refine wpAnyH_take (i := 22) (oi := { dst := some 79, op := Op.build 27 #[(0, Operand.tmp 71), (1, Operand.tmp 78)], type := 27, pos := "laws.go:83", after := #[{ on := 14, ground := Ground.data }, { on := 21, ground := Ground.data }, { on := 7, ground := Ground.guard }], guard := some (7, true) }) (v := undef) rfl (by kernel_rfl) (by kernel_rfl) (by kernel_rfl) (fun _ _ _ h => h) (Or.inr ⟨by rfl, rfl⟩) (by with_reducible assumption) ?_
                try simp only [Act.put, List.setIfInBounds_toArray, List.set_cons_zero, List.set_cons_succ]
                refine wpAnyH_take (i := 23) (oi := { dst := some 80, op := Op.call { callee := Callee.value (Operand.func 39), args := #[Operand.tmp 65, Operand.tmp 79], argTypes := #[23, 27] }, type := 4, pos := "laws.go:83", after := #[{ on := 8, ground := Ground.data }, { on := 22, ground := Ground.data }, { on := 7, ground := Ground.chain }, { on := 7, ground := Ground.guard }], guard := some (7, true) }) (v := undef) rfl (by kernel_rfl) (by kernel_rfl) (by kernel_rfl) (fun _ _ _ h => h) (Or.inr ⟨by rfl, rfl⟩) (by with_reducible assumption) ?_
                try simp only [Act.put, List.setIfInBounds_toArray, List.set_cons_zero, List.set_cons_succ]
                refine wpAnyH_take (i := 24) (oi := { dst := some 81, op := Op.unOp UnOp.not 4 (Operand.tmp 80), type := 4, pos := "laws.go:83", after := #[{ on := 23, ground := Ground.data }, { on := 7, ground := Ground.guard }], guard := some (7, true) }) (v := undef) rfl (by kernel_rfl) (by kernel_rfl) (by kernel_rfl) (fun _ _ _ h => h) (Or.inr ⟨by rfl, rfl⟩) (by with_reducible assumption) ?_
                try simp only [Act.put, List.setIfInBounds_toArray, List.set_cons_zero, List.set_cons_succ]
                refine wpAnyH_take (i := 25) (oi := { dst := some 82, op := Op.pick (Operand.tmp 64) (Operand.tmp 81) (Operand.const (Value.bool false)), type := 4, pos := "laws.go:83", after := #[{ on := 7, ground := Ground.data }, { on := 24, ground := Ground.data }], guard := none }) (v := ?_) rfl (by kernel_rfl) (by kernel_rfl) (by kernel_rfl) (fun _ _ _ h => h) (Or.inl ⟨by rfl, ?_⟩) (by with_reducible assumption) ?_
                rotate_left
                · (intro wq hSw; (try dsimp only at hSw); go_simp; try with_reducible rfl)
                try simp only [Act.put, List.setIfInBounds_toArray, List.set_cons_zero, List.set_cons_succ]
                refine wpAnyH_done (by kernel_rfl) ?_ _
                have HW := hideIt (restS (j := j) (o := o) HSd.out)
                clear HSd
                obtain ⟨z0, z1, z2, z3, z4, z5, z6, _⟩ := layS hpj HW.out
                go_wp2_with fail
                refine (implFind_any L G c o.c o.d x _ HW.out.own.at hll hcl (errB HW.out.bel h0 he) (posB HW.out.bel h0)).mono ?_
                rintro e w8 ⟨rfl, hb2⟩
                rw [HFB.out]
                have HW := hideIt (HW.out.below hb2)
                clear hb2 z0 z1 z2 z3 z4 z5 z6
                rcases HRF.out with ⟨hc0, hd0⟩ | ⟨hcd, k, p, hfk, hkl, hpk, hk1⟩
                · obtain ⟨z0, z1, z2, z3, z4, z5, z6, _⟩ := layS hpj HW.out
                  rw [hc0] at z3
                  rw [hd0] at z4
                  go_wp2_with fail
                  all_goals exact ⟨⟨j + 1, by omega, by first | rfl | simp, HW.out⟩, by simp [intOf]; omega⟩
                · have hfk := HFV.out.symm.trans hfk
                  subst hfk
                  have hkl' : (k : Int) < (L.length : Int) := by omega
                  have hk0 : (0 : Int) ≤ (k : Int) := by omega
                  have hkn : ¬ ((k : Int) < 0) := by omega
                  have hkm : ¬ ((L.length : Int) ≤ (k : Int)) := by omega
                  have hkm2 : ¬ (L.length ≤ k) := by omega
                  obtain ⟨zk, z0, z1, z2, z3, z4, z5, z6, _⟩ := layS3 hpj hpk hk1 HW.out
                  go_wp2_with fail
                  all_goals exact ⟨⟨j + 1, by omega, by first | rfl | simp, HW.out⟩, by simp [intOf]; omega⟩
          · obtain rfl : j = L.length := by omega
            go_wp2
            go_ret
            exact ⟨rfl, HW.out.bel⟩
  · go_enter Tryd.func10, Tryd.ntmps10
    have hn' : (1048576 : Int) < (n : Int) := by omega
    go_wp2
    go_ret
    exact ⟨rfl, Below.refl _ _⟩
end Go.Proofs.YtedanlmippfojaaDoor

namespace Go.Proofs.YtedanlmippfojaaDoor
open Go.ChangeShapes Go.WideShapes Go.ChangeAt Go.RowKit Go.Joins

theorem own : ownKnob Tryd.prog.godebug = none := by kernel_rfl
theorem laidOut : laidOutB Tryd.prog = true := by kernel_rfl
theorem cells_int : Tryd.prog.cellsOf 3 = 1 := by kernel_rfl

/-- The name of the one listed variable. -/
abbrev errName : String := Rows.fnTypeAnyoneSpec.vars.headD ""
/-- What the rows list. -/
abbrev laid1 : List (String × DataW Unit) := Rows.fnTypeAnyoneRow.laid
theorem gErr : Tryd.prog.globalNamed errName = some 0 := by kernel_rfl
theorem tErr : (Tryd.prog.globals[0]?).map (·.type) = some 93 := by kernel_rfl
def nmOf : DataW Unit → String
  | .iface n _ => n
  | _ => ""
theorem star : "*" ++ "errors.errorString" = nmOf Rows.laid_loop_example_tatting_impl_errNoThing := by decide
theorem nameErr (u : TypeId) (h : Tryd.prog.typeName? 3 u = some (nmOf Rows.laid_loop_example_tatting_impl_errNoThing)) : u = 203 :=
  typeName_ptr_named (nm := "errors.errorString") (by rw [star]; kernel_rfl) (by kernel_rfl) (by decide) u (by rw [star]; exact h)

theorem door_met (os : Os) (args : Array Value) : laidMetH Tryd.prog laid1 ((World.doorLaid Tryd.prog 28 os).forCall (fun _ _ => 0) ⟨#[], args, []⟩).memory :=
  laidMetH_of_parts3 (fuel := 8) (laidMet_of_run' 8 (by kernel_rfl) (by kernel_rfl)) (by kernel_rfl) (by kernel_rfl)

/-- WHAT THE CONDITION GIVES THE WALKS: the one error's cell. -/
theorem of_laid {W : World} (h : laidMetH Tryd.prog laid1 W) : ∃ x : Addr, W.var? Tryd.prog errName = some #[.iface 203 (.pointer (some x))] ∧ W.cell? ⟨0, 0, none⟩ = some (.iface 203 (.pointer (some x))) ∧ 0 < W.heap.size := by
  rw [MakeChecks.laidMetH_plain _ _ _ (by kernel_rfl)] at h
  obtain ⟨x, s, hv, hc, _, _⟩ := laid_sentinel h gErr tErr Tryd.underlying93 nameErr Tryd.underlying203 Tryd.underlying230 rfl rfl Tryd.underlying9 (by kernel_rfl) (by kernel_rfl)
  have hcell : W.cell? ⟨0, 0, none⟩ = some (.iface 203 (.pointer (some x))) := by simpa using World.var?_cell gErr hv 0
  refine ⟨x, hv, hcell, ?_⟩
  rcases Nat.eq_zero_or_pos W.heap.size with h0 | h0
  · exfalso
    simp [World.cell?, Array.eq_empty_of_size_eq_zero h0] at hcell
  · exact h0

/-- The variable holds what it held, where nothing that was there has turned. -/
theorem var_kept {W W' : World} {x : Value} (hb : Below W.heap.size W W') (h0 : 0 < W.heap.size) (hv : W.var? Tryd.prog errName = some #[x]) : W'.var? Tryd.prog errName = some #[x] := by
  unfold World.var? at hv ⊢
  rw [gErr] at hv ⊢
  simp only [Option.bind_some] at hv ⊢
  rw [hb.block 0 h0]
  exact hv
end Go.Proofs.YtedanlmippfojaaDoor

namespace Go.Proofs.YtedanlmippfojaaDoor
open Go.ChangeShapes Go.WideShapes Go.ChangeAt Go.RowKit Go.Joins

theorem cells_byte : Tryd.prog.cellsOf 5 = 1 := by kernel_rfl

set_option maxRecDepth 100000 in
theorem open_bytes {H : Type} {enc : TypeId × Value → H} {w : World} {r : Reach} {b0 : Nat} {spare : Nat → Bool} {held : Bool} {v : Value} {d : DataW H} {p : List MemPlace}
    (hv : Value.okWide Tryd.prog w r b0 22 v) (h : DataW.Trod enc Tryd.prog w 0 spare held 22 v d p) :
    ∃ (q : Option Addr) (n cap : Nat), v = .slice q n cap ∧ n ≤ cap ∧ cap ≤ maxLen ∧ ArgBytes w q n := by
  obtain ⟨q, len, cap, rfl⟩ := okWide_slice Tryd.underlying22 hv
  obtain ⟨fuel, hf⟩ := h
  rcases open_ints Tryd.underlying22 Tryd.underlying5 cells_byte hf with ⟨hcs, _⟩ | ⟨a, len', cap', zs, hcs, _, hl, hm, hz, _, hcell, hwz⟩
  · simp [Value.cells] at hcs
    obtain ⟨rfl, rfl, rfl⟩ := hcs
    exact ⟨none, 0, 0, rfl, Nat.le_refl _, Nat.zero_le _, .inl rfl⟩
  · simp [Value.cells] at hcs
    obtain ⟨rfl, rfl, rfl⟩ := hcs
    refine ⟨some a, len, cap, rfl, hl, hm, ?_⟩
    have hlz : len ≤ zs.length := by rw [hz]; split <;> omega
    rcases Nat.eq_zero_or_pos len with h0 | h0
    · exact .inl h0
    obtain ⟨b, off, spot⟩ := a
    have hspot : spot = none := by simpa [Addr.add] using World.cell?_spot (hcell 0 (by omega))
    subst hspot
    refine .inr ⟨b, off, rfl, ?_, fun i hi => ?_⟩
    · have := World.block_lt_of_cell? w _ (hcell 0 (by omega))
      simpa [Addr.add_lit] using this
    · have hc := hcell i (by omega)
      rw [Addr.add_lit] at hc
      have hb := range_u8 hwz i
      exact ⟨zs.getD i 0, by simpa [List.getD] using hb.1, by simpa [List.getD] using hb.2, hc⟩

end Go.Proofs.YtedanlmippfojaaDoor

namespace Go.Proofs.YtedanlmippfojaaDoor
open Go.ChangeShapes Go.WideShapes Go.ChangeAt Go.RowKit Go.Joins

set_option maxRecDepth 100000 in
theorem liftedFnOpsBefore (os : Os) (started : os.Started) (H : Type) (enc : TypeId × Value → H) :
    ReturnsInHanded {} Tryd.checked os 10 .any (fun w args => (Rows.fnOpsBeforeSpec.pre enc Tryd.prog Tryd.f10 [] false w args ∧ laidMetH Tryd.prog laid1 w) ∧ sizedMet enc Tryd.prog Tryd.f10 (OpenSpec.ofChange Rows.fnOpsBeforeSpec) false w args)
      (Rows.fnOpsBeforeSpec.post enc Tryd.prog Tryd.f10 false true false false) := by
  refine returnsInHanded_of_change_and (C := Tryd.checked) (X := fun w _ => laidMetH Tryd.prog laid1 w) (fun _ _ _ hh h => h.of_heap hh) own started (by kernel_rfl) Tryd.func10
    (ChangeSpec.witness_shaped (enc := enc) (C := Tryd.checked) (os := os) (X := fun w _ => laidMetH Tryd.prog laid1 w) false (World.doorLaid Tryd.prog 28 os) #[.slice none 0 0] 8 rfl (World.shaped_of_RefB (by kernel_rfl) (by kernel_rfl)) (by kernel_rfl) (by kernel_rfl) (by kernel_rfl) (door_met os _)) ?_
  intro W base args ds gs before hval0 hW _ _ hL _
  have hval : ∀ (j : Nat) t v, Tryd.f10.params[j]? = some t → args[j]? = some v → Value.okWide Tryd.prog W .any base t v := hval0
  have hW' := hW
  obtain ⟨p, q, hA0, hV0, rfl, hfz, hnd⟩ := hW
  have hA : DataW.TrodAll enc Tryd.prog W 0 (fun _ => true) true Tryd.f10.params.toList args.toList ds p := hA0
  have hV : DataW.TrodVars enc Tryd.prog W (fun _ => true) [errName] gs q := hV0
  rw [Tryd.params10] at hA hval
  obtain ⟨v0, d0, rfl, rfl, h0⟩ := trodAll_one hA
  have k0 := h0
  have lt0 : ∀ x ∈ p, x.block < W.heap.size := by obtain ⟨m, hm⟩ := k0; exact DataW.trod_lt m _ _ _ hm
  obtain ⟨x, hv, hc, hpos⟩ := of_laid hL
  obtain ⟨rfl, rfl⟩ := hV.unique (vars_read1 enc gErr tErr Tryd.underlying93 hv trivial _)
  obtain ⟨q0, n0, c0, rfl, hc0, hm0, ha0⟩ := open_bytes (hval 0 22 v0 rfl rfl) h0
  clear hA0 hV0 hval0
  refine (walkOpsBefore W q0 n0 c0 ha0 hc0 hm0 x hc hpos).mono fun e W' ⟨he, bel⟩ => ?_
  subst he
  exact ⟨_, rfl, _, _, _, [], p, [.cell 0 0], hW', trodAll_mk1 (shut_bool Tryd.underlying4 _), trodAll_mk1 (Below.trod laidOut (by kernel_rfl) (of_decide_eq_true (by kernel_rfl)) k0 bel lt0), vars_read1 enc gErr tErr Tryd.underlying93 (var_kept bel hpos hv) trivial _, bel.frame _, fun h => by cases h⟩

theorem fnOpsBefore_row : Rows.FnOpsBeforeSaid :=
  OpenClaim.holds_of_wide 10 Tryd.f10 rfl rfl rfl rfl rfl rfl rfl ⟨rfl, rfl, rfl, rfl, rfl⟩ rfl rfl rfl rfl rfl (by kernel_rfl) Tryd.func10 (by kernel_rfl)
    (of_decide_eq_true (by kernel_rfl)) (by unfold Func.isWrapper; first | (rw [if_pos (by decide +kernel)]; kernel_rfl) | (rw [if_neg (by decide +kernel)]; exact ⟨rfl, rfl⟩))
    (fun os started H enc _ => liftedFnOpsBefore os started H enc)

/-- THE STATEMENT. -/
theorem fnOpsBefore_holds : Rows.FnOpsBeforeCardSaid :=
  Claim7.holds_tied_plain_at .later [] Rows.fnOpsBeforeCard.laidKinds true Rows.fnOpsBeforeCard.stood.harness true
    fnOpsBefore_row (fun _ h => by cases h) (by kernel_rfl) (fun _ h => by cases h) fnOpsBefore_row_tie rfl ⟨rfl, rfl⟩ (by kernel_rfl) rfl
    (fun f fn hf hfn => by
      obtain rfl : f = 10 := Option.some.inj ((show Tryd.prog.funcNamed Rows.fnOpsBeforeRow.func = some 10 by kernel_rfl).symm.trans hf) |>.symm
      obtain rfl : fn = Tryd.f10 := (Option.some.inj (Tryd.func10.symm.trans hfn)).symm
      exact ⟨by kernel_rfl, fun j t ht => by
        rw [Tryd.params10] at ht
        have hm : t ∈ [22] := by simpa using Array.mem_of_getElem? ht
        have hall : ([22].all fun u => !Tryd.prog.wantsStandIn u) = true := by kernel_rfl
        exact (show Tryd.prog.wantsStandIn t = false by simpa using List.all_eq_true.1 hall t hm)⟩)
    (by kernel_rfl)
#print axioms fnOpsBefore_holds
end Go.Proofs.YtedanlmippfojaaDoor
