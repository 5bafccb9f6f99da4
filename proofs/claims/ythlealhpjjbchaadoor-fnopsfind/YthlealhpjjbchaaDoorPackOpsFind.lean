/-
  PROVED: what is found in drawn things is what is looked for, and the program's OpsFind answers as the specification's (the given card of FnOpsFind), for every input; the one listed variable, the program's error, reads as its own initialiser lays it.
-/
import Derived.Test.YthlealhpjjbchaaDoorPackA
import Derived.Test.YthlealhpjjbchaaDoorPackD
import Derived.Test.YthlealhpjjbchaaDoorRows
import Derived.WalkKit
import Derived.ProofKit
import Derived.OpenShut
import Derived.ChangeOld
import Derived.Below
import Derived.Lib.SmallJoins
import Derived.Stop.LaidErr
import Derived.LaidMore
import Derived.Stop.Joined
import Derived.ChangeSlices
import Derived.Test.YthlealhpjjbchaaDoorTie
import Derived.Test.YthlealhpjjbchaaDoorCards
import Derived.SevenTiedAt
namespace Go.Proofs.YthlealhpjjbchaaDoor
open Go.RowKit
set_option linter.unusedSimpArgs false
set_option linter.unusedVariables false
attribute [local go_sem ↓] Go.wp_at_zero Go.wp_at_succ

/-- Where the thing of an id stands, if what was done is ok. -/
def findB (l : List Op7) (r m : Int) : Int := if opsB l = true then findI l r m else -1
theorem opsB_parts {l : List Op7} (h : opsB l = true) : l.all okO = true ∧ ordB l = true := by
  unfold opsB at h
  simp only [Bool.and_eq_true] at h
  exact ⟨h.1, h.2.1⟩

set_option maxHeartbeats 1000000 in
theorem specFind_any (l : List Op7) (g cap : Nat) (r m : Int) (w : World) (hl : OpsAt w g l) (hn : l.length ≤ 1048576) (hcap : l.length ≤ cap) :
    Calls Tryd.prog 14 #[.slice (some ⟨g, 0, none⟩) l.length cap, .agg #[.int .i64 r, .int .i64 m]] w fun e w' => e = .returned (.int .i64 (findB l r m)) ∧ Below w.heap.size w w' := by
  have HL := hideIt hl
  have hgw := hl.1
  clear hl
  cases ho : opsB l
  all_goals
    have HO := hideIt ho
    clear ho
    go_enter Tryd.func14, Tryd.ntmps14
    go_wp2_with fail
    refine (specOps_any l _ _ _ (HL.out.below ((Below.refl _ _).alloc (Nat.le_refl _) _) hgw) hn hcap).mono ?_
    rintro e w1 ⟨rfl, hb1⟩
    rw [HO.out]
    have HB1 : Hid (Below w.heap.size w w1) := ((Below.refl _ _).alloc (Nat.le_refl _) _).trans (hb1.mono (by simp))
    have hc1 : ∀ o, w1.cell? ⟨w.heap.size, o, none⟩ = (w.alloc (.cells #[.int .i64 r, .int .i64 m] 30)).cell? ⟨w.heap.size, o, none⟩ := fun o => (bcell hb1).1 _ _ (by simp)
    clear hb1
  · go_wp2
    go_ret
    exact ⟨ret_int (by unfold findB; rw [HO.out]; rfl), HB1.out⟩
  · go_wp2_with fail
    refine (l1Find_any l _ _ _ _ _ (HL.out.below HB1.out hgw) hn hcap).mono ?_
    rintro e w2 ⟨rfl, hb2⟩
    have HB2 := hideIt (Bstep HB1.out hb2)
    clear hb2
    go_wp2
    go_ret
    exact ⟨ret_int (by unfold findB; rw [HO.out]; rfl), HB2.out⟩

theorem keepF {w w1 w2 : World} {u v : Value} (hb : Below w1.heap.size w1 w2)
    (h : w1.cell? ⟨w.heap.size, 0, none⟩ = some u ∧ w1.cell? ⟨w.heap.size, 1, none⟩ = some v ∧ w.heap.size < w1.heap.size ∧ Below w.heap.size w w1) :
    w2.cell? ⟨w.heap.size, 0, none⟩ = some u ∧ w2.cell? ⟨w.heap.size, 1, none⟩ = some v ∧ w.heap.size < w2.heap.size ∧ Below w.heap.size w w2 := by
  obtain ⟨h1, h2, h4, h5⟩ := h
  obtain ⟨hc, _⟩ := bcell hb
  exact ⟨(hc _ _ h4).trans h1, (hc _ _ h4).trans h2, Nat.lt_of_lt_of_le h4 hb.size, Bstep h5 hb⟩

set_option maxRecDepth 100000 in
set_option maxHeartbeats 1000000 in
theorem implFind_any (l : List Op7) (g cap : Nat) (r m : Int) (x : Addr) (w : World) (hl : OpsAt w g l) (hn : l.length ≤ 1048576) (hcap : l.length ≤ cap)
    (he : w.cell? ⟨0, 0, none⟩ = some (.iface 134 (.pointer (some x)))) (h0 : 0 < w.heap.size) :
    Calls Tryd.prog 13 #[.slice (some ⟨g, 0, none⟩) l.length cap, .agg #[.int .i64 r, .int .i64 m]] w fun e w' => e = .returned (.int .i64 (findB l r m)) ∧ Below w.heap.size w w' := by
  have HL := hideIt hl
  have hgw := hl.1
  clear hl
  go_enter Tryd.func13, Tryd.ntmps13
  go_wp2_with fail
  have HB0 : Hid (Below w.heap.size w (w.alloc (.cells #[.int .i64 r, .int .i64 m] 30))) := (Below.refl _ _).alloc (Nat.le_refl _) _
  refine (things_any l g cap x _ (HL.out.below HB0.out hgw) hn hcap (errB HB0.out h0 he) (posB HB0.out h0)).mono ?_
  rintro e w1 ⟨(⟨ht, M, hMM, rfl, hT⟩ | ⟨ht, rfl⟩), hb1⟩
  all_goals
    have HT := hideIt (ht.symm.trans (th_same l))
    have HB1 : Hid (Below w.heap.size w w1) := HB0.out.trans (hb1.mono (by simp))
    have herr1 : w1.cell? ⟨0, 0, none⟩ = some (.iface 134 (.pointer (some x))) := errB HB1.out h0 he
    have k0 : w1.cell? ⟨w.heap.size, 0, none⟩ = some (.int .i64 r) := by rw [(bcell hb1).1 _ _ (by simp)]; simp [go_sem]
    have k1 : w1.cell? ⟨w.heap.size, 1, none⟩ = some (.int .i64 m) := by rw [(bcell hb1).1 _ _ (by simp)]; simp [go_sem]
    have hz1 : w.heap.size < w1.heap.size := by have := hb1.size; simp at this; omega
    clear ht hb1
  · have HTT := hideIt hT
    have hM1 : M < w1.heap.size := hT.1
    obtain ⟨hok, hord⟩ := opsB_parts HT.out.symm
    have HOK := hideIt hok
    have HPL : Hid (placeI (cnt l 1) (cnt l 2) (cnt l 3) r m = findB l r m) := by
      show placeI _ _ _ _ _ = _
      rw [← find_place hok hord]; unfold findB; rw [← HT.out]; rfl
    have hlen := len_le hok hord
    have b1 : Hid ((0 ≤ cnt l 1 ∧ cnt l 1 ≤ 1048576) ∧ (0 ≤ cnt l 2 ∧ cnt l 2 ≤ 1048576)) := by
      have h1 := cnt_nonneg l 1
      have h2 := cnt_nonneg l 2
      have h3 := cnt_nonneg l 3
      have h4 := cnt_sum l
      exact ⟨⟨by omega, by omega⟩, ⟨by omega, by omega⟩⟩
    clear hT hok hord hMM
    go_wp2_with (first | (go_at_call 23; refine (is_nil x _).mono ?_; rintro e w'' ⟨rfl, rfl⟩))
    go_region_held3 (fun w' => w'.cell? ⟨w.heap.size, 0, none⟩ = some (.int .i64 r) ∧ w'.cell? ⟨w.heap.size, 1, none⟩ = some (.int .i64 m) ∧ w.heap.size < w'.heap.size ∧ Below w.heap.size w w')
      (first | exact keepF hb2 (by with_reducible assumption) | exact ⟨k0, k1, hz1, HB1.out.drew⟩)
      (first
        | (go_at_call 24; refine (count_any l M l.length _ (HTT.out.below ((Below.refl _ _).drew) hM1) hn (Nat.le_refl _) HOK.out).mono ?_; rintro e w2 ⟨rfl, hse, hfz2, hb2⟩; have HSE := hideIt hse; clear hse hfz2)
        | (go_at_call 31; refine (place_any _ _ _ _ _ _ _ HSE.out b1.out.1 b1.out.2).mono ?_; rintro e w3 ⟨rfl, hb2⟩; rw [HPL.out]))
    rename_i hS
    have HB3 := hideIt hS.2.2.2
    clear hS hb2
    go_wp2
    go_ret
    exact ⟨rfl, HB3.out⟩
  · go_wp2_with (first | (go_at_call 23; refine (is_same x _).mono ?_; rintro e w'' ⟨rfl, rfl⟩))
    go_ret
    exact ⟨ret_int (by unfold findB; rw [← HT.out]; rfl), HB1.out⟩
end Go.Proofs.YthlealhpjjbchaaDoor

namespace Go.Proofs.YthlealhpjjbchaaDoor
open Go.RowKit
set_option linter.unusedSimpArgs false
set_option linter.unusedVariables false
attribute [local go_sem ↓] Go.wp_at_zero Go.wp_at_succ

set_option maxHeartbeats 400000 in
theorem known_any (l : List Op7) (g cap : Nat) (r m : Int) (w : World) (hl : OpsAt w g l) (hn : l.length ≤ 1048576) (hcap : l.length ≤ cap) :
    Calls Tryd.prog 15 #[.slice (some ⟨g, 0, none⟩) l.length cap, .agg #[.int .i64 r, .int .i64 m]] w fun e w' => e = .returned (.bool (decide (0 ≤ findI l r m))) ∧ Below w.heap.size w w' := by
  go_enter Tryd.func15, Tryd.ntmps15
  go_wp2
  go_loopw [5] (fun i wr => ∃ k : Nat, k ≤ l.length ∧ i = .int .i64 k ∧ (∀ j (hj : j < l.length), j < k → hasId r m l[j] = false) ∧ wr.cell? ⟨w.heap.size, 0, none⟩ = some (.int .i64 r) ∧ wr.cell? ⟨w.heap.size, 1, none⟩ = some (.int .i64 m) ∧ Below w.heap.size w wr)
    (fun i _ => l.length - (intOf i).toNat)
  case atStart => exact ⟨0, Nat.zero_le _, rfl, fun j hj h => by omega, by simp [go_sem], by simp [go_sem], by go_grown⟩
  case round =>
    obtain ⟨k, hk, rfl, hno, hr, hm, hB⟩ := hrel
    have HN : Hid (∀ j (hj : j < l.length), j < k → hasId r m l[j] = false) := hno
    have HB : Hid (Below w.heap.size w wr) := hB
    by_cases hlt : k < l.length
    · obtain ⟨h0, h1, _⟩ := (hl.below hB hl.1).2 k l[k] (by simp [hlt])
      have HX : Hid (hasId r m l[k] = (l[k].a == r && l[k].b == m)) := rfl
      generalize l[k].a = xa at h0 HX
      generalize l[k].b = xb at h1 HX
      have hlt' : (k : Int) < (l.length : Int) := by omega
      have hk0 : (0 : Int) ≤ (k : Int) := by omega
      clear hno hB hl
      have hnext : Hid (hasId r m l[k] = false → ∀ j (hj : j < l.length), j < k + 1 → hasId r m l[j] = false) := fun hf j hj hj1 => by
        rcases Nat.lt_or_ge j k with h | h
        · exact HN.out j hj h
        · obtain rfl : j = k := by omega
          exact hf
      by_cases hxa : xa = r
      · subst hxa
        by_cases hxb : xb = m
        · subst hxb
          have hfin : Hid (findI l xa xb = k) := findI_some hlt (by rw [HX.out]; simp) (fun j hj => HN.out j (by omega) hj)
          go_wp2
          go_quiet (fail)
          go_wp2
          go_ret
          exact ⟨by rw [hfin.out]; simp, below_drewN HB.out _⟩
        · have hf : Hid (hasId xa m l[k] = false) := by show hasId xa m l[k] = false; rw [HX.out]; simp [hxb]
          go_wp2
          go_quiet (fail)
          go_wp2
          exact ⟨⟨k + 1, by omega, by go_num, hnext.out hf.out, by simpa using hr, by simpa using hm, below_drewN HB.out _⟩, by simp [intOf]; omega⟩
      · have hf : Hid (hasId r m l[k] = false) := by show hasId r m l[k] = false; rw [HX.out]; simp [hxa]
        go_wp2
        go_quiet (fail)
        go_wp2
        exact ⟨⟨k + 1, by omega, by go_num, hnext.out hf.out, by simpa using hr, by simpa using hm, below_drewN HB.out _⟩, by simp [intOf]; omega⟩
    · clear hno hB hl
      go_wp2
      go_ret
      exact ⟨(by rw [findI_none]; rfl; intro o ho; obtain ⟨j, hj, rfl⟩ := List.getElem_of_mem ho; exact HN.out j hj (by omega)), HB.out⟩
end Go.Proofs.YthlealhpjjbchaaDoor

namespace Go.Proofs.YthlealhpjjbchaaDoor
open Go.RowKit
set_option linter.unusedSimpArgs false
set_option linter.unusedVariables false
attribute [local go_sem ↓] Go.wp_at_zero Go.wp_at_succ

theorem find_hit {l : List Op7} {r m : Int} {j : Nat} (h : findI l r m = j) (hj : j < l.length) : l[j].a = r ∧ l[j].b = m := by
  unfold findI at h
  split at h
  · rename_i i hi
    have := List.findIdx?_eq_some_iff_getElem.1 hi
    obtain ⟨h1, h2, _⟩ := this
    have e : i = j := by omega
    subst e
    simpa [hasId] using h2
  · omega

set_option maxRecDepth 100000 in
set_option maxHeartbeats 4000000 in
theorem walkFindD (w : World) (p : Option Addr) (n cap : Nat) (h : ArgBytes w p n) (hcap : n ≤ cap) (hmax : cap ≤ maxLen) (x : Addr)
    (he : w.cell? ⟨0, 0, none⟩ = some (.iface 134 (.pointer (some x)))) (h0 : 0 < w.heap.size) :
    Calls Tryd.prog 4 #[.slice p n cap] w fun e w' => e = .returned (.bool true) ∧ Below w.heap.size w w' := by
  have H := hideIt h
  clear h
  by_cases hn : n ≤ 1048576
  · go_enter Tryd.func4, Tryd.ntmps4
    go_wp2_with fail
    refine (drawFind_any _ p n cap H.out hcap hn).mono ?_
    rintro e w1 ⟨G, c, _, r, s, rfl, ⟨L, rfl, hL, hS⟩, hb1⟩
    have HS := hideIt hS
    have HB := hideIt hb1
    clear hS hb1
    go_wp2_with fail
    have hB0 : Below w1.heap.size w1 (w1.alloc (.cells #[.int .i64 r, .int .i64 s] 30)) := (Below.refl _ _).alloc (Nat.le_refl _) _
    have x0 : (w1.alloc (.cells #[.int .i64 r, .int .i64 s] 30)).cell? ⟨w1.heap.size, 0, none⟩ = some (.int .i64 r) := by simp [go_sem]
    have x1 : (w1.alloc (.cells #[.int .i64 r, .int .i64 s] 30)).cell? ⟨w1.heap.size, 1, none⟩ = some (.int .i64 s) := by simp [go_sem]
    have hbx : w1.heap.size < (w1.alloc (.cells #[.int .i64 r, .int .i64 s] 30)).heap.size := by simp
    have HS := hideIt (HS.out.below hB0)
    have HB := hideIt (Bstep HB.out hB0)
    clear hB0
    generalize w1.alloc (.cells #[.int .i64 r, .int .i64 s] 30) = W at *
    generalize w1.heap.size = bx at *
    refine (implFind_any L G c r s x _ HS.out.at (by omega) HS.out.cap (errB HB.out h0 he) (posB HB.out h0)).mono ?_
    rintro e w2 ⟨rfl, hb2⟩
    have HS := hideIt (HS.out.below hb2)
    have HB := hideIt (Bstep HB.out hb2)
    have x0 : w2.cell? ⟨bx, 0, none⟩ = _ := ((bcell hb2).1 _ _ hbx).trans x0
    have x1 : w2.cell? ⟨bx, 1, none⟩ = _ := ((bcell hb2).1 _ _ hbx).trans x1
    have hbx : bx < w2.heap.size := Nat.lt_of_lt_of_le hbx hb2.size
    clear hb2
    have HF : Hid (findB L r s = findB L r s) := rfl
    cases ho : opsB L
    · have HO := hideIt ho
      clear ho
      have hfb : findB L r s = -1 := by unfold findB; rw [HO.out]; rfl
      rw [hfb]
      go_wp2_with (first
        | (go_at_call 14; refine (specFind_any L G c r s _ HS.out.at (by omega) HS.out.cap).mono ?_; rintro e w3 ⟨rfl, hb3⟩; rw [hfb]; have HS := hideIt (HS.out.below hb3); have HB := hideIt (Bstep HB.out hb3); have x0 : w3.cell? ⟨bx, 0, none⟩ = _ := ((bcell hb3).1 _ _ hbx).trans x0; have x1 : w3.cell? ⟨bx, 1, none⟩ = _ := ((bcell hb3).1 _ _ hbx).trans x1; have hbx : bx < w3.heap.size := Nat.lt_of_lt_of_le hbx hb3.size; clear hb3)
        | (go_at_call 11; refine (specOps_any L G c _ HS.out.at (by omega) HS.out.cap).mono ?_; rintro e w3 ⟨rfl, hb3⟩; rw [HO.out]; have HS := hideIt (HS.out.below hb3); have HB := hideIt (Bstep HB.out hb3); have x0 : w3.cell? ⟨bx, 0, none⟩ = _ := ((bcell hb3).1 _ _ hbx).trans x0; have x1 : w3.cell? ⟨bx, 1, none⟩ = _ := ((bcell hb3).1 _ _ hbx).trans x1; have hbx : bx < w3.heap.size := Nat.lt_of_lt_of_le hbx hb3.size; clear hb3))
      go_ret
      exact ⟨rfl, HB.out⟩
    · have HO := hideIt ho
      clear ho
      have hfb : findB L r s = findI L r s := by unfold findB; rw [HO.out]; rfl
      by_cases hf : findI L r s < 0
      · have hf1 : findI L r s = -1 := findI_m1 hf
        rw [hf1] at hfb
        rw [hfb]
        go_wp2_with (first
          | (go_at_call 14; refine (specFind_any L G c r s _ HS.out.at (by omega) HS.out.cap).mono ?_; rintro e w3 ⟨rfl, hb3⟩; rw [hfb]; have HS := hideIt (HS.out.below hb3); have HB := hideIt (Bstep HB.out hb3); have x0 : w3.cell? ⟨bx, 0, none⟩ = _ := ((bcell hb3).1 _ _ hbx).trans x0; have x1 : w3.cell? ⟨bx, 1, none⟩ = _ := ((bcell hb3).1 _ _ hbx).trans x1; have hbx : bx < w3.heap.size := Nat.lt_of_lt_of_le hbx hb3.size; clear hb3)
          | (go_at_call 11; refine (specOps_any L G c _ HS.out.at (by omega) HS.out.cap).mono ?_; rintro e w3 ⟨rfl, hb3⟩; rw [HO.out]; have HS := hideIt (HS.out.below hb3); have HB := hideIt (Bstep HB.out hb3); have x0 : w3.cell? ⟨bx, 0, none⟩ = _ := ((bcell hb3).1 _ _ hbx).trans x0; have x1 : w3.cell? ⟨bx, 1, none⟩ = _ := ((bcell hb3).1 _ _ hbx).trans x1; have hbx : bx < w3.heap.size := Nat.lt_of_lt_of_le hbx hb3.size; clear hb3)
          | (go_at_call 15; refine (known_any L G c r s _ HS.out.at (by omega) HS.out.cap).mono ?_; rintro e w3 ⟨rfl, hb3⟩; rw [hf1]; have HB := hideIt (Bstep HB.out hb3); clear hb3))
        go_ret
        exact ⟨rfl, HB.out⟩
      · obtain ⟨j, hj, hjl⟩ := findI_lt hf
        obtain ⟨e1, e2⟩ := find_hit hj hjl
        rw [hj] at hfb
        rw [hfb]
        clear hf hj
        have hj0 : (0 : Int) ≤ (j : Int) := by omega
        have hj1 : ¬ ((j : Int) < 0) := by omega
        have hjl' : (j : Int) < (L.length : Int) := by omega
        go_wp2_with (first
          | (go_at_call 14; refine (specFind_any L G c r s _ HS.out.at (by omega) HS.out.cap).mono ?_; rintro e w3 ⟨rfl, hb3⟩; rw [hfb]; have HS := hideIt (HS.out.below hb3); have HB := hideIt (Bstep HB.out hb3); have x0 : w3.cell? ⟨bx, 0, none⟩ = _ := ((bcell hb3).1 _ _ hbx).trans x0; have x1 : w3.cell? ⟨bx, 1, none⟩ = _ := ((bcell hb3).1 _ _ hbx).trans x1; have hbx : bx < w3.heap.size := Nat.lt_of_lt_of_le hbx hb3.size; clear hb3)
          | (go_at_call 11; refine (specOps_any L G c _ HS.out.at (by omega) HS.out.cap).mono ?_; rintro e w3 ⟨rfl, hb3⟩; rw [HO.out]; have HS := hideIt (HS.out.below hb3); have HB := hideIt (Bstep HB.out hb3); have x0 : w3.cell? ⟨bx, 0, none⟩ = _ := ((bcell hb3).1 _ _ hbx).trans x0; have x1 : w3.cell? ⟨bx, 1, none⟩ = _ := ((bcell hb3).1 _ _ hbx).trans x1; have hbx : bx < w3.heap.size := Nat.lt_of_lt_of_le hbx hb3.size; clear hb3; obtain ⟨y0, y1, _⟩ := HS.out.at.2 j _ (show L[j]? = some L[j] by simp [hjl]); rw [e1] at y0; rw [e2] at y1))
        go_quiet (fail)
        go_wp2
        go_ret
        exact ⟨rfl, below_drewN HB.out _⟩
  · go_enter Tryd.func4, Tryd.ntmps4
    unfold maxLen at *
    have hn' : (1048576 : Int) < (n : Int) := by omega
    go_wp2
    go_ret
    exact ⟨rfl, Below.refl _ _⟩
end Go.Proofs.YthlealhpjjbchaaDoor

namespace Go.Proofs.YthlealhpjjbchaaDoor
open Go.ChangeShapes Go.WideShapes Go.ChangeAt Go.RowKit Go.Joins

theorem own : ownKnob Tryd.prog.godebug = none := by kernel_rfl
theorem laidOut : laidOutB Tryd.prog = true := by kernel_rfl
theorem cells_int : Tryd.prog.cellsOf 3 = 1 := by kernel_rfl

/-- The name of the one listed variable. -/
abbrev errName : String := Rows.fnOpsSeenSpec.vars.headD ""
/-- What the rows list. -/
abbrev laid1 : List (String × DataW Unit) := Rows.fnOpsSeenRow.laid
theorem gErr : Tryd.prog.globalNamed errName = some 0 := by kernel_rfl
theorem tErr : (Tryd.prog.globals[0]?).map (·.type) = some 48 := by kernel_rfl
def nmOf : DataW Unit → String
  | .iface n _ => n
  | _ => ""
theorem star : "*" ++ "errors.errorString" = nmOf Rows.laid_loop_example_tatting_impl_errNoThing := by decide
theorem nameErr (u : TypeId) (h : Tryd.prog.typeName? 3 u = some (nmOf Rows.laid_loop_example_tatting_impl_errNoThing)) : u = 134 :=
  typeName_ptr_named (nm := "errors.errorString") (by rw [star]; kernel_rfl) (by kernel_rfl) (by decide) u (by rw [star]; exact h)

theorem door_met (os : Os) (args : Array Value) : laidMetH Tryd.prog laid1 ((World.doorLaid Tryd.prog 28 os).forCall (fun _ _ => 0) ⟨#[], args, []⟩).memory :=
  laidMetH_of_parts3 (fuel := 8) (laidMet_of_run' 8 (by kernel_rfl) (by kernel_rfl)) (by kernel_rfl) (by kernel_rfl)

/-- WHAT THE CONDITION GIVES THE WALKS: the one error's cell. -/
theorem of_laid {W : World} (h : laidMetH Tryd.prog laid1 W) : ∃ x : Addr, W.var? Tryd.prog errName = some #[.iface 134 (.pointer (some x))] ∧ W.cell? ⟨0, 0, none⟩ = some (.iface 134 (.pointer (some x))) ∧ 0 < W.heap.size := by
  rw [MakeChecks.laidMetH_plain _ _ _ (by kernel_rfl)] at h
  obtain ⟨x, s, hv, hc, _, _⟩ := laid_sentinel h gErr tErr Tryd.underlying48 nameErr Tryd.underlying134 Tryd.underlying160 rfl rfl Tryd.underlying9 (by kernel_rfl) (by kernel_rfl)
  have hcell : W.cell? ⟨0, 0, none⟩ = some (.iface 134 (.pointer (some x))) := by simpa using World.var?_cell gErr hv 0
  refine ⟨x, hv, hcell, ?_⟩
  rcases Nat.eq_zero_or_pos W.heap.size with h0 | h0
  · exfalso
    simp [World.cell?, Array.eq_empty_of_size_eq_zero h0] at hcell
  · exact h0

/-- The variable holds what it held, where nothing that was there has turned. -/
theorem var_kept {W W' : World} {x : Value} (hb : Below W.heap.size W W') (h0 : 0 < W.heap.size) (hv : W.var? Tryd.prog errName = some #[x]) : W'.var? Tryd.prog errName = some #[x] := by
  unfold World.var? at hv ⊢
  rw [gErr] at hv ⊢
  simp only [Option.bind_some] at hv ⊢
  rw [hb.block 0 h0]
  exact hv
end Go.Proofs.YthlealhpjjbchaaDoor

namespace Go.Proofs.YthlealhpjjbchaaDoor
open Go.ChangeShapes Go.WideShapes Go.ChangeAt Go.RowKit Go.Joins

theorem cells_byte : Tryd.prog.cellsOf 5 = 1 := by kernel_rfl

set_option maxRecDepth 100000 in
theorem open_bytes {H : Type} {enc : TypeId × Value → H} {w : World} {r : Reach} {b0 : Nat} {spare : Nat → Bool} {held : Bool} {v : Value} {d : DataW H} {p : List MemPlace}
    (hv : Value.okWide Tryd.prog w r b0 22 v) (h : DataW.Trod enc Tryd.prog w 0 spare held 22 v d p) :
    ∃ (q : Option Addr) (n cap : Nat), v = .slice q n cap ∧ n ≤ cap ∧ cap ≤ maxLen ∧ ArgBytes w q n := by
  obtain ⟨q, len, cap, rfl⟩ := okWide_slice Tryd.underlying22 hv
  obtain ⟨fuel, hf⟩ := h
  rcases open_ints Tryd.underlying22 Tryd.underlying5 cells_byte hf with ⟨hcs, _⟩ | ⟨a, len', cap', zs, hcs, _, hl, hm, hz, _, hcell, hwz⟩
  · simp [Value.cells] at hcs
    obtain ⟨rfl, rfl, rfl⟩ := hcs
    exact ⟨none, 0, 0, rfl, Nat.le_refl _, Nat.zero_le _, .inl rfl⟩
  · simp [Value.cells] at hcs
    obtain ⟨rfl, rfl, rfl⟩ := hcs
    refine ⟨some a, len, cap, rfl, hl, hm, ?_⟩
    have hlz : len ≤ zs.length := by rw [hz]; split <;> omega
    rcases Nat.eq_zero_or_pos len with h0 | h0
    · exact .inl h0
    obtain ⟨b, off, spot⟩ := a
    have hspot : spot = none := by simpa [Addr.add] using World.cell?_spot (hcell 0 (by omega))
    subst hspot
    refine .inr ⟨b, off, rfl, ?_, fun i hi => ?_⟩
    · have := World.block_lt_of_cell? w _ (hcell 0 (by omega))
      simpa [Addr.add_lit] using this
    · have hc := hcell i (by omega)
      rw [Addr.add_lit] at hc
      have hb := range_u8 hwz i
      exact ⟨zs.getD i 0, by simpa [List.getD] using hb.1, by simpa [List.getD] using hb.2, hc⟩

end Go.Proofs.YthlealhpjjbchaaDoor

namespace Go.Proofs.YthlealhpjjbchaaDoor
open Go.ChangeShapes Go.WideShapes Go.ChangeAt Go.RowKit Go.Joins

set_option maxRecDepth 100000 in
theorem liftedFnOpsFind (os : Os) (started : os.Started) (H : Type) (enc : TypeId × Value → H) :
    ReturnsInHanded {} Tryd.checked os 4 .any (fun w args => (Rows.fnOpsFindSpec.pre enc Tryd.prog Tryd.f4 [] false w args ∧ laidMetH Tryd.prog laid1 w) ∧ sizedMet enc Tryd.prog Tryd.f4 (OpenSpec.ofChange Rows.fnOpsFindSpec) false w args)
      (Rows.fnOpsFindSpec.post enc Tryd.prog Tryd.f4 false true false false) := by
  refine returnsInHanded_of_change_and (C := Tryd.checked) (X := fun w _ => laidMetH Tryd.prog laid1 w) (fun _ _ _ hh h => h.of_heap hh) own started (by kernel_rfl) Tryd.func4
    (ChangeSpec.witness_shaped (enc := enc) (C := Tryd.checked) (os := os) (X := fun w _ => laidMetH Tryd.prog laid1 w) false (World.doorLaid Tryd.prog 28 os) #[.slice none 0 0] 8 rfl (World.shaped_of_RefB (by kernel_rfl) (by kernel_rfl)) (by kernel_rfl) (by kernel_rfl) (by kernel_rfl) (door_met os _)) ?_
  intro W base args ds gs before hval0 hW _ _ hL _
  have hval : ∀ (j : Nat) t v, Tryd.f4.params[j]? = some t → args[j]? = some v → Value.okWide Tryd.prog W .any base t v := hval0
  have hW' := hW
  obtain ⟨p, q, hA0, hV0, rfl, hfz, hnd⟩ := hW
  have hA : DataW.TrodAll enc Tryd.prog W 0 (fun _ => true) true Tryd.f4.params.toList args.toList ds p := hA0
  have hV : DataW.TrodVars enc Tryd.prog W (fun _ => true) [errName] gs q := hV0
  rw [Tryd.params4] at hA hval
  obtain ⟨v0, d0, rfl, rfl, h0⟩ := trodAll_one hA
  have k0 := h0
  have lt0 : ∀ x ∈ p, x.block < W.heap.size := by obtain ⟨m, hm⟩ := k0; exact DataW.trod_lt m _ _ _ hm
  obtain ⟨x, hv, hc, hpos⟩ := of_laid hL
  obtain ⟨rfl, rfl⟩ := hV.unique (vars_read1 enc gErr tErr Tryd.underlying48 hv trivial _)
  obtain ⟨q0, n0, c0, rfl, hc0, hm0, ha0⟩ := open_bytes (hval 0 22 v0 rfl rfl) h0
  clear hA0 hV0 hval0
  refine (walkFindD W q0 n0 c0 ha0 hc0 hm0 x hc hpos).mono fun e W' ⟨he, bel⟩ => ?_
  subst he
  exact ⟨_, rfl, _, _, _, [], p, [.cell 0 0], hW', trodAll_mk1 (shut_bool Tryd.underlying4 _), trodAll_mk1 (Below.trod laidOut (by kernel_rfl) (of_decide_eq_true (by kernel_rfl)) k0 bel lt0), vars_read1 enc gErr tErr Tryd.underlying48 (var_kept bel hpos hv) trivial _, bel.frame _, fun h => by cases h⟩

theorem fnOpsFind_row : Rows.FnOpsFindSaid :=
  OpenClaim.holds_of_wide 4 Tryd.f4 rfl rfl rfl rfl rfl rfl rfl ⟨rfl, rfl, rfl, rfl, rfl⟩ rfl rfl rfl rfl rfl (by kernel_rfl) Tryd.func4 (by kernel_rfl)
    (of_decide_eq_true (by kernel_rfl)) (by unfold Func.isWrapper; first | (rw [if_pos (by decide +kernel)]; kernel_rfl) | (rw [if_neg (by decide +kernel)]; exact ⟨rfl, rfl⟩))
    (fun os started H enc _ => liftedFnOpsFind os started H enc)

/-- THE STATEMENT. -/
theorem fnOpsFind_holds : Rows.FnOpsFindCardSaid :=
  Claim7.holds_tied_plain_at .later [] Rows.fnOpsFindCard.laidKinds true Rows.fnOpsFindCard.stood.harness true
    fnOpsFind_row (fun _ h => by cases h) (by kernel_rfl) (fun _ h => by cases h) fnOpsFind_row_tie rfl ⟨rfl, rfl⟩ (by kernel_rfl) rfl
    (fun f fn hf hfn => by
      obtain rfl : f = 4 := Option.some.inj ((show Tryd.prog.funcNamed Rows.fnOpsFindRow.func = some 4 by kernel_rfl).symm.trans hf) |>.symm
      obtain rfl : fn = Tryd.f4 := (Option.some.inj (Tryd.func4.symm.trans hfn)).symm
      exact ⟨by kernel_rfl, fun j t ht => by
        rw [Tryd.params4] at ht
        have hm : t ∈ [22] := by simpa using Array.mem_of_getElem? ht
        have hall : ([22].all fun u => !Tryd.prog.wantsStandIn u) = true := by kernel_rfl
        exact (show Tryd.prog.wantsStandIn t = false by simpa using List.all_eq_true.1 hall t hm)⟩)
    (by kernel_rfl)
#print axioms fnOpsFind_holds
end Go.Proofs.YthlealhpjjbchaaDoor
