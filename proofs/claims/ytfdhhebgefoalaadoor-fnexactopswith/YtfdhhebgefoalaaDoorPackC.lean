/- Contracts of both OpsWith. -/
import Derived.Test.YtfdhhebgefoalaaDoorPackB
import Derived.Test.YtfdhhebgefoalaaDoorPackA
import Derived.RangeFuncBox
import Derived.Deep.RegionHeld3
namespace Go.Proofs.YtfdhhebgefoalaaDoor
open Go.RowKit
set_option linter.unusedSimpArgs false
set_option linter.unusedVariables false

/-- A sign in the row of all, and behind it all that was put on its right. -/
theorem side_at {l : List Op7} : ∀ (n d : Nat) (x : Int × Int × Int) (p : Op7), Up l d (x.1, x.2.1) → d + n = l.length + 2 → p ∈ sideO l n x →
    ∃ pre post n' d', Up l d' (p.a, p.b) ∧ d' + n' = l.length + 2 ∧ sideO l n x = pre ++ p :: (sideO l n' (p.a, p.b, 1) ++ post) := by
  intro n
  induction n with
  | zero => intro d x p _ _ h; cases h
  | succ n ih =>
    intro d x p hu hd hp
    obtain ⟨o, ho, hpo⟩ := List.mem_flatMap.1 hp
    have huo := up_kid ho hu
    obtain ⟨K1, K2, hK⟩ := List.append_of_mem ho
    have hS : sideO l (n + 1) x = sideK l n K1 ++ (sideO l n (o.a, o.b, 0) ++ o :: sideO l n (o.a, o.b, 1)) ++ sideK l n K2 := by
      rw [sideK_all, hK]
      simp [sideK]
    rcases List.mem_append.1 hpo with h | h
    · obtain ⟨pre, post, n', d', h1, h2, h3⟩ := ih (d + 1) (o.a, o.b, 0) p huo (by omega) h
      exact ⟨sideK l n K1 ++ pre, post ++ (o :: sideO l n (o.a, o.b, 1)) ++ sideK l n K2, n', d', h1, h2, by rw [hS, h3]; simp⟩
    · rcases List.mem_cons.1 h with rfl | h
      · exact ⟨sideK l n K1 ++ sideO l n (p.a, p.b, 0), sideK l n K2, n, d + 1, huo, by omega, by rw [hS]; simp⟩
      · obtain ⟨pre, post, n', d', h1, h2, h3⟩ := ih (d + 1) (o.a, o.b, 1) p huo (by omega) h
        exact ⟨sideK l n K1 ++ sideO l n (o.a, o.b, 0) ++ o :: pre, post ++ sideK l n K2, n', d', h1, h2, by rw [hS, h3]; simp⟩
theorem nodup_all {l : List Op7} (h : opsB l = true) : (allO l).Nodup := by
  obtain ⟨hok, hord⟩ := opsParts h
  have h1 := once_of hok hord
  exact nodup_side hok h1 (nodup_of_once h1) _ 0 _ Up.zero
/-- What was put on a sign's right stands behind it. -/
theorem all_next {l : List Op7} (h : opsB l = true) {j : Nat} {p : Op7} (hj : (allO l)[j]? = some p) (hk : kidsL l (p.a, p.b, 1) ≠ []) : j + 1 < (allO l).length := by
  obtain ⟨pre, post, n', d', h1, h2, h3⟩ := side_at (l := l) (l.length + 2) 0 (0, 0, 1) p Up.zero (by omega) (List.mem_of_getElem? hj)
  obtain ⟨y, hy⟩ := List.exists_mem_of_ne_nil _ hk
  have hu := up_le h (up_kid (x := (p.a, p.b, 1)) hy h1)
  obtain ⟨m, rfl⟩ : ∃ m, n' = m + 1 := ⟨n' - 1, by omega⟩
  have hmem : y ∈ sideO l (m + 1) (p.a, p.b, 1) := by
    rw [sideK_all]
    exact List.mem_flatMap.2 ⟨y, hy, by simp⟩
  have hpos : 0 < (sideO l (m + 1) (p.a, p.b, 1)).length := List.length_pos_of_mem hmem
  have hnd : (allO l).Nodup := nodup_all h
  have h3' : allO l = pre ++ p :: (sideO l (m + 1) (p.a, p.b, 1) ++ post) := h3
  have hlen : (allO l).length = pre.length + 1 + (sideO l (m + 1) (p.a, p.b, 1)).length + post.length := by rw [h3']; simp; omega
  have hlt : j < (allO l).length := (List.getElem?_eq_some_iff.1 hj).1
  have hp2 : (allO l)[pre.length]? = some p := by rw [h3']; simp
  have : j = pre.length := (List.getElem?_inj hlt hnd).1 (hj.trans hp2.symm)
  omega
/-- If something was put on the right of nothing, there is a first one. -/
theorem all_first {l : List Op7} (h : opsB l = true) (hk : kidsL l (0, 0, 1) ≠ []) : 0 < (allO l).length := by
  obtain ⟨y, hy⟩ := List.exists_mem_of_ne_nil _ hk
  exact List.length_pos_of_mem (a := y) (List.mem_flatMap.2 ⟨y, hy, by simp⟩)
/-- Where, among the first k leaves, those are that are not gone. -/
def shownTo (L : List Lf) (k : Nat) : List Nat := (List.range k).filter fun i => match L[i]? with | some x => !x.z | none => false
def shownI (L : List Lf) : List Nat := shownTo L L.length
theorem shownTo_gone {L : List Lf} {k : Nat} (hk : k < L.length) (h : L[k].z = true) : shownTo L (k + 1) = shownTo L k := by
  simp [shownTo, List.range_succ, List.filter_append, hk, h]
theorem shownTo_there {L : List Lf} {k : Nat} (hk : k < L.length) (h : L[k].z = false) : shownTo L (k + 1) = shownTo L k ++ [k] := by
  simp [shownTo, List.range_succ, List.filter_append, hk, h]
theorem shownTo_len (L : List Lf) (k : Nat) : (shownTo L k).length ≤ k := by
  have := List.length_filter_le (fun i => match L[i]? with | some x => !x.z | none => false) (List.range k)
  simpa [shownTo] using this
theorem shownI_lt {L : List Lf} {i : Nat} (h : i ∈ shownI L) : i < L.length := by
  have := (List.mem_filter.1 h).1
  simpa using this
/-- Things that are ok are 36 at most. -/
theorem ops_36 {l : List Op7} (h : opsB l = true) : l.length ≤ 36 := by
  obtain ⟨hok, hord⟩ := opsParts h
  have h1 := once_of hok hord
  have hnd : (l.map fun o => (o.a, o.b)).Nodup := by
    refine List.pairwise_iff_getElem.2 fun i j hi hj hij e => ?_
    simp only [List.length_map] at hi hj
    simp only [List.getElem_map, Prod.mk.injEq] at e
    have := h1 i j l[i] l[j] (by simp [hi]) (by simp [hj]) e.1 e.2
    omega
  have hsub : ∀ x ∈ (l.map fun o => (o.a, o.b)), x ∈ (List.range 3).flatMap fun i => (List.range 12).map fun j => (((i + 1 : Nat) : Int), ((j + 1 : Nat) : Int)) := by
    intro x hx
    obtain ⟨o, ho, rfl⟩ := List.mem_map.1 hx
    obtain ⟨a1, a3, b1, b12⟩ := okO_id (List.all_eq_true.1 hok o ho)
    refine List.mem_flatMap.2 ⟨(o.a - 1).toNat, by simp; omega, List.mem_map.2 ⟨(o.b - 1).toNat, by simp; omega, ?_⟩⟩
    refine Prod.ext ?_ ?_ <;> simp <;> omega
  have h36 := nodup_le _ _ hnd hsub
  rw [List.length_map] at h36
  exact Nat.le_trans h36 (by decide)
end Go.Proofs.YtfdhhebgefoalaaDoor

namespace Go.Proofs.YtfdhhebgefoalaaDoor
open Go.RowKit
set_option linter.unusedSimpArgs false
set_option linter.unusedVariables false
attribute [local go_sem ↓] Go.wp_at_zero Go.wp_at_succ

/-- Where the thing of an id stands, if what was done is ok. -/
def findB (l : List Op7) (r m : Int) : Int := if opsB l = true then findI l r m else -1
theorem opsB_parts {l : List Op7} (h : opsB l = true) : l.all okO = true ∧ ordB l = true := by
  unfold opsB at h
  simp only [Bool.and_eq_true] at h
  exact ⟨h.1, h.2.1⟩


theorem keepF {w w1 w2 : World} {u v : Value} (hb : Below w1.heap.size w1 w2)
    (h : w1.cell? ⟨w.heap.size, 0, none⟩ = some u ∧ w1.cell? ⟨w.heap.size, 1, none⟩ = some v ∧ w.heap.size < w1.heap.size ∧ Below w.heap.size w w1) :
    w2.cell? ⟨w.heap.size, 0, none⟩ = some u ∧ w2.cell? ⟨w.heap.size, 1, none⟩ = some v ∧ w.heap.size < w2.heap.size ∧ Below w.heap.size w w2 := by
  obtain ⟨h1, h2, h4, h5⟩ := h
  obtain ⟨hc, _⟩ := bcell hb
  exact ⟨(hc _ _ h4).trans h1, (hc _ _ h4).trans h2, Nat.lt_of_lt_of_le h4 hb.size, Bstep h5 hb⟩

set_option maxRecDepth 100000 in
set_option maxHeartbeats 1000000 in
theorem implFind_any (l : List Op7) (g cap : Nat) (r m : Int) (x : Addr) (w : World) (hl : OpsAt w g l) (hn : l.length ≤ 1048576) (hcap : l.length ≤ cap)
    (he : w.cell? ⟨0, 0, none⟩ = some (.iface 165 (.pointer (some x)))) (h0 : 0 < w.heap.size) :
    Calls Tryd.prog 74 #[.slice (some ⟨g, 0, none⟩) l.length cap, .agg #[.int .i64 r, .int .i64 m]] w fun e w' => e = .returned (.int .i64 (findB l r m)) ∧ Below w.heap.size w w' := by
  have HL := hideIt hl
  have hgw := hl.1
  clear hl
  go_enter Tryd.func74, Tryd.ntmps74
  go_wp2_with fail
  have HB0 : Hid (Below w.heap.size w (w.alloc (.cells #[.int .i64 r, .int .i64 m] 32))) := (Below.refl _ _).alloc (Nat.le_refl _) _
  refine (things_any l g cap x _ (HL.out.below HB0.out hgw) hn hcap (errB HB0.out h0 he) (posB HB0.out h0)).mono ?_
  rintro e w1 ⟨(⟨ht, M, hMM, rfl, hT⟩ | ⟨ht, rfl⟩), hb1⟩
  all_goals
    have HT := hideIt (ht.symm.trans (th_same l))
    have HB1 : Hid (Below w.heap.size w w1) := HB0.out.trans (hb1.mono (by simp))
    have herr1 : w1.cell? ⟨0, 0, none⟩ = some (.iface 165 (.pointer (some x))) := errB HB1.out h0 he
    have k0 : w1.cell? ⟨w.heap.size, 0, none⟩ = some (.int .i64 r) := by rw [(bcell hb1).1 _ _ (by simp)]; simp [go_sem]
    have k1 : w1.cell? ⟨w.heap.size, 1, none⟩ = some (.int .i64 m) := by rw [(bcell hb1).1 _ _ (by simp)]; simp [go_sem]
    have hz1 : w.heap.size < w1.heap.size := by have := hb1.size; simp at this; omega
    clear ht hb1
  · have HTT := hideIt hT
    have hM1 : M < w1.heap.size := hT.1
    obtain ⟨hok, hord⟩ := opsB_parts HT.out.symm
    have HOK := hideIt hok
    have HPL : Hid (placeI (cnt l 1) (cnt l 2) (cnt l 3) r m = findB l r m) := by
      show placeI _ _ _ _ _ = _
      rw [← find_place hok hord]; unfold findB; rw [← HT.out]; rfl
    have hlen := len_le hok hord
    have b1 : Hid ((0 ≤ cnt l 1 ∧ cnt l 1 ≤ 1048576) ∧ (0 ≤ cnt l 2 ∧ cnt l 2 ≤ 1048576)) := by
      have h1 := cnt_nonneg l 1
      have h2 := cnt_nonneg l 2
      have h3 := cnt_nonneg l 3
      have h4 := cnt_sum l
      exact ⟨⟨by omega, by omega⟩, ⟨by omega, by omega⟩⟩
    clear hT hok hord hMM
    go_wp2_with (first | (go_at_call 47; refine (is_nil x _).mono ?_; rintro e w'' ⟨rfl, rfl⟩))
    go_region_held3 (fun w' => w'.cell? ⟨w.heap.size, 0, none⟩ = some (.int .i64 r) ∧ w'.cell? ⟨w.heap.size, 1, none⟩ = some (.int .i64 m) ∧ w.heap.size < w'.heap.size ∧ Below w.heap.size w w')
      (first | exact keepF hb2 (by with_reducible assumption) | exact ⟨k0, k1, hz1, HB1.out.drew⟩)
      (first
        | (go_at_call 93; refine (count_any l M l.length _ (HTT.out.below ((Below.refl _ _).drew) hM1) hn (Nat.le_refl _) HOK.out).mono ?_; rintro e w2 ⟨rfl, hse, hfz2, hb2⟩; have HSE := hideIt hse; clear hse hfz2)
        | (go_at_call 92; refine (place_any _ _ _ _ _ _ _ HSE.out b1.out.1 b1.out.2).mono ?_; rintro e w3 ⟨rfl, hb2⟩; rw [HPL.out]))
    rename_i hS
    have HB3 := hideIt hS.2.2.2
    clear hS hb2
    go_wp2
    go_ret
    exact ⟨rfl, HB3.out⟩
  · go_wp2_with (first | (go_at_call 47; refine (is_same x _).mono ?_; rintro e w'' ⟨rfl, rfl⟩))
    go_ret
    exact ⟨ret_int (by unfold findB; rw [← HT.out]; rfl), HB1.out⟩
end Go.Proofs.YtfdhhebgefoalaaDoor

namespace Go.Proofs.YtfdhhebgefoalaaDoor
open Go.RowKit
set_option linter.unusedSimpArgs false
set_option linter.unusedVariables false

theorem opsB_all {l : List Op7} (h : opsB l = true) : l.all okO = true ∧ ordB l = true ∧ l.all (refsB l) = true ∧ l.all (deepF l (l.length + 1)) = true := by
  unfold opsB at h
  simp only [Bool.and_eq_true] at h
  exact ⟨h.1, h.2.1, h.2.2.1, h.2.2.2⟩
theorem next_mem {l : List Op7} {o p : Op7} (h : nextO l o = some p) : p ∈ l ∧ p.a = o.c ∧ p.b = o.d := by
  rw [nextO_find'] at h
  have h1 := List.mem_of_find?_eq_some h
  have h2 := List.find?_some h
  simp [hasId] at h2
  exact ⟨h1, h2.1, h2.2⟩
theorem deep_up {l : List Op7} (hr : l.all (refsB l) = true) : ∀ (n : Nat) (o : Op7), o ∈ l → deepF l n o = true → ∃ d, Up l d (o.c, o.d) := by
  intro n
  induction n with
  | zero => intro o _ h; simp [deepF] at h
  | succ n ih =>
    intro o ho h
    unfold deepF at h
    cases hb : noB o.c o.d
    · rw [hb] at h
      cases hx : nextO l o with
      | none => rw [hx] at h; simp at h
      | some p =>
        rw [hx] at h
        obtain ⟨hm, ha, hb'⟩ := next_mem hx
        have hk : p.k = 1 := by
          have := List.all_eq_true.1 hr o ho
          unfold refsB at this
          rw [hb, hx] at this
          simpa using this
        obtain ⟨d, hd⟩ := ih p hm (by simpa using h)
        have := Up.step hm hk hd
        rw [ha, hb'] at this
        exact ⟨d + 1, this⟩
    · unfold noB at hb
      have := of_decide_eq_true hb
      rw [this.1, this.2]
      exact ⟨0, Up.zero⟩
theorem put_up {l : List Op7} (h : opsB l = true) {o : Op7} (ho : o ∈ l) : ∃ d, Up l d (o.c, o.d) := by
  obtain ⟨_, _, h3, h4⟩ := opsB_all h
  exact deep_up h3 _ o ho (List.all_eq_true.1 h4 o ho)
theorem kid_of {l : List Op7} {o : Op7} (ho : o ∈ l) (hk : o.k = 1) : o ∈ kidsL l (o.c, o.d, o.s) := by
  unfold kidsL
  rw [List.mem_filter]
  exact ⟨ho, by simp [isKid, hk]⟩
theorem side_kid {l : List Op7} {n : Nat} {x : Int × Int × Int} {o : Op7} (ho : o ∈ kidsL l x) : o ∈ sideO l (n + 1) x ∧ ∀ s, s = 0 ∨ s = 1 → ∀ y ∈ sideO l n (o.a, o.b, s), y ∈ sideO l (n + 1) x := by
  rw [show sideO l (n + 1) x = (kidsL l x).flatMap fun o => sideO l n (o.a, o.b, 0) ++ o :: sideO l n (o.a, o.b, 1) from rfl]
  refine ⟨List.mem_flatMap.2 ⟨o, ho, by simp⟩, fun s hs y hy => List.mem_flatMap.2 ⟨o, ho, ?_⟩⟩
  rcases hs with rfl | rfl
  · exact List.mem_append.2 (.inl hy)
  · exact List.mem_append.2 (.inr (List.mem_cons_of_mem _ hy))
theorem put_side {l : List Op7} (h : opsB l = true) {o : Op7} (ho : o ∈ l) (hk : o.k = 1) : (o.c = 0 ∧ o.d = 0 ∧ o.s = 1) ∨ (1 ≤ o.c ∧ (o.s = 0 ∨ o.s = 1)) := by
  have := List.all_eq_true.1 (opsB_all h).1 o ho
  unfold okO at this
  rw [opB_true] at this
  omega
theorem up_all {l : List Op7} (h : opsB l = true) : ∀ (d : Nat) (o : Op7), o ∈ l → o.k = 1 → Up l d (o.c, o.d) → o ∈ allO l ∧ ∀ s, s = 0 ∨ s = 1 → ∀ y ∈ sideO l (l.length + 2 - (d + 1)) (o.a, o.b, s), y ∈ allO l := by
  intro d
  induction d with
  | zero =>
    intro o ho hk hu
    have e : o.c = 0 ∧ o.d = 0 := by
      rcases up_inv hu with ⟨_, hx⟩ | ⟨e, p, he, _⟩
      · exact ⟨congrArg Prod.fst hx, congrArg Prod.snd hx⟩
      · omega
    have hs : o.s = 1 := by
      rcases put_side h ho hk with ⟨_, _, h⟩ | ⟨h, _⟩
      · exact h
      · omega
    have hkid := kid_of ho hk
    rw [e.1, e.2, hs] at hkid
    exact side_kid (n := l.length + 1) hkid
  | succ d ih =>
    intro o ho hk hu
    have hle := up_le h (Up.step ho hk hu)
    rcases up_inv hu with ⟨h0, _⟩ | ⟨e, p, he, hm, hpk, hu', hx⟩
    · omega
    · obtain rfl : e = d := by omega
      have ha : o.c = p.a := congrArg Prod.fst hx
      have hb : o.d = p.b := congrArg Prod.snd hx
      have hpp := op_pos (opsB_all h).1 hm
      have hs : o.s = 0 ∨ o.s = 1 := by
        rcases put_side h ho hk with ⟨_, _, h⟩ | ⟨_, h⟩
        · exact .inr h
        · exact h
      obtain ⟨_, hsub⟩ := ih p hm hpk hu'
      have hkid := kid_of ho hk
      rw [ha, hb] at hkid
      have e1 : l.length + 2 - (e + 1) = (l.length + 2 - (e + 1 + 1)) + 1 := by omega
      rw [e1] at hsub
      obtain ⟨h1, h2⟩ := side_kid (n := l.length + 2 - (e + 1 + 1)) hkid
      exact ⟨hsub o.s hs o h1, fun s hs' y hy => hsub o.s hs y (h2 s hs' y hy)⟩
/-- What was put stands. -/
theorem all_mem {l : List Op7} (h : opsB l = true) {o : Op7} (ho : o ∈ l) (hk : o.k = 1) : o ∈ allO l := by
  obtain ⟨d, hd⟩ := put_up h ho
  exact (up_all h d o ho hk hd).1
theorem side_put {l : List Op7} (n : Nat) {x : Int × Int × Int} {p : Op7} (h : p ∈ sideO l n x) : p ∈ l ∧ p.k = 1 := by
  obtain ⟨j, hj⟩ := side_desc n h
  clear h
  induction j generalizing x with
  | zero =>
    simp only [Desc] at hj
    obtain ⟨h1, h2, _⟩ := mem_kids hj
    exact ⟨h1, h2⟩
  | succ j ih =>
    simp only [Desc] at hj
    obtain ⟨o, s, _, h⟩ := hj
    exact ih h
/-- Those that stand are those that were put. -/
theorem all_perm {l : List Op7} (h : opsB l = true) : (allO l).Perm (l.filter fun o => o.k == 1) := by
  have hl : l.Nodup := nodup_of_once (once_of (opsB_all h).1 (opsB_all h).2.1)
  refine (List.perm_ext_iff_of_nodup (nodup_all h) (hl.filter _)).2 fun o => ⟨fun ho => ?_, fun ho => ?_⟩
  · obtain ⟨h1, h2⟩ := side_put _ ho
    exact List.mem_filter.2 ⟨h1, by simp [h2]⟩
  · obtain ⟨h1, h2⟩ := List.mem_filter.1 ho
    exact all_mem h h1 (by simpa using h2)
end Go.Proofs.YtfdhhebgefoalaaDoor

namespace Go.Proofs.YtfdhhebgefoalaaDoor
open Go.RowKit
set_option linter.unusedSimpArgs false
set_option linter.unusedVariables false
attribute [local go_sem ↓] Go.wp_at_zero Go.wp_at_succ

/-- The cells of things. -/
def opCells (L : List Op7) : List Value := L.flatMap fun o => [.int .i64 o.a, .int .i64 o.b, .int .i64 o.k, .int .i64 o.c, .int .i64 o.d, .int .i64 o.s, .int .i64 o.g]
theorem opCells_len : ∀ L : List Op7, (opCells L).length = L.length * 7
  | [] => rfl
  | x :: r => by have := opCells_len r; simp [opCells] at this ⊢; omega
theorem opCells_app (L M : List Op7) : opCells (L ++ M) = opCells L ++ opCells M := by simp [opCells]
theorem opCells_one : ∀ L, ∀ u ∈ opCells L, u.oneCell' = true := by
  intro L u hu
  unfold opCells at hu
  obtain ⟨o, _, ho⟩ := List.mem_flatMap.1 hu
  simp at ho
  rcases ho with rfl | rfl | rfl | rfl | rfl | rfl | rfl <;> rfl
theorem opCells_at : ∀ (L : List Op7) (i : Nat) (o : Op7), L[i]? = some o → (opCells L)[i * 7]? = some (.int .i64 o.a) ∧ (opCells L)[i * 7 + 1]? = some (.int .i64 o.b) ∧ (opCells L)[i * 7 + 2]? = some (.int .i64 o.k) ∧ (opCells L)[i * 7 + 3]? = some (.int .i64 o.c) ∧ (opCells L)[i * 7 + 4]? = some (.int .i64 o.d) ∧ (opCells L)[i * 7 + 5]? = some (.int .i64 o.s) ∧ (opCells L)[i * 7 + 6]? = some (.int .i64 o.g)
  | [], i, o, h => by simp at h
  | y :: r, 0, o, h => by simp at h; subst h; simp [opCells]
  | y :: r, i + 1, o, h => by
    have h' := opCells_at r i o (by simpa using h)
    have e : opCells (y :: r) = [.int .i64 y.a, .int .i64 y.b, .int .i64 y.k, .int .i64 y.c, .int .i64 y.d, .int .i64 y.s, .int .i64 y.g] ++ opCells r := by simp [opCells]
    have hs : ∀ j, (opCells (y :: r))[(i + 1) * 7 + j]? = (opCells r)[i * 7 + j]? := fun j => by
      rw [e, List.getElem?_append_right (by simp; omega)]
      congr 1
      simp
      omega
    have h0 := hs 0
    simp only [Nat.add_zero] at h0
    rw [h0, hs 1, hs 2, hs 3, hs 4, hs 5, hs 6]
    exact h'
/-- A row of things of one's own. -/
def OwnOps (w : World) (base : Nat) (g cap : Nat) (L : List Op7) : Prop := w.ownsRow base 34 7 (.slice (some ⟨g, 0, none⟩) L.length cap) L.length (opCells L)
theorem OwnOps.at {w : World} {base g cap : Nat} {L : List Op7} (h : OwnOps w base g cap L) : OpsAt w g L := by
  refine ⟨(World.ownsRow.lt h g rfl).2, fun i o ho => ?_⟩
  obtain ⟨h0, h1, h2, h3, h4, h5, h6⟩ := opCells_at L i o ho
  have hi : i < L.length := (List.getElem?_eq_some_iff.1 ho).1
  have hc : ∀ j, j < L.length * 7 → w.cell? ⟨g, j, none⟩ = (opCells L)[j]? := fun j hj => World.ownsRow.cellAt h j hj
  exact ⟨(hc _ (by omega)).trans h0, (hc _ (by omega)).trans h1, (hc _ (by omega)).trans h2, (hc _ (by omega)).trans h3, (hc _ (by omega)).trans h4, (hc _ (by omega)).trans h5, (hc _ (by omega)).trans h6⟩
theorem OwnOps.cap {w : World} {base g cap : Nat} {L : List Op7} (h : OwnOps w base g cap L) : L.length ≤ cap := by
  rcases h.2 with ⟨h, _⟩ | ⟨g', c', cur, h, _, _, h2, _⟩
  · cases h
  · cases h; exact h2
theorem OwnOps.below {w w' : World} {base g cap : Nat} {L : List Op7} (h : OwnOps w base g cap L) (hb : Below w.heap.size w w') : OwnOps w' base g cap L :=
  World.ownsRow.kept h (row := none) ⟨hb.os, hb.tape, hb.output, hb.size, fun i hi _ => hb.block i hi⟩ (.inr (by simp [Value.ownBlock]))
theorem infoOp : (Tryd.prog.info? 34).map (fun i => (i.zero, i.size, i.bytes)) = some (some (.agg #[.int .i64 0, .int .i64 0, .int .i64 0, .int .i64 0, .int .i64 0, .int .i64 0, .int .i64 0]), 7, 56) := by kernel_rfl

theorem blkCell {W : World} {b : Nat} {cur : Array Value} {T : TypeId} (h : W.heap[b]? = some (.cells cur T (0, 0))) (j : Nat) : W.cell? ⟨b, j, none⟩ = cur[j]? := by simp [World.cell?, h]
/-- One is ahead of another. -/
def lessB (p q : Op7) : Bool := decide (p.a < q.a ∨ (p.a = q.a ∧ p.b < q.b))
/-- What was done, with something more. -/
def withL (l : List Op7) (o : Op7) : List Op7 := l.filter (fun p => lessB p o) ++ [o] ++ l.filter (fun p => lessB o p)

set_option maxRecDepth 100000 in
set_option maxHeartbeats 2000000 in
theorem specLess_any (a b c d : Int) (w : World) :
    Calls Tryd.prog 52 #[.agg #[.int .i64 a, .int .i64 b], .agg #[.int .i64 c, .int .i64 d]] w fun e w' => e = .returned (.bool (decide (a < c ∨ (a = c ∧ b < d)))) ∧ Below w.heap.size w w' := by
  go_enter Tryd.func52, Tryd.ntmps52
  by_cases h1 : a < c
  · go_wp2
    go_ret
    exact ⟨by simp [h1], by go_grown⟩
  · by_cases h2 : a = c
    · subst h2
      go_wp2
      go_ret
      exact ⟨by simp, by go_grown⟩
    · go_wp2
      go_ret
      exact ⟨by simp [h1, h2], by go_grown⟩
end Go.Proofs.YtfdhhebgefoalaaDoor

namespace Go.Proofs.YtfdhhebgefoalaaDoor
open Go.RowKit
set_option linter.unusedSimpArgs false
set_option linter.unusedVariables false
attribute [local go_sem ↓] Go.wp_at_zero Go.wp_at_succ

/-- Where l3With stands: what it has so far, and the thing in its box. -/
structure WL (w wr : World) (o : Op7) (v : Value) (L : List Op7) : Prop where
  row : wr.ownsRow (w.heap.size + 1) 34 7 v L.length (opCells L)
  box : wr.heap[w.heap.size]? = some (.cells #[.int .i64 o.a, .int .i64 o.b, .int .i64 o.k, .int .i64 o.c, .int .i64 o.d, .int .i64 o.s, .int .i64 o.g] 34 (0, 0))
  bel : Below w.heap.size w wr
theorem WL.lt {w wr : World} {o : Op7} {v : Value} {L : List Op7} (h : WL w wr o v L) : w.heap.size < wr.heap.size := (Array.getElem?_eq_some_iff.1 h.box).1
theorem WL.below {w wr w' : World} {o : Op7} {v : Value} {L : List Op7} (h : WL w wr o v L) (hb : Below wr.heap.size wr w') : WL w w' o v L :=
  ⟨h.row.kept (row := none) ⟨hb.os, hb.tape, hb.output, hb.size, fun i hi _ => hb.block i hi⟩ (by cases v.ownBlock <;> simp), (hb.block _ h.lt).trans h.box, Bstep h.bel hb⟩
theorem WL.app {w wr w' : World} {o : Op7} {v v' : Value} {L M : List Op7} (h : WL w wr o v L) (hg : wr.grownBy w' v.ownBlock) (hown : w'.ownsRow (w.heap.size + 1) 34 7 v' (L.length + M.length) (opCells L ++ opCells M)) : WL w w' o v' (L ++ M) :=
  ⟨by rw [opCells_app, List.length_append]; exact hown, (hg.block _ h.lt (fun e => by have := (h.row.lt _ e.symm).1; omega)).trans h.box, below_grown h.bel hg h.bel.size (fun j e => by have := (h.row.lt j e).1; omega)⟩
/-- The two cells of the thing's id. -/
theorem WL.id {w wr : World} {o : Op7} {v : Value} {L : List Op7} (h : WL w wr o v L) : wr.cell? ⟨w.heap.size, 0, none⟩ = some (.int .i64 o.a) ∧ wr.cell? ⟨w.heap.size, 1, none⟩ = some (.int .i64 o.b) ∧ wr.cell? ⟨w.heap.size, 2, none⟩ = some (.int .i64 o.k) ∧ wr.cell? ⟨w.heap.size, 3, none⟩ = some (.int .i64 o.c) ∧ wr.cell? ⟨w.heap.size, 4, none⟩ = some (.int .i64 o.d) ∧ wr.cell? ⟨w.heap.size, 5, none⟩ = some (.int .i64 o.s) ∧ wr.cell? ⟨w.heap.size, 6, none⟩ = some (.int .i64 o.g) :=
  ⟨(blkCell h.box 0).trans rfl, (blkCell h.box 1).trans rfl, (blkCell h.box 2).trans rfl, (blkCell h.box 3).trans rfl, (blkCell h.box 4).trans rfl, (blkCell h.box 5).trans rfl, (blkCell h.box 6).trans rfl⟩
/-- Of the first k those that are ahead; and those that are behind. -/
def fstL (l : List Op7) (o : Op7) (k : Nat) : List Op7 := (l.take k).filter fun p => lessB p o
def sndL (l : List Op7) (o : Op7) (k : Nat) : List Op7 := (l.take k).filter fun p => lessB o p
theorem fst_yes {l : List Op7} {o : Op7} {k : Nat} (hk : k < l.length) (h : lessB l[k] o = true) : fstL l o (k + 1) = fstL l o k ++ [l[k]] := by unfold fstL; rw [List.take_succ_eq_append_getElem hk, List.filter_append]; simp [h]
theorem fst_no {l : List Op7} {o : Op7} {k : Nat} (hk : k < l.length) (h : lessB l[k] o = false) : fstL l o (k + 1) = fstL l o k := by unfold fstL; rw [List.take_succ_eq_append_getElem hk, List.filter_append]; simp [h]
theorem snd_yes {l : List Op7} {o : Op7} {k : Nat} (hk : k < l.length) (h : lessB o l[k] = true) : sndL l o (k + 1) = sndL l o k ++ [l[k]] := by unfold sndL; rw [List.take_succ_eq_append_getElem hk, List.filter_append]; simp [h]
theorem snd_no {l : List Op7} {o : Op7} {k : Nat} (hk : k < l.length) (h : lessB o l[k] = false) : sndL l o (k + 1) = sndL l o k := by unfold sndL; rw [List.take_succ_eq_append_getElem hk, List.filter_append]; simp [h]
/-- All so far: those ahead, the thing, those behind. -/
def bothL (l : List Op7) (o : Op7) (k : Nat) : List Op7 := fstL l o l.length ++ [o] ++ sndL l o k
theorem both_yes {l : List Op7} {o : Op7} {k : Nat} (hk : k < l.length) (h : lessB o l[k] = true) : bothL l o (k + 1) = bothL l o k ++ [l[k]] := by unfold bothL; rw [snd_yes hk h, ← List.append_assoc]
theorem both_no {l : List Op7} {o : Op7} {k : Nat} (hk : k < l.length) (h : lessB o l[k] = false) : bothL l o (k + 1) = bothL l o k := by unfold bothL; rw [snd_no hk h]
theorem both_zero (l : List Op7) (o : Op7) : bothL l o 0 = fstL l o l.length ++ [o] := by simp [bothL, sndL]
theorem both_all (l : List Op7) (o : Op7) : bothL l o l.length = withL l o := by simp [bothL, fstL, sndL, withL]
theorem fst_len (l : List Op7) (o : Op7) (k : Nat) : (fstL l o k).length ≤ l.length := Nat.le_trans (List.length_filter_le _ _) (List.length_take_le' _ _)
theorem snd_len (l : List Op7) (o : Op7) (k : Nat) : (sndL l o k).length ≤ l.length := Nat.le_trans (List.length_filter_le _ _) (List.length_take_le' _ _)
theorem both_len (l : List Op7) (o : Op7) (k : Nat) : (bothL l o k).length ≤ 2 * l.length + 1 := by
  have h1 := fst_len l o l.length
  have h2 := snd_len l o k
  unfold bothL
  rw [List.length_append, List.length_append]
  simp only [List.length_cons, List.length_nil]
  omega

set_option maxRecDepth 100000 in
set_option maxHeartbeats 4000000 in
theorem l3With_any (l : List Op7) (g cap : Nat) (o : Op7) (w : World) (hl : OpsAt w g l) (hn : l.length ≤ 1048576) (hcap : l.length ≤ cap) :
    Calls Tryd.prog 38 #[.slice (some ⟨g, 0, none⟩) l.length cap, .agg #[.int .i64 o.a, .int .i64 o.b, .int .i64 o.k, .int .i64 o.c, .int .i64 o.d, .int .i64 o.s, .int .i64 o.g]] w fun e w' => ∃ G c, e = .returned (.slice (some ⟨G, 0, none⟩) (withL l o).length c) ∧ OwnOps w' w.heap.size G c (withL l o) ∧ Below w.heap.size w w' := by
  have HL := hideIt hl
  have hgw := hl.1
  clear hl
  obtain ⟨i0, hi, hz0', hz1', hz2⟩ := info_parts infoOp
  have HI1 := hideIt hi
  have HZ0 := hideIt hz0'
  have HZ1 := hideIt hz1'
  have HZ2 := hideIt hz2
  clear hi hz0' hz1' hz2
  go_enter Tryd.func38, Tryd.ntmps38
  go_wp2
  have HST : Hid (WL w ((w.alloc (.cells #[.int .i64 o.a, .int .i64 o.b, .int .i64 o.k, .int .i64 o.c, .int .i64 o.d, .int .i64 o.s, .int .i64 o.g] 34)).alloc (.cells #[] 34)) o (.slice (some ⟨w.heap.size + 1, 0, none⟩) 0 0) []) := by
    refine ⟨?_, ?_, ((Below.refl _ _).alloc (Nat.le_refl _) _).alloc (by simp) _⟩
    · have h := World.ownsRow_made (base := w.heap.size + 1) (e := 34) (size := 7) (w.alloc (.cells #[.int .i64 o.a, .int .i64 o.b, .int .i64 o.k, .int .i64 o.c, .int .i64 o.d, .int .i64 o.s, .int .i64 o.g] 34)) #[] 0 (by simp) (Nat.zero_le _) rfl
      simp only [World.size_alloc] at h
      exact h
    · exact (Below.heap_alloc _ _ _ (by simp)).trans (World.alloc_heap_new w _)
  go_loopw [5, 6] (fun v i wr => ∃ k G c : Nat, k ≤ l.length ∧ i = .int .i64 k ∧ v = .slice (some ⟨G, 0, none⟩) (fstL l o k).length c ∧ WL w wr o v (fstL l o k))
    (fun _ i _ => l.length - (intOf i).toNat)
  case atStart => exact ⟨0, _, _, Nat.zero_le _, rfl, rfl, HST.out⟩
  case round =>
    obtain ⟨k, Gb, cb, hk, rfl, rfl, hS⟩ := hrel
    have HS := hideIt hS
    have hgr : g < wr.heap.size := Nat.lt_of_lt_of_le hgw hS.bel.size
    have hwr := hS.lt
    have hfl := fst_len l o k
    clear hS
    by_cases hlt : k < l.length
    · obtain ⟨y0, y1, y2, y3, y4, y5, y6⟩ := (HL.out.below HS.out.bel hgw).2 k l[k] (by simp [hlt])
      obtain ⟨b0, b1, b2, b3, b4, b5, b6⟩ := HS.out.id
      have hpk : l[k]? = some l[k] := by simp [hlt]
      have hyes : Hid (lessB l[k] o = true → fstL l o (k + 1) = fstL l o k ++ [l[k]]) := fst_yes hlt
      have hno : Hid (lessB l[k] o = false → fstL l o (k + 1) = fstL l o k) := fst_no hlt
      generalize l[k] = p at *
      have hlt' : (k : Int) < (l.length : Int) := by omega
      have hk0 : (0 : Int) ≤ (k : Int) := by omega
      cases hz : lessB p o
      all_goals
        have HZ := hideIt hz
        clear hz
        go_wp2
        go_region_held3 (fun w' => w'.cell? ⟨g, k * 7, none⟩ = some (.int .i64 p.a) ∧ w'.cell? ⟨g, k * 7 + 1, none⟩ = some (.int .i64 p.b) ∧ w'.cell? ⟨w.heap.size, 0, none⟩ = some (.int .i64 o.a) ∧ w'.cell? ⟨w.heap.size, 1, none⟩ = some (.int .i64 o.b))
          (first | exact ⟨y0, y1, b0, b1⟩ | exact ⟨((bcell hb2).1 g _ hgr).trans y0, ((bcell hb2).1 g _ hgr).trans y1, ((bcell hb2).1 _ _ hwr).trans b0, ((bcell hb2).1 _ _ hwr).trans b1⟩)
          (first | (go_at_call 52; refine (specLess_any _ _ _ _ _).mono ?_; rintro e w2 ⟨rfl, hb2⟩; have HS2 : Hid (WL w w2 o (.slice (some ⟨Gb, 0, none⟩) (fstL l o k).length cb) (fstL l o k)) := (HS.out.below ((Below.refl _ _).drew)).below hb2; rw [show decide (p.a < o.a ∨ p.a = o.a ∧ p.b < o.b) = _ from HZ.out]))
        rename_i hHH
        clear hHH hb2 y0 y1 y2 y3 y4 y5 y6 b0 b1 b2 b3 b4 b5 b6
      · have HE := hideIt (hno.out HZ.out)
        go_wp2
        exact ⟨⟨k + 1, Gb, cb, by omega, by go_num, by rw [HE.out], by rw [HE.out]; exact HS2.out⟩, by simp [intOf]; omega⟩
      · have HE := hideIt (hyes.out HZ.out)
        obtain ⟨y0, y1, y2, y3, y4, y5, y6⟩ := (HL.out.below HS2.out.bel hgw).2 k p hpk
        have hgr2 : g < w2.heap.size := Nat.lt_of_lt_of_le hgw HS2.out.bel.size
        have hwr2 := HS2.out.lt
        go_wp2_with (first
          | (at_builtin; refine wpList_append_own_at _ rfl _ _ 28 rfl (w.heap.size + 1) 34 i0 _ 7 56 Tryd.underlying28 HI1.out HZ0.out HZ1.out HZ2.out rfl (by decide) _ _ _ rfl (HS2.out.row.alloc _) ⟨w2.heap.size, 0, none⟩ 1 1 (opCells [p]) rfl rfl (cells_new w2 (opCells [p]) 34) (opCells_one _) (by (try simp only [List.length_append, List.length_cons, List.length_nil]); unfold maxLen; omega) (by (try simp only [List.length_append, List.length_cons, List.length_nil]); omega) (by simp; omega) ?_; intro v' w3 hown3 hg3 _ _;
              obtain ⟨g', cap', hv'⟩ := ownsRow_succ hown3; subst hv';
              have HS3 := hideIt (WL.app (M := [p]) (HS2.out.below ((Below.refl _ _).alloc (Nat.le_refl _) _)) hg3 hown3); clear hown3 hg3))
        exact ⟨⟨k + 1, g', cap', by omega, by go_num, by rw [HE.out, List.length_append]; rfl, by rw [HE.out]; exact HS3.out⟩, by simp [intOf]; omega⟩
    · obtain rfl : k = l.length := by omega
      obtain ⟨b0, b1, b2, b3, b4, b5, b6⟩ := HS.out.id
      go_wp2_with (first
        | (at_builtin; refine wpList_append_own_at _ rfl _ _ 28 rfl (w.heap.size + 1) 34 i0 _ 7 56 Tryd.underlying28 HI1.out HZ0.out HZ1.out HZ2.out rfl (by decide) _ _ _ rfl (HS.out.row.alloc _) ⟨wr.heap.size, 0, none⟩ 1 1 (opCells [o]) rfl rfl (cells_new wr (opCells [o]) 34) (opCells_one _) (by unfold maxLen; omega) (by omega) (by simp; omega) ?_; intro v' w3 hown3 hg3 _ _;
            obtain ⟨g', cap', hv'⟩ := ownsRow_succ hown3; subst hv';
            have HS3 := hideIt (WL.app (M := [o]) (HS.out.below ((Below.refl _ _).alloc (Nat.le_refl _) _)) hg3 hown3); clear hown3 hg3))
      clear b0 b1 b2 b3 b4 b5 b6 hwr hgr
      have hfl' := fst_len l o l.length
      go_loopw [5, 7] (fun v i wr => ∃ k G c : Nat, k ≤ l.length ∧ i = .int .i64 k ∧ v = .slice (some ⟨G, 0, none⟩) (bothL l o k).length c ∧ WL w wr o v (bothL l o k))
        (fun _ i _ => l.length - (intOf i).toNat)
      case atStart => exact ⟨0, g', cap', Nat.zero_le _, rfl, by rw [both_zero, List.length_append]; rfl, by rw [both_zero]; exact HS3.out⟩
      case round =>
        clear HS HS3
        obtain ⟨k, Gb, cb, hk, rfl, rfl, hS⟩ := hrel
        have HS := hideIt hS
        have hgr : g < wr.heap.size := Nat.lt_of_lt_of_le hgw hS.bel.size
        have hwr := hS.lt
        have hsl := both_len l o k
        clear hS
        by_cases hlt : k < l.length
        · obtain ⟨y0, y1, y2, y3, y4, y5, y6⟩ := (HL.out.below HS.out.bel hgw).2 k l[k] (by simp [hlt])
          obtain ⟨b0, b1, b2, b3, b4, b5, b6⟩ := HS.out.id
          have hpk : l[k]? = some l[k] := by simp [hlt]
          have hyes : Hid (lessB o l[k] = true → bothL l o (k + 1) = bothL l o k ++ [l[k]]) := both_yes hlt
          have hno : Hid (lessB o l[k] = false → bothL l o (k + 1) = bothL l o k) := both_no hlt
          generalize l[k] = p at *
          have hlt' : (k : Int) < (l.length : Int) := by omega
          have hk0 : (0 : Int) ≤ (k : Int) := by omega
          cases hz : lessB o p
          all_goals
            have HZ := hideIt hz
            clear hz
            go_wp2
            go_region_held3 (fun w' => w'.cell? ⟨g, k * 7, none⟩ = some (.int .i64 p.a) ∧ w'.cell? ⟨g, k * 7 + 1, none⟩ = some (.int .i64 p.b) ∧ w'.cell? ⟨w.heap.size, 0, none⟩ = some (.int .i64 o.a) ∧ w'.cell? ⟨w.heap.size, 1, none⟩ = some (.int .i64 o.b))
              (first | exact ⟨y0, y1, b0, b1⟩ | exact ⟨((bcell hb2).1 g _ hgr).trans y0, ((bcell hb2).1 g _ hgr).trans y1, ((bcell hb2).1 _ _ hwr).trans b0, ((bcell hb2).1 _ _ hwr).trans b1⟩)
              (first | (go_at_call 52; refine (specLess_any _ _ _ _ _).mono ?_; rintro e w2 ⟨rfl, hb2⟩; have HS2 : Hid (WL w w2 o (.slice (some ⟨Gb, 0, none⟩) (bothL l o k).length cb) (bothL l o k)) := (HS.out.below ((Below.refl _ _).drew)).below hb2; rw [show decide (o.a < p.a ∨ o.a = p.a ∧ o.b < p.b) = _ from HZ.out]))
            rename_i hHH
            clear hHH hb2 y0 y1 y2 y3 y4 y5 y6 b0 b1 b2 b3 b4 b5 b6
          · have HE := hideIt (hno.out HZ.out)
            go_wp2
            exact ⟨⟨k + 1, Gb, cb, by omega, by go_num, by rw [HE.out], by rw [HE.out]; exact HS2.out⟩, by simp [intOf]; omega⟩
          · have HE := hideIt (hyes.out HZ.out)
            obtain ⟨y0, y1, y2, y3, y4, y5, y6⟩ := (HL.out.below HS2.out.bel hgw).2 k p hpk
            have hgr2 : g < w2.heap.size := Nat.lt_of_lt_of_le hgw HS2.out.bel.size
            have hwr2 := HS2.out.lt
            go_wp2_with (first
              | (at_builtin; refine wpList_append_own_at _ rfl _ _ 28 rfl (w.heap.size + 1) 34 i0 _ 7 56 Tryd.underlying28 HI1.out HZ0.out HZ1.out HZ2.out rfl (by decide) _ _ _ rfl (HS2.out.row.alloc _) ⟨w2.heap.size, 0, none⟩ 1 1 (opCells [p]) rfl rfl (cells_new w2 (opCells [p]) 34) (opCells_one _) (by (try simp only [List.length_append, List.length_cons, List.length_nil]); unfold maxLen; omega) (by (try simp only [List.length_append, List.length_cons, List.length_nil]); omega) (by simp; omega) ?_; intro v' w3 hown3 hg3 _ _;
                  obtain ⟨g', cap', hv'⟩ := ownsRow_succ hown3; subst hv';
                  have HS3 := hideIt (WL.app (M := [p]) (HS2.out.below ((Below.refl _ _).alloc (Nat.le_refl _) _)) hg3 hown3); clear hown3 hg3))
            exact ⟨⟨k + 1, g', cap', by omega, by go_num, by rw [HE.out, List.length_append]; rfl, by rw [HE.out]; exact HS3.out⟩, by simp [intOf]; omega⟩
        · obtain rfl : k = l.length := by omega
          go_wp2
          go_ret
          have hE := both_all l o
          have hR := HS.out.row
          rw [hE] at hR
          rw [hE]
          exact ⟨_, _, rfl, ownsRow_base (Nat.le_succ _) hR, HS.out.bel⟩
end Go.Proofs.YtfdhhebgefoalaaDoor

namespace Go.Proofs.YtfdhhebgefoalaaDoor
open Go.RowKit
set_option linter.unusedSimpArgs false
set_option linter.unusedVariables false

theorem add_plain (g j : Nat) : (⟨g, 0, none⟩ : Addr).add j = ⟨g, j, none⟩ := by
  unfold Addr.add
  split <;> simp_all
/-- What is copied from a block of things. -/
theorem OpsAt.cells {w : World} {g : Nat} {l : List Op7} (h : OpsAt w g l) : ∀ j u, (opCells l)[j]? = some u → w.cell? ((⟨g, 0, none⟩ : Addr).add j) = some u := by
  intro j u hj
  rw [add_plain]
  have hlt : j < l.length * 7 := by
    have := (List.getElem?_eq_some_iff.1 hj).1
    rwa [opCells_len] at this
  have hi : j / 7 < l.length := by omega
  have hx : l[j / 7]? = some l[j / 7] := by simp [hi]
  obtain ⟨h0, h1, h2, h3, h4, h5, h6⟩ := h.2 _ _ hx
  obtain ⟨o0, o1, o2, o3, o4, o5, o6⟩ := opCells_at l _ _ hx
  have hq : j % 7 = 0 ∨ j % 7 = 1 ∨ j % 7 = 2 ∨ j % 7 = 3 ∨ j % 7 = 4 ∨ j % 7 = 5 ∨ j % 7 = 6 := by omega
  have hd : j = j / 7 * 7 + j % 7 := by omega
  rcases hq with e | e | e | e | e | e | e <;> rw [e] at hd <;> (try simp only [Nat.add_zero] at hd) <;> rw [hd] at hj ⊢
  · rw [o0] at hj; rw [h0]; exact hj
  · rw [o1] at hj; rw [h1]; exact hj
  · rw [o2] at hj; rw [h2]; exact hj
  · rw [o3] at hj; rw [h3]; exact hj
  · rw [o4] at hj; rw [h4]; exact hj
  · rw [o5] at hj; rw [h5]; exact hj
  · rw [o6] at hj; rw [h6]; exact hj
end Go.Proofs.YtfdhhebgefoalaaDoor

namespace Go.Proofs.YtfdhhebgefoalaaDoor
open Go.RowKit
set_option linter.unusedSimpArgs false
set_option linter.unusedVariables false

theorem OpsAt.cellsTk {w : World} {g : Nat} {l : List Op7} (h : OpsAt w g l) (x : Nat) : ∀ j u, (opCells (l.take x))[j]? = some u → w.cell? ((⟨g, 0, none⟩ : Addr).add j) = some u := fun j u hj => by
  refine h.cells j u ?_
  have e : opCells l = opCells (l.take x) ++ opCells (l.drop x) := by rw [← opCells_app, List.take_append_drop]
  rw [e, List.getElem?_append_left (List.getElem?_eq_some_iff.1 hj).1]
  exact hj
theorem addOff (g o j : Nat) : (⟨g, o, none⟩ : Addr).add j = ⟨g, o + j, none⟩ := by
  unfold Addr.add
  split <;> simp_all
theorem OpsAt.cellsDr {w : World} {g : Nat} {l : List Op7} (h : OpsAt w g l) {x : Nat} (hx : x ≤ l.length) : ∀ j u, (opCells (l.drop x))[j]? = some u → w.cell? ((⟨g, x * 7, none⟩ : Addr).add j) = some u := fun j u hj => by
  have e : opCells l = opCells (l.take x) ++ opCells (l.drop x) := by rw [← opCells_app, List.take_append_drop]
  have h1 := h.cells (x * 7 + j) u (by
    rw [e, List.getElem?_append_right (by rw [opCells_len]; simp; omega)]
    rw [← hj]
    congr 1
    rw [opCells_len]
    simp
    omega)
  rw [add_plain] at h1
  rw [addOff]
  exact h1
end Go.Proofs.YtfdhhebgefoalaaDoor

namespace Go.Proofs.YtfdhhebgefoalaaDoor
open Go.RowKit
set_option linter.unusedSimpArgs false
set_option linter.unusedVariables false
attribute [local go_sem ↓] Go.wp_at_zero Go.wp_at_succ

set_option maxRecDepth 100000 in
set_option maxHeartbeats 2000000 in
theorem implLess_any (a b c d : Int) (w : World) :
    Calls Tryd.prog 54 #[.agg #[.int .i64 a, .int .i64 b], .agg #[.int .i64 c, .int .i64 d]] w fun e w' => e = .returned (.bool (decide (a < c ∨ (a = c ∧ b < d)))) ∧ Below w.heap.size w w' := by
  go_enter Tryd.func54, Tryd.ntmps54
  by_cases h2 : a = c
  · subst h2
    go_wp2
    go_ret
    exact ⟨by simp, by go_grown⟩
  · go_wp2
    go_ret
    exact ⟨by simp [h2], by go_grown⟩
/-- With one more, put in at the first that is not ahead of it. -/
def insL (l : List Op7) (o : Op7) : List Op7 := l.takeWhile (fun p => lessB p o) ++ o :: l.dropWhile (fun p => lessB p o)
theorem insL_at {l : List Op7} {o : Op7} {k : Nat} (hk : k ≤ l.length) (h1 : ∀ j (hj : j < l.length), j < k → lessB l[j] o = true) (h2 : k = l.length ∨ ∃ hk : k < l.length, lessB l[k] o = false) : insL l o = l.take k ++ o :: l.drop k := by
  have ht : l.takeWhile (fun p => lessB p o) = l.take k ∧ l.dropWhile (fun p => lessB p o) = l.drop k := by
    clear hk
    induction l generalizing k with
    | nil => simp
    | cons p r ih =>
      rcases k with _ | k
      · rcases h2 with h2 | ⟨_, h2⟩
        · simp at h2
        · simp only [List.getElem_cons_zero] at h2
          simp [List.takeWhile_cons, List.dropWhile_cons, h2]
      · have hp := h1 0 (by simp) (by omega)
        simp only [List.getElem_cons_zero] at hp
        obtain ⟨e1, e2⟩ := ih (k := k) (fun j hj hjk => by have := h1 (j + 1) (by simp; omega) (by omega); simpa using this) (by
          rcases h2 with h2 | ⟨hk, h2⟩
          · left; simpa using h2
          · right; exact ⟨by simpa using hk, by simpa using h2⟩)
        simp [List.takeWhile_cons, List.dropWhile_cons, hp, e1, e2]
  unfold insL
  rw [ht.1, ht.2]
theorem insL_len (l : List Op7) (o : Op7) : (insL l o).length = l.length + 1 := by
  unfold insL
  rw [List.length_append, List.length_cons]
  have := congrArg List.length (List.takeWhile_append_dropWhile (p := fun p => lessB p o) (l := l))
  rw [List.length_append] at this
  omega

theorem srcNil (l : List Op7) (w : World) (a : Addr) : ∀ j u, (opCells (l.drop l.length))[j]? = some u → w.cell? (a.add j) = some u := by
  intro j u hj
  rw [List.drop_length] at hj
  simp [opCells] at hj
theorem ins_row {w : World} {base : Nat} {l : List Op7} {o : Op7} {v : Value} (h : w.ownsRow base 34 7 v (insL l o).length (opCells (insL l o))) : ∃ g c, v = .slice (some ⟨g, 0, none⟩) (insL l o).length c := by
  have h' := h
  rw [insL_len] at h
  obtain ⟨g, c, hv⟩ := ownsRow_succ h
  exact ⟨g, c, by rw [hv, insL_len]⟩

set_option maxRecDepth 100000 in
set_option maxHeartbeats 4000000 in
theorem putIn_any (l : List Op7) (g cap : Nat) (o : Op7) (w : World) (hl : OpsAt w g l) (hn : l.length ≤ 1048576) (hcap : l.length ≤ cap) :
    Calls Tryd.prog 41 #[.slice (some ⟨g, 0, none⟩) l.length cap, .agg #[.int .i64 o.a, .int .i64 o.b, .int .i64 o.k, .int .i64 o.c, .int .i64 o.d, .int .i64 o.s, .int .i64 o.g]] w fun e w' => ∃ G c, e = .returned (.slice (some ⟨G, 0, none⟩) (insL l o).length c) ∧ OwnOps w' w.heap.size G c (insL l o) ∧ Below w.heap.size w w' := by
  have HL := hideIt hl
  have hgw := hl.1
  clear hl
  obtain ⟨i0, hi, hz0', hz1', hz2⟩ := info_parts infoOp
  have HI1 := hideIt hi
  have HZ0 := hideIt hz0'
  have HZ1 := hideIt hz1'
  have HZ2 := hideIt hz2
  clear hi hz0' hz1' hz2
  go_enter Tryd.func41, Tryd.ntmps41
  go_wp2
  have HST : Hid (WL w (w.alloc (.cells #[.int .i64 o.a, .int .i64 o.b, .int .i64 o.k, .int .i64 o.c, .int .i64 o.d, .int .i64 o.s, .int .i64 o.g] 34)) o (.slice none 0 0) []) :=
    ⟨World.ownsRow_nil _ _ _ _, World.alloc_heap_new w _, (Below.refl _ _).alloc (Nat.le_refl _) _⟩
  go_loopw [5] (fun i wr => ∃ k : Nat, k ≤ l.length ∧ i = .int .i64 k ∧ (∀ j (hj : j < l.length), j < k → lessB l[j] o = true) ∧ WL w wr o (.slice none 0 0) [])
    (fun i _ => l.length - (intOf i).toNat)
  case atStart => exact ⟨0, Nat.zero_le _, rfl, fun j hj h => by omega, HST.out⟩
  case round =>
    clear HST
    obtain ⟨k, hk, rfl, hall, hS⟩ := hrel
    have HS := hideIt hS
    have HA := hideIt hall
    have hgr : g < wr.heap.size := Nat.lt_of_lt_of_le hgw hS.bel.size
    have hwr := hS.lt
    clear hS hall
    by_cases hlt : k < l.length
    · obtain ⟨y0, y1, y2, y3, y4, y5, y6⟩ := (HL.out.below HS.out.bel hgw).2 k l[k] (by simp [hlt])
      obtain ⟨b0, b1, b2, b3, b4, b5, b6⟩ := HS.out.id
      have HE : Hid (lessB l[k] o = false → insL l o = l.take k ++ o :: l.drop k) := fun h => insL_at hk HA.out (.inr ⟨hlt, h⟩)
      have HM : Hid (lessB l[k] o = true → ∀ j (hj : j < l.length), j < k + 1 → lessB l[j] o = true) := fun h j hj hjk => by
        rcases Nat.lt_or_ge j k with hh | hh
        · exact HA.out j hj hh
        · obtain rfl : j = k := by omega
          exact h
      generalize l[k] = p at *
      have hlt' : (k : Int) < (l.length : Int) := by omega
      have hk0 : (0 : Int) ≤ (k : Int) := by omega
      cases hz : lessB p o
      all_goals
        have HZ := hideIt hz
        clear hz
        go_wp2
        go_region_held3 (fun w' => w'.cell? ⟨g, k * 7, none⟩ = some (.int .i64 p.a) ∧ w'.cell? ⟨g, k * 7 + 1, none⟩ = some (.int .i64 p.b) ∧ w'.cell? ⟨w.heap.size, 0, none⟩ = some (.int .i64 o.a) ∧ w'.cell? ⟨w.heap.size, 1, none⟩ = some (.int .i64 o.b))
          (first | exact ⟨y0, y1, b0, b1⟩ | exact ⟨((bcell hb2).1 g _ hgr).trans y0, ((bcell hb2).1 g _ hgr).trans y1, ((bcell hb2).1 _ _ hwr).trans b0, ((bcell hb2).1 _ _ hwr).trans b1⟩)
          (first | (go_at_call 54; refine (implLess_any _ _ _ _ _).mono ?_; rintro e w2 ⟨rfl, hb2⟩; have HS2 : Hid (WL w w2 o (.slice none 0 0) []) := (HS.out.below ((Below.refl _ _).drew)).below hb2; rw [show decide (p.a < o.a ∨ p.a = o.a ∧ p.b < o.b) = _ from HZ.out]))
        rename_i hHH
        clear hHH hb2 y0 y1 y2 y3 y4 y5 y6 b0 b1 b2 b3 b4 b5 b6
      · have HEE := hideIt (HE.out HZ.out)
        clear HE HM HA
        have hw1 : IntKind.i64.wrap ((l.length : Int) + 1) = ((l.length + 1 : Nat) : Int) := by rw [IntWalk.i64_in _ ⟨by omega, by omega⟩]; omega
        have hkk : (k : Int) ≤ (cap : Int) := by omega
        have hk0' : (0 : Int) ≤ (k : Int) := by omega
        have hkl : (k : Int) ≤ (l.length : Int) := by omega
        have HLd : Hid ((l.drop k).length = l.length - k) := List.length_drop
        have HLt : Hid ((l.take k).length = k) := (by show (l.take k).length = k; simp; try omega)
        have hkn : k ≤ l.length := by omega
        have haddr : (if cap = k then (some ⟨g, 0, none⟩ : Option Addr) else some ⟨g, k * 7, none⟩) = some ⟨g, if cap = k then 0 else k * 7, none⟩ := by split <;> rfl
        go_wp2_with (first
          | (at_make; refine wpList_make_own _ rfl _ _ 28 rfl (w.heap.size + 1) 34 i0 _ 7 Tryd.underlying28 HI1.out HZ0.out HZ1.out .i64 .i64 _ (l.length + 1) rfl rfl rfl (by rw [HZ2.out]; omega) (by unfold maxLen; omega) HS2.out.lt ?_; intro w3 hown3 hg3; have hb3 : Below w2.heap.size w2 w3 := (Below.refl _ _).grown hg3 (Nat.le_refl _) (fun k h => by cases h); have HS3 : Hid (WL w w3 o (.slice (some ⟨w2.heap.size, 0, none⟩) 0 (l.length + 1)) []) := ⟨hown3, (hb3.block _ HS2.out.lt).trans HS2.out.box, Bstep HS2.out.bel hb3⟩; clear hown3 hg3 hb3)
          | (at_builtin; refine wpList_append_own_at _ rfl _ _ 28 rfl (w.heap.size + 1) 34 i0 _ 7 56 Tryd.underlying28 HI1.out HZ0.out HZ1.out HZ2.out rfl (by decide) _ _ _ rfl HS3.out.row ⟨g, 0, none⟩ k cap (opCells (l.take k)) rfl (by rw [opCells_len, HLt.out]) ((HL.out.below HS3.out.bel hgw).cellsTk k) (opCells_one _) (by (try simp only [List.length_nil]); unfold maxLen; omega) (by (try simp only [List.length_nil]); omega) HS3.out.lt ?_; intro v4 w4 hown4 hg4 _ _; have HS4 := hideIt (WL.app (M := l.take k) HS3.out hg4 (by rw [HLt.out]; exact hown4)); clear hown4 hg4 HS3; have hw4 := HS4.out.lt; obtain ⟨b0, b1, b2, b3, b4, b5, b6⟩ := HS4.out.id)
          | (at_builtin; refine wpList_append_own_at _ rfl _ _ 28 rfl (w.heap.size + 1) 34 i0 _ 7 56 Tryd.underlying28 HI1.out HZ0.out HZ1.out HZ2.out rfl (by decide) _ _ _ rfl (HS4.out.row.alloc _) ⟨w4.heap.size, 0, none⟩ 1 1 (opCells [o]) rfl rfl (cells_new w4 (opCells [o]) 34) (opCells_one _) (by (try simp only [List.length_append, List.length_nil]); rw [HLt.out]; unfold maxLen; omega) (by (try simp only [List.length_append, List.length_nil]); rw [HLt.out]; omega) (by simp; omega) ?_; intro v5 w5 hown5 hg5 _ _; have HS5 := hideIt (WL.app (M := [o]) (HS4.out.below ((Below.refl _ _).alloc (Nat.le_refl _) _)) hg5 hown5); clear hown5 hg5 HS4 hw4 b0 b1 b2 b3 b4 b5 b6; have hw5 := HS5.out.lt)
          | (at_builtin; refine wpList_append_own_at _ rfl _ _ 28 rfl (w.heap.size + 1) 34 i0 _ 7 56 Tryd.underlying28 HI1.out HZ0.out HZ1.out HZ2.out rfl (by decide) _ _ _ rfl HS5.out.row ⟨g, k * 7, none⟩ (l.length - k) (cap - k) (opCells (l.drop k)) rfl (by rw [opCells_len, HLd.out]) ((HL.out.below HS5.out.bel hgw).cellsDr hkn) (opCells_one _) (by (try simp only [List.length_append, List.length_nil, List.length_cons]); rw [HLt.out]; unfold maxLen; omega) (by (try simp only [List.length_append, List.length_nil, List.length_cons]); rw [HLt.out]; omega) (by omega) ?_; intro v6 w6 hown6 hg6 _ _; have HS6 := hideIt (WL.app (M := l.drop k) HS5.out hg6 (by rw [HLd.out]; exact hown6)); clear hown6 hg6 HS5 hw5))
        go_ret
        have hE : [] ++ l.take k ++ [o] ++ l.drop k = insL l o := by rw [HEE.out]; simp
        have hR := HS6.out.row
        rw [hE] at hR
        obtain ⟨gR, cR, rfl⟩ := ins_row hR
        exact ⟨_, _, rfl, ownsRow_base (Nat.le_succ _) hR, HS6.out.bel⟩
      · have HMM := hideIt (HM.out HZ.out)
        go_wp2
        exact ⟨⟨k + 1, by omega, by go_num, HMM.out, HS2.out⟩, by simp [intOf]; omega⟩
    · obtain rfl : k = l.length := by omega
      have HEE : Hid (insL l o = l.take l.length ++ o :: l.drop l.length) := insL_at hk HA.out (.inl rfl)
      go_wp2
      go_quiet (fail)
      generalize hD : World.drewN wr _ = w2
      have HS2 : Hid (WL w w2 o (.slice none 0 0) []) := by show WL w w2 o (.slice none 0 0) []; rw [← hD]; exact HS.out.below (below_drewN (Below.refl _ _) _)
      clear hD
      have hcc : cap = l.length ∨ l.length < cap := by omega
      rcases hcc with hcc | hcc
      · subst hcc
        have hw1 : IntKind.i64.wrap ((l.length : Int) + 1) = ((l.length + 1 : Nat) : Int) := by rw [IntWalk.i64_in _ ⟨by omega, by omega⟩]; omega
        have hkk : (l.length : Int) ≤ (l.length : Int) := by omega
        have hk0' : (0 : Int) ≤ (l.length : Int) := by omega
        have hkl : (l.length : Int) ≤ (l.length : Int) := by omega
        have HLd : Hid ((l.drop l.length).length = 0) := (by show (l.drop l.length).length = 0; simp)
        have HLt : Hid ((l.take l.length).length = l.length) := (by show (l.take l.length).length = l.length; simp; try omega)
        have hkn : l.length ≤ l.length := by omega
        go_wp2_with (first
          | (at_make; refine wpList_make_own _ rfl _ _ 28 rfl (w.heap.size + 1) 34 i0 _ 7 Tryd.underlying28 HI1.out HZ0.out HZ1.out .i64 .i64 _ (l.length + 1) rfl rfl rfl (by rw [HZ2.out]; omega) (by unfold maxLen; omega) HS2.out.lt ?_; intro w3 hown3 hg3; have hb3 : Below w2.heap.size w2 w3 := (Below.refl _ _).grown hg3 (Nat.le_refl _) (fun k h => by cases h); have HS3 : Hid (WL w w3 o (.slice (some ⟨w2.heap.size, 0, none⟩) 0 (l.length + 1)) []) := ⟨hown3, (hb3.block _ HS2.out.lt).trans HS2.out.box, Bstep HS2.out.bel hb3⟩; clear hown3 hg3 hb3)
          | (at_builtin; refine wpList_append_own_at _ rfl _ _ 28 rfl (w.heap.size + 1) 34 i0 _ 7 56 Tryd.underlying28 HI1.out HZ0.out HZ1.out HZ2.out rfl (by decide) _ _ _ rfl HS3.out.row ⟨g, 0, none⟩ l.length l.length (opCells (l.take l.length)) rfl (by rw [opCells_len, HLt.out]) ((HL.out.below HS3.out.bel hgw).cellsTk l.length) (opCells_one _) (by (try simp only [List.length_nil]); unfold maxLen; omega) (by (try simp only [List.length_nil]); omega) HS3.out.lt ?_; intro v4 w4 hown4 hg4 _ _; have HS4 := hideIt (WL.app (M := l.take l.length) HS3.out hg4 (by rw [HLt.out]; exact hown4)); clear hown4 hg4 HS3; have hw4 := HS4.out.lt; obtain ⟨b0, b1, b2, b3, b4, b5, b6⟩ := HS4.out.id)
          | (at_builtin; refine wpList_append_own_at _ rfl _ _ 28 rfl (w.heap.size + 1) 34 i0 _ 7 56 Tryd.underlying28 HI1.out HZ0.out HZ1.out HZ2.out rfl (by decide) _ _ _ rfl (HS4.out.row.alloc _) ⟨w4.heap.size, 0, none⟩ 1 1 (opCells [o]) rfl rfl (cells_new w4 (opCells [o]) 34) (opCells_one _) (by (try simp only [List.length_append, List.length_nil]); rw [HLt.out]; unfold maxLen; omega) (by (try simp only [List.length_append, List.length_nil]); rw [HLt.out]; omega) (by simp; omega) ?_; intro v5 w5 hown5 hg5 _ _; have HS5 := hideIt (WL.app (M := [o]) (HS4.out.below ((Below.refl _ _).alloc (Nat.le_refl _) _)) hg5 hown5); clear hown5 hg5 HS4 hw4 b0 b1 b2 b3 b4 b5 b6; have hw5 := HS5.out.lt)
          | (at_builtin; refine wpList_append_own_at _ rfl _ _ 28 rfl (w.heap.size + 1) 34 i0 _ 7 56 Tryd.underlying28 HI1.out HZ0.out HZ1.out HZ2.out rfl (by decide) _ _ _ rfl HS5.out.row ⟨g, 0, none⟩ 0 0 (opCells (l.drop l.length)) rfl (by rw [opCells_len, HLd.out]) (srcNil l w5 ⟨g, 0, none⟩) (opCells_one _) (by (try simp only [List.length_append, List.length_nil, List.length_cons]); rw [HLt.out]; unfold maxLen; omega) (by (try simp only [List.length_append, List.length_nil, List.length_cons]); rw [HLt.out]; omega) (by omega) ?_; intro v6 w6 hown6 hg6 _ _; have HS6 := hideIt (WL.app (M := l.drop l.length) HS5.out hg6 (by rw [HLd.out]; exact hown6)); clear hown6 hg6 HS5 hw5)
          | (at_builtin; refine wpList_append_own_at _ rfl _ _ 28 rfl (w.heap.size + 1) 34 i0 _ 7 56 Tryd.underlying28 HI1.out HZ0.out HZ1.out HZ2.out rfl (by decide) _ _ _ rfl HS5.out.row ⟨g, l.length * 7, none⟩ 0 (l.length - l.length) (opCells (l.drop l.length)) rfl (by rw [opCells_len, HLd.out]) (srcNil l w5 ⟨g, l.length * 7, none⟩) (opCells_one _) (by (try simp only [List.length_append, List.length_nil, List.length_cons]); rw [HLt.out]; unfold maxLen; omega) (by (try simp only [List.length_append, List.length_nil, List.length_cons]); rw [HLt.out]; omega) (by omega) ?_; intro v6 w6 hown6 hg6 _ _; have HS6 := hideIt (WL.app (M := l.drop l.length) HS5.out hg6 (by rw [HLd.out]; exact hown6)); clear hown6 hg6 HS5 hw5))
        go_ret
        have hE : [] ++ l.take l.length ++ [o] ++ l.drop l.length = insL l o := by rw [HEE.out]; simp
        have hR := HS6.out.row
        rw [hE] at hR
        obtain ⟨gR, cR, rfl⟩ := ins_row hR
        exact ⟨_, _, rfl, ownsRow_base (Nat.le_succ _) hR, HS6.out.bel⟩
      · have hw1 : IntKind.i64.wrap ((l.length : Int) + 1) = ((l.length + 1 : Nat) : Int) := by rw [IntWalk.i64_in _ ⟨by omega, by omega⟩]; omega
        have hkk : (l.length : Int) ≤ (cap : Int) := by omega
        have hk0' : (0 : Int) ≤ (l.length : Int) := by omega
        have hkl : (l.length : Int) ≤ (l.length : Int) := by omega
        have HLd : Hid ((l.drop l.length).length = 0) := (by show (l.drop l.length).length = 0; simp)
        have HLt : Hid ((l.take l.length).length = l.length) := (by show (l.take l.length).length = l.length; simp; try omega)
        have hkn : l.length ≤ l.length := by omega
        go_wp2_with (first
          | (at_make; refine wpList_make_own _ rfl _ _ 28 rfl (w.heap.size + 1) 34 i0 _ 7 Tryd.underlying28 HI1.out HZ0.out HZ1.out .i64 .i64 _ (l.length + 1) rfl rfl rfl (by rw [HZ2.out]; omega) (by unfold maxLen; omega) HS2.out.lt ?_; intro w3 hown3 hg3; have hb3 : Below w2.heap.size w2 w3 := (Below.refl _ _).grown hg3 (Nat.le_refl _) (fun k h => by cases h); have HS3 : Hid (WL w w3 o (.slice (some ⟨w2.heap.size, 0, none⟩) 0 (l.length + 1)) []) := ⟨hown3, (hb3.block _ HS2.out.lt).trans HS2.out.box, Bstep HS2.out.bel hb3⟩; clear hown3 hg3 hb3)
          | (at_builtin; refine wpList_append_own_at _ rfl _ _ 28 rfl (w.heap.size + 1) 34 i0 _ 7 56 Tryd.underlying28 HI1.out HZ0.out HZ1.out HZ2.out rfl (by decide) _ _ _ rfl HS3.out.row ⟨g, 0, none⟩ l.length cap (opCells (l.take l.length)) rfl (by rw [opCells_len, HLt.out]) ((HL.out.below HS3.out.bel hgw).cellsTk l.length) (opCells_one _) (by (try simp only [List.length_nil]); unfold maxLen; omega) (by (try simp only [List.length_nil]); omega) HS3.out.lt ?_; intro v4 w4 hown4 hg4 _ _; have HS4 := hideIt (WL.app (M := l.take l.length) HS3.out hg4 (by rw [HLt.out]; exact hown4)); clear hown4 hg4 HS3; have hw4 := HS4.out.lt; obtain ⟨b0, b1, b2, b3, b4, b5, b6⟩ := HS4.out.id)
          | (at_builtin; refine wpList_append_own_at _ rfl _ _ 28 rfl (w.heap.size + 1) 34 i0 _ 7 56 Tryd.underlying28 HI1.out HZ0.out HZ1.out HZ2.out rfl (by decide) _ _ _ rfl (HS4.out.row.alloc _) ⟨w4.heap.size, 0, none⟩ 1 1 (opCells [o]) rfl rfl (cells_new w4 (opCells [o]) 34) (opCells_one _) (by (try simp only [List.length_append, List.length_nil]); rw [HLt.out]; unfold maxLen; omega) (by (try simp only [List.length_append, List.length_nil]); rw [HLt.out]; omega) (by simp; omega) ?_; intro v5 w5 hown5 hg5 _ _; have HS5 := hideIt (WL.app (M := [o]) (HS4.out.below ((Below.refl _ _).alloc (Nat.le_refl _) _)) hg5 hown5); clear hown5 hg5 HS4 hw4 b0 b1 b2 b3 b4 b5 b6; have hw5 := HS5.out.lt)
          | (at_builtin; refine wpList_append_own_at _ rfl _ _ 28 rfl (w.heap.size + 1) 34 i0 _ 7 56 Tryd.underlying28 HI1.out HZ0.out HZ1.out HZ2.out rfl (by decide) _ _ _ rfl HS5.out.row ⟨g, 0, none⟩ 0 0 (opCells (l.drop l.length)) rfl (by rw [opCells_len, HLd.out]) (srcNil l w5 ⟨g, 0, none⟩) (opCells_one _) (by (try simp only [List.length_append, List.length_nil, List.length_cons]); rw [HLt.out]; unfold maxLen; omega) (by (try simp only [List.length_append, List.length_nil, List.length_cons]); rw [HLt.out]; omega) (by omega) ?_; intro v6 w6 hown6 hg6 _ _; have HS6 := hideIt (WL.app (M := l.drop l.length) HS5.out hg6 (by rw [HLd.out]; exact hown6)); clear hown6 hg6 HS5 hw5)
          | (at_builtin; refine wpList_append_own_at _ rfl _ _ 28 rfl (w.heap.size + 1) 34 i0 _ 7 56 Tryd.underlying28 HI1.out HZ0.out HZ1.out HZ2.out rfl (by decide) _ _ _ rfl HS5.out.row ⟨g, l.length * 7, none⟩ 0 (cap - l.length) (opCells (l.drop l.length)) rfl (by rw [opCells_len, HLd.out]) (srcNil l w5 ⟨g, l.length * 7, none⟩) (opCells_one _) (by (try simp only [List.length_append, List.length_nil, List.length_cons]); rw [HLt.out]; unfold maxLen; omega) (by (try simp only [List.length_append, List.length_nil, List.length_cons]); rw [HLt.out]; omega) (by omega) ?_; intro v6 w6 hown6 hg6 _ _; have HS6 := hideIt (WL.app (M := l.drop l.length) HS5.out hg6 (by rw [HLd.out]; exact hown6)); clear hown6 hg6 HS5 hw5))
        go_ret
        have hE : [] ++ l.take l.length ++ [o] ++ l.drop l.length = insL l o := by rw [HEE.out]; simp
        have hR := HS6.out.row
        rw [hE] at hR
        obtain ⟨gR, cR, rfl⟩ := ins_row hR
        exact ⟨_, _, rfl, ownsRow_base (Nat.le_succ _) hR, HS6.out.bel⟩
end Go.Proofs.YtfdhhebgefoalaaDoor

namespace Go.Proofs.YtfdhhebgefoalaaDoor
open Go.RowKit
set_option linter.unusedSimpArgs false
set_option linter.unusedVariables false

theorem flatMap_sub {α β : Type} {f g : α → List β} : ∀ {A B : List α}, A.Sublist B → (∀ a, (f a).Sublist (g a)) → (A.flatMap f).Sublist (B.flatMap g) := by
  intro A B h hf
  induction h with
  | slnil => exact List.Sublist.refl _
  | cons a _ ih => rw [List.flatMap_cons]; exact ih.trans (List.sublist_append_right _ _)
  | cons_cons a _ ih => rw [List.flatMap_cons, List.flatMap_cons]; exact (hf a).append ih
theorem side_sub {l l' : List Op7} (h : l.Sublist l') : ∀ (n n' : Nat), n ≤ n' → ∀ x, (sideO l n x).Sublist (sideO l' n' x) := by
  intro n
  induction n with
  | zero => intro n' _ x; exact List.nil_sublist _
  | succ n ih =>
    intro n' hn x
    obtain ⟨m, rfl⟩ : ∃ m, n' = m + 1 := ⟨n' - 1, by omega⟩
    show ((kidsL l x).flatMap _).Sublist ((kidsL l' x).flatMap _)
    exact flatMap_sub (h.filter _) fun o => (ih m (by omega) _).append ((ih m (by omega) _).cons_cons o)
theorem all_sub {l l' : List Op7} (h : l.Sublist l') : (allO l).Sublist (allO l') := side_sub h _ _ (by have := h.length_le; omega) _
/-- In a row that stands once, what stands in a part of it in order stands so in it. -/
theorem sub_at {α : Type} {A B : List α} (h : A.Sublist B) (hn : B.Nodup) {i j a b : Nat} {p q : α} (hi : A[i]? = some p) (hj : A[j]? = some q) (ha : B[a]? = some p) (hb : B[b]? = some q) (hij : i < j) : a < b := by
  obtain ⟨is, rfl, hp⟩ := List.sublist_eq_map_getElem h
  rw [List.getElem?_map] at hi hj
  obtain ⟨u, hu, rfl⟩ := Option.map_eq_some_iff.1 hi
  obtain ⟨v, hv, rfl⟩ := Option.map_eq_some_iff.1 hj
  have hu' : a = u := (List.getElem?_inj (List.getElem?_eq_some_iff.1 ha).1 hn).1 (ha.trans (by simp))
  have hv' : b = v := (List.getElem?_inj (List.getElem?_eq_some_iff.1 hb).1 hn).1 (hb.trans (by simp))
  obtain ⟨h1, h1'⟩ := List.getElem?_eq_some_iff.1 hu
  obtain ⟨h2, h2'⟩ := List.getElem?_eq_some_iff.1 hv
  have := List.pairwise_iff_getElem.1 hp i j h1 h2 hij
  rw [h1', h2'] at this
  omega
theorem gone_sub {l l' : List Op7} (h : l.Sublist l') {x : Int × Int} (hg : goneB l x = true) : goneB l' x = true := by
  unfold goneB at *
  obtain ⟨o, ho, hb⟩ := List.any_eq_true.1 hg
  exact List.any_eq_true.2 ⟨o, h.mem ho, hb⟩
/-- They stand by their ids. -/
theorem ops_sorted {l : List Op7} (h : opsB l = true) : l.Pairwise fun p q => lessB p q = true := by
  obtain ⟨hok, hord⟩ := opsParts h
  have hnext : ∀ i (h1 : i + 1 < l.length), lessB l[i] l[i + 1] = true := fun i h1 => by
    have := ord_iff.1 hord (i + 1) h1
    rw [step_succ h1] at this
    unfold stepB at this
    have := of_decide_eq_true this
    unfold lessB
    exact decide_eq_true (by omega)
  have htr : ∀ p q r : Op7, lessB p q = true → lessB q r = true → lessB p r = true := fun p q r h1 h2 => by
    unfold lessB at *
    have := of_decide_eq_true h1
    have := of_decide_eq_true h2
    exact decide_eq_true (by omega)
  refine List.pairwise_iff_getElem.2 fun i j hi hj hij => ?_
  obtain ⟨e, rfl⟩ : ∃ e, j = i + 1 + e := ⟨j - i - 1, by omega⟩
  clear hij
  induction e with
  | zero => exact hnext i hj
  | succ e ih => exact htr _ _ _ (ih (by omega)) (hnext (i + 1 + e) (by omega))
theorem withL_split {l : List Op7} (hs : l.Pairwise fun p q => lessB p q = true) {o : Op7} (hno : ∀ p ∈ l, ¬ (p.a = o.a ∧ p.b = o.b)) : ∃ A B, l = A ++ B ∧ withL l o = A ++ o :: B := by
  induction l with
  | nil => exact ⟨[], [], rfl, rfl⟩
  | cons p r ih =>
    obtain ⟨h1, h2⟩ := List.pairwise_cons.1 hs
    obtain ⟨A, B, hr, hw⟩ := ih h2 (fun q hq => hno q (by simp [hq]))
    have hp := hno p (by simp)
    by_cases hl : lessB p o = true
    · refine ⟨p :: A, B, by rw [hr]; rfl, ?_⟩
      have hno' : lessB o p = false := by
        unfold lessB at *
        have := of_decide_eq_true hl
        exact decide_eq_false (by omega)
      have e : withL (p :: r) o = p :: withL r o := by
        unfold withL
        rw [List.filter_cons_of_pos (by simp [hl]), List.filter_cons_of_neg (by simp [hno'])]
        simp
      rw [e, hw]
      rfl
    · have hl' : lessB o p = true := by
        unfold lessB at *
        have := of_decide_eq_false (Bool.eq_false_iff.2 hl)
        exact decide_eq_true (by omega)
      have hall : ∀ q ∈ r, lessB o q = true ∧ lessB q o = false := fun q hq => by
        have := h1 q hq
        unfold lessB at *
        have h3 := of_decide_eq_true this
        have h4 := of_decide_eq_true hl'
        exact ⟨decide_eq_true (by omega), decide_eq_false (by omega)⟩
      refine ⟨[], p :: r, rfl, ?_⟩
      unfold withL
      rw [List.filter_cons_of_neg (by simpa using hl), List.filter_cons_of_pos (by simp [hl']), List.filter_eq_nil_iff.2 (fun q hq => by simp [(hall q hq).2]), List.filter_eq_self.2 (fun q hq => (hall q hq).1)]
      rfl
theorem withL_sub {l : List Op7} (h : opsB l = true) {o : Op7} (hno : ∀ p ∈ l, ¬ (p.a = o.a ∧ p.b = o.b)) : l.Sublist (withL l o) := by
  obtain ⟨A, B, h1, h2⟩ := withL_split (ops_sorted h) hno
  rw [h2]
  conv => lhs; rw [h1]
  exact (List.Sublist.refl A).append (List.sublist_cons_self o B)
end Go.Proofs.YtfdhhebgefoalaaDoor

namespace Go.Proofs.YtfdhhebgefoalaaDoor
open Go.RowKit
set_option linter.unusedSimpArgs false
set_option linter.unusedVariables false

/-- Each has the one ahead. -/
def Prev (l : List Op7) : Prop := ∀ p ∈ l, 1 < p.b → ∃ q ∈ l, q.a = p.a ∧ q.b = p.b - 1
theorem ord_prev {l : List Op7} (hok : l.all okO = true) (h : ordB l = true) : Prev l := by
  intro p hp hb
  obtain ⟨i, hi, rfl⟩ := List.getElem_of_mem hp
  have hs := ord_iff.1 h i hi
  have hid := okO_id (all_iff.1 hok i hi)
  rcases i with _ | i
  · rw [step_zero hi] at hs
    have := of_decide_eq_true hs
    omega
  · rw [step_succ hi] at hs
    have := of_decide_eq_true hs
    exact ⟨l[i], List.getElem_mem _, by omega, by omega⟩
theorem sorted_ord {l : List Op7} (hok : l.all okO = true) (hs : l.Pairwise fun p q => lessB p q = true) (hp : Prev l) : ordB l = true := by
  refine ord_iff.2 fun i hi => ?_
  have hid := okO_id (all_iff.1 hok i hi)
  have less : ∀ {j k : Nat} (hj : j < l.length) (hk : k < l.length), j < k → lessB l[j] l[k] = true := fun hj hk h => List.pairwise_iff_getElem.1 hs _ _ hj hk h
  have before : 1 < l[i].b → ∃ j, ∃ hj : j < l.length, j < i ∧ l[j].a = l[i].a ∧ l[j].b = l[i].b - 1 := fun hb => by
    obtain ⟨q, hq, ha, hb'⟩ := hp _ (List.getElem_mem hi) hb
    obtain ⟨j, hj, rfl⟩ := List.getElem_of_mem hq
    refine ⟨j, hj, ?_, ha, hb'⟩
    rcases Nat.lt_trichotomy j i with h | h | h
    · exact h
    · subst h; omega
    · have := less hi hj h
      unfold lessB at this
      have := of_decide_eq_true this
      omega
  rcases i with _ | i
  · rw [step_zero hi]
    by_cases hb : 1 < l[0].b
    · obtain ⟨j, _, h, _⟩ := before hb
      omega
    · exact stepB_true (by omega)
  · rw [step_succ hi]
    have h1 := less (by omega) hi (Nat.lt_succ_self i)
    unfold lessB at h1
    have h1 := of_decide_eq_true h1
    have hid0 := okO_id (all_iff.1 hok i (by omega))
    by_cases hb : 1 < l[i + 1].b
    · obtain ⟨j, hj, hji, ha, hb'⟩ := before hb
      have h2 : j = i ∨ lessB l[j] l[i] = true := by
        rcases Nat.lt_or_ge j i with h | h
        · exact .inr (less hj (by omega) h)
        · exact .inl (by omega)
      rcases h2 with rfl | h2
      · exact stepB_true (by omega)
      · unfold lessB at h2
        have h2 := of_decide_eq_true h2
        exact stepB_true (by omega)
    · exact stepB_true (by omega)
theorem Up.mono {l l' : List Op7} (h : ∀ o ∈ l, o ∈ l') {d : Nat} {x : Int × Int} (hu : Up l d x) : Up l' d x := by
  induction hu with
  | zero => exact .zero
  | step hm hk _ ih => exact .step (h _ hm) hk ih
/-- Those by which one comes from nothing. -/
theorem up_chain {l : List Op7} (hok : l.all okO = true) (h1 : OnceIds l) {d : Nat} {x : Int × Int} (hu : Up l d x) : ∃ c : List Op7, c.length = d ∧ c.Nodup ∧ ∀ o ∈ c, o ∈ l ∧ ∃ e, e ≤ d ∧ Up l e (o.a, o.b) := by
  induction hu with
  | zero => exact ⟨[], rfl, List.nodup_nil, fun o h => by cases h⟩
  | step hm hk hu ih =>
    rename_i d o
    obtain ⟨c, h2, h3, h4⟩ := ih
    refine ⟨o :: c, by simp [h2], List.nodup_cons.2 ⟨fun hc => ?_, h3⟩, fun p hp => ?_⟩
    · obtain ⟨_, e, he, hue⟩ := h4 o hc
      have := up_once hok h1 hue (Up.step hm hk hu)
      omega
    · rcases List.mem_cons.1 hp with rfl | hp
      · exact ⟨hm, d + 1, Nat.le_refl _, .step hm hk hu⟩
      · obtain ⟨h5, e, he, hue⟩ := h4 p hp
        exact ⟨h5, e, by omega, hue⟩
theorem up_len {l : List Op7} (hok : l.all okO = true) (h1 : OnceIds l) {d : Nat} {x : Int × Int} (hu : Up l d x) : d ≤ l.length := by
  obtain ⟨c, h2, h3, h4⟩ := up_chain hok h1 hu
  rw [← h2]
  exact nodup_le _ _ h3 fun o ho => (h4 o ho).1
theorem deep_eq (l : List Op7) (n : Nat) (o : Op7) : deepF l (n + 1) o = if noB o.c o.d = true then true else match nextO l o with | some p => deepF l n p | none => false := rfl
theorem deep_more {l : List Op7} : ∀ (n : Nat) {m : Nat} {o : Op7}, deepF l n o = true → n ≤ m → deepF l m o = true := by
  intro n
  induction n with
  | zero => intro m o h; simp [deepF] at h
  | succ n ih =>
    intro m o h hm
    obtain ⟨k, rfl⟩ : ∃ k, m = k + 1 := ⟨m - 1, by omega⟩
    rw [deep_eq] at h ⊢
    by_cases hno : noB o.c o.d = true
    · rw [if_pos hno]
    · rw [if_neg hno] at h ⊢
      cases hx : nextO l o with
      | none => rw [hx] at h; cases h
      | some p => rw [hx] at h; exact ih h (by omega)
theorem up_deepF {l : List Op7} (hok : l.all okO = true) (h1 : OnceIds l) {d : Nat} {x : Int × Int} (hu : Up l d x) : ∀ o : Op7, x = (o.c, o.d) → deepF l (d + 1) o = true := by
  induction hu with
  | zero =>
    intro o h
    have e1 : o.c = 0 := (congrArg Prod.fst h).symm
    have e2 : o.d = 0 := (congrArg Prod.snd h).symm
    unfold deepF
    rw [if_pos (by unfold noB; exact decide_eq_true ⟨e1, e2⟩)]
  | step hm hk hu ih =>
    rename_i d p
    intro o h
    have e1 : o.c = p.a := (congrArg Prod.fst h).symm
    have e2 : o.d = p.b := (congrArg Prod.snd h).symm
    have hp := op_pos hok hm
    unfold deepF
    rw [if_neg (by unfold noB; simp; omega), nextO_find', e1, e2, find_self h1 hm]
    exact ih p rfl
theorem sorted_once {l : List Op7} (hs : l.Pairwise fun p q => lessB p q = true) : OnceIds l := by
  intro i j o p hi hj ha hb
  obtain ⟨h1, rfl⟩ := List.getElem?_eq_some_iff.1 hi
  obtain ⟨h2, rfl⟩ := List.getElem?_eq_some_iff.1 hj
  rcases Nat.lt_trichotomy i j with h | h | h
  · have := List.pairwise_iff_getElem.1 hs i j h1 h2 h
    unfold lessB at this
    have := of_decide_eq_true this
    omega
  · exact h
  · have := List.pairwise_iff_getElem.1 hs j i h2 h1 h
    unfold lessB at this
    have := of_decide_eq_true this
    omega
/-- In form, in order, each with the one ahead, and each comes to nothing. -/
structure OkL (l : List Op7) : Prop where
  form : ∀ o ∈ l, okO o = true
  sorted : l.Pairwise fun p q => lessB p q = true
  prev : Prev l
  deep : ∀ o ∈ l, ∃ d, Up l d (o.c, o.d)
theorem OkL.of {l : List Op7} (h : opsB l = true) : OkL l :=
  ⟨List.all_eq_true.1 (opsB_all h).1, ops_sorted h, ord_prev (opsB_all h).1 (opsB_all h).2.1, fun o ho => put_up h ho⟩
theorem OkL.ops {l : List Op7} (h : OkL l) : opsB l = true := by
  have hok : l.all okO = true := List.all_eq_true.2 h.form
  have h1 := sorted_once h.sorted
  unfold opsB
  rw [hok, sorted_ord hok h.sorted h.prev]
  have hr : l.all (refsB l) = true := List.all_eq_true.2 fun o ho => by
    obtain ⟨d, hd⟩ := h.deep o ho
    unfold refsB
    rcases up_inv hd with ⟨_, hx⟩ | ⟨e, p, _, hm, hk, _, hx⟩
    · have e1 : o.c = 0 := congrArg Prod.fst hx
      have e2 : o.d = 0 := congrArg Prod.snd hx
      have : noB o.c o.d = true := by unfold noB; exact decide_eq_true ⟨e1, e2⟩
      rw [this]; rfl
    · have e1 : o.c = p.a := congrArg Prod.fst hx
      have e2 : o.d = p.b := congrArg Prod.snd hx
      rw [nextO_find', e1, e2, find_self h1 hm]
      simp [hk]
  have hd : l.all (deepF l (l.length + 1)) = true := List.all_eq_true.2 fun o ho => by
    obtain ⟨d, hd⟩ := h.deep o ho
    exact deep_more (d + 1) (up_deepF hok h1 hd o rfl) (by have := up_len hok h1 hd; omega)
  rw [hr, hd]; rfl
theorem OkL.once {l : List Op7} (h : OkL l) : OnceIds l := sorted_once h.sorted
theorem OkL.ok {l : List Op7} (h : OkL l) : l.all okO = true := List.all_eq_true.2 h.form
/-- What can be done behind what was done. -/
structure CanL (l : List Op7) (o : Op7) : Prop where
  form : okO o = true
  new : ∀ p ∈ l, ¬ (p.a = o.a ∧ p.b = o.b)
  next : 1 < o.b → ∃ q ∈ l, q.a = o.a ∧ q.b = o.b - 1
  ref : ∃ d, Up l d (o.c, o.d)
theorem withL_mem {l : List Op7} (hs : l.Pairwise fun p q => lessB p q = true) {o : Op7} (hno : ∀ p ∈ l, ¬ (p.a = o.a ∧ p.b = o.b)) (x : Op7) : x ∈ withL l o ↔ x = o ∨ x ∈ l := by
  obtain ⟨A, B, h1, h2⟩ := withL_split hs hno
  rw [h2, h1]
  simp only [List.mem_append, List.mem_cons]
  constructor
  · rintro (h | h | h)
    · exact .inr (.inl h)
    · exact .inl h
    · exact .inr (.inr h)
  · rintro (h | h | h)
    · exact .inr (.inl h)
    · exact .inl h
    · exact .inr (.inr h)
theorem withL_sorted {l : List Op7} (hs : l.Pairwise fun p q => lessB p q = true) (o : Op7) : (withL l o).Pairwise fun p q => lessB p q = true := by
  have htr : ∀ p q r : Op7, lessB p q = true → lessB q r = true → lessB p r = true := fun p q r h1 h2 => by
    unfold lessB at *
    have := of_decide_eq_true h1
    have := of_decide_eq_true h2
    exact decide_eq_true (by omega)
  unfold withL
  refine List.pairwise_append.2 ⟨List.pairwise_append.2 ⟨hs.filter _, List.pairwise_singleton _ _, fun p hp q hq => ?_⟩, hs.filter _, fun p hp q hq => ?_⟩
  · obtain rfl := List.mem_singleton.1 hq
    simpa using (List.mem_filter.1 hp).2
  · have hq' : lessB o q = true := by simpa using (List.mem_filter.1 hq).2
    rcases List.mem_append.1 hp with hp | hp
    · exact htr _ _ _ (by simpa using (List.mem_filter.1 hp).2) hq'
    · obtain rfl := List.mem_singleton.1 hp
      exact hq'
theorem CanL.ok {l : List Op7} {o : Op7} (h : OkL l) (hc : CanL l o) : OkL (withL l o) := by
  have hm := withL_mem h.sorted hc.new
  have hsub : ∀ x ∈ l, x ∈ withL l o := fun x hx => (hm x).2 (.inr hx)
  refine ⟨fun x hx => ?_, withL_sorted h.sorted o, fun p hp hb => ?_, fun x hx => ?_⟩
  · rcases (hm x).1 hx with rfl | hx
    · exact hc.form
    · exact h.form x hx
  · rcases (hm p).1 hp with rfl | hp
    · obtain ⟨q, hq, e⟩ := hc.next hb
      exact ⟨q, hsub q hq, e⟩
    · obtain ⟨q, hq, e⟩ := h.prev p hp hb
      exact ⟨q, hsub q hq, e⟩
  · rcases (hm x).1 hx with rfl | hx
    · obtain ⟨d, hd⟩ := hc.ref
      exact ⟨d, hd.mono hsub⟩
    · obtain ⟨d, hd⟩ := h.deep x hx
      exact ⟨d, hd.mono hsub⟩
/-- Just that can be done. -/
theorem can_iff {l : List Op7} {o : Op7} (h : opsB l = true) (hno : ∀ p ∈ l, ¬ (p.a = o.a ∧ p.b = o.b)) : opsB (withL l o) = true ↔ CanL l o := by
  have hL := OkL.of h
  refine ⟨fun hw => ?_, fun hc => (hc.ok hL).ops⟩
  have hW := OkL.of hw
  have hm := withL_mem hL.sorted hno
  have ho : o ∈ withL l o := (hm o).2 (.inl rfl)
  refine ⟨hW.form o ho, hno, fun hb => ?_, ?_⟩
  · obtain ⟨q, hq, e1, e2⟩ := hW.prev o ho hb
    rcases (hm q).1 hq with rfl | hq
    · omega
    · exact ⟨q, hq, e1, e2⟩
  · obtain ⟨d, hd⟩ := hW.deep o ho
    refine ⟨d, ?_⟩
    have key : ∀ {e : Nat} {x : Int × Int}, Up (withL l o) e x → e ≤ d → (∀ f, f < e → True) → Up l e x ∨ ∃ f, f ≤ e ∧ Up (withL l o) f (o.a, o.b) := by
      intro e x hu
      induction hu with
      | zero => intro _ _; exact .inl .zero
      | step hm' hk hu ih =>
        rename_i e p
        intro he _
        rcases (hm p).1 hm' with rfl | hp
        · exact .inr ⟨e + 1, Nat.le_refl _, .step hm' hk hu⟩
        · rcases ih (by omega) (fun _ _ => trivial) with h' | ⟨f, hf, hu'⟩
          · exact .inl (.step hp hk h')
          · exact .inr ⟨f, by omega, hu'⟩
    rcases key hd (Nat.le_refl _) (fun _ _ => trivial) with h' | ⟨f, hf, hu⟩
    · exact h'
    · by_cases hk : o.k = 1
      · have := up_once hW.ok hW.once hu (Up.step ho hk hd)
        omega
      · exfalso
        rcases up_inv hu with ⟨_, hx⟩ | ⟨e, p, _, hm', hk', _, hx⟩
        · have := op_pos hW.ok ho
          have := congrArg Prod.fst hx
          simp at this
          omega
        · have : o = p := once_eq hW.once ho hm' (congrArg Prod.fst hx) (congrArg Prod.snd hx)
          subst this
          exact hk hk'
theorem find_new {l : List Op7} {r m : Int} (h : findI l r m < 0) : ∀ p ∈ l, ¬ (p.a = r ∧ p.b = m) := by
  intro p hp ⟨h1, h2⟩
  unfold findI at h
  cases hf : l.findIdx? (hasId r m) with
  | none =>
    have := List.findIdx?_eq_none_iff.1 hf p hp
    simp [hasId, h1, h2] at this
  | some i => rw [hf] at h; simp only at h; omega
end Go.Proofs.YtfdhhebgefoalaaDoor

namespace Go.Proofs.YtfdhhebgefoalaaDoor
open Go.RowKit
set_option linter.unusedSimpArgs false
set_option linter.unusedVariables false
attribute [local go_sem ↓] Go.wp_at_zero Go.wp_at_succ

/-- Something more can be done. -/
def okW (l : List Op7) (o : Op7) : Bool := opsB l && (decide (findI l o.a o.b < 0) && opsB (withL l o))
theorem insL_with {l : List Op7} (hs : l.Pairwise fun p q => lessB p q = true) {o : Op7} (hno : ∀ p ∈ l, ¬ (p.a = o.a ∧ p.b = o.b)) : insL l o = withL l o := by
  induction l with
  | nil => rfl
  | cons p r ih =>
    obtain ⟨h1, h2⟩ := List.pairwise_cons.1 hs
    have ih := ih h2 (fun q hq => hno q (by simp [hq]))
    have hp := hno p (by simp)
    by_cases hl : lessB p o = true
    · have hno' : lessB o p = false := by
        unfold lessB at *
        have := of_decide_eq_true hl
        exact decide_eq_false (by omega)
      have e : withL (p :: r) o = p :: withL r o := by
        unfold withL
        rw [List.filter_cons_of_pos (by simp [hl]), List.filter_cons_of_neg (by simp [hno'])]
        simp
      rw [e, ← ih]
      simp [insL, List.takeWhile_cons, List.dropWhile_cons, hl]
    · have hl' : lessB o p = true := by
        unfold lessB at *
        have := of_decide_eq_false (Bool.eq_false_iff.2 hl)
        exact decide_eq_true (by omega)
      have hall : ∀ q ∈ r, lessB o q = true ∧ lessB q o = false := fun q hq => by
        have := h1 q hq
        unfold lessB at *
        have h3 := of_decide_eq_true this
        have h4 := of_decide_eq_true hl'
        exact ⟨decide_eq_true (by omega), decide_eq_false (by omega)⟩
      have e : withL (p :: r) o = o :: p :: r := by
        unfold withL
        rw [List.filter_cons_of_neg (by simpa using hl), List.filter_cons_of_pos (by simp [hl']), List.filter_eq_nil_iff.2 (fun q hq => by simp [(hall q hq).2]), List.filter_eq_self.2 (fun q hq => (hall q hq).1)]
        rfl
      have hl0 : lessB p o = false := Bool.eq_false_iff.2 hl
      rw [e]
      simp [insL, List.takeWhile_cons, List.dropWhile_cons, hl0]
theorem insL_dup {l : List Op7} {o : Op7} (hf : ¬ findI l o.a o.b < 0) : opsB (insL l o) = false := by
  cases h : opsB (insL l o)
  · rfl
  · exfalso
    have hs := ops_sorted h
    have hp : ∃ p ∈ l, p.a = o.a ∧ p.b = o.b := by
      obtain ⟨k, hk, hkl⟩ : ∃ k : Nat, findI l o.a o.b = k ∧ ∃ hk : k < l.length, hasId o.a o.b l[k] = true := by
        unfold findI at hf ⊢
        cases hx : l.findIdx? (hasId o.a o.b) with
        | none => rw [hx] at hf; simp at hf
        | some i =>
          obtain ⟨h1, h2, _⟩ := List.findIdx?_eq_some_iff_getElem.1 hx
          exact ⟨i, rfl, h1, h2⟩
      obtain ⟨hk', hid⟩ := hkl
      exact ⟨l[k], List.getElem_mem _, by simpa [hasId] using hid⟩
    obtain ⟨p, hp, ha, hb⟩ := hp
    unfold insL at hs
    obtain ⟨_, h2, h3⟩ := List.pairwise_append.1 hs
    have hpm : p ∈ l.takeWhile (fun q => lessB q o) ∨ p ∈ l.dropWhile (fun q => lessB q o) := by
      rw [← List.takeWhile_append_dropWhile (p := fun q => lessB q o) (l := l)] at hp
      exact List.mem_append.1 hp
    have : lessB p o = true ∨ lessB o p = true := by
      rcases hpm with h | h
      · exact .inl (h3 p h o (by simp))
      · exact .inr ((List.pairwise_cons.1 h2).1 p h)
    unfold lessB at this
    rcases this with h | h <;> have := of_decide_eq_true h <;> omega

theorem withL_lenW (l : List Op7) (o : Op7) : (withL l o).length ≤ 2 * l.length + 1 := by
  unfold withL
  have h1 := List.length_filter_le (fun p => lessB p o) l
  have h2 := List.length_filter_le (fun p => lessB o p) l
  simp only [List.length_append, List.length_cons, List.length_nil]
  omega
theorem findI_w1 {l : List Op7} {r m : Int} (h : findI l r m < 0) : findI l r m = -1 := by
  unfold findI at *
  cases hx : l.findIdx? (hasId r m) with
  | none => rfl
  | some i => rw [hx] at h; simp only at h; omega
theorem findI_w0 {l : List Op7} {r m : Int} (h : ¬ findI l r m < 0) : ∃ k : Nat, findI l r m = k := ⟨(findI l r m).toNat, by omega⟩
/-- The answer. -/
def ansW (l : List Op7) (o : Op7) : List Op7 := if okW l o = true then withL l o else []
theorem ansW_yes {l : List Op7} {o : Op7} (h : okW l o = true) : ansW l o = withL l o := by unfold ansW; rw [if_pos h]
theorem ansW_no {l : List Op7} {o : Op7} (h : okW l o = false) : ansW l o = [] := by unfold ansW; rw [h]; rfl

set_option maxRecDepth 100000 in
set_option maxHeartbeats 1000000 in
theorem implWith_any (l : List Op7) (g cap : Nat) (o : Op7) (x : Addr) (w : World) (hl : OpsAt w g l) (hn : l.length ≤ 1048576) (hcap : l.length ≤ cap)
    (he : w.cell? ⟨0, 0, none⟩ = some (.iface 165 (.pointer (some x)))) (h0 : 0 < w.heap.size) :
    Calls Tryd.prog 14 #[.slice (some ⟨g, 0, none⟩) l.length cap, .agg #[.int .i64 o.a, .int .i64 o.b, .int .i64 o.k, .int .i64 o.c, .int .i64 o.d, .int .i64 o.s, .int .i64 o.g]] w fun e w' =>
      ∃ v, e = .returned (.tuple #[v, .bool (okW l o)]) ∧ w'.ownsRow w.heap.size 34 7 v (ansW l o).length (opCells (ansW l o)) ∧ Below w.heap.size w w' := by
  have HL := hideIt hl
  have hgw := hl.1
  clear hl
  have HW : Hid (WL w (w.alloc (.cells #[.int .i64 o.a, .int .i64 o.b, .int .i64 o.k, .int .i64 o.c, .int .i64 o.d, .int .i64 o.s, .int .i64 o.g] 34)) o (.slice none 0 0) []) :=
    ⟨World.ownsRow_nil _ _ _ _, World.alloc_heap_new w _, (Below.refl _ _).alloc (Nat.le_refl _) _⟩
  cases hops : opsB l
  · have hz : okW l o = false := by unfold okW; rw [hops]; rfl
    rw [ansW_no hz, hz]
    clear hz
    have HO := hideIt hops
    clear hops
    go_enter Tryd.func14, Tryd.ntmps14
    go_wp2_with (first
      | (go_at_call 40; refine (implOps_any l g cap x _ (HL.out.below HW.out.bel hgw) hn hcap (errB HW.out.bel h0 he) (posB HW.out.bel h0)).mono ?_; rintro e w1 ⟨rfl, hb1⟩; rw [th_same, HO.out]; have HB := hideIt (HW.out.below hb1).bel; clear hb1))
    exact bodyPost_ret (v := .tuple #[.slice none 0 0, .bool false]) (by simp [results, Tryd.results14, go_sem]) rfl ⟨_, rfl, World.ownsRow_nil _ _ _ _, HB.out⟩
  · have h36 := ops_36 hops
    have HINS : Hid (findI l o.a o.b < 0 → insL l o = withL l o) := fun h2 => insL_with (ops_sorted hops) (find_new h2)
    have HDUP : Hid (¬ findI l o.a o.b < 0 → opsB (insL l o) = false) := insL_dup
    have HOK : Hid (okW l o = (decide (findI l o.a o.b < 0) && opsB (withL l o))) := by show okW l o = _; unfold okW; rw [hops]; rfl
    have HO := hideIt hops
    clear hops
    cases hi : opsB (insL l o)
    · have hz : okW l o = false := by
        rw [HOK.out]
        by_cases hf : findI l o.a o.b < 0
        · rw [← HINS.out hf, hi, Bool.and_false]
        · simp [hf]
      rw [ansW_no hz, hz]
      have HI := hideIt hi
      clear hi hz HOK HINS HDUP
      go_enter Tryd.func14, Tryd.ntmps14
      go_wp2_with fail
      refine (implOps_any l g cap x _ (HL.out.below HW.out.bel hgw) hn hcap (errB HW.out.bel h0 he) (posB HW.out.bel h0)).mono ?_
      rintro e w1 ⟨rfl, hb1⟩
      rw [th_same, HO.out]
      have HW1 := hideIt (HW.out.below hb1)
      have HB := hideIt HW1.out.bel
      obtain ⟨b0, b1, b2, b3, b4, b5, b6⟩ := HW1.out.id
      clear hb1
      go_wp2_with fail
      refine (putIn_any l g cap o _ (HL.out.below HB.out hgw) hn hcap).mono ?_
      rintro e w2 ⟨G, c, rfl, hO2, hb2⟩
      have HO2 := hideIt hO2
      have HB := hideIt (Bstep HB.out hb2)
      clear hO2 hb2
      go_wp2_with fail
      refine (implOps_any (insL l o) G c x _ HO2.out.at (by rw [insL_len]; omega) HO2.out.cap (errB HB.out h0 he) (posB HB.out h0)).mono ?_
      rintro e w3 ⟨rfl, hb3⟩
      rw [th_same, HI.out]
      have HB := hideIt (Bstep HB.out hb3)
      clear hb3
      go_wp2
      exact bodyPost_ret (v := .tuple #[.slice none 0 0, .bool false]) (by simp [results, Tryd.results14, go_sem]) rfl ⟨_, rfl, World.ownsRow_nil _ _ _ _, HB.out⟩
    · have hf : findI l o.a o.b < 0 := by
        rcases Decidable.em (findI l o.a o.b < 0) with h | h
        · exact h
        · rw [HDUP.out h] at hi; cases hi
      have hz : okW l o = true := by rw [HOK.out, ← HINS.out hf, hi]; simp [hf]
      rw [ansW_yes hz, hz, ← HINS.out hf]
      have HI := hideIt hi
      clear hi hz HOK HINS HDUP hf
      go_enter Tryd.func14, Tryd.ntmps14
      go_wp2_with fail
      refine (implOps_any l g cap x _ (HL.out.below HW.out.bel hgw) hn hcap (errB HW.out.bel h0 he) (posB HW.out.bel h0)).mono ?_
      rintro e w1 ⟨rfl, hb1⟩
      rw [th_same, HO.out]
      have HW1 := hideIt (HW.out.below hb1)
      have HB := hideIt HW1.out.bel
      obtain ⟨b0, b1, b2, b3, b4, b5, b6⟩ := HW1.out.id
      clear hb1
      go_wp2_with fail
      refine (putIn_any l g cap o _ (HL.out.below HB.out hgw) hn hcap).mono ?_
      rintro e w2 ⟨G, c, rfl, hO2, hb2⟩
      have HO2 := hideIt (show OwnOps w2 w.heap.size G c (insL l o) from ownsRow_base HB.out.size hO2)
      have HB := hideIt (Bstep HB.out hb2)
      clear hO2 hb2
      go_wp2_with fail
      refine (implOps_any (insL l o) G c x _ HO2.out.at (by rw [insL_len]; omega) HO2.out.cap (errB HB.out h0 he) (posB HB.out h0)).mono ?_
      rintro e w3 ⟨rfl, hb3⟩
      rw [th_same, HI.out]
      have HO3 := hideIt (HO2.out.below hb3)
      have HB := hideIt (Bstep HB.out hb3)
      clear hb3
      go_wp2
      exact bodyPost_ret (v := .tuple #[.slice (some ⟨G, 0, none⟩) (insL l o).length c, .bool true]) (by simp [results, Tryd.results14, go_sem]) rfl ⟨_, rfl, HO3.out, HB.out⟩

set_option maxRecDepth 100000 in
set_option maxHeartbeats 1000000 in
theorem specWith_any (l : List Op7) (g cap : Nat) (o : Op7) (w : World) (hl : OpsAt w g l) (hn : l.length ≤ 1048576) (hcap : l.length ≤ cap) :
    Calls Tryd.prog 11 #[.slice (some ⟨g, 0, none⟩) l.length cap, .agg #[.int .i64 o.a, .int .i64 o.b, .int .i64 o.k, .int .i64 o.c, .int .i64 o.d, .int .i64 o.s, .int .i64 o.g]] w fun e w' =>
      ∃ v, e = .returned (.tuple #[v, .bool (okW l o)]) ∧ w'.ownsRow w.heap.size 34 7 v (ansW l o).length (opCells (ansW l o)) ∧ Below w.heap.size w w' := by
  have HL := hideIt hl
  have hgw := hl.1
  clear hl
  have HW : Hid (WL w (w.alloc (.cells #[.int .i64 o.a, .int .i64 o.b, .int .i64 o.k, .int .i64 o.c, .int .i64 o.d, .int .i64 o.s, .int .i64 o.g] 34)) o (.slice none 0 0) []) :=
    ⟨World.ownsRow_nil _ _ _ _, World.alloc_heap_new w _, (Below.refl _ _).alloc (Nat.le_refl _) _⟩
  cases hops : opsB l
  · have hz : okW l o = false := by unfold okW; rw [hops]; rfl
    rw [ansW_no hz, hz]
    clear hz
    have HO := hideIt hops
    clear hops
    go_enter Tryd.func11, Tryd.ntmps11
    go_wp2_with (first
      | (go_at_call 36; refine (specOps_any l g cap _ (HL.out.below HW.out.bel hgw) hn hcap).mono ?_; rintro e w1 ⟨rfl, hb1⟩; rw [HO.out]; have HB := hideIt (HW.out.below hb1).bel; clear hb1))
    exact bodyPost_ret (v := .tuple #[.slice (some ⟨w1.heap.size, 0, none⟩) 0 0, .bool false]) (by simp [results, Tryd.results11, go_sem]) rfl ⟨_, rfl, World.ownsRow_made (base := w.heap.size) (e := 34) (size := 7) _ #[] 0 HB.out.size (Nat.zero_le _) rfl, HB.out.alloc HB.out.size _⟩
  · have h36 := ops_36 hops
    have HOK : Hid (okW l o = (decide (findI l o.a o.b < 0) && opsB (withL l o))) := by show okW l o = _; unfold okW; rw [hops]; rfl
    have HO := hideIt hops
    clear hops
    by_cases hf : findI l o.a o.b < 0
    · have HF := hideIt (findI_w1 hf)
      cases hi : opsB (withL l o)
      · have hz : okW l o = false := by rw [HOK.out, hi, Bool.and_false]
        rw [ansW_no hz, hz]
        have HI := hideIt hi
        clear hi hz HOK hf
        go_enter Tryd.func11, Tryd.ntmps11
        go_wp2_with fail
        refine (specOps_any l g cap _ (HL.out.below HW.out.bel hgw) hn hcap).mono ?_
        rintro e w1 ⟨rfl, hb1⟩
        rw [HO.out]
        have HW1 := hideIt (HW.out.below hb1)
        obtain ⟨b0, b1, b2, b3, b4, b5, b6⟩ := HW1.out.id
        clear hb1
        go_wp2_with fail
        refine (l1Find_any l _ _ _ _ _ (HL.out.below HW1.out.bel hgw) hn hcap).mono ?_
        rintro e w2 ⟨rfl, hb2⟩
        rw [HF.out]
        have HW2 := hideIt (HW1.out.below hb2)
        clear hb2 b0 b1 b2 b3 b4 b5 b6
        obtain ⟨b0, b1, b2, b3, b4, b5, b6⟩ := HW2.out.id
        go_wp2_with fail
        refine (l3With_any l g cap o _ (HL.out.below HW2.out.bel hgw) hn hcap).mono ?_
        rintro e w3 ⟨G, c, rfl, hO3, hb3⟩
        have HO3 := hideIt (show OwnOps w3 w.heap.size G c (withL l o) from ownsRow_base HW2.out.bel.size hO3)
        have HB := hideIt (Bstep HW2.out.bel hb3)
        clear hO3 hb3
        go_wp2_with fail
        refine (specOps_any (withL l o) G c _ HO3.out.at (by have := withL_lenW l o; omega) HO3.out.cap).mono ?_
        rintro e w4 ⟨rfl, hb4⟩
        rw [HI.out]
        have HO4 := hideIt (HO3.out.below hb4)
        have HB := hideIt (Bstep HB.out hb4)
        clear hb4
        go_wp2
        exact bodyPost_ret (v := .tuple #[.slice (some ⟨w4.heap.size, 0, none⟩) 0 0, .bool false]) (by simp [results, Tryd.results11, go_sem]) rfl ⟨_, rfl, World.ownsRow_made (base := w.heap.size) (e := 34) (size := 7) _ #[] 0 HB.out.size (Nat.zero_le _) rfl, HB.out.alloc HB.out.size _⟩
      · have hz : okW l o = true := by rw [HOK.out, hi]; simp [hf]
        rw [ansW_yes hz, hz]
        have HI := hideIt hi
        clear hi hz HOK hf
        go_enter Tryd.func11, Tryd.ntmps11
        go_wp2_with fail
        refine (specOps_any l g cap _ (HL.out.below HW.out.bel hgw) hn hcap).mono ?_
        rintro e w1 ⟨rfl, hb1⟩
        rw [HO.out]
        have HW1 := hideIt (HW.out.below hb1)
        obtain ⟨b0, b1, b2, b3, b4, b5, b6⟩ := HW1.out.id
        clear hb1
        go_wp2_with fail
        refine (l1Find_any l _ _ _ _ _ (HL.out.below HW1.out.bel hgw) hn hcap).mono ?_
        rintro e w2 ⟨rfl, hb2⟩
        rw [HF.out]
        have HW2 := hideIt (HW1.out.below hb2)
        clear hb2 b0 b1 b2 b3 b4 b5 b6
        obtain ⟨b0, b1, b2, b3, b4, b5, b6⟩ := HW2.out.id
        go_wp2_with fail
        refine (l3With_any l g cap o _ (HL.out.below HW2.out.bel hgw) hn hcap).mono ?_
        rintro e w3 ⟨G, c, rfl, hO3, hb3⟩
        have HO3 := hideIt (show OwnOps w3 w.heap.size G c (withL l o) from ownsRow_base HW2.out.bel.size hO3)
        have HB := hideIt (Bstep HW2.out.bel hb3)
        clear hO3 hb3
        go_wp2_with fail
        refine (specOps_any (withL l o) G c _ HO3.out.at (by have := withL_lenW l o; omega) HO3.out.cap).mono ?_
        rintro e w4 ⟨rfl, hb4⟩
        rw [HI.out]
        have HO4 := hideIt (HO3.out.below hb4)
        have HB := hideIt (Bstep HB.out hb4)
        clear hb4
        go_wp2
        exact bodyPost_ret (v := .tuple #[.slice (some ⟨G, 0, none⟩) (withL l o).length c, .bool true]) (by simp [results, Tryd.results11, go_sem]) rfl ⟨_, rfl, HO4.out, HB.out⟩
    · have hz : okW l o = false := by rw [HOK.out]; simp [hf]
      rw [ansW_no hz, hz]
      obtain ⟨kf, hkf⟩ := findI_w0 hf
      have HF := hideIt hkf
      have hk0 : ¬ (kf : Int) < 0 := by omega
      clear hz HOK hf hkf
      go_enter Tryd.func11, Tryd.ntmps11
      go_wp2_with fail
      refine (specOps_any l g cap _ (HL.out.below HW.out.bel hgw) hn hcap).mono ?_
      rintro e w1 ⟨rfl, hb1⟩
      rw [HO.out]
      have HW1 := hideIt (HW.out.below hb1)
      obtain ⟨b0, b1, b2, b3, b4, b5, b6⟩ := HW1.out.id
      clear hb1
      go_wp2_with fail
      refine (l1Find_any l _ _ _ _ _ (HL.out.below HW1.out.bel hgw) hn hcap).mono ?_
      rintro e w2 ⟨rfl, hb2⟩
      rw [HF.out]
      have HW2 := hideIt (HW1.out.below hb2)
      clear hb2 b0 b1 b2 b3 b4 b5 b6
      obtain ⟨b0, b1, b2, b3, b4, b5, b6⟩ := HW2.out.id
      go_wp2
      have HB := hideIt HW2.out.bel
      exact bodyPost_ret (v := .tuple #[.slice (some ⟨w2.heap.size, 0, none⟩) 0 0, .bool false]) (by simp [results, Tryd.results11, go_sem]) rfl ⟨_, rfl, World.ownsRow_made (base := w.heap.size) (e := 34) (size := 7) _ #[] 0 HB.out.size (Nat.zero_le _) rfl, HB.out.alloc HB.out.size _⟩
end Go.Proofs.YtfdhhebgefoalaaDoor
