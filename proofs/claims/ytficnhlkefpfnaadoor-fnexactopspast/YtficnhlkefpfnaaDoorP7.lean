/- How numbers that came in read. -/
import Derived.Test.YtficnhlkefpfnaaDoorP2
import Derived.Test.YtficnhlkefpfnaaDoorP1
import Derived.Test.YtficnhlkefpfnaaDoorP0
import Derived.RangeFuncBox
import Derived.Deep.RegionHeld3
import Derived.Test.YtficnhlkefpfnaaDoorP3
import Derived.Laws.CopyOwn
import Derived.OwnWalk
import Derived.BigQuiet
import Derived.WalkSmall
import Derived.Test.YtficnhlkefpfnaaDoorP6
import Derived.ChangeSlices
namespace Go.Proofs.YtficnhlkefpfnaaDoor
open Go.RowKit
set_option linter.unusedSimpArgs false
set_option linter.unusedVariables false
attribute [local go_sem ↓] Go.wp_at_zero Go.wp_at_succ

/-- Whether something was seen. -/
def seenB (s : List Int) (a b : Int) : Bool := decide (a ≤ (s.length : Int)) && decide (b ≤ s.getD (a - 1).toNat 0)
theorem seenB_no {s : List Int} {a b : Int} (h : ¬ a ≤ (s.length : Int)) : seenB s a b = false := by simp [seenB, h]
theorem seenB_at {s : List Int} {a b z : Int} (h : a ≤ (s.length : Int)) (hz : s[(a - 1).toNat]? = some z) : seenB s a b = decide (b ≤ z) := by unfold seenB; rw [List.getD, hz]; simp [h]
theorem seen_at {s : List Int} {a : Int} (h1 : 1 ≤ a) (h : a ≤ (s.length : Int)) : ∃ z, s[(a - 1).toNat]? = some z := ⟨_, List.getElem?_eq_getElem (by omega)⟩

set_option maxRecDepth 100000 in
set_option maxHeartbeats 2000000 in
theorem l12Seen_any (s : List Int) (g cap : Nat) (a b : Int) (w : World) (hs : IntsAt w g s) (hn : s.length ≤ 1048576) (hcap : s.length ≤ cap) (h1 : 1 ≤ a) (h3 : a ≤ 3) :
    Calls Tryd.prog 106 #[.slice (some ⟨g, 0, none⟩) s.length cap, .agg #[.int .i64 a, .int .i64 b]] w fun e w' => e = .returned (.bool (seenB s a b)) ∧ Below w.heap.size w w' := by
  by_cases h : a ≤ (s.length : Int)
  · obtain ⟨z, hz⟩ := seen_at h1 h
    have hc := hs.2 _ _ hz
    rw [seenB_at h hz]
    have hg := hs.1
    clear hz hs
    generalize s.length = n at *
    obtain rfl | rfl | rfl : a = 1 ∨ a = 2 ∨ a = 3 := by omega
    all_goals
      simp at hc
      go_enter Tryd.func106, Tryd.ntmps106
      go_wp2
      go_quiet (fail)
      go_wp2
      go_ret
      exact ⟨rfl, below_drewN ((Below.refl _ _).alloc (Nat.le_refl _) _) _⟩
  · rw [seenB_no h]
    clear hs
    generalize s.length = n at *
    obtain ⟨rfl, rfl⟩ | ⟨rfl, rfl⟩ | ⟨rfl, rfl⟩ | ⟨rfl, rfl⟩ | ⟨rfl, rfl⟩ | ⟨rfl, rfl⟩ : (a = 1 ∧ n = 0) ∨ (a = 2 ∧ n = 0) ∨ (a = 2 ∧ n = 1) ∨ (a = 3 ∧ n = 0) ∨ (a = 3 ∧ n = 1) ∨ (a = 3 ∧ n = 2) := by omega
    all_goals
      go_enter Tryd.func106, Tryd.ntmps106
      go_wp2
      go_quiet (fail)
      go_wp2
      go_ret
      exact ⟨rfl, below_drewN ((Below.refl _ _).alloc (Nat.le_refl _) _) _⟩

set_option maxRecDepth 100000 in
set_option maxHeartbeats 2000000 in
theorem wasSeen_any (s : List Int) (g cap : Nat) (a b : Int) (w : World) (hs : IntsAt w g s) (hn : s.length ≤ 1048576) (hcap : s.length ≤ cap) (h1 : 1 ≤ a) (h3 : a ≤ 3) :
    Calls Tryd.prog 127 #[.slice (some ⟨g, 0, none⟩) s.length cap, .agg #[.int .i64 a, .int .i64 b]] w fun e w' => e = .returned (.bool (seenB s a b)) ∧ Below w.heap.size w w' := by
  by_cases h : a ≤ (s.length : Int)
  · obtain ⟨z, hz⟩ := seen_at h1 h
    have hc := hs.2 _ _ hz
    rw [seenB_at h hz]
    have hg := hs.1
    clear hz hs
    generalize s.length = n at *
    obtain rfl | rfl | rfl : a = 1 ∨ a = 2 ∨ a = 3 := by omega
    all_goals
      simp at hc
      go_enter Tryd.func127, Tryd.ntmps127
      go_wp2
      go_quiet (fail)
      go_wp2
      go_ret
      exact ⟨rfl, below_drewN ((Below.refl _ _).alloc (Nat.le_refl _) _) _⟩
  · rw [seenB_no h]
    clear hs
    generalize s.length = n at *
    obtain ⟨rfl, rfl⟩ | ⟨rfl, rfl⟩ | ⟨rfl, rfl⟩ | ⟨rfl, rfl⟩ | ⟨rfl, rfl⟩ | ⟨rfl, rfl⟩ : (a = 1 ∧ n = 0) ∨ (a = 2 ∧ n = 0) ∨ (a = 2 ∧ n = 1) ∨ (a = 3 ∧ n = 0) ∨ (a = 3 ∧ n = 1) ∨ (a = 3 ∧ n = 2) := by omega
    all_goals
      go_enter Tryd.func127, Tryd.ntmps127
      go_wp2
      go_quiet (fail)
      go_wp2
      go_ret
      exact ⟨rfl, below_drewN ((Below.refl _ _).alloc (Nat.le_refl _) _) _⟩
end Go.Proofs.YtficnhlkefpfnaaDoor

namespace Go.Proofs.YtficnhlkefpfnaaDoor
set_option linter.unusedSimpArgs false
set_option linter.unusedVariables false

/-- It is among them. -/
def hasI (out : List Op7) (r m : Int) : Bool := decide (¬ findI out r m < 0)
theorem hasI_any (out : List Op7) (r m : Int) : hasI out r m = out.any (hasId r m) := by
  unfold hasI
  rw [Bool.eq_iff_iff, decide_eq_true_eq, List.any_eq_true]
  constructor
  · intro h
    obtain ⟨y, hy, h1, h2⟩ := findI_yes h
    exact ⟨y, hy, by simp [hasId, h1, h2]⟩
  · rintro ⟨y, hy, h⟩ hf
    have := findI_not hf y hy
    simp [hasId] at h
    exact this h
theorem hasI_more (out : List Op7) (o : Op7) (r m : Int) : hasI (out ++ [o]) r m = (hasI out r m || (o.a == r && o.b == m)) := by
  rw [hasI_any, hasI_any, List.any_append]
  simp [hasId]
/-- It can be told. -/
def rdy (s : List Int) (out : List Op7) (o : Op7) : Bool :=
  (!seenB s o.a o.b && !hasI out o.a o.b) && (decide (o.b - 1 = 0) || seenB s o.a (o.b - 1) || hasI out o.a (o.b - 1)) && (decide (o.c = 0 ∧ o.d = 0) || seenB s o.c o.d || hasI out o.c o.d)
def tell (l : List Op7) (s : List Int) (out : List Op7) : List Op7 := match l.find? (rdy s out) with | none => out | some o => out ++ [o]
def past (l : List Op7) (s : List Int) : Nat → List Op7
  | 0 => []
  | k + 1 => tell l s (past l s k)
theorem past_len (l : List Op7) (s : List Int) : ∀ k, (past l s k).length ≤ k
  | 0 => by simp [past]
  | k + 1 => by
    have ih := past_len l s k
    unfold past tell
    split <;> simp <;> omega
theorem past_end {l : List Op7} {s : List Int} {k : Nat} (h : l.find? (rdy s (past l s k)) = none) : ∀ j, k ≤ j → past l s j = past l s k := by
  intro j hj
  induction j with
  | zero => have : k = 0 := by omega
            rw [this]
  | succ j ih =>
    rcases Nat.lt_or_ge k (j + 1) with h' | h'
    · have e := ih (by omega)
      show tell l s (past l s j) = _
      rw [e]; unfold tell; rw [h]
    · have : k = j + 1 := by omega
      rw [this]
theorem past_next {l : List Op7} {s : List Int} {k i : Nat} (hi : i < l.length) (h : rdy s (past l s k) l[i] = true) (hb : ∀ j (hj : j < l.length), j < i → rdy s (past l s k) l[j] = false) : past l s (k + 1) = past l s k ++ [l[i]] := by
  have e : l.find? (rdy s (past l s k)) = some l[i] := by
    rw [List.find?_eq_some_iff_getElem]
    exact ⟨h, i, hi, rfl, fun j hj => by simp [hb j (by omega) hj]⟩
  show tell l s (past l s k) = _
  unfold tell; rw [e]
theorem past_none {l : List Op7} {s : List Int} {k : Nat} (hb : ∀ j (hj : j < l.length), rdy s (past l s k) l[j] = false) : l.find? (rdy s (past l s k)) = none := by
  rw [List.find?_eq_none]
  intro x hx
  obtain ⟨j, hj, rfl⟩ := List.getElem_of_mem hx
  simp [hb j hj]
theorem past_sub (l : List Op7) (s : List Int) : ∀ k, (∀ x ∈ past l s k, x ∈ l) ∧ (past l s k).Pairwise fun p q => ¬ (p.a = q.a ∧ p.b = q.b)
  | 0 => by simp [past]
  | k + 1 => by
    obtain ⟨h1, h2⟩ := past_sub l s k
    unfold past tell
    split
    · exact ⟨h1, h2⟩
    · rename_i o ho
      have hr := List.find?_some ho
      have hm := List.mem_of_find?_eq_some ho
      refine ⟨fun x hx => ?_, ?_⟩
      · rcases List.mem_append.1 hx with hx | hx
        · exact h1 x hx
        · rw [List.mem_singleton.1 hx]; exact hm
      · rw [List.pairwise_append]
        refine ⟨h2, by simp, fun x hx y hy hxy => ?_⟩
        rw [List.mem_singleton.1 hy] at hxy
        unfold rdy at hr
        simp only [Bool.and_eq_true, Bool.not_eq_true', hasI_any] at hr
        have := List.any_eq_false.1 hr.1.1.2 x hx
        simp [hasId, hxy] at this
theorem past_le (l : List Op7) (s : List Int) (k : Nat) : (past l s k).length ≤ l.length := by
  obtain ⟨h1, h2⟩ := past_sub l s k
  have hn : (past l s k).Nodup := h2.imp fun {p q} h e => h (by rw [e]; exact ⟨rfl, rfl⟩)
  exact hn.length_le_of_subset h1
/-- What OpsPast answers. -/
def ansP (l : List Op7) (s : List Int) (most : Int) : List Op7 := if opsB l = true then past l s most.toNat else []
theorem ansP_len (l : List Op7) (s : List Int) (most : Int) : (ansP l s most).length ≤ l.length := by
  unfold ansP
  split
  · exact past_le _ _ _
  · simp

/-- What the program keeps: of each how much was seen or told. -/
structure KN (s : List Int) (out : List Op7) (kn : List Int) : Prop where
  len : kn.length = 3
  said : ∀ r n, 1 ≤ r → r ≤ 3 → 1 ≤ n → seenB kn r n = (seenB s r n || hasI out r n)
/-- It can be told, by what the program keeps. -/
def rdyK (kn : List Int) (o : Op7) : Bool := !seenB kn o.a o.b && (decide (o.b - 1 = 0) || seenB kn o.a (o.b - 1)) && (decide (o.d = 0) || seenB kn o.c o.d)
theorem okO_refd {o : Op7} (h : okO o = true) : (o.c = 0 ∧ o.d = 0) ∨ (1 ≤ o.c ∧ o.c ≤ 3 ∧ 1 ≤ o.d ∧ o.d ≤ 12) := by
  have := h
  unfold okO at this
  rw [opB_true] at this
  omega
theorem KN.rdy {s : List Int} {out : List Op7} {kn : List Int} (h : KN s out kn) {o : Op7} (ho : okO o = true) : rdyK kn o = rdy s out o := by
  obtain ⟨h1, h2, h3, h4⟩ := okO_id ho
  unfold rdyK Go.Proofs.YtficnhlkefpfnaaDoor.rdy
  rw [h.said _ _ h1 h2 h3]
  have e1 : (decide (o.b - 1 = 0) || seenB kn o.a (o.b - 1)) = (decide (o.b - 1 = 0) || seenB s o.a (o.b - 1) || hasI out o.a (o.b - 1)) := by
    by_cases hz : o.b - 1 = 0
    · simp [hz]
    · rw [h.said _ _ h1 h2 (by omega)]; simp [hz]
  have e2 : (decide (o.d = 0) || seenB kn o.c o.d) = (decide (o.c = 0 ∧ o.d = 0) || seenB s o.c o.d || hasI out o.c o.d) := by
    rcases okO_refd ho with ⟨hc, hd⟩ | ⟨hc1, hc2, hd1, hd2⟩
    · simp [hc, hd]
    · rw [h.said _ _ hc1 hc2 hd1]
      have : ¬ o.d = 0 := by omega
      simp [this]
  rw [e1, e2, Bool.not_or]
theorem seenB_kn {kn : List Int} (hl : kn.length = 3) {r n : Int} (h1 : 1 ≤ r) (h3 : r ≤ 3) : seenB kn r n = decide (n ≤ kn.getD (r - 1).toNat 0) := by
  unfold seenB
  rw [hl]
  simp [h3]
theorem KN.next {s : List Int} {out : List Op7} {kn : List Int} (h : KN s out kn) {o : Op7} (ho : okO o = true) (hr : rdyK kn o = true) : KN s (out ++ [o]) (kn.set (o.a - 1).toNat o.b) := by
  obtain ⟨h1, h2, h3, h4⟩ := okO_id ho
  refine ⟨by simp [h.len], fun r n hr1 hr3 hn => ?_⟩
  have hl' : (kn.set (o.a - 1).toNat o.b).length = 3 := by simp [h.len]
  rw [seenB_kn hl' hr1 hr3, hasI_more, ← Bool.or_assoc, ← h.said r n hr1 hr3 hn, seenB_kn h.len hr1 hr3]
  unfold rdyK at hr
  rw [seenB_kn h.len h1 h2, seenB_kn h.len h1 h2] at hr
  simp only [Bool.and_eq_true, Bool.not_eq_true', decide_eq_false_iff_not, Bool.or_eq_true, decide_eq_true_eq] at hr
  have hlen := h.len
  by_cases hra : o.a = r
  · subst hra
    have e : (kn.set (o.a - 1).toNat o.b).getD (o.a - 1).toNat 0 = o.b := by
      rw [List.getD, List.getElem?_set_self (by omega)]; rfl
    rw [e, Bool.eq_iff_iff]
    simp only [Bool.or_eq_true, decide_eq_true_eq, Bool.and_eq_true, beq_self_eq_true, true_and, beq_iff_eq]
    omega
  · have e : (kn.set (o.a - 1).toNat o.b).getD (r - 1).toNat 0 = kn.getD (r - 1).toNat 0 := by
      rw [List.getD, List.getElem?_set_ne (by omega)]; rfl
    rw [e]
    simp [hra]
/-- At the beginning: what was seen of three, and nothing of whom nothing is said. -/
def kn0 (s : List Int) : List Int := [s.getD 0 0, s.getD 1 0, s.getD 2 0]
theorem KN.zero (s : List Int) : KN s [] (kn0 s) := by
  refine ⟨rfl, fun r n h1 h3 hn => ?_⟩
  have e : hasI [] r n = false := by rw [hasI_any]; rfl
  rw [seenB_kn rfl h1 h3, e, Bool.or_false]
  unfold seenB
  have hg : (kn0 s).getD (r - 1).toNat 0 = s.getD (r - 1).toNat 0 := by
    obtain rfl | rfl | rfl : r = 1 ∨ r = 2 ∨ r = 3 := by omega
    all_goals rfl
  rw [hg, Bool.eq_iff_iff]
  simp only [Bool.and_eq_true, decide_eq_true_eq]
  constructor
  · intro h
    refine ⟨?_, h⟩
    by_cases hl : r ≤ (s.length : Int)
    · exact hl
    · rw [List.getD, List.getElem?_eq_none (by omega)] at h
      simp at h
      omega
  · exact fun h => h.2
end Go.Proofs.YtficnhlkefpfnaaDoor

namespace Go.Proofs.YtficnhlkefpfnaaDoor
open Go.RowKit
set_option linter.unusedSimpArgs false
set_option linter.unusedVariables false
attribute [local go_sem ↓] Go.wp_at_zero Go.wp_at_succ

set_option maxRecDepth 100000 in
set_option maxHeartbeats 2000000 in
theorem isKnown_any (s : List Int) (g cap : Nat) (a b : Int) (w : World) (hs : IntsAt w g s) (hn : s.length ≤ 1048576) (hcap : s.length ≤ cap) (h1 : b = 0 ∨ (1 ≤ a ∧ a ≤ 3)) :
    Calls Tryd.prog 128 #[.slice (some ⟨g, 0, none⟩) s.length cap, .agg #[.int .i64 a, .int .i64 b]] w fun e w' => e = .returned (.bool (decide (b = 0) || seenB s a b)) ∧ Below w.heap.size w w' := by
  have HB0 : Hid (Below w.heap.size w (w.alloc (.cells #[.int .i64 a, .int .i64 b] 69))) := (Below.refl _ _).alloc (Nat.le_refl _) _
  have HS := hideIt hs
  have hgw := hs.1
  clear hs
  by_cases hb : b = 0
  · subst hb
    go_enter Tryd.func128, Tryd.ntmps128
    go_wp2
    go_ret
    exact ⟨by simp, HB0.out⟩
  · obtain ⟨h1a, h1b⟩ := h1.resolve_left hb
    go_enter Tryd.func128, Tryd.ntmps128
    go_wp2_with fail
    refine (wasSeen_any s g cap a b _ (HS.out.below HB0.out hgw) hn hcap h1a h1b).mono ?_
    rintro e w1 ⟨rfl, hb1⟩
    have HB1 := hideIt (Bstep HB0.out hb1)
    clear hb1
    go_wp2
    go_ret
    exact ⟨by first | rfl | simp, HB1.out⟩

theorem blk_bel {w W : World} {b : Nat} {o : Obj} (h : w.heap[b]? = some o) (hb : Below w.heap.size w W) : W.heap[b]? = some o := (hb.block b (Array.getElem?_eq_some_iff.1 h).1).trans h
set_option maxRecDepth 100000 in
set_option maxHeartbeats 4000000 in
theorem canBeTold_any (s : List Int) (g cap : Nat) (o : Op7) (ho : okO o = true) (w : World) (hs : IntsAt w g s) (hn : s.length ≤ 1048576) (hcap : s.length ≤ cap) :
    Calls Tryd.prog 107 #[.slice (some ⟨g, 0, none⟩) s.length cap, .agg #[.int .i64 o.a, .int .i64 o.b, .int .i64 o.k, .int .i64 o.c, .int .i64 o.d, .int .i64 o.s, .int .i64 o.g]] w fun e w' => e = .returned (.bool (rdyK s o)) ∧ Below w.heap.size w w' := by
  obtain ⟨ha1, ha3, hb1, hb12⟩ := okO_id ho
  have hrf : o.d = 0 ∨ (1 ≤ o.c ∧ o.c ≤ 3) := by rcases okO_refd ho with h | h <;> omega
  have HS := hideIt hs
  have hgw := hs.1
  clear hs
  obtain ⟨W0, hW0⟩ : ∃ W0, ((w.alloc (.cells #[.int .i64 o.a, .int .i64 o.b, .int .i64 o.k, .int .i64 o.c, .int .i64 o.d, .int .i64 o.s, .int .i64 o.g] 71)).alloc (.cells #[.int .i64 o.a, .int .i64 (o.b - 1)] 69)) = W0 := ⟨_, rfl⟩
  have HBX : Hid (Below w.heap.size w W0) := by rw [← hW0]; exact ((Below.refl _ _).alloc (Nat.le_refl _) _).alloc (by simp) _
  have HOX : Hid (W0.heap[w.heap.size]? = some (.cells #[.int .i64 o.a, .int .i64 o.b, .int .i64 o.k, .int .i64 o.c, .int .i64 o.d, .int .i64 o.s, .int .i64 o.g] 71 (0, 0))) := by rw [← hW0]; exact (Below.heap_alloc _ _ _ (by simp)).trans (World.alloc_heap_new _ _)
  have HAX : Hid (W0.heap[w.heap.size + 1]? = some (.cells #[.int .i64 o.a, .int .i64 (o.b - 1)] 69 (0, 0))) := by
    rw [← hW0]
    have h := World.alloc_heap_new (w.alloc (.cells #[.int .i64 o.a, .int .i64 o.b, .int .i64 o.k, .int .i64 o.c, .int .i64 o.d, .int .i64 o.s, .int .i64 o.g] 71)) (.cells #[.int .i64 o.a, .int .i64 (o.b - 1)] 69)
    rw [World.size_alloc] at h
    exact h
  cases hz1 : seenB s o.a o.b
  · cases hz2 : (decide (o.b - 1 = 0) || seenB s o.a (o.b - 1))
    · have HZ1 := hideIt hz1
      have HZ2 := hideIt hz2
      have HE : Hid (rdyK s o = false) := by show _ = _; unfold rdyK; rw [hz1, hz2]; rfl
      clear hz1 hz2
      go_enter Tryd.func107, Tryd.ntmps107
      have y0 := (blk_cell HOX.out 0).trans rfl
      have y1 := (blk_cell HOX.out 1).trans rfl
      have y2 := (blk_cell HOX.out 2).trans rfl
      have y3 := (blk_cell HOX.out 3).trans rfl
      have y4 := (blk_cell HOX.out 4).trans rfl
      have y5 := (blk_cell HOX.out 5).trans rfl
      have y6 := (blk_cell HOX.out 6).trans rfl
      have t0 := (blk_cell HAX.out 0).trans rfl
      have t1 := (blk_cell HAX.out 1).trans rfl
      have yl := (Array.getElem?_eq_some_iff.1 HOX.out).1
      have tl := (Array.getElem?_eq_some_iff.1 HAX.out).1
      go_wp2_with fail
      refine (wasSeen_any s g cap o.a o.b _ (HS.out.below HBX.out hgw) hn hcap ha1 ha3).mono ?_
      rintro e w1 ⟨rfl, hb⟩
      rw [HZ1.out]
      replace HOX := hideIt (blk_bel HOX.out hb)
      replace HAX := hideIt (blk_bel HAX.out hb)
      replace HBX := hideIt (Bstep HBX.out hb)
      clear y0 y1 y2 y3 y4 y5 y6 t0 t1 yl tl hb
      clear hW0
      have y0 := (blk_cell HOX.out 0).trans rfl
      have y1 := (blk_cell HOX.out 1).trans rfl
      have y2 := (blk_cell HOX.out 2).trans rfl
      have y3 := (blk_cell HOX.out 3).trans rfl
      have y4 := (blk_cell HOX.out 4).trans rfl
      have y5 := (blk_cell HOX.out 5).trans rfl
      have y6 := (blk_cell HOX.out 6).trans rfl
      have t0 := (blk_cell HAX.out 0).trans rfl
      have t1 := (blk_cell HAX.out 1).trans rfl
      have yl := (Array.getElem?_eq_some_iff.1 HOX.out).1
      have tl := (Array.getElem?_eq_some_iff.1 HAX.out).1
      go_wp2_with fail
      refine (isKnown_any s g cap o.a (o.b - 1) _ (HS.out.below HBX.out hgw) hn hcap (.inr ⟨ha1, ha3⟩)).mono ?_
      rintro e w2 ⟨rfl, hb⟩
      rw [HZ2.out]
      replace HOX := hideIt (blk_bel HOX.out hb)
      replace HAX := hideIt (blk_bel HAX.out hb)
      replace HBX := hideIt (Bstep HBX.out hb)
      clear y0 y1 y2 y3 y4 y5 y6 t0 t1 yl tl hb
      have y0 := (blk_cell HOX.out 0).trans rfl
      have y1 := (blk_cell HOX.out 1).trans rfl
      have y2 := (blk_cell HOX.out 2).trans rfl
      have y3 := (blk_cell HOX.out 3).trans rfl
      have y4 := (blk_cell HOX.out 4).trans rfl
      have y5 := (blk_cell HOX.out 5).trans rfl
      have y6 := (blk_cell HOX.out 6).trans rfl
      have t0 := (blk_cell HAX.out 0).trans rfl
      have t1 := (blk_cell HAX.out 1).trans rfl
      have yl := (Array.getElem?_eq_some_iff.1 HOX.out).1
      have tl := (Array.getElem?_eq_some_iff.1 HAX.out).1
      go_wp2
      go_ret
      exact ⟨by rw [HE.out]; rfl, HBX.out⟩
    · have HZ1 := hideIt hz1
      have HZ2 := hideIt hz2
      obtain ⟨z, hz⟩ : ∃ z, (decide (o.d = 0) || seenB s o.c o.d) = z := ⟨_, rfl⟩
      have HZ3 := hideIt hz
      have HE : Hid (rdyK s o = z) := by show _ = _; unfold rdyK; rw [hz1, hz2, hz]; rfl
      clear hz1 hz2 hz
      go_enter Tryd.func107, Tryd.ntmps107
      have y0 := (blk_cell HOX.out 0).trans rfl
      have y1 := (blk_cell HOX.out 1).trans rfl
      have y2 := (blk_cell HOX.out 2).trans rfl
      have y3 := (blk_cell HOX.out 3).trans rfl
      have y4 := (blk_cell HOX.out 4).trans rfl
      have y5 := (blk_cell HOX.out 5).trans rfl
      have y6 := (blk_cell HOX.out 6).trans rfl
      have t0 := (blk_cell HAX.out 0).trans rfl
      have t1 := (blk_cell HAX.out 1).trans rfl
      have yl := (Array.getElem?_eq_some_iff.1 HOX.out).1
      have tl := (Array.getElem?_eq_some_iff.1 HAX.out).1
      go_wp2_with fail
      refine (wasSeen_any s g cap o.a o.b _ (HS.out.below HBX.out hgw) hn hcap ha1 ha3).mono ?_
      rintro e w1 ⟨rfl, hb⟩
      rw [HZ1.out]
      replace HOX := hideIt (blk_bel HOX.out hb)
      replace HAX := hideIt (blk_bel HAX.out hb)
      replace HBX := hideIt (Bstep HBX.out hb)
      clear y0 y1 y2 y3 y4 y5 y6 t0 t1 yl tl hb
      clear hW0
      have y0 := (blk_cell HOX.out 0).trans rfl
      have y1 := (blk_cell HOX.out 1).trans rfl
      have y2 := (blk_cell HOX.out 2).trans rfl
      have y3 := (blk_cell HOX.out 3).trans rfl
      have y4 := (blk_cell HOX.out 4).trans rfl
      have y5 := (blk_cell HOX.out 5).trans rfl
      have y6 := (blk_cell HOX.out 6).trans rfl
      have t0 := (blk_cell HAX.out 0).trans rfl
      have t1 := (blk_cell HAX.out 1).trans rfl
      have yl := (Array.getElem?_eq_some_iff.1 HOX.out).1
      have tl := (Array.getElem?_eq_some_iff.1 HAX.out).1
      go_wp2_with fail
      refine (isKnown_any s g cap o.a (o.b - 1) _ (HS.out.below HBX.out hgw) hn hcap (.inr ⟨ha1, ha3⟩)).mono ?_
      rintro e w2 ⟨rfl, hb⟩
      rw [HZ2.out]
      replace HOX := hideIt (blk_bel HOX.out hb)
      replace HAX := hideIt (blk_bel HAX.out hb)
      replace HBX := hideIt (Bstep HBX.out hb)
      clear y0 y1 y2 y3 y4 y5 y6 t0 t1 yl tl hb
      have y0 := (blk_cell HOX.out 0).trans rfl
      have y1 := (blk_cell HOX.out 1).trans rfl
      have y2 := (blk_cell HOX.out 2).trans rfl
      have y3 := (blk_cell HOX.out 3).trans rfl
      have y4 := (blk_cell HOX.out 4).trans rfl
      have y5 := (blk_cell HOX.out 5).trans rfl
      have y6 := (blk_cell HOX.out 6).trans rfl
      have t0 := (blk_cell HAX.out 0).trans rfl
      have t1 := (blk_cell HAX.out 1).trans rfl
      have yl := (Array.getElem?_eq_some_iff.1 HOX.out).1
      have tl := (Array.getElem?_eq_some_iff.1 HAX.out).1
      go_wp2_with fail
      refine (isKnown_any s g cap o.c o.d _ (HS.out.below HBX.out hgw) hn hcap hrf).mono ?_
      rintro e w3 ⟨rfl, hb⟩
      rw [HZ3.out]
      replace HOX := hideIt (blk_bel HOX.out hb)
      replace HAX := hideIt (blk_bel HAX.out hb)
      replace HBX := hideIt (Bstep HBX.out hb)
      clear y0 y1 y2 y3 y4 y5 y6 t0 t1 yl tl hb
      have y0 := (blk_cell HOX.out 0).trans rfl
      have y1 := (blk_cell HOX.out 1).trans rfl
      have y2 := (blk_cell HOX.out 2).trans rfl
      have y3 := (blk_cell HOX.out 3).trans rfl
      have y4 := (blk_cell HOX.out 4).trans rfl
      have y5 := (blk_cell HOX.out 5).trans rfl
      have y6 := (blk_cell HOX.out 6).trans rfl
      have t0 := (blk_cell HAX.out 0).trans rfl
      have t1 := (blk_cell HAX.out 1).trans rfl
      have yl := (Array.getElem?_eq_some_iff.1 HOX.out).1
      have tl := (Array.getElem?_eq_some_iff.1 HAX.out).1
      go_wp2
      go_ret
      exact ⟨by rw [HE.out]; rfl, HBX.out⟩
  · have HZ1 := hideIt hz1
    have HE : Hid (rdyK s o = false) := by show _ = _; unfold rdyK; rw [hz1]; rfl
    clear hz1
    go_enter Tryd.func107, Tryd.ntmps107
    have y0 := (blk_cell HOX.out 0).trans rfl
    have y1 := (blk_cell HOX.out 1).trans rfl
    have y2 := (blk_cell HOX.out 2).trans rfl
    have y3 := (blk_cell HOX.out 3).trans rfl
    have y4 := (blk_cell HOX.out 4).trans rfl
    have y5 := (blk_cell HOX.out 5).trans rfl
    have y6 := (blk_cell HOX.out 6).trans rfl
    have t0 := (blk_cell HAX.out 0).trans rfl
    have t1 := (blk_cell HAX.out 1).trans rfl
    have yl := (Array.getElem?_eq_some_iff.1 HOX.out).1
    have tl := (Array.getElem?_eq_some_iff.1 HAX.out).1
    go_wp2_with fail
    refine (wasSeen_any s g cap o.a o.b _ (HS.out.below HBX.out hgw) hn hcap ha1 ha3).mono ?_
    rintro e w1 ⟨rfl, hb⟩
    rw [HZ1.out]
    replace HOX := hideIt (blk_bel HOX.out hb)
    replace HAX := hideIt (blk_bel HAX.out hb)
    replace HBX := hideIt (Bstep HBX.out hb)
    clear y0 y1 y2 y3 y4 y5 y6 t0 t1 yl tl hb
    clear hW0
    have y0 := (blk_cell HOX.out 0).trans rfl
    have y1 := (blk_cell HOX.out 1).trans rfl
    have y2 := (blk_cell HOX.out 2).trans rfl
    have y3 := (blk_cell HOX.out 3).trans rfl
    have y4 := (blk_cell HOX.out 4).trans rfl
    have y5 := (blk_cell HOX.out 5).trans rfl
    have y6 := (blk_cell HOX.out 6).trans rfl
    have t0 := (blk_cell HAX.out 0).trans rfl
    have t1 := (blk_cell HAX.out 1).trans rfl
    have yl := (Array.getElem?_eq_some_iff.1 HOX.out).1
    have tl := (Array.getElem?_eq_some_iff.1 HAX.out).1
    go_wp2
    go_ret
    exact ⟨by rw [HE.out]; rfl, HBX.out⟩

/-- Where the first that can be told stands. -/
def NextSaid (l : List Op7) (kn : List Int) (z : Int) : Prop := (∃ k : Nat, z = k ∧ ∃ hk : k < l.length, rdyK kn l[k] = true ∧ ∀ j (hj : j < l.length), j < k → rdyK kn l[j] = false) ∨ (z = -1 ∧ ∀ j (hj : j < l.length), rdyK kn l[j] = false)
set_option maxRecDepth 100000 in
set_option maxHeartbeats 4000000 in
theorem nextTo_any (l : List Op7) (s : List Int) (g cap g2 cap2 : Nat) (hok : l.all okO = true) (w : World) (hl : OpsAt w g l) (hnl : l.length ≤ 1048576) (hcap : l.length ≤ cap) (hs : IntsAt w g2 s) (hn : s.length ≤ 1048576) (hcap2 : s.length ≤ cap2) :
    Calls Tryd.prog 77 #[.slice (some ⟨g, 0, none⟩) l.length cap, .slice (some ⟨g2, 0, none⟩) s.length cap2] w fun e w' => (∃ z : Int, e = .returned (.int .i64 z) ∧ NextSaid l s z) ∧ Below w.heap.size w w' := by
  have HL := hideIt hl
  have HS := hideIt hs
  have HOK := hideIt hok
  have hgw := hl.1
  have hgs := hs.1
  clear hl hs hok
  go_enter Tryd.func77, Tryd.ntmps77
  go_wp2
  go_loopw [9] (fun i wr => ∃ k : Nat, k ≤ l.length ∧ i = .int .i64 k ∧ (∀ j (hj : j < l.length), j < k → rdyK s l[j] = false) ∧ Below w.heap.size w wr)
    (fun i _ => l.length - (intOf i).toNat)
  case atStart => exact ⟨0, Nat.zero_le _, rfl, fun j _ h => by omega, Below.refl _ _⟩
  case round =>
    obtain ⟨k, hk, rfl, hag, hBr⟩ := hrel
    have HAG := hideIt hag
    have HBR := hideIt hBr
    clear hag hBr
    by_cases hlt : k < l.length
    · obtain ⟨y0, y1, y2, y3, y4, y5, y6⟩ := (HL.out.below HBR.out hgw).2 k l[k] (by simp [hlt])
      have HKO : Hid (okO l[k] = true) := all_iff.1 HOK.out k hlt
      have HYES : Hid (rdyK s l[k] = true → NextSaid l s k) := fun h => .inl ⟨k, rfl, hlt, h, HAG.out⟩
      have HNO : Hid (rdyK s l[k] = false → ∀ j (hj : j < l.length), j < k + 1 → rdyK s l[j] = false) := fun h j hj hjk => by
        rcases Nat.lt_or_ge j k with h' | h'
        · exact HAG.out j hj h'
        · obtain rfl : j = k := by omega
          exact h
      have hgr : g < wr.heap.size := Nat.lt_of_lt_of_le hgw HBR.out.size
      have hlt' : (k : Int) < (l.length : Int) := by omega
      have hk0 : (0 : Int) ≤ (k : Int) := by omega
      clear HAG
      generalize l[k] = o at *
      obtain ⟨z, hz⟩ : ∃ z, rdyK s o = z := ⟨_, rfl⟩
      have HZ := hideIt hz
      clear hz
      have HBX : Hid (Below w.heap.size w (wr.alloc (.cells #[.int .i64 o.a, .int .i64 o.b, .int .i64 o.k, .int .i64 o.c, .int .i64 o.d, .int .i64 o.s, .int .i64 o.g] 71))) := HBR.out.alloc HBR.out.size _
      cases z
      all_goals
        go_wp2_with fail
        refine (canBeTold_any s g2 cap2 o HKO.out _ (HS.out.below HBX.out hgs) hn hcap2).mono ?_
        rintro e w2 ⟨rfl, hb2⟩
        have HB2 := hideIt (Bstep HBX.out hb2)
        rw [HZ.out]
        clear hb2 y0 y1 y2 y3 y4 y5 y6 HBX
      · have HE := hideIt (HNO.out HZ.out)
        clear HYES HNO
        go_wp2
        exact ⟨⟨k + 1, by omega, by go_num, HE.out, HB2.out⟩, by simp [intOf]; omega⟩
      · have HE := hideIt (HYES.out HZ.out)
        clear HYES HNO
        go_wp2
        go_ret
        exact ⟨⟨_, rfl, HE.out⟩, HB2.out⟩
    · obtain rfl : k = l.length := by omega
      have HE : Hid (NextSaid l s (-1)) := .inr ⟨rfl, fun j hj => HAG.out j hj hj⟩
      clear HAG
      go_wp2
      go_ret
      exact ⟨⟨_, rfl, HE.out⟩, HBR.out⟩
end Go.Proofs.YtficnhlkefpfnaaDoor

namespace Go.Proofs.YtficnhlkefpfnaaDoor
open Go.RowKit
set_option linter.unusedSimpArgs false
set_option linter.unusedVariables false
attribute [local go_sem ↓] Go.wp_at_zero Go.wp_at_succ

/-- Of the first k what was seen. -/
def uptoK (l : List Op7) (s : List Int) (k : Nat) : List Op7 := (l.take k).filter fun p => seenB s p.a p.b
def uptoL (l : List Op7) (s : List Int) : List Op7 := l.filter fun p => seenB s p.a p.b
theorem upto_yes {l : List Op7} {s : List Int} {k : Nat} (hk : k < l.length) (h : seenB s l[k].a l[k].b = true) : uptoK l s (k + 1) = uptoK l s k ++ [l[k]] := by unfold uptoK; rw [List.take_succ_eq_append_getElem hk, List.filter_append]; simp [h]
theorem upto_no {l : List Op7} {s : List Int} {k : Nat} (hk : k < l.length) (h : seenB s l[k].a l[k].b = false) : uptoK l s (k + 1) = uptoK l s k := by unfold uptoK; rw [List.take_succ_eq_append_getElem hk, List.filter_append]; simp [h]
theorem upto_len (l : List Op7) (s : List Int) (k : Nat) : (uptoK l s k).length ≤ l.length := Nat.le_trans (List.length_filter_le _ _) (List.length_take_le' _ _)
theorem upto_all (l : List Op7) (s : List Int) : uptoK l s l.length = uptoL l s := by simp [uptoK, uptoL]
/-- What OpsUpto answers. -/
def ansU (l : List Op7) (s : List Int) : List Op7 := if opsB l = true then uptoL l s else []
theorem ansU_yes {l : List Op7} {s : List Int} (h : opsB l = true) : ansU l s = uptoL l s := if_pos h
theorem ansU_no {l : List Op7} {s : List Int} (h : opsB l = false) : ansU l s = [] := by unfold ansU; rw [h]; rfl
theorem ansU_len (l : List Op7) (s : List Int) : (ansU l s).length ≤ l.length := by
  unfold ansU
  split
  · exact List.length_filter_le _ _
  · exact Nat.zero_le _

/-- What one has so far. -/
structure UL (w wr : World) (v : Value) (L : List Op7) : Prop where
  row : wr.ownsRow w.heap.size 71 7 v L.length (opCells L)
  bel : Below w.heap.size w wr
theorem UL.below {w wr w' : World} {v : Value} {L : List Op7} (h : UL w wr v L) (hb : Below wr.heap.size wr w') : UL w w' v L :=
  ⟨h.row.kept (row := none) ⟨hb.os, hb.tape, hb.output, hb.size, fun i hi _ => hb.block i hi⟩ (by cases v.ownBlock <;> simp), Bstep h.bel hb⟩
theorem UL.app {w wr w' : World} {v v' : Value} {L M : List Op7} (h : UL w wr v L) (hg : wr.grownBy w' v.ownBlock) (hown : w'.ownsRow w.heap.size 71 7 v' (L.length + M.length) (opCells L ++ opCells M)) : UL w w' v' (L ++ M) :=
  ⟨by rw [opCells_app, List.length_append]; exact hown, below_grown h.bel hg h.bel.size (fun j e => (h.row.lt j e).1)⟩

end Go.Proofs.YtficnhlkefpfnaaDoor

namespace Go.Proofs.YtficnhlkefpfnaaDoor
open Go.RowKit
set_option linter.unusedSimpArgs false
set_option linter.unusedVariables false
attribute [local go_sem ↓] Go.wp_at_zero Go.wp_at_succ

theorem infoIntP : (Tryd.prog.info? 3).map (fun i => (i.zero, i.size, i.bytes)) = some (some (.int .i64 0), 1, 8) := by kernel_rfl
theorem sizeIntP : (Tryd.prog.info? 3).map (·.size) = some 1 := by kernel_rfl
theorem made3P : (madeCells (Value.int .i64 0).cells (3 * 1)).toList = [.int .i64 0, .int .i64 0, .int .i64 0] := by
  have := toList_madeCells_one (.int .i64 0) 3
  simpa [Value.cells, List.replicate] using this
theorem own3P {w : World} {base M : Nat} (h : w.ownsRow base 3 1 (.slice (some ⟨M, 0, none⟩) 3 3) 3 [.int .i64 0, .int .i64 0, .int .i64 0]) : w.heap[M]? = some (.cells #[.int .i64 0, .int .i64 0, .int .i64 0] 3 (0, 0)) ∧ base ≤ M := by
  rcases h.2 with ⟨h, _⟩ | ⟨g, cap, cur, e, hb, hg, _, _, hs, ht⟩
  · cases h
  · cases e
    have h1 : cur.toList = [.int .i64 0, .int .i64 0, .int .i64 0] := by
      rw [← ht, List.take_of_length_le (by simp; omega)]
    have h2 : cur = #[.int .i64 0, .int .i64 0, .int .i64 0] := by rw [← Array.toArray_toList (xs := cur), h1]
    subst h2
    exact ⟨hg, hb⟩
/-- What goes over: of three at most. -/
def over (s : List Int) : List Value := (s.take 3).map (.int .i64)
theorem over_len (s : List Int) : (over s).length = Nat.min s.length 3 := by
  simp [over, Nat.min_comm]
theorem over_row (s : List Int) : splice [Value.int .i64 0, .int .i64 0, .int .i64 0] 0 (over s) = (kn0 s).map (.int .i64) := by
  match s with
  | [] => rfl
  | [a] => rfl
  | [a, b] => rfl
  | a :: b :: c :: r => rfl
theorem over_one (s : List Int) : ∀ v ∈ over s, v.oneCell' = true := by
  intro v hv
  obtain ⟨z, _, rfl⟩ := List.mem_map.1 hv
  rfl
theorem over_src {W : World} {C : Nat} {s : List Int} (h : IntsAt W C s) : ∀ j v, (over s)[j]? = some v → W.cell? ((⟨C, 0, none⟩ : Addr).add j) = some v := by
  intro j v hj
  unfold over at hj
  rw [List.getElem?_map] at hj
  cases hz : (s.take 3)[j]? with
  | none => rw [hz] at hj; simp at hj
  | some z =>
    rw [hz] at hj
    simp at hj
    subst hj
    have h1 : s[j]? = some z := by
      rw [List.getElem?_take] at hz
      split at hz
      · exact hz
      · simp at hz
    have h2 := h.2 j z h1
    rcases Nat.eq_zero_or_pos j with rfl | hj0
    · simpa [Addr.add] using h2
    · have : j ≠ 0 := by omega
      simpa [Addr.add, this] using h2
theorem cellsNew' (w : World) (n : Nat) (hn : w.heap.size = n) (xs : List Value) (t : TypeId) : ∀ j u, xs[j]? = some u → (w.alloc (.cells xs.toArray t)).cell? ((⟨n, 0, none⟩ : Addr).add j) = some u := by
  subst hn
  exact cells_new w xs t
def lenV : Value → Nat
  | .slice _ n _ => n
  | _ => 0
theorem own_len {W : World} {b : Nat} {T : TypeId} {m : Nat} {v : Value} {n : Nat} {xs : List Value} (h : W.ownsRow b T m v n xs) : ∃ p c, v = .slice p n c := by
  rcases h.2 with ⟨rfl, h0⟩ | ⟨g, cap, cur, rfl, _⟩
  · exact ⟨none, 0, by rw [h0]⟩
  · exact ⟨_, _, rfl⟩
/-- What one has so far, and what is kept of each. -/
structure PK (w W : World) (M : Nat) (v : Value) (L : List Op7) (k0 k1 k2 : Int) : Prop where
  ul : UL w W v L
  km : W.heap[M]? = some (.cells #[.int .i64 k0, .int .i64 k1, .int .i64 k2] 3 (0, 0))
  hM : w.heap.size ≤ M
theorem PK.below {w W W' : World} {M : Nat} {v : Value} {L : List Op7} {k0 k1 k2 : Int} (h : PK w W M v L k0 k1 k2) (hb : Below W.heap.size W W') : PK w W' M v L k0 k1 k2 :=
  ⟨h.ul.below hb, blk_bel h.km hb, h.hM⟩
theorem PK.apart {w W : World} {M : Nat} {v : Value} {L : List Op7} {k0 k1 k2 : Int} (h : PK w W M v L k0 k1 k2) : v.ownBlock ≠ some M := by
  intro e
  rcases h.ul.row.2 with ⟨rfl, _⟩ | ⟨g, cap, cur, rfl, _, hgb, _⟩
  · simp [Value.ownBlock] at e
  · obtain rfl : g = M := by simpa [Value.ownBlock] using e
    rw [h.km] at hgb
    cases hgb
theorem PK.setAny {w W : World} {M : Nat} {v : Value} {L : List Op7} {k0 k1 k2 : Int} (h : PK w W M v L k0 k1 k2) (i : Nat) (u : Value) : UL w (W.setCell ⟨M, i, none⟩ u) v L ∧ (W.setCell ⟨M, i, none⟩ u).heap[M]? = some (.cells (#[Value.int .i64 k0, .int .i64 k1, .int .i64 k2].setIfInBounds i u) 3 (0, 0)) := by
  have hb : Below W.heap.size W W := Below.refl _ _
  refine ⟨⟨?_, h.ul.bel.setCell (p := ⟨M, i, none⟩) h.hM _⟩, heap_setCell_same W M i _ _ _ h.km⟩
  have hg : W.grownBy (W.setCell ⟨M, i, none⟩ u) (some M) := ⟨rfl, rfl, rfl, by simp, fun k hk hne => Below.heap_setCell _ _ _ _ (fun e => hne (by rw [e]))⟩
  exact h.ul.row.kept hg (.inr h.apart)
theorem PK.set0 {w W : World} {M : Nat} {v : Value} {L : List Op7} {k0 k1 k2 : Int} (h : PK w W M v L k0 k1 k2) (n : Int) : PK w (W.setCell ⟨M, 0, none⟩ (.int .i64 n)) M v L n k1 k2 := ⟨(h.setAny 0 _).1, (h.setAny 0 _).2, h.hM⟩
theorem PK.set1 {w W : World} {M : Nat} {v : Value} {L : List Op7} {k0 k1 k2 : Int} (h : PK w W M v L k0 k1 k2) (n : Int) : PK w (W.setCell ⟨M, 1, none⟩ (.int .i64 n)) M v L k0 n k2 := ⟨(h.setAny 1 _).1, (h.setAny 1 _).2, h.hM⟩
theorem PK.set2 {w W : World} {M : Nat} {v : Value} {L : List Op7} {k0 k1 k2 : Int} (h : PK w W M v L k0 k1 k2) (n : Int) : PK w (W.setCell ⟨M, 2, none⟩ (.int .i64 n)) M v L k0 k1 n := ⟨(h.setAny 2 _).1, (h.setAny 2 _).2, h.hM⟩
theorem PK.app {w W w3 : World} {M : Nat} {v v' : Value} {L N : List Op7} {k0 k1 k2 : Int} {tmp : Obj} (h : PK w W M v L k0 k1 k2) (hg : (W.alloc tmp).grownBy w3 v.ownBlock) (hown : w3.ownsRow w.heap.size 71 7 v' (L.length + N.length) (opCells L ++ opCells N)) : PK w w3 M v' (L ++ N) k0 k1 k2 := by
  have h2 := h.below (W' := W.alloc tmp) ((Below.refl _ _).alloc (Nat.le_refl _) _)
  exact ⟨UL.app h2.ul hg hown, (hg.block M (Array.getElem?_eq_some_iff.1 h2.km).1 (fun e => h.apart e.symm)).trans h2.km, h.hM⟩
theorem intsK {W : World} {M : Nat} {k0 k1 k2 : Int} (h : W.heap[M]? = some (.cells #[.int .i64 k0, .int .i64 k1, .int .i64 k2] 3 (0, 0))) : IntsAt W M [k0, k1, k2] := by
  refine ⟨(Array.getElem?_eq_some_iff.1 h).1, fun i z hz => ?_⟩
  match i with
  | 0 => simp at hz; subst hz; exact (blk_cell h 0).trans rfl
  | 1 => simp at hz; subst hz; exact (blk_cell h 1).trans rfl
  | 2 => simp at hz; subst hz; exact (blk_cell h 2).trans rfl
  | i + 3 => simp at hz

set_option maxRecDepth 100000 in
set_option maxHeartbeats 4000000 in
theorem implPast_any (l : List Op7) (s : List Int) (most : Int) (g cap g2 cap2 : Nat) (x : Addr) (w : World) (hl : OpsAt w g l) (hn : l.length ≤ 1048576) (hcap : l.length ≤ cap) (hs : IntsAt w g2 s) (hn2 : s.length ≤ 1048576) (hcap2 : s.length ≤ cap2)
    (he : w.cell? ⟨0, 0, none⟩ = some (.iface 200 (.pointer (some x)))) (h0 : 0 < w.heap.size) :
    Calls Tryd.prog 37 #[.slice (some ⟨g, 0, none⟩) l.length cap, .slice (some ⟨g2, 0, none⟩) s.length cap2, .int .i64 most] w fun e w' => ∃ v, e = .returned v ∧ w'.ownsRow w.heap.size 71 7 v (ansP l s most).length (opCells (ansP l s most)) ∧ Below w.heap.size w w' := by
  have HL := hideIt hl
  have HSN := hideIt hs
  have hgw := hl.1
  have hgs := hs.1
  clear hl hs
  obtain ⟨i0, hi, hz0', hz1', hz2⟩ := info_parts infoOp
  have HI1 := hideIt hi
  have HZ0 := hideIt hz0'
  have HZ1 := hideIt hz1'
  have HZ2 := hideIt hz2
  clear hi hz0' hz1' hz2
  obtain ⟨j0, hj, hj0, hj1, hj2⟩ := info_parts infoIntP
  have HJI := hideIt hj
  have HJ0 := hideIt hj0
  have HJ1 := hideIt hj1
  have HJ2 := hideIt hj2
  clear hj hj0 hj1 hj2
  cases ho : opsB l
  all_goals
    have HO := hideIt ho
    clear ho
    go_enter Tryd.func37, Tryd.ntmps37
    go_wp2_with fail
    refine (implOps_any l _ _ x _ HL.out hn hcap he h0).mono ?_
    rintro e w1 ⟨rfl, hb1⟩
    rw [th_same, HO.out]
    have HB1 := hideIt hb1
    clear hb1
  · go_wp2
    go_ret
    refine ⟨_, rfl, ?_, HB1.out⟩
    unfold ansP
    rw [HO.out]
    exact World.ownsRow_nil _ _ _ _
  · have HOK := hideIt (opsB_parts HO.out).1
    have HSN1 := hideIt (HSN.out.below HB1.out hgs)
    go_wp2_with (first
      | (at_make; refine wpList_make_full _ rfl _ _ 33 rfl w1.heap.size 3 j0 _ 1 Tryd.underlying33 HJI.out HJ0.out HJ1.out .i64 .i64 _ _ 3 rfl rfl rfl rfl (by rw [HJ2.out]; omega) (by unfold maxLen; omega) (Nat.le_refl _) ?_; intro w2 hown hgrow; rw [made3P] at hown; have hb2 : Below w1.heap.size w1 w2 := (Below.refl _ _).grown hgrow (Nat.le_refl _) (fun k h => by cases h); have HM := hideIt (own3P hown); have HB2 := hideIt (Bstep HB1.out hb2); have HS2 := hideIt (HSN1.out.below hb2 HSN1.out.1); clear hown hgrow hb2)
      | (refine wpList_copy_splice rfl _ _ 33 33 rfl 3 Tryd.underlying33 sizeIntP _ _ 3 3 s.length cap2 rfl rfl w1.heap.size 0 [.int .i64 0, .int .i64 0, .int .i64 0] 3 HM.out.1 (over s) (over_len s) (fun _ => ⟨rfl, _, rfl, over_src HS2.out⟩) (by rw [over_len]; exact Nat.le_trans (by rw [Nat.zero_add]; exact Nat.min_le_right _ _) (Nat.le_refl 3)) (over_one s) w.heap.size w HB2.out HB1.out.size ?_; intro w3 HG3 hB3; have HB3 := hideIt hB3; clear hB3))
    have HKM : Hid (w3.heap[w1.heap.size]? = some (.cells #[.int .i64 (s.getD 0 0), .int .i64 (s.getD 1 0), .int .i64 (s.getD 2 0)] 3 (0, 0))) := by
      have h := HG3.out
      rw [over_row] at h
      exact h
    have HPK : Hid (PK w w3 w1.heap.size (.slice none 0 0) [] (s.getD 0 0) (s.getD 1 0) (s.getD 2 0)) := ⟨⟨World.ownsRow_nil _ _ _ _, HB3.out⟩, HKM.out, HB1.out.size⟩
    clear HG3 HKM HM HS2 HSN1 HB2
    generalize hM : w1.heap.size = M at *
    clear hM
    go_loopw [8] (fun v wr => ∃ L k0 k1 k2, PK w wr M v L k0 k1 k2 ∧ KN s L [k0, k1, k2] ∧ L = past l s L.length ∧ L.length ≤ most.toNat)
      (fun v _ => l.length - lenV v)
    case atStart => exact ⟨[], _, _, _, HPK.out, KN.zero s, rfl, Nat.zero_le _⟩
    case round =>
      obtain ⟨L, k0, k1, k2, hp, hkn, hpl, hle⟩ := hrel
      have HP := hideIt hp
      have HKN := hideIt hkn
      have HPL := hideIt hpl
      obtain ⟨vp, vc, rfl⟩ := own_len hp.ul.row
      have hLl : L.length ≤ l.length := by rw [hpl]; exact past_le _ _ _
      clear hp hkn hpl HPK
      by_cases hmo : (L.length : Int) < most
      · go_wp2_with fail
        refine (nextTo_any l [k0, k1, k2] g cap M 3 HOK.out _ (HL.out.below HP.out.ul.bel hgw) hn hcap (intsK HP.out.km) (by simp) (by simp)).mono ?_
        rintro e w2 ⟨⟨z, rfl, hz⟩, hb2⟩
        have HP2 := hideIt (HP.out.below hb2)
        clear hb2 HP
        rcases hz with ⟨k, rfl, hk, hrd, hbf⟩ | ⟨rfl, hbf⟩
        · have hok : okO l[k] = true := all_iff.1 HOK.out k hk
          have HKO := hideIt hok
          have HRD := hideIt hrd
          have hnx : past l s (L.length + 1) = past l s L.length ++ [l[k]] := past_next hk (by rw [← HPL.out, ← HKN.out.rdy hok]; exact hrd) (fun j hj hjk => by rw [← HPL.out, ← HKN.out.rdy (all_iff.1 HOK.out j hj)]; exact hbf j hj hjk)
          have HLP : Hid (L ++ [l[k]] = past l s (L ++ [l[k]]).length) := by
            show _ = _
            rw [List.length_append, List.length_singleton, hnx, ← HPL.out]
          have hll2 : L.length + 1 ≤ l.length := by
            have h := past_le l s (L ++ [l[k]]).length
            rw [← HLP.out] at h
            simpa using h
          obtain ⟨y0, y1, y2, y3, y4, y5, y6⟩ := (HL.out.below HP2.out.ul.bel hgw).2 k l[k] (by simp [hk])
          obtain ⟨ha1, ha3, hb1, hb12⟩ := okO_id hok
          clear hnx hok hrd hbf HPL
          generalize l[k] = o at *
          obtain ⟨oa, ob, ok, oc, od, os, og⟩ := o
          dsimp only at ha1 ha3 hb1 hb12 y0 y1 y2 y3 y4 y5 y6
          have hgr : g < w2.heap.size := Nat.lt_of_lt_of_le hgw HP2.out.ul.bel.size
          have hk' : (k : Int) < (l.length : Int) := by omega
          have hk0 : (0 : Int) ≤ (k : Int) := by omega
          have hk1 : ¬ ((k : Int) < 0) := by omega
          have c0 := (blk_cell HP2.out.km 0).trans rfl
          have c1 := (blk_cell HP2.out.km 1).trans rfl
          have c2 := (blk_cell HP2.out.km 2).trans rfl
          have cf : ∀ j, w2.frozen? ⟨M, j, none⟩ = false := fun j => by simp [World.frozen?, HP2.out.km]
          have cl : M < w2.heap.size := (Array.getElem?_eq_some_iff.1 HP2.out.km).1
          obtain ha | ha | ha : oa = 1 ∨ oa = 2 ∨ oa = 3 := by omega
          · subst ha
            have HKN2 : Hid (KN s (L ++ [⟨1, ob, ok, oc, od, os, og⟩]) [ob, k1, k2]) := HKN.out.next (o := ⟨1, ob, ok, oc, od, os, og⟩) HKO.out HRD.out
            have HP' : Hid (PK w ((w2.setCell ⟨M, 0, none⟩ (.int .i64 ob)).alloc (.cells #[.int .i64 1, .int .i64 ob, .int .i64 ok, .int .i64 oc, .int .i64 od, .int .i64 os, .int .i64 og] 71)) M (.slice vp L.length vc) L ob k1 k2) := (HP2.out.set0 ob).below ((Below.refl _ _).alloc (Nat.le_refl _) _)
            clear HP2 HKN HKO HRD
            go_wp2_with (first
              | (at_builtin; refine wpList_append_own_at _ rfl _ _ 24 rfl w.heap.size 71 i0 _ 7 56 Tryd.underlying24 HI1.out HZ0.out HZ1.out HZ2.out rfl (by decide) _ _ _ rfl (HP'.out.ul.row.alloc _) ⟨w2.heap.size + 1, 0, none⟩ 1 1 (opCells [⟨1, ob, ok, oc, od, os, og⟩]) rfl rfl (cellsNew' _ _ (by simp) (opCells [⟨1, ob, ok, oc, od, os, og⟩]) 71) (opCells_one _) (by unfold maxLen; omega) (by omega) (by have := HP'.out.ul.bel.size; simp at this ⊢; omega) ?_; intro v' w3 hown3 hg3 _ _;
                  have HP3 := hideIt (HP'.out.app hg3 hown3); clear hown3 hg3))
            obtain ⟨p3, c3, rfl⟩ := own_len HP3.out.ul.row
            refine ⟨⟨L ++ [⟨1, ob, ok, oc, od, os, og⟩], ob, k1, k2, HP3.out, HKN2.out, HLP.out, ?_⟩, ?_⟩
            · rw [List.length_append]; simp; omega
            · simp [lenV]; omega
          · subst ha
            have HKN2 : Hid (KN s (L ++ [⟨2, ob, ok, oc, od, os, og⟩]) [k0, ob, k2]) := HKN.out.next (o := ⟨2, ob, ok, oc, od, os, og⟩) HKO.out HRD.out
            have HP' : Hid (PK w ((w2.setCell ⟨M, 1, none⟩ (.int .i64 ob)).alloc (.cells #[.int .i64 2, .int .i64 ob, .int .i64 ok, .int .i64 oc, .int .i64 od, .int .i64 os, .int .i64 og] 71)) M (.slice vp L.length vc) L k0 ob k2) := (HP2.out.set1 ob).below ((Below.refl _ _).alloc (Nat.le_refl _) _)
            clear HP2 HKN HKO HRD
            go_wp2_with (first
              | (at_builtin; refine wpList_append_own_at _ rfl _ _ 24 rfl w.heap.size 71 i0 _ 7 56 Tryd.underlying24 HI1.out HZ0.out HZ1.out HZ2.out rfl (by decide) _ _ _ rfl (HP'.out.ul.row.alloc _) ⟨w2.heap.size + 1, 0, none⟩ 1 1 (opCells [⟨2, ob, ok, oc, od, os, og⟩]) rfl rfl (cellsNew' _ _ (by simp) (opCells [⟨2, ob, ok, oc, od, os, og⟩]) 71) (opCells_one _) (by unfold maxLen; omega) (by omega) (by have := HP'.out.ul.bel.size; simp at this ⊢; omega) ?_; intro v' w3 hown3 hg3 _ _;
                  have HP3 := hideIt (HP'.out.app hg3 hown3); clear hown3 hg3))
            obtain ⟨p3, c3, rfl⟩ := own_len HP3.out.ul.row
            refine ⟨⟨L ++ [⟨2, ob, ok, oc, od, os, og⟩], k0, ob, k2, HP3.out, HKN2.out, HLP.out, ?_⟩, ?_⟩
            · rw [List.length_append]; simp; omega
            · simp [lenV]; omega
          · subst ha
            have HKN2 : Hid (KN s (L ++ [⟨3, ob, ok, oc, od, os, og⟩]) [k0, k1, ob]) := HKN.out.next (o := ⟨3, ob, ok, oc, od, os, og⟩) HKO.out HRD.out
            have HP' : Hid (PK w ((w2.setCell ⟨M, 2, none⟩ (.int .i64 ob)).alloc (.cells #[.int .i64 3, .int .i64 ob, .int .i64 ok, .int .i64 oc, .int .i64 od, .int .i64 os, .int .i64 og] 71)) M (.slice vp L.length vc) L k0 k1 ob) := (HP2.out.set2 ob).below ((Below.refl _ _).alloc (Nat.le_refl _) _)
            clear HP2 HKN HKO HRD
            go_wp2_with (first
              | (at_builtin; refine wpList_append_own_at _ rfl _ _ 24 rfl w.heap.size 71 i0 _ 7 56 Tryd.underlying24 HI1.out HZ0.out HZ1.out HZ2.out rfl (by decide) _ _ _ rfl (HP'.out.ul.row.alloc _) ⟨w2.heap.size + 1, 0, none⟩ 1 1 (opCells [⟨3, ob, ok, oc, od, os, og⟩]) rfl rfl (cellsNew' _ _ (by simp) (opCells [⟨3, ob, ok, oc, od, os, og⟩]) 71) (opCells_one _) (by unfold maxLen; omega) (by omega) (by have := HP'.out.ul.bel.size; simp at this ⊢; omega) ?_; intro v' w3 hown3 hg3 _ _;
                  have HP3 := hideIt (HP'.out.app hg3 hown3); clear hown3 hg3))
            obtain ⟨p3, c3, rfl⟩ := own_len HP3.out.ul.row
            refine ⟨⟨L ++ [⟨3, ob, ok, oc, od, os, og⟩], k0, k1, ob, HP3.out, HKN2.out, HLP.out, ?_⟩, ?_⟩
            · rw [List.length_append]; simp; omega
            · simp [lenV]; omega
        · have HE : Hid (ansP l s most = L) := by
            show _ = _
            unfold ansP
            rw [if_pos HO.out]
            have hnone := past_none (l := l) (s := s) (k := L.length) (fun j hj => by rw [← HPL.out, ← HKN.out.rdy (all_iff.1 HOK.out j hj)]; exact hbf j hj)
            rw [past_end hnone most.toNat hle, ← HPL.out]
          clear hbf
          go_wp2
          go_ret
          exact ⟨_, rfl, by rw [HE.out]; exact HP2.out.ul.row, HP2.out.ul.bel⟩
      · have HE : Hid (ansP l s most = L) := by
          show _ = _
          unfold ansP
          rw [if_pos HO.out, show most.toNat = L.length by omega, ← HPL.out]
        go_wp2
        go_ret
        exact ⟨_, rfl, by rw [HE.out]; exact HP.out.ul.row, HP.out.ul.bel⟩
end Go.Proofs.YtficnhlkefpfnaaDoor

namespace Go.Proofs.YtficnhlkefpfnaaDoor
open Go.RowKit
set_option linter.unusedSimpArgs false
set_option linter.unusedVariables false
attribute [local go_sem ↓] Go.wp_at_zero Go.wp_at_succ

/-- What one has so far, at its block. -/
structure SU (w W : World) (G c : Nat) (L : List Op7) : Prop where
  ul : UL w W (.slice (some ⟨G, 0, none⟩) L.length c) L
  cap : L.length ≤ c
theorem SU.below {w W W' : World} {G c : Nat} {L : List Op7} (h : SU w W G c L) (hb : Below W.heap.size W W') : SU w W' G c L := ⟨h.ul.below hb, h.cap⟩
theorem SU.ops {w W : World} {G c : Nat} {L : List Op7} (h : SU w W G c L) : OpsAt W G L := OwnOps.at (cap := c) h.ul.row
theorem has_yes {L : List Op7} {r m : Int} (h : hasI L r m = true) : ∃ j : Nat, findI L r m = j := by
  unfold hasI at h
  exact ⟨(findI L r m).toNat, by have := of_decide_eq_true h; omega⟩
theorem has_no {L : List Op7} {r m : Int} (h : hasI L r m = false) : findI L r m = -1 := by
  unfold hasI at h
  have := of_decide_eq_false h
  exact findI_m1 (by omega)

theorem meas {l n k : Nat} (h : n + 1 ≤ l) (hk : k < l) : (l + 1) * (l - (n + 1)) + l < (l + 1) * (l - n) + (l - k) := by
  obtain ⟨d, rfl⟩ : ∃ d, l = n + 1 + d := ⟨l - (n + 1), by omega⟩
  have e1 : n + 1 + d - (n + 1) = d := by omega
  have e2 : n + 1 + d - n = d + 1 := by omega
  rw [e1, e2, Nat.mul_succ]
  omega
theorem UL.slot {w W : World} {v : Value} {L : List Op7} (h : UL w W v L) (h0 : 0 < L.length) : ∃ g c, v = .slice (some ⟨g, 0, none⟩) L.length c ∧ L.length ≤ c := by
  rcases h.row.2 with ⟨_, h1⟩ | ⟨G, c, cur, e, _, _, h2, _⟩
  · omega
  · exact ⟨G, c, e, h2⟩
set_option maxRecDepth 100000 in
set_option maxHeartbeats 4000000 in
theorem l12Past_any (l : List Op7) (s : List Int) (most : Int) (g cap g2 cap2 : Nat) (hok : l.all okO = true) (w : World) (hl : OpsAt w g l) (hn : l.length ≤ 1048576) (hcap : l.length ≤ cap) (hs : IntsAt w g2 s) (hn2 : s.length ≤ 1048576) (hcap2 : s.length ≤ cap2) :
    Calls Tryd.prog 76 #[.slice (some ⟨g, 0, none⟩) l.length cap, .slice (some ⟨g2, 0, none⟩) s.length cap2, .int .i64 most] w fun e w' => ∃ G c, e = .returned (.slice (some ⟨G, 0, none⟩) (past l s most.toNat).length c) ∧ SU w w' G c (past l s most.toNat) := by
  have HL := hideIt hl
  have HS := hideIt hs
  have HOK := hideIt hok
  have hgw := hl.1
  have hgs := hs.1
  clear hl hs hok
  obtain ⟨i0, hi, hz0', hz1', hz2⟩ := info_parts infoOp
  have HI1 := hideIt hi
  have HZ0 := hideIt hz0'
  have HZ1 := hideIt hz1'
  have HZ2 := hideIt hz2
  clear hi hz0' hz1' hz2
  have HST : Hid (SU w (w.alloc (.cells #[] 71)) w.heap.size 0 []) :=
    ⟨⟨World.ownsRow_made (base := w.heap.size) (e := 71) (size := 7) w #[] 0 (Nat.le_refl _) (Nat.zero_le _) rfl, (Below.refl _ _).alloc (Nat.le_refl _) _⟩, Nat.le_refl _⟩
  go_enter Tryd.func76, Tryd.ntmps76
  go_wp2
  go_loopw [7, 8] (fun v i wr => ∃ (L : List Op7) (k G c : Nat), v = .slice (some ⟨G, 0, none⟩) L.length c ∧ i = .int .i64 k ∧ k ≤ l.length ∧ SU w wr G c L ∧ L = past l s L.length ∧ L.length ≤ most.toNat ∧ ∀ j (hj : j < l.length), j < k → rdy s L l[j] = false)
    (fun v i _ => (l.length + 1) * (l.length - lenV v) + (l.length - (intOf i).toNat))
  case atStart => exact ⟨[], 0, _, _, rfl, rfl, Nat.zero_le _, HST.out, rfl, Nat.zero_le _, fun j _ h => by omega⟩
  case round =>
    obtain ⟨L, k, G, c, rfl, rfl, hk, hu, hpl, hle, hbf⟩ := hrel
    have HU := hideIt hu
    have HPL := hideIt hpl
    have HBF := hideIt hbf
    have hLl : L.length ≤ l.length := by rw [hpl]; exact past_le _ _ _
    clear hu hpl hbf HST
    by_cases hlt : k < l.length
    · have hk' : (k : Int) < (l.length : Int) := by omega
      have hk0 : (0 : Int) ≤ (k : Int) := by omega
      by_cases hmo : (L.length : Int) < most
      · skip
        have hok : okO l[k] = true := all_iff.1 HOK.out k hlt
        obtain ⟨ha1, ha3, hb1, hb12⟩ := okO_id hok
        have hrf := okO_refd hok
        obtain ⟨y0, y1, y2, y3, y4, y5, y6⟩ := (HL.out.below HU.out.ul.bel hgw).2 k l[k] (by simp [hlt])
        have HNO : Hid (rdy s L l[k] = false → ∀ j (hj : j < l.length), j < k + 1 → rdy s L l[j] = false) := fun h j hj hjk => by
          rcases Nat.lt_or_ge j k with h' | h'
          · exact HBF.out j hj h'
          · obtain rfl : j = k := by omega
            exact h
        have HYES : Hid (rdy s L l[k] = true → L ++ [l[k]] = past l s (L ++ [l[k]]).length ∧ L.length + 1 ≤ l.length) := fun h => by
          have hnx : past l s (L.length + 1) = past l s L.length ++ [l[k]] := past_next hlt (by rw [← HPL.out]; exact h) (fun j hj hjk => by rw [← HPL.out]; exact HBF.out j hj hjk)
          have e : L ++ [l[k]] = past l s (L ++ [l[k]]).length := by rw [List.length_append, List.length_singleton, hnx, ← HPL.out]
          refine ⟨e, ?_⟩
          have h := past_le l s (L ++ [l[k]]).length
          rw [← e] at h
          simpa using h
        clear hok HBF
        generalize l[k] = o at *
        have hgr : g < wr.heap.size := Nat.lt_of_lt_of_le hgw HU.out.ul.bel.size
        have HBO : Hid (Below wr.heap.size wr (wr.alloc (.cells #[.int .i64 o.a, .int .i64 o.b, .int .i64 o.k, .int .i64 o.c, .int .i64 o.d, .int .i64 o.s, .int .i64 o.g] 71))) := (Below.refl _ _).alloc (Nat.le_refl _) _
        have HUo := hideIt (HU.out.below HBO.out)
        have HOXo : Hid ((wr.alloc (.cells #[.int .i64 o.a, .int .i64 o.b, .int .i64 o.k, .int .i64 o.c, .int .i64 o.d, .int .i64 o.s, .int .i64 o.g] 71)).heap[wr.heap.size]? = some (.cells #[.int .i64 o.a, .int .i64 o.b, .int .i64 o.k, .int .i64 o.c, .int .i64 o.d, .int .i64 o.s, .int .i64 o.g] 71 (0, 0))) := World.alloc_heap_new _ _
        go_wp2_with fail
        refine (l12Seen_any s g2 cap2 o.a o.b _ (HS.out.below HUo.out.ul.bel hgs) hn2 hcap2 ha1 ha3).mono ?_
        rintro e w0 ⟨rfl, hb⟩
        replace HU := hideIt (HUo.out.below hb)
        have HOX := hideIt (blk_bel HOXo.out hb)
        clear hb HUo HOXo HBO y0 y1 y2 y3 y4 y5 y6 hgr
        cases hS1 : seenB s o.a o.b
        · skip
          have y0 := (blk_cell HOX.out 0).trans rfl
          have y1 := (blk_cell HOX.out 1).trans rfl
          have y2 := (blk_cell HOX.out 2).trans rfl
          have y3 := (blk_cell HOX.out 3).trans rfl
          have y4 := (blk_cell HOX.out 4).trans rfl
          have y5 := (blk_cell HOX.out 5).trans rfl
          have y6 := (blk_cell HOX.out 6).trans rfl
          have yl := (Array.getElem?_eq_some_iff.1 HOX.out).1
          go_wp2_with fail
          refine (l1Find_any L G c o.a o.b _ HU.out.ops (by omega) HU.out.cap).mono ?_
          rintro e w1 ⟨rfl, hb⟩
          replace HU := hideIt (HU.out.below hb)
          replace HOX := hideIt (blk_bel HOX.out hb)
          clear y0 y1 y2 y3 y4 y5 y6 yl
          clear hb
          cases hH1 : hasI L o.a o.b
          · rw [has_no hH1]
            by_cases hz : o.b - 1 = 0
            · skip
              by_cases hr0 : o.c = 0 ∧ o.d = 0
              · obtain ⟨hc0, hd0⟩ := hr0
                obtain ⟨oa, ob, ok, oc, od, os, og⟩ := o
                dsimp only at *
                subst hc0
                subst hd0
                have y0 := (blk_cell HOX.out 0).trans rfl
                have y1 := (blk_cell HOX.out 1).trans rfl
                have y2 := (blk_cell HOX.out 2).trans rfl
                have y3 := (blk_cell HOX.out 3).trans rfl
                have y4 := (blk_cell HOX.out 4).trans rfl
                have y5 := (blk_cell HOX.out 5).trans rfl
                have y6 := (blk_cell HOX.out 6).trans rfl
                have yl := (Array.getElem?_eq_some_iff.1 HOX.out).1
                have HBA : Hid (Below w1.heap.size w1 (w1.alloc (.cells #[.int .i64 oa, .int .i64 0] 69))) := (Below.refl _ _).alloc (Nat.le_refl _) _
                have HUp := hideIt (HU.out.below HBA.out)
                have HOXp := hideIt (blk_bel HOX.out HBA.out)
                have HAXp : Hid ((w1.alloc (.cells #[.int .i64 oa, .int .i64 0] 69)).heap[w1.heap.size]? = some (.cells #[.int .i64 oa, .int .i64 0] 69 (0, 0))) := World.alloc_heap_new _ _
                obtain ⟨HE, hll2⟩ := HYES.out (by unfold rdy; (try dsimp only); rw [hS1, hH1]; rw [decide_eq_true hz]; simp)
                have hms := meas (l := l.length) (n := L.length) (k := k) hll2 hlt
                go_wp2_with (first
                  | (at_builtin; refine wpList_append_own_at _ rfl _ _ 24 rfl w.heap.size 71 i0 _ 7 56 Tryd.underlying24 HI1.out HZ0.out HZ1.out HZ2.out rfl (by decide) _ _ _ rfl (HUp.out.ul.row.alloc _) ⟨w1.heap.size + 1, 0, none⟩ 1 1 (opCells [⟨oa, ob, ok, 0, 0, os, og⟩]) rfl rfl (cellsNew' _ _ (by simp) (opCells [⟨oa, ob, ok, 0, 0, os, og⟩]) 71) (opCells_one _) (by unfold maxLen; omega) (by omega) (by have := HUp.out.ul.bel.size; simp at this ⊢; omega) ?_; intro v' w9 hown3 hg3 _ _;
                      have HS3 := hideIt (UL.app (M := [⟨oa, ob, ok, 0, 0, os, og⟩]) (HUp.out.ul.below ((Below.refl _ _).alloc (Nat.le_refl _) _)) hg3 hown3); clear hown3 hg3))
                obtain ⟨g9, c9, rfl, hc9⟩ := HS3.out.slot (by simp)
                exact ⟨⟨L ++ [⟨oa, ob, ok, 0, 0, os, og⟩], 0, g9, c9, rfl, by go_num, by omega, ⟨HS3.out, hc9⟩, HE, by rw [List.length_append]; simp; omega, fun j _ h => by omega⟩, by simpa [lenV, intOf] using hms⟩
              · have hcr : 1 ≤ o.c ∧ o.c ≤ 3 := by rcases hrf with h | h <;> omega
                have hc0 : ¬ o.c = 0 := by omega
                clear hr0
                have y0 := (blk_cell HOX.out 0).trans rfl
                have y1 := (blk_cell HOX.out 1).trans rfl
                have y2 := (blk_cell HOX.out 2).trans rfl
                have y3 := (blk_cell HOX.out 3).trans rfl
                have y4 := (blk_cell HOX.out 4).trans rfl
                have y5 := (blk_cell HOX.out 5).trans rfl
                have y6 := (blk_cell HOX.out 6).trans rfl
                have yl := (Array.getElem?_eq_some_iff.1 HOX.out).1
                have HBA : Hid (Below w1.heap.size w1 (w1.alloc (.cells #[.int .i64 o.a, .int .i64 0] 69))) := (Below.refl _ _).alloc (Nat.le_refl _) _
                have HUp := hideIt (HU.out.below HBA.out)
                have HOXp := hideIt (blk_bel HOX.out HBA.out)
                have HAXp : Hid ((w1.alloc (.cells #[.int .i64 o.a, .int .i64 0] 69)).heap[w1.heap.size]? = some (.cells #[.int .i64 o.a, .int .i64 0] 69 (0, 0))) := World.alloc_heap_new _ _
                go_wp2_with fail
                refine (l12Seen_any s g2 cap2 o.c o.d _ (HS.out.below HUp.out.ul.bel hgs) hn2 hcap2 hcr.1 hcr.2).mono ?_
                rintro e w2 ⟨rfl, hb⟩
                replace HU := hideIt (HUp.out.below hb)
                replace HOX := hideIt (blk_bel HOXp.out hb)
                have HAX := hideIt (blk_bel HAXp.out hb)
                clear HUp HOXp HAXp HBA
                clear y0 y1 y2 y3 y4 y5 y6 yl
                clear hb
                cases hS3 : seenB s o.c o.d
                · skip
                  have y0 := (blk_cell HOX.out 0).trans rfl
                  have y1 := (blk_cell HOX.out 1).trans rfl
                  have y2 := (blk_cell HOX.out 2).trans rfl
                  have y3 := (blk_cell HOX.out 3).trans rfl
                  have y4 := (blk_cell HOX.out 4).trans rfl
                  have y5 := (blk_cell HOX.out 5).trans rfl
                  have y6 := (blk_cell HOX.out 6).trans rfl
                  have yl := (Array.getElem?_eq_some_iff.1 HOX.out).1
                  have t0 := (blk_cell HAX.out 0).trans rfl
                  have t1 := (blk_cell HAX.out 1).trans rfl
                  have tl := (Array.getElem?_eq_some_iff.1 HAX.out).1
                  go_wp2_with fail
                  refine (l1Find_any L G c o.c o.d _ HU.out.ops (by omega) HU.out.cap).mono ?_
                  rintro e w3 ⟨rfl, hb⟩
                  replace HU := hideIt (HU.out.below hb)
                  replace HOX := hideIt (blk_bel HOX.out hb)
                  replace HAX := hideIt (blk_bel HAX.out hb)
                  clear y0 y1 y2 y3 y4 y5 y6 yl
                  clear t0 t1 tl
                  clear hb
                  cases hH3 : hasI L o.c o.d
                  · rw [has_no hH3]
                    have y0 := (blk_cell HOX.out 0).trans rfl
                    have y1 := (blk_cell HOX.out 1).trans rfl
                    have y2 := (blk_cell HOX.out 2).trans rfl
                    have y3 := (blk_cell HOX.out 3).trans rfl
                    have y4 := (blk_cell HOX.out 4).trans rfl
                    have y5 := (blk_cell HOX.out 5).trans rfl
                    have y6 := (blk_cell HOX.out 6).trans rfl
                    have yl := (Array.getElem?_eq_some_iff.1 HOX.out).1
                    have t0 := (blk_cell HAX.out 0).trans rfl
                    have t1 := (blk_cell HAX.out 1).trans rfl
                    have tl := (Array.getElem?_eq_some_iff.1 HAX.out).1
                    have HE := hideIt (HNO.out (by unfold rdy; (try dsimp only); rw [hS1, hH1]; rw [decide_eq_true hz]; rw [hS3, hH3]; simp [hc0]))
                    go_wp2
                    exact ⟨⟨L, k + 1, G, c, rfl, by go_num, by omega, HU.out, HPL.out, hle, HE.out⟩, by simp [lenV, intOf]; omega⟩
                  · obtain ⟨j3, hj3⟩ := has_yes hH3
                    rw [hj3]
                    clear hj3
                    have hj30 : (0 : Int) ≤ (j3 : Int) := by omega
                    have y0 := (blk_cell HOX.out 0).trans rfl
                    have y1 := (blk_cell HOX.out 1).trans rfl
                    have y2 := (blk_cell HOX.out 2).trans rfl
                    have y3 := (blk_cell HOX.out 3).trans rfl
                    have y4 := (blk_cell HOX.out 4).trans rfl
                    have y5 := (blk_cell HOX.out 5).trans rfl
                    have y6 := (blk_cell HOX.out 6).trans rfl
                    have yl := (Array.getElem?_eq_some_iff.1 HOX.out).1
                    have t0 := (blk_cell HAX.out 0).trans rfl
                    have t1 := (blk_cell HAX.out 1).trans rfl
                    have tl := (Array.getElem?_eq_some_iff.1 HAX.out).1
                    obtain ⟨HE, hll2⟩ := HYES.out (by unfold rdy; (try dsimp only); rw [hS1, hH1]; rw [decide_eq_true hz]; rw [hS3, hH3]; simp)
                    have hms := meas (l := l.length) (n := L.length) (k := k) hll2 hlt
                    go_wp2_with (first
                      | (at_builtin; refine wpList_append_own_at _ rfl _ _ 24 rfl w.heap.size 71 i0 _ 7 56 Tryd.underlying24 HI1.out HZ0.out HZ1.out HZ2.out rfl (by decide) _ _ _ rfl (HU.out.ul.row.alloc _) ⟨w3.heap.size, 0, none⟩ 1 1 (opCells [o]) rfl rfl (cellsNew' _ _ (by simp) (opCells [o]) 71) (opCells_one _) (by unfold maxLen; omega) (by omega) (by have := HU.out.ul.bel.size; simp at this ⊢; omega) ?_; intro v' w9 hown3 hg3 _ _;
                          have HS3 := hideIt (UL.app (M := [o]) (HU.out.ul.below ((Below.refl _ _).alloc (Nat.le_refl _) _)) hg3 hown3); clear hown3 hg3))
                    obtain ⟨g9, c9, rfl, hc9⟩ := HS3.out.slot (by simp)
                    exact ⟨⟨L ++ [o], 0, g9, c9, rfl, by go_num, by omega, ⟨HS3.out, hc9⟩, HE, by rw [List.length_append]; simp; omega, fun j _ h => by omega⟩, by simpa [lenV, intOf] using hms⟩
                · skip
                  have y0 := (blk_cell HOX.out 0).trans rfl
                  have y1 := (blk_cell HOX.out 1).trans rfl
                  have y2 := (blk_cell HOX.out 2).trans rfl
                  have y3 := (blk_cell HOX.out 3).trans rfl
                  have y4 := (blk_cell HOX.out 4).trans rfl
                  have y5 := (blk_cell HOX.out 5).trans rfl
                  have y6 := (blk_cell HOX.out 6).trans rfl
                  have yl := (Array.getElem?_eq_some_iff.1 HOX.out).1
                  have t0 := (blk_cell HAX.out 0).trans rfl
                  have t1 := (blk_cell HAX.out 1).trans rfl
                  have tl := (Array.getElem?_eq_some_iff.1 HAX.out).1
                  obtain ⟨HE, hll2⟩ := HYES.out (by unfold rdy; (try dsimp only); rw [hS1, hH1]; rw [decide_eq_true hz]; rw [hS3]; simp)
                  have hms := meas (l := l.length) (n := L.length) (k := k) hll2 hlt
                  go_wp2_with (first
                    | (at_builtin; refine wpList_append_own_at _ rfl _ _ 24 rfl w.heap.size 71 i0 _ 7 56 Tryd.underlying24 HI1.out HZ0.out HZ1.out HZ2.out rfl (by decide) _ _ _ rfl (HU.out.ul.row.alloc _) ⟨w2.heap.size, 0, none⟩ 1 1 (opCells [o]) rfl rfl (cellsNew' _ _ (by simp) (opCells [o]) 71) (opCells_one _) (by unfold maxLen; omega) (by omega) (by have := HU.out.ul.bel.size; simp at this ⊢; omega) ?_; intro v' w9 hown3 hg3 _ _;
                        have HS3 := hideIt (UL.app (M := [o]) (HU.out.ul.below ((Below.refl _ _).alloc (Nat.le_refl _) _)) hg3 hown3); clear hown3 hg3))
                  obtain ⟨g9, c9, rfl, hc9⟩ := HS3.out.slot (by simp)
                  exact ⟨⟨L ++ [o], 0, g9, c9, rfl, by go_num, by omega, ⟨HS3.out, hc9⟩, HE, by rw [List.length_append]; simp; omega, fun j _ h => by omega⟩, by simpa [lenV, intOf] using hms⟩
            · skip
              have y0 := (blk_cell HOX.out 0).trans rfl
              have y1 := (blk_cell HOX.out 1).trans rfl
              have y2 := (blk_cell HOX.out 2).trans rfl
              have y3 := (blk_cell HOX.out 3).trans rfl
              have y4 := (blk_cell HOX.out 4).trans rfl
              have y5 := (blk_cell HOX.out 5).trans rfl
              have y6 := (blk_cell HOX.out 6).trans rfl
              have yl := (Array.getElem?_eq_some_iff.1 HOX.out).1
              have HBA : Hid (Below w1.heap.size w1 (w1.alloc (.cells #[.int .i64 o.a, .int .i64 (o.b - 1)] 69))) := (Below.refl _ _).alloc (Nat.le_refl _) _
              have HUp := hideIt (HU.out.below HBA.out)
              have HOXp := hideIt (blk_bel HOX.out HBA.out)
              have HAXp : Hid ((w1.alloc (.cells #[.int .i64 o.a, .int .i64 (o.b - 1)] 69)).heap[w1.heap.size]? = some (.cells #[.int .i64 o.a, .int .i64 (o.b - 1)] 69 (0, 0))) := World.alloc_heap_new _ _
              go_wp2_with fail
              refine (l12Seen_any s g2 cap2 o.a (o.b - 1) _ (HS.out.below HUp.out.ul.bel hgs) hn2 hcap2 ha1 ha3).mono ?_
              rintro e w4 ⟨rfl, hb⟩
              replace HU := hideIt (HUp.out.below hb)
              replace HOX := hideIt (blk_bel HOXp.out hb)
              have HAX := hideIt (blk_bel HAXp.out hb)
              clear HUp HOXp HAXp HBA
              clear y0 y1 y2 y3 y4 y5 y6 yl
              clear hb
              cases hS2 : seenB s o.a (o.b - 1)
              · skip
                have y0 := (blk_cell HOX.out 0).trans rfl
                have y1 := (blk_cell HOX.out 1).trans rfl
                have y2 := (blk_cell HOX.out 2).trans rfl
                have y3 := (blk_cell HOX.out 3).trans rfl
                have y4 := (blk_cell HOX.out 4).trans rfl
                have y5 := (blk_cell HOX.out 5).trans rfl
                have y6 := (blk_cell HOX.out 6).trans rfl
                have yl := (Array.getElem?_eq_some_iff.1 HOX.out).1
                have t0 := (blk_cell HAX.out 0).trans rfl
                have t1 := (blk_cell HAX.out 1).trans rfl
                have tl := (Array.getElem?_eq_some_iff.1 HAX.out).1
                go_wp2_with fail
                refine (l1Find_any L G c o.a (o.b - 1) _ HU.out.ops (by omega) HU.out.cap).mono ?_
                rintro e w5 ⟨rfl, hb⟩
                replace HU := hideIt (HU.out.below hb)
                replace HOX := hideIt (blk_bel HOX.out hb)
                replace HAX := hideIt (blk_bel HAX.out hb)
                clear y0 y1 y2 y3 y4 y5 y6 yl
                clear t0 t1 tl
                clear hb
                cases hH2 : hasI L o.a (o.b - 1)
                · rw [has_no hH2]
                  have y0 := (blk_cell HOX.out 0).trans rfl
                  have y1 := (blk_cell HOX.out 1).trans rfl
                  have y2 := (blk_cell HOX.out 2).trans rfl
                  have y3 := (blk_cell HOX.out 3).trans rfl
                  have y4 := (blk_cell HOX.out 4).trans rfl
                  have y5 := (blk_cell HOX.out 5).trans rfl
                  have y6 := (blk_cell HOX.out 6).trans rfl
                  have yl := (Array.getElem?_eq_some_iff.1 HOX.out).1
                  have t0 := (blk_cell HAX.out 0).trans rfl
                  have t1 := (blk_cell HAX.out 1).trans rfl
                  have tl := (Array.getElem?_eq_some_iff.1 HAX.out).1
                  have HE := hideIt (HNO.out (by unfold rdy; (try dsimp only); rw [hS1, hH1]; rw [decide_eq_false hz, hS2, hH2]; simp))
                  go_wp2
                  exact ⟨⟨L, k + 1, G, c, rfl, by go_num, by omega, HU.out, HPL.out, hle, HE.out⟩, by simp [lenV, intOf]; omega⟩
                · obtain ⟨j2, hj2⟩ := has_yes hH2
                  rw [hj2]
                  clear hj2
                  have hj20 : (0 : Int) ≤ (j2 : Int) := by omega
                  by_cases hr0 : o.c = 0 ∧ o.d = 0
                  · obtain ⟨hc0, hd0⟩ := hr0
                    obtain ⟨oa, ob, ok, oc, od, os, og⟩ := o
                    dsimp only at *
                    subst hc0
                    subst hd0
                    have y0 := (blk_cell HOX.out 0).trans rfl
                    have y1 := (blk_cell HOX.out 1).trans rfl
                    have y2 := (blk_cell HOX.out 2).trans rfl
                    have y3 := (blk_cell HOX.out 3).trans rfl
                    have y4 := (blk_cell HOX.out 4).trans rfl
                    have y5 := (blk_cell HOX.out 5).trans rfl
                    have y6 := (blk_cell HOX.out 6).trans rfl
                    have yl := (Array.getElem?_eq_some_iff.1 HOX.out).1
                    have t0 := (blk_cell HAX.out 0).trans rfl
                    have t1 := (blk_cell HAX.out 1).trans rfl
                    have tl := (Array.getElem?_eq_some_iff.1 HAX.out).1
                    obtain ⟨HE, hll2⟩ := HYES.out (by unfold rdy; (try dsimp only); rw [hS1, hH1]; rw [decide_eq_false hz, hS2, hH2]; simp)
                    have hms := meas (l := l.length) (n := L.length) (k := k) hll2 hlt
                    go_wp2_with (first
                      | (at_builtin; refine wpList_append_own_at _ rfl _ _ 24 rfl w.heap.size 71 i0 _ 7 56 Tryd.underlying24 HI1.out HZ0.out HZ1.out HZ2.out rfl (by decide) _ _ _ rfl (HU.out.ul.row.alloc _) ⟨w5.heap.size, 0, none⟩ 1 1 (opCells [⟨oa, ob, ok, 0, 0, os, og⟩]) rfl rfl (cellsNew' _ _ (by simp) (opCells [⟨oa, ob, ok, 0, 0, os, og⟩]) 71) (opCells_one _) (by unfold maxLen; omega) (by omega) (by have := HU.out.ul.bel.size; simp at this ⊢; omega) ?_; intro v' w9 hown3 hg3 _ _;
                          have HS3 := hideIt (UL.app (M := [⟨oa, ob, ok, 0, 0, os, og⟩]) (HU.out.ul.below ((Below.refl _ _).alloc (Nat.le_refl _) _)) hg3 hown3); clear hown3 hg3))
                    obtain ⟨g9, c9, rfl, hc9⟩ := HS3.out.slot (by simp)
                    exact ⟨⟨L ++ [⟨oa, ob, ok, 0, 0, os, og⟩], 0, g9, c9, rfl, by go_num, by omega, ⟨HS3.out, hc9⟩, HE, by rw [List.length_append]; simp; omega, fun j _ h => by omega⟩, by simpa [lenV, intOf] using hms⟩
                  · have hcr : 1 ≤ o.c ∧ o.c ≤ 3 := by rcases hrf with h | h <;> omega
                    have hc0 : ¬ o.c = 0 := by omega
                    clear hr0
                    have y0 := (blk_cell HOX.out 0).trans rfl
                    have y1 := (blk_cell HOX.out 1).trans rfl
                    have y2 := (blk_cell HOX.out 2).trans rfl
                    have y3 := (blk_cell HOX.out 3).trans rfl
                    have y4 := (blk_cell HOX.out 4).trans rfl
                    have y5 := (blk_cell HOX.out 5).trans rfl
                    have y6 := (blk_cell HOX.out 6).trans rfl
                    have yl := (Array.getElem?_eq_some_iff.1 HOX.out).1
                    have t0 := (blk_cell HAX.out 0).trans rfl
                    have t1 := (blk_cell HAX.out 1).trans rfl
                    have tl := (Array.getElem?_eq_some_iff.1 HAX.out).1
                    go_wp2_with fail
                    refine (l12Seen_any s g2 cap2 o.c o.d _ (HS.out.below HU.out.ul.bel hgs) hn2 hcap2 hcr.1 hcr.2).mono ?_
                    rintro e w6 ⟨rfl, hb⟩
                    replace HU := hideIt (HU.out.below hb)
                    replace HOX := hideIt (blk_bel HOX.out hb)
                    replace HAX := hideIt (blk_bel HAX.out hb)
                    clear y0 y1 y2 y3 y4 y5 y6 yl
                    clear t0 t1 tl
                    clear hb
                    cases hS3 : seenB s o.c o.d
                    · skip
                      have y0 := (blk_cell HOX.out 0).trans rfl
                      have y1 := (blk_cell HOX.out 1).trans rfl
                      have y2 := (blk_cell HOX.out 2).trans rfl
                      have y3 := (blk_cell HOX.out 3).trans rfl
                      have y4 := (blk_cell HOX.out 4).trans rfl
                      have y5 := (blk_cell HOX.out 5).trans rfl
                      have y6 := (blk_cell HOX.out 6).trans rfl
                      have yl := (Array.getElem?_eq_some_iff.1 HOX.out).1
                      have t0 := (blk_cell HAX.out 0).trans rfl
                      have t1 := (blk_cell HAX.out 1).trans rfl
                      have tl := (Array.getElem?_eq_some_iff.1 HAX.out).1
                      go_wp2_with fail
                      refine (l1Find_any L G c o.c o.d _ HU.out.ops (by omega) HU.out.cap).mono ?_
                      rintro e w7 ⟨rfl, hb⟩
                      replace HU := hideIt (HU.out.below hb)
                      replace HOX := hideIt (blk_bel HOX.out hb)
                      replace HAX := hideIt (blk_bel HAX.out hb)
                      clear y0 y1 y2 y3 y4 y5 y6 yl
                      clear t0 t1 tl
                      clear hb
                      cases hH3 : hasI L o.c o.d
                      · rw [has_no hH3]
                        have y0 := (blk_cell HOX.out 0).trans rfl
                        have y1 := (blk_cell HOX.out 1).trans rfl
                        have y2 := (blk_cell HOX.out 2).trans rfl
                        have y3 := (blk_cell HOX.out 3).trans rfl
                        have y4 := (blk_cell HOX.out 4).trans rfl
                        have y5 := (blk_cell HOX.out 5).trans rfl
                        have y6 := (blk_cell HOX.out 6).trans rfl
                        have yl := (Array.getElem?_eq_some_iff.1 HOX.out).1
                        have t0 := (blk_cell HAX.out 0).trans rfl
                        have t1 := (blk_cell HAX.out 1).trans rfl
                        have tl := (Array.getElem?_eq_some_iff.1 HAX.out).1
                        have HE := hideIt (HNO.out (by unfold rdy; (try dsimp only); rw [hS1, hH1]; rw [decide_eq_false hz, hS2, hH2]; rw [hS3, hH3]; simp [hc0]))
                        go_wp2
                        exact ⟨⟨L, k + 1, G, c, rfl, by go_num, by omega, HU.out, HPL.out, hle, HE.out⟩, by simp [lenV, intOf]; omega⟩
                      · obtain ⟨j3, hj3⟩ := has_yes hH3
                        rw [hj3]
                        clear hj3
                        have hj30 : (0 : Int) ≤ (j3 : Int) := by omega
                        have y0 := (blk_cell HOX.out 0).trans rfl
                        have y1 := (blk_cell HOX.out 1).trans rfl
                        have y2 := (blk_cell HOX.out 2).trans rfl
                        have y3 := (blk_cell HOX.out 3).trans rfl
                        have y4 := (blk_cell HOX.out 4).trans rfl
                        have y5 := (blk_cell HOX.out 5).trans rfl
                        have y6 := (blk_cell HOX.out 6).trans rfl
                        have yl := (Array.getElem?_eq_some_iff.1 HOX.out).1
                        have t0 := (blk_cell HAX.out 0).trans rfl
                        have t1 := (blk_cell HAX.out 1).trans rfl
                        have tl := (Array.getElem?_eq_some_iff.1 HAX.out).1
                        obtain ⟨HE, hll2⟩ := HYES.out (by unfold rdy; (try dsimp only); rw [hS1, hH1]; rw [decide_eq_false hz, hS2, hH2]; rw [hS3, hH3]; simp)
                        have hms := meas (l := l.length) (n := L.length) (k := k) hll2 hlt
                        go_wp2_with (first
                          | (at_builtin; refine wpList_append_own_at _ rfl _ _ 24 rfl w.heap.size 71 i0 _ 7 56 Tryd.underlying24 HI1.out HZ0.out HZ1.out HZ2.out rfl (by decide) _ _ _ rfl (HU.out.ul.row.alloc _) ⟨w7.heap.size, 0, none⟩ 1 1 (opCells [o]) rfl rfl (cellsNew' _ _ (by simp) (opCells [o]) 71) (opCells_one _) (by unfold maxLen; omega) (by omega) (by have := HU.out.ul.bel.size; simp at this ⊢; omega) ?_; intro v' w9 hown3 hg3 _ _;
                              have HS3 := hideIt (UL.app (M := [o]) (HU.out.ul.below ((Below.refl _ _).alloc (Nat.le_refl _) _)) hg3 hown3); clear hown3 hg3))
                        obtain ⟨g9, c9, rfl, hc9⟩ := HS3.out.slot (by simp)
                        exact ⟨⟨L ++ [o], 0, g9, c9, rfl, by go_num, by omega, ⟨HS3.out, hc9⟩, HE, by rw [List.length_append]; simp; omega, fun j _ h => by omega⟩, by simpa [lenV, intOf] using hms⟩
                    · skip
                      have y0 := (blk_cell HOX.out 0).trans rfl
                      have y1 := (blk_cell HOX.out 1).trans rfl
                      have y2 := (blk_cell HOX.out 2).trans rfl
                      have y3 := (blk_cell HOX.out 3).trans rfl
                      have y4 := (blk_cell HOX.out 4).trans rfl
                      have y5 := (blk_cell HOX.out 5).trans rfl
                      have y6 := (blk_cell HOX.out 6).trans rfl
                      have yl := (Array.getElem?_eq_some_iff.1 HOX.out).1
                      have t0 := (blk_cell HAX.out 0).trans rfl
                      have t1 := (blk_cell HAX.out 1).trans rfl
                      have tl := (Array.getElem?_eq_some_iff.1 HAX.out).1
                      obtain ⟨HE, hll2⟩ := HYES.out (by unfold rdy; (try dsimp only); rw [hS1, hH1]; rw [decide_eq_false hz, hS2, hH2]; rw [hS3]; simp)
                      have hms := meas (l := l.length) (n := L.length) (k := k) hll2 hlt
                      go_wp2_with (first
                        | (at_builtin; refine wpList_append_own_at _ rfl _ _ 24 rfl w.heap.size 71 i0 _ 7 56 Tryd.underlying24 HI1.out HZ0.out HZ1.out HZ2.out rfl (by decide) _ _ _ rfl (HU.out.ul.row.alloc _) ⟨w6.heap.size, 0, none⟩ 1 1 (opCells [o]) rfl rfl (cellsNew' _ _ (by simp) (opCells [o]) 71) (opCells_one _) (by unfold maxLen; omega) (by omega) (by have := HU.out.ul.bel.size; simp at this ⊢; omega) ?_; intro v' w9 hown3 hg3 _ _;
                            have HS3 := hideIt (UL.app (M := [o]) (HU.out.ul.below ((Below.refl _ _).alloc (Nat.le_refl _) _)) hg3 hown3); clear hown3 hg3))
                      obtain ⟨g9, c9, rfl, hc9⟩ := HS3.out.slot (by simp)
                      exact ⟨⟨L ++ [o], 0, g9, c9, rfl, by go_num, by omega, ⟨HS3.out, hc9⟩, HE, by rw [List.length_append]; simp; omega, fun j _ h => by omega⟩, by simpa [lenV, intOf] using hms⟩
              · skip
                by_cases hr0 : o.c = 0 ∧ o.d = 0
                · obtain ⟨hc0, hd0⟩ := hr0
                  obtain ⟨oa, ob, ok, oc, od, os, og⟩ := o
                  dsimp only at *
                  subst hc0
                  subst hd0
                  have y0 := (blk_cell HOX.out 0).trans rfl
                  have y1 := (blk_cell HOX.out 1).trans rfl
                  have y2 := (blk_cell HOX.out 2).trans rfl
                  have y3 := (blk_cell HOX.out 3).trans rfl
                  have y4 := (blk_cell HOX.out 4).trans rfl
                  have y5 := (blk_cell HOX.out 5).trans rfl
                  have y6 := (blk_cell HOX.out 6).trans rfl
                  have yl := (Array.getElem?_eq_some_iff.1 HOX.out).1
                  have t0 := (blk_cell HAX.out 0).trans rfl
                  have t1 := (blk_cell HAX.out 1).trans rfl
                  have tl := (Array.getElem?_eq_some_iff.1 HAX.out).1
                  obtain ⟨HE, hll2⟩ := HYES.out (by unfold rdy; (try dsimp only); rw [hS1, hH1]; rw [decide_eq_false hz, hS2]; simp)
                  have hms := meas (l := l.length) (n := L.length) (k := k) hll2 hlt
                  go_wp2_with (first
                    | (at_builtin; refine wpList_append_own_at _ rfl _ _ 24 rfl w.heap.size 71 i0 _ 7 56 Tryd.underlying24 HI1.out HZ0.out HZ1.out HZ2.out rfl (by decide) _ _ _ rfl (HU.out.ul.row.alloc _) ⟨w4.heap.size, 0, none⟩ 1 1 (opCells [⟨oa, ob, ok, 0, 0, os, og⟩]) rfl rfl (cellsNew' _ _ (by simp) (opCells [⟨oa, ob, ok, 0, 0, os, og⟩]) 71) (opCells_one _) (by unfold maxLen; omega) (by omega) (by have := HU.out.ul.bel.size; simp at this ⊢; omega) ?_; intro v' w9 hown3 hg3 _ _;
                        have HS3 := hideIt (UL.app (M := [⟨oa, ob, ok, 0, 0, os, og⟩]) (HU.out.ul.below ((Below.refl _ _).alloc (Nat.le_refl _) _)) hg3 hown3); clear hown3 hg3))
                  obtain ⟨g9, c9, rfl, hc9⟩ := HS3.out.slot (by simp)
                  exact ⟨⟨L ++ [⟨oa, ob, ok, 0, 0, os, og⟩], 0, g9, c9, rfl, by go_num, by omega, ⟨HS3.out, hc9⟩, HE, by rw [List.length_append]; simp; omega, fun j _ h => by omega⟩, by simpa [lenV, intOf] using hms⟩
                · have hcr : 1 ≤ o.c ∧ o.c ≤ 3 := by rcases hrf with h | h <;> omega
                  have hc0 : ¬ o.c = 0 := by omega
                  clear hr0
                  have y0 := (blk_cell HOX.out 0).trans rfl
                  have y1 := (blk_cell HOX.out 1).trans rfl
                  have y2 := (blk_cell HOX.out 2).trans rfl
                  have y3 := (blk_cell HOX.out 3).trans rfl
                  have y4 := (blk_cell HOX.out 4).trans rfl
                  have y5 := (blk_cell HOX.out 5).trans rfl
                  have y6 := (blk_cell HOX.out 6).trans rfl
                  have yl := (Array.getElem?_eq_some_iff.1 HOX.out).1
                  have t0 := (blk_cell HAX.out 0).trans rfl
                  have t1 := (blk_cell HAX.out 1).trans rfl
                  have tl := (Array.getElem?_eq_some_iff.1 HAX.out).1
                  go_wp2_with fail
                  refine (l12Seen_any s g2 cap2 o.c o.d _ (HS.out.below HU.out.ul.bel hgs) hn2 hcap2 hcr.1 hcr.2).mono ?_
                  rintro e w8 ⟨rfl, hb⟩
                  replace HU := hideIt (HU.out.below hb)
                  replace HOX := hideIt (blk_bel HOX.out hb)
                  replace HAX := hideIt (blk_bel HAX.out hb)
                  clear y0 y1 y2 y3 y4 y5 y6 yl
                  clear t0 t1 tl
                  clear hb
                  cases hS3 : seenB s o.c o.d
                  · skip
                    have y0 := (blk_cell HOX.out 0).trans rfl
                    have y1 := (blk_cell HOX.out 1).trans rfl
                    have y2 := (blk_cell HOX.out 2).trans rfl
                    have y3 := (blk_cell HOX.out 3).trans rfl
                    have y4 := (blk_cell HOX.out 4).trans rfl
                    have y5 := (blk_cell HOX.out 5).trans rfl
                    have y6 := (blk_cell HOX.out 6).trans rfl
                    have yl := (Array.getElem?_eq_some_iff.1 HOX.out).1
                    have t0 := (blk_cell HAX.out 0).trans rfl
                    have t1 := (blk_cell HAX.out 1).trans rfl
                    have tl := (Array.getElem?_eq_some_iff.1 HAX.out).1
                    go_wp2_with fail
                    refine (l1Find_any L G c o.c o.d _ HU.out.ops (by omega) HU.out.cap).mono ?_
                    rintro e w9 ⟨rfl, hb⟩
                    replace HU := hideIt (HU.out.below hb)
                    replace HOX := hideIt (blk_bel HOX.out hb)
                    replace HAX := hideIt (blk_bel HAX.out hb)
                    clear y0 y1 y2 y3 y4 y5 y6 yl
                    clear t0 t1 tl
                    clear hb
                    cases hH3 : hasI L o.c o.d
                    · rw [has_no hH3]
                      have y0 := (blk_cell HOX.out 0).trans rfl
                      have y1 := (blk_cell HOX.out 1).trans rfl
                      have y2 := (blk_cell HOX.out 2).trans rfl
                      have y3 := (blk_cell HOX.out 3).trans rfl
                      have y4 := (blk_cell HOX.out 4).trans rfl
                      have y5 := (blk_cell HOX.out 5).trans rfl
                      have y6 := (blk_cell HOX.out 6).trans rfl
                      have yl := (Array.getElem?_eq_some_iff.1 HOX.out).1
                      have t0 := (blk_cell HAX.out 0).trans rfl
                      have t1 := (blk_cell HAX.out 1).trans rfl
                      have tl := (Array.getElem?_eq_some_iff.1 HAX.out).1
                      have HE := hideIt (HNO.out (by unfold rdy; (try dsimp only); rw [hS1, hH1]; rw [decide_eq_false hz, hS2]; rw [hS3, hH3]; simp [hc0]))
                      go_wp2
                      exact ⟨⟨L, k + 1, G, c, rfl, by go_num, by omega, HU.out, HPL.out, hle, HE.out⟩, by simp [lenV, intOf]; omega⟩
                    · obtain ⟨j3, hj3⟩ := has_yes hH3
                      rw [hj3]
                      clear hj3
                      have hj30 : (0 : Int) ≤ (j3 : Int) := by omega
                      have y0 := (blk_cell HOX.out 0).trans rfl
                      have y1 := (blk_cell HOX.out 1).trans rfl
                      have y2 := (blk_cell HOX.out 2).trans rfl
                      have y3 := (blk_cell HOX.out 3).trans rfl
                      have y4 := (blk_cell HOX.out 4).trans rfl
                      have y5 := (blk_cell HOX.out 5).trans rfl
                      have y6 := (blk_cell HOX.out 6).trans rfl
                      have yl := (Array.getElem?_eq_some_iff.1 HOX.out).1
                      have t0 := (blk_cell HAX.out 0).trans rfl
                      have t1 := (blk_cell HAX.out 1).trans rfl
                      have tl := (Array.getElem?_eq_some_iff.1 HAX.out).1
                      obtain ⟨HE, hll2⟩ := HYES.out (by unfold rdy; (try dsimp only); rw [hS1, hH1]; rw [decide_eq_false hz, hS2]; rw [hS3, hH3]; simp)
                      have hms := meas (l := l.length) (n := L.length) (k := k) hll2 hlt
                      go_wp2_with (first
                        | (at_builtin; refine wpList_append_own_at _ rfl _ _ 24 rfl w.heap.size 71 i0 _ 7 56 Tryd.underlying24 HI1.out HZ0.out HZ1.out HZ2.out rfl (by decide) _ _ _ rfl (HU.out.ul.row.alloc _) ⟨w9.heap.size, 0, none⟩ 1 1 (opCells [o]) rfl rfl (cellsNew' _ _ (by simp) (opCells [o]) 71) (opCells_one _) (by unfold maxLen; omega) (by omega) (by have := HU.out.ul.bel.size; simp at this ⊢; omega) ?_; intro v' w9 hown3 hg3 _ _;
                            have HS3 := hideIt (UL.app (M := [o]) (HU.out.ul.below ((Below.refl _ _).alloc (Nat.le_refl _) _)) hg3 hown3); clear hown3 hg3))
                      obtain ⟨g9, c9, rfl, hc9⟩ := HS3.out.slot (by simp)
                      exact ⟨⟨L ++ [o], 0, g9, c9, rfl, by go_num, by omega, ⟨HS3.out, hc9⟩, HE, by rw [List.length_append]; simp; omega, fun j _ h => by omega⟩, by simpa [lenV, intOf] using hms⟩
                  · skip
                    have y0 := (blk_cell HOX.out 0).trans rfl
                    have y1 := (blk_cell HOX.out 1).trans rfl
                    have y2 := (blk_cell HOX.out 2).trans rfl
                    have y3 := (blk_cell HOX.out 3).trans rfl
                    have y4 := (blk_cell HOX.out 4).trans rfl
                    have y5 := (blk_cell HOX.out 5).trans rfl
                    have y6 := (blk_cell HOX.out 6).trans rfl
                    have yl := (Array.getElem?_eq_some_iff.1 HOX.out).1
                    have t0 := (blk_cell HAX.out 0).trans rfl
                    have t1 := (blk_cell HAX.out 1).trans rfl
                    have tl := (Array.getElem?_eq_some_iff.1 HAX.out).1
                    obtain ⟨HE, hll2⟩ := HYES.out (by unfold rdy; (try dsimp only); rw [hS1, hH1]; rw [decide_eq_false hz, hS2]; rw [hS3]; simp)
                    have hms := meas (l := l.length) (n := L.length) (k := k) hll2 hlt
                    go_wp2_with (first
                      | (at_builtin; refine wpList_append_own_at _ rfl _ _ 24 rfl w.heap.size 71 i0 _ 7 56 Tryd.underlying24 HI1.out HZ0.out HZ1.out HZ2.out rfl (by decide) _ _ _ rfl (HU.out.ul.row.alloc _) ⟨w8.heap.size, 0, none⟩ 1 1 (opCells [o]) rfl rfl (cellsNew' _ _ (by simp) (opCells [o]) 71) (opCells_one _) (by unfold maxLen; omega) (by omega) (by have := HU.out.ul.bel.size; simp at this ⊢; omega) ?_; intro v' w9 hown3 hg3 _ _;
                          have HS3 := hideIt (UL.app (M := [o]) (HU.out.ul.below ((Below.refl _ _).alloc (Nat.le_refl _) _)) hg3 hown3); clear hown3 hg3))
                    obtain ⟨g9, c9, rfl, hc9⟩ := HS3.out.slot (by simp)
                    exact ⟨⟨L ++ [o], 0, g9, c9, rfl, by go_num, by omega, ⟨HS3.out, hc9⟩, HE, by rw [List.length_append]; simp; omega, fun j _ h => by omega⟩, by simpa [lenV, intOf] using hms⟩
          · obtain ⟨j1, hj1⟩ := has_yes hH1
            rw [hj1]
            clear hj1
            have hj10 : (0 : Int) ≤ (j1 : Int) := by omega
            have hj11 : ¬ ((j1 : Int) < 0) := by omega
            have y0 := (blk_cell HOX.out 0).trans rfl
            have y1 := (blk_cell HOX.out 1).trans rfl
            have y2 := (blk_cell HOX.out 2).trans rfl
            have y3 := (blk_cell HOX.out 3).trans rfl
            have y4 := (blk_cell HOX.out 4).trans rfl
            have y5 := (blk_cell HOX.out 5).trans rfl
            have y6 := (blk_cell HOX.out 6).trans rfl
            have yl := (Array.getElem?_eq_some_iff.1 HOX.out).1
            have HBA : Hid (Below w1.heap.size w1 (w1.alloc (.cells #[.int .i64 o.a, .int .i64 (o.b - 1)] 69))) := (Below.refl _ _).alloc (Nat.le_refl _) _
            have HUp := hideIt (HU.out.below HBA.out)
            have HOXp := hideIt (blk_bel HOX.out HBA.out)
            have HAXp : Hid ((w1.alloc (.cells #[.int .i64 o.a, .int .i64 (o.b - 1)] 69)).heap[w1.heap.size]? = some (.cells #[.int .i64 o.a, .int .i64 (o.b - 1)] 69 (0, 0))) := World.alloc_heap_new _ _
            have HE := hideIt (HNO.out (by unfold rdy; (try dsimp only); rw [hS1, hH1]; simp))
            go_wp2
            exact ⟨⟨L, k + 1, G, c, rfl, by go_num, by omega, HUp.out, HPL.out, hle, HE.out⟩, by simp [lenV, intOf]; omega⟩
        · skip
          have y0 := (blk_cell HOX.out 0).trans rfl
          have y1 := (blk_cell HOX.out 1).trans rfl
          have y2 := (blk_cell HOX.out 2).trans rfl
          have y3 := (blk_cell HOX.out 3).trans rfl
          have y4 := (blk_cell HOX.out 4).trans rfl
          have y5 := (blk_cell HOX.out 5).trans rfl
          have y6 := (blk_cell HOX.out 6).trans rfl
          have yl := (Array.getElem?_eq_some_iff.1 HOX.out).1
          have HBA : Hid (Below w0.heap.size w0 (w0.alloc (.cells #[.int .i64 o.a, .int .i64 (o.b - 1)] 69))) := (Below.refl _ _).alloc (Nat.le_refl _) _
          have HUp := hideIt (HU.out.below HBA.out)
          have HOXp := hideIt (blk_bel HOX.out HBA.out)
          have HAXp : Hid ((w0.alloc (.cells #[.int .i64 o.a, .int .i64 (o.b - 1)] 69)).heap[w0.heap.size]? = some (.cells #[.int .i64 o.a, .int .i64 (o.b - 1)] 69 (0, 0))) := World.alloc_heap_new _ _
          have HE := hideIt (HNO.out (by unfold rdy; (try dsimp only); rw [hS1]; simp))
          go_wp2
          exact ⟨⟨L, k + 1, G, c, rfl, by go_num, by omega, HUp.out, HPL.out, hle, HE.out⟩, by simp [lenV, intOf]; omega⟩
      · have HE : Hid (past l s most.toNat = L) := by
          show _ = _
          rw [show most.toNat = L.length by omega, ← HPL.out]
        go_wp2
        go_ret
        exact ⟨G, c, by rw [HE.out]; rfl, by rw [HE.out]; exact HU.out⟩
    · obtain rfl : k = l.length := by omega
      have HE : Hid (past l s most.toNat = L) := by
        show _ = _
        have hnone := past_none (l := l) (s := s) (k := L.length) (fun j hj => by rw [← HPL.out]; exact HBF.out j hj hj)
        rw [past_end hnone most.toNat hle, ← HPL.out]
      clear HBF
      go_wp2
      go_ret
      exact ⟨G, c, by rw [HE.out]; rfl, by rw [HE.out]; exact HU.out⟩

set_option maxRecDepth 100000 in
set_option maxHeartbeats 2000000 in
theorem specPast_any (l : List Op7) (s : List Int) (most : Int) (g cap g2 cap2 : Nat) (w : World) (hl : OpsAt w g l) (hn : l.length ≤ 1048576) (hcap : l.length ≤ cap) (hs : IntsAt w g2 s) (hn2 : s.length ≤ 1048576) (hcap2 : s.length ≤ cap2) :
    Calls Tryd.prog 35 #[.slice (some ⟨g, 0, none⟩) l.length cap, .slice (some ⟨g2, 0, none⟩) s.length cap2, .int .i64 most] w fun e w' => ∃ v, e = .returned v ∧ w'.ownsRow w.heap.size 71 7 v (ansP l s most).length (opCells (ansP l s most)) ∧ Below w.heap.size w w' := by
  have HL := hideIt hl
  have HS := hideIt hs
  have hgw := hl.1
  have hgs := hs.1
  clear hl hs
  cases ho : opsB l
  all_goals
    have HO := hideIt ho
    clear ho
    go_enter Tryd.func35, Tryd.ntmps35
    go_wp2_with fail
    refine (specOps_any l _ _ _ HL.out hn hcap).mono ?_
    rintro e w1 ⟨rfl, hb1⟩
    rw [HO.out]
    have HB1 := hideIt hb1
    clear hb1
  · go_wp2
    go_ret
    refine ⟨_, rfl, ?_, HB1.out.alloc HB1.out.size _⟩
    unfold ansP
    rw [HO.out]
    exact ownsRow_base (b' := w.heap.size) HB1.out.size (World.ownsRow_made (base := w1.heap.size) (e := 71) (size := 7) w1 #[] 0 (Nat.le_refl _) (Nat.zero_le _) rfl)
  · have HOK := hideIt (opsB_parts HO.out).1
    go_wp2_with fail
    refine (l12Past_any l s most g cap g2 cap2 HOK.out _ (HL.out.below HB1.out hgw) hn hcap (HS.out.below HB1.out hgs) hn2 hcap2).mono ?_
    rintro e w2 ⟨G, c, rfl, hu⟩
    have HU := hideIt hu
    clear hu
    go_wp2
    go_ret
    refine ⟨_, rfl, ?_, Bstep HB1.out HU.out.ul.bel⟩
    unfold ansP
    rw [if_pos HO.out]
    exact ownsRow_base (b' := w.heap.size) HB1.out.size HU.out.ul.row
end Go.Proofs.YtficnhlkefpfnaaDoor

namespace Go.Proofs.YtficnhlkefpfnaaDoor
open Go.RowKit
set_option linter.unusedSimpArgs false
set_option linter.unusedVariables false

theorem eqIntS_none (p q : Option Addr) (c1 c2 : Nat) (w : World) :
    Calls Tryd.prog 38 #[.slice p 0 c1, .slice q 0 c2] w fun e w' => e = .returned (.bool true) ∧ w' = w := by
  go_enter Tryd.func38, Tryd.ntmps38
  go_wp2
  refine wp_loop_rounds 1 ?_
  rw [rounds_succ]
  go_wp2
  go_ret
  exact ⟨rfl, rfl⟩
theorem heldIntS_none (p : Option Addr) (c : Nat) (w : World) :
    Calls Tryd.prog 71 #[.slice p 0 c, .int .i64 1] w fun e w' => e = .returned (.int .i64 1) ∧ w' = w := by
  go_enter Tryd.func71, Tryd.ntmps71
  go_wp2
  refine wp_loop_rounds 1 ?_
  rw [rounds_succ]
  go_wp2
  go_ret
  exact ⟨rfl, rfl⟩
theorem markIntS_none (p : Option Addr) (c : Nat) (w : World) :
    Calls Tryd.prog 39 #[.slice p 0 c, .int .i64 1] w fun e w' => e = .returned (.int .i64 1) ∧ w' = w := by
  go_enter Tryd.func39, Tryd.ntmps39
  go_wp2
  refine wp_loop_rounds 1 ?_
  rw [rounds_succ]
  go_wp2
  go_ret
  exact ⟨rfl, rfl⟩
set_option maxHeartbeats 1000000 in
theorem eqIntS_same (xs : List Int) (g1 g2 cap1 cap2 : Nat) (w : World) (hl1 : IntsAt w g1 xs) (hl2 : IntsAt w g2 xs) (hn : xs.length ≤ 1048576) (hcap1 : xs.length ≤ cap1) (hcap2 : xs.length ≤ cap2) :
    Calls Tryd.prog 38 #[.slice (some ⟨g1, 0, none⟩) xs.length cap1, .slice (some ⟨g2, 0, none⟩) xs.length cap2] w fun e w' => e = .returned (.bool true) ∧ Below w.heap.size w w' := by
  go_enter Tryd.func38, Tryd.ntmps38
  go_wp2
  go_loopw [5] (fun i wr => ∃ k : Nat, k ≤ xs.length ∧ i = .int .i64 k ∧ Below w.heap.size w wr)
    (fun i _ => xs.length - (intOf i).toNat)
  case atStart => exact ⟨0, Nat.zero_le _, rfl, by go_grown⟩
  case round =>
    obtain ⟨k, hk, rfl, hB⟩ := hrel
    have HB : Hid (Below w.heap.size w wr) := hB
    by_cases hlt : k < xs.length
    · have j1 := (hl1.below hB hl1.1).2 k xs[k] (by simp [hlt])
      have j2 := (hl2.below hB hl2.1).2 k xs[k] (by simp [hlt])
      generalize xs[k] = x at *
      have hlt' : (k : Int) < (xs.length : Int) := by omega
      have hk0 : (0 : Int) ≤ (k : Int) := by omega
      clear hB hl1 hl2
      go_wp2
      go_quiet (fail)
      go_wp2
      exact ⟨⟨k + 1, by omega, by go_num, below_drewN HB.out _⟩, by simp [intOf]; omega⟩
    · clear hB hl1 hl2
      go_wp2
      go_ret
      exact ⟨rfl, HB.out⟩
theorem held3 (g cap : Nat) (w : World) (hl : IntsAt w g [1, 2, 3]) :
    Calls Tryd.prog 71 #[.slice (some ⟨g, 0, none⟩) 3 3, .int .i64 1] w fun e w' => e = .returned (.int .i64 4) ∧ w' = w := by
  have h0 := hl.2 0 _ rfl
  have h1 := hl.2 1 _ rfl
  have h2 := hl.2 2 _ rfl
  clear hl
  go_enter Tryd.func71, Tryd.ntmps71
  go_wp2
  go_rounds 4
  go_ret
  exact ⟨rfl, rfl⟩
theorem mark3 (g : Nat) (x1 x2 x3 : Int) (w : World) (hl : IntsAt w g [x1, x2, x3]) (hf : ∀ j, w.frozen? ⟨g, j, none⟩ = false) :
    Calls Tryd.prog 39 #[.slice (some ⟨g, 0, none⟩) 3 3, .int .i64 1] w fun e w' => e = .returned (.int .i64 4) ∧ w' = ((w.setCell ⟨g, 0, none⟩ (.int .i64 1)).setCell ⟨g, 1, none⟩ (.int .i64 2)).setCell ⟨g, 2, none⟩ (.int .i64 3) := by
  have h0 := hl.2 0 _ rfl
  have h1 := hl.2 1 _ rfl
  have h2 := hl.2 2 _ rfl
  clear hl
  go_enter Tryd.func39, Tryd.ntmps39
  go_wp2
  go_rounds 4
  go_ret
  exact ⟨rfl, rfl⟩
/-- But for one block nothing has turned. -/
structure OnlyBlk (g : Nat) (w w' : World) : Prop where
  os : w'.os = w.os
  tape : w'.tape = w.tape
  output : w'.output = w.output
  size : w'.heap.size = w.heap.size
  block : ∀ k, k ≠ g → w'.heap[k]? = w.heap[k]?
theorem OnlyBlk.refl (g : Nat) (w : World) : OnlyBlk g w w := ⟨rfl, rfl, rfl, rfl, fun _ _ => rfl⟩
theorem OnlyBlk.setCell {g : Nat} {w w' : World} (h : OnlyBlk g w w') (j : Nat) (u : Value) : OnlyBlk g w (w'.setCell ⟨g, j, none⟩ u) :=
  ⟨h.os, h.tape, h.output, by simp [h.size], fun k hk => by rw [Below.heap_setCell _ _ _ _ hk]; exact h.block k hk⟩
theorem OnlyBlk.below {g B : Nat} {w w' : World} (h : OnlyBlk g w w') (hB : B ≤ g) : Below B w w' :=
  ⟨h.os, h.tape, h.output, by rw [h.size]; exact Nat.le_refl _, fun k hk => h.block k (by omega)⟩
theorem OnlyBlk.ints {g b : Nat} {w w' : World} {xs : List Int} (h : OnlyBlk g w w') (hb : b ≠ g) (hl : IntsAt w b xs) : IntsAt w' b xs := by
  refine ⟨by rw [h.size]; exact hl.1, fun i x hx => ?_⟩
  have e : w'.cell? ⟨b, i, none⟩ = w.cell? ⟨b, i, none⟩ := by simp [World.cell?, h.block b hb]
  rw [e]; exact hl.2 i x hx
/-- A block of things that may be written. -/
def Blk (w : World) (g n : Nat) : Prop := ∃ cur : Array Value, w.heap[g]? = some (.cells cur 71 (0, 0)) ∧ cur.size = n * 7
theorem Blk.setCell {w : World} {g n : Nat} (h : Blk w g n) (j : Nat) (u : Value) : Blk (w.setCell ⟨g, j, none⟩ u) g n := by
  obtain ⟨cur, h1, h2⟩ := h
  exact ⟨_, heap_setCell_same w g j cur 71 u h1, by simpa using h2⟩
theorem Blk.frozen {w : World} {g n : Nat} (h : Blk w g n) (j : Nat) : w.frozen? ⟨g, j, none⟩ = false := by
  obtain ⟨cur, h1, _⟩ := h
  simp [World.frozen?, h1]
theorem Blk.cell {w : World} {g n : Nat} (h : Blk w g n) (j : Nat) (hj : j < n * 7) : ∃ u, w.cell? ⟨g, j, none⟩ = some u := by
  obtain ⟨cur, h1, h2⟩ := h
  exact ⟨cur[j]'(by omega), by simp [World.cell?, h1]⟩

set_option maxHeartbeats 2000000 in
theorem markOpS_any (g n cap : Nat) (w : World) (hl : Blk w g n) (hn : n ≤ 1048576) (hcap : n ≤ cap) :
    Calls Tryd.prog 18 #[.slice (some ⟨g, 0, none⟩) n cap, .int .i64 1] w fun e w' => e = .returned (.int .i64 (1 + 7 * n)) ∧ OnlyBlk g w w' := by
  have HL := hideIt hl
  clear hl
  go_enter Tryd.func18, Tryd.ntmps18
  go_wp2
  go_loopw [1, 5] (fun m i wr => ∃ k : Nat, k ≤ n ∧ i = .int .i64 k ∧ m = .int .i64 (1 + 7 * k) ∧ Blk wr g n ∧ OnlyBlk g w wr)
    (fun _ i _ => n - (intOf i).toNat)
  case atStart => exact ⟨0, Nat.zero_le _, rfl, rfl, HL.out, OnlyBlk.refl _ _⟩
  case round =>
    obtain ⟨k, hk, rfl, rfl, hb, ho⟩ := hrel
    have HBK := hideIt hb
    have HO := hideIt ho
    clear ho
    by_cases hlt : k < n
    · have hfz : ∀ j, wr.frozen? ⟨g, j, none⟩ = false := fun j => hb.frozen j
      obtain ⟨u0, e0⟩ := hb.cell (k * 7) (by omega)
      obtain ⟨v1, e1⟩ := hb.cell (k * 7 + 1) (by omega)
      obtain ⟨v2, e2⟩ := hb.cell (k * 7 + 2) (by omega)
      obtain ⟨v3, e3⟩ := hb.cell (k * 7 + 3) (by omega)
      obtain ⟨v4, e4⟩ := hb.cell (k * 7 + 4) (by omega)
      obtain ⟨v5, e5⟩ := hb.cell (k * 7 + 5) (by omega)
      obtain ⟨v6, e6⟩ := hb.cell (k * 7 + 6) (by omega)
      have hlt' : (k : Int) < (n : Int) := by omega
      have hk0 : (0 : Int) ≤ (k : Int) := by omega
      clear hb
      go_wp2
      exact ⟨⟨k + 1, by omega, by go_num, by go_num, ((((((HBK.out.setCell _ _).setCell _ _).setCell _ _).setCell _ _).setCell _ _).setCell _ _).setCell _ _, ((((((HO.out.setCell _ _).setCell _ _).setCell _ _).setCell _ _).setCell _ _).setCell _ _).setCell _ _⟩, by simp [intOf]; omega⟩
    · obtain rfl : k = n := by omega
      clear hb
      go_wp2
      go_ret
      exact ⟨rfl, HO.out⟩
end Go.Proofs.YtficnhlkefpfnaaDoor

namespace Go.Proofs.YtficnhlkefpfnaaDoor
open Go.RowKit
set_option linter.unusedSimpArgs false
set_option linter.unusedVariables false

/-- Numbers that came in, from an offset on. -/
def NumsAt (w : World) (b off : Nat) (xs : List Int) : Prop := b < w.heap.size ∧ ∀ (i : Nat) (x : Int), xs[i]? = some x → w.cell? ⟨b, off + i, none⟩ = some (.int .i64 x)
theorem NumsAt.below {w w' : World} {g off B : Nat} {l : List Int} (h : NumsAt w g off l) (hb : Below B w w') (hB : g < B) : NumsAt w' g off l :=
  ⟨Nat.lt_of_lt_of_le h.1 hb.size, fun i x hx => (hb.cell (p := ⟨g, _, none⟩) hB).trans (h.2 i x hx)⟩
def ArgInts (w : World) (p : Option Addr) (l : List Int) : Prop := l = [] ∨ ∃ b off, p = some ⟨b, off, none⟩ ∧ NumsAt w b off l
theorem ArgInts.below {w w' : World} {p : Option Addr} {l : List Int} (h : ArgInts w p l) (hb : Below w.heap.size w w') : ArgInts w' p l := by
  rcases h with h | ⟨b, off, h1, h2⟩
  · exact .inl h
  · exact .inr ⟨b, off, h1, h2.below hb h2.1⟩
/-- A block of numbers that may be written; the first k are there already. -/
def IFill (w : World) (B k : Nat) (l : List Int) : Prop := ∃ cur : Array Value, w.heap[B]? = some (.cells cur 3 (0, 0)) ∧ cur.size = l.length ∧ ∀ (i : Nat) (x : Int), l[i]? = some x → i < k → cur[i]? = some (.int .i64 x)
def IBlk (w : World) (g n : Nat) : Prop := ∃ cur : Array Value, w.heap[g]? = some (.cells cur 3 (0, 0)) ∧ cur.size = n
theorem IFill.blk {w : World} {g k : Nat} {l : List Int} (h : IFill w g k l) : IBlk w g l.length := by
  obtain ⟨cur, h1, h2, _⟩ := h
  exact ⟨cur, h1, h2⟩
theorem IBlk.below {w w' : World} {g n B : Nat} (h : IBlk w g n) (hb : Below B w w') (hB : g < B) : IBlk w' g n := by
  obtain ⟨cur, h1, h2⟩ := h
  exact ⟨cur, (hb.block g hB).trans h1, h2⟩
theorem IBlk.only {w w' : World} {g b n : Nat} (h : IBlk w b n) (ho : OnlyBlk g w w') (hb : b ≠ g) : IBlk w' b n := by
  obtain ⟨cur, h1, h2⟩ := h
  exact ⟨cur, (ho.block b hb).trans h1, h2⟩
theorem IBlk.setCell {w : World} {g n : Nat} (h : IBlk w g n) (j : Nat) (u : Value) : IBlk (w.setCell ⟨g, j, none⟩ u) g n := by
  obtain ⟨cur, h1, h2⟩ := h
  exact ⟨_, heap_setCell_same w g j cur 3 u h1, by simpa using h2⟩
theorem IBlk.frozen {w : World} {g n : Nat} (h : IBlk w g n) (j : Nat) : w.frozen? ⟨g, j, none⟩ = false := by
  obtain ⟨cur, h1, _⟩ := h
  simp [World.frozen?, h1]
theorem IBlk.cell {w : World} {g n : Nat} (h : IBlk w g n) (j : Nat) (hj : j < n) : ∃ u, w.cell? ⟨g, j, none⟩ = some u := by
  obtain ⟨cur, h1, h2⟩ := h
  exact ⟨cur[j]'(by omega), by simp [World.cell?, h1]⟩
theorem IFill.step {w : World} {B k : Nat} {l : List Int} (h : IFill w B k l) (hk : k < l.length) : IFill (w.setCell ⟨B, k, none⟩ (.int .i64 l[k])) B (k + 1) l := by
  obtain ⟨cur, hb, hs, hc⟩ := h
  refine ⟨_, heap_setCell_same w B k cur 3 (.int .i64 l[k]) hb, by simpa using hs, fun i x hx hi => ?_⟩
  rw [Array.getElem?_setIfInBounds]
  by_cases e : k = i
  · subst e
    rw [List.getElem?_eq_getElem hk] at hx
    cases hx
    simp; omega
  · rw [if_neg e]
    exact hc i x hx (by omega)
theorem IFill.below {w w' : World} {B C k : Nat} {l : List Int} (h : IFill w B k l) (hb : Below C w w') (hB : B < C) : IFill w' B k l := by
  obtain ⟨cur, h1, h2, h3⟩ := h
  exact ⟨cur, (hb.block B hB).trans h1, h2, h3⟩
theorem IFill.at {w : World} {B : Nat} {l : List Int} (h : IFill w B l.length l) : IntsAt w B l := by
  obtain ⟨cur, hb, hs, hc⟩ := h
  refine ⟨(Array.getElem?_eq_some_iff.1 hb).1, fun i o ho => ?_⟩
  have hi : i < l.length := (List.getElem?_eq_some_iff.1 ho).1
  rw [cell_of_block hb]
  exact hc i o ho hi

set_option maxHeartbeats 1000000 in
theorem toIntS_some (l : List Int) (b off cap : Nat) (w : World) (hl : NumsAt w b off l) (hn : l.length ≤ 1048576) (hcap : l.length ≤ cap) :
    Calls Tryd.prog 36 #[.slice (some ⟨b, off, none⟩) l.length cap] w fun e w' => e = .returned (.slice (some ⟨w.heap.size, 0, none⟩) l.length l.length) ∧ IFill w' w.heap.size l.length l ∧ Below w.heap.size w w' := by
  obtain ⟨i0, hi, hz0, hz1, hz2⟩ := info_parts infoInt
  go_enter Tryd.func36, Tryd.ntmps36
  go_wp2_with (first
    | (at_make; refine wpList_make_full _ rfl _ _ 33 rfl w.heap.size 3 i0 _ 1 Tryd.underlying33 hi hz0 hz1 .i64 .i64 _ _ l.length rfl rfl rfl rfl (by rw [hz2]; omega) (by unfold maxLen; omega) (Nat.le_refl _) ?_; intro w1 hown hgrow))
  clear hi hz0 hz1 hz2
  have hB1 : Below w.heap.size w w1 := (Below.refl _ _).grown hgrow (Nat.le_refl _) (fun k h => by cases h)
  have hF0 : IFill w1 w.heap.size 0 l := by
    obtain ⟨_, ⟨h, _⟩ | ⟨g, cap', cur, hv, _, hb, _, _, hs, _⟩⟩ := hown
    · cases h
    · simp only [Value.slice.injEq, Option.some.injEq, Addr.mk.injEq] at hv
      obtain ⟨⟨rfl, _⟩, _, rfl⟩ := hv
      exact ⟨cur, hb, by simpa using hs, fun i o _ h => by omega⟩
  clear hown hgrow
  go_loopw [4] (fun i wr => ∃ k : Nat, k ≤ l.length ∧ i = .int .i64 k ∧ IFill wr w.heap.size k l ∧ Below w.heap.size w wr)
    (fun i _ => l.length - (intOf i).toNat)
  case atStart => exact ⟨0, Nat.zero_le _, rfl, hF0, hB1⟩
  case round =>
    obtain ⟨k, hk, rfl, hF, hB⟩ := hrel
    have HB : Hid (Below w.heap.size w wr) := hB
    have HF : Hid (IFill wr w.heap.size k l) := hF
    by_cases hlt : k < l.length
    · have h0 := (hl.below hB hl.1).2 k l[k] (by simp [hlt])
      have hbk := (hl.below hB hl.1).1
      have hBlt : w.heap.size < wr.heap.size := by obtain ⟨cur, hblk, _⟩ := hF; exact (Array.getElem?_eq_some_iff.1 hblk).1
      have hfz : ∀ o, wr.frozen? ⟨w.heap.size, o, none⟩ = false := fun o => hF.blk.frozen o
      obtain ⟨u0, e0⟩ := hF.blk.cell k hlt
      have hlt' : (k : Int) < (l.length : Int) := by omega
      have hk0 : (0 : Int) ≤ (k : Int) := by omega
      have HST := hideIt (HF.out.step hlt)
      generalize l[k] = x at *
      clear hB hF hl hB1 hF0
      go_wp2
      exact ⟨⟨k + 1, by omega, by go_num, HST.out, HB.out.setCell (Nat.le_refl _) _⟩, by simp [intOf]; omega⟩
    · obtain rfl : k = l.length := by omega
      clear hB hF hl hB1 hF0
      go_wp2
      go_ret
      exact ⟨rfl, HF.out, HB.out⟩

set_option maxHeartbeats 1000000 in
theorem toIntS_zero (p : Option Addr) (cap : Nat) (w : World) :
    Calls Tryd.prog 36 #[.slice p 0 cap] w fun e w' => e = .returned (.slice (some ⟨w.heap.size, 0, none⟩) 0 0) ∧ IFill w' w.heap.size 0 [] ∧ Below w.heap.size w w' := by
  obtain ⟨i0, hi, hz0, hz1, hz2⟩ := info_parts infoInt
  go_enter Tryd.func36, Tryd.ntmps36
  go_wp2_with (first
    | (at_make; refine wpList_make_full _ rfl _ _ 33 rfl w.heap.size 3 i0 _ 1 Tryd.underlying33 hi hz0 hz1 .i64 .i64 _ _ 0 rfl rfl rfl rfl (by omega) (by unfold maxLen; omega) (Nat.le_refl _) ?_; intro w1 hown hgrow))
  clear hi hz0 hz1 hz2
  have hB1 : Below w.heap.size w w1 := (Below.refl _ _).grown hgrow (Nat.le_refl _) (fun k h => by cases h)
  have hF0 : IFill w1 w.heap.size 0 [] := by
    obtain ⟨_, ⟨h, _⟩ | ⟨g, cap', cur, hv, _, hb, _, _, hs, _⟩⟩ := hown
    · cases h
    · simp only [Value.slice.injEq, Option.some.injEq, Addr.mk.injEq] at hv
      obtain ⟨⟨rfl, _⟩, _, rfl⟩ := hv
      exact ⟨cur, hb, by simpa using hs, fun i o _ h => by omega⟩
  clear hown hgrow
  refine wp_loop_rounds 1 ?_
  rw [rounds_succ]
  go_wp2
  go_ret
  exact ⟨rfl, hF0, hB1⟩
theorem toIntS_any (l : List Int) (p : Option Addr) (cap : Nat) (w : World) (hl : ArgInts w p l) (hn : l.length ≤ 1048576) (hcap : l.length ≤ cap) :
    Calls Tryd.prog 36 #[.slice p l.length cap] w fun e w' => e = .returned (.slice (some ⟨w.heap.size, 0, none⟩) l.length l.length) ∧ IntsAt w' w.heap.size l ∧ IBlk w' w.heap.size l.length ∧ Below w.heap.size w w' := by
  rcases hl with rfl | ⟨b, off, rfl, hl⟩
  · refine (toIntS_zero p cap w).mono ?_
    rintro e w' ⟨rfl, hF, hB⟩
    exact ⟨rfl, hF.at, hF.blk, hB⟩
  · refine (toIntS_some l b off cap w hl hn hcap).mono ?_
    rintro e w' ⟨rfl, hF, hB⟩
    exact ⟨rfl, hF.at, hF.blk, hB⟩
set_option maxHeartbeats 2000000 in
theorem markIntS_any (g n cap m0 : Nat) (w : World) (hl : IBlk w g n) (hn : n ≤ 1048576) (hcap : n ≤ cap) (hm : m0 ≤ 9437184) :
    Calls Tryd.prog 39 #[.slice (some ⟨g, 0, none⟩) n cap, .int .i64 m0] w fun e w' => e = .returned (.int .i64 ((m0 : Int) + n)) ∧ OnlyBlk g w w' := by
  have HL := hideIt hl
  clear hl
  go_enter Tryd.func39, Tryd.ntmps39
  go_wp2
  go_loopw [1, 5] (fun m i wr => ∃ k : Nat, k ≤ n ∧ i = .int .i64 k ∧ m = .int .i64 ((m0 : Int) + k) ∧ IBlk wr g n ∧ OnlyBlk g w wr)
    (fun _ i _ => n - (intOf i).toNat)
  case atStart => exact ⟨0, Nat.zero_le _, rfl, by simp, HL.out, OnlyBlk.refl _ _⟩
  case round =>
    obtain ⟨k, hk, rfl, rfl, hb, ho⟩ := hrel
    have HBK := hideIt hb
    have HO := hideIt ho
    clear ho
    by_cases hlt : k < n
    · have hfz : ∀ j, wr.frozen? ⟨g, j, none⟩ = false := fun j => hb.frozen j
      obtain ⟨u0, e0⟩ := hb.cell k (by omega)
      have hlt' : (k : Int) < (n : Int) := by omega
      have hk0 : (0 : Int) ≤ (k : Int) := by omega
      clear hb
      go_wp2
      exact ⟨⟨k + 1, by omega, by go_num, by go_num, HBK.out.setCell _ _, HO.out.setCell _ _⟩, by simp [intOf]; omega⟩
    · obtain rfl : k = n := by omega
      clear hb
      go_wp2
      go_ret
      exact ⟨rfl, HO.out⟩
end Go.Proofs.YtficnhlkefpfnaaDoor

namespace Go.Proofs.YtficnhlkefpfnaaDoor
open Go.RowKit
set_option linter.unusedSimpArgs false
set_option linter.unusedVariables false
attribute [local go_sem ↓] Go.wp_at_zero Go.wp_at_succ

/-- What marks leave. -/
def markO (i : Nat) : Op7 := ⟨1 + 7 * (i : Int), 1 + 7 * (i : Int) + 1, 1 + 7 * (i : Int) + 1 + 1, 1 + 7 * (i : Int) + 1 + 1 + 1, 1 + 7 * (i : Int) + 1 + 1 + 1 + 1, 1 + 7 * (i : Int) + 1 + 1 + 1 + 1 + 1, 1 + 7 * (i : Int) + 1 + 1 + 1 + 1 + 1 + 1⟩
def marksO (n : Nat) : List Op7 := (List.range n).map markO
theorem marksO_len (n : Nat) : (marksO n).length = n := by simp [marksO]
theorem marksO_at {n i : Nat} (h : i < n) : (marksO n)[i]? = some (markO i) := by simp [marksO, h]
theorem opRow_cases {w : World} {base : Nat} {v : Value} {n : Nat} {xs : List Value} (h : w.ownsRow base 71 7 v n xs) : (n = 0 ∧ ∃ p c, v = .slice p 0 c) ∨ (0 < n ∧ ∃ g cap, v = .slice (some ⟨g, 0, none⟩) n cap ∧ n ≤ cap ∧ g < w.heap.size ∧ ∀ j, j < n * 7 → w.cell? ⟨g, j, none⟩ = xs[j]?) := by
  rcases Nat.eq_zero_or_pos n with rfl | h0
  · refine .inl ⟨rfl, ?_⟩
    rcases h.2 with ⟨e, _⟩ | ⟨g, cap, cur, e, _⟩
    · exact ⟨_, _, e⟩
    · exact ⟨_, _, e⟩
  · refine .inr ⟨h0, ?_⟩
    have h' := h
    rcases h.2 with ⟨_, e⟩ | ⟨g, cap, cur, e, h1, h2, h3, _⟩
    · omega
    · subst e
      exact ⟨g, cap, rfl, h3, (Array.getElem?_eq_some_iff.1 h2).1, fun j hj => World.ownsRow.cellAt h' j hj⟩

set_option maxHeartbeats 2000000 in
theorem heldOpS_row (v : Value) (n base : Nat) (w : World) (h : w.ownsRow base 71 7 v n (opCells (marksO n))) (hn : n ≤ 1048576) :
    Calls Tryd.prog 19 #[v, .int .i64 1] w fun e w' => e = .returned (.int .i64 (1 + 7 * n)) ∧ Below w.heap.size w w' := by
  rcases opRow_cases h with ⟨rfl, p1, c1, rfl⟩ | ⟨h0, g, cap, rfl, hc, hg, hx⟩
  · go_enter Tryd.func19, Tryd.ntmps19
    go_wp2
    refine wp_loop_rounds 1 ?_
    rw [rounds_succ]
    go_wp2
    go_ret
    exact ⟨rfl, Below.refl _ _⟩
  · have HX := hideIt hx
    clear h hx
    go_enter Tryd.func19, Tryd.ntmps19
    go_wp2
    go_loopw [1, 5] (fun q i wr => ∃ k : Nat, k ≤ n ∧ i = .int .i64 k ∧ q = .int .i64 (1 + 7 * k) ∧ Below w.heap.size w wr)
      (fun _ i _ => n - (intOf i).toNat)
    case atStart => exact ⟨0, Nat.zero_le _, rfl, rfl, by go_grown⟩
    case round =>
      obtain ⟨k, hk, rfl, rfl, hB⟩ := hrel
      have HB : Hid (Below w.heap.size w wr) := hB
      by_cases hlt : k < n
      · obtain ⟨i0, i1, i2, i3, i4, i5, i6⟩ := opCells_at _ k _ (marksO_at hlt)
        have y0 := ((bcell hB).1 g _ hg).trans ((HX.out (k * 7) (by omega)).trans i0)
        have y1 := ((bcell hB).1 g _ hg).trans ((HX.out (k * 7 + 1) (by omega)).trans i1)
        have y2 := ((bcell hB).1 g _ hg).trans ((HX.out (k * 7 + 2) (by omega)).trans i2)
        have y3 := ((bcell hB).1 g _ hg).trans ((HX.out (k * 7 + 3) (by omega)).trans i3)
        have y4 := ((bcell hB).1 g _ hg).trans ((HX.out (k * 7 + 4) (by omega)).trans i4)
        have y5 := ((bcell hB).1 g _ hg).trans ((HX.out (k * 7 + 5) (by omega)).trans i5)
        have y6 := ((bcell hB).1 g _ hg).trans ((HX.out (k * 7 + 6) (by omega)).trans i6)
        simp only [markO] at y0 y1 y2 y3 y4 y5 y6
        have hlt' : (k : Int) < (n : Int) := by omega
        have hk0 : (0 : Int) ≤ (k : Int) := by omega
        clear hB i0 i1 i2 i3 i4 i5 i6
        go_wp2
        exact ⟨⟨k + 1, by omega, by go_num, by go_num, HB.out⟩, by simp [intOf]; omega⟩
      · obtain rfl : k = n := by omega
        clear hB
        go_wp2
        go_ret
        exact ⟨rfl, HB.out⟩

/-- A block of things of which the first k are marked. -/
def MarkO (w : World) (g cap k : Nat) : Prop := ∃ cur : Array Value, w.heap[g]? = some (.cells cur 71 (0, 0)) ∧ cur.size = cap * 7 ∧ ∀ i, i < k → cur[i * 7]? = some (.int .i64 (markO i).a) ∧ cur[i * 7 + 1]? = some (.int .i64 (markO i).b) ∧ cur[i * 7 + 2]? = some (.int .i64 (markO i).k) ∧ cur[i * 7 + 3]? = some (.int .i64 (markO i).c) ∧ cur[i * 7 + 4]? = some (.int .i64 (markO i).d) ∧ cur[i * 7 + 5]? = some (.int .i64 (markO i).s) ∧ cur[i * 7 + 6]? = some (.int .i64 (markO i).g)
theorem MarkO.step {w : World} {g cap k : Nat} (h : MarkO w g cap k) (hk : k < cap) : MarkO (((((((w.setCell ⟨g, k * 7, none⟩ (.int .i64 (markO k).a)).setCell ⟨g, k * 7 + 1, none⟩ (.int .i64 (markO k).b)).setCell ⟨g, k * 7 + 2, none⟩ (.int .i64 (markO k).k)).setCell ⟨g, k * 7 + 3, none⟩ (.int .i64 (markO k).c)).setCell ⟨g, k * 7 + 4, none⟩ (.int .i64 (markO k).d)).setCell ⟨g, k * 7 + 5, none⟩ (.int .i64 (markO k).s)).setCell ⟨g, k * 7 + 6, none⟩ (.int .i64 (markO k).g)) g cap (k + 1) := by
  obtain ⟨cur, hb, hs, hc⟩ := h
  have b0 := heap_setCell_same w g (k * 7) cur 71 (.int .i64 (markO k).a) hb
  have b1 := heap_setCell_same _ g (k * 7 + 1) _ 71 (.int .i64 (markO k).b) b0
  have b2 := heap_setCell_same _ g (k * 7 + 2) _ 71 (.int .i64 (markO k).k) b1
  have b3 := heap_setCell_same _ g (k * 7 + 3) _ 71 (.int .i64 (markO k).c) b2
  have b4 := heap_setCell_same _ g (k * 7 + 4) _ 71 (.int .i64 (markO k).d) b3
  have b5 := heap_setCell_same _ g (k * 7 + 5) _ 71 (.int .i64 (markO k).s) b4
  have b6 := heap_setCell_same _ g (k * 7 + 6) _ 71 (.int .i64 (markO k).g) b5
  refine ⟨_, b6, by simpa using hs, fun i hi => ?_⟩
  rcases Nat.lt_or_ge i k with h1 | h1
  · obtain ⟨c0, c1, c2, c3, c4, c5, c6⟩ := hc i h1
    refine ⟨?_, ?_, ?_, ?_, ?_, ?_, ?_⟩ <;> (simp only [Array.getElem?_setIfInBounds, Array.size_setIfInBounds]; rw [if_neg (by omega), if_neg (by omega), if_neg (by omega), if_neg (by omega), if_neg (by omega), if_neg (by omega), if_neg (by omega)]; assumption)
  · obtain rfl : i = k := by omega
    refine ⟨?_, ?_, ?_, ?_, ?_, ?_, ?_⟩ <;> (simp [Array.getElem?_setIfInBounds]; omega)
theorem MarkO.frozen {w : World} {g cap k : Nat} (h : MarkO w g cap k) (j : Nat) : w.frozen? ⟨g, j, none⟩ = false := by
  obtain ⟨cur, h1, _⟩ := h
  simp [World.frozen?, h1]
theorem MarkO.cell {w : World} {g cap k : Nat} (h : MarkO w g cap k) (j : Nat) (hj : j < cap * 7) : ∃ u, w.cell? ⟨g, j, none⟩ = some u := by
  obtain ⟨cur, h1, h2, _⟩ := h
  exact ⟨cur[j]'(by omega), by simp [World.cell?, h1]⟩
theorem MarkO.row {w : World} {g cap n base : Nat} (h : MarkO w g cap n) (hn : n ≤ cap) (hm : cap ≤ maxLen) (hb : base ≤ g) : w.ownsRow base 71 7 (.slice (some ⟨g, 0, none⟩) n cap) n (opCells (marksO n)) := by
  obtain ⟨cur, h1, h2, h3⟩ := h
  refine ⟨by rw [opCells_len, marksO_len], .inr ⟨g, cap, cur, rfl, hb, h1, hn, hm, h2, ?_⟩⟩
  apply List.ext_getElem?
  intro j
  rcases Nat.lt_or_ge j (n * 7) with hj | hj
  · rw [List.getElem?_take_of_lt hj]
    obtain ⟨c0, c1, c2, c3, c4, c5, c6⟩ := h3 (j / 7) (by omega)
    obtain ⟨d0, d1, d2, d3, d4, d5, d6⟩ := opCells_at (marksO n) (j / 7) _ (marksO_at (by omega))
    have hj7 : j % 7 = 0 ∨ j % 7 = 1 ∨ j % 7 = 2 ∨ j % 7 = 3 ∨ j % 7 = 4 ∨ j % 7 = 5 ∨ j % 7 = 6 := by omega
    rcases hj7 with hm2 | hm2 | hm2 | hm2 | hm2 | hm2 | hm2
    · rw [show j = j / 7 * 7 by omega, d0]; simpa using c0
    · rw [show j = j / 7 * 7 + 1 by omega, d1]; simpa using c1
    · rw [show j = j / 7 * 7 + 2 by omega, d2]; simpa using c2
    · rw [show j = j / 7 * 7 + 3 by omega, d3]; simpa using c3
    · rw [show j = j / 7 * 7 + 4 by omega, d4]; simpa using c4
    · rw [show j = j / 7 * 7 + 5 by omega, d5]; simpa using c5
    · rw [show j = j / 7 * 7 + 6 by omega, d6]; simpa using c6
  · rw [List.getElem?_eq_none (by simp; omega), List.getElem?_eq_none (by rw [opCells_len, marksO_len]; omega)]

set_option maxHeartbeats 2000000 in
theorem markOpS_row (v : Value) (n base : Nat) (xs : List Value) (w : World) (h : w.ownsRow base 71 7 v n xs) (hn : n ≤ 1048576) :
    Calls Tryd.prog 18 #[v, .int .i64 1] w fun e w' => e = .returned (.int .i64 (1 + 7 * n)) ∧ w'.ownsRow base 71 7 v n (opCells (marksO n)) ∧ w.grownBy w' v.ownBlock := by
  rcases Nat.eq_zero_or_pos n with rfl | h0
  · have h' := h
    rcases opRow_cases h with ⟨_, p1, c1, rfl⟩ | ⟨h0, _⟩
    · have HR : Hid (w.ownsRow base 71 7 (.slice p1 0 c1) 0 (opCells (marksO 0))) := by
        obtain ⟨e1, e2⟩ := h'
        have : xs = [] := List.eq_nil_of_length_eq_zero (by simpa using e1)
        subst this
        exact ⟨rfl, e2.imp id (fun ⟨g, cap, cur, a1, a2, a3, a4, a5, a6, _⟩ => ⟨g, cap, cur, a1, a2, a3, a4, a5, a6, by simp [marksO, opCells]⟩)⟩
      clear h h'
      go_enter Tryd.func18, Tryd.ntmps18
      go_wp2
      refine wp_loop_rounds 1 ?_
      rw [rounds_succ]
      go_wp2
      go_ret
      exact ⟨rfl, HR.out, ⟨rfl, rfl, rfl, Nat.le_refl _, fun _ _ _ => rfl⟩⟩
    · omega
  · obtain ⟨g, cap, cur, rfl, hb, hg, hc, hmx, hcs, _⟩ : ∃ g cap cur, v = .slice (some ⟨g, 0, none⟩) n cap ∧ base ≤ g ∧ w.heap[g]? = some (.cells cur 71 (0, 0)) ∧ n ≤ cap ∧ cap ≤ maxLen ∧ cur.size = cap * 7 ∧ cur.toList.take (n * 7) = xs := by
      rcases h.2 with ⟨_, h1⟩ | h1
      · omega
      · exact h1
    have HM0 : Hid (MarkO w g cap 0) := ⟨cur, hg, hcs, fun i hi => by omega⟩
    clear h hg hcs
    go_enter Tryd.func18, Tryd.ntmps18
    go_wp2
    go_loopw [1, 5] (fun q i wr => ∃ k : Nat, k ≤ n ∧ i = .int .i64 k ∧ q = .int .i64 (1 + 7 * k) ∧ MarkO wr g cap k ∧ w.grownBy wr (some g))
      (fun _ i _ => n - (intOf i).toNat)
    case atStart => exact ⟨0, Nat.zero_le _, rfl, rfl, HM0.out, ⟨rfl, rfl, rfl, Nat.le_refl _, fun _ _ _ => rfl⟩⟩
    case round =>
      obtain ⟨k, hk, rfl, rfl, hM, hG⟩ := hrel
      have HM := hideIt hM
      have HG := hideIt hG
      by_cases hlt : k < n
      · have hfz : ∀ j, wr.frozen? ⟨g, j, none⟩ = false := fun j => hM.frozen j
        obtain ⟨v0, e0⟩ := hM.cell (k * 7) (by omega)
        obtain ⟨v1, e1⟩ := hM.cell (k * 7 + 1) (by omega)
        obtain ⟨v2, e2⟩ := hM.cell (k * 7 + 2) (by omega)
        obtain ⟨v3, e3⟩ := hM.cell (k * 7 + 3) (by omega)
        obtain ⟨v4, e4⟩ := hM.cell (k * 7 + 4) (by omega)
        obtain ⟨v5, e5⟩ := hM.cell (k * 7 + 5) (by omega)
        obtain ⟨v6, e6⟩ := hM.cell (k * 7 + 6) (by omega)
        have hlt' : (k : Int) < (n : Int) := by omega
        have hk0 : (0 : Int) ≤ (k : Int) := by omega
        clear hM hG
        go_wp2
        exact ⟨⟨k + 1, by omega, by go_num, by go_num, HM.out.step (by omega), ((((((HG.out.trans (set_cell_grown _ ⟨g, _, none⟩ _)).trans (set_cell_grown _ ⟨g, _, none⟩ _)).trans (set_cell_grown _ ⟨g, _, none⟩ _)).trans (set_cell_grown _ ⟨g, _, none⟩ _)).trans (set_cell_grown _ ⟨g, _, none⟩ _)).trans (set_cell_grown _ ⟨g, _, none⟩ _)).trans (set_cell_grown _ ⟨g, _, none⟩ _)⟩, by simp [intOf]; omega⟩
      · obtain rfl : k = n := by omega
        clear hM hG
        go_wp2
        go_ret
        exact ⟨rfl, HM.out.row hc hmx hb, HG.out⟩
end Go.Proofs.YtficnhlkefpfnaaDoor

namespace Go.Proofs.YtficnhlkefpfnaaDoor
open Go.RowKit
set_option linter.unusedSimpArgs false
set_option linter.unusedVariables false

set_option maxHeartbeats 1000000 in
theorem toOpS_someF (l : List Op7) (b off cap : Nat) (w : World) (hl : LawAt w b off l) (hn : l.length ≤ 1048576) (hcap : l.length ≤ cap) :
    Calls Tryd.prog 15 #[.slice (some ⟨b, off, none⟩) l.length cap] w fun e w' => e = .returned (.slice (some ⟨w.heap.size, 0, none⟩) l.length l.length) ∧ Filled w' w.heap.size l.length l ∧ Below w.heap.size w w' := by
  obtain ⟨i0, hi, hz0, hz1, hz2⟩ := info_parts infoOpT
  go_enter Tryd.func15, Tryd.ntmps15
  go_wp2_with (first
    | (at_make; refine wpList_make_full _ rfl _ _ 24 rfl w.heap.size 71 i0 _ 7 Tryd.underlying24 hi hz0 hz1 .i64 .i64 _ _ l.length rfl rfl rfl rfl (by rw [hz2]; omega) (by unfold maxLen; omega) (Nat.le_refl _) ?_; intro w1 hown hgrow))
  clear hi hz0 hz1 hz2
  have hB1 : Below w.heap.size w w1 := (Below.refl _ _).grown hgrow (Nat.le_refl _) (fun k h => by cases h)
  have hF0 : Filled w1 w.heap.size 0 l := by
    obtain ⟨_, ⟨h, _⟩ | ⟨g, cap', cur, hv, _, hb, _, _, hs, _⟩⟩ := hown
    · cases h
    · simp only [Value.slice.injEq, Option.some.injEq, Addr.mk.injEq] at hv
      obtain ⟨⟨rfl, _⟩, _, rfl⟩ := hv
      exact ⟨cur, hb, hs, fun i o _ h => by omega⟩
  clear hown hgrow
  go_loopw [4] (fun i wr => ∃ k : Nat, k ≤ l.length ∧ i = .int .i64 k ∧ Filled wr w.heap.size k l ∧ Below w.heap.size w wr)
    (fun i _ => l.length - (intOf i).toNat)
  case atStart => exact ⟨0, Nat.zero_le _, rfl, hF0, hB1⟩
  case round =>
    obtain ⟨k, hk, rfl, hF, hB⟩ := hrel
    have HB : Hid (Below w.heap.size w wr) := hB
    have HF : Hid (Filled wr w.heap.size k l) := hF
    by_cases hlt : k < l.length
    · obtain ⟨h0, h1, h2, h3, h4, h5, h6⟩ := (hl.below hB hl.1).2 k l[k] (by simp [hlt])
      have hbk := (hl.below hB hl.1).1
      obtain ⟨cur, hblk, hsz, hcur⟩ := hF
      have hBlt : w.heap.size < wr.heap.size := by
        rcases Nat.lt_or_ge w.heap.size wr.heap.size with h | h
        · exact h
        · simp [Array.getElem?_eq_none h] at hblk
      have hfz : ∀ o, wr.frozen? ⟨w.heap.size, o, none⟩ = false := fun o => frozen_of_block hblk o
      have hex : ∀ j, j < 7 → ∃ u, wr.cell? ⟨w.heap.size, k * 7 + j, none⟩ = some u := fun j hj => by
        rw [cell_of_block hblk]; exact ⟨_, Array.getElem?_eq_getElem (by omega)⟩
      obtain ⟨u0, e0⟩ := hex 0 (by omega)
      obtain ⟨u1, e1⟩ := hex 1 (by omega)
      obtain ⟨u2, e2⟩ := hex 2 (by omega)
      obtain ⟨u3, e3⟩ := hex 3 (by omega)
      obtain ⟨u4', e4⟩ := hex 4 (by omega)
      obtain ⟨u5', e5⟩ := hex 5 (by omega)
      obtain ⟨u6', e6⟩ := hex 6 (by omega)
      simp only [Nat.add_zero] at e0
      have hlt' : (k : Int) < (l.length : Int) := by omega
      have hk0 : (0 : Int) ≤ (k : Int) := by omega
      clear hB hl hblk hsz hcur hex hB1 hF0
      go_wp2_with (first
        | (go_at_call 46; refine (toOp_any _ _ _ _ _ _ _ _).mono ?_; rintro e w2 ⟨rfl, hb2⟩; obtain ⟨hc2, hf2⟩ := bcell hb2; have HB2 : Hid (Below wr.heap.size wr w2) := hb2; clear hb2))
      exact ⟨⟨k + 1, by omega, by go_num, (HF.out.below HB2.out hBlt).step hlt, (((((((Bstep HB.out HB2.out).setCell (Nat.le_refl _) _).setCell (Nat.le_refl _) _).setCell (Nat.le_refl _) _).setCell (Nat.le_refl _) _).setCell (Nat.le_refl _) _).setCell (Nat.le_refl _) _).setCell (Nat.le_refl _) _⟩, by simp [intOf]; omega⟩
    · obtain rfl : k = l.length := by omega
      clear hB hF hl hB1 hF0
      go_wp2
      go_ret
      exact ⟨rfl, HF.out, HB.out⟩

set_option maxHeartbeats 1000000 in
theorem toOpS_zeroF (p : Option Addr) (cap : Nat) (w : World) :
    Calls Tryd.prog 15 #[.slice p 0 cap] w fun e w' => e = .returned (.slice (some ⟨w.heap.size, 0, none⟩) 0 0) ∧ Filled w' w.heap.size 0 [] ∧ Below w.heap.size w w' := by
  obtain ⟨i0, hi, hz0, hz1, hz2⟩ := info_parts infoOpT
  go_enter Tryd.func15, Tryd.ntmps15
  go_wp2_with (first
    | (at_make; refine wpList_make_full _ rfl _ _ 24 rfl w.heap.size 71 i0 _ 7 Tryd.underlying24 hi hz0 hz1 .i64 .i64 _ _ 0 rfl rfl rfl rfl (by omega) (by unfold maxLen; omega) (Nat.le_refl _) ?_; intro w1 hown hgrow))
  clear hi hz0 hz1 hz2
  have hB1 : Below w.heap.size w w1 := (Below.refl _ _).grown hgrow (Nat.le_refl _) (fun k h => by cases h)
  have hF0 : Filled w1 w.heap.size 0 [] := by
    obtain ⟨_, ⟨h, _⟩ | ⟨g, cap', cur, hv, _, hb, _, _, hs, _⟩⟩ := hown
    · cases h
    · simp only [Value.slice.injEq, Option.some.injEq, Addr.mk.injEq] at hv
      obtain ⟨⟨rfl, _⟩, _, rfl⟩ := hv
      exact ⟨cur, hb, by simpa using hs, fun i o _ h => by omega⟩
  clear hown hgrow
  refine wp_loop_rounds 1 ?_
  rw [rounds_succ]
  go_wp2
  go_ret
  exact ⟨rfl, hF0, hB1⟩


theorem Filled.blk {w : World} {g k : Nat} {l : List Op7} (h : Filled w g k l) : Blk w g l.length := by
  obtain ⟨cur, h1, h2, _⟩ := h
  exact ⟨cur, h1, h2⟩
theorem Blk.below {w w' : World} {g n B : Nat} (h : Blk w g n) (hb : Below B w w') (hB : g < B) : Blk w' g n := by
  obtain ⟨cur, h1, h2⟩ := h
  exact ⟨cur, (hb.block g hB).trans h1, h2⟩
theorem toOpS_anyF (l : List Op7) (p : Option Addr) (cap : Nat) (w : World) (hl : ArgOps w p l) (hn : l.length ≤ 1048576) (hcap : l.length ≤ cap) :
    Calls Tryd.prog 15 #[.slice p l.length cap] w fun e w' => e = .returned (.slice (some ⟨w.heap.size, 0, none⟩) l.length l.length) ∧ OpsAt w' w.heap.size l ∧ Blk w' w.heap.size l.length ∧ Below w.heap.size w w' := by
  rcases hl with rfl | ⟨b, off, rfl, hl⟩
  · refine (toOpS_zeroF p cap w).mono ?_
    rintro e w' ⟨rfl, hF, hB⟩
    exact ⟨rfl, hF.at, hF.blk, hB⟩
  · refine (toOpS_someF l b off cap w hl hn hcap).mono ?_
    rintro e w' ⟨rfl, hF, hB⟩
    exact ⟨rfl, hF.at, hF.blk, hB⟩
end Go.Proofs.YtficnhlkefpfnaaDoor

namespace Go.Proofs.YtficnhlkefpfnaaDoor
open Go.RowKit
set_option linter.unusedSimpArgs false
set_option linter.unusedVariables false
attribute [local go_sem ↓] Go.wp_at_zero Go.wp_at_succ

theorem rowBelowO {w w' : World} {b : Nat} {T : TypeId} {m : Nat} {v : Value} {n : Nat} {xs : List Value} (h : w.ownsRow b T m v n xs) (hb : Below w.heap.size w w') : w'.ownsRow b T m v n xs :=
  h.kept (row := none) ⟨hb.os, hb.tape, hb.output, hb.size, fun i hi _ => hb.block i hi⟩ (by cases v.ownBlock <;> simp)
set_option maxHeartbeats 1000000 in
theorem eqOpS_rows (L : List Op7) (v1 v2 : Value) (base1 base2 : Nat) (w : World) (h1 : w.ownsRow base1 71 7 v1 L.length (opCells L)) (h2 : w.ownsRow base2 71 7 v2 L.length (opCells L)) (hn : L.length ≤ 1048576) :
    Calls Tryd.prog 17 #[v1, v2] w fun e w' => e = .returned (.bool true) ∧ Below w.heap.size w w' := by
  rcases opRow_cases h1 with ⟨h0, p1, c1, rfl⟩ | ⟨h0, g1, c1, rfl, hc1, hg1, hx1⟩
  · rcases opRow_cases h2 with ⟨_, p2, c2, rfl⟩ | ⟨h0', _⟩
    · clear h1 h2
      go_enter Tryd.func17, Tryd.ntmps17
      go_wp2
      refine wp_loop_rounds 1 ?_
      rw [rounds_succ]
      go_wp2
      go_ret
      exact ⟨rfl, Below.refl _ _⟩
    · omega
  · rcases opRow_cases h2 with ⟨h0', _⟩ | ⟨_, g2, c2, rfl, hc2, hg2, hx2⟩
    · omega
    · have at1 : OpsAt w g1 L := OwnOps.at (show OwnOps w base1 g1 c1 L from h1)
      have at2 : OpsAt w g2 L := OwnOps.at (show OwnOps w base2 g2 c2 L from h2)
      exact eqOpS_same L g1 g2 c1 c2 w at1 at2 hn hc1 hc2


/-- The specification's answer, the program's, and the blocks X to Z of what was handed in. -/
structure QR (w W : World) (L Lg : List Op7) (vw vg : Value) (X Z : Nat) : Prop where
  rw : W.ownsRow w.heap.size 71 7 vw L.length (opCells L)
  rg : W.ownsRow (Z + 1) 71 7 vg Lg.length (opCells Lg)
  wx : ∀ j, vw.ownBlock = some j → j < X
  xz : w.heap.size ≤ X
  xl : X ≤ Z
  zl : Z < W.heap.size
  bel : Below w.heap.size w W
theorem QR.below {w W W' : World} {L Lg : List Op7} {vw vg : Value} {X Z : Nat} (h : QR w W L Lg vw vg X Z) (hb : Below W.heap.size W W') : QR w W' L Lg vw vg X Z :=
  ⟨rowBelowO h.rw hb, rowBelowO h.rg hb, h.wx, h.xz, h.xl, Nat.lt_of_lt_of_le h.zl hb.size, Bstep h.bel hb⟩
theorem QR.marked {w W W' : World} {L Lg : List Op7} {vw vg : Value} {X Z b : Nat} (h : QR w W L Lg vw vg X Z) (ho : OnlyBlk b W W') (h1 : X ≤ b) (h2 : b ≤ Z) : QR w W' L Lg vw vg X Z := by
  have hx := h.xz
  have hz := h.zl
  have hg : W.grownBy W' (some b) := ⟨ho.os, ho.tape, ho.output, by rw [ho.size]; exact Nat.le_refl _, fun i _ hne => ho.block i (fun e => hne (by rw [e]))⟩
  refine ⟨h.rw.kept hg ?_, h.rg.kept hg ?_, h.wx, hx, h.xl, by rw [ho.size]; exact hz, h.bel.trans (ho.below (by omega))⟩
  · cases hv : vw.ownBlock with
    | none => exact .inl rfl
    | some j => exact .inr fun e => by have := h.wx j hv; have := Option.some.inj e; omega
  · cases hv : vg.ownBlock with
    | none => exact .inl rfl
    | some j => exact .inr fun e => by have := (h.rg.lt j hv).1; have := Option.some.inj e; omega
theorem QR.own {w W W' : World} {L Lg Lg' : List Op7} {vw vg : Value} {X Z : Nat} (h : QR w W L Lg vw vg X Z) (hg : W.grownBy W' vg.ownBlock) (hr : W'.ownsRow (Z + 1) 71 7 vg Lg'.length (opCells Lg')) : QR w W' L Lg' vw vg X Z := by
  have h1 := h.xz
  have h2 := h.xl
  have ge : ∀ j, vg.ownBlock = some j → Z + 1 ≤ j := fun j e => (h.rg.lt j e).1
  refine ⟨h.rw.kept hg ?_, hr, h.wx, h1, h2, Nat.lt_of_lt_of_le h.zl hg.size, below_grown h.bel hg h.bel.size (fun j e => by have := ge j e; omega)⟩
  cases hv : vw.ownBlock with
  | none => exact .inl rfl
  | some j => exact .inr fun e => by have := h.wx j hv; have := ge j e.symm; omega
end Go.Proofs.YtficnhlkefpfnaaDoor

namespace Go.Proofs.YtficnhlkefpfnaaDoor
open Go.RowKit
set_option linter.unusedSimpArgs false
set_option linter.unusedVariables false
attribute [local go_sem ↓] Go.wp_at_zero Go.wp_at_succ

set_option maxRecDepth 100000 in
set_option maxHeartbeats 4000000 in
theorem walkPast (l : List Op7) (p : Option Addr) (cap : Nat) (s : List Int) (q : Option Addr) (cap2 : Nat) (most : Int) (x : Addr) (w : World) (hl : ArgOps w p l) (hcap : l.length ≤ cap) (hmax : cap ≤ maxLen) (hs : ArgInts w q s) (hcap2 : s.length ≤ cap2) (hmax2 : cap2 ≤ maxLen)
    (he : w.cell? ⟨0, 0, none⟩ = some (.iface 200 (.pointer (some x)))) (h0 : 0 < w.heap.size) :
    Calls Tryd.prog 8 #[.slice p l.length cap, .slice q s.length cap2, .int .i64 most] w fun e w' => e = .returned (.bool true) ∧ Below w.heap.size w w' := by
  have HA := hideIt hl
  have HQ := hideIt hs
  clear hl hs
  unfold maxLen at hmax hmax2
  by_cases hn2 : s.length ≤ 1048576
  · by_cases hn : l.length ≤ 1048576
    · have HKL : Hid ((ansP l s most).length ≤ 1048576) := Nat.le_trans (ansP_len l s most) hn
      go_enter Tryd.func8, Tryd.ntmps8
      go_wp2_with (first | (go_at_call 13; refine (sz_small _ _ _ _ hn).mono ?_; rintro e w' ⟨rfl, hw'⟩; rw [hw']; clear hw'))
      refine (toOpS_any l p cap _ HA.out hn hcap).mono ?_
      rintro e w1 ⟨rfl, hA1, hB1⟩
      have HA1 := hideIt hA1
      have HB1 := hideIt hB1
      clear hA1 hB1
      go_wp2_with fail
      refine (toIntS_any s q cap2 _ (HQ.out.below HB1.out) hn2 hcap2).mono ?_
      rintro e w2 ⟨rfl, hI2, -, hB2⟩
      have HI2 := hideIt hI2
      have HA2 := hideIt (HA1.out.below hB2 HA1.out.1)
      have HB2 := hideIt (Bstep HB1.out hB2)
      clear hI2 hB2 HA1 HB1
      go_wp2_with fail
      refine (specPast_any l s most _ _ _ _ _ HA2.out hn (Nat.le_refl _) HI2.out hn2 (Nat.le_refl _)).mono ?_
      rintro e w3 ⟨vw, rfl, hrw, hB3⟩
      have HRW := hideIt (ownsRow_base (b' := w.heap.size) HB2.out.size hrw)
      have HB3 := hideIt (Bstep HB2.out hB3)
      clear hrw hB3 HA2 HI2 HB2
      go_wp2_with fail
      refine (toOpS_anyF l p cap _ (HA.out.below HB3.out) hn hcap).mono ?_
      rintro e w4 ⟨rfl, hA4, hK4, hB4⟩
      have HA4 := hideIt hA4
      have HK4 := hideIt hK4
      have HR4 := hideIt (rowBelowO HRW.out hB4)
      have HWX : Hid (∀ j, vw.ownBlock = some j → j < w3.heap.size) := fun j e => (HRW.out.lt j e).2
      have hX : w.heap.size ≤ w3.heap.size := HB3.out.size
      have HB4 := hideIt (Bstep HB3.out hB4)
      clear hA4 hK4 hB4 HRW HB3
      generalize hXX : w3.heap.size = X at *
      clear hXX
      go_wp2_with fail
      refine (toIntS_any s q cap2 _ (HQ.out.below HB4.out) hn2 hcap2).mono ?_
      rintro e w5 ⟨rfl, hI5, hJ5, hB5⟩
      have HI5 := hideIt hI5
      have HJ5 := hideIt hJ5
      have HA5 := hideIt (HA4.out.below hB5 HA4.out.1)
      have HK5 := hideIt (HK4.out.below hB5 HA4.out.1)
      have HR5 := hideIt (rowBelowO HR4.out hB5)
      have hXZ : X < w4.heap.size := HA4.out.1
      have HB5 := hideIt (Bstep HB4.out hB5)
      clear hI5 hJ5 hB5 HA4 HK4 HR4 HB4
      generalize hZZ : w4.heap.size = Z at *
      clear hZZ
      go_wp2_with fail
      refine (implPast_any l s most _ _ _ _ x _ HA5.out hn (Nat.le_refl _) HI5.out hn2 (Nat.le_refl _) (errB HB5.out h0 he) (posB HB5.out h0)).mono ?_
      rintro e w6 ⟨vg, rfl, hrg, hB6⟩
      have HA6 := hideIt (HA5.out.below hB6 HA5.out.1)
      have HK6 := hideIt (HK5.out.below hB6 HA5.out.1)
      have HI6 := hideIt (HI5.out.below hB6 HI5.out.1)
      have HJ6 := hideIt (HJ5.out.below hB6 HI5.out.1)
      have HW6 : Hid (QR w w6 (ansP l s most) (ansP l s most) vw vg X Z) := ⟨rowBelowO HR5.out hB6, ownsRow_base HI5.out.1 hrg, HWX.out, hX, Nat.le_of_lt hXZ, HI6.out.1, Bstep HB5.out hB6⟩
      clear hrg hB6 HA5 HK5 HI5 HJ5 HR5 HB5
      go_wp2_with fail
      refine (eqOpS_rows (ansP l s most) _ _ _ _ _ HW6.out.rg HW6.out.rw HKL.out).mono ?_
      rintro e w7 ⟨rfl, hB7⟩
      have HA7 := hideIt (HA6.out.below hB7 HA6.out.1)
      have HK7 := hideIt (HK6.out.below hB7 HA6.out.1)
      have HI7 := hideIt (HI6.out.below hB7 HI6.out.1)
      have HJ7 := hideIt (HJ6.out.below hB7 HI6.out.1)
      have HW7 := hideIt (HW6.out.below hB7)
      clear hB7 HA6 HK6 HI6 HJ6 HW6
      go_wp2_with fail
      refine (toOpS_any l p cap _ (HA.out.below HW7.out.bel) hn hcap).mono ?_
      rintro e w8 ⟨rfl, hA8', hB8⟩
      have HA88 := hideIt hA8'
      have HA8 := hideIt (HA7.out.below hB8 HA7.out.1)
      have HK8 := hideIt (HK7.out.below hB8 HA7.out.1)
      have HI8 := hideIt (HI7.out.below hB8 HI7.out.1)
      have HJ8 := hideIt (HJ7.out.below hB8 HI7.out.1)
      have HW8 := hideIt (HW7.out.below hB8)
      clear hA8' hB8 HA7 HK7 HI7 HJ7 HW7
      go_wp2_with fail
      refine (eqOpS_same l _ _ _ _ _ HA8.out HA88.out hn (Nat.le_refl _) (Nat.le_refl _)).mono ?_
      rintro e w9 ⟨rfl, hB9⟩
      have HK9 := hideIt (HK8.out.below hB9 HA8.out.1)
      have hX9 : X < w9.heap.size := Nat.lt_of_lt_of_le HA8.out.1 hB9.size
      have HI9 := hideIt (HI8.out.below hB9 HI8.out.1)
      have HJ9 := hideIt (HJ8.out.below hB9 HI8.out.1)
      have HW9 := hideIt (HW8.out.below hB9)
      clear hB9 HA8 HA88 HK8 HI8 HJ8 HW8
      go_wp2_with fail
      refine (toIntS_any s q cap2 _ (HQ.out.below HW9.out.bel) hn2 hcap2).mono ?_
      rintro e w10 ⟨rfl, hI10, -, hB10⟩
      have HII := hideIt hI10
      have HK10 := hideIt (HK9.out.below hB10 hX9)
      have hX10 : X < w10.heap.size := Nat.lt_of_lt_of_le hX9 hB10.size
      have HI10 := hideIt (HI9.out.below hB10 HI9.out.1)
      have HJ10 := hideIt (HJ9.out.below hB10 HI9.out.1)
      have HW10 := hideIt (HW9.out.below hB10)
      clear hI10 hB10 HK9 HI9 HJ9 HW9
      go_wp2_with fail
      refine (eqIntS_same s _ _ _ _ _ HI10.out HII.out hn2 (Nat.le_refl _) (Nat.le_refl _)).mono ?_
      rintro e w11 ⟨rfl, hB11⟩
      have HK11 := hideIt (HK10.out.below hB11 hX10)
      have HJ11 := hideIt (HJ10.out.below hB11 HI10.out.1)
      have HW11 := hideIt (HW10.out.below hB11)
      clear hB11 HII HK10 HI10 HJ10 HW10 hX9 hX10
      go_wp2_with fail
      refine (markOpS_any X l.length _ _ HK11.out hn (Nat.le_refl _)).mono ?_
      rintro e w12 ⟨rfl, hO12⟩
      have HJ12 := hideIt (HJ11.out.only hO12 (by omega))
      have HW12 := hideIt (HW11.out.marked hO12 (Nat.le_refl _) (by omega))
      clear hO12 HK11 HJ11 HW11
      go_wp2_with fail
      refine (markIntS_any Z s.length _ (1 + 7 * l.length) _ HJ12.out hn2 (Nat.le_refl _) (by omega)).mono ?_
      rintro e w13 ⟨rfl, hO13⟩
      have HW13 := hideIt (HW12.out.marked hO13 (by omega) (Nat.le_refl _))
      clear hO13 HJ12 HW12
      go_wp2_with fail
      refine (eqOpS_rows (ansP l s most) _ _ _ _ _ HW13.out.rg HW13.out.rw HKL.out).mono ?_
      rintro e w14 ⟨rfl, hB14⟩
      have HW14 := hideIt (HW13.out.below hB14)
      clear hB14 HW13
      go_wp2_with fail
      refine (markOpS_row vg (ansP l s most).length _ _ _ HW14.out.rg HKL.out).mono ?_
      rintro e w15 ⟨rfl, hr15, hg15⟩
      have HW15 := hideIt (HW14.out.own (Lg' := marksO (ansP l s most).length) hg15 (by rw [marksO_len]; exact hr15))
      clear hr15 hg15 HW14
      go_wp2_with fail
      refine (heldOpS_row vg (ansP l s most).length _ _ (by have h := HW15.out.rg; rw [marksO_len] at h; exact h) HKL.out).mono ?_
      rintro e w16 ⟨rfl, hB16⟩
      have HW16 := hideIt (HW15.out.below hB16)
      have hkl := HKL.out
      generalize hNN : (ansP l s most).length = N at *
      have HNN := hideIt hNN
      clear hNN hB16 HW15
      go_wp2_with fail
      refine (toOpS_any l p cap _ (HA.out.below HW16.out.bel) hn hcap).mono ?_
      rintro e w17 ⟨rfl, hA17, hB17⟩
      have HA17 := hideIt hA17
      have HW17 := hideIt (HW16.out.below hB17)
      clear hA17 hB17 HW16
      go_wp2_with fail
      refine (toIntS_any s q cap2 _ (HQ.out.below HW17.out.bel) hn2 hcap2).mono ?_
      rintro e w18 ⟨rfl, hI18, -, hB18⟩
      have HI18 := hideIt hI18
      have HA18 := hideIt (HA17.out.below hB18 HA17.out.1)
      have HW18 := hideIt (HW17.out.below hB18)
      clear hI18 hB18 HA17 HW17
      go_wp2_with fail
      refine (implPast_any l s most _ _ _ _ x _ HA18.out hn (Nat.le_refl _) HI18.out hn2 (Nat.le_refl _) (errB HW18.out.bel h0 he) (posB HW18.out.bel h0)).mono ?_
      rintro e w19 ⟨vh, rfl, hrh, hB19⟩
      have HRH := hideIt hrh
      have HW19 := hideIt (HW18.out.below hB19)
      clear hrh hB19 HA18 HI18 HW18
      go_wp2_with fail
      refine (eqOpS_rows (ansP l s most) _ _ _ _ _ HRH.out HW19.out.rw (by rw [HNN.out]; exact hkl)).mono ?_
      rintro e w20 ⟨rfl, hB20⟩
      have HW20 := hideIt (HW19.out.below hB20)
      clear hB20 HRH HW19
      go_wp2_with fail
      refine (heldOpS_row vg N _ _ (by have h := HW20.out.rg; rw [marksO_len] at h; exact h) hkl).mono ?_
      rintro e w21 ⟨rfl, hB21⟩
      have HW21 := hideIt (HW20.out.below hB21)
      clear hB21
      go_wp2
      go_ret
      exact ⟨rfl, HW21.out.bel⟩
    · go_enter Tryd.func8, Tryd.ntmps8
      go_wp2_with (first | (go_at_call 13; refine (sz_big _ _ _ _ (by omega) (by unfold maxLen; omega)).mono ?_; rintro e w' ⟨rfl, hw'⟩; rw [hw']; clear hw'))
      go_ret
      exact ⟨rfl, Below.refl _ _⟩
  · go_enter Tryd.func8, Tryd.ntmps8
    go_wp2
    go_ret
    exact ⟨rfl, Below.refl _ _⟩
end Go.Proofs.YtficnhlkefpfnaaDoor

namespace Go.Proofs.YtficnhlkefpfnaaDoor
open Go.ChangeShapes Go.WideShapes Go.ChangeAt Go.RowKit Go.Joins

set_option maxRecDepth 100000 in
theorem open_idw {H : Type} {enc : TypeId × Value → H} {w : World} {r : Reach} {b0 base : Nat} {spare : Nat → Bool} {held : Bool} {v : Value} {d : DataW H} {p : List MemPlace}
    (hv : Value.okWide Tryd.prog w r b0 65 v) (h : DataW.Trod enc Tryd.prog w base spare held 65 v d p) : ∃ a b, v = .agg #[.int .i64 a, .int .i64 b] ∧ wf64 a ∧ wf64 b := by
  obtain ⟨cs, rfl, _⟩ := okWide_struct Tryd.underlying65 hv
  obtain ⟨fuel, hf⟩ := h
  obtain ⟨y0, y1, n, _, hl, h0, h1⟩ := trod_struct2 Tryd.underlying65 hf
  rw [cells_laws_Id] at hl
  obtain ⟨l⟩ := cs
  simp only [Value.cells] at hl h0 h1
  match l, hl with
  | [c0, c1], _ =>
    simp only [cells_int] at h0 h1
    obtain ⟨a, e0, _, wa⟩ := DataW.trod_int Tryd.underlying3 h0
    obtain ⟨b, e1, _, wb⟩ := DataW.trod_int Tryd.underlying3 h1
    simp at e0 e1
    exact ⟨a, b, by rw [e0, e1], wa, wb⟩
set_option maxRecDepth 100000 in
theorem open_int {H : Type} {enc : TypeId × Value → H} {w : World} {r : Reach} {b0 base : Nat} {spare : Nat → Bool} {held : Bool} {v : Value} {d : DataW H} {p : List MemPlace}
    (hv : Value.okWide Tryd.prog w r b0 3 v) (h : DataW.Trod enc Tryd.prog w base spare held 3 v d p) : ∃ n, v = .int .i64 n ∧ wf64 n := by
  obtain ⟨n, rfl⟩ := okWide_int Tryd.underlying3 hv
  obtain ⟨fuel, hf⟩ := h
  obtain ⟨n', e0, _, wn⟩ := DataW.trod_int Tryd.underlying3 hf
  simp [Value.cells] at e0
  subst e0
  exact ⟨_, rfl, wn⟩
end Go.Proofs.YtficnhlkefpfnaaDoor

namespace Go.Proofs.YtficnhlkefpfnaaDoor
open Go.ChangeShapes Go.WideShapes Go.ChangeAt Go.RowKit Go.Joins


set_option maxRecDepth 100000 in
theorem open_nums {H : Type} {enc : TypeId × Value → H} {w : World} {r : Reach} {b0 : Nat} {spare : Nat → Bool} {held : Bool} {v : Value} {d : DataW H} {p : List MemPlace}
    (hv : Value.okWide Tryd.prog w r b0 33 v) (h : DataW.Trod enc Tryd.prog w 0 spare held 33 v d p) :
    ∃ (q : Option Addr) (l : List Int) (cap : Nat), v = .slice q l.length cap ∧ l.length ≤ cap ∧ cap ≤ maxLen ∧ ArgInts w q l := by
  obtain ⟨q, len, cap, rfl⟩ := okWide_slice Tryd.underlying33 hv
  obtain ⟨fuel, hf⟩ := h
  rcases open_ints Tryd.underlying33 Tryd.underlying3 cells_int hf with ⟨hcs, _⟩ | ⟨a, len', cap', zs, hcs, _, hl, hm, hz, _, hcell, hwz⟩
  · simp [Value.cells] at hcs
    obtain ⟨rfl, rfl, rfl⟩ := hcs
    exact ⟨none, [], 0, rfl, Nat.le_refl _, Nat.zero_le _, .inl rfl⟩
  · simp [Value.cells] at hcs
    obtain ⟨rfl, rfl, rfl⟩ := hcs
    have hlz : len ≤ zs.length := by rw [hz]; split <;> omega
    rcases Nat.eq_zero_or_pos len with h0 | h0
    · subst h0
      exact ⟨some a, [], cap, rfl, hl, hm, .inl rfl⟩
    obtain ⟨b, off, spot⟩ := a
    have hspot : spot = none := by simpa [Addr.add] using World.cell?_spot (hcell 0 (by omega))
    subst hspot
    have hlen : (zs.take len).length = len := by simp; omega
    refine ⟨some ⟨b, off, none⟩, zs.take len, cap, by rw [hlen], by rw [hlen]; exact hl, hm, .inr ⟨b, off, rfl, ?_, fun i x hx => ?_⟩⟩
    · have := World.block_lt_of_cell? w _ (hcell 0 (by omega))
      simpa [Addr.add_lit] using this
    · have hi : i < len := by have := (List.getElem?_eq_some_iff.1 hx).1; omega
      have hc := hcell i (by omega)
      rw [Addr.add_lit] at hc
      have e : zs.getD i 0 = x := by
        rw [List.getElem?_take_of_lt hi] at hx
        simp [List.getD, hx]
      rw [e] at hc
      exact hc
end Go.Proofs.YtficnhlkefpfnaaDoor
