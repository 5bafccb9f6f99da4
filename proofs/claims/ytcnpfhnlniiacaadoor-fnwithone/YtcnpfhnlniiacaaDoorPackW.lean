/- The contract of DrawOpsWith: some list, and some thing. -/
import Derived.Test.YtcnpfhnlniiacaaDoorPackA
import Derived.Test.YtcnpfhnlniiacaaDoorPackC
import Derived.Test.YtcnpfhnlniiacaaDoorPackF
import Derived.Test.YtcnpfhnlniiacaaDoorPackD
namespace Go.Proofs.YtcnpfhnlniiacaaDoor
open Go.RowKit
set_option linter.unusedSimpArgs false
set_option linter.unusedVariables false

set_option maxHeartbeats 1000000 in
theorem implOps_any (l : List Op7) (g cap : Nat) (x : Addr) (w : World) (hl : OpsAt w g l) (hn : l.length ≤ 1048576) (hcap : l.length ≤ cap)
    (he : w.cell? ⟨0, 0, none⟩ = some (.iface 164 (.pointer (some x)))) (h0 : 0 < w.heap.size) :
    Calls Tryd.prog 31 #[.slice (some ⟨g, 0, none⟩) l.length cap] w fun e w' => e = .returned (.bool (thB l)) ∧ Below w.heap.size w w' := by
  have HL := hideIt hl
  clear hl
  go_enter Tryd.func31, Tryd.ntmps31
  go_wp2_with fail
  refine (things_any l g cap x _ HL.out hn hcap he h0).mono ?_
  rintro e w1 ⟨(⟨ht, M, _, rfl, hT⟩ | ⟨ht, rfl⟩), hb1⟩
  all_goals
    have HT := hideIt ht
    have HB1 := hideIt hb1
    have herr1 : w1.cell? ⟨0, 0, none⟩ = some (.iface 164 (.pointer (some x))) := by rw [(bcell hb1).1 _ _ h0]; exact he
    clear ht hb1
  · clear hT
    go_wp2_with (first | (go_at_call 53; refine (is_nil x _).mono ?_; rintro e w'' ⟨rfl, rfl⟩))
    go_ret
    exact ⟨ret_bool HT.out.symm, HB1.out⟩
  · go_wp2_with (first | (go_at_call 53; refine (is_same x _).mono ?_; rintro e w'' ⟨rfl, rfl⟩))
    go_ret
    exact ⟨ret_bool HT.out.symm, HB1.out⟩
end Go.Proofs.YtcnpfhnlniiacaaDoor

namespace Go.Proofs.YtcnpfhnlniiacaaDoor
open Go.RowKit
set_option linter.unusedSimpArgs false
set_option linter.unusedVariables false

theorem OpsAt.cellsTk {w : World} {g : Nat} {l : List Op7} (h : OpsAt w g l) (x : Nat) : ∀ j u, (opCells (l.take x))[j]? = some u → w.cell? ((⟨g, 0, none⟩ : Addr).add j) = some u := fun j u hj => by
  refine h.cells j u ?_
  have e : opCells l = opCells (l.take x) ++ opCells (l.drop x) := by rw [← opCells_app, List.take_append_drop]
  rw [e, List.getElem?_append_left (List.getElem?_eq_some_iff.1 hj).1]
  exact hj
theorem addOff (g o j : Nat) : (⟨g, o, none⟩ : Addr).add j = ⟨g, o + j, none⟩ := by
  unfold Addr.add
  split <;> simp_all
theorem OpsAt.cellsDr {w : World} {g : Nat} {l : List Op7} (h : OpsAt w g l) {x : Nat} (hx : x ≤ l.length) : ∀ j u, (opCells (l.drop x))[j]? = some u → w.cell? ((⟨g, x * 7, none⟩ : Addr).add j) = some u := fun j u hj => by
  have e : opCells l = opCells (l.take x) ++ opCells (l.drop x) := by rw [← opCells_app, List.take_append_drop]
  have h1 := h.cells (x * 7 + j) u (by
    rw [e, List.getElem?_append_right (by rw [opCells_len]; simp; omega)]
    rw [← hj]
    congr 1
    rw [opCells_len]
    simp
    omega)
  rw [add_plain] at h1
  rw [addOff]
  exact h1
end Go.Proofs.YtcnpfhnlniiacaaDoor

namespace Go.Proofs.YtcnpfhnlniiacaaDoor
open Go.RowKit
set_option linter.unusedSimpArgs false
set_option linter.unusedVariables false
attribute [local go_sem ↓] Go.wp_at_zero Go.wp_at_succ

set_option maxRecDepth 100000 in
set_option maxHeartbeats 2000000 in
theorem implLess_any (a b c d : Int) (w : World) :
    Calls Tryd.prog 29 #[.agg #[.int .i64 a, .int .i64 b], .agg #[.int .i64 c, .int .i64 d]] w fun e w' => e = .returned (.bool (decide (a < c ∨ (a = c ∧ b < d)))) ∧ Below w.heap.size w w' := by
  go_enter Tryd.func29, Tryd.ntmps29
  by_cases h2 : a = c
  · subst h2
    go_wp2
    go_ret
    exact ⟨by simp, by go_grown⟩
  · go_wp2
    go_ret
    exact ⟨by simp [h2], by go_grown⟩
/-- With one more, put in at the first that is not ahead of it. -/
def insL (l : List Op7) (o : Op7) : List Op7 := l.takeWhile (fun p => lessB p o) ++ o :: l.dropWhile (fun p => lessB p o)
theorem insL_at {l : List Op7} {o : Op7} {k : Nat} (hk : k ≤ l.length) (h1 : ∀ j (hj : j < l.length), j < k → lessB l[j] o = true) (h2 : k = l.length ∨ ∃ hk : k < l.length, lessB l[k] o = false) : insL l o = l.take k ++ o :: l.drop k := by
  have ht : l.takeWhile (fun p => lessB p o) = l.take k ∧ l.dropWhile (fun p => lessB p o) = l.drop k := by
    clear hk
    induction l generalizing k with
    | nil => simp
    | cons p r ih =>
      rcases k with _ | k
      · rcases h2 with h2 | ⟨_, h2⟩
        · simp at h2
        · simp only [List.getElem_cons_zero] at h2
          simp [List.takeWhile_cons, List.dropWhile_cons, h2]
      · have hp := h1 0 (by simp) (by omega)
        simp only [List.getElem_cons_zero] at hp
        obtain ⟨e1, e2⟩ := ih (k := k) (fun j hj hjk => by have := h1 (j + 1) (by simp; omega) (by omega); simpa using this) (by
          rcases h2 with h2 | ⟨hk, h2⟩
          · left; simpa using h2
          · right; exact ⟨by simpa using hk, by simpa using h2⟩)
        simp [List.takeWhile_cons, List.dropWhile_cons, hp, e1, e2]
  unfold insL
  rw [ht.1, ht.2]
theorem insL_len (l : List Op7) (o : Op7) : (insL l o).length = l.length + 1 := by
  unfold insL
  rw [List.length_append, List.length_cons]
  have := congrArg List.length (List.takeWhile_append_dropWhile (p := fun p => lessB p o) (l := l))
  rw [List.length_append] at this
  omega

theorem srcNil (l : List Op7) (w : World) (a : Addr) : ∀ j u, (opCells (l.drop l.length))[j]? = some u → w.cell? (a.add j) = some u := by
  intro j u hj
  rw [List.drop_length] at hj
  simp [opCells] at hj
theorem ins_row {w : World} {base : Nat} {l : List Op7} {o : Op7} {v : Value} (h : w.ownsRow base 30 7 v (insL l o).length (opCells (insL l o))) : ∃ g c, v = .slice (some ⟨g, 0, none⟩) (insL l o).length c := by
  have h' := h
  rw [insL_len] at h
  obtain ⟨g, c, hv⟩ := ownsRow_succ h
  exact ⟨g, c, by rw [hv, insL_len]⟩

set_option maxRecDepth 100000 in
set_option maxHeartbeats 4000000 in
theorem putIn_any (l : List Op7) (g cap : Nat) (o : Op7) (w : World) (hl : OpsAt w g l) (hn : l.length ≤ 1048576) (hcap : l.length ≤ cap) :
    Calls Tryd.prog 72 #[.slice (some ⟨g, 0, none⟩) l.length cap, .agg #[.int .i64 o.a, .int .i64 o.b, .int .i64 o.k, .int .i64 o.c, .int .i64 o.d, .int .i64 o.s, .int .i64 o.g]] w fun e w' => ∃ G c, e = .returned (.slice (some ⟨G, 0, none⟩) (insL l o).length c) ∧ OwnOps w' w.heap.size G c (insL l o) ∧ Below w.heap.size w w' := by
  have HL := hideIt hl
  have hgw := hl.1
  clear hl
  obtain ⟨i0, hi, hz0', hz1', hz2⟩ := info_parts infoOp
  have HI1 := hideIt hi
  have HZ0 := hideIt hz0'
  have HZ1 := hideIt hz1'
  have HZ2 := hideIt hz2
  clear hi hz0' hz1' hz2
  go_enter Tryd.func72, Tryd.ntmps72
  go_wp2
  have HST : Hid (WL w (w.alloc (.cells #[.int .i64 o.a, .int .i64 o.b, .int .i64 o.k, .int .i64 o.c, .int .i64 o.d, .int .i64 o.s, .int .i64 o.g] 30)) o (.slice none 0 0) []) :=
    ⟨World.ownsRow_nil _ _ _ _, World.alloc_heap_new w _, (Below.refl _ _).alloc (Nat.le_refl _) _⟩
  go_loopw [5] (fun i wr => ∃ k : Nat, k ≤ l.length ∧ i = .int .i64 k ∧ (∀ j (hj : j < l.length), j < k → lessB l[j] o = true) ∧ WL w wr o (.slice none 0 0) [])
    (fun i _ => l.length - (intOf i).toNat)
  case atStart => exact ⟨0, Nat.zero_le _, rfl, fun j hj h => by omega, HST.out⟩
  case round =>
    clear HST
    obtain ⟨k, hk, rfl, hall, hS⟩ := hrel
    have HS := hideIt hS
    have HA := hideIt hall
    have hgr : g < wr.heap.size := Nat.lt_of_lt_of_le hgw hS.bel.size
    have hwr := hS.lt
    clear hS hall
    by_cases hlt : k < l.length
    · obtain ⟨y0, y1, y2, y3, y4, y5, y6⟩ := (HL.out.below HS.out.bel hgw).2 k l[k] (by simp [hlt])
      obtain ⟨b0, b1, b2, b3, b4, b5, b6⟩ := HS.out.id
      have HE : Hid (lessB l[k] o = false → insL l o = l.take k ++ o :: l.drop k) := fun h => insL_at hk HA.out (.inr ⟨hlt, h⟩)
      have HM : Hid (lessB l[k] o = true → ∀ j (hj : j < l.length), j < k + 1 → lessB l[j] o = true) := fun h j hj hjk => by
        rcases Nat.lt_or_ge j k with hh | hh
        · exact HA.out j hj hh
        · obtain rfl : j = k := by omega
          exact h
      generalize l[k] = p at *
      have hlt' : (k : Int) < (l.length : Int) := by omega
      have hk0 : (0 : Int) ≤ (k : Int) := by omega
      cases hz : lessB p o
      all_goals
        have HZ := hideIt hz
        clear hz
        go_wp2
        go_region_held3 (fun w' => w'.cell? ⟨g, k * 7, none⟩ = some (.int .i64 p.a) ∧ w'.cell? ⟨g, k * 7 + 1, none⟩ = some (.int .i64 p.b) ∧ w'.cell? ⟨w.heap.size, 0, none⟩ = some (.int .i64 o.a) ∧ w'.cell? ⟨w.heap.size, 1, none⟩ = some (.int .i64 o.b))
          (first | exact ⟨y0, y1, b0, b1⟩ | exact ⟨((bcell hb2).1 g _ hgr).trans y0, ((bcell hb2).1 g _ hgr).trans y1, ((bcell hb2).1 _ _ hwr).trans b0, ((bcell hb2).1 _ _ hwr).trans b1⟩)
          (first | (go_at_call 29; refine (implLess_any _ _ _ _ _).mono ?_; rintro e w2 ⟨rfl, hb2⟩; have HS2 : Hid (WL w w2 o (.slice none 0 0) []) := (HS.out.below ((Below.refl _ _).drew)).below hb2; rw [show decide (p.a < o.a ∨ p.a = o.a ∧ p.b < o.b) = _ from HZ.out]))
        rename_i hHH
        clear hHH hb2 y0 y1 y2 y3 y4 y5 y6 b0 b1 b2 b3 b4 b5 b6
      · have HEE := hideIt (HE.out HZ.out)
        clear HE HM HA
        have hw1 : IntKind.i64.wrap ((l.length : Int) + 1) = ((l.length + 1 : Nat) : Int) := by rw [IntWalk.i64_in _ ⟨by omega, by omega⟩]; omega
        have hkk : (k : Int) ≤ (cap : Int) := by omega
        have hk0' : (0 : Int) ≤ (k : Int) := by omega
        have hkl : (k : Int) ≤ (l.length : Int) := by omega
        have HLd : Hid ((l.drop k).length = l.length - k) := List.length_drop
        have HLt : Hid ((l.take k).length = k) := (by show (l.take k).length = k; simp; try omega)
        have hkn : k ≤ l.length := by omega
        have haddr : (if cap = k then (some ⟨g, 0, none⟩ : Option Addr) else some ⟨g, k * 7, none⟩) = some ⟨g, if cap = k then 0 else k * 7, none⟩ := by split <;> rfl
        go_wp2_with (first
          | (at_make; refine wpList_make_own _ rfl _ _ 23 rfl (w.heap.size + 1) 30 i0 _ 7 Tryd.underlying23 HI1.out HZ0.out HZ1.out .i64 .i64 _ (l.length + 1) rfl rfl rfl (by rw [HZ2.out]; omega) (by unfold maxLen; omega) HS2.out.lt ?_; intro w3 hown3 hg3; have hb3 : Below w2.heap.size w2 w3 := (Below.refl _ _).grown hg3 (Nat.le_refl _) (fun k h => by cases h); have HS3 : Hid (WL w w3 o (.slice (some ⟨w2.heap.size, 0, none⟩) 0 (l.length + 1)) []) := ⟨hown3, (hb3.block _ HS2.out.lt).trans HS2.out.box, Bstep HS2.out.bel hb3⟩; clear hown3 hg3 hb3)
          | (at_builtin; refine wpList_append_own_at _ rfl _ _ 23 rfl (w.heap.size + 1) 30 i0 _ 7 56 Tryd.underlying23 HI1.out HZ0.out HZ1.out HZ2.out rfl (by decide) _ _ _ rfl HS3.out.row ⟨g, 0, none⟩ k cap (opCells (l.take k)) rfl (by rw [opCells_len, HLt.out]) ((HL.out.below HS3.out.bel hgw).cellsTk k) (opCells_one _) (by (try simp only [List.length_nil]); unfold maxLen; omega) (by (try simp only [List.length_nil]); omega) HS3.out.lt ?_; intro v4 w4 hown4 hg4 _ _; have HS4 := hideIt (WL.app (M := l.take k) HS3.out hg4 (by rw [HLt.out]; exact hown4)); clear hown4 hg4 HS3; have hw4 := HS4.out.lt; obtain ⟨b0, b1, b2, b3, b4, b5, b6⟩ := HS4.out.id)
          | (at_builtin; refine wpList_append_own_at _ rfl _ _ 23 rfl (w.heap.size + 1) 30 i0 _ 7 56 Tryd.underlying23 HI1.out HZ0.out HZ1.out HZ2.out rfl (by decide) _ _ _ rfl (HS4.out.row.alloc _) ⟨w4.heap.size, 0, none⟩ 1 1 (opCells [o]) rfl rfl (cells_new w4 (opCells [o]) 30) (opCells_one _) (by (try simp only [List.length_append, List.length_nil]); rw [HLt.out]; unfold maxLen; omega) (by (try simp only [List.length_append, List.length_nil]); rw [HLt.out]; omega) (by simp; omega) ?_; intro v5 w5 hown5 hg5 _ _; have HS5 := hideIt (WL.app (M := [o]) (HS4.out.below ((Below.refl _ _).alloc (Nat.le_refl _) _)) hg5 hown5); clear hown5 hg5 HS4 hw4 b0 b1 b2 b3 b4 b5 b6; have hw5 := HS5.out.lt)
          | (at_builtin; refine wpList_append_own_at _ rfl _ _ 23 rfl (w.heap.size + 1) 30 i0 _ 7 56 Tryd.underlying23 HI1.out HZ0.out HZ1.out HZ2.out rfl (by decide) _ _ _ rfl HS5.out.row ⟨g, k * 7, none⟩ (l.length - k) (cap - k) (opCells (l.drop k)) rfl (by rw [opCells_len, HLd.out]) ((HL.out.below HS5.out.bel hgw).cellsDr hkn) (opCells_one _) (by (try simp only [List.length_append, List.length_nil, List.length_cons]); rw [HLt.out]; unfold maxLen; omega) (by (try simp only [List.length_append, List.length_nil, List.length_cons]); rw [HLt.out]; omega) (by omega) ?_; intro v6 w6 hown6 hg6 _ _; have HS6 := hideIt (WL.app (M := l.drop k) HS5.out hg6 (by rw [HLd.out]; exact hown6)); clear hown6 hg6 HS5 hw5))
        go_ret
        have hE : [] ++ l.take k ++ [o] ++ l.drop k = insL l o := by rw [HEE.out]; simp
        have hR := HS6.out.row
        rw [hE] at hR
        obtain ⟨gR, cR, rfl⟩ := ins_row hR
        exact ⟨_, _, rfl, ownsRow_base (Nat.le_succ _) hR, HS6.out.bel⟩
      · have HMM := hideIt (HM.out HZ.out)
        go_wp2
        exact ⟨⟨k + 1, by omega, by go_num, HMM.out, HS2.out⟩, by simp [intOf]; omega⟩
    · obtain rfl : k = l.length := by omega
      have HEE : Hid (insL l o = l.take l.length ++ o :: l.drop l.length) := insL_at hk HA.out (.inl rfl)
      go_wp2
      go_quiet (fail)
      generalize hD : World.drewN wr _ = w2
      have HS2 : Hid (WL w w2 o (.slice none 0 0) []) := by show WL w w2 o (.slice none 0 0) []; rw [← hD]; exact HS.out.below (below_drewN (Below.refl _ _) _)
      clear hD
      have hcc : cap = l.length ∨ l.length < cap := by omega
      rcases hcc with hcc | hcc
      · subst hcc
        have hw1 : IntKind.i64.wrap ((l.length : Int) + 1) = ((l.length + 1 : Nat) : Int) := by rw [IntWalk.i64_in _ ⟨by omega, by omega⟩]; omega
        have hkk : (l.length : Int) ≤ (l.length : Int) := by omega
        have hk0' : (0 : Int) ≤ (l.length : Int) := by omega
        have hkl : (l.length : Int) ≤ (l.length : Int) := by omega
        have HLd : Hid ((l.drop l.length).length = 0) := (by show (l.drop l.length).length = 0; simp)
        have HLt : Hid ((l.take l.length).length = l.length) := (by show (l.take l.length).length = l.length; simp; try omega)
        have hkn : l.length ≤ l.length := by omega
        go_wp2_with (first
          | (at_make; refine wpList_make_own _ rfl _ _ 23 rfl (w.heap.size + 1) 30 i0 _ 7 Tryd.underlying23 HI1.out HZ0.out HZ1.out .i64 .i64 _ (l.length + 1) rfl rfl rfl (by rw [HZ2.out]; omega) (by unfold maxLen; omega) HS2.out.lt ?_; intro w3 hown3 hg3; have hb3 : Below w2.heap.size w2 w3 := (Below.refl _ _).grown hg3 (Nat.le_refl _) (fun k h => by cases h); have HS3 : Hid (WL w w3 o (.slice (some ⟨w2.heap.size, 0, none⟩) 0 (l.length + 1)) []) := ⟨hown3, (hb3.block _ HS2.out.lt).trans HS2.out.box, Bstep HS2.out.bel hb3⟩; clear hown3 hg3 hb3)
          | (at_builtin; refine wpList_append_own_at _ rfl _ _ 23 rfl (w.heap.size + 1) 30 i0 _ 7 56 Tryd.underlying23 HI1.out HZ0.out HZ1.out HZ2.out rfl (by decide) _ _ _ rfl HS3.out.row ⟨g, 0, none⟩ l.length l.length (opCells (l.take l.length)) rfl (by rw [opCells_len, HLt.out]) ((HL.out.below HS3.out.bel hgw).cellsTk l.length) (opCells_one _) (by (try simp only [List.length_nil]); unfold maxLen; omega) (by (try simp only [List.length_nil]); omega) HS3.out.lt ?_; intro v4 w4 hown4 hg4 _ _; have HS4 := hideIt (WL.app (M := l.take l.length) HS3.out hg4 (by rw [HLt.out]; exact hown4)); clear hown4 hg4 HS3; have hw4 := HS4.out.lt; obtain ⟨b0, b1, b2, b3, b4, b5, b6⟩ := HS4.out.id)
          | (at_builtin; refine wpList_append_own_at _ rfl _ _ 23 rfl (w.heap.size + 1) 30 i0 _ 7 56 Tryd.underlying23 HI1.out HZ0.out HZ1.out HZ2.out rfl (by decide) _ _ _ rfl (HS4.out.row.alloc _) ⟨w4.heap.size, 0, none⟩ 1 1 (opCells [o]) rfl rfl (cells_new w4 (opCells [o]) 30) (opCells_one _) (by (try simp only [List.length_append, List.length_nil]); rw [HLt.out]; unfold maxLen; omega) (by (try simp only [List.length_append, List.length_nil]); rw [HLt.out]; omega) (by simp; omega) ?_; intro v5 w5 hown5 hg5 _ _; have HS5 := hideIt (WL.app (M := [o]) (HS4.out.below ((Below.refl _ _).alloc (Nat.le_refl _) _)) hg5 hown5); clear hown5 hg5 HS4 hw4 b0 b1 b2 b3 b4 b5 b6; have hw5 := HS5.out.lt)
          | (at_builtin; refine wpList_append_own_at _ rfl _ _ 23 rfl (w.heap.size + 1) 30 i0 _ 7 56 Tryd.underlying23 HI1.out HZ0.out HZ1.out HZ2.out rfl (by decide) _ _ _ rfl HS5.out.row ⟨g, 0, none⟩ 0 0 (opCells (l.drop l.length)) rfl (by rw [opCells_len, HLd.out]) (srcNil l w5 ⟨g, 0, none⟩) (opCells_one _) (by (try simp only [List.length_append, List.length_nil, List.length_cons]); rw [HLt.out]; unfold maxLen; omega) (by (try simp only [List.length_append, List.length_nil, List.length_cons]); rw [HLt.out]; omega) (by omega) ?_; intro v6 w6 hown6 hg6 _ _; have HS6 := hideIt (WL.app (M := l.drop l.length) HS5.out hg6 (by rw [HLd.out]; exact hown6)); clear hown6 hg6 HS5 hw5)
          | (at_builtin; refine wpList_append_own_at _ rfl _ _ 23 rfl (w.heap.size + 1) 30 i0 _ 7 56 Tryd.underlying23 HI1.out HZ0.out HZ1.out HZ2.out rfl (by decide) _ _ _ rfl HS5.out.row ⟨g, l.length * 7, none⟩ 0 (l.length - l.length) (opCells (l.drop l.length)) rfl (by rw [opCells_len, HLd.out]) (srcNil l w5 ⟨g, l.length * 7, none⟩) (opCells_one _) (by (try simp only [List.length_append, List.length_nil, List.length_cons]); rw [HLt.out]; unfold maxLen; omega) (by (try simp only [List.length_append, List.length_nil, List.length_cons]); rw [HLt.out]; omega) (by omega) ?_; intro v6 w6 hown6 hg6 _ _; have HS6 := hideIt (WL.app (M := l.drop l.length) HS5.out hg6 (by rw [HLd.out]; exact hown6)); clear hown6 hg6 HS5 hw5))
        go_ret
        have hE : [] ++ l.take l.length ++ [o] ++ l.drop l.length = insL l o := by rw [HEE.out]; simp
        have hR := HS6.out.row
        rw [hE] at hR
        obtain ⟨gR, cR, rfl⟩ := ins_row hR
        exact ⟨_, _, rfl, ownsRow_base (Nat.le_succ _) hR, HS6.out.bel⟩
      · have hw1 : IntKind.i64.wrap ((l.length : Int) + 1) = ((l.length + 1 : Nat) : Int) := by rw [IntWalk.i64_in _ ⟨by omega, by omega⟩]; omega
        have hkk : (l.length : Int) ≤ (cap : Int) := by omega
        have hk0' : (0 : Int) ≤ (l.length : Int) := by omega
        have hkl : (l.length : Int) ≤ (l.length : Int) := by omega
        have HLd : Hid ((l.drop l.length).length = 0) := (by show (l.drop l.length).length = 0; simp)
        have HLt : Hid ((l.take l.length).length = l.length) := (by show (l.take l.length).length = l.length; simp; try omega)
        have hkn : l.length ≤ l.length := by omega
        go_wp2_with (first
          | (at_make; refine wpList_make_own _ rfl _ _ 23 rfl (w.heap.size + 1) 30 i0 _ 7 Tryd.underlying23 HI1.out HZ0.out HZ1.out .i64 .i64 _ (l.length + 1) rfl rfl rfl (by rw [HZ2.out]; omega) (by unfold maxLen; omega) HS2.out.lt ?_; intro w3 hown3 hg3; have hb3 : Below w2.heap.size w2 w3 := (Below.refl _ _).grown hg3 (Nat.le_refl _) (fun k h => by cases h); have HS3 : Hid (WL w w3 o (.slice (some ⟨w2.heap.size, 0, none⟩) 0 (l.length + 1)) []) := ⟨hown3, (hb3.block _ HS2.out.lt).trans HS2.out.box, Bstep HS2.out.bel hb3⟩; clear hown3 hg3 hb3)
          | (at_builtin; refine wpList_append_own_at _ rfl _ _ 23 rfl (w.heap.size + 1) 30 i0 _ 7 56 Tryd.underlying23 HI1.out HZ0.out HZ1.out HZ2.out rfl (by decide) _ _ _ rfl HS3.out.row ⟨g, 0, none⟩ l.length cap (opCells (l.take l.length)) rfl (by rw [opCells_len, HLt.out]) ((HL.out.below HS3.out.bel hgw).cellsTk l.length) (opCells_one _) (by (try simp only [List.length_nil]); unfold maxLen; omega) (by (try simp only [List.length_nil]); omega) HS3.out.lt ?_; intro v4 w4 hown4 hg4 _ _; have HS4 := hideIt (WL.app (M := l.take l.length) HS3.out hg4 (by rw [HLt.out]; exact hown4)); clear hown4 hg4 HS3; have hw4 := HS4.out.lt; obtain ⟨b0, b1, b2, b3, b4, b5, b6⟩ := HS4.out.id)
          | (at_builtin; refine wpList_append_own_at _ rfl _ _ 23 rfl (w.heap.size + 1) 30 i0 _ 7 56 Tryd.underlying23 HI1.out HZ0.out HZ1.out HZ2.out rfl (by decide) _ _ _ rfl (HS4.out.row.alloc _) ⟨w4.heap.size, 0, none⟩ 1 1 (opCells [o]) rfl rfl (cells_new w4 (opCells [o]) 30) (opCells_one _) (by (try simp only [List.length_append, List.length_nil]); rw [HLt.out]; unfold maxLen; omega) (by (try simp only [List.length_append, List.length_nil]); rw [HLt.out]; omega) (by simp; omega) ?_; intro v5 w5 hown5 hg5 _ _; have HS5 := hideIt (WL.app (M := [o]) (HS4.out.below ((Below.refl _ _).alloc (Nat.le_refl _) _)) hg5 hown5); clear hown5 hg5 HS4 hw4 b0 b1 b2 b3 b4 b5 b6; have hw5 := HS5.out.lt)
          | (at_builtin; refine wpList_append_own_at _ rfl _ _ 23 rfl (w.heap.size + 1) 30 i0 _ 7 56 Tryd.underlying23 HI1.out HZ0.out HZ1.out HZ2.out rfl (by decide) _ _ _ rfl HS5.out.row ⟨g, 0, none⟩ 0 0 (opCells (l.drop l.length)) rfl (by rw [opCells_len, HLd.out]) (srcNil l w5 ⟨g, 0, none⟩) (opCells_one _) (by (try simp only [List.length_append, List.length_nil, List.length_cons]); rw [HLt.out]; unfold maxLen; omega) (by (try simp only [List.length_append, List.length_nil, List.length_cons]); rw [HLt.out]; omega) (by omega) ?_; intro v6 w6 hown6 hg6 _ _; have HS6 := hideIt (WL.app (M := l.drop l.length) HS5.out hg6 (by rw [HLd.out]; exact hown6)); clear hown6 hg6 HS5 hw5)
          | (at_builtin; refine wpList_append_own_at _ rfl _ _ 23 rfl (w.heap.size + 1) 30 i0 _ 7 56 Tryd.underlying23 HI1.out HZ0.out HZ1.out HZ2.out rfl (by decide) _ _ _ rfl HS5.out.row ⟨g, l.length * 7, none⟩ 0 (cap - l.length) (opCells (l.drop l.length)) rfl (by rw [opCells_len, HLd.out]) (srcNil l w5 ⟨g, l.length * 7, none⟩) (opCells_one _) (by (try simp only [List.length_append, List.length_nil, List.length_cons]); rw [HLt.out]; unfold maxLen; omega) (by (try simp only [List.length_append, List.length_nil, List.length_cons]); rw [HLt.out]; omega) (by omega) ?_; intro v6 w6 hown6 hg6 _ _; have HS6 := hideIt (WL.app (M := l.drop l.length) HS5.out hg6 (by rw [HLd.out]; exact hown6)); clear hown6 hg6 HS5 hw5))
        go_ret
        have hE : [] ++ l.take l.length ++ [o] ++ l.drop l.length = insL l o := by rw [HEE.out]; simp
        have hR := HS6.out.row
        rw [hE] at hR
        obtain ⟨gR, cR, rfl⟩ := ins_row hR
        exact ⟨_, _, rfl, ownsRow_base (Nat.le_succ _) hR, HS6.out.bel⟩
end Go.Proofs.YtcnpfhnlniiacaaDoor

namespace Go.Proofs.YtcnpfhnlniiacaaDoor
open Go.RowKit
set_option linter.unusedSimpArgs false
set_option linter.unusedVariables false

theorem flatMap_sub {α β : Type} {f g : α → List β} : ∀ {A B : List α}, A.Sublist B → (∀ a, (f a).Sublist (g a)) → (A.flatMap f).Sublist (B.flatMap g) := by
  intro A B h hf
  induction h with
  | slnil => exact List.Sublist.refl _
  | cons a _ ih => rw [List.flatMap_cons]; exact ih.trans (List.sublist_append_right _ _)
  | cons_cons a _ ih => rw [List.flatMap_cons, List.flatMap_cons]; exact (hf a).append ih
theorem side_sub {l l' : List Op7} (h : l.Sublist l') : ∀ (n n' : Nat), n ≤ n' → ∀ x, (sideO l n x).Sublist (sideO l' n' x) := by
  intro n
  induction n with
  | zero => intro n' _ x; exact List.nil_sublist _
  | succ n ih =>
    intro n' hn x
    obtain ⟨m, rfl⟩ : ∃ m, n' = m + 1 := ⟨n' - 1, by omega⟩
    show ((kidsL l x).flatMap _).Sublist ((kidsL l' x).flatMap _)
    exact flatMap_sub (h.filter _) fun o => (ih m (by omega) _).append ((ih m (by omega) _).cons_cons o)
theorem all_sub {l l' : List Op7} (h : l.Sublist l') : (allO l).Sublist (allO l') := side_sub h _ _ (by have := h.length_le; omega) _
/-- In a row that stands once, what stands in a part of it in order stands so in it. -/
theorem sub_at {α : Type} {A B : List α} (h : A.Sublist B) (hn : B.Nodup) {i j a b : Nat} {p q : α} (hi : A[i]? = some p) (hj : A[j]? = some q) (ha : B[a]? = some p) (hb : B[b]? = some q) (hij : i < j) : a < b := by
  obtain ⟨is, rfl, hp⟩ := List.sublist_eq_map_getElem h
  rw [List.getElem?_map] at hi hj
  obtain ⟨u, hu, rfl⟩ := Option.map_eq_some_iff.1 hi
  obtain ⟨v, hv, rfl⟩ := Option.map_eq_some_iff.1 hj
  have hu' : a = u := (List.getElem?_inj (List.getElem?_eq_some_iff.1 ha).1 hn).1 (ha.trans (by simp))
  have hv' : b = v := (List.getElem?_inj (List.getElem?_eq_some_iff.1 hb).1 hn).1 (hb.trans (by simp))
  obtain ⟨h1, h1'⟩ := List.getElem?_eq_some_iff.1 hu
  obtain ⟨h2, h2'⟩ := List.getElem?_eq_some_iff.1 hv
  have := List.pairwise_iff_getElem.1 hp i j h1 h2 hij
  rw [h1', h2'] at this
  omega
theorem gone_sub {l l' : List Op7} (h : l.Sublist l') {x : Int × Int} (hg : goneB l x = true) : goneB l' x = true := by
  unfold goneB at *
  obtain ⟨o, ho, hb⟩ := List.any_eq_true.1 hg
  exact List.any_eq_true.2 ⟨o, h.mem ho, hb⟩
/-- They stand by their ids. -/
theorem ops_sorted {l : List Op7} (h : opsB l = true) : l.Pairwise fun p q => lessB p q = true := by
  obtain ⟨hok, hord⟩ := opsParts h
  have hnext : ∀ i (h1 : i + 1 < l.length), lessB l[i] l[i + 1] = true := fun i h1 => by
    have := ord_iff.1 hord (i + 1) h1
    rw [step_succ h1] at this
    unfold stepB at this
    have := of_decide_eq_true this
    unfold lessB
    exact decide_eq_true (by omega)
  have htr : ∀ p q r : Op7, lessB p q = true → lessB q r = true → lessB p r = true := fun p q r h1 h2 => by
    unfold lessB at *
    have := of_decide_eq_true h1
    have := of_decide_eq_true h2
    exact decide_eq_true (by omega)
  refine List.pairwise_iff_getElem.2 fun i j hi hj hij => ?_
  obtain ⟨e, rfl⟩ : ∃ e, j = i + 1 + e := ⟨j - i - 1, by omega⟩
  clear hij
  induction e with
  | zero => exact hnext i hj
  | succ e ih => exact htr _ _ _ (ih (by omega)) (hnext (i + 1 + e) (by omega))
theorem withL_split {l : List Op7} (hs : l.Pairwise fun p q => lessB p q = true) {o : Op7} (hno : ∀ p ∈ l, ¬ (p.a = o.a ∧ p.b = o.b)) : ∃ A B, l = A ++ B ∧ withL l o = A ++ o :: B := by
  induction l with
  | nil => exact ⟨[], [], rfl, rfl⟩
  | cons p r ih =>
    obtain ⟨h1, h2⟩ := List.pairwise_cons.1 hs
    obtain ⟨A, B, hr, hw⟩ := ih h2 (fun q hq => hno q (by simp [hq]))
    have hp := hno p (by simp)
    by_cases hl : lessB p o = true
    · refine ⟨p :: A, B, by rw [hr]; rfl, ?_⟩
      have hno' : lessB o p = false := by
        unfold lessB at *
        have := of_decide_eq_true hl
        exact decide_eq_false (by omega)
      have e : withL (p :: r) o = p :: withL r o := by
        unfold withL
        rw [List.filter_cons_of_pos (by simp [hl]), List.filter_cons_of_neg (by simp [hno'])]
        simp
      rw [e, hw]
      rfl
    · have hl' : lessB o p = true := by
        unfold lessB at *
        have := of_decide_eq_false (Bool.eq_false_iff.2 hl)
        exact decide_eq_true (by omega)
      have hall : ∀ q ∈ r, lessB o q = true ∧ lessB q o = false := fun q hq => by
        have := h1 q hq
        unfold lessB at *
        have h3 := of_decide_eq_true this
        have h4 := of_decide_eq_true hl'
        exact ⟨decide_eq_true (by omega), decide_eq_false (by omega)⟩
      refine ⟨[], p :: r, rfl, ?_⟩
      unfold withL
      rw [List.filter_cons_of_neg (by simpa using hl), List.filter_cons_of_pos (by simp [hl']), List.filter_eq_nil_iff.2 (fun q hq => by simp [(hall q hq).2]), List.filter_eq_self.2 (fun q hq => (hall q hq).1)]
      rfl
theorem withL_sub {l : List Op7} (h : opsB l = true) {o : Op7} (hno : ∀ p ∈ l, ¬ (p.a = o.a ∧ p.b = o.b)) : l.Sublist (withL l o) := by
  obtain ⟨A, B, h1, h2⟩ := withL_split (ops_sorted h) hno
  rw [h2]
  conv => lhs; rw [h1]
  exact (List.Sublist.refl A).append (List.sublist_cons_self o B)
end Go.Proofs.YtcnpfhnlniiacaaDoor

namespace Go.Proofs.YtcnpfhnlniiacaaDoor
open Go.RowKit
set_option linter.unusedSimpArgs false
set_option linter.unusedVariables false

/-- Each has the one ahead. -/
def Prev (l : List Op7) : Prop := ∀ p ∈ l, 1 < p.b → ∃ q ∈ l, q.a = p.a ∧ q.b = p.b - 1
theorem ord_prev {l : List Op7} (hok : l.all okO = true) (h : ordB l = true) : Prev l := by
  intro p hp hb
  obtain ⟨i, hi, rfl⟩ := List.getElem_of_mem hp
  have hs := ord_iff.1 h i hi
  have hid := okO_id (all_iff.1 hok i hi)
  rcases i with _ | i
  · rw [step_zero hi] at hs
    have := of_decide_eq_true hs
    omega
  · rw [step_succ hi] at hs
    have := of_decide_eq_true hs
    exact ⟨l[i], List.getElem_mem _, by omega, by omega⟩
theorem sorted_ord {l : List Op7} (hok : l.all okO = true) (hs : l.Pairwise fun p q => lessB p q = true) (hp : Prev l) : ordB l = true := by
  refine ord_iff.2 fun i hi => ?_
  have hid := okO_id (all_iff.1 hok i hi)
  have less : ∀ {j k : Nat} (hj : j < l.length) (hk : k < l.length), j < k → lessB l[j] l[k] = true := fun hj hk h => List.pairwise_iff_getElem.1 hs _ _ hj hk h
  have before : 1 < l[i].b → ∃ j, ∃ hj : j < l.length, j < i ∧ l[j].a = l[i].a ∧ l[j].b = l[i].b - 1 := fun hb => by
    obtain ⟨q, hq, ha, hb'⟩ := hp _ (List.getElem_mem hi) hb
    obtain ⟨j, hj, rfl⟩ := List.getElem_of_mem hq
    refine ⟨j, hj, ?_, ha, hb'⟩
    rcases Nat.lt_trichotomy j i with h | h | h
    · exact h
    · subst h; omega
    · have := less hi hj h
      unfold lessB at this
      have := of_decide_eq_true this
      omega
  rcases i with _ | i
  · rw [step_zero hi]
    by_cases hb : 1 < l[0].b
    · obtain ⟨j, _, h, _⟩ := before hb
      omega
    · exact stepB_true (by omega)
  · rw [step_succ hi]
    have h1 := less (by omega) hi (Nat.lt_succ_self i)
    unfold lessB at h1
    have h1 := of_decide_eq_true h1
    have hid0 := okO_id (all_iff.1 hok i (by omega))
    by_cases hb : 1 < l[i + 1].b
    · obtain ⟨j, hj, hji, ha, hb'⟩ := before hb
      have h2 : j = i ∨ lessB l[j] l[i] = true := by
        rcases Nat.lt_or_ge j i with h | h
        · exact .inr (less hj (by omega) h)
        · exact .inl (by omega)
      rcases h2 with rfl | h2
      · exact stepB_true (by omega)
      · unfold lessB at h2
        have h2 := of_decide_eq_true h2
        exact stepB_true (by omega)
    · exact stepB_true (by omega)
theorem Up.mono {l l' : List Op7} (h : ∀ o ∈ l, o ∈ l') {d : Nat} {x : Int × Int} (hu : Up l d x) : Up l' d x := by
  induction hu with
  | zero => exact .zero
  | step hm hk _ ih => exact .step (h _ hm) hk ih
/-- Those by which one comes from nothing. -/
theorem up_chain {l : List Op7} (hok : l.all okO = true) (h1 : OnceIds l) {d : Nat} {x : Int × Int} (hu : Up l d x) : ∃ c : List Op7, c.length = d ∧ c.Nodup ∧ ∀ o ∈ c, o ∈ l ∧ ∃ e, e ≤ d ∧ Up l e (o.a, o.b) := by
  induction hu with
  | zero => exact ⟨[], rfl, List.nodup_nil, fun o h => by cases h⟩
  | step hm hk hu ih =>
    rename_i d o
    obtain ⟨c, h2, h3, h4⟩ := ih
    refine ⟨o :: c, by simp [h2], List.nodup_cons.2 ⟨fun hc => ?_, h3⟩, fun p hp => ?_⟩
    · obtain ⟨_, e, he, hue⟩ := h4 o hc
      have := up_once hok h1 hue (Up.step hm hk hu)
      omega
    · rcases List.mem_cons.1 hp with rfl | hp
      · exact ⟨hm, d + 1, Nat.le_refl _, .step hm hk hu⟩
      · obtain ⟨h5, e, he, hue⟩ := h4 p hp
        exact ⟨h5, e, by omega, hue⟩
theorem up_len {l : List Op7} (hok : l.all okO = true) (h1 : OnceIds l) {d : Nat} {x : Int × Int} (hu : Up l d x) : d ≤ l.length := by
  obtain ⟨c, h2, h3, h4⟩ := up_chain hok h1 hu
  rw [← h2]
  exact nodup_le _ _ h3 fun o ho => (h4 o ho).1
theorem deep_eq (l : List Op7) (n : Nat) (o : Op7) : deepF l (n + 1) o = if noB o.c o.d = true then true else match nextO l o with | some p => deepF l n p | none => false := rfl
theorem deep_more {l : List Op7} : ∀ (n : Nat) {m : Nat} {o : Op7}, deepF l n o = true → n ≤ m → deepF l m o = true := by
  intro n
  induction n with
  | zero => intro m o h; simp [deepF] at h
  | succ n ih =>
    intro m o h hm
    obtain ⟨k, rfl⟩ : ∃ k, m = k + 1 := ⟨m - 1, by omega⟩
    rw [deep_eq] at h ⊢
    by_cases hno : noB o.c o.d = true
    · rw [if_pos hno]
    · rw [if_neg hno] at h ⊢
      cases hx : nextO l o with
      | none => rw [hx] at h; cases h
      | some p => rw [hx] at h; exact ih h (by omega)
theorem up_deepF {l : List Op7} (hok : l.all okO = true) (h1 : OnceIds l) {d : Nat} {x : Int × Int} (hu : Up l d x) : ∀ o : Op7, x = (o.c, o.d) → deepF l (d + 1) o = true := by
  induction hu with
  | zero =>
    intro o h
    have e1 : o.c = 0 := (congrArg Prod.fst h).symm
    have e2 : o.d = 0 := (congrArg Prod.snd h).symm
    unfold deepF
    rw [if_pos (by unfold noB; exact decide_eq_true ⟨e1, e2⟩)]
  | step hm hk hu ih =>
    rename_i d p
    intro o h
    have e1 : o.c = p.a := (congrArg Prod.fst h).symm
    have e2 : o.d = p.b := (congrArg Prod.snd h).symm
    have hp := op_pos hok hm
    unfold deepF
    rw [if_neg (by unfold noB; simp; omega), nextO_find', e1, e2, find_self h1 hm]
    exact ih p rfl
theorem sorted_once {l : List Op7} (hs : l.Pairwise fun p q => lessB p q = true) : OnceIds l := by
  intro i j o p hi hj ha hb
  obtain ⟨h1, rfl⟩ := List.getElem?_eq_some_iff.1 hi
  obtain ⟨h2, rfl⟩ := List.getElem?_eq_some_iff.1 hj
  rcases Nat.lt_trichotomy i j with h | h | h
  · have := List.pairwise_iff_getElem.1 hs i j h1 h2 h
    unfold lessB at this
    have := of_decide_eq_true this
    omega
  · exact h
  · have := List.pairwise_iff_getElem.1 hs j i h2 h1 h
    unfold lessB at this
    have := of_decide_eq_true this
    omega
/-- In form, in order, each with the one ahead, and each comes to nothing. -/
structure OkL (l : List Op7) : Prop where
  form : ∀ o ∈ l, okO o = true
  sorted : l.Pairwise fun p q => lessB p q = true
  prev : Prev l
  deep : ∀ o ∈ l, ∃ d, Up l d (o.c, o.d)
theorem OkL.of {l : List Op7} (h : opsB l = true) : OkL l :=
  ⟨List.all_eq_true.1 (opsB_all h).1, ops_sorted h, ord_prev (opsB_all h).1 (opsB_all h).2.1, fun o ho => put_up h ho⟩
theorem OkL.ops {l : List Op7} (h : OkL l) : opsB l = true := by
  have hok : l.all okO = true := List.all_eq_true.2 h.form
  have h1 := sorted_once h.sorted
  unfold opsB
  rw [hok, sorted_ord hok h.sorted h.prev]
  have hr : l.all (refsB l) = true := List.all_eq_true.2 fun o ho => by
    obtain ⟨d, hd⟩ := h.deep o ho
    unfold refsB
    rcases up_inv hd with ⟨_, hx⟩ | ⟨e, p, _, hm, hk, _, hx⟩
    · have e1 : o.c = 0 := congrArg Prod.fst hx
      have e2 : o.d = 0 := congrArg Prod.snd hx
      have : noB o.c o.d = true := by unfold noB; exact decide_eq_true ⟨e1, e2⟩
      rw [this]; rfl
    · have e1 : o.c = p.a := congrArg Prod.fst hx
      have e2 : o.d = p.b := congrArg Prod.snd hx
      rw [nextO_find', e1, e2, find_self h1 hm]
      simp [hk]
  have hd : l.all (deepF l (l.length + 1)) = true := List.all_eq_true.2 fun o ho => by
    obtain ⟨d, hd⟩ := h.deep o ho
    exact deep_more (d + 1) (up_deepF hok h1 hd o rfl) (by have := up_len hok h1 hd; omega)
  rw [hr, hd]; rfl
theorem OkL.once {l : List Op7} (h : OkL l) : OnceIds l := sorted_once h.sorted
theorem OkL.ok {l : List Op7} (h : OkL l) : l.all okO = true := List.all_eq_true.2 h.form
/-- What can be done behind what was done. -/
structure CanL (l : List Op7) (o : Op7) : Prop where
  form : okO o = true
  new : ∀ p ∈ l, ¬ (p.a = o.a ∧ p.b = o.b)
  next : 1 < o.b → ∃ q ∈ l, q.a = o.a ∧ q.b = o.b - 1
  ref : ∃ d, Up l d (o.c, o.d)
theorem withL_mem {l : List Op7} (hs : l.Pairwise fun p q => lessB p q = true) {o : Op7} (hno : ∀ p ∈ l, ¬ (p.a = o.a ∧ p.b = o.b)) (x : Op7) : x ∈ withL l o ↔ x = o ∨ x ∈ l := by
  obtain ⟨A, B, h1, h2⟩ := withL_split hs hno
  rw [h2, h1]
  simp only [List.mem_append, List.mem_cons]
  constructor
  · rintro (h | h | h)
    · exact .inr (.inl h)
    · exact .inl h
    · exact .inr (.inr h)
  · rintro (h | h | h)
    · exact .inr (.inl h)
    · exact .inl h
    · exact .inr (.inr h)
theorem withL_sorted {l : List Op7} (hs : l.Pairwise fun p q => lessB p q = true) (o : Op7) : (withL l o).Pairwise fun p q => lessB p q = true := by
  have htr : ∀ p q r : Op7, lessB p q = true → lessB q r = true → lessB p r = true := fun p q r h1 h2 => by
    unfold lessB at *
    have := of_decide_eq_true h1
    have := of_decide_eq_true h2
    exact decide_eq_true (by omega)
  unfold withL
  refine List.pairwise_append.2 ⟨List.pairwise_append.2 ⟨hs.filter _, List.pairwise_singleton _ _, fun p hp q hq => ?_⟩, hs.filter _, fun p hp q hq => ?_⟩
  · obtain rfl := List.mem_singleton.1 hq
    simpa using (List.mem_filter.1 hp).2
  · have hq' : lessB o q = true := by simpa using (List.mem_filter.1 hq).2
    rcases List.mem_append.1 hp with hp | hp
    · exact htr _ _ _ (by simpa using (List.mem_filter.1 hp).2) hq'
    · obtain rfl := List.mem_singleton.1 hp
      exact hq'
theorem CanL.ok {l : List Op7} {o : Op7} (h : OkL l) (hc : CanL l o) : OkL (withL l o) := by
  have hm := withL_mem h.sorted hc.new
  have hsub : ∀ x ∈ l, x ∈ withL l o := fun x hx => (hm x).2 (.inr hx)
  refine ⟨fun x hx => ?_, withL_sorted h.sorted o, fun p hp hb => ?_, fun x hx => ?_⟩
  · rcases (hm x).1 hx with rfl | hx
    · exact hc.form
    · exact h.form x hx
  · rcases (hm p).1 hp with rfl | hp
    · obtain ⟨q, hq, e⟩ := hc.next hb
      exact ⟨q, hsub q hq, e⟩
    · obtain ⟨q, hq, e⟩ := h.prev p hp hb
      exact ⟨q, hsub q hq, e⟩
  · rcases (hm x).1 hx with rfl | hx
    · obtain ⟨d, hd⟩ := hc.ref
      exact ⟨d, hd.mono hsub⟩
    · obtain ⟨d, hd⟩ := h.deep x hx
      exact ⟨d, hd.mono hsub⟩
/-- Just that can be done. -/
theorem can_iff {l : List Op7} {o : Op7} (h : opsB l = true) (hno : ∀ p ∈ l, ¬ (p.a = o.a ∧ p.b = o.b)) : opsB (withL l o) = true ↔ CanL l o := by
  have hL := OkL.of h
  refine ⟨fun hw => ?_, fun hc => (hc.ok hL).ops⟩
  have hW := OkL.of hw
  have hm := withL_mem hL.sorted hno
  have ho : o ∈ withL l o := (hm o).2 (.inl rfl)
  refine ⟨hW.form o ho, hno, fun hb => ?_, ?_⟩
  · obtain ⟨q, hq, e1, e2⟩ := hW.prev o ho hb
    rcases (hm q).1 hq with rfl | hq
    · omega
    · exact ⟨q, hq, e1, e2⟩
  · obtain ⟨d, hd⟩ := hW.deep o ho
    refine ⟨d, ?_⟩
    have key : ∀ {e : Nat} {x : Int × Int}, Up (withL l o) e x → e ≤ d → (∀ f, f < e → True) → Up l e x ∨ ∃ f, f ≤ e ∧ Up (withL l o) f (o.a, o.b) := by
      intro e x hu
      induction hu with
      | zero => intro _ _; exact .inl .zero
      | step hm' hk hu ih =>
        rename_i e p
        intro he _
        rcases (hm p).1 hm' with rfl | hp
        · exact .inr ⟨e + 1, Nat.le_refl _, .step hm' hk hu⟩
        · rcases ih (by omega) (fun _ _ => trivial) with h' | ⟨f, hf, hu'⟩
          · exact .inl (.step hp hk h')
          · exact .inr ⟨f, by omega, hu'⟩
    rcases key hd (Nat.le_refl _) (fun _ _ => trivial) with h' | ⟨f, hf, hu⟩
    · exact h'
    · by_cases hk : o.k = 1
      · have := up_once hW.ok hW.once hu (Up.step ho hk hd)
        omega
      · exfalso
        rcases up_inv hu with ⟨_, hx⟩ | ⟨e, p, _, hm', hk', _, hx⟩
        · have := op_pos hW.ok ho
          have := congrArg Prod.fst hx
          simp at this
          omega
        · have : o = p := once_eq hW.once ho hm' (congrArg Prod.fst hx) (congrArg Prod.snd hx)
          subst this
          exact hk hk'
theorem find_new {l : List Op7} {r m : Int} (h : findI l r m < 0) : ∀ p ∈ l, ¬ (p.a = r ∧ p.b = m) := by
  intro p hp ⟨h1, h2⟩
  unfold findI at h
  cases hf : l.findIdx? (hasId r m) with
  | none =>
    have := List.findIdx?_eq_none_iff.1 hf p hp
    simp [hasId, h1, h2] at this
  | some i => rw [hf] at h; simp only at h; omega
end Go.Proofs.YtcnpfhnlniiacaaDoor

namespace Go.Proofs.YtcnpfhnlniiacaaDoor
open Go.RowKit
set_option linter.unusedSimpArgs false
set_option linter.unusedVariables false
attribute [local go_sem ↓] Go.wp_at_zero Go.wp_at_succ

/-- Something more can be done. -/
def okW (l : List Op7) (o : Op7) : Bool := opsB l && (decide (findI l o.a o.b < 0) && opsB (withL l o))
theorem insL_with {l : List Op7} (hs : l.Pairwise fun p q => lessB p q = true) {o : Op7} (hno : ∀ p ∈ l, ¬ (p.a = o.a ∧ p.b = o.b)) : insL l o = withL l o := by
  induction l with
  | nil => rfl
  | cons p r ih =>
    obtain ⟨h1, h2⟩ := List.pairwise_cons.1 hs
    have ih := ih h2 (fun q hq => hno q (by simp [hq]))
    have hp := hno p (by simp)
    by_cases hl : lessB p o = true
    · have hno' : lessB o p = false := by
        unfold lessB at *
        have := of_decide_eq_true hl
        exact decide_eq_false (by omega)
      have e : withL (p :: r) o = p :: withL r o := by
        unfold withL
        rw [List.filter_cons_of_pos (by simp [hl]), List.filter_cons_of_neg (by simp [hno'])]
        simp
      rw [e, ← ih]
      simp [insL, List.takeWhile_cons, List.dropWhile_cons, hl]
    · have hl' : lessB o p = true := by
        unfold lessB at *
        have := of_decide_eq_false (Bool.eq_false_iff.2 hl)
        exact decide_eq_true (by omega)
      have hall : ∀ q ∈ r, lessB o q = true ∧ lessB q o = false := fun q hq => by
        have := h1 q hq
        unfold lessB at *
        have h3 := of_decide_eq_true this
        have h4 := of_decide_eq_true hl'
        exact ⟨decide_eq_true (by omega), decide_eq_false (by omega)⟩
      have e : withL (p :: r) o = o :: p :: r := by
        unfold withL
        rw [List.filter_cons_of_neg (by simpa using hl), List.filter_cons_of_pos (by simp [hl']), List.filter_eq_nil_iff.2 (fun q hq => by simp [(hall q hq).2]), List.filter_eq_self.2 (fun q hq => (hall q hq).1)]
        rfl
      have hl0 : lessB p o = false := Bool.eq_false_iff.2 hl
      rw [e]
      simp [insL, List.takeWhile_cons, List.dropWhile_cons, hl0]
theorem insL_dup {l : List Op7} {o : Op7} (hf : ¬ findI l o.a o.b < 0) : opsB (insL l o) = false := by
  cases h : opsB (insL l o)
  · rfl
  · exfalso
    have hs := ops_sorted h
    have hp : ∃ p ∈ l, p.a = o.a ∧ p.b = o.b := by
      obtain ⟨k, hk, hkl⟩ : ∃ k : Nat, findI l o.a o.b = k ∧ ∃ hk : k < l.length, hasId o.a o.b l[k] = true := by
        unfold findI at hf ⊢
        cases hx : l.findIdx? (hasId o.a o.b) with
        | none => rw [hx] at hf; simp at hf
        | some i =>
          obtain ⟨h1, h2, _⟩ := List.findIdx?_eq_some_iff_getElem.1 hx
          exact ⟨i, rfl, h1, h2⟩
      obtain ⟨hk', hid⟩ := hkl
      exact ⟨l[k], List.getElem_mem _, by simpa [hasId] using hid⟩
    obtain ⟨p, hp, ha, hb⟩ := hp
    unfold insL at hs
    obtain ⟨_, h2, h3⟩ := List.pairwise_append.1 hs
    have hpm : p ∈ l.takeWhile (fun q => lessB q o) ∨ p ∈ l.dropWhile (fun q => lessB q o) := by
      rw [← List.takeWhile_append_dropWhile (p := fun q => lessB q o) (l := l)] at hp
      exact List.mem_append.1 hp
    have : lessB p o = true ∨ lessB o p = true := by
      rcases hpm with h | h
      · exact .inl (h3 p h o (by simp))
      · exact .inr ((List.pairwise_cons.1 h2).1 p h)
    unfold lessB at this
    rcases this with h | h <;> have := of_decide_eq_true h <;> omega

theorem withL_lenW (l : List Op7) (o : Op7) : (withL l o).length ≤ 2 * l.length + 1 := by
  unfold withL
  have h1 := List.length_filter_le (fun p => lessB p o) l
  have h2 := List.length_filter_le (fun p => lessB o p) l
  simp only [List.length_append, List.length_cons, List.length_nil]
  omega
theorem findI_w1 {l : List Op7} {r m : Int} (h : findI l r m < 0) : findI l r m = -1 := by
  unfold findI at *
  cases hx : l.findIdx? (hasId r m) with
  | none => rfl
  | some i => rw [hx] at h; simp only at h; omega
theorem findI_w0 {l : List Op7} {r m : Int} (h : ¬ findI l r m < 0) : ∃ k : Nat, findI l r m = k := ⟨(findI l r m).toNat, by omega⟩
/-- The answer. -/
def ansW (l : List Op7) (o : Op7) : List Op7 := if okW l o = true then withL l o else []
theorem ansW_yes {l : List Op7} {o : Op7} (h : okW l o = true) : ansW l o = withL l o := by unfold ansW; rw [if_pos h]
theorem ansW_no {l : List Op7} {o : Op7} (h : okW l o = false) : ansW l o = [] := by unfold ansW; rw [h]; rfl

set_option maxRecDepth 100000 in
set_option maxHeartbeats 1000000 in
theorem implWith_any (l : List Op7) (g cap : Nat) (o : Op7) (x : Addr) (w : World) (hl : OpsAt w g l) (hn : l.length ≤ 1048576) (hcap : l.length ≤ cap)
    (he : w.cell? ⟨0, 0, none⟩ = some (.iface 164 (.pointer (some x)))) (h0 : 0 < w.heap.size) :
    Calls Tryd.prog 36 #[.slice (some ⟨g, 0, none⟩) l.length cap, .agg #[.int .i64 o.a, .int .i64 o.b, .int .i64 o.k, .int .i64 o.c, .int .i64 o.d, .int .i64 o.s, .int .i64 o.g]] w fun e w' =>
      ∃ v, e = .returned (.tuple #[v, .bool (okW l o)]) ∧ w'.ownsRow w.heap.size 30 7 v (ansW l o).length (opCells (ansW l o)) ∧ Below w.heap.size w w' := by
  have HL := hideIt hl
  have hgw := hl.1
  clear hl
  have HW : Hid (WL w (w.alloc (.cells #[.int .i64 o.a, .int .i64 o.b, .int .i64 o.k, .int .i64 o.c, .int .i64 o.d, .int .i64 o.s, .int .i64 o.g] 30)) o (.slice none 0 0) []) :=
    ⟨World.ownsRow_nil _ _ _ _, World.alloc_heap_new w _, (Below.refl _ _).alloc (Nat.le_refl _) _⟩
  cases hops : opsB l
  · have hz : okW l o = false := by unfold okW; rw [hops]; rfl
    rw [ansW_no hz, hz]
    clear hz
    have HO := hideIt hops
    clear hops
    go_enter Tryd.func36, Tryd.ntmps36
    go_wp2_with (first
      | (go_at_call 31; refine (implOps_any l g cap x _ (HL.out.below HW.out.bel hgw) hn hcap (errB HW.out.bel h0 he) (posB HW.out.bel h0)).mono ?_; rintro e w1 ⟨rfl, hb1⟩; rw [th_same, HO.out]; have HB := hideIt (HW.out.below hb1).bel; clear hb1))
    exact bodyPost_ret (v := .tuple #[.slice none 0 0, .bool false]) (by simp [results, Tryd.results36, go_sem]) rfl ⟨_, rfl, World.ownsRow_nil _ _ _ _, HB.out⟩
  · have h36 := ops_36 hops
    have HINS : Hid (findI l o.a o.b < 0 → insL l o = withL l o) := fun h2 => insL_with (ops_sorted hops) (find_new h2)
    have HDUP : Hid (¬ findI l o.a o.b < 0 → opsB (insL l o) = false) := insL_dup
    have HOK : Hid (okW l o = (decide (findI l o.a o.b < 0) && opsB (withL l o))) := by show okW l o = _; unfold okW; rw [hops]; rfl
    have HO := hideIt hops
    clear hops
    cases hi : opsB (insL l o)
    · have hz : okW l o = false := by
        rw [HOK.out]
        by_cases hf : findI l o.a o.b < 0
        · rw [← HINS.out hf, hi, Bool.and_false]
        · simp [hf]
      rw [ansW_no hz, hz]
      have HI := hideIt hi
      clear hi hz HOK HINS HDUP
      go_enter Tryd.func36, Tryd.ntmps36
      go_wp2_with fail
      refine (implOps_any l g cap x _ (HL.out.below HW.out.bel hgw) hn hcap (errB HW.out.bel h0 he) (posB HW.out.bel h0)).mono ?_
      rintro e w1 ⟨rfl, hb1⟩
      rw [th_same, HO.out]
      have HW1 := hideIt (HW.out.below hb1)
      have HB := hideIt HW1.out.bel
      obtain ⟨b0, b1, b2, b3, b4, b5, b6⟩ := HW1.out.id
      clear hb1
      go_wp2_with fail
      refine (putIn_any l g cap o _ (HL.out.below HB.out hgw) hn hcap).mono ?_
      rintro e w2 ⟨G, c, rfl, hO2, hb2⟩
      have HO2 := hideIt hO2
      have HB := hideIt (Bstep HB.out hb2)
      clear hO2 hb2
      go_wp2_with fail
      refine (implOps_any (insL l o) G c x _ HO2.out.at (by rw [insL_len]; omega) HO2.out.cap (errB HB.out h0 he) (posB HB.out h0)).mono ?_
      rintro e w3 ⟨rfl, hb3⟩
      rw [th_same, HI.out]
      have HB := hideIt (Bstep HB.out hb3)
      clear hb3
      go_wp2
      exact bodyPost_ret (v := .tuple #[.slice none 0 0, .bool false]) (by simp [results, Tryd.results36, go_sem]) rfl ⟨_, rfl, World.ownsRow_nil _ _ _ _, HB.out⟩
    · have hf : findI l o.a o.b < 0 := by
        rcases Decidable.em (findI l o.a o.b < 0) with h | h
        · exact h
        · rw [HDUP.out h] at hi; cases hi
      have hz : okW l o = true := by rw [HOK.out, ← HINS.out hf, hi]; simp [hf]
      rw [ansW_yes hz, hz, ← HINS.out hf]
      have HI := hideIt hi
      clear hi hz HOK HINS HDUP hf
      go_enter Tryd.func36, Tryd.ntmps36
      go_wp2_with fail
      refine (implOps_any l g cap x _ (HL.out.below HW.out.bel hgw) hn hcap (errB HW.out.bel h0 he) (posB HW.out.bel h0)).mono ?_
      rintro e w1 ⟨rfl, hb1⟩
      rw [th_same, HO.out]
      have HW1 := hideIt (HW.out.below hb1)
      have HB := hideIt HW1.out.bel
      obtain ⟨b0, b1, b2, b3, b4, b5, b6⟩ := HW1.out.id
      clear hb1
      go_wp2_with fail
      refine (putIn_any l g cap o _ (HL.out.below HB.out hgw) hn hcap).mono ?_
      rintro e w2 ⟨G, c, rfl, hO2, hb2⟩
      have HO2 := hideIt (show OwnOps w2 w.heap.size G c (insL l o) from ownsRow_base HB.out.size hO2)
      have HB := hideIt (Bstep HB.out hb2)
      clear hO2 hb2
      go_wp2_with fail
      refine (implOps_any (insL l o) G c x _ HO2.out.at (by rw [insL_len]; omega) HO2.out.cap (errB HB.out h0 he) (posB HB.out h0)).mono ?_
      rintro e w3 ⟨rfl, hb3⟩
      rw [th_same, HI.out]
      have HO3 := hideIt (HO2.out.below hb3)
      have HB := hideIt (Bstep HB.out hb3)
      clear hb3
      go_wp2
      exact bodyPost_ret (v := .tuple #[.slice (some ⟨G, 0, none⟩) (insL l o).length c, .bool true]) (by simp [results, Tryd.results36, go_sem]) rfl ⟨_, rfl, HO3.out, HB.out⟩

set_option maxRecDepth 100000 in
set_option maxHeartbeats 1000000 in
theorem specWith_any (l : List Op7) (g cap : Nat) (o : Op7) (w : World) (hl : OpsAt w g l) (hn : l.length ≤ 1048576) (hcap : l.length ≤ cap) :
    Calls Tryd.prog 35 #[.slice (some ⟨g, 0, none⟩) l.length cap, .agg #[.int .i64 o.a, .int .i64 o.b, .int .i64 o.k, .int .i64 o.c, .int .i64 o.d, .int .i64 o.s, .int .i64 o.g]] w fun e w' =>
      ∃ v, e = .returned (.tuple #[v, .bool (okW l o)]) ∧ w'.ownsRow w.heap.size 30 7 v (ansW l o).length (opCells (ansW l o)) ∧ Below w.heap.size w w' := by
  have HL := hideIt hl
  have hgw := hl.1
  clear hl
  have HW : Hid (WL w (w.alloc (.cells #[.int .i64 o.a, .int .i64 o.b, .int .i64 o.k, .int .i64 o.c, .int .i64 o.d, .int .i64 o.s, .int .i64 o.g] 30)) o (.slice none 0 0) []) :=
    ⟨World.ownsRow_nil _ _ _ _, World.alloc_heap_new w _, (Below.refl _ _).alloc (Nat.le_refl _) _⟩
  cases hops : opsB l
  · have hz : okW l o = false := by unfold okW; rw [hops]; rfl
    rw [ansW_no hz, hz]
    clear hz
    have HO := hideIt hops
    clear hops
    go_enter Tryd.func35, Tryd.ntmps35
    go_wp2_with (first
      | (go_at_call 18; refine (specOps_any l g cap _ (HL.out.below HW.out.bel hgw) hn hcap).mono ?_; rintro e w1 ⟨rfl, hb1⟩; rw [HO.out]; have HB := hideIt (HW.out.below hb1).bel; clear hb1))
    exact bodyPost_ret (v := .tuple #[.slice (some ⟨w1.heap.size, 0, none⟩) 0 0, .bool false]) (by simp [results, Tryd.results35, go_sem]) rfl ⟨_, rfl, World.ownsRow_made (base := w.heap.size) (e := 30) (size := 7) _ #[] 0 HB.out.size (Nat.zero_le _) rfl, HB.out.alloc HB.out.size _⟩
  · have h36 := ops_36 hops
    have HOK : Hid (okW l o = (decide (findI l o.a o.b < 0) && opsB (withL l o))) := by show okW l o = _; unfold okW; rw [hops]; rfl
    have HO := hideIt hops
    clear hops
    by_cases hf : findI l o.a o.b < 0
    · have HF := hideIt (findI_w1 hf)
      cases hi : opsB (withL l o)
      · have hz : okW l o = false := by rw [HOK.out, hi, Bool.and_false]
        rw [ansW_no hz, hz]
        have HI := hideIt hi
        clear hi hz HOK hf
        go_enter Tryd.func35, Tryd.ntmps35
        go_wp2_with fail
        refine (specOps_any l g cap _ (HL.out.below HW.out.bel hgw) hn hcap).mono ?_
        rintro e w1 ⟨rfl, hb1⟩
        rw [HO.out]
        have HW1 := hideIt (HW.out.below hb1)
        obtain ⟨b0, b1, b2, b3, b4, b5, b6⟩ := HW1.out.id
        clear hb1
        go_wp2_with fail
        refine (l1Find_any l _ _ _ _ _ (HL.out.below HW1.out.bel hgw) hn hcap).mono ?_
        rintro e w2 ⟨rfl, hb2⟩
        rw [HF.out]
        have HW2 := hideIt (HW1.out.below hb2)
        clear hb2 b0 b1 b2 b3 b4 b5 b6
        obtain ⟨b0, b1, b2, b3, b4, b5, b6⟩ := HW2.out.id
        go_wp2_with fail
        refine (l3With_any l g cap o _ (HL.out.below HW2.out.bel hgw) hn hcap).mono ?_
        rintro e w3 ⟨G, c, rfl, hO3, hb3⟩
        have HO3 := hideIt (show OwnOps w3 w.heap.size G c (withL l o) from ownsRow_base HW2.out.bel.size hO3)
        have HB := hideIt (Bstep HW2.out.bel hb3)
        clear hO3 hb3
        go_wp2_with fail
        refine (specOps_any (withL l o) G c _ HO3.out.at (by have := withL_lenW l o; omega) HO3.out.cap).mono ?_
        rintro e w4 ⟨rfl, hb4⟩
        rw [HI.out]
        have HO4 := hideIt (HO3.out.below hb4)
        have HB := hideIt (Bstep HB.out hb4)
        clear hb4
        go_wp2
        exact bodyPost_ret (v := .tuple #[.slice (some ⟨w4.heap.size, 0, none⟩) 0 0, .bool false]) (by simp [results, Tryd.results35, go_sem]) rfl ⟨_, rfl, World.ownsRow_made (base := w.heap.size) (e := 30) (size := 7) _ #[] 0 HB.out.size (Nat.zero_le _) rfl, HB.out.alloc HB.out.size _⟩
      · have hz : okW l o = true := by rw [HOK.out, hi]; simp [hf]
        rw [ansW_yes hz, hz]
        have HI := hideIt hi
        clear hi hz HOK hf
        go_enter Tryd.func35, Tryd.ntmps35
        go_wp2_with fail
        refine (specOps_any l g cap _ (HL.out.below HW.out.bel hgw) hn hcap).mono ?_
        rintro e w1 ⟨rfl, hb1⟩
        rw [HO.out]
        have HW1 := hideIt (HW.out.below hb1)
        obtain ⟨b0, b1, b2, b3, b4, b5, b6⟩ := HW1.out.id
        clear hb1
        go_wp2_with fail
        refine (l1Find_any l _ _ _ _ _ (HL.out.below HW1.out.bel hgw) hn hcap).mono ?_
        rintro e w2 ⟨rfl, hb2⟩
        rw [HF.out]
        have HW2 := hideIt (HW1.out.below hb2)
        clear hb2 b0 b1 b2 b3 b4 b5 b6
        obtain ⟨b0, b1, b2, b3, b4, b5, b6⟩ := HW2.out.id
        go_wp2_with fail
        refine (l3With_any l g cap o _ (HL.out.below HW2.out.bel hgw) hn hcap).mono ?_
        rintro e w3 ⟨G, c, rfl, hO3, hb3⟩
        have HO3 := hideIt (show OwnOps w3 w.heap.size G c (withL l o) from ownsRow_base HW2.out.bel.size hO3)
        have HB := hideIt (Bstep HW2.out.bel hb3)
        clear hO3 hb3
        go_wp2_with fail
        refine (specOps_any (withL l o) G c _ HO3.out.at (by have := withL_lenW l o; omega) HO3.out.cap).mono ?_
        rintro e w4 ⟨rfl, hb4⟩
        rw [HI.out]
        have HO4 := hideIt (HO3.out.below hb4)
        have HB := hideIt (Bstep HB.out hb4)
        clear hb4
        go_wp2
        exact bodyPost_ret (v := .tuple #[.slice (some ⟨G, 0, none⟩) (withL l o).length c, .bool true]) (by simp [results, Tryd.results35, go_sem]) rfl ⟨_, rfl, HO4.out, HB.out⟩
    · have hz : okW l o = false := by rw [HOK.out]; simp [hf]
      rw [ansW_no hz, hz]
      obtain ⟨kf, hkf⟩ := findI_w0 hf
      have HF := hideIt hkf
      have hk0 : ¬ (kf : Int) < 0 := by omega
      clear hz HOK hf hkf
      go_enter Tryd.func35, Tryd.ntmps35
      go_wp2_with fail
      refine (specOps_any l g cap _ (HL.out.below HW.out.bel hgw) hn hcap).mono ?_
      rintro e w1 ⟨rfl, hb1⟩
      rw [HO.out]
      have HW1 := hideIt (HW.out.below hb1)
      obtain ⟨b0, b1, b2, b3, b4, b5, b6⟩ := HW1.out.id
      clear hb1
      go_wp2_with fail
      refine (l1Find_any l _ _ _ _ _ (HL.out.below HW1.out.bel hgw) hn hcap).mono ?_
      rintro e w2 ⟨rfl, hb2⟩
      rw [HF.out]
      have HW2 := hideIt (HW1.out.below hb2)
      clear hb2 b0 b1 b2 b3 b4 b5 b6
      obtain ⟨b0, b1, b2, b3, b4, b5, b6⟩ := HW2.out.id
      go_wp2
      have HB := hideIt HW2.out.bel
      exact bodyPost_ret (v := .tuple #[.slice (some ⟨w2.heap.size, 0, none⟩) 0 0, .bool false]) (by simp [results, Tryd.results35, go_sem]) rfl ⟨_, rfl, World.ownsRow_made (base := w.heap.size) (e := 30) (size := 7) _ #[] 0 HB.out.size (Nat.zero_le _) rfl, HB.out.alloc HB.out.size _⟩
end Go.Proofs.YtcnpfhnlniiacaaDoor

namespace Go.Proofs.YtcnpfhnlniiacaaDoor
open Go.RowKit
set_option linter.unusedSimpArgs false
set_option linter.unusedVariables false
attribute [local go_sem ↓] Go.wp_at_zero Go.wp_at_succ

theorem oprow {w : World} {base : Nat} {v : Value} {L : List Op7} (h : w.ownsRow base 30 7 v L.length (opCells L)) : ∃ q c, v = .slice q L.length c ∧ (0 < L.length → ∃ g, q = some ⟨g, 0, none⟩ ∧ L.length ≤ c ∧ base ≤ g ∧ g < w.heap.size ∧ ∀ j, j < L.length * 7 → w.cell? ⟨g, j, none⟩ = (opCells L)[j]?) := by
  rcases h.2 with ⟨e, e0⟩ | ⟨g', c', cur, e, hb, hg, h2, _⟩
  · exact ⟨none, 0, by rw [e, e0], fun h => by omega⟩
  · subst e
    exact ⟨some ⟨g', 0, none⟩, c', rfl, fun _ => ⟨g', rfl, h2, hb, (Array.getElem?_eq_some_iff.1 hg).1, fun j hj => World.ownsRow.cellAt h j hj⟩⟩

set_option maxRecDepth 100000 in
set_option maxHeartbeats 1000000 in
theorem ltOps_rows (L : List Op7) (v1 v2 : Value) (base1 base2 : Nat) (w : World) (h1 : w.ownsRow base1 30 7 v1 L.length (opCells L)) (h2 : w.ownsRow base2 30 7 v2 L.length (opCells L)) (hn : L.length ≤ 1048576) :
    Calls Tryd.prog 37 #[v1, v2] w fun e w' => e = .returned (.bool true) ∧ Below w.heap.size w w' := by
  obtain ⟨q1, c1, rfl, hq1⟩ := oprow h1
  obtain ⟨q2, c2, rfl, hq2⟩ := oprow h2
  have HQ1 := hideIt hq1
  have HQ2 := hideIt hq2
  clear h1 h2 hq1 hq2
  go_enter Tryd.func37, Tryd.ntmps37
  go_wp2
  go_loopw [5] (fun i wr => ∃ k : Nat, k ≤ L.length ∧ i = .int .i64 k ∧ Below w.heap.size w wr) (fun i _ => L.length - (intOf i).toNat)
  case atStart => exact ⟨0, Nat.zero_le _, rfl, by go_grown⟩
  case round =>
    obtain ⟨k, hk, rfl, hB⟩ := hrel
    have HB := hideIt hB
    by_cases hlt : k < L.length
    · obtain ⟨g1, rfl, hc1, hb1, hg1, hx1⟩ := HQ1.out (by omega)
      obtain ⟨g2, rfl, hc2, hb2, hg2, hx2⟩ := HQ2.out (by omega)
      obtain ⟨i0, i1, i2, i3, i4, i5, i6⟩ := opCells_at L k L[k] (by simp [hlt])
      have y0 := ((bcell hB).1 g1 _ hg1).trans ((hx1 (k * 7) (by omega)).trans i0)
      have y1 := ((bcell hB).1 g1 _ hg1).trans ((hx1 (k * 7 + 1) (by omega)).trans i1)
      have y2 := ((bcell hB).1 g1 _ hg1).trans ((hx1 (k * 7 + 2) (by omega)).trans i2)
      have y3 := ((bcell hB).1 g1 _ hg1).trans ((hx1 (k * 7 + 3) (by omega)).trans i3)
      have y4 := ((bcell hB).1 g1 _ hg1).trans ((hx1 (k * 7 + 4) (by omega)).trans i4)
      have y5 := ((bcell hB).1 g1 _ hg1).trans ((hx1 (k * 7 + 5) (by omega)).trans i5)
      have y6 := ((bcell hB).1 g1 _ hg1).trans ((hx1 (k * 7 + 6) (by omega)).trans i6)
      have z0 := ((bcell hB).1 g2 _ hg2).trans ((hx2 (k * 7) (by omega)).trans i0)
      have z1 := ((bcell hB).1 g2 _ hg2).trans ((hx2 (k * 7 + 1) (by omega)).trans i1)
      have z2 := ((bcell hB).1 g2 _ hg2).trans ((hx2 (k * 7 + 2) (by omega)).trans i2)
      have z3 := ((bcell hB).1 g2 _ hg2).trans ((hx2 (k * 7 + 3) (by omega)).trans i3)
      have z4 := ((bcell hB).1 g2 _ hg2).trans ((hx2 (k * 7 + 4) (by omega)).trans i4)
      have z5 := ((bcell hB).1 g2 _ hg2).trans ((hx2 (k * 7 + 5) (by omega)).trans i5)
      have z6 := ((bcell hB).1 g2 _ hg2).trans ((hx2 (k * 7 + 6) (by omega)).trans i6)
      have hlt' : (k : Int) < (L.length : Int) := by omega
      have hk0 : (0 : Int) ≤ (k : Int) := by omega
      generalize L[k] = y at *
      clear hB i0 i1 i2 i3 i4 i5 i6 hx1 hx2
      go_wp2
      go_quiet (fail)
      go_wp2
      exact ⟨⟨k + 1, by omega, by go_num, below_drewN HB.out _⟩, by simp [intOf]; omega⟩
    · clear hB
      go_wp2
      go_ret
      exact ⟨rfl, HB.out⟩

/-- Where the signs of one stand in another one, one behind the other. -/
def Stands (F F' : List Lf) (pos : Nat → Nat) : Prop := ∀ i (hi : i < F.length), ∃ hp : pos i < F'.length, atI F' F[i].a F[i].b = (pos i : Nat) ∧ (F[i].z = true → F'[pos i].z = true) ∧ ∀ j, j < i → pos j < pos i

/-- Where the one ahead stands; -1, if there is none. -/
def lastI (pos : Nat → Nat) : Nat → Int
  | 0 => -1
  | k + 1 => (pos k : Nat)
set_option maxRecDepth 100000 in
set_option maxHeartbeats 1000000 in
theorem ltOrder_any (F F' : List Lf) (pos : Nat → Nat) (hp : Stands F F' pos) (v1 v2 : Value) (base1 base2 : Nat) (w : World) (h1 : w.ownsRow base1 41 4 v1 F.length (lfCells F)) (h2 : w.ownsRow base2 41 4 v2 F'.length (lfCells F')) (hn : F.length ≤ 1048576) (hn' : F'.length ≤ 1048576) :
    Calls Tryd.prog 38 #[v1, v2] w fun e w' => e = .returned (.bool true) ∧ Below w.heap.size w w' := by
  obtain ⟨q1, c1, rfl, hq1⟩ := lf_cases h1
  have HQ1 := hideIt hq1
  have HP := hideIt hp
  have H1 := hideIt h1
  have H2 := hideIt h2
  clear h1 h2 hq1 hp
  go_enter Tryd.func38, Tryd.ntmps38
  go_wp2
  go_loopw [5, 6] (fun lv i wr => ∃ k : Nat, k ≤ F.length ∧ i = .int .i64 k ∧ lv = .int .i64 (lastI pos k) ∧ Below w.heap.size w wr) (fun _ i _ => F.length - (intOf i).toNat)
  case atStart => exact ⟨0, Nat.zero_le _, rfl, rfl, by go_grown⟩
  case round =>
    obtain ⟨k, hk, rfl, rfl, hB⟩ := hrel
    have HB := hideIt hB
    by_cases hlt : k < F.length
    · obtain ⟨g1, rfl, hc1, hb1, hg1, hx1⟩ := HQ1.out (by omega)
      obtain ⟨i0, i1, i2, i3⟩ := lfCells_at F k F[k] (by simp [hlt])
      have y0 := ((bcell hB).1 g1 _ hg1).trans ((hx1 (k * 4) (by omega)).trans i0)
      have y1 := ((bcell hB).1 g1 _ hg1).trans ((hx1 (k * 4 + 1) (by omega)).trans i1)
      obtain ⟨hpl, hat, _, hinc⟩ := HP.out k hlt
      have HAT := hideIt hat
      have hlt' : (k : Int) < (F.length : Int) := by omega
      have hk0 : (0 : Int) ≤ (k : Int) := by omega
      have hls : lastI pos k < (pos k : Nat) := by
        cases k with
        | zero => simp only [lastI]; omega
        | succ k => simp only [lastI]; have := hinc k (by omega); omega
      have hnl : ¬ ((pos k : Nat) : Int) ≤ lastI pos k := by omega
      generalize lastI pos k = lst at *
      generalize F[k] = y at *
      clear hB i0 i1 i2 i3 hx1 hat hinc
      go_wp2_with (first
        | (go_at_call 24; refine (ltAt_any F' _ _ _ _ _ (rowKeep H2.out HB.out) hn').mono ?_; rintro e w2 ⟨rfl, hb2⟩; rw [HAT.out]; have HB := hideIt (Bstep HB.out hb2); clear hb2))
      exact ⟨⟨k + 1, by omega, by go_num, by rw [show lastI pos (k + 1) = (pos k : Nat) from rfl], HB.out⟩, by simp [intOf]; omega⟩
    · clear hB
      go_wp2
      go_ret
      exact ⟨rfl, HB.out⟩
/-- With something more all signs stand as they stood. -/
theorem stands_more {l l' : List Op7} (h : opsB l = true) (h' : opsB l' = true) (hs : l.Sublist l') : ∃ pos, Stands (lfs l (allO l)) (lfs l' (allO l')) pos := by
  have key : ∀ i (hi : i < (lfs l (allO l)).length), ∃ k : Nat, ∃ hk : k < (lfs l' (allO l')).length, atI (lfs l' (allO l')) (lfs l (allO l))[i].a (lfs l (allO l))[i].b = (k : Nat) ∧ ((lfs l (allO l))[i].z = true → (lfs l' (allO l'))[k].z = true) ∧ ∃ p, (allO l)[i]? = some p ∧ (allO l')[k]? = some p := fun i hi => by
    obtain ⟨p, hp, e⟩ := lfs_get hi
    obtain ⟨hm, hk⟩ := side_put _ (List.mem_of_getElem? hp)
    obtain ⟨k, hk', h1, h2⟩ := put_leaf h' (hs.mem hm) hk
    obtain ⟨p', hp', e'⟩ := lfs_get hk'
    have ep : p' = p := by
      rw [e'] at h2
      exact once_eq (once_ops h') (side_put _ (List.mem_of_getElem? hp')).1 (hs.mem hm) (congrArg Lf.a h2) (congrArg Lf.b h2)
    subst ep
    refine ⟨k, hk', by rw [e]; exact h1, fun hz => ?_, p', hp, hp'⟩
    rw [e] at hz
    rw [h2]
    exact gone_sub hs hz
  refine ⟨fun i => if hi : i < (lfs l (allO l)).length then Classical.choose (key i hi) else 0, fun i hi => ?_⟩
  have hc := Classical.choose_spec (key i hi)
  simp only [dif_pos hi]
  obtain ⟨hk, h1, h2, p, hp, hp'⟩ := hc
  refine ⟨hk, h1, h2, fun j hj => ?_⟩
  have hj' : j < (lfs l (allO l)).length := by omega
  obtain ⟨_, _, _, q, hq, hq'⟩ := Classical.choose_spec (key j hj')
  rw [dif_pos hj']
  exact sub_at (all_sub hs) (nodup_all h') hq hp hq' hp' hj
end Go.Proofs.YtcnpfhnlniiacaaDoor

namespace Go.Proofs.YtcnpfhnlniiacaaDoor
open Go.RowKit
set_option linter.unusedSimpArgs false
set_option linter.unusedVariables false
attribute [local go_sem ↓] Go.wp_at_zero Go.wp_at_succ

set_option maxRecDepth 100000 in
set_option maxHeartbeats 1000000 in
theorem l71Rep_any (w : World) (q : Nat) (p : Option Addr) (n cap k : Nat) (h : RdAt w q p n cap k) (hk : k ≤ 1073741800) :
    Calls Tryd.prog 68 #[.pointer (some ⟨q, 0, none⟩)] w fun e w' => (∃ r : Int, (0 ≤ r ∧ r ≤ 4) ∧ e = .returned (.int .i64 r)) ∧ RdAt w' q p n cap (k + 2) ∧ OnlyQ q w w' := by
  have H := hideIt h
  clear h
  have hqw := H.out.lt
  go_enter Tryd.func68, Tryd.ntmps68
  go_wp2_with fail
  refine (pick_any _ q p n cap k 24 H.out (by omega) (by omega) (by omega)).mono ?_
  rintro e w1 ⟨⟨c, hc0, hc1, rfl⟩, hR, hO⟩
  have HR := hideIt hR
  have HO := hideIt hO
  clear hR hO
  by_cases hz : c = 0
  · subst hz
    go_wp2_with fail
    refine (pick_any _ q p n cap (k + 1) 2 (HR.out.alloc _) (by omega) (by omega) (by omega)).mono ?_
    rintro e w2 ⟨⟨d, hd0, hd1, rfl⟩, hR2, hO2⟩
    have sl : ∀ j, w2.cell? ⟨w1.heap.size, j, none⟩ = _ := fun j => hO2.cell w1.heap.size j (by simp) (by have := HR.out.lt; omega)
    have HO2 := hideIt ((HO.out.alloc hqw _).trans hO2)
    have HR2 := hideIt hR2
    clear hR2 hO2
    obtain rfl | rfl : d = 0 ∨ d = 1 := by omega
    all_goals
      go_wp2
      go_ret
    · exact ⟨⟨0, by omega, rfl⟩, HR2.out, HO2.out⟩
    · exact ⟨⟨4, by omega, rfl⟩, HR2.out, HO2.out⟩
  · go_wp2_with fail
    refine (pick_any _ q p n cap (k + 1) 3 HR.out (by omega) (by omega) (by omega)).mono ?_
    rintro e w2 ⟨⟨d, hd0, hd1, rfl⟩, hR2, hO2⟩
    have HO2 := hideIt (HO.out.trans hO2)
    have HR2 := hideIt hR2
    clear hR2 hO2
    go_wp2
    go_ret
    exact ⟨⟨1 + d, by omega, rfl⟩, HR2.out, HO2.out⟩
end Go.Proofs.YtcnpfhnlniiacaaDoor

namespace Go.Proofs.YtcnpfhnlniiacaaDoor
open Go.RowKit
set_option linter.unusedSimpArgs false
set_option linter.unusedVariables false
attribute [local go_sem ↓] Go.wp_at_zero Go.wp_at_succ

/-- A thing in a block of its own, that may be written. -/
structure OpBlk (W : World) (g : Nat) (a b k c d s t : Int) : Prop where
  x0 : W.cell? ⟨g, 0, none⟩ = some (.int .i64 a)
  x1 : W.cell? ⟨g, 1, none⟩ = some (.int .i64 b)
  x2 : W.cell? ⟨g, 2, none⟩ = some (.int .i64 k)
  x3 : W.cell? ⟨g, 3, none⟩ = some (.int .i64 c)
  x4 : W.cell? ⟨g, 4, none⟩ = some (.int .i64 d)
  x5 : W.cell? ⟨g, 5, none⟩ = some (.int .i64 s)
  x6 : W.cell? ⟨g, 6, none⟩ = some (.int .i64 t)
  fz : ∀ j, W.frozen? ⟨g, j, none⟩ = false
  lt : g < W.heap.size
theorem OpBlk.only {q : Nat} {W W' : World} {g : Nat} {a b k c d s t : Int} (h : OpBlk W g a b k c d s t) (ho : OnlyQ q W W') (hg : g ≠ q) : OpBlk W' g a b k c d s t :=
  ⟨(ho.cell _ _ h.lt hg).trans h.x0, (ho.cell _ _ h.lt hg).trans h.x1, (ho.cell _ _ h.lt hg).trans h.x2, (ho.cell _ _ h.lt hg).trans h.x3, (ho.cell _ _ h.lt hg).trans h.x4, (ho.cell _ _ h.lt hg).trans h.x5, (ho.cell _ _ h.lt hg).trans h.x6, fun j => (ho.frozen _ _ h.lt hg).trans (h.fz j), Nat.lt_of_lt_of_le h.lt ho.size⟩

theorem OpBlk.alloc {W : World} {g : Nat} {a b k c d s t : Int} (h : OpBlk W g a b k c d s t) (o : Obj) : OpBlk (W.alloc o) g a b k c d s t := by
  have hc : ∀ j, (W.alloc o).cell? ⟨g, j, none⟩ = W.cell? ⟨g, j, none⟩ := fun j => World.cell?_alloc_lt _ _ _ h.lt
  exact ⟨(hc _).trans h.x0, (hc _).trans h.x1, (hc _).trans h.x2, (hc _).trans h.x3, (hc _).trans h.x4, (hc _).trans h.x5, (hc _).trans h.x6, fun j => by rw [World.frozen?_alloc_past _ _ _ h.lt]; exact h.fz j, Nat.lt_of_lt_of_le h.lt (by simp)⟩
theorem OpBlk.other {W : World} {g f j : Nat} {v : Value} {a b k c d s t : Int} (h : OpBlk W g a b k c d s t) (hne : g ≠ f) : OpBlk (W.setCell ⟨f, j, none⟩ v) g a b k c d s t := by
  have hc : ∀ i, (W.setCell ⟨f, j, none⟩ v).cell? ⟨g, i, none⟩ = W.cell? ⟨g, i, none⟩ := fun i => World.cell?_setCell_other _ _ _ _ (by intro he; have := congrArg Addr.block he; simp at this; omega)
  exact ⟨(hc _).trans h.x0, (hc _).trans h.x1, (hc _).trans h.x2, (hc _).trans h.x3, (hc _).trans h.x4, (hc _).trans h.x5, (hc _).trans h.x6, fun i => by rw [World.frozen?_setCell]; exact h.fz i, by simpa using h.lt⟩
theorem OpBlk.set2 {W : World} {g : Nat} {v : Int} {a b k c d s t : Int} (h : OpBlk W g a b k c d s t) : OpBlk (W.setCell ⟨g, 2, none⟩ (.int .i64 v)) g a b v c d s t := by
  obtain ⟨x0, x1, x2, x3, x4, x5, x6, fz, lt⟩ := h
  exact ⟨by simp [go_sem, x0], by simp [go_sem, x1], by simp [go_sem, x2], by simp [go_sem, x3], by simp [go_sem, x4], by simp [go_sem, x5], by simp [go_sem, x6], fun i => by rw [World.frozen?_setCell]; exact fz i, by simpa using lt⟩
theorem OpBlk.set5 {W : World} {g : Nat} {v : Int} {a b k c d s t : Int} (h : OpBlk W g a b k c d s t) : OpBlk (W.setCell ⟨g, 5, none⟩ (.int .i64 v)) g a b k c d v t := by
  obtain ⟨x0, x1, x2, x3, x4, x5, x6, fz, lt⟩ := h
  exact ⟨by simp [go_sem, x0], by simp [go_sem, x1], by simp [go_sem, x2], by simp [go_sem, x3], by simp [go_sem, x4], by simp [go_sem, x5], by simp [go_sem, x6], fun i => by rw [World.frozen?_setCell]; exact fz i, by simpa using lt⟩
theorem OpBlk.set6 {W : World} {g : Nat} {v : Int} {a b k c d s t : Int} (h : OpBlk W g a b k c d s t) : OpBlk (W.setCell ⟨g, 6, none⟩ (.int .i64 v)) g a b k c d s v := by
  obtain ⟨x0, x1, x2, x3, x4, x5, x6, fz, lt⟩ := h
  exact ⟨by simp [go_sem, x0], by simp [go_sem, x1], by simp [go_sem, x2], by simp [go_sem, x3], by simp [go_sem, x4], by simp [go_sem, x5], by simp [go_sem, x6], fun i => by rw [World.frozen?_setCell]; exact fz i, by simpa using lt⟩

/-- Where the drawing of a thing stands: the reader, the answer's block, the thing's block. -/
structure St (w1 W : World) (q R G : Nat) (p : Option Addr) (n cap K : Nat) (a b k c d s t : Int) : Prop where
  rd : RdAt W q p n cap K
  only : OnlyQ q w1 W
  res : OpBlk W R 0 0 0 0 0 0 0
  op : OpBlk W G a b k c d s t
  base : RdAt w1 q p n cap 0
  gG : w1.heap.size ≤ G
  gR : R ≠ q
  rG : R ≠ G
theorem St.pick {w1 W W' : World} {q R G : Nat} {p : Option Addr} {n cap K K' : Nat} {a b k c d s t : Int} (h : St w1 W q R G p n cap K a b k c d s t) (hr : RdAt W' q p n cap K') (ho : OnlyQ q W W') : St w1 W' q R G p n cap K' a b k c d s t :=
  ⟨hr, h.only.trans ho, h.res.only ho h.gR, h.op.only ho (by have := h.base.lt; have := h.gG; omega), h.base, h.gG, h.gR, h.rG⟩
theorem St.alloc {w1 W : World} {q R G : Nat} {p : Option Addr} {n cap K : Nat} {a b k c d s t : Int} (h : St w1 W q R G p n cap K a b k c d s t) (o : Obj) : St w1 (W.alloc o) q R G p n cap K a b k c d s t :=
  ⟨h.rd.alloc o, h.only.alloc h.base.lt o, h.res.alloc o, h.op.alloc o, h.base, h.gG, h.gR, h.rG⟩
theorem St.rdset {w1 W : World} {q R G : Nat} {p : Option Addr} {n cap K : Nat} {a b k c d s t : Int} (h : St w1 W q R G p n cap K a b k c d s t) (j : Nat) (v : Value) : RdAt (W.setCell ⟨G, j, none⟩ v) q p n cap K :=
  h.base.fin h.rd (h.only.set h.base.lt h.gG j v) (fun o => World.cell?_setCell_other _ _ _ _ (by intro he; have h1 := congrArg Addr.block he; have h2 := h.base.lt; have h3 := h.gG; dsimp only at h1; omega)) (fun o => World.frozen?_setCell _ _ _ _)
theorem St.set2 {w1 W : World} {q R G : Nat} {p : Option Addr} {n cap K : Nat} {a b k c d s t v : Int} (h : St w1 W q R G p n cap K a b k c d s t) : St w1 (W.setCell ⟨G, 2, none⟩ (.int .i64 v)) q R G p n cap K a b v c d s t :=
  ⟨h.rdset _ _, h.only.set h.base.lt h.gG _ _, h.res.other h.rG, h.op.set2, h.base, h.gG, h.gR, h.rG⟩
theorem St.set5 {w1 W : World} {q R G : Nat} {p : Option Addr} {n cap K : Nat} {a b k c d s t v : Int} (h : St w1 W q R G p n cap K a b k c d s t) : St w1 (W.setCell ⟨G, 5, none⟩ (.int .i64 v)) q R G p n cap K a b k c d v t :=
  ⟨h.rdset _ _, h.only.set h.base.lt h.gG _ _, h.res.other h.rG, h.op.set5, h.base, h.gG, h.gR, h.rG⟩
theorem St.set6 {w1 W : World} {q R G : Nat} {p : Option Addr} {n cap K : Nat} {a b k c d s t v : Int} (h : St w1 W q R G p n cap K a b k c d s t) : St w1 (W.setCell ⟨G, 6, none⟩ (.int .i64 v)) q R G p n cap K a b k c d s v :=
  ⟨h.rdset _ _, h.only.set h.base.lt h.gG _ _, h.res.other h.rG, h.op.set6, h.base, h.gG, h.gR, h.rG⟩

end Go.Proofs.YtcnpfhnlniiacaaDoor

namespace Go.Proofs.YtcnpfhnlniiacaaDoor
open Go.RowKit
set_option linter.unusedSimpArgs false
set_option linter.unusedVariables false
attribute [local go_sem ↓] Go.wp_at_zero Go.wp_at_succ

set_option maxRecDepth 100000 in
set_option maxHeartbeats 4000000 in
theorem drawOp_any (w : World) (p : Option Addr) (n cap : Nat) (h : ArgBytes w p n) (hcap : n ≤ cap) (hn : n ≤ 1048576) :
    Calls Tryd.prog 70 #[.slice p n cap] w fun e w' => (∃ a b k c d s t : Int, e = .returned (.agg #[.int .i64 a, .int .i64 b, .int .i64 k, .int .i64 c, .int .i64 d, .int .i64 s, .int .i64 t])) ∧ Below w.heap.size w w' := by
  have H := hideIt h
  clear h
  go_enter Tryd.func70, Tryd.ntmps70
  go_wp2_with fail
  have hb0 : Below w.heap.size w (w.alloc (.cells #[.int .i64 0, .int .i64 0, .int .i64 0, .int .i64 0, .int .i64 0, .int .i64 0, .int .i64 0] 30)) := (Below.refl _ _).alloc (Nat.le_refl _) _
  refine (open_any _ p n cap (H.out.below hb0) hcap hn).mono ?_
  rintro e w1 ⟨n', rfl, hR, hb1⟩
  have res1 : OpBlk w1 w.heap.size 0 0 0 0 0 0 0 := by
    have hc : ∀ j, w1.cell? ⟨w.heap.size, j, none⟩ = _ := fun j => hb1.cell (p := ⟨w.heap.size, j, none⟩) (show w.heap.size < _ by simp)
    exact ⟨by rw [hc]; simp [go_sem], by rw [hc]; simp [go_sem], by rw [hc]; simp [go_sem], by rw [hc]; simp [go_sem], by rw [hc]; simp [go_sem], by rw [hc]; simp [go_sem], by rw [hc]; simp [go_sem],
      fun j => by rw [hb1.frozen (p := ⟨w.heap.size, j, none⟩) (show w.heap.size < _ by simp)]; simp [go_sem], by have := hb1.size; simp at this; omega⟩
  have HB1 := hideIt (hb0.trans (hb1.mono (by simp)))
  simp only [World.size_alloc] at hR ⊢
  have HR := hideIt hR
  have HRES1 := hideIt res1
  clear hR hb1 res1
  go_wp2_with fail
  refine (l71Id_any _ _ p n' cap 0 HR.out (by omega)).mono ?_
  rintro e w2 ⟨⟨a, b, rfl⟩, ⟨k2, hk2, hR2⟩, hO2⟩
  have HR2 := hideIt hR2
  have HO2 := hideIt hO2
  clear hR2 hO2
  go_wp2_with fail
  refine (pick_any _ _ p n' cap k2 2 HR2.out (by omega) (by omega) (by omega)).mono ?_
  rintro e w3 ⟨⟨kd, hkd0, hkd1, rfl⟩, hR3, hO3⟩
  have HR3 := hideIt hR3
  have HO3 := hideIt (HO2.out.trans hO3)
  clear hR3 hO3
  go_wp2_with fail
  refine (l71Id_any _ _ p n' cap (k2 + 1) HR3.out (by omega)).mono ?_
  rintro e w4 ⟨⟨c, d, rfl⟩, ⟨k4, hk4, hR4⟩, hO4⟩
  have HR4 := hideIt hR4
  have HO4 := hideIt (HO3.out.trans hO4)
  clear hR4 hO4 HR2 HR3 HO2 HO3
  have hO4 := HO4.out
  have hq4 := HR4.out.lt
  have hst : ∀ kk : Int, St w1 (w4.alloc (.cells #[.int .i64 a, .int .i64 b, .int .i64 kk, .int .i64 c, .int .i64 d, .int .i64 0, .int .i64 0] 30)) (w.heap.size + 1) w.heap.size w4.heap.size p n' cap k4 a b kk c d 0 0 := fun kk =>
    ⟨HR4.out.alloc _, hO4.alloc HR.out.lt _, (HRES1.out.only hO4 (by omega)).alloc _, ⟨by simp [go_sem], by simp [go_sem], by simp [go_sem], by simp [go_sem], by simp [go_sem], by simp [go_sem], by simp [go_sem], fun j => by simp [go_sem], by simp⟩, HR.out, hO4.size, by omega, by have := hO4.size; have := HRES1.out.lt; omega⟩
  have HST := hideIt hst
  clear hst hO4
  obtain rfl | rfl : kd = 0 ∨ kd = 1 := by omega
  · have HS := hideIt (HST.out (1 + 0))
    clear HST
    go_wp2_with fail
    refine (pick_any _ _ p n' cap _ 2 HS.out.rd (by omega) (by omega) (by omega)).mono ?_
    rintro e w7 ⟨⟨s7, h70, h71, rfl⟩, hR7, hO7⟩
    have HS7 := hideIt (HS.out.pick hR7 hO7)
    clear hR7 hO7 HS
    obtain ⟨x0, x1, x2, x3, x4, x5, x6, fz, lt⟩ := HS7.out.op
    have HS8 := hideIt (HS7.out.set5 (v := s7))
    clear HS7
    go_wp2_with fail
    refine (pick_any _ _ p n' cap _ 26 HS8.out.rd (by omega) (by omega) (by omega)).mono ?_
    rintro e w8 ⟨⟨s8, h80, h81, rfl⟩, hR8, hO8⟩
    have HS9 := hideIt (HS8.out.pick hR8 hO8)
    clear hR8 hO8 HS8 x0 x1 x2 x3 x4 x5 x6 fz lt
    obtain ⟨x0, x1, x2, x3, x4, x5, x6, fz, lt⟩ := HS9.out.op
    have HS := hideIt (HS9.out.set6 (v := 97 + s8))
    clear HS9
    go_wp2_with fail
    clear x0 x1 x2 x3 x4 x5 x6 fz lt
    refine (pick_any _ _ p n' cap _ 12 HS.out.rd (by omega) (by omega) (by omega)).mono ?_
    rintro e w5 ⟨⟨s5, h50, h51, rfl⟩, hR5, hO5⟩
    have HS5 := hideIt (HS.out.pick hR5 hO5)
    clear hR5 hO5 HS
    obtain rfl | rfl | rfl | h5 : s5 = 0 ∨ s5 = 1 ∨ s5 = 2 ∨ 3 ≤ s5 := by omega
    · go_wp2_with fail
      refine (pick_any _ _ p n' cap _ 4 HS5.out.rd (by omega) (by omega) (by omega)).mono ?_
      rintro e w6 ⟨⟨s6, h60, h61, rfl⟩, hR6, hO6⟩
      have HS6 := hideIt (HS5.out.pick hR6 hO6)
      clear hR6 hO6 HS5
      have HS7 := hideIt (HS6.out.set2 (v := s6))
      obtain ⟨x0, x1, x2, x3, x4, x5, x6, fz, lt⟩ := HS6.out.op
      obtain ⟨y0, y1, y2, y3, y4, y5, y6, fy, ly⟩ := HS6.out.res
      have hRG := HS6.out.rG
      have hGR := hRG.symm
      go_wp2
      exact bodyPost_ret (v := .agg #[.int .i64 (a), .int .i64 (b), .int .i64 (s6), .int .i64 (c), .int .i64 (d), .int .i64 (s7), .int .i64 (97 + s8)]) (by simp [results, Tryd.results70, go_sem, x0, x1, x2, x3, x4, x5, x6, y0, y1, y2, y3, y4, y5, y6, hRG, hGR]) rfl ⟨⟨_, _, _, _, _, _, _, rfl⟩, by have hbb := HB1.out.trans (HS7.out.only.below.mono (by omega)); go_grown⟩
    · go_wp2_with fail
      have HA5 := hideIt (HS5.out.alloc (.cells #[.int .i64 0, .int .i64 65, .int .i64 123] 3))
      refine (pick_any _ _ p n' cap _ 3 HA5.out.rd (by omega) (by omega) (by omega)).mono ?_
      rintro e w6 ⟨⟨s6, h60, h61, rfl⟩, hR6, hO6⟩
      have HS6 := hideIt (HA5.out.pick hR6 hO6)
      have hl5 := HS5.out.op.lt
      have hq5 := HS5.out.rd.lt
      have sl : ∀ j, w6.cell? ⟨w5.heap.size, j, none⟩ = _ := fun j => hO6.cell w5.heap.size j (by simp) (by omega)
      clear hR6 hO6 HS5 HA5
      have HS7 := fun v => hideIt (HS6.out.set6 (v := v))
      obtain ⟨x0, x1, x2, x3, x4, x5, x6, fz, lt⟩ := HS6.out.op
      obtain ⟨y0, y1, y2, y3, y4, y5, y6, fy, ly⟩ := HS6.out.res
      have hRG := HS6.out.rG
      have hGR := hRG.symm
      obtain rfl | rfl | rfl : s6 = 0 ∨ s6 = 1 ∨ s6 = 2 := by omega
      · go_wp2
        exact bodyPost_ret (v := .agg #[.int .i64 (a), .int .i64 (b), .int .i64 (1), .int .i64 (c), .int .i64 (d), .int .i64 (s7), .int .i64 (0)]) (by simp [results, Tryd.results70, go_sem, x0, x1, x2, x3, x4, x5, x6, y0, y1, y2, y3, y4, y5, y6, hRG, hGR]) rfl ⟨⟨_, _, _, _, _, _, _, rfl⟩, by have hbb := HB1.out.trans ((HS7 0).out.only.below.mono (by omega)); go_grown⟩
      · go_wp2
        exact bodyPost_ret (v := .agg #[.int .i64 (a), .int .i64 (b), .int .i64 (1), .int .i64 (c), .int .i64 (d), .int .i64 (s7), .int .i64 (65)]) (by simp [results, Tryd.results70, go_sem, x0, x1, x2, x3, x4, x5, x6, y0, y1, y2, y3, y4, y5, y6, hRG, hGR]) rfl ⟨⟨_, _, _, _, _, _, _, rfl⟩, by have hbb := HB1.out.trans ((HS7 65).out.only.below.mono (by omega)); go_grown⟩
      · go_wp2
        exact bodyPost_ret (v := .agg #[.int .i64 (a), .int .i64 (b), .int .i64 (1), .int .i64 (c), .int .i64 (d), .int .i64 (s7), .int .i64 (123)]) (by simp [results, Tryd.results70, go_sem, x0, x1, x2, x3, x4, x5, x6, y0, y1, y2, y3, y4, y5, y6, hRG, hGR]) rfl ⟨⟨_, _, _, _, _, _, _, rfl⟩, by have hbb := HB1.out.trans ((HS7 123).out.only.below.mono (by omega)); go_grown⟩
    · go_wp2_with fail
      have HA5 := hideIt (HS5.out.alloc (.cells #[.int .i64 (-1), .int .i64 2] 3))
      refine (pick_any _ _ p n' cap _ 2 HA5.out.rd (by omega) (by omega) (by omega)).mono ?_
      rintro e w6 ⟨⟨s6, h60, h61, rfl⟩, hR6, hO6⟩
      have HS6 := hideIt (HA5.out.pick hR6 hO6)
      have hl5 := HS5.out.op.lt
      have hq5 := HS5.out.rd.lt
      have sl : ∀ j, w6.cell? ⟨w5.heap.size, j, none⟩ = _ := fun j => hO6.cell w5.heap.size j (by simp) (by omega)
      clear hR6 hO6 HS5 HA5
      have HS7 := fun v => hideIt (HS6.out.set5 (v := v))
      obtain ⟨x0, x1, x2, x3, x4, x5, x6, fz, lt⟩ := HS6.out.op
      obtain ⟨y0, y1, y2, y3, y4, y5, y6, fy, ly⟩ := HS6.out.res
      have hRG := HS6.out.rG
      have hGR := hRG.symm
      obtain rfl | rfl : s6 = 0 ∨ s6 = 1 := by omega
      · go_wp2
        exact bodyPost_ret (v := .agg #[.int .i64 (a), .int .i64 (b), .int .i64 (1), .int .i64 (c), .int .i64 (d), .int .i64 (-1), .int .i64 (97 + s8)]) (by simp [results, Tryd.results70, go_sem, x0, x1, x2, x3, x4, x5, x6, y0, y1, y2, y3, y4, y5, y6, hRG, hGR]) rfl ⟨⟨_, _, _, _, _, _, _, rfl⟩, by have hbb := HB1.out.trans ((HS7 (-1)).out.only.below.mono (by omega)); go_grown⟩
      · go_wp2
        exact bodyPost_ret (v := .agg #[.int .i64 (a), .int .i64 (b), .int .i64 (1), .int .i64 (c), .int .i64 (d), .int .i64 (2), .int .i64 (97 + s8)]) (by simp [results, Tryd.results70, go_sem, x0, x1, x2, x3, x4, x5, x6, y0, y1, y2, y3, y4, y5, y6, hRG, hGR]) rfl ⟨⟨_, _, _, _, _, _, _, rfl⟩, by have hbb := HB1.out.trans ((HS7 (2)).out.only.below.mono (by omega)); go_grown⟩
    · obtain ⟨x0, x1, x2, x3, x4, x5, x6, fz, lt⟩ := HS5.out.op
      obtain ⟨y0, y1, y2, y3, y4, y5, y6, fy, ly⟩ := HS5.out.res
      have hRG := HS5.out.rG
      have hGR := hRG.symm
      go_wp2
      exact bodyPost_ret (v := .agg #[.int .i64 (a), .int .i64 (b), .int .i64 (1), .int .i64 (c), .int .i64 (d), .int .i64 (s7), .int .i64 (97 + s8)]) (by simp [results, Tryd.results70, go_sem, x0, x1, x2, x3, x4, x5, x6, y0, y1, y2, y3, y4, y5, y6, hRG, hGR]) rfl ⟨⟨_, _, _, _, _, _, _, rfl⟩, by have hbb := HB1.out.trans (HS5.out.only.below.mono (by omega)); go_grown⟩
  · have HS := hideIt (HST.out (1 + 1))
    clear HST
    go_wp2_with fail
    refine (pick_any _ _ p n' cap _ 12 HS.out.rd (by omega) (by omega) (by omega)).mono ?_
    rintro e w5 ⟨⟨s5, h50, h51, rfl⟩, hR5, hO5⟩
    have HS5 := hideIt (HS.out.pick hR5 hO5)
    clear hR5 hO5 HS
    obtain rfl | rfl | rfl | h5 : s5 = 0 ∨ s5 = 1 ∨ s5 = 2 ∨ 3 ≤ s5 := by omega
    · go_wp2_with fail
      refine (pick_any _ _ p n' cap _ 4 HS5.out.rd (by omega) (by omega) (by omega)).mono ?_
      rintro e w6 ⟨⟨s6, h60, h61, rfl⟩, hR6, hO6⟩
      have HS6 := hideIt (HS5.out.pick hR6 hO6)
      clear hR6 hO6 HS5
      have HS7 := hideIt (HS6.out.set2 (v := s6))
      obtain ⟨x0, x1, x2, x3, x4, x5, x6, fz, lt⟩ := HS6.out.op
      obtain ⟨y0, y1, y2, y3, y4, y5, y6, fy, ly⟩ := HS6.out.res
      have hRG := HS6.out.rG
      have hGR := hRG.symm
      go_wp2
      exact bodyPost_ret (v := .agg #[.int .i64 (a), .int .i64 (b), .int .i64 (s6), .int .i64 (c), .int .i64 (d), .int .i64 (0), .int .i64 (0)]) (by simp [results, Tryd.results70, go_sem, x0, x1, x2, x3, x4, x5, x6, y0, y1, y2, y3, y4, y5, y6, hRG, hGR]) rfl ⟨⟨_, _, _, _, _, _, _, rfl⟩, by have hbb := HB1.out.trans (HS7.out.only.below.mono (by omega)); go_grown⟩
    · go_wp2_with fail
      have HA5 := hideIt (HS5.out.alloc (.cells #[.int .i64 0, .int .i64 65, .int .i64 123] 3))
      refine (pick_any _ _ p n' cap _ 3 HA5.out.rd (by omega) (by omega) (by omega)).mono ?_
      rintro e w6 ⟨⟨s6, h60, h61, rfl⟩, hR6, hO6⟩
      have HS6 := hideIt (HA5.out.pick hR6 hO6)
      have hl5 := HS5.out.op.lt
      have hq5 := HS5.out.rd.lt
      have sl : ∀ j, w6.cell? ⟨w5.heap.size, j, none⟩ = _ := fun j => hO6.cell w5.heap.size j (by simp) (by omega)
      clear hR6 hO6 HS5 HA5
      have HS7 := fun v => hideIt (HS6.out.set6 (v := v))
      obtain ⟨x0, x1, x2, x3, x4, x5, x6, fz, lt⟩ := HS6.out.op
      obtain ⟨y0, y1, y2, y3, y4, y5, y6, fy, ly⟩ := HS6.out.res
      have hRG := HS6.out.rG
      have hGR := hRG.symm
      obtain rfl | rfl | rfl : s6 = 0 ∨ s6 = 1 ∨ s6 = 2 := by omega
      · go_wp2
        exact bodyPost_ret (v := .agg #[.int .i64 (a), .int .i64 (b), .int .i64 (2), .int .i64 (c), .int .i64 (d), .int .i64 (0), .int .i64 (0)]) (by simp [results, Tryd.results70, go_sem, x0, x1, x2, x3, x4, x5, x6, y0, y1, y2, y3, y4, y5, y6, hRG, hGR]) rfl ⟨⟨_, _, _, _, _, _, _, rfl⟩, by have hbb := HB1.out.trans ((HS7 0).out.only.below.mono (by omega)); go_grown⟩
      · go_wp2
        exact bodyPost_ret (v := .agg #[.int .i64 (a), .int .i64 (b), .int .i64 (2), .int .i64 (c), .int .i64 (d), .int .i64 (0), .int .i64 (65)]) (by simp [results, Tryd.results70, go_sem, x0, x1, x2, x3, x4, x5, x6, y0, y1, y2, y3, y4, y5, y6, hRG, hGR]) rfl ⟨⟨_, _, _, _, _, _, _, rfl⟩, by have hbb := HB1.out.trans ((HS7 65).out.only.below.mono (by omega)); go_grown⟩
      · go_wp2
        exact bodyPost_ret (v := .agg #[.int .i64 (a), .int .i64 (b), .int .i64 (2), .int .i64 (c), .int .i64 (d), .int .i64 (0), .int .i64 (123)]) (by simp [results, Tryd.results70, go_sem, x0, x1, x2, x3, x4, x5, x6, y0, y1, y2, y3, y4, y5, y6, hRG, hGR]) rfl ⟨⟨_, _, _, _, _, _, _, rfl⟩, by have hbb := HB1.out.trans ((HS7 123).out.only.below.mono (by omega)); go_grown⟩
    · go_wp2_with fail
      have HA5 := hideIt (HS5.out.alloc (.cells #[.int .i64 (-1), .int .i64 2] 3))
      refine (pick_any _ _ p n' cap _ 2 HA5.out.rd (by omega) (by omega) (by omega)).mono ?_
      rintro e w6 ⟨⟨s6, h60, h61, rfl⟩, hR6, hO6⟩
      have HS6 := hideIt (HA5.out.pick hR6 hO6)
      have hl5 := HS5.out.op.lt
      have hq5 := HS5.out.rd.lt
      have sl : ∀ j, w6.cell? ⟨w5.heap.size, j, none⟩ = _ := fun j => hO6.cell w5.heap.size j (by simp) (by omega)
      clear hR6 hO6 HS5 HA5
      have HS7 := fun v => hideIt (HS6.out.set5 (v := v))
      obtain ⟨x0, x1, x2, x3, x4, x5, x6, fz, lt⟩ := HS6.out.op
      obtain ⟨y0, y1, y2, y3, y4, y5, y6, fy, ly⟩ := HS6.out.res
      have hRG := HS6.out.rG
      have hGR := hRG.symm
      obtain rfl | rfl : s6 = 0 ∨ s6 = 1 := by omega
      · go_wp2
        exact bodyPost_ret (v := .agg #[.int .i64 (a), .int .i64 (b), .int .i64 (2), .int .i64 (c), .int .i64 (d), .int .i64 (-1), .int .i64 (0)]) (by simp [results, Tryd.results70, go_sem, x0, x1, x2, x3, x4, x5, x6, y0, y1, y2, y3, y4, y5, y6, hRG, hGR]) rfl ⟨⟨_, _, _, _, _, _, _, rfl⟩, by have hbb := HB1.out.trans ((HS7 (-1)).out.only.below.mono (by omega)); go_grown⟩
      · go_wp2
        exact bodyPost_ret (v := .agg #[.int .i64 (a), .int .i64 (b), .int .i64 (2), .int .i64 (c), .int .i64 (d), .int .i64 (2), .int .i64 (0)]) (by simp [results, Tryd.results70, go_sem, x0, x1, x2, x3, x4, x5, x6, y0, y1, y2, y3, y4, y5, y6, hRG, hGR]) rfl ⟨⟨_, _, _, _, _, _, _, rfl⟩, by have hbb := HB1.out.trans ((HS7 (2)).out.only.below.mono (by omega)); go_grown⟩
    · obtain ⟨x0, x1, x2, x3, x4, x5, x6, fz, lt⟩ := HS5.out.op
      obtain ⟨y0, y1, y2, y3, y4, y5, y6, fy, ly⟩ := HS5.out.res
      have hRG := HS5.out.rG
      have hGR := hRG.symm
      go_wp2
      exact bodyPost_ret (v := .agg #[.int .i64 (a), .int .i64 (b), .int .i64 (2), .int .i64 (c), .int .i64 (d), .int .i64 (0), .int .i64 (0)]) (by simp [results, Tryd.results70, go_sem, x0, x1, x2, x3, x4, x5, x6, y0, y1, y2, y3, y4, y5, y6, hRG, hGR]) rfl ⟨⟨_, _, _, _, _, _, _, rfl⟩, by have hbb := HB1.out.trans (HS5.out.only.below.mono (by omega)); go_grown⟩
end Go.Proofs.YtcnpfhnlniiacaaDoor

namespace Go.Proofs.YtcnpfhnlniiacaaDoor
open Go.RowKit
set_option linter.unusedSimpArgs false
set_option linter.unusedVariables false
attribute [local go_sem ↓] Go.wp_at_zero Go.wp_at_succ

theorem RB.only {w W W' : World} {q : Nat} (h : RB w W) (ho : OnlyQ q W W') (hq : w.heap.size < q) : RB w W' :=
  ⟨(ho.block _ h.lt (by omega)).trans h.box, h.bel.trans (ho.below.mono (by omega))⟩

/-- Where the drawing stands: things, the reader, the box of what is told. -/
structure DW (w W : World) (q B0 G c : Nat) (L : List Op7) (p : Option Addr) (n cap k : Nat) : Prop where
  own : OwnOps W B0 G c L
  rd : RdAt W q p n cap k
  rb : RB w W
  wq : w.heap.size < q
  qb : q < B0
theorem DW.only {w W W' : World} {q B0 G c : Nat} {L : List Op7} {p : Option Addr} {n cap k k' : Nat} (h : DW w W q B0 G c L p n cap k) (ho : OnlyQ q W W') (hr : RdAt W' q p n cap k') : DW w W' q B0 G c L p n cap k' :=
  ⟨h.own.only ho (by have := h.own.lt.1; have := h.qb; omega), hr, h.rb.only ho h.wq, h.wq, h.qb⟩
theorem DW.below {w W W' : World} {q B0 G c : Nat} {L : List Op7} {p : Option Addr} {n cap k : Nat} (h : DW w W q B0 G c L p n cap k) (hb : Below W.heap.size W W') : DW w W' q B0 G c L p n cap k :=
  ⟨h.own.below hb, h.rd.below hb, h.rb.below hb, h.wq, h.qb⟩

theorem OwnOps.setRow {W : World} {base G c b : Nat} {L : List Op7} (h : OwnOps W base G c L) (hne : G ≠ b) (cs : Array Value) : OwnOps (W.setRow b cs) base G c L := by
  have hb : Below b W (W.setRow b cs) := below_setRow (Below.refl _ _) (Nat.le_refl _) _
  exact World.ownsRow.kept h (row := some b) ⟨hb.os, hb.tape, hb.output, hb.size, fun i _ hi => setRow_other W b i cs (fun e => hi (by rw [e]))⟩ (.inr (by intro e; exact hne (Option.some.inj e)))
theorem DW.fin {w W : World} {q B0 G c : Nat} {L : List Op7} {p : Option Addr} {n cap k : Nat} (h : DW w W q B0 G c L p n cap k) (hB : w.heap.size ≤ B0) (a1 a2 a3 a4 a5 a6 a7 : Int) :
    (W.setRow w.heap.size #[.int .i64 a1, .int .i64 a2, .int .i64 a3, .int .i64 a4, .int .i64 a5, .int .i64 a6, .int .i64 a7]).heap[w.heap.size]? = some (.cells #[.int .i64 a1, .int .i64 a2, .int .i64 a3, .int .i64 a4, .int .i64 a5, .int .i64 a6, .int .i64 a7] 30 (0, 0)) ∧
    OwnOps (W.setRow w.heap.size #[.int .i64 a1, .int .i64 a2, .int .i64 a3, .int .i64 a4, .int .i64 a5, .int .i64 a6, .int .i64 a7]) w.heap.size G c L ∧
    Below w.heap.size w (W.setRow w.heap.size #[.int .i64 a1, .int .i64 a2, .int .i64 a3, .int .i64 a4, .int .i64 a5, .int .i64 a6, .int .i64 a7]) := by
  obtain ⟨h1, h2⟩ := h.rb.stored a1 a2 a3 a4 a5 a6 a7
  exact ⟨h1, ownsRow_base hB (h.own.setRow (by have := h.own.lt.1; have := h.wq; have := h.qb; omega) _), h2⟩

theorem store_int (W : World) (O j : Nat) (u n : Int) (hc : W.cell? ⟨O, j, none⟩ = some (.int .i64 u)) (hf : W.frozen? ⟨O, j, none⟩ = false) : (Instr.storeAt 3 (.pointer (some ⟨O, j, none⟩)) (.int .i64 n)).run Tryd.prog W = .ok () (W.setCell ⟨O, j, none⟩ (.int .i64 n)) := by
  simp [go_sem, hc, hf]
theorem store_ref (W : World) (O : Nat) (u v a b : Int) (hc : W.cell? ⟨O, 3, none⟩ = some (.int .i64 u)) (hd : W.cell? ⟨O, 4, none⟩ = some (.int .i64 v)) (hf : ∀ j, W.frozen? ⟨O, j, none⟩ = false) : (Instr.storeAt 25 (.pointer (some ⟨O, 3, none⟩)) (.agg #[.int .i64 a, .int .i64 b])).run Tryd.prog W = .ok () ((W.setCell ⟨O, 3, none⟩ (.int .i64 a)).setCell ⟨O, 4, none⟩ (.int .i64 b)) := by
  simp [go_sem, hc, hd, hf]
/-- Things, and the box of what is told. -/
structure OE (w W : World) (B0 G c : Nat) (L : List Op7) : Prop where
  own : OwnOps W B0 G c L
  rb : RB w W
  wb : w.heap.size < B0
theorem DW.oe {w W : World} {q B0 G c : Nat} {L : List Op7} {p : Option Addr} {n cap k : Nat} (h : DW w W q B0 G c L p n cap k) : OE w W B0 G c L := ⟨h.own, h.rb, Nat.lt_trans h.wq h.qb⟩
theorem OE.below {w W W' : World} {B0 G c : Nat} {L : List Op7} (h : OE w W B0 G c L) (hb : Below W.heap.size W W') : OE w W' B0 G c L := ⟨h.own.below hb, h.rb.below hb, h.wb⟩
theorem OE.set {w W : World} {B0 G c O : Nat} {L : List Op7} (h : OE w W B0 G c L) (hG : G ≠ O) (hO : w.heap.size < O) (j : Nat) (v : Value) : OE w (W.setCell ⟨O, j, none⟩ v) B0 G c L :=
  ⟨OwnOps.set h.own hG v, ⟨(Below.heap_setCell _ _ _ _ (by show w.heap.size ≠ O; omega)).trans h.rb.box, h.rb.bel.setCell (p := ⟨O, j, none⟩) (Nat.le_of_lt hO) v⟩, h.wb⟩
theorem OE.row {w W : World} {B0 G c O : Nat} {L : List Op7} (h : OE w W B0 G c L) (hG : G ≠ O) (hO : w.heap.size < O) (cs : Array Value) : OE w (W.setRow O cs) B0 G c L :=
  ⟨h.own.setRow hG cs, ⟨(setRow_other W O w.heap.size cs (by omega)).trans h.rb.box, below_setRow h.rb.bel (Nat.le_of_lt hO) _⟩, h.wb⟩
theorem OE.fin {w W : World} {B0 G c : Nat} {L : List Op7} (h : OE w W B0 G c L) (a1 a2 a3 a4 a5 a6 a7 : Int) :
    (W.setRow w.heap.size #[.int .i64 a1, .int .i64 a2, .int .i64 a3, .int .i64 a4, .int .i64 a5, .int .i64 a6, .int .i64 a7]).heap[w.heap.size]? = some (.cells #[.int .i64 a1, .int .i64 a2, .int .i64 a3, .int .i64 a4, .int .i64 a5, .int .i64 a6, .int .i64 a7] 30 (0, 0)) ∧
    OwnOps (W.setRow w.heap.size #[.int .i64 a1, .int .i64 a2, .int .i64 a3, .int .i64 a4, .int .i64 a5, .int .i64 a6, .int .i64 a7]) w.heap.size G c L ∧
    Below w.heap.size w (W.setRow w.heap.size #[.int .i64 a1, .int .i64 a2, .int .i64 a3, .int .i64 a4, .int .i64 a5, .int .i64 a6, .int .i64 a7]) := by
  obtain ⟨h1, h2⟩ := h.rb.stored a1 a2 a3 a4 a5 a6 a7
  exact ⟨h1, ownsRow_base (Nat.le_of_lt h.wb) (h.own.setRow (by have := h.own.lt.1; have := h.wb; omega) _), h2⟩

attribute [-go_sem] Instr.storeAt
attribute [local go_sem ↓] store_op_new build_opTake
set_option maxRecDepth 100000 in
set_option maxHeartbeats 4000000 in
theorem drawWith_any (w : World) (p : Option Addr) (n cap : Nat) (h : ArgBytes w p n) (hcap : n ≤ cap) (hn : n ≤ 1048576) :
    Calls Tryd.prog 34 #[.slice p n cap] w fun e w' => ∃ G c L, ∃ o : Op7, e = .returned (.tuple #[.slice (some ⟨G, 0, none⟩) (L : List Op7).length c, opV o]) ∧ L.length ≤ 74 ∧ OwnOps w' w.heap.size G c L ∧ Below w.heap.size w w' := by
  have H := hideIt h
  clear h
  have HRB := hideIt (RB.start w)
  go_enter Tryd.func34, Tryd.ntmps34
  go_wp2_with fail
  refine (open_any _ p n cap (H.out.below HRB.out.bel) hcap hn).mono ?_
  rintro e wS ⟨n', rfl, hRS, hbS⟩
  have HR := hideIt hRS
  have HRB := hideIt (HRB.out.below hbS)
  have hqS := hRS.lt
  have hwq : w.heap.size < (w.alloc (.cells #[.int .i64 0, .int .i64 0, .int .i64 0, .int .i64 0, .int .i64 0, .int .i64 0, .int .i64 0] 30)).heap.size := by simp
  clear hRS hbS
  generalize hQ : (w.alloc (.cells #[.int .i64 0, .int .i64 0, .int .i64 0, .int .i64 0, .int .i64 0, .int .i64 0, .int .i64 0] 30)).heap.size = q at *
  clear hQ
  go_wp2_with fail
  refine (l71Off_any _ q p n' cap 0 HR.out (by omega)).mono ?_
  rintro e w2 ⟨⟨G, c, m, rfl, hS2⟩, ⟨k2, hk2, hR2⟩, hO2⟩
  have HRB := hideIt (HRB.out.only hO2 hwq)
  obtain ⟨L, hLm, hL74, hOwn⟩ := hS2
  subst hLm
  have HD : Hid (DW w w2 q wS.heap.size G c L p n' cap k2) := ⟨hOwn, hR2, HRB.out, hwq, hqS⟩
  clear hR2 hO2 hOwn HRB HR
  generalize wS.heap.size = B0 at *
  go_wp2_with fail
  refine (l71Rep_any _ q p n' cap k2 HD.out.rd (by omega)).mono ?_
  rintro e w3 ⟨⟨r, hr, rfl⟩, hR3, hO3⟩
  have HD := hideIt (HD.out.only hO3 hR3)
  clear hR3 hO3
  go_wp2_with fail
  refine (specTxt_any L G c _ HD.out.own.at (by omega) HD.out.own.cap).mono ?_
  rintro e w4 ⟨rfl, hb4⟩
  have HD := hideIt (HD.out.below hb4)
  clear hb4
  have hts : (txtB (shown (lfs L (standL L)))).size ≤ 74 := by
    rw [txtB_size]
    exact Nat.le_trans (shown_len _) (by rw [lfs_len]; exact Nat.le_trans (stand_len L) hL74)
  generalize txtB (shown (lfs L (standL L))) = tx at *
  have hw1 : IntKind.i64.wrap ((tx.size : Int) + 1) = (tx.size : Int) + 1 := IntWalk.i64_in _ ⟨by omega, by omega⟩
  go_wp2_with fail
  refine (pick_any _ q p n' cap (k2 + 2) _ HD.out.rd (by omega) (by omega) (by omega)).mono ?_
  rintro e w5 ⟨⟨t, ht0, ht1, rfl⟩, hR5, hO5⟩
  have HD := hideIt (HD.out.only hO5 hR5)
  clear hR5 hO5 hw1
  go_wp2_with fail
  refine (typePut_any L G c r t 107 _ HD.out.own.at (by omega) HD.out.own.cap).mono ?_
  rintro e w6 ⟨(⟨_, rfl⟩ | ⟨_, rfl⟩), hb6⟩
  all_goals
    have HD := hideIt (HD.out.below hb6)
    clear hb6
  · have HD := hideIt (HD.out.below ((Below.refl _ _).alloc (Nat.le_refl _) (.cells #[.int .i64 0, .int .i64 0, .int .i64 0, .int .i64 0, .int .i64 0, .int .i64 0, .int .i64 0] 30)))
    go_wp2_with fail
    refine (drawOp_any _ p n cap (H.out.below HD.out.rb.bel) hcap hn).mono ?_
    rintro e w8 ⟨⟨xa, xb, xk, xc, xd, xs, xg, rfl⟩, hb8⟩
    have HD := hideIt (HD.out.below hb8)
    clear hb8
    go_wp2_with (first | (refine wpList_store_row rfl 30 _ _ rfl w.heap.size _ rfl rfl 30 _ HD.out.rb.box (by kernel_rfl) rfl (all7 _ _ _ _ _ _ _) ?_; have HST := hideIt (HD.out.fin (by have := HD.out.wq; have := HD.out.qb; omega) xa xb xk xc xd xs xg); generalize World.setRow _ _ _ = W9 at *))
    obtain ⟨hb9, hown9, hbel9⟩ := HST.out
    have r0 := (blkCell hb9 0).trans rfl
    have r1 := (blkCell hb9 1).trans rfl
    have r2 := (blkCell hb9 2).trans rfl
    have r3 := (blkCell hb9 3).trans rfl
    have r4 := (blkCell hb9 4).trans rfl
    have r5 := (blkCell hb9 5).trans rfl
    have r6 := (blkCell hb9 6).trans rfl
    exact bodyPost_ret (v := .tuple #[.slice (some ⟨G, 0, none⟩) L.length c, .agg #[.int .i64 xa, .int .i64 xb, .int .i64 xk, .int .i64 xc, .int .i64 xd, .int .i64 xs, .int .i64 xg]]) (by simp [results, Tryd.results34, go_sem, r0, r1, r2, r3, r4, r5, r6]) rfl ⟨G, c, L, ⟨xa, xb, xk, xc, xd, xs, xg⟩, rfl, hL74, hown9, hbel9⟩
  · generalize putO L r t.toNat 107 = o at *
    unfold opV
    go_wp2_with fail
    have hGO : G ≠ w6.heap.size := by have := HD.out.own.lt.2; omega
    have hOq : w6.heap.size ≠ q := by have := HD.out.rd.lt; omega
    have hOw' : w.heap.size < w6.heap.size := HD.out.rb.lt
    have hOw : w6.heap.size ≠ w.heap.size := by omega
    have HD := hideIt (HD.out.below ((Below.refl _ _).alloc (Nat.le_refl _) (.cells #[.int .i64 o.a, .int .i64 o.b, .int .i64 o.k, .int .i64 o.c, .int .i64 o.d, .int .i64 o.s, .int .i64 o.g] 30)))
    have HO : Hid (OpBlk (w6.alloc (.cells #[.int .i64 o.a, .int .i64 o.b, .int .i64 o.k, .int .i64 o.c, .int .i64 o.d, .int .i64 o.s, .int .i64 o.g] 30)) w6.heap.size o.a o.b o.k o.c o.d o.s o.g) := ⟨by simp [go_sem], by simp [go_sem], by simp [go_sem], by simp [go_sem], by simp [go_sem], by simp [go_sem], by simp [go_sem], fun j => by simp [go_sem], by simp⟩
    have HOB : Hid ((w6.alloc (.cells #[.int .i64 o.a, .int .i64 o.b, .int .i64 o.k, .int .i64 o.c, .int .i64 o.d, .int .i64 o.s, .int .i64 o.g] 30)).heap[w6.heap.size]? = some (.cells #[.int .i64 o.a, .int .i64 o.b, .int .i64 o.k, .int .i64 o.c, .int .i64 o.d, .int .i64 o.s, .int .i64 o.g] 30 (0, 0))) := World.alloc_heap_new w6 _
    generalize w6.alloc (.cells #[.int .i64 o.a, .int .i64 o.b, .int .i64 o.k, .int .i64 o.c, .int .i64 o.d, .int .i64 o.s, .int .i64 o.g] 30) = W6 at *
    generalize w6.heap.size = O at *
    refine (pick_any _ q p n' cap _ 5 HD.out.rd (by omega) (by omega) (by omega)).mono ?_
    rintro e w7 ⟨⟨y, hy0, hy1, rfl⟩, hR7, hO7⟩
    have HD := hideIt (HD.out.only hO7 hR7)
    have HOB := hideIt ((hO7.block O HO.out.lt hOq).trans HOB.out)
    have HO := hideIt (HO.out.only hO7 hOq)
    clear hR7 hO7
    by_cases hy : y = 0
    · subst hy
      go_wp2_with fail
      refine (drawOp_any _ p n cap (H.out.below HD.out.rb.bel) hcap hn).mono ?_
      rintro e w8 ⟨⟨xa, xb, xk, xc, xd, xs, xg, rfl⟩, hb8⟩
      have HD := hideIt (HD.out.below hb8)
      clear hb8
      go_wp2_with (first | (refine wpList_store_row rfl 30 _ _ rfl w.heap.size _ rfl rfl 30 _ HD.out.rb.box (by kernel_rfl) rfl (all7 _ _ _ _ _ _ _) ?_; have HST := hideIt (HD.out.fin (by have := HD.out.wq; have := HD.out.qb; omega) xa xb xk xc xd xs xg); generalize World.setRow _ _ _ = W9 at *))
      obtain ⟨hb9, hown9, hbel9⟩ := HST.out
      have r0 := (blkCell hb9 0).trans rfl
      have r1 := (blkCell hb9 1).trans rfl
      have r2 := (blkCell hb9 2).trans rfl
      have r3 := (blkCell hb9 3).trans rfl
      have r4 := (blkCell hb9 4).trans rfl
      have r5 := (blkCell hb9 5).trans rfl
      have r6 := (blkCell hb9 6).trans rfl
      exact bodyPost_ret (v := .tuple #[.slice (some ⟨G, 0, none⟩) L.length c, .agg #[.int .i64 xa, .int .i64 xb, .int .i64 xk, .int .i64 xc, .int .i64 xd, .int .i64 xs, .int .i64 xg]]) (by simp [results, Tryd.results34, go_sem, r0, r1, r2, r3, r4, r5, r6]) rfl ⟨G, c, L, ⟨xa, xb, xk, xc, xd, xs, xg⟩, rfl, hL74, hown9, hbel9⟩
    · go_wp2_with fail
      refine (pick_any _ q p n' cap _ 8 HD.out.rd (by omega) (by omega) (by omega)).mono ?_
      rintro e w8 ⟨⟨s, hs0, hs1, rfl⟩, hR8, hO8⟩
      have HD := hideIt (HD.out.only hO8 hR8)
      have HOB := hideIt ((hO8.block O HO.out.lt hOq).trans HOB.out)
      have HO := hideIt (HO.out.only hO8 hOq)
      clear hR8 hO8
      have hsc : s = 0 ∨ s = 1 ∨ s = 2 ∨ (¬ s = 0 ∧ ¬ s = 1 ∧ ¬ s = 2) := by omega
      rcases hsc with rfl | rfl | rfl | ⟨hs00, hs01, hs02⟩
      · have HE := hideIt HD.out.oe
        obtain ⟨x0, x1, x2, x3, x4, x5, x6, xf, xl⟩ := HO.out
        obtain ⟨nb, hnb⟩ : ∃ nb, IntKind.i64.wrap (o.b + 1) = nb := ⟨_, rfl⟩
        have hst0 := store_int w8 O 1 o.b nb x1 (xf 1)
        have HXF : Hid (∀ j, (w8.setCell ⟨O, 1, none⟩ (.int .i64 nb)).frozen? ⟨O, j, none⟩ = false) := fun j => by rw [World.frozen?_setCell]; exact xf j
        have HE := hideIt (HE.out.set hGO hOw' 1 (.int .i64 nb))
        have X0 : (w8.setCell ⟨O, 1, none⟩ (.int .i64 nb)).cell? ⟨O, 0, none⟩ = some (.int .i64 o.a) := by simp [go_sem, x0, x1]
        have X1 : (w8.setCell ⟨O, 1, none⟩ (.int .i64 nb)).cell? ⟨O, 1, none⟩ = some (.int .i64 nb) := by simp [go_sem, x0, x1]
        have X2 : (w8.setCell ⟨O, 1, none⟩ (.int .i64 nb)).cell? ⟨O, 2, none⟩ = some (.int .i64 o.k) := by simp [go_sem, x2, x1]
        have X3 : (w8.setCell ⟨O, 1, none⟩ (.int .i64 nb)).cell? ⟨O, 3, none⟩ = some (.int .i64 o.c) := by simp [go_sem, x3, x1]
        have X4 : (w8.setCell ⟨O, 1, none⟩ (.int .i64 nb)).cell? ⟨O, 4, none⟩ = some (.int .i64 o.d) := by simp [go_sem, x4, x1]
        have X5 : (w8.setCell ⟨O, 1, none⟩ (.int .i64 nb)).cell? ⟨O, 5, none⟩ = some (.int .i64 o.s) := by simp [go_sem, x5, x1]
        have X6 : (w8.setCell ⟨O, 1, none⟩ (.int .i64 nb)).cell? ⟨O, 6, none⟩ = some (.int .i64 o.g) := by simp [go_sem, x6, x1]
        go_wp2_with fail
        clear x0 x1 x2 x3 x4 x5 x6 xf hst0 hnb
        generalize w8.setCell ⟨O, 1, none⟩ (.int .i64 nb) = w9 at *
        have x0 := X0
        have x1 := X1
        have x2 := X2
        have x3 := X3
        have x4 := X4
        have x5 := X5
        have x6 := X6
        clear X0 X1 X2 X3 X4 X5 X6
        have HE := hideIt (HE.out.below ((Below.refl _ _).drew))
        have hst := store_op _ w.heap.size _ HE.out.rb.box rfl o.a nb o.k o.c o.d o.s o.g
        go_region_held3 (fun w' => w'.cell? ⟨O, 0, none⟩ = some (.int .i64 o.a) ∧ w'.cell? ⟨O, 1, none⟩ = some (.int .i64 nb) ∧ w'.cell? ⟨O, 2, none⟩ = some (.int .i64 o.k) ∧ w'.cell? ⟨O, 3, none⟩ = some (.int .i64 o.c) ∧ w'.cell? ⟨O, 4, none⟩ = some (.int .i64 o.d) ∧ w'.cell? ⟨O, 5, none⟩ = some (.int .i64 o.s) ∧ w'.cell? ⟨O, 6, none⟩ = some (.int .i64 o.g))
          (first | exact ⟨x0, x1, x2, x3, x4, x5, x6⟩ | exact ⟨setRow_cell hOw x0, setRow_cell hOw x1, setRow_cell hOw x2, setRow_cell hOw x3, setRow_cell hOw x4, setRow_cell hOw x5, setRow_cell hOw x6⟩)
          (fail)
        rename_i hHH
        clear hHH
        have HST := hideIt (HE.out.fin (o.a) (nb) (o.k) (o.c) (o.d) (o.s) (o.g))
        clear hst
        generalize World.setRow _ _ _ = W9 at *
        obtain ⟨hb9, hown9, hbel9⟩ := HST.out
        have r0 := (blkCell hb9 0).trans rfl
        have r1 := (blkCell hb9 1).trans rfl
        have r2 := (blkCell hb9 2).trans rfl
        have r3 := (blkCell hb9 3).trans rfl
        have r4 := (blkCell hb9 4).trans rfl
        have r5 := (blkCell hb9 5).trans rfl
        have r6 := (blkCell hb9 6).trans rfl
        go_wp2
        exact bodyPost_ret (v := .tuple #[.slice (some ⟨G, 0, none⟩) L.length c, .agg #[.int .i64 o.a, .int .i64 nb, .int .i64 o.k, .int .i64 o.c, .int .i64 o.d, .int .i64 o.s, .int .i64 o.g]]) (by simp [results, Tryd.results34, go_sem, r0, r1, r2, r3, r4, r5, r6]) rfl ⟨G, c, L, ⟨o.a, nb, o.k, o.c, o.d, o.s, o.g⟩, rfl, hL74, hown9, hbel9⟩
      · go_wp2_with fail
        refine (l71SomeL_any _ q p n' cap _ _ G c L hL74 HD.out.rd (by omega) HD.out.own HD.out.qb HD.out.rd.lt).mono ?_
        rintro e w9 ⟨⟨r', m', _, rfl⟩, ⟨k9, _, hR9⟩, hO9⟩
        have HD := hideIt (HD.out.only hO9 hR9)
        have HO := hideIt (HO.out.only hO9 hOq)
        clear hR9 hO9
        have HE := hideIt HD.out.oe
        obtain ⟨x0, x1, x2, x3, x4, x5, x6, xf, xl⟩ := HO.out
        have hst1 := store_ref w9 O o.c o.d r' m' x3 x4 xf
        have HE := hideIt ((HE.out.set hGO hOw' 3 (.int .i64 r')).set hGO hOw' 4 (.int .i64 m'))
        have X0 : ((w9.setCell ⟨O, 3, none⟩ (.int .i64 r')).setCell ⟨O, 4, none⟩ (.int .i64 m')).cell? ⟨O, 0, none⟩ = some (.int .i64 o.a) := by simp [go_sem, x0, x3, x4]
        have X1 : ((w9.setCell ⟨O, 3, none⟩ (.int .i64 r')).setCell ⟨O, 4, none⟩ (.int .i64 m')).cell? ⟨O, 1, none⟩ = some (.int .i64 o.b) := by simp [go_sem, x1, x3, x4]
        have X2 : ((w9.setCell ⟨O, 3, none⟩ (.int .i64 r')).setCell ⟨O, 4, none⟩ (.int .i64 m')).cell? ⟨O, 2, none⟩ = some (.int .i64 o.k) := by simp [go_sem, x2, x3, x4]
        have X3 : ((w9.setCell ⟨O, 3, none⟩ (.int .i64 r')).setCell ⟨O, 4, none⟩ (.int .i64 m')).cell? ⟨O, 3, none⟩ = some (.int .i64 r') := by simp [go_sem, x3, x3, x4]
        have X4 : ((w9.setCell ⟨O, 3, none⟩ (.int .i64 r')).setCell ⟨O, 4, none⟩ (.int .i64 m')).cell? ⟨O, 4, none⟩ = some (.int .i64 m') := by simp [go_sem, x4, x3, x4]
        have X5 : ((w9.setCell ⟨O, 3, none⟩ (.int .i64 r')).setCell ⟨O, 4, none⟩ (.int .i64 m')).cell? ⟨O, 5, none⟩ = some (.int .i64 o.s) := by simp [go_sem, x5, x3, x4]
        have X6 : ((w9.setCell ⟨O, 3, none⟩ (.int .i64 r')).setCell ⟨O, 4, none⟩ (.int .i64 m')).cell? ⟨O, 6, none⟩ = some (.int .i64 o.g) := by simp [go_sem, x6, x3, x4]
        go_wp2_with fail
        clear x0 x1 x2 x3 x4 x5 x6 xf hst1
        generalize (w9.setCell ⟨O, 3, none⟩ (.int .i64 r')).setCell ⟨O, 4, none⟩ (.int .i64 m') = w10 at *
        have x0 := X0
        have x1 := X1
        have x2 := X2
        have x3 := X3
        have x4 := X4
        have x5 := X5
        have x6 := X6
        clear X0 X1 X2 X3 X4 X5 X6
        have HE := hideIt (HE.out.below ((Below.refl _ _).drew))
        have hst := store_op _ w.heap.size _ HE.out.rb.box rfl o.a o.b o.k r' m' o.s o.g
        go_region_held3 (fun w' => w'.cell? ⟨O, 0, none⟩ = some (.int .i64 o.a) ∧ w'.cell? ⟨O, 1, none⟩ = some (.int .i64 o.b) ∧ w'.cell? ⟨O, 2, none⟩ = some (.int .i64 o.k) ∧ w'.cell? ⟨O, 3, none⟩ = some (.int .i64 r') ∧ w'.cell? ⟨O, 4, none⟩ = some (.int .i64 m') ∧ w'.cell? ⟨O, 5, none⟩ = some (.int .i64 o.s) ∧ w'.cell? ⟨O, 6, none⟩ = some (.int .i64 o.g))
          (first | exact ⟨x0, x1, x2, x3, x4, x5, x6⟩ | exact ⟨setRow_cell hOw x0, setRow_cell hOw x1, setRow_cell hOw x2, setRow_cell hOw x3, setRow_cell hOw x4, setRow_cell hOw x5, setRow_cell hOw x6⟩)
          (fail)
        rename_i hHH
        clear hHH
        have HST := hideIt (HE.out.fin (o.a) (o.b) (o.k) (r') (m') (o.s) (o.g))
        clear hst
        generalize World.setRow _ _ _ = W9 at *
        obtain ⟨hb9, hown9, hbel9⟩ := HST.out
        have r0 := (blkCell hb9 0).trans rfl
        have r1 := (blkCell hb9 1).trans rfl
        have r2 := (blkCell hb9 2).trans rfl
        have r3 := (blkCell hb9 3).trans rfl
        have r4 := (blkCell hb9 4).trans rfl
        have r5 := (blkCell hb9 5).trans rfl
        have r6 := (blkCell hb9 6).trans rfl
        go_wp2
        exact bodyPost_ret (v := .tuple #[.slice (some ⟨G, 0, none⟩) L.length c, .agg #[.int .i64 o.a, .int .i64 o.b, .int .i64 o.k, .int .i64 r', .int .i64 m', .int .i64 o.s, .int .i64 o.g]]) (by simp [results, Tryd.results34, go_sem, r0, r1, r2, r3, r4, r5, r6]) rfl ⟨G, c, L, ⟨o.a, o.b, o.k, r', m', o.s, o.g⟩, rfl, hL74, hown9, hbel9⟩
      · obtain ⟨x0, x1, x2, x3, x4, x5, x6, xf, xl⟩ := HO.out
        go_wp2_with fail
        have HD := hideIt (HD.out.below ((Below.refl _ _).drew))
        have HOB : Hid (w8.drew.heap[O]? = _) := HOB.out
        have HOL : Hid (O < w8.drew.heap.size) := xl
        go_region_with (first | (go_at_call 50; refine (l71SomeL_any _ q p n' cap _ _ G c L hL74 HD.out.rd (by omega) HD.out.own HD.out.qb HD.out.rd.lt).mono ?_; rintro e w9 ⟨⟨r', m', _, rfl⟩, ⟨k9, _, hR9⟩, hO9⟩; have HOB := hideIt ((hO9.block O HOL.out hOq).trans HOB.out); have y0 : w9.cell? ⟨O, 0, none⟩ = some (.int .i64 o.a) := (blkCell HOB.out 0).trans rfl; have y1 : w9.cell? ⟨O, 1, none⟩ = some (.int .i64 o.b) := (blkCell HOB.out 1).trans rfl; have HD := hideIt (HD.out.only hO9 hR9); have hst2 := store_op w9 O _ HOB.out rfl o.a o.b 2 r' m' 0 0; clear hR9 hO9))
        all_goals
          have HE := hideIt (HD.out.oe.row hGO hOw' #[.int .i64 o.a, .int .i64 o.b, .int .i64 2, .int .i64 r', .int .i64 m', .int .i64 0, .int .i64 0])
          have hob : (w9.setRow O #[.int .i64 o.a, .int .i64 o.b, .int .i64 2, .int .i64 r', .int .i64 m', .int .i64 0, .int .i64 0]).heap[O]? = some (.cells #[.int .i64 o.a, .int .i64 o.b, .int .i64 2, .int .i64 r', .int .i64 m', .int .i64 0, .int .i64 0] 30 (0, 0)) := setRow_heap _ _ _ _ _ _ HOB.out
          clear hst2 y0 y1 x0 x1 x2 x3 x4 x5 x6 xf xl
          generalize w9.setRow O #[.int .i64 o.a, .int .i64 o.b, .int .i64 2, .int .i64 r', .int .i64 m', .int .i64 0, .int .i64 0] = w10 at *
          have x0 : w10.cell? ⟨O, 0, none⟩ = some (.int .i64 o.a) := (blkCell hob 0).trans rfl
          have x1 : w10.cell? ⟨O, 1, none⟩ = some (.int .i64 o.b) := (blkCell hob 1).trans rfl
          have x2 : w10.cell? ⟨O, 2, none⟩ = some (.int .i64 2) := (blkCell hob 2).trans rfl
          have x3 : w10.cell? ⟨O, 3, none⟩ = some (.int .i64 r') := (blkCell hob 3).trans rfl
          have x4 : w10.cell? ⟨O, 4, none⟩ = some (.int .i64 m') := (blkCell hob 4).trans rfl
          have x5 : w10.cell? ⟨O, 5, none⟩ = some (.int .i64 0) := (blkCell hob 5).trans rfl
          have x6 : w10.cell? ⟨O, 6, none⟩ = some (.int .i64 0) := (blkCell hob 6).trans rfl
          clear hob
          go_wp2_with fail
          have HE := hideIt (HE.out.below ((Below.refl _ _).drew))
          have hst := store_op _ w.heap.size _ HE.out.rb.box rfl o.a o.b 2 r' m' 0 0
          go_region_held3 (fun w' => w'.cell? ⟨O, 0, none⟩ = some (.int .i64 o.a) ∧ w'.cell? ⟨O, 1, none⟩ = some (.int .i64 o.b) ∧ w'.cell? ⟨O, 2, none⟩ = some (.int .i64 2) ∧ w'.cell? ⟨O, 3, none⟩ = some (.int .i64 r') ∧ w'.cell? ⟨O, 4, none⟩ = some (.int .i64 m') ∧ w'.cell? ⟨O, 5, none⟩ = some (.int .i64 0) ∧ w'.cell? ⟨O, 6, none⟩ = some (.int .i64 0))
            (first | exact ⟨x0, x1, x2, x3, x4, x5, x6⟩ | exact ⟨setRow_cell hOw x0, setRow_cell hOw x1, setRow_cell hOw x2, setRow_cell hOw x3, setRow_cell hOw x4, setRow_cell hOw x5, setRow_cell hOw x6⟩)
            (fail)
          rename_i hHH
          clear hHH
          have HST := hideIt (HE.out.fin (o.a) (o.b) (2) (r') (m') (0) (0))
          clear hst
          generalize World.setRow _ _ _ = W9 at *
          obtain ⟨hb9, hown9, hbel9⟩ := HST.out
          have r0 := (blkCell hb9 0).trans rfl
          have r1 := (blkCell hb9 1).trans rfl
          have r2 := (blkCell hb9 2).trans rfl
          have r3 := (blkCell hb9 3).trans rfl
          have r4 := (blkCell hb9 4).trans rfl
          have r5 := (blkCell hb9 5).trans rfl
          have r6 := (blkCell hb9 6).trans rfl
          go_wp2
          exact bodyPost_ret (v := .tuple #[.slice (some ⟨G, 0, none⟩) L.length c, .agg #[.int .i64 o.a, .int .i64 o.b, .int .i64 2, .int .i64 r', .int .i64 m', .int .i64 0, .int .i64 0]]) (by simp [results, Tryd.results34, go_sem, r0, r1, r2, r3, r4, r5, r6]) rfl ⟨G, c, L, ⟨o.a, o.b, 2, r', m', 0, 0⟩, rfl, hL74, hown9, hbel9⟩
      · have HE := hideIt HD.out.oe
        obtain ⟨x0, x1, x2, x3, x4, x5, x6, xf, xl⟩ := HO.out
        go_wp2_with fail
        have HE := hideIt (HE.out.below ((Below.refl _ _).drew))
        have hst := store_op _ w.heap.size _ HE.out.rb.box rfl o.a o.b o.k o.c o.d o.s o.g
        go_region_held3 (fun w' => w'.cell? ⟨O, 0, none⟩ = some (.int .i64 o.a) ∧ w'.cell? ⟨O, 1, none⟩ = some (.int .i64 o.b) ∧ w'.cell? ⟨O, 2, none⟩ = some (.int .i64 o.k) ∧ w'.cell? ⟨O, 3, none⟩ = some (.int .i64 o.c) ∧ w'.cell? ⟨O, 4, none⟩ = some (.int .i64 o.d) ∧ w'.cell? ⟨O, 5, none⟩ = some (.int .i64 o.s) ∧ w'.cell? ⟨O, 6, none⟩ = some (.int .i64 o.g))
          (first | exact ⟨x0, x1, x2, x3, x4, x5, x6⟩ | exact ⟨setRow_cell hOw x0, setRow_cell hOw x1, setRow_cell hOw x2, setRow_cell hOw x3, setRow_cell hOw x4, setRow_cell hOw x5, setRow_cell hOw x6⟩)
          (fail)
        rename_i hHH
        clear hHH
        have HST := hideIt (HE.out.fin (o.a) (o.b) (o.k) (o.c) (o.d) (o.s) (o.g))
        clear hst
        generalize World.setRow _ _ _ = W9 at *
        obtain ⟨hb9, hown9, hbel9⟩ := HST.out
        have r0 := (blkCell hb9 0).trans rfl
        have r1 := (blkCell hb9 1).trans rfl
        have r2 := (blkCell hb9 2).trans rfl
        have r3 := (blkCell hb9 3).trans rfl
        have r4 := (blkCell hb9 4).trans rfl
        have r5 := (blkCell hb9 5).trans rfl
        have r6 := (blkCell hb9 6).trans rfl
        go_wp2
        exact bodyPost_ret (v := .tuple #[.slice (some ⟨G, 0, none⟩) L.length c, .agg #[.int .i64 o.a, .int .i64 o.b, .int .i64 o.k, .int .i64 o.c, .int .i64 o.d, .int .i64 o.s, .int .i64 o.g]]) (by simp [results, Tryd.results34, go_sem, r0, r1, r2, r3, r4, r5, r6]) rfl ⟨G, c, L, ⟨o.a, o.b, o.k, o.c, o.d, o.s, o.g⟩, rfl, hL74, hown9, hbel9⟩
end Go.Proofs.YtcnpfhnlniiacaaDoor
