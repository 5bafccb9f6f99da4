/- What typing tells can be done: OpsWith takes it; and the text behind it. -/
import Derived.Test.YtjadkhejdbdpoaaDoorPackH
import Derived.Test.YtjadkhejdbdpoaaDoorPackA
import Derived.Test.YtjadkhejdbdpoaaDoorPackK
namespace Go.Proofs.YtjadkhejdbdpoaaDoor
open Go.RowKit
set_option linter.unusedSimpArgs false
set_option linter.unusedVariables false

theorem OpsAt.cellsTk {w : World} {g : Nat} {l : List Op7} (h : OpsAt w g l) (x : Nat) : ∀ j u, (opCells (l.take x))[j]? = some u → w.cell? ((⟨g, 0, none⟩ : Addr).add j) = some u := fun j u hj => by
  refine h.cells j u ?_
  have e : opCells l = opCells (l.take x) ++ opCells (l.drop x) := by rw [← opCells_app, List.take_append_drop]
  rw [e, List.getElem?_append_left (List.getElem?_eq_some_iff.1 hj).1]
  exact hj
theorem addOff (g o j : Nat) : (⟨g, o, none⟩ : Addr).add j = ⟨g, o + j, none⟩ := by
  unfold Addr.add
  split <;> simp_all
theorem OpsAt.cellsDr {w : World} {g : Nat} {l : List Op7} (h : OpsAt w g l) {x : Nat} (hx : x ≤ l.length) : ∀ j u, (opCells (l.drop x))[j]? = some u → w.cell? ((⟨g, x * 7, none⟩ : Addr).add j) = some u := fun j u hj => by
  have e : opCells l = opCells (l.take x) ++ opCells (l.drop x) := by rw [← opCells_app, List.take_append_drop]
  have h1 := h.cells (x * 7 + j) u (by
    rw [e, List.getElem?_append_right (by rw [opCells_len]; simp; omega)]
    rw [← hj]
    congr 1
    rw [opCells_len]
    simp
    omega)
  rw [add_plain] at h1
  rw [addOff]
  exact h1
end Go.Proofs.YtjadkhejdbdpoaaDoor

namespace Go.Proofs.YtjadkhejdbdpoaaDoor
open Go.RowKit
set_option linter.unusedSimpArgs false
set_option linter.unusedVariables false
attribute [local go_sem ↓] Go.wp_at_zero Go.wp_at_succ

set_option maxRecDepth 100000 in
set_option maxHeartbeats 2000000 in
theorem implLess_any (a b c d : Int) (w : World) :
    Calls Tryd.prog 92 #[.agg #[.int .i64 a, .int .i64 b], .agg #[.int .i64 c, .int .i64 d]] w fun e w' => e = .returned (.bool (decide (a < c ∨ (a = c ∧ b < d)))) ∧ Below w.heap.size w w' := by
  go_enter Tryd.func92, Tryd.ntmps92
  by_cases h2 : a = c
  · subst h2
    go_wp2
    go_ret
    exact ⟨by simp, by go_grown⟩
  · go_wp2
    go_ret
    exact ⟨by simp [h2], by go_grown⟩
/-- With one more, put in at the first that is not ahead of it. -/
def insL (l : List Op7) (o : Op7) : List Op7 := l.takeWhile (fun p => lessB p o) ++ o :: l.dropWhile (fun p => lessB p o)
theorem insL_at {l : List Op7} {o : Op7} {k : Nat} (hk : k ≤ l.length) (h1 : ∀ j (hj : j < l.length), j < k → lessB l[j] o = true) (h2 : k = l.length ∨ ∃ hk : k < l.length, lessB l[k] o = false) : insL l o = l.take k ++ o :: l.drop k := by
  have ht : l.takeWhile (fun p => lessB p o) = l.take k ∧ l.dropWhile (fun p => lessB p o) = l.drop k := by
    clear hk
    induction l generalizing k with
    | nil => simp
    | cons p r ih =>
      rcases k with _ | k
      · rcases h2 with h2 | ⟨_, h2⟩
        · simp at h2
        · simp only [List.getElem_cons_zero] at h2
          simp [List.takeWhile_cons, List.dropWhile_cons, h2]
      · have hp := h1 0 (by simp) (by omega)
        simp only [List.getElem_cons_zero] at hp
        obtain ⟨e1, e2⟩ := ih (k := k) (fun j hj hjk => by have := h1 (j + 1) (by simp; omega) (by omega); simpa using this) (by
          rcases h2 with h2 | ⟨hk, h2⟩
          · left; simpa using h2
          · right; exact ⟨by simpa using hk, by simpa using h2⟩)
        simp [List.takeWhile_cons, List.dropWhile_cons, hp, e1, e2]
  unfold insL
  rw [ht.1, ht.2]
theorem insL_len (l : List Op7) (o : Op7) : (insL l o).length = l.length + 1 := by
  unfold insL
  rw [List.length_append, List.length_cons]
  have := congrArg List.length (List.takeWhile_append_dropWhile (p := fun p => lessB p o) (l := l))
  rw [List.length_append] at this
  omega

theorem srcNil (l : List Op7) (w : World) (a : Addr) : ∀ j u, (opCells (l.drop l.length))[j]? = some u → w.cell? (a.add j) = some u := by
  intro j u hj
  rw [List.drop_length] at hj
  simp [opCells] at hj
theorem ins_row {w : World} {base : Nat} {l : List Op7} {o : Op7} {v : Value} (h : w.ownsRow base 29 7 v (insL l o).length (opCells (insL l o))) : ∃ g c, v = .slice (some ⟨g, 0, none⟩) (insL l o).length c := by
  have h' := h
  rw [insL_len] at h
  obtain ⟨g, c, hv⟩ := ownsRow_succ h
  exact ⟨g, c, by rw [hv, insL_len]⟩

set_option maxRecDepth 100000 in
set_option maxHeartbeats 4000000 in
theorem putIn_any (l : List Op7) (g cap : Nat) (o : Op7) (w : World) (hl : OpsAt w g l) (hn : l.length ≤ 1048576) (hcap : l.length ≤ cap) :
    Calls Tryd.prog 62 #[.slice (some ⟨g, 0, none⟩) l.length cap, .agg #[.int .i64 o.a, .int .i64 o.b, .int .i64 o.k, .int .i64 o.c, .int .i64 o.d, .int .i64 o.s, .int .i64 o.g]] w fun e w' => ∃ G c, e = .returned (.slice (some ⟨G, 0, none⟩) (insL l o).length c) ∧ OwnOps w' w.heap.size G c (insL l o) ∧ Below w.heap.size w w' := by
  have HL := hideIt hl
  have hgw := hl.1
  clear hl
  obtain ⟨i0, hi, hz0', hz1', hz2⟩ := info_parts infoOp
  have HI1 := hideIt hi
  have HZ0 := hideIt hz0'
  have HZ1 := hideIt hz1'
  have HZ2 := hideIt hz2
  clear hi hz0' hz1' hz2
  go_enter Tryd.func62, Tryd.ntmps62
  go_wp2
  have HST : Hid (WL w (w.alloc (.cells #[.int .i64 o.a, .int .i64 o.b, .int .i64 o.k, .int .i64 o.c, .int .i64 o.d, .int .i64 o.s, .int .i64 o.g] 29)) o (.slice none 0 0) []) :=
    ⟨World.ownsRow_nil _ _ _ _, World.alloc_heap_new w _, (Below.refl _ _).alloc (Nat.le_refl _) _⟩
  go_loopw [5] (fun i wr => ∃ k : Nat, k ≤ l.length ∧ i = .int .i64 k ∧ (∀ j (hj : j < l.length), j < k → lessB l[j] o = true) ∧ WL w wr o (.slice none 0 0) [])
    (fun i _ => l.length - (intOf i).toNat)
  case atStart => exact ⟨0, Nat.zero_le _, rfl, fun j hj h => by omega, HST.out⟩
  case round =>
    clear HST
    obtain ⟨k, hk, rfl, hall, hS⟩ := hrel
    have HS := hideIt hS
    have HA := hideIt hall
    have hgr : g < wr.heap.size := Nat.lt_of_lt_of_le hgw hS.bel.size
    have hwr := hS.lt
    clear hS hall
    by_cases hlt : k < l.length
    · obtain ⟨y0, y1, y2, y3, y4, y5, y6⟩ := (HL.out.below HS.out.bel hgw).2 k l[k] (by simp [hlt])
      obtain ⟨b0, b1, b2, b3, b4, b5, b6⟩ := HS.out.id
      have HE : Hid (lessB l[k] o = false → insL l o = l.take k ++ o :: l.drop k) := fun h => insL_at hk HA.out (.inr ⟨hlt, h⟩)
      have HM : Hid (lessB l[k] o = true → ∀ j (hj : j < l.length), j < k + 1 → lessB l[j] o = true) := fun h j hj hjk => by
        rcases Nat.lt_or_ge j k with hh | hh
        · exact HA.out j hj hh
        · obtain rfl : j = k := by omega
          exact h
      generalize l[k] = p at *
      have hlt' : (k : Int) < (l.length : Int) := by omega
      have hk0 : (0 : Int) ≤ (k : Int) := by omega
      cases hz : lessB p o
      all_goals
        have HZ := hideIt hz
        clear hz
        go_wp2
        go_region_held3 (fun w' => w'.cell? ⟨g, k * 7, none⟩ = some (.int .i64 p.a) ∧ w'.cell? ⟨g, k * 7 + 1, none⟩ = some (.int .i64 p.b) ∧ w'.cell? ⟨w.heap.size, 0, none⟩ = some (.int .i64 o.a) ∧ w'.cell? ⟨w.heap.size, 1, none⟩ = some (.int .i64 o.b))
          (first | exact ⟨y0, y1, b0, b1⟩ | exact ⟨((bcell hb2).1 g _ hgr).trans y0, ((bcell hb2).1 g _ hgr).trans y1, ((bcell hb2).1 _ _ hwr).trans b0, ((bcell hb2).1 _ _ hwr).trans b1⟩)
          (first | (go_at_call 92; refine (implLess_any _ _ _ _ _).mono ?_; rintro e w2 ⟨rfl, hb2⟩; have HS2 : Hid (WL w w2 o (.slice none 0 0) []) := (HS.out.below ((Below.refl _ _).drew)).below hb2; rw [show decide (p.a < o.a ∨ p.a = o.a ∧ p.b < o.b) = _ from HZ.out]))
        rename_i hHH
        clear hHH hb2 y0 y1 y2 y3 y4 y5 y6 b0 b1 b2 b3 b4 b5 b6
      · have HEE := hideIt (HE.out HZ.out)
        clear HE HM HA
        have hw1 : IntKind.i64.wrap ((l.length : Int) + 1) = ((l.length + 1 : Nat) : Int) := by rw [IntWalk.i64_in _ ⟨by omega, by omega⟩]; omega
        have hkk : (k : Int) ≤ (cap : Int) := by omega
        have hk0' : (0 : Int) ≤ (k : Int) := by omega
        have hkl : (k : Int) ≤ (l.length : Int) := by omega
        have HLd : Hid ((l.drop k).length = l.length - k) := List.length_drop
        have HLt : Hid ((l.take k).length = k) := (by show (l.take k).length = k; simp; try omega)
        have hkn : k ≤ l.length := by omega
        have haddr : (if cap = k then (some ⟨g, 0, none⟩ : Option Addr) else some ⟨g, k * 7, none⟩) = some ⟨g, if cap = k then 0 else k * 7, none⟩ := by split <;> rfl
        go_wp2_with (first
          | (at_make; refine wpList_make_own _ rfl _ _ 23 rfl (w.heap.size + 1) 29 i0 _ 7 Tryd.underlying23 HI1.out HZ0.out HZ1.out .i64 .i64 _ (l.length + 1) rfl rfl rfl (by rw [HZ2.out]; omega) (by unfold maxLen; omega) HS2.out.lt ?_; intro w3 hown3 hg3; have hb3 : Below w2.heap.size w2 w3 := (Below.refl _ _).grown hg3 (Nat.le_refl _) (fun k h => by cases h); have HS3 : Hid (WL w w3 o (.slice (some ⟨w2.heap.size, 0, none⟩) 0 (l.length + 1)) []) := ⟨hown3, (hb3.block _ HS2.out.lt).trans HS2.out.box, Bstep HS2.out.bel hb3⟩; clear hown3 hg3 hb3)
          | (at_builtin; refine wpList_append_own_at _ rfl _ _ 23 rfl (w.heap.size + 1) 29 i0 _ 7 56 Tryd.underlying23 HI1.out HZ0.out HZ1.out HZ2.out rfl (by decide) _ _ _ rfl HS3.out.row ⟨g, 0, none⟩ k cap (opCells (l.take k)) rfl (by rw [opCells_len, HLt.out]) ((HL.out.below HS3.out.bel hgw).cellsTk k) (opCells_one _) (by (try simp only [List.length_nil]); unfold maxLen; omega) (by (try simp only [List.length_nil]); omega) HS3.out.lt ?_; intro v4 w4 hown4 hg4 _ _; have HS4 := hideIt (WL.app (M := l.take k) HS3.out hg4 (by rw [HLt.out]; exact hown4)); clear hown4 hg4 HS3; have hw4 := HS4.out.lt; obtain ⟨b0, b1, b2, b3, b4, b5, b6⟩ := HS4.out.id)
          | (at_builtin; refine wpList_append_own_at _ rfl _ _ 23 rfl (w.heap.size + 1) 29 i0 _ 7 56 Tryd.underlying23 HI1.out HZ0.out HZ1.out HZ2.out rfl (by decide) _ _ _ rfl (HS4.out.row.alloc _) ⟨w4.heap.size, 0, none⟩ 1 1 (opCells [o]) rfl rfl (cells_new w4 (opCells [o]) 29) (opCells_one _) (by (try simp only [List.length_append, List.length_nil]); rw [HLt.out]; unfold maxLen; omega) (by (try simp only [List.length_append, List.length_nil]); rw [HLt.out]; omega) (by simp; omega) ?_; intro v5 w5 hown5 hg5 _ _; have HS5 := hideIt (WL.app (M := [o]) (HS4.out.below ((Below.refl _ _).alloc (Nat.le_refl _) _)) hg5 hown5); clear hown5 hg5 HS4 hw4 b0 b1 b2 b3 b4 b5 b6; have hw5 := HS5.out.lt)
          | (at_builtin; refine wpList_append_own_at _ rfl _ _ 23 rfl (w.heap.size + 1) 29 i0 _ 7 56 Tryd.underlying23 HI1.out HZ0.out HZ1.out HZ2.out rfl (by decide) _ _ _ rfl HS5.out.row ⟨g, k * 7, none⟩ (l.length - k) (cap - k) (opCells (l.drop k)) rfl (by rw [opCells_len, HLd.out]) ((HL.out.below HS5.out.bel hgw).cellsDr hkn) (opCells_one _) (by (try simp only [List.length_append, List.length_nil, List.length_cons]); rw [HLt.out]; unfold maxLen; omega) (by (try simp only [List.length_append, List.length_nil, List.length_cons]); rw [HLt.out]; omega) (by omega) ?_; intro v6 w6 hown6 hg6 _ _; have HS6 := hideIt (WL.app (M := l.drop k) HS5.out hg6 (by rw [HLd.out]; exact hown6)); clear hown6 hg6 HS5 hw5))
        go_ret
        have hE : [] ++ l.take k ++ [o] ++ l.drop k = insL l o := by rw [HEE.out]; simp
        have hR := HS6.out.row
        rw [hE] at hR
        obtain ⟨gR, cR, rfl⟩ := ins_row hR
        exact ⟨_, _, rfl, ownsRow_base (Nat.le_succ _) hR, HS6.out.bel⟩
      · have HMM := hideIt (HM.out HZ.out)
        go_wp2
        exact ⟨⟨k + 1, by omega, by go_num, HMM.out, HS2.out⟩, by simp [intOf]; omega⟩
    · obtain rfl : k = l.length := by omega
      have HEE : Hid (insL l o = l.take l.length ++ o :: l.drop l.length) := insL_at hk HA.out (.inl rfl)
      go_wp2
      go_quiet (fail)
      generalize hD : World.drewN wr _ = w2
      have HS2 : Hid (WL w w2 o (.slice none 0 0) []) := by show WL w w2 o (.slice none 0 0) []; rw [← hD]; exact HS.out.below (below_drewN (Below.refl _ _) _)
      clear hD
      have hcc : cap = l.length ∨ l.length < cap := by omega
      rcases hcc with hcc | hcc
      · subst hcc
        have hw1 : IntKind.i64.wrap ((l.length : Int) + 1) = ((l.length + 1 : Nat) : Int) := by rw [IntWalk.i64_in _ ⟨by omega, by omega⟩]; omega
        have hkk : (l.length : Int) ≤ (l.length : Int) := by omega
        have hk0' : (0 : Int) ≤ (l.length : Int) := by omega
        have hkl : (l.length : Int) ≤ (l.length : Int) := by omega
        have HLd : Hid ((l.drop l.length).length = 0) := (by show (l.drop l.length).length = 0; simp)
        have HLt : Hid ((l.take l.length).length = l.length) := (by show (l.take l.length).length = l.length; simp; try omega)
        have hkn : l.length ≤ l.length := by omega
        go_wp2_with (first
          | (at_make; refine wpList_make_own _ rfl _ _ 23 rfl (w.heap.size + 1) 29 i0 _ 7 Tryd.underlying23 HI1.out HZ0.out HZ1.out .i64 .i64 _ (l.length + 1) rfl rfl rfl (by rw [HZ2.out]; omega) (by unfold maxLen; omega) HS2.out.lt ?_; intro w3 hown3 hg3; have hb3 : Below w2.heap.size w2 w3 := (Below.refl _ _).grown hg3 (Nat.le_refl _) (fun k h => by cases h); have HS3 : Hid (WL w w3 o (.slice (some ⟨w2.heap.size, 0, none⟩) 0 (l.length + 1)) []) := ⟨hown3, (hb3.block _ HS2.out.lt).trans HS2.out.box, Bstep HS2.out.bel hb3⟩; clear hown3 hg3 hb3)
          | (at_builtin; refine wpList_append_own_at _ rfl _ _ 23 rfl (w.heap.size + 1) 29 i0 _ 7 56 Tryd.underlying23 HI1.out HZ0.out HZ1.out HZ2.out rfl (by decide) _ _ _ rfl HS3.out.row ⟨g, 0, none⟩ l.length l.length (opCells (l.take l.length)) rfl (by rw [opCells_len, HLt.out]) ((HL.out.below HS3.out.bel hgw).cellsTk l.length) (opCells_one _) (by (try simp only [List.length_nil]); unfold maxLen; omega) (by (try simp only [List.length_nil]); omega) HS3.out.lt ?_; intro v4 w4 hown4 hg4 _ _; have HS4 := hideIt (WL.app (M := l.take l.length) HS3.out hg4 (by rw [HLt.out]; exact hown4)); clear hown4 hg4 HS3; have hw4 := HS4.out.lt; obtain ⟨b0, b1, b2, b3, b4, b5, b6⟩ := HS4.out.id)
          | (at_builtin; refine wpList_append_own_at _ rfl _ _ 23 rfl (w.heap.size + 1) 29 i0 _ 7 56 Tryd.underlying23 HI1.out HZ0.out HZ1.out HZ2.out rfl (by decide) _ _ _ rfl (HS4.out.row.alloc _) ⟨w4.heap.size, 0, none⟩ 1 1 (opCells [o]) rfl rfl (cells_new w4 (opCells [o]) 29) (opCells_one _) (by (try simp only [List.length_append, List.length_nil]); rw [HLt.out]; unfold maxLen; omega) (by (try simp only [List.length_append, List.length_nil]); rw [HLt.out]; omega) (by simp; omega) ?_; intro v5 w5 hown5 hg5 _ _; have HS5 := hideIt (WL.app (M := [o]) (HS4.out.below ((Below.refl _ _).alloc (Nat.le_refl _) _)) hg5 hown5); clear hown5 hg5 HS4 hw4 b0 b1 b2 b3 b4 b5 b6; have hw5 := HS5.out.lt)
          | (at_builtin; refine wpList_append_own_at _ rfl _ _ 23 rfl (w.heap.size + 1) 29 i0 _ 7 56 Tryd.underlying23 HI1.out HZ0.out HZ1.out HZ2.out rfl (by decide) _ _ _ rfl HS5.out.row ⟨g, 0, none⟩ 0 0 (opCells (l.drop l.length)) rfl (by rw [opCells_len, HLd.out]) (srcNil l w5 ⟨g, 0, none⟩) (opCells_one _) (by (try simp only [List.length_append, List.length_nil, List.length_cons]); rw [HLt.out]; unfold maxLen; omega) (by (try simp only [List.length_append, List.length_nil, List.length_cons]); rw [HLt.out]; omega) (by omega) ?_; intro v6 w6 hown6 hg6 _ _; have HS6 := hideIt (WL.app (M := l.drop l.length) HS5.out hg6 (by rw [HLd.out]; exact hown6)); clear hown6 hg6 HS5 hw5)
          | (at_builtin; refine wpList_append_own_at _ rfl _ _ 23 rfl (w.heap.size + 1) 29 i0 _ 7 56 Tryd.underlying23 HI1.out HZ0.out HZ1.out HZ2.out rfl (by decide) _ _ _ rfl HS5.out.row ⟨g, l.length * 7, none⟩ 0 (l.length - l.length) (opCells (l.drop l.length)) rfl (by rw [opCells_len, HLd.out]) (srcNil l w5 ⟨g, l.length * 7, none⟩) (opCells_one _) (by (try simp only [List.length_append, List.length_nil, List.length_cons]); rw [HLt.out]; unfold maxLen; omega) (by (try simp only [List.length_append, List.length_nil, List.length_cons]); rw [HLt.out]; omega) (by omega) ?_; intro v6 w6 hown6 hg6 _ _; have HS6 := hideIt (WL.app (M := l.drop l.length) HS5.out hg6 (by rw [HLd.out]; exact hown6)); clear hown6 hg6 HS5 hw5))
        go_ret
        have hE : [] ++ l.take l.length ++ [o] ++ l.drop l.length = insL l o := by rw [HEE.out]; simp
        have hR := HS6.out.row
        rw [hE] at hR
        obtain ⟨gR, cR, rfl⟩ := ins_row hR
        exact ⟨_, _, rfl, ownsRow_base (Nat.le_succ _) hR, HS6.out.bel⟩
      · have hw1 : IntKind.i64.wrap ((l.length : Int) + 1) = ((l.length + 1 : Nat) : Int) := by rw [IntWalk.i64_in _ ⟨by omega, by omega⟩]; omega
        have hkk : (l.length : Int) ≤ (cap : Int) := by omega
        have hk0' : (0 : Int) ≤ (l.length : Int) := by omega
        have hkl : (l.length : Int) ≤ (l.length : Int) := by omega
        have HLd : Hid ((l.drop l.length).length = 0) := (by show (l.drop l.length).length = 0; simp)
        have HLt : Hid ((l.take l.length).length = l.length) := (by show (l.take l.length).length = l.length; simp; try omega)
        have hkn : l.length ≤ l.length := by omega
        go_wp2_with (first
          | (at_make; refine wpList_make_own _ rfl _ _ 23 rfl (w.heap.size + 1) 29 i0 _ 7 Tryd.underlying23 HI1.out HZ0.out HZ1.out .i64 .i64 _ (l.length + 1) rfl rfl rfl (by rw [HZ2.out]; omega) (by unfold maxLen; omega) HS2.out.lt ?_; intro w3 hown3 hg3; have hb3 : Below w2.heap.size w2 w3 := (Below.refl _ _).grown hg3 (Nat.le_refl _) (fun k h => by cases h); have HS3 : Hid (WL w w3 o (.slice (some ⟨w2.heap.size, 0, none⟩) 0 (l.length + 1)) []) := ⟨hown3, (hb3.block _ HS2.out.lt).trans HS2.out.box, Bstep HS2.out.bel hb3⟩; clear hown3 hg3 hb3)
          | (at_builtin; refine wpList_append_own_at _ rfl _ _ 23 rfl (w.heap.size + 1) 29 i0 _ 7 56 Tryd.underlying23 HI1.out HZ0.out HZ1.out HZ2.out rfl (by decide) _ _ _ rfl HS3.out.row ⟨g, 0, none⟩ l.length cap (opCells (l.take l.length)) rfl (by rw [opCells_len, HLt.out]) ((HL.out.below HS3.out.bel hgw).cellsTk l.length) (opCells_one _) (by (try simp only [List.length_nil]); unfold maxLen; omega) (by (try simp only [List.length_nil]); omega) HS3.out.lt ?_; intro v4 w4 hown4 hg4 _ _; have HS4 := hideIt (WL.app (M := l.take l.length) HS3.out hg4 (by rw [HLt.out]; exact hown4)); clear hown4 hg4 HS3; have hw4 := HS4.out.lt; obtain ⟨b0, b1, b2, b3, b4, b5, b6⟩ := HS4.out.id)
          | (at_builtin; refine wpList_append_own_at _ rfl _ _ 23 rfl (w.heap.size + 1) 29 i0 _ 7 56 Tryd.underlying23 HI1.out HZ0.out HZ1.out HZ2.out rfl (by decide) _ _ _ rfl (HS4.out.row.alloc _) ⟨w4.heap.size, 0, none⟩ 1 1 (opCells [o]) rfl rfl (cells_new w4 (opCells [o]) 29) (opCells_one _) (by (try simp only [List.length_append, List.length_nil]); rw [HLt.out]; unfold maxLen; omega) (by (try simp only [List.length_append, List.length_nil]); rw [HLt.out]; omega) (by simp; omega) ?_; intro v5 w5 hown5 hg5 _ _; have HS5 := hideIt (WL.app (M := [o]) (HS4.out.below ((Below.refl _ _).alloc (Nat.le_refl _) _)) hg5 hown5); clear hown5 hg5 HS4 hw4 b0 b1 b2 b3 b4 b5 b6; have hw5 := HS5.out.lt)
          | (at_builtin; refine wpList_append_own_at _ rfl _ _ 23 rfl (w.heap.size + 1) 29 i0 _ 7 56 Tryd.underlying23 HI1.out HZ0.out HZ1.out HZ2.out rfl (by decide) _ _ _ rfl HS5.out.row ⟨g, 0, none⟩ 0 0 (opCells (l.drop l.length)) rfl (by rw [opCells_len, HLd.out]) (srcNil l w5 ⟨g, 0, none⟩) (opCells_one _) (by (try simp only [List.length_append, List.length_nil, List.length_cons]); rw [HLt.out]; unfold maxLen; omega) (by (try simp only [List.length_append, List.length_nil, List.length_cons]); rw [HLt.out]; omega) (by omega) ?_; intro v6 w6 hown6 hg6 _ _; have HS6 := hideIt (WL.app (M := l.drop l.length) HS5.out hg6 (by rw [HLd.out]; exact hown6)); clear hown6 hg6 HS5 hw5)
          | (at_builtin; refine wpList_append_own_at _ rfl _ _ 23 rfl (w.heap.size + 1) 29 i0 _ 7 56 Tryd.underlying23 HI1.out HZ0.out HZ1.out HZ2.out rfl (by decide) _ _ _ rfl HS5.out.row ⟨g, l.length * 7, none⟩ 0 (cap - l.length) (opCells (l.drop l.length)) rfl (by rw [opCells_len, HLd.out]) (srcNil l w5 ⟨g, l.length * 7, none⟩) (opCells_one _) (by (try simp only [List.length_append, List.length_nil, List.length_cons]); rw [HLt.out]; unfold maxLen; omega) (by (try simp only [List.length_append, List.length_nil, List.length_cons]); rw [HLt.out]; omega) (by omega) ?_; intro v6 w6 hown6 hg6 _ _; have HS6 := hideIt (WL.app (M := l.drop l.length) HS5.out hg6 (by rw [HLd.out]; exact hown6)); clear hown6 hg6 HS5 hw5))
        go_ret
        have hE : [] ++ l.take l.length ++ [o] ++ l.drop l.length = insL l o := by rw [HEE.out]; simp
        have hR := HS6.out.row
        rw [hE] at hR
        obtain ⟨gR, cR, rfl⟩ := ins_row hR
        exact ⟨_, _, rfl, ownsRow_base (Nat.le_succ _) hR, HS6.out.bel⟩
end Go.Proofs.YtjadkhejdbdpoaaDoor

namespace Go.Proofs.YtjadkhejdbdpoaaDoor
open Go.RowKit
set_option linter.unusedSimpArgs false
set_option linter.unusedVariables false

set_option maxHeartbeats 1000000 in
theorem implOps_any (l : List Op7) (g cap : Nat) (x : Addr) (w : World) (hl : OpsAt w g l) (hn : l.length ≤ 1048576) (hcap : l.length ≤ cap)
    (he : w.cell? ⟨0, 0, none⟩ = some (.iface 164 (.pointer (some x)))) (h0 : 0 < w.heap.size) :
    Calls Tryd.prog 61 #[.slice (some ⟨g, 0, none⟩) l.length cap] w fun e w' => e = .returned (.bool (thB l)) ∧ Below w.heap.size w w' := by
  have HL := hideIt hl
  clear hl
  go_enter Tryd.func61, Tryd.ntmps61
  go_wp2_with fail
  refine (things_any l g cap x _ HL.out hn hcap he h0).mono ?_
  rintro e w1 ⟨(⟨ht, M, _, rfl, hT⟩ | ⟨ht, rfl⟩), hb1⟩
  all_goals
    have HT := hideIt ht
    have HB1 := hideIt hb1
    have herr1 : w1.cell? ⟨0, 0, none⟩ = some (.iface 164 (.pointer (some x))) := by rw [(bcell hb1).1 _ _ h0]; exact he
    clear ht hb1
  · clear hT
    go_wp2_with (first | (go_at_call 50; refine (is_nil x _).mono ?_; rintro e w'' ⟨rfl, rfl⟩))
    go_ret
    exact ⟨ret_bool HT.out.symm, HB1.out⟩
  · go_wp2_with (first | (go_at_call 50; refine (is_same x _).mono ?_; rintro e w'' ⟨rfl, rfl⟩))
    go_ret
    exact ⟨ret_bool HT.out.symm, HB1.out⟩
end Go.Proofs.YtjadkhejdbdpoaaDoor

namespace Go.Proofs.YtjadkhejdbdpoaaDoor
open Go.RowKit
set_option linter.unusedSimpArgs false
set_option linter.unusedVariables false
attribute [local go_sem ↓] Go.wp_at_zero Go.wp_at_succ

/-- Something more can be done. -/
def okW (l : List Op7) (o : Op7) : Bool := opsB l && (decide (findI l o.a o.b < 0) && opsB (withL l o))
theorem insL_with {l : List Op7} (hs : l.Pairwise fun p q => lessB p q = true) {o : Op7} (hno : ∀ p ∈ l, ¬ (p.a = o.a ∧ p.b = o.b)) : insL l o = withL l o := by
  induction l with
  | nil => rfl
  | cons p r ih =>
    obtain ⟨h1, h2⟩ := List.pairwise_cons.1 hs
    have ih := ih h2 (fun q hq => hno q (by simp [hq]))
    have hp := hno p (by simp)
    by_cases hl : lessB p o = true
    · have hno' : lessB o p = false := by
        unfold lessB at *
        have := of_decide_eq_true hl
        exact decide_eq_false (by omega)
      have e : withL (p :: r) o = p :: withL r o := by
        unfold withL
        rw [List.filter_cons_of_pos (by simp [hl]), List.filter_cons_of_neg (by simp [hno'])]
        simp
      rw [e, ← ih]
      simp [insL, List.takeWhile_cons, List.dropWhile_cons, hl]
    · have hl' : lessB o p = true := by
        unfold lessB at *
        have := of_decide_eq_false (Bool.eq_false_iff.2 hl)
        exact decide_eq_true (by omega)
      have hall : ∀ q ∈ r, lessB o q = true ∧ lessB q o = false := fun q hq => by
        have := h1 q hq
        unfold lessB at *
        have h3 := of_decide_eq_true this
        have h4 := of_decide_eq_true hl'
        exact ⟨decide_eq_true (by omega), decide_eq_false (by omega)⟩
      have e : withL (p :: r) o = o :: p :: r := by
        unfold withL
        rw [List.filter_cons_of_neg (by simpa using hl), List.filter_cons_of_pos (by simp [hl']), List.filter_eq_nil_iff.2 (fun q hq => by simp [(hall q hq).2]), List.filter_eq_self.2 (fun q hq => (hall q hq).1)]
        rfl
      have hl0 : lessB p o = false := Bool.eq_false_iff.2 hl
      rw [e]
      simp [insL, List.takeWhile_cons, List.dropWhile_cons, hl0]
theorem insL_dup {l : List Op7} {o : Op7} (hf : ¬ findI l o.a o.b < 0) : opsB (insL l o) = false := by
  cases h : opsB (insL l o)
  · rfl
  · exfalso
    have hs := ops_sorted h
    have hp : ∃ p ∈ l, p.a = o.a ∧ p.b = o.b := by
      obtain ⟨k, hk, hkl⟩ : ∃ k : Nat, findI l o.a o.b = k ∧ ∃ hk : k < l.length, hasId o.a o.b l[k] = true := by
        unfold findI at hf ⊢
        cases hx : l.findIdx? (hasId o.a o.b) with
        | none => rw [hx] at hf; simp at hf
        | some i =>
          obtain ⟨h1, h2, _⟩ := List.findIdx?_eq_some_iff_getElem.1 hx
          exact ⟨i, rfl, h1, h2⟩
      obtain ⟨hk', hid⟩ := hkl
      exact ⟨l[k], List.getElem_mem _, by simpa [hasId] using hid⟩
    obtain ⟨p, hp, ha, hb⟩ := hp
    unfold insL at hs
    obtain ⟨_, h2, h3⟩ := List.pairwise_append.1 hs
    have hpm : p ∈ l.takeWhile (fun q => lessB q o) ∨ p ∈ l.dropWhile (fun q => lessB q o) := by
      rw [← List.takeWhile_append_dropWhile (p := fun q => lessB q o) (l := l)] at hp
      exact List.mem_append.1 hp
    have : lessB p o = true ∨ lessB o p = true := by
      rcases hpm with h | h
      · exact .inl (h3 p h o (by simp))
      · exact .inr ((List.pairwise_cons.1 h2).1 p h)
    unfold lessB at this
    rcases this with h | h <;> have := of_decide_eq_true h <;> omega

theorem withL_lenW (l : List Op7) (o : Op7) : (withL l o).length ≤ 2 * l.length + 1 := by
  unfold withL
  have h1 := List.length_filter_le (fun p => lessB p o) l
  have h2 := List.length_filter_le (fun p => lessB o p) l
  simp only [List.length_append, List.length_cons, List.length_nil]
  omega
theorem findI_w1 {l : List Op7} {r m : Int} (h : findI l r m < 0) : findI l r m = -1 := by
  unfold findI at *
  cases hx : l.findIdx? (hasId r m) with
  | none => rfl
  | some i => rw [hx] at h; simp only at h; omega
theorem findI_w0 {l : List Op7} {r m : Int} (h : ¬ findI l r m < 0) : ∃ k : Nat, findI l r m = k := ⟨(findI l r m).toNat, by omega⟩
/-- The answer. -/
def ansW (l : List Op7) (o : Op7) : List Op7 := if okW l o = true then withL l o else []
theorem ansW_yes {l : List Op7} {o : Op7} (h : okW l o = true) : ansW l o = withL l o := by unfold ansW; rw [if_pos h]
theorem ansW_no {l : List Op7} {o : Op7} (h : okW l o = false) : ansW l o = [] := by unfold ansW; rw [h]; rfl

set_option maxRecDepth 100000 in
set_option maxHeartbeats 1000000 in
theorem implWith_any (l : List Op7) (g cap : Nat) (o : Op7) (x : Addr) (w : World) (hl : OpsAt w g l) (hn : l.length ≤ 1048576) (hcap : l.length ≤ cap)
    (he : w.cell? ⟨0, 0, none⟩ = some (.iface 164 (.pointer (some x)))) (h0 : 0 < w.heap.size) :
    Calls Tryd.prog 26 #[.slice (some ⟨g, 0, none⟩) l.length cap, .agg #[.int .i64 o.a, .int .i64 o.b, .int .i64 o.k, .int .i64 o.c, .int .i64 o.d, .int .i64 o.s, .int .i64 o.g]] w fun e w' =>
      ∃ v, e = .returned (.tuple #[v, .bool (okW l o)]) ∧ w'.ownsRow w.heap.size 29 7 v (ansW l o).length (opCells (ansW l o)) ∧ Below w.heap.size w w' := by
  have HL := hideIt hl
  have hgw := hl.1
  clear hl
  have HW : Hid (WL w (w.alloc (.cells #[.int .i64 o.a, .int .i64 o.b, .int .i64 o.k, .int .i64 o.c, .int .i64 o.d, .int .i64 o.s, .int .i64 o.g] 29)) o (.slice none 0 0) []) :=
    ⟨World.ownsRow_nil _ _ _ _, World.alloc_heap_new w _, (Below.refl _ _).alloc (Nat.le_refl _) _⟩
  cases hops : opsB l
  · have hz : okW l o = false := by unfold okW; rw [hops]; rfl
    rw [ansW_no hz, hz]
    clear hz
    have HO := hideIt hops
    clear hops
    go_enter Tryd.func26, Tryd.ntmps26
    go_wp2_with (first
      | (go_at_call 61; refine (implOps_any l g cap x _ (HL.out.below HW.out.bel hgw) hn hcap (errB HW.out.bel h0 he) (posB HW.out.bel h0)).mono ?_; rintro e w1 ⟨rfl, hb1⟩; rw [th_same, HO.out]; have HB := hideIt (HW.out.below hb1).bel; clear hb1))
    exact bodyPost_ret (v := .tuple #[.slice none 0 0, .bool false]) (by simp [results, Tryd.results26, go_sem]) rfl ⟨_, rfl, World.ownsRow_nil _ _ _ _, HB.out⟩
  · have h36 := ops_36 hops
    have HINS : Hid (findI l o.a o.b < 0 → insL l o = withL l o) := fun h2 => insL_with (ops_sorted hops) (find_new h2)
    have HDUP : Hid (¬ findI l o.a o.b < 0 → opsB (insL l o) = false) := insL_dup
    have HOK : Hid (okW l o = (decide (findI l o.a o.b < 0) && opsB (withL l o))) := by show okW l o = _; unfold okW; rw [hops]; rfl
    have HO := hideIt hops
    clear hops
    cases hi : opsB (insL l o)
    · have hz : okW l o = false := by
        rw [HOK.out]
        by_cases hf : findI l o.a o.b < 0
        · rw [← HINS.out hf, hi, Bool.and_false]
        · simp [hf]
      rw [ansW_no hz, hz]
      have HI := hideIt hi
      clear hi hz HOK HINS HDUP
      go_enter Tryd.func26, Tryd.ntmps26
      go_wp2_with fail
      refine (implOps_any l g cap x _ (HL.out.below HW.out.bel hgw) hn hcap (errB HW.out.bel h0 he) (posB HW.out.bel h0)).mono ?_
      rintro e w1 ⟨rfl, hb1⟩
      rw [th_same, HO.out]
      have HW1 := hideIt (HW.out.below hb1)
      have HB := hideIt HW1.out.bel
      obtain ⟨b0, b1, b2, b3, b4, b5, b6⟩ := HW1.out.id
      clear hb1
      go_wp2_with fail
      refine (putIn_any l g cap o _ (HL.out.below HB.out hgw) hn hcap).mono ?_
      rintro e w2 ⟨G, c, rfl, hO2, hb2⟩
      have HO2 := hideIt hO2
      have HB := hideIt (Bstep HB.out hb2)
      clear hO2 hb2
      go_wp2_with fail
      refine (implOps_any (insL l o) G c x _ HO2.out.at (by rw [insL_len]; omega) HO2.out.cap (errB HB.out h0 he) (posB HB.out h0)).mono ?_
      rintro e w3 ⟨rfl, hb3⟩
      rw [th_same, HI.out]
      have HB := hideIt (Bstep HB.out hb3)
      clear hb3
      go_wp2
      exact bodyPost_ret (v := .tuple #[.slice none 0 0, .bool false]) (by simp [results, Tryd.results26, go_sem]) rfl ⟨_, rfl, World.ownsRow_nil _ _ _ _, HB.out⟩
    · have hf : findI l o.a o.b < 0 := by
        rcases Decidable.em (findI l o.a o.b < 0) with h | h
        · exact h
        · rw [HDUP.out h] at hi; cases hi
      have hz : okW l o = true := by rw [HOK.out, ← HINS.out hf, hi]; simp [hf]
      rw [ansW_yes hz, hz, ← HINS.out hf]
      have HI := hideIt hi
      clear hi hz HOK HINS HDUP hf
      go_enter Tryd.func26, Tryd.ntmps26
      go_wp2_with fail
      refine (implOps_any l g cap x _ (HL.out.below HW.out.bel hgw) hn hcap (errB HW.out.bel h0 he) (posB HW.out.bel h0)).mono ?_
      rintro e w1 ⟨rfl, hb1⟩
      rw [th_same, HO.out]
      have HW1 := hideIt (HW.out.below hb1)
      have HB := hideIt HW1.out.bel
      obtain ⟨b0, b1, b2, b3, b4, b5, b6⟩ := HW1.out.id
      clear hb1
      go_wp2_with fail
      refine (putIn_any l g cap o _ (HL.out.below HB.out hgw) hn hcap).mono ?_
      rintro e w2 ⟨G, c, rfl, hO2, hb2⟩
      have HO2 := hideIt (show OwnOps w2 w.heap.size G c (insL l o) from ownsRow_base HB.out.size hO2)
      have HB := hideIt (Bstep HB.out hb2)
      clear hO2 hb2
      go_wp2_with fail
      refine (implOps_any (insL l o) G c x _ HO2.out.at (by rw [insL_len]; omega) HO2.out.cap (errB HB.out h0 he) (posB HB.out h0)).mono ?_
      rintro e w3 ⟨rfl, hb3⟩
      rw [th_same, HI.out]
      have HO3 := hideIt (HO2.out.below hb3)
      have HB := hideIt (Bstep HB.out hb3)
      clear hb3
      go_wp2
      exact bodyPost_ret (v := .tuple #[.slice (some ⟨G, 0, none⟩) (insL l o).length c, .bool true]) (by simp [results, Tryd.results26, go_sem]) rfl ⟨_, rfl, HO3.out, HB.out⟩

set_option maxRecDepth 100000 in
set_option maxHeartbeats 1000000 in
theorem specWith_any (l : List Op7) (g cap : Nat) (o : Op7) (w : World) (hl : OpsAt w g l) (hn : l.length ≤ 1048576) (hcap : l.length ≤ cap) :
    Calls Tryd.prog 38 #[.slice (some ⟨g, 0, none⟩) l.length cap, .agg #[.int .i64 o.a, .int .i64 o.b, .int .i64 o.k, .int .i64 o.c, .int .i64 o.d, .int .i64 o.s, .int .i64 o.g]] w fun e w' =>
      ∃ v, e = .returned (.tuple #[v, .bool (okW l o)]) ∧ w'.ownsRow w.heap.size 29 7 v (ansW l o).length (opCells (ansW l o)) ∧ Below w.heap.size w w' := by
  have HL := hideIt hl
  have hgw := hl.1
  clear hl
  have HW : Hid (WL w (w.alloc (.cells #[.int .i64 o.a, .int .i64 o.b, .int .i64 o.k, .int .i64 o.c, .int .i64 o.d, .int .i64 o.s, .int .i64 o.g] 29)) o (.slice none 0 0) []) :=
    ⟨World.ownsRow_nil _ _ _ _, World.alloc_heap_new w _, (Below.refl _ _).alloc (Nat.le_refl _) _⟩
  cases hops : opsB l
  · have hz : okW l o = false := by unfold okW; rw [hops]; rfl
    rw [ansW_no hz, hz]
    clear hz
    have HO := hideIt hops
    clear hops
    go_enter Tryd.func38, Tryd.ntmps38
    go_wp2_with (first
      | (go_at_call 18; refine (specOps_any l g cap _ (HL.out.below HW.out.bel hgw) hn hcap).mono ?_; rintro e w1 ⟨rfl, hb1⟩; rw [HO.out]; have HB := hideIt (HW.out.below hb1).bel; clear hb1))
    exact bodyPost_ret (v := .tuple #[.slice (some ⟨w1.heap.size, 0, none⟩) 0 0, .bool false]) (by simp [results, Tryd.results38, go_sem]) rfl ⟨_, rfl, World.ownsRow_made (base := w.heap.size) (e := 29) (size := 7) _ #[] 0 HB.out.size (Nat.zero_le _) rfl, HB.out.alloc HB.out.size _⟩
  · have h36 := ops_36 hops
    have HOK : Hid (okW l o = (decide (findI l o.a o.b < 0) && opsB (withL l o))) := by show okW l o = _; unfold okW; rw [hops]; rfl
    have HO := hideIt hops
    clear hops
    by_cases hf : findI l o.a o.b < 0
    · have HF := hideIt (findI_w1 hf)
      cases hi : opsB (withL l o)
      · have hz : okW l o = false := by rw [HOK.out, hi, Bool.and_false]
        rw [ansW_no hz, hz]
        have HI := hideIt hi
        clear hi hz HOK hf
        go_enter Tryd.func38, Tryd.ntmps38
        go_wp2_with fail
        refine (specOps_any l g cap _ (HL.out.below HW.out.bel hgw) hn hcap).mono ?_
        rintro e w1 ⟨rfl, hb1⟩
        rw [HO.out]
        have HW1 := hideIt (HW.out.below hb1)
        obtain ⟨b0, b1, b2, b3, b4, b5, b6⟩ := HW1.out.id
        clear hb1
        go_wp2_with fail
        refine (l1Find_any l _ _ _ _ _ (HL.out.below HW1.out.bel hgw) hn hcap).mono ?_
        rintro e w2 ⟨rfl, hb2⟩
        rw [HF.out]
        have HW2 := hideIt (HW1.out.below hb2)
        clear hb2 b0 b1 b2 b3 b4 b5 b6
        obtain ⟨b0, b1, b2, b3, b4, b5, b6⟩ := HW2.out.id
        go_wp2_with fail
        refine (l3With_any l g cap o _ (HL.out.below HW2.out.bel hgw) hn hcap).mono ?_
        rintro e w3 ⟨G, c, rfl, hO3, hb3⟩
        have HO3 := hideIt (show OwnOps w3 w.heap.size G c (withL l o) from ownsRow_base HW2.out.bel.size hO3)
        have HB := hideIt (Bstep HW2.out.bel hb3)
        clear hO3 hb3
        go_wp2_with fail
        refine (specOps_any (withL l o) G c _ HO3.out.at (by have := withL_lenW l o; omega) HO3.out.cap).mono ?_
        rintro e w4 ⟨rfl, hb4⟩
        rw [HI.out]
        have HO4 := hideIt (HO3.out.below hb4)
        have HB := hideIt (Bstep HB.out hb4)
        clear hb4
        go_wp2
        exact bodyPost_ret (v := .tuple #[.slice (some ⟨w4.heap.size, 0, none⟩) 0 0, .bool false]) (by simp [results, Tryd.results38, go_sem]) rfl ⟨_, rfl, World.ownsRow_made (base := w.heap.size) (e := 29) (size := 7) _ #[] 0 HB.out.size (Nat.zero_le _) rfl, HB.out.alloc HB.out.size _⟩
      · have hz : okW l o = true := by rw [HOK.out, hi]; simp [hf]
        rw [ansW_yes hz, hz]
        have HI := hideIt hi
        clear hi hz HOK hf
        go_enter Tryd.func38, Tryd.ntmps38
        go_wp2_with fail
        refine (specOps_any l g cap _ (HL.out.below HW.out.bel hgw) hn hcap).mono ?_
        rintro e w1 ⟨rfl, hb1⟩
        rw [HO.out]
        have HW1 := hideIt (HW.out.below hb1)
        obtain ⟨b0, b1, b2, b3, b4, b5, b6⟩ := HW1.out.id
        clear hb1
        go_wp2_with fail
        refine (l1Find_any l _ _ _ _ _ (HL.out.below HW1.out.bel hgw) hn hcap).mono ?_
        rintro e w2 ⟨rfl, hb2⟩
        rw [HF.out]
        have HW2 := hideIt (HW1.out.below hb2)
        clear hb2 b0 b1 b2 b3 b4 b5 b6
        obtain ⟨b0, b1, b2, b3, b4, b5, b6⟩ := HW2.out.id
        go_wp2_with fail
        refine (l3With_any l g cap o _ (HL.out.below HW2.out.bel hgw) hn hcap).mono ?_
        rintro e w3 ⟨G, c, rfl, hO3, hb3⟩
        have HO3 := hideIt (show OwnOps w3 w.heap.size G c (withL l o) from ownsRow_base HW2.out.bel.size hO3)
        have HB := hideIt (Bstep HW2.out.bel hb3)
        clear hO3 hb3
        go_wp2_with fail
        refine (specOps_any (withL l o) G c _ HO3.out.at (by have := withL_lenW l o; omega) HO3.out.cap).mono ?_
        rintro e w4 ⟨rfl, hb4⟩
        rw [HI.out]
        have HO4 := hideIt (HO3.out.below hb4)
        have HB := hideIt (Bstep HB.out hb4)
        clear hb4
        go_wp2
        exact bodyPost_ret (v := .tuple #[.slice (some ⟨G, 0, none⟩) (withL l o).length c, .bool true]) (by simp [results, Tryd.results38, go_sem]) rfl ⟨_, rfl, HO4.out, HB.out⟩
    · have hz : okW l o = false := by rw [HOK.out]; simp [hf]
      rw [ansW_no hz, hz]
      obtain ⟨kf, hkf⟩ := findI_w0 hf
      have HF := hideIt hkf
      have hk0 : ¬ (kf : Int) < 0 := by omega
      clear hz HOK hf hkf
      go_enter Tryd.func38, Tryd.ntmps38
      go_wp2_with fail
      refine (specOps_any l g cap _ (HL.out.below HW.out.bel hgw) hn hcap).mono ?_
      rintro e w1 ⟨rfl, hb1⟩
      rw [HO.out]
      have HW1 := hideIt (HW.out.below hb1)
      obtain ⟨b0, b1, b2, b3, b4, b5, b6⟩ := HW1.out.id
      clear hb1
      go_wp2_with fail
      refine (l1Find_any l _ _ _ _ _ (HL.out.below HW1.out.bel hgw) hn hcap).mono ?_
      rintro e w2 ⟨rfl, hb2⟩
      rw [HF.out]
      have HW2 := hideIt (HW1.out.below hb2)
      clear hb2 b0 b1 b2 b3 b4 b5 b6
      obtain ⟨b0, b1, b2, b3, b4, b5, b6⟩ := HW2.out.id
      go_wp2
      have HB := hideIt HW2.out.bel
      exact bodyPost_ret (v := .tuple #[.slice (some ⟨w2.heap.size, 0, none⟩) 0 0, .bool false]) (by simp [results, Tryd.results38, go_sem]) rfl ⟨_, rfl, World.ownsRow_made (base := w.heap.size) (e := 29) (size := 7) _ #[] 0 HB.out.size (Nat.zero_le _) rfl, HB.out.alloc HB.out.size _⟩
end Go.Proofs.YtjadkhejdbdpoaaDoor

namespace Go.Proofs.YtjadkhejdbdpoaaDoor
open Go.RowKit
set_option linter.unusedSimpArgs false
set_option linter.unusedVariables false

theorem find_none_new {l : List Op7} {o : Op7} (h : ∀ p ∈ l, ¬ (p.a = o.a ∧ p.b = o.b)) : findI l o.a o.b = -1 := by
  refine findI_none fun q hq => ?_
  cases hb : hasId o.a o.b q
  · rfl
  · unfold hasId at hb
    simp at hb
    exact absurd ⟨hb.1, hb.2⟩ (h q hq)
theorem okW_can {l : List Op7} {o : Op7} (h : opsB l = true) (hc : CanL l o) : okW l o = true ∧ opsB (withL l o) = true := by
  have h2 := (can_iff h hc.new).2 hc
  refine ⟨?_, h2⟩
  unfold okW
  rw [h, find_none_new hc.new, h2]
  rfl
theorem stand_ok {l : List Op7} (h : opsB l = true) : standL l = allO l := by unfold standL; rw [if_pos h]
/-- The text behind taking something away. -/
theorem take_done {l : List Op7} {r t : Int} (h : mayTake l r t = true) : okW l (takeO l r t.toNat) = true ∧ opsB l = true ∧ opsB (withL l (takeO l r t.toNat)) = true ∧ (0 ≤ t ∧ t.toNat + 1 ≤ (txtB (shown (lfs l (standL l)))).size) ∧ (standL (withL l (takeO l r t.toNat))).length = (standL l).length ∧
    txtB (shown (lfs (withL l (takeO l r t.toNat)) (standL (withL l (takeO l r t.toNat))))) = (txtB (shown (lfs l (standL l)))).extract 0 t.toNat ++ (txtB (shown (lfs l (standL l)))).extract (t.toNat + 1) (txtB (shown (lfs l (standL l)))).size := by
  unfold mayTake inB at h
  simp only [Bool.and_eq_true, decide_eq_true_eq] at h
  obtain ⟨hm, ht0, ht1⟩ := h
  have ho := (may_parts hm).1
  have htl : t.toNat < (shownI (lvs l)).length := by omega
  obtain ⟨hc, A, p, B, he, hid, hg, hn⟩ := take_can hm htl
  obtain ⟨hok, hw⟩ := okW_can ho hc
  have hp : (takeO l r t.toNat).c = p.a ∧ (takeO l r t.toNat).d = p.b := by
    unfold takeO
    rw [← hid]
    exact ⟨rfl, rfl⟩
  obtain ⟨e1, e2⟩ := take_text ho hc rfl he hp hg
  rw [stand_ok ho, stand_ok hw]
  have hl : (shown (lfs l A)).length = t.toNat := by rw [shown_n, hn]
  refine ⟨hok, ho, hw, ⟨ht0, ?_⟩, by rw [all_take ho hc rfl], ?_⟩
  · rw [txtB_size, e1]
    simp [hl]
  · rw [e1, e2, txtB_size]
    have h1 : (txtB (shown (lfs l A) ++ p.g % 256 :: shown (lfs l B))).extract 0 t.toNat = txtB (shown (lfs l A)) := by rw [← hl]; exact txt_take _ _
    have h2 : (txtB (shown (lfs l A) ++ p.g % 256 :: shown (lfs l B))).extract (t.toNat + 1) (shown (lfs l A) ++ p.g % 256 :: shown (lfs l B)).length = txtB (shown (lfs l B)) := by
      have := txt_drop (shown (lfs l A) ++ [p.g % 256]) (shown (lfs l B))
      simp only [List.append_assoc, List.singleton_append, List.length_append, List.length_cons, List.length_nil] at this ⊢
      rw [← hl]
      exact this
    rw [h1, h2, txtB_app]
/-- The text behind putting a sign. -/
theorem put_done {l : List Op7} {r t sg : Int} (h : mayPut l r t sg = true) : okW l (putO l r t.toNat sg) = true ∧ opsB l = true ∧ opsB (withL l (putO l r t.toNat sg)) = true ∧ (0 ≤ t ∧ t.toNat ≤ (txtB (shown (lfs l (standL l)))).size) ∧ (97 ≤ sg ∧ sg ≤ 122) ∧
    txtB (shown (lfs (withL l (putO l r t.toNat sg)) (standL (withL l (putO l r t.toNat sg))))) = (txtB (shown (lfs l (standL l)))).extract 0 t.toNat ++ txtB [sg] ++ (txtB (shown (lfs l (standL l)))).extract t.toNat (txtB (shown (lfs l (standL l)))).size := by
  unfold mayPut inB at h
  simp only [Bool.and_eq_true, decide_eq_true_eq] at h
  obtain ⟨hm, hsg, ht0, ht1⟩ := h
  have ho := (may_parts hm).1
  obtain ⟨hc, hx, A, B, he, hwe, hn⟩ := put_can (t := t.toNat) hm hsg (by omega)
  obtain ⟨hok, hw⟩ := okW_can ho hc
  have hk : (putO l r t.toNat sg).k = 1 := by unfold putO; split <;> rfl
  have hgg : (putO l r t.toNat sg).g = sg := by unfold putO; split <;> rfl
  obtain ⟨e1, e2⟩ := put_text ho hc hk he hwe
  rw [stand_ok ho, stand_ok hw]
  have hl : (shown (lfs l A)).length = t.toNat := by rw [shown_n, hn]
  refine ⟨hok, ho, hw, ⟨ht0, ?_⟩, hsg, ?_⟩
  · rw [txtB_size, e1]
    simp [hl]
  · rw [e1, e2, txtB_size, hgg, show sg % 256 = sg by omega]
    have h1 : (txtB (shown (lfs l A) ++ shown (lfs l B))).extract 0 t.toNat = txtB (shown (lfs l A)) := by rw [← hl]; exact txt_take _ _
    have h2 : (txtB (shown (lfs l A) ++ shown (lfs l B))).extract t.toNat (shown (lfs l A) ++ shown (lfs l B)).length = txtB (shown (lfs l B)) := by rw [← hl]; exact txt_drop _ _
    rw [h1, h2, txtB_app, txtB_app]
    simp
end Go.Proofs.YtjadkhejdbdpoaaDoor
