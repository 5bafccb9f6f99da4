/- The contract of the program's DocOk. -/
import Derived.Test.YtficnhlkefpfnaaDoorP0
import Derived.Test.YtficnhlkefpfnaaDoorP2
namespace Go.Proofs.YtficnhlkefpfnaaDoor
open Go.RowKit
set_option linter.unusedSimpArgs false
set_option linter.unusedVariables false
attribute [local go_sem ↓] Go.wp_at_zero Go.wp_at_succ

theorem repI_any (n : Int) (w : World) :
    Calls Tryd.prog 65 #[.int .i64 n] w fun e w' => e = .returned (.bool (inB n 1 3)) ∧ Below w.heap.size w w' := by
  go_enter Tryd.func65, Tryd.ntmps65
  go_wp2
  all_goals
    go_ret
    exact ⟨ret_bool (by (try simp only [inB, Bool.not_eq_true, decide_eq_true_eq, decide_eq_false_iff_not, bne_iff_ne, beq_iff_eq, beq_eq_false_iff_ne, ne_eq] at *); first | (apply decide_eq_decide.2; omega) | (symm; apply decide_eq_true; omega) | (symm; apply decide_eq_false; omega) | (rw [Bool.eq_iff_iff]; simp only [Bool.and_eq_true, Bool.or_eq_true, decide_eq_true_eq, beq_iff_eq, bne_iff_ne, Bool.not_eq_true, ne_eq]; omega)), Below.refl _ _⟩
/-- Numbers of how much of each was seen. -/
def vecB (s : List Int) : Bool := s.all (fun n => inB n 0 12) && decide (s.length = 3)
theorem vec_no {s : List Int} {k : Nat} (hk : k < s.length) (h : inB s[k] 0 12 = false) : vecB s = false := by
  unfold vecB
  have : s.all (fun n => inB n 0 12) = false := by
    rw [List.all_eq_false]
    exact ⟨s[k], List.getElem_mem hk, by simp [h]⟩
  rw [this]; rfl
theorem vec_all {s : List Int} (h : ∀ j (hj : j < s.length), inB s[j] 0 12 = true) : vecB s = decide (s.length = 3) := by
  unfold vecB
  have : s.all (fun n => inB n 0 12) = true := by
    rw [List.all_eq_true]
    intro x hx
    obtain ⟨j, hj, rfl⟩ := List.getElem_of_mem hx
    exact h j hj
  rw [this]; rfl
set_option maxHeartbeats 1000000 in
theorem specVec_any (s : List Int) (g cap : Nat) (w : World) (hs : IntsAt w g s) (hn : s.length ≤ 1048576) (hcap : s.length ≤ cap) :
    Calls Tryd.prog 63 #[.slice (some ⟨g, 0, none⟩) s.length cap] w fun e w' => e = .returned (.bool (vecB s)) ∧ Below w.heap.size w w' := by
  have HS := hideIt hs
  have hgw := hs.1
  clear hs
  go_enter Tryd.func63, Tryd.ntmps63
  go_wp2
  go_loopw [3] (fun i wr => ∃ k : Nat, k ≤ s.length ∧ i = .int .i64 k ∧ (∀ j (hj : j < s.length), j < k → inB s[j] 0 12 = true) ∧ Below w.heap.size w wr) (fun i _ => s.length - (intOf i).toNat)
  case atStart => exact ⟨0, Nat.zero_le _, rfl, fun j hj h => by omega, by go_grown⟩
  case round =>
    obtain ⟨k, hk, rfl, hall, hB⟩ := hrel
    have HB := hideIt hB
    have HA := hideIt hall
    clear hB hall
    by_cases hlt : k < s.length
    · have hlt' : (k : Int) < (s.length : Int) := by omega
      have hk0 : (0 : Int) ≤ (k : Int) := by omega
      have y0 := (HS.out.below HB.out hgw).2 k s[k] (by simp [hlt])
      have hbad : Hid (inB s[k] 0 12 = false → vecB s = false) := fun h => vec_no hlt h
      have hnext : Hid (inB s[k] 0 12 = true → ∀ j (hj : j < s.length), j < k + 1 → inB s[j] 0 12 = true) := fun h j hj hj1 => by
        rcases Nat.lt_or_ge j k with h1 | h1
        · exact HA.out j hj h1
        · obtain rfl : j = k := by omega
          exact h
      generalize s[k] = n at *
      go_wp2_with fail
      refine (l6In_any n 0 12 _).mono ?_
      rintro e w2 ⟨rfl, hw2⟩
      rw [hw2]
      clear hw2 y0
      cases hi : inB n 0 12
      · have HR := hideIt (hbad.out hi)
        go_wp2
        go_ret
        exact ⟨ret_bool HR.out.symm, HB.out⟩
      · have HN := hideIt (hnext.out hi)
        go_wp2
        exact ⟨⟨k + 1, by omega, by go_num, HN.out, HB.out⟩, by simp [intOf]; omega⟩
    · obtain rfl : k = s.length := by omega
      have HR := hideIt (vec_all (s := s) fun j hj => HA.out j hj hj)
      go_wp2
      go_ret
      refine ⟨ret_bool ?_, HB.out⟩
      rw [HR.out]
      by_cases h3 : s.length = 3
      · simp [h3]
      · have : ¬ ((s.length : Int) = 3) := by omega
        simp [h3, this]
set_option maxHeartbeats 1000000 in
theorem implVec_any (s : List Int) (g cap : Nat) (w : World) (hs : IntsAt w g s) (hn : s.length ≤ 1048576) (hcap : s.length ≤ cap) :
    Calls Tryd.prog 66 #[.slice (some ⟨g, 0, none⟩) s.length cap] w fun e w' => e = .returned (.bool (vecB s)) ∧ Below w.heap.size w w' := by
  have HS := hideIt hs
  have hgw := hs.1
  clear hs
  go_enter Tryd.func66, Tryd.ntmps66
  by_cases h3 : s.length = 3
  · have h3' : (s.length : Int) = 3 := by omega
    go_wp2
    go_loopw [10] (fun i wr => ∃ k : Nat, k ≤ s.length ∧ i = .int .i64 k ∧ (∀ j (hj : j < s.length), j < k → inB s[j] 0 12 = true) ∧ Below w.heap.size w wr) (fun i _ => s.length - (intOf i).toNat)
    case atStart => exact ⟨0, Nat.zero_le _, rfl, fun j hj h => by omega, by go_grown⟩
    case round =>
      obtain ⟨k, hk, rfl, hall, hB⟩ := hrel
      have HB := hideIt hB
      have HA := hideIt hall
      clear hB hall
      by_cases hlt : k < s.length
      · have hlt' : (k : Int) < 3 := by omega
        have hlt2 : (k : Int) < (s.length : Int) := by omega
        have hk0 : (0 : Int) ≤ (k : Int) := by omega
        have y0 := (HS.out.below HB.out hgw).2 k s[k] (by simp [hlt])
        have hbad : Hid (inB s[k] 0 12 = false → vecB s = false) := fun h => vec_no hlt h
        have hnext : Hid (inB s[k] 0 12 = true → ∀ j (hj : j < s.length), j < k + 1 → inB s[j] 0 12 = true) := fun h j hj hj1 => by
          rcases Nat.lt_or_ge j k with h1 | h1
          · exact HA.out j hj h1
          · obtain rfl : j = k := by omega
            exact h
        generalize s[k] = n at *
        by_cases h1 : n < 0
        · have HR := hideIt (hbad.out (by simp [inB]; omega))
          go_wp2
          go_ret
          exact ⟨ret_bool HR.out.symm, HB.out⟩
        · by_cases h2 : 12 < n
          · have HR := hideIt (hbad.out (by simp [inB]; omega))
            go_wp2
            go_ret
            exact ⟨ret_bool HR.out.symm, HB.out⟩
          · have HN := hideIt (hnext.out (by simp [inB]; omega))
            go_wp2
            exact ⟨⟨k + 1, by omega, by go_num, HN.out, HB.out⟩, by simp [intOf]; omega⟩
      · obtain rfl : k = s.length := by omega
        have HR := hideIt (vec_all (s := s) fun j hj => HA.out j hj hj)
        go_wp2
        go_ret
        exact ⟨ret_bool (by rw [HR.out, decide_eq_true h3]), HB.out⟩
  · have h3' : ¬ ((s.length : Int) = 3) := by omega
    go_wp2
    go_ret
    exact ⟨ret_bool (by unfold vecB; rw [decide_eq_false h3]; simp), Below.refl _ _⟩
end Go.Proofs.YtficnhlkefpfnaaDoor

namespace Go.Proofs.YtficnhlkefpfnaaDoor
open Go.RowKit
set_option linter.unusedSimpArgs false
set_option linter.unusedVariables false
attribute [local go_sem ↓] Go.wp_at_zero Go.wp_at_succ

/-- A desk at work, in its block. -/
def WorkAt (W : World) (b : Nat) (u v : Value) (r : Int) (z : Value) : Prop := W.heap[b]? = some (.cells #[u, v, .int .i64 r, z] 89 (0, 0))
theorem WorkAt.below {W W' : World} {b : Nat} {u v z : Value} {r : Int} (h : WorkAt W b u v r z) (hb : Below W.heap.size W W') : WorkAt W' b u v r z := blk_below h hb
theorem WorkAt.keep {w W : World} {b : Nat} {u v z : Value} {r : Int} (h : WorkAt w b u v r z) (hb : Below w.heap.size w W) : WorkAt W b u v r z := blk_below h hb
theorem WorkAt.cells {W : World} {b : Nat} {u v z : Value} {r : Int} (h : WorkAt W b u v r z) : W.cell? ⟨b, 0, none⟩ = some u ∧ W.cell? ⟨b, 1, none⟩ = some v ∧ W.cell? ⟨b, 2, none⟩ = some (.int .i64 r) ∧ W.cell? ⟨b, 3, none⟩ = some z := ⟨(blk_cell h 0).trans rfl, (blk_cell h 1).trans rfl, (blk_cell h 2).trans rfl, (blk_cell h 3).trans rfl⟩

theorem workOf_any (r : Int) (p q t : Option Addr) (n c m d k e : Nat) (w : World) :
    Calls Tryd.prog 64 #[.agg #[.int .i64 r, .slice p n c, .slice q m d, .slice t k e]] w fun en w' => ∃ b, en = .returned (.pointer (some ⟨b, 0, none⟩)) ∧ w.heap.size ≤ b ∧ WorkAt w' b (.slice p n c) (.slice q m d) r (.slice t k e) ∧ Below w.heap.size w w' := by
  go_enter Tryd.func64, Tryd.ntmps64
  go_wp2
  go_ret
  refine ⟨_, rfl, Nat.le_succ _, ?_, ((Below.refl _ _).alloc (Nat.le_refl _) _).alloc (by simp) _⟩
  have h := World.alloc_heap_new (w.alloc (.cells #[.int .i64 r, .slice p n c, .slice q m d, .slice t k e] 41)) (.cells #[.slice p n c, .slice q m d, .int .i64 r, .slice t k e] 89)
  rw [World.size_alloc] at h
  exact h
theorem isOwn_any (b : Nat) (o : Op7) (u v z : Value) (r : Int) (w : World) (h : WorkAt w b u v r z) :
    Calls Tryd.prog 68 #[.pointer (some ⟨b, 0, none⟩), .agg #[.int .i64 o.a, .int .i64 o.b, .int .i64 o.k, .int .i64 o.c, .int .i64 o.d, .int .i64 o.s, .int .i64 o.g]] w fun en w' => en = .returned (.bool (o.a == r)) ∧ Below w.heap.size w w' := by
  obtain ⟨h0, h1, h2, h3⟩ := h.cells
  have hl := (Array.getElem?_eq_some_iff.1 h).1
  have HB := hideIt ((Below.refl w.heap.size w).alloc (Nat.le_refl _) (.cells #[.int .i64 o.a, .int .i64 o.b, .int .i64 o.k, .int .i64 o.c, .int .i64 o.d, .int .i64 o.s, .int .i64 o.g] 71))
  go_enter Tryd.func68, Tryd.ntmps68
  go_wp2
  go_quiet (fail)
  go_wp2
  go_ret
  exact ⟨ret_bool (by by_cases h : o.a = r <;> simp [h]), below_drewN HB.out _⟩

end Go.Proofs.YtficnhlkefpfnaaDoor

namespace Go.Proofs.YtficnhlkefpfnaaDoor
open Go.RowKit
set_option linter.unusedSimpArgs false
set_option linter.unusedVariables false
attribute [local go_sem ↓] Go.wp_at_zero Go.wp_at_succ

/-- Things that rightly wait, in order, behind an id. -/
def waitsTo (l : List Op7) : Int → Int → List Op7 → Bool
  | _, _, [] => true
  | a, b, o :: t => decide (a < o.a ∨ (a = o.a ∧ b < o.b)) && (waitsB l o && waitsTo l o.a o.b t)
/-- A doc that is ok. -/
def docB (l ws : List Op7) : Bool := opsB l && (decide (ws.length ≤ 20) && waitsTo l 0 0 ws)
/-- A doc in its box, and the last id in its own. -/
structure DL (w W : World) (D B : Nat) (u v : Value) (a b : Int) : Prop where
  box : W.heap[D]? = some (.cells #[u, v] 39 (0, 0))
  last : W.heap[B]? = some (.cells #[.int .i64 a, .int .i64 b] 69 (0, 0))
  bel : Below w.heap.size w W
theorem DL.below {w W W' : World} {D B : Nat} {u v : Value} {a b : Int} (h : DL w W D B u v a b) (hb : Below W.heap.size W W') : DL w W' D B u v a b := ⟨blk_below h.box hb, blk_below h.last hb, Bstep h.bel hb⟩
theorem set_id {W : World} {b : Nat} {T : TypeId} {u v u' v' : Value} (h : W.heap[b]? = some (.cells #[u, v] T (0, 0))) : ((W.setCell ⟨b, 0, none⟩ u').setCell ⟨b, 1, none⟩ v').heap[b]? = some (.cells #[u', v'] T (0, 0)) := by
  simp only [World.setCell, Array.getElem?_modify, if_true, h, Option.map_some]
  rfl
theorem set_away {W : World} {b c i : Nat} {u : Value} {o : Obj} (h : W.heap[b]? = some o) (hne : b ≠ c) : (W.setCell ⟨c, i, none⟩ u).heap[b]? = some o :=
  (Below.heap_setCell W ⟨c, i, none⟩ u b hne).trans h
theorem DL.put {w W : World} {D B : Nat} {u v : Value} {a b : Int} (h : DL w W D B u v a b) (hne : D ≠ B) (hB : w.heap.size ≤ B) (a' b' : Int) : DL w ((W.setCell ⟨B, 0, none⟩ (.int .i64 a')).setCell ⟨B, 1, none⟩ (.int .i64 b')) D B u v a' b' :=
  ⟨set_away (set_away h.box hne) hne, set_id h.last, (h.bel.setCell (p := ⟨B, 0, none⟩) hB _).setCell (p := ⟨B, 1, none⟩) hB _⟩

set_option maxRecDepth 100000 in
set_option maxHeartbeats 2000000 in
theorem implDoc_any (l ws : List Op7) (g cap g2 cap2 : Nat) (x : Addr) (w : World) (hl : OpsAt w g l) (hn : l.length ≤ 1048576) (hcap : l.length ≤ cap) (hs : OpsAt w g2 ws) (hn2 : ws.length ≤ 1048576) (hcap2 : ws.length ≤ cap2)
    (he : w.cell? ⟨0, 0, none⟩ = some (.iface 200 (.pointer (some x)))) (h0 : 0 < w.heap.size) :
    Calls Tryd.prog 43 #[.agg #[.slice (some ⟨g, 0, none⟩) l.length cap, .slice (some ⟨g2, 0, none⟩) ws.length cap2]] w fun e w' => e = .returned (.bool (docB l ws)) ∧ Below w.heap.size w w' := by
  have HL := hideIt hl
  have HS := hideIt hs
  have hgw := hl.1
  have hgs := hs.1
  clear hl hs
  have HB0 : Hid (Below w.heap.size w (w.alloc (.cells #[.slice (some ⟨g, 0, none⟩) l.length cap, .slice (some ⟨g2, 0, none⟩) ws.length cap2] 39))) := (Below.refl _ _).alloc (Nat.le_refl _) _
  have HD0 : Hid ((w.alloc (.cells #[.slice (some ⟨g, 0, none⟩) l.length cap, .slice (some ⟨g2, 0, none⟩) ws.length cap2] 39)).heap[w.heap.size]? = some (.cells #[.slice (some ⟨g, 0, none⟩) l.length cap, .slice (some ⟨g2, 0, none⟩) ws.length cap2] 39 (0, 0))) := World.alloc_heap_new _ _
  cases ho : opsB l
  all_goals
    have HO := hideIt ho
    clear ho
    go_enter Tryd.func43, Tryd.ntmps43
    go_wp2_with fail
    refine (implOps_any l _ _ x _ (HL.out.below HB0.out hgw) hn hcap (errB HB0.out h0 he) (posB HB0.out h0)).mono ?_
    rintro e w1 ⟨rfl, hb1⟩
    rw [th_same, HO.out]
    have HD1 := hideIt (blk_below HD0.out hb1)
    have HB1 := hideIt (Bstep HB0.out hb1)
    clear hb1 HD0 HB0
    have d0 := (blk_cell HD1.out 0).trans rfl
    have d1 := (blk_cell HD1.out 1).trans rfl
    have dl := (Array.getElem?_eq_some_iff.1 HD1.out).1
  · go_wp2
    go_ret
    exact ⟨ret_bool (by unfold docB; rw [HO.out]; rfl), HB1.out⟩
  · by_cases h20 : ws.length ≤ 20
    · have h20' : ¬ ((20 : Int) < (ws.length : Int)) := by omega
      have HR : Hid (docB l ws = waitsTo l 0 0 ws) := by show docB l ws = _; unfold docB; rw [HO.out, decide_eq_true h20]; rfl
      have HDL : Hid (DL w (w1.alloc (.cells #[.int .i64 0, .int .i64 0] 69)) w.heap.size w1.heap.size (.slice (some ⟨g, 0, none⟩) l.length cap) (.slice (some ⟨g2, 0, none⟩) ws.length cap2) 0 0) := ⟨blk_below HD1.out ((Below.refl _ _).alloc (Nat.le_refl _) _), World.alloc_heap_new _ _, HB1.out.alloc HB1.out.size _⟩
      have hDB : w.heap.size ≠ w1.heap.size := by omega
      have hBB : w.heap.size ≤ w1.heap.size := by omega
      go_wp2
      generalize w1.alloc (.cells #[.int .i64 0, .int .i64 0] 69) = W2 at *
      clear d0 d1 dl HD1 HB1
      generalize w1.heap.size = B at *
      go_loopw [20] (fun i wr => ∃ k : Nat, k ≤ ws.length ∧ i = .int .i64 k ∧ ∃ a b, waitsTo l 0 0 ws = waitsTo l a b (ws.drop k) ∧ DL w wr w.heap.size B (.slice (some ⟨g, 0, none⟩) l.length cap) (.slice (some ⟨g2, 0, none⟩) ws.length cap2) a b) (fun i _ => ws.length - (intOf i).toNat)
      case atStart => exact ⟨0, Nat.zero_le _, rfl, 0, 0, rfl, HDL.out⟩
      case round =>
        clear HDL
        obtain ⟨k, hk, rfl, a, b, hwt, hD⟩ := hrel
        have HD := hideIt hD
        have HW := hideIt hwt
        clear hD hwt
        by_cases hlt : k < ws.length
        · have hlt' : (k : Int) < (ws.length : Int) := by omega
          have hk0 : (0 : Int) ≤ (k : Int) := by omega
          obtain ⟨y0, y1, y2, y3, y4, y5, y6⟩ := (HS.out.below HD.out.bel hgs).2 k ws[k] (by simp [hlt])
          have hdr : ws.drop k = ws[k] :: ws.drop (k + 1) := List.drop_eq_getElem_cons hlt
          have HW2 : Hid (waitsTo l 0 0 ws = (decide (a < ws[k].a ∨ (a = ws[k].a ∧ b < ws[k].b)) && (waitsB l ws[k] && waitsTo l ws[k].a ws[k].b (ws.drop (k + 1))))) := by
            have h := HW.out
            rw [hdr] at h
            exact h
          clear hdr
          generalize ws[k] = o at *
          have b0 := (blk_cell HD.out.last 0).trans rfl
          have b1 := (blk_cell HD.out.last 1).trans rfl
          have bl := (Array.getElem?_eq_some_iff.1 HD.out.last).1
          have d0 := (blk_cell HD.out.box 0).trans rfl
          have d1 := (blk_cell HD.out.box 1).trans rfl
          have dl := (Array.getElem?_eq_some_iff.1 HD.out.box).1
          have HBX : Hid (Below wr.heap.size wr (wr.alloc (.cells #[.int .i64 o.a, .int .i64 o.b, .int .i64 o.k, .int .i64 o.c, .int .i64 o.d, .int .i64 o.s, .int .i64 o.g] 71))) := (Below.refl _ _).alloc (Nat.le_refl _) _
          have HOB : Hid ((wr.alloc (.cells #[.int .i64 o.a, .int .i64 o.b, .int .i64 o.k, .int .i64 o.c, .int .i64 o.d, .int .i64 o.s, .int .i64 o.g] 71)).heap[wr.heap.size]? = some (.cells #[.int .i64 o.a, .int .i64 o.b, .int .i64 o.k, .int .i64 o.c, .int .i64 o.d, .int .i64 o.s, .int .i64 o.g] 71 (0, 0))) := World.alloc_heap_new _ _
          have hBw : B < wr.heap.size := bl
          go_wp2_with fail
          have HD := hideIt (HD.out.below HBX.out)
          clear b0 b1 bl d0 d1 dl y0 y1 y2 y3 y4 y5 y6 HBX
          generalize wr.alloc (.cells #[.int .i64 o.a, .int .i64 o.b, .int .i64 o.k, .int .i64 o.c, .int .i64 o.d, .int .i64 o.s, .int .i64 o.g] 71) = W1 at *
          have hOB : wr.heap.size ≠ B := by omega
          generalize wr.heap.size = O at *
          refine (implLess_any _ _ _ _ _).mono ?_
          rintro e w2 ⟨rfl, hb2⟩
          have HD := hideIt (HD.out.below hb2)
          have HOB := hideIt (blk_below HOB.out hb2)
          clear hb2
          have d0 := (blk_cell HD.out.box 0).trans rfl
          have d1 := (blk_cell HD.out.box 1).trans rfl
          have dl := (Array.getElem?_eq_some_iff.1 HD.out.box).1
          have o0 := (blk_cell HOB.out 0).trans rfl
          have o1 := (blk_cell HOB.out 1).trans rfl
          have o2 := (blk_cell HOB.out 2).trans rfl
          have o3 := (blk_cell HOB.out 3).trans rfl
          have o4 := (blk_cell HOB.out 4).trans rfl
          have o5 := (blk_cell HOB.out 5).trans rfl
          have o6 := (blk_cell HOB.out 6).trans rfl
          have ol := (Array.getElem?_eq_some_iff.1 HOB.out).1
          obtain ⟨ls, hls⟩ : ∃ ls, decide (a < o.a ∨ (a = o.a ∧ b < o.b)) = ls := ⟨_, rfl⟩
          rw [hls] at HW2
          rw [hls]
          clear hls
          cases ls
          · go_wp2
            go_ret
            exact ⟨ret_bool (by rw [HR.out, HW2.out]; rfl), HD.out.bel⟩
          · cases hwb : waitsB l o
            all_goals
              have HWB := hideIt hwb
              clear hwb
              go_wp2_with fail
              refine (waits_any l HO.out g cap o x _ (HL.out.below HD.out.bel hgw) hn hcap (errB HD.out.bel h0 he) (posB HD.out.bel h0)).mono ?_
              rintro e w3 ⟨rfl, hb3⟩
              rw [HWB.out]
              have HD := hideIt (HD.out.below hb3)
              have HOB := hideIt (blk_below HOB.out hb3)
              clear hb3 d0 d1 dl o0 o1 o2 o3 o4 o5 o6 ol
            · go_wp2
              go_ret
              exact ⟨ret_bool (by rw [HR.out, HW2.out, HWB.out]; rfl), HD.out.bel⟩
            · have o0 := (blk_cell HOB.out 0).trans rfl
              have o1 := (blk_cell HOB.out 1).trans rfl
              have ol := (Array.getElem?_eq_some_iff.1 HOB.out).1
              have b0 := (blk_cell HD.out.last 0).trans rfl
              have b1 := (blk_cell HD.out.last 1).trans rfl
              have bl := (Array.getElem?_eq_some_iff.1 HD.out.last).1
              have bf : ∀ j, w3.frozen? ⟨B, j, none⟩ = false := fun j => by simp [World.frozen?, HD.out.last]
              go_wp2
              exact ⟨⟨k + 1, by omega, by go_num, o.a, o.b, by rw [HW2.out, HWB.out]; rfl, HD.out.put hDB hBB _ _⟩, by simp [intOf]; omega⟩
        · obtain rfl : k = ws.length := by omega
          go_wp2
          go_ret
          exact ⟨ret_bool (by rw [HR.out, HW.out, List.drop_length]; rfl), HD.out.bel⟩
    · have h20' : (20 : Int) < (ws.length : Int) := by omega
      go_wp2
      go_ret
      exact ⟨ret_bool (by unfold docB; rw [HO.out, decide_eq_false h20]; rfl), HB1.out⟩
end Go.Proofs.YtficnhlkefpfnaaDoor
