/-
  PROVED: what two take away is gone as if one had, and what one puts another one takes away so that the text is as it was, whatever bytes what was done, who takes and where are drawn from; and TypeTake answers as the specification's does (the given card of FnTakeTwice), for every input; the one listed variable, the program's error, reads as its own initialiser lays it.
-/
import Derived.Test.YtedanlmippfojaaDoorP5
import Derived.Test.YtedanlmippfojaaDoorP2
import Derived.Test.YtedanlmippfojaaDoorP0
import Derived.Test.YtedanlmippfojaaDoorP4
import Derived.Test.YtedanlmippfojaaDoorP6
import Derived.Test.YtedanlmippfojaaDoorP3
import Derived.Test.YtedanlmippfojaaDoorRows
import Derived.WalkKit
import Derived.ProofKit
import Derived.OpenShut
import Derived.ChangeOld
import Derived.Below
import Derived.Lib.SmallJoins
import Derived.Stop.LaidErr
import Derived.LaidMore
import Derived.Stop.Joined
import Derived.ChangeSlices
import Derived.Test.YtedanlmippfojaaDoorTie
import Derived.Test.YtedanlmippfojaaDoorCards
import Derived.SevenTiedAt
namespace Go.Proofs.YtedanlmippfojaaDoor
open Go.RowKit Go.Shelf
set_option linter.unusedSimpArgs false
set_option linter.unusedVariables false
attribute [local go_sem ↓] Go.wp_at_zero Go.wp_at_succ build_op0 build_opTake build_opPut

set_option maxRecDepth 100000 in
set_option maxHeartbeats 2000000 in
theorem takingAt_any (l : List Op7) (g cap : Nat) (r t : Int) (x : Addr) (w : World) (hl : OpsAt w g l) (hn : l.length ≤ 1048576) (hcap : l.length ≤ cap)
    (he : w.cell? ⟨0, 0, none⟩ = some (.iface 203 (.pointer (some x)))) (h0 : 0 < w.heap.size) :
    Calls Tryd.prog 71 #[.slice (some ⟨g, 0, none⟩) l.length cap, .int .i64 r, .int .i64 t] w fun e w' =>
      ((mayTake l r t = false ∧ e = .returned (.tuple #[.agg #[.int .i64 0, .int .i64 0, .int .i64 0, .int .i64 0, .int .i64 0, .int .i64 0, .int .i64 0], .iface 203 (.pointer (some x))])) ∨
       (mayTake l r t = true ∧ e = .returned (.tuple #[opV (takeO l r t.toNat), .nilIface]))) ∧ Below w.heap.size w w' := by
  have HL := hideIt hl
  have hgw := hl.1
  clear hl
  go_enter Tryd.func71, Tryd.ntmps71
  go_wp2_with fail
  have HRB := hideIt (RB.start w)
  refine (treeNext_any l g cap r x _ (HL.out.below HRB.out.bel hgw) hn hcap (errB HRB.out.bel h0 he) (posB HRB.out.bel h0)).mono ?_
  rintro e w1 ⟨(⟨hm, rfl⟩ | ⟨hm, b1, b2, b3, base, rfl, hT⟩), hb1⟩
  all_goals
    have HM := hideIt hm
    have HR1 := hideIt (HRB.out.below hb1)
    have hwl := HR1.out.lt
    clear hm hb1 HRB
  · have HA := hideIt (HR1.out.below (((Below.refl _ _).alloc (Nat.le_refl _) (.cells #[.map none, .map none, .map none] 107)).alloc (by simp) (.cells #[.int .i64 0, .int .i64 0] 27)))
    go_wp2_with (first | (refine wpList_store_row rfl 29 _ _ rfl w.heap.size _ rfl rfl 29 _ HA.out.box (by kernel_rfl) rfl (all7 _ _ _ _ _ _ _) ?_; have HST := hideIt (HA.out.stored 0 0 0 0 0 0 0); generalize World.setRow _ _ _ = W9 at *))
    obtain ⟨hb9, hbel9⟩ := HST.out
    have r0 := (blkCell hb9 0).trans rfl
    have r1 := (blkCell hb9 1).trans rfl
    have r2 := (blkCell hb9 2).trans rfl
    have r3 := (blkCell hb9 3).trans rfl
    have r4 := (blkCell hb9 4).trans rfl
    have r5 := (blkCell hb9 5).trans rfl
    have r6 := (blkCell hb9 6).trans rfl
    exact bodyPost_ret (v := .tuple #[.agg #[.int .i64 0, .int .i64 0, .int .i64 0, .int .i64 0, .int .i64 0, .int .i64 0, .int .i64 0], .iface 203 (.pointer (some x))]) (by simp [results, Tryd.results71, go_sem, r0, r1, r2, r3, r4, r5, r6]) rfl ⟨.inl ⟨by simp [mayTake, HM.out], rfl⟩, hbel9⟩
  · have HTT := hideIt hT
    have HOI : Hid (opsB l = true) := by
      have h := HM.out
      unfold mayMore at h
      simp only [Bool.and_eq_true] at h
      exact h.1.1
    clear hT
    generalize hcn : cnt l r + 1 = cn
    have HCN := hideIt hcn
    clear hcn
    go_wp2_with fail
    have HBa : Hid (Below w1.heap.size w1 ((w1.alloc (.cells #[.map (some b1), .map (some b2), .map (some b3)] 107)).alloc (.cells #[.int .i64 r, .int .i64 cn] 27))) := ((Below.refl _ _).alloc (Nat.le_refl _) _).alloc (by simp) _
    have HIa : Hid (((w1.alloc (.cells #[.map (some b1), .map (some b2), .map (some b3)] 107)).alloc (.cells #[.int .i64 r, .int .i64 cn] 27)).heap[w1.heap.size + 1]? = some (.cells #[.int .i64 r, .int .i64 cn] 27 (0, 0))) := by
      have h := World.alloc_heap_new (w1.alloc (.cells #[.map (some b1), .map (some b2), .map (some b3)] 107)) (.cells #[.int .i64 r, .int .i64 cn] 27)
      rw [World.size_alloc] at h
      exact h
    have HR2 := hideIt (HR1.out.below HBa.out)
    refine (callsIn_wide.1 (signAt_in l HOI.out hn w1 b1 b2 b3 base HTT.out 3 (Nat.le_refl _) t x _ HBa.out (errB HR2.out.bel h0 he) (posB HR2.out.bel h0))).mono ?_
    rintro e w3 ⟨(⟨k, j, y, hk, hj, hy, rfl⟩ | ⟨hno, rfl⟩), hb3⟩
    all_goals
      have HR3 := hideIt (HR2.out.below hb3)
      have HI3 := hideIt (blk_below HIa.out hb3)
      have hwl3 := HR3.out.lt
      have hil3 := (Array.getElem?_eq_some_iff.1 HI3.out).1
      have hdd : w1.heap.size + 1 ≠ w.heap.size := by omega
      clear hb3 HR2 HIa HBa
      generalize w1.heap.size + 1 = Bi at *
    · have HYES : Hid (mayTake l r t = true ∧ takeO l r t.toNat = ⟨r, cn, 2, y.a, y.b, 0, 0⟩) := by
        have hlt := (List.getElem?_eq_some_iff.1 hj).1
        subst hk
        refine ⟨?_, ?_⟩
        · simp [mayTake, HM.out, inB]
          omega
        · simp [takeO, takeId, hj, hy, HCN.out]
      clear hk hj hy
      generalize y.a = ya at *
      generalize y.b = yb at *
      have HA := hideIt (HR3.out.below ((Below.refl _ _).alloc (Nat.le_refl _) (.cells #[.int .i64 ya, .int .i64 yb] 27)))
      have d0 := (blk_cell HI3.out 0).trans rfl
      have d1 := (blk_cell HI3.out 1).trans rfl
      go_wp2_with (first | (refine wpList_store_row rfl 29 _ _ rfl w.heap.size _ rfl rfl 29 _ HA.out.box (by kernel_rfl) rfl (all7 _ _ _ _ _ _ _) ?_; have HST := hideIt (HA.out.stored r cn 2 ya yb 0 0); generalize World.setRow _ _ _ = W9 at *))
      obtain ⟨hb9, hbel9⟩ := HST.out
      have r0 := (blkCell hb9 0).trans rfl
      have r1 := (blkCell hb9 1).trans rfl
      have r2 := (blkCell hb9 2).trans rfl
      have r3 := (blkCell hb9 3).trans rfl
      have r4 := (blkCell hb9 4).trans rfl
      have r5 := (blkCell hb9 5).trans rfl
      have r6 := (blkCell hb9 6).trans rfl
      exact bodyPost_ret (v := .tuple #[.agg #[.int .i64 r, .int .i64 cn, .int .i64 2, .int .i64 ya, .int .i64 yb, .int .i64 0, .int .i64 0], .nilIface]) (by simp [results, Tryd.results71, go_sem, r0, r1, r2, r3, r4, r5, r6]) rfl ⟨.inr ⟨HYES.out.1, by rw [HYES.out.2]; rfl⟩, hbel9⟩
    · have HNO : Hid (mayTake l r t = false) := by show mayTake l r t = false; unfold mayTake; rw [hno]; simp
      clear hno
      have HA := hideIt (HR3.out.below ((Below.refl _ _).alloc (Nat.le_refl _) (.cells #[.int .i64 0, .int .i64 0] 27)))
      go_wp2_with (first | (refine wpList_store_row rfl 29 _ _ rfl w.heap.size _ rfl rfl 29 _ HA.out.box (by kernel_rfl) rfl (all7 _ _ _ _ _ _ _) ?_; have HST := hideIt (HA.out.stored 0 0 0 0 0 0 0); generalize World.setRow _ _ _ = W9 at *))
      obtain ⟨hb9, hbel9⟩ := HST.out
      have r0 := (blkCell hb9 0).trans rfl
      have r1 := (blkCell hb9 1).trans rfl
      have r2 := (blkCell hb9 2).trans rfl
      have r3 := (blkCell hb9 3).trans rfl
      have r4 := (blkCell hb9 4).trans rfl
      have r5 := (blkCell hb9 5).trans rfl
      have r6 := (blkCell hb9 6).trans rfl
      exact bodyPost_ret (v := .tuple #[.agg #[.int .i64 0, .int .i64 0, .int .i64 0, .int .i64 0, .int .i64 0, .int .i64 0, .int .i64 0], .iface 203 (.pointer (some x))]) (by simp [results, Tryd.results71, go_sem, r0, r1, r2, r3, r4, r5, r6]) rfl ⟨.inl ⟨HNO.out, rfl⟩, hbel9⟩
end Go.Proofs.YtedanlmippfojaaDoor

namespace Go.Proofs.YtedanlmippfojaaDoor
open Go.RowKit Go.Shelf
set_option linter.unusedSimpArgs false
set_option linter.unusedVariables false
attribute [local go_sem ↓] Go.wp_at_zero Go.wp_at_succ build_op0 build_opTake build_opPut

/-- A box of a thing: what lies in it. -/
def S7 (M : Nat) (o : Op7) (W : World) : Prop := W.cell? ⟨M, 0, none⟩ = some (.int .i64 o.a) ∧ W.cell? ⟨M, 1, none⟩ = some (.int .i64 o.b) ∧ W.cell? ⟨M, 2, none⟩ = some (.int .i64 o.k) ∧ W.cell? ⟨M, 3, none⟩ = some (.int .i64 o.c) ∧ W.cell? ⟨M, 4, none⟩ = some (.int .i64 o.d) ∧ W.cell? ⟨M, 5, none⟩ = some (.int .i64 o.s) ∧ W.cell? ⟨M, 6, none⟩ = some (.int .i64 o.g)
theorem S7.of {M : Nat} {o : Op7} {W : World} (h : W.heap[M]? = some (.cells #[.int .i64 o.a, .int .i64 o.b, .int .i64 o.k, .int .i64 o.c, .int .i64 o.d, .int .i64 o.s, .int .i64 o.g] 29 (0, 0))) : S7 M o W :=
  ⟨(blk_cell h 0).trans rfl, (blk_cell h 1).trans rfl, (blk_cell h 2).trans rfl, (blk_cell h 3).trans rfl, (blk_cell h 4).trans rfl, (blk_cell h 5).trans rfl, (blk_cell h 6).trans rfl⟩

attribute [-go_sem] Instr.storeAt
attribute [local go_sem ↓] store_op_new
set_option maxRecDepth 100000 in
set_option maxHeartbeats 2000000 in
theorem implTake_any (l : List Op7) (g cap : Nat) (r t : Int) (x : Addr) (w : World) (hl : OpsAt w g l) (hn : l.length ≤ 1048576) (hcap : l.length ≤ cap)
    (he : w.cell? ⟨0, 0, none⟩ = some (.iface 203 (.pointer (some x)))) (h0 : 0 < w.heap.size) :
    Calls Tryd.prog 21 #[.slice (some ⟨g, 0, none⟩) l.length cap, .int .i64 r, .int .i64 t] w fun e w' =>
      ((mayTake l r t = false ∧ e = .returned (.tuple #[.agg #[.int .i64 0, .int .i64 0, .int .i64 0, .int .i64 0, .int .i64 0, .int .i64 0, .int .i64 0], .bool false])) ∨
       (mayTake l r t = true ∧ e = .returned (.tuple #[opV (takeO l r t.toNat), .bool true]))) ∧ Below w.heap.size w w' := by
  have HL := hideIt hl
  have hgw := hl.1
  clear hl
  go_enter Tryd.func21, Tryd.ntmps21
  go_wp2_with fail
  have HRB := hideIt (RB.start w)
  refine (takingAt_any l g cap r t x _ (HL.out.below HRB.out.bel hgw) hn hcap (errB HRB.out.bel h0 he) (posB HRB.out.bel h0)).mono ?_
  rintro e w1 ⟨(⟨hm, rfl⟩ | ⟨hm, rfl⟩), hb1⟩
  all_goals
    have HM := hideIt hm
    have HR1 := hideIt (HRB.out.below hb1)
    have hwl := HR1.out.lt
    clear hm hb1 HRB
  · go_wp2_with fail
    obtain ⟨Wm, hWm⟩ : ∃ Wm, w1.alloc (.cells #[.int .i64 0, .int .i64 0, .int .i64 0, .int .i64 0, .int .i64 0, .int .i64 0, .int .i64 0] 29) = Wm := ⟨_, rfl⟩
    have hbm : Below w1.heap.size w1 Wm := by rw [← hWm]; exact (Below.refl _ _).alloc (Nat.le_refl _) _
    have hmk : Wm.heap[w1.heap.size]? = some (.cells #[.int .i64 0, .int .i64 0, .int .i64 0, .int .i64 0, .int .i64 0, .int .i64 0, .int .i64 0] 29 (0, 0)) := by rw [← hWm]; exact World.alloc_heap_new _ _
    have HIM := hideIt (HR1.out.below hbm)
    have herrm : Wm.cell? ⟨0, 0, none⟩ = some (.iface 203 (.pointer (some x))) := errB HIM.out.bel h0 he
    rw [hWm]
    clear hWm hbm
    have m0 := (blk_cell hmk 0).trans rfl
    have m1 := (blk_cell hmk 1).trans rfl
    have m2 := (blk_cell hmk 2).trans rfl
    have m3 := (blk_cell hmk 3).trans rfl
    have m4 := (blk_cell hmk 4).trans rfl
    have m5 := (blk_cell hmk 5).trans rfl
    have m6 := (blk_cell hmk 6).trans rfl
    clear hmk
    generalize w1.heap.size = M at *
    have n1 : M ≠ w.heap.size := by omega
    have n2 : 0 ≠ w.heap.size := by omega
    have K1 : Hid (Wm.drew.cell? ⟨M, 0, none⟩ = some (.int .i64 0) ∧ Wm.drew.cell? ⟨M, 1, none⟩ = some (.int .i64 0) ∧ Wm.drew.cell? ⟨M, 2, none⟩ = some (.int .i64 0) ∧ Wm.drew.cell? ⟨M, 3, none⟩ = some (.int .i64 0) ∧ Wm.drew.cell? ⟨M, 4, none⟩ = some (.int .i64 0) ∧ Wm.drew.cell? ⟨M, 5, none⟩ = some (.int .i64 0) ∧ Wm.drew.cell? ⟨M, 6, none⟩ = some (.int .i64 0) ∧ Wm.drew.cell? ⟨0, 0, none⟩ = some (.iface 203 (.pointer (some x)))) := ⟨m0, m1, m2, m3, m4, m5, m6, herrm⟩
    have K9 : Hid ((Wm.drew.setRow w.heap.size #[.int .i64 0, .int .i64 0, .int .i64 0, .int .i64 0, .int .i64 0, .int .i64 0, .int .i64 0]).cell? ⟨M, 0, none⟩ = some (.int .i64 0) ∧ (Wm.drew.setRow w.heap.size #[.int .i64 0, .int .i64 0, .int .i64 0, .int .i64 0, .int .i64 0, .int .i64 0, .int .i64 0]).cell? ⟨M, 1, none⟩ = some (.int .i64 0) ∧ (Wm.drew.setRow w.heap.size #[.int .i64 0, .int .i64 0, .int .i64 0, .int .i64 0, .int .i64 0, .int .i64 0, .int .i64 0]).cell? ⟨M, 2, none⟩ = some (.int .i64 0) ∧ (Wm.drew.setRow w.heap.size #[.int .i64 0, .int .i64 0, .int .i64 0, .int .i64 0, .int .i64 0, .int .i64 0, .int .i64 0]).cell? ⟨M, 3, none⟩ = some (.int .i64 0) ∧ (Wm.drew.setRow w.heap.size #[.int .i64 0, .int .i64 0, .int .i64 0, .int .i64 0, .int .i64 0, .int .i64 0, .int .i64 0]).cell? ⟨M, 4, none⟩ = some (.int .i64 0) ∧ (Wm.drew.setRow w.heap.size #[.int .i64 0, .int .i64 0, .int .i64 0, .int .i64 0, .int .i64 0, .int .i64 0, .int .i64 0]).cell? ⟨M, 5, none⟩ = some (.int .i64 0) ∧ (Wm.drew.setRow w.heap.size #[.int .i64 0, .int .i64 0, .int .i64 0, .int .i64 0, .int .i64 0, .int .i64 0, .int .i64 0]).cell? ⟨M, 6, none⟩ = some (.int .i64 0) ∧ (Wm.drew.setRow w.heap.size #[.int .i64 0, .int .i64 0, .int .i64 0, .int .i64 0, .int .i64 0, .int .i64 0, .int .i64 0]).cell? ⟨0, 0, none⟩ = some (.iface 203 (.pointer (some x)))) := ⟨setRow_cell (W := Wm.drew) n1 m0, setRow_cell (W := Wm.drew) n1 m1, setRow_cell (W := Wm.drew) n1 m2, setRow_cell (W := Wm.drew) n1 m3, setRow_cell (W := Wm.drew) n1 m4, setRow_cell (W := Wm.drew) n1 m5, setRow_cell (W := Wm.drew) n1 m6, setRow_cell (W := Wm.drew) n2 herrm⟩
    have ks1 : (Instr.storeAt 29 (.pointer (some ⟨w.heap.size, 0, none⟩)) (.agg #[.int .i64 0, .int .i64 0, .int .i64 0, .int .i64 0, .int .i64 0, .int .i64 0, .int .i64 0])).run Tryd.prog Wm.drew = .ok () (Wm.drew.setRow w.heap.size #[.int .i64 0, .int .i64 0, .int .i64 0, .int .i64 0, .int .i64 0, .int .i64 0, .int .i64 0]) := store_op Wm.drew w.heap.size _ HIM.out.box rfl 0 0 0 0 0 0 0
    have HST := hideIt ((HIM.out.below ((Below.refl _ _).drew)).stored 0 0 0 0 0 0 0)
    clear m0 m1 m2 m3 m4 m5 m6
    go_region_held3 (fun w' => w'.cell? ⟨M, 0, none⟩ = some (.int .i64 0) ∧ w'.cell? ⟨M, 1, none⟩ = some (.int .i64 0) ∧ w'.cell? ⟨M, 2, none⟩ = some (.int .i64 0) ∧ w'.cell? ⟨M, 3, none⟩ = some (.int .i64 0) ∧ w'.cell? ⟨M, 4, none⟩ = some (.int .i64 0) ∧ w'.cell? ⟨M, 5, none⟩ = some (.int .i64 0) ∧ w'.cell? ⟨M, 6, none⟩ = some (.int .i64 0) ∧ w'.cell? ⟨0, 0, none⟩ = some (.iface 203 (.pointer (some x))))
      (first | with_reducible exact K1.out | with_reducible exact K9.out)
      (first | (go_at_call 68; refine (is_same x _).mono ?_; rintro e w'' ⟨rfl, rfl⟩))
    rename_i hHH
    clear hHH K9 K1 ks1
    generalize World.setRow _ _ _ = W9 at *
    go_wp2
    obtain ⟨hb9, hbel9⟩ := HST.out
    have r0 := (blkCell hb9 0).trans rfl
    have r1 := (blkCell hb9 1).trans rfl
    have r2 := (blkCell hb9 2).trans rfl
    have r3 := (blkCell hb9 3).trans rfl
    have r4 := (blkCell hb9 4).trans rfl
    have r5 := (blkCell hb9 5).trans rfl
    have r6 := (blkCell hb9 6).trans rfl
    exact bodyPost_ret (v := .tuple #[.agg #[.int .i64 0, .int .i64 0, .int .i64 0, .int .i64 0, .int .i64 0, .int .i64 0, .int .i64 0], .bool false]) (by simp [results, Tryd.results21, go_sem, r0, r1, r2, r3, r4, r5, r6]) rfl ⟨.inl ⟨HM.out, rfl⟩, hbel9⟩
  · obtain ⟨oa, ob, ok, oc, od, os, og, ho⟩ : ∃ oa ob ok oc od os og, takeO l r t.toNat = ⟨oa, ob, ok, oc, od, os, og⟩ := ⟨_, _, _, _, _, _, _, rfl⟩
    have HOO := hideIt ho
    rw [ho]
    clear ho
    unfold opV
    dsimp only
    go_wp2_with fail
    obtain ⟨Wm, hWm⟩ : ∃ Wm, w1.alloc (.cells #[.int .i64 oa, .int .i64 ob, .int .i64 ok, .int .i64 oc, .int .i64 od, .int .i64 os, .int .i64 og] 29) = Wm := ⟨_, rfl⟩
    have hbm : Below w1.heap.size w1 Wm := by rw [← hWm]; exact (Below.refl _ _).alloc (Nat.le_refl _) _
    have hmk : Wm.heap[w1.heap.size]? = some (.cells #[.int .i64 oa, .int .i64 ob, .int .i64 ok, .int .i64 oc, .int .i64 od, .int .i64 os, .int .i64 og] 29 (0, 0)) := by rw [← hWm]; exact World.alloc_heap_new _ _
    have HIM := hideIt (HR1.out.below hbm)
    have herrm : Wm.cell? ⟨0, 0, none⟩ = some (.iface 203 (.pointer (some x))) := errB HIM.out.bel h0 he
    rw [hWm]
    clear hWm hbm
    have m0 := (blk_cell hmk 0).trans rfl
    have m1 := (blk_cell hmk 1).trans rfl
    have m2 := (blk_cell hmk 2).trans rfl
    have m3 := (blk_cell hmk 3).trans rfl
    have m4 := (blk_cell hmk 4).trans rfl
    have m5 := (blk_cell hmk 5).trans rfl
    have m6 := (blk_cell hmk 6).trans rfl
    clear hmk
    generalize w1.heap.size = M at *
    have n1 : M ≠ w.heap.size := by omega
    have n2 : 0 ≠ w.heap.size := by omega
    have K1 : Hid (Wm.drew.cell? ⟨M, 0, none⟩ = some (.int .i64 oa) ∧ Wm.drew.cell? ⟨M, 1, none⟩ = some (.int .i64 ob) ∧ Wm.drew.cell? ⟨M, 2, none⟩ = some (.int .i64 ok) ∧ Wm.drew.cell? ⟨M, 3, none⟩ = some (.int .i64 oc) ∧ Wm.drew.cell? ⟨M, 4, none⟩ = some (.int .i64 od) ∧ Wm.drew.cell? ⟨M, 5, none⟩ = some (.int .i64 os) ∧ Wm.drew.cell? ⟨M, 6, none⟩ = some (.int .i64 og) ∧ Wm.drew.cell? ⟨0, 0, none⟩ = some (.iface 203 (.pointer (some x)))) := ⟨m0, m1, m2, m3, m4, m5, m6, herrm⟩
    have K9 : Hid ((Wm.drew.setRow w.heap.size #[.int .i64 oa, .int .i64 ob, .int .i64 ok, .int .i64 oc, .int .i64 od, .int .i64 os, .int .i64 og]).cell? ⟨M, 0, none⟩ = some (.int .i64 oa) ∧ (Wm.drew.setRow w.heap.size #[.int .i64 oa, .int .i64 ob, .int .i64 ok, .int .i64 oc, .int .i64 od, .int .i64 os, .int .i64 og]).cell? ⟨M, 1, none⟩ = some (.int .i64 ob) ∧ (Wm.drew.setRow w.heap.size #[.int .i64 oa, .int .i64 ob, .int .i64 ok, .int .i64 oc, .int .i64 od, .int .i64 os, .int .i64 og]).cell? ⟨M, 2, none⟩ = some (.int .i64 ok) ∧ (Wm.drew.setRow w.heap.size #[.int .i64 oa, .int .i64 ob, .int .i64 ok, .int .i64 oc, .int .i64 od, .int .i64 os, .int .i64 og]).cell? ⟨M, 3, none⟩ = some (.int .i64 oc) ∧ (Wm.drew.setRow w.heap.size #[.int .i64 oa, .int .i64 ob, .int .i64 ok, .int .i64 oc, .int .i64 od, .int .i64 os, .int .i64 og]).cell? ⟨M, 4, none⟩ = some (.int .i64 od) ∧ (Wm.drew.setRow w.heap.size #[.int .i64 oa, .int .i64 ob, .int .i64 ok, .int .i64 oc, .int .i64 od, .int .i64 os, .int .i64 og]).cell? ⟨M, 5, none⟩ = some (.int .i64 os) ∧ (Wm.drew.setRow w.heap.size #[.int .i64 oa, .int .i64 ob, .int .i64 ok, .int .i64 oc, .int .i64 od, .int .i64 os, .int .i64 og]).cell? ⟨M, 6, none⟩ = some (.int .i64 og) ∧ (Wm.drew.setRow w.heap.size #[.int .i64 oa, .int .i64 ob, .int .i64 ok, .int .i64 oc, .int .i64 od, .int .i64 os, .int .i64 og]).cell? ⟨0, 0, none⟩ = some (.iface 203 (.pointer (some x)))) := ⟨setRow_cell (W := Wm.drew) n1 m0, setRow_cell (W := Wm.drew) n1 m1, setRow_cell (W := Wm.drew) n1 m2, setRow_cell (W := Wm.drew) n1 m3, setRow_cell (W := Wm.drew) n1 m4, setRow_cell (W := Wm.drew) n1 m5, setRow_cell (W := Wm.drew) n1 m6, setRow_cell (W := Wm.drew) n2 herrm⟩
    have ks1 : (Instr.storeAt 29 (.pointer (some ⟨w.heap.size, 0, none⟩)) (.agg #[.int .i64 oa, .int .i64 ob, .int .i64 ok, .int .i64 oc, .int .i64 od, .int .i64 os, .int .i64 og])).run Tryd.prog Wm.drew = .ok () (Wm.drew.setRow w.heap.size #[.int .i64 oa, .int .i64 ob, .int .i64 ok, .int .i64 oc, .int .i64 od, .int .i64 os, .int .i64 og]) := store_op Wm.drew w.heap.size _ HIM.out.box rfl oa ob ok oc od os og
    have HST := hideIt ((HIM.out.below ((Below.refl _ _).drew)).stored oa ob ok oc od os og)
    clear m0 m1 m2 m3 m4 m5 m6
    go_region_held3 (fun w' => w'.cell? ⟨M, 0, none⟩ = some (.int .i64 oa) ∧ w'.cell? ⟨M, 1, none⟩ = some (.int .i64 ob) ∧ w'.cell? ⟨M, 2, none⟩ = some (.int .i64 ok) ∧ w'.cell? ⟨M, 3, none⟩ = some (.int .i64 oc) ∧ w'.cell? ⟨M, 4, none⟩ = some (.int .i64 od) ∧ w'.cell? ⟨M, 5, none⟩ = some (.int .i64 os) ∧ w'.cell? ⟨M, 6, none⟩ = some (.int .i64 og) ∧ w'.cell? ⟨0, 0, none⟩ = some (.iface 203 (.pointer (some x))))
      (first | with_reducible exact K1.out | with_reducible exact K9.out)
      (first | (go_at_call 68; refine (is_nil x _).mono ?_; rintro e w'' ⟨rfl, rfl⟩))
    rename_i hHH
    clear hHH K9 K1 ks1
    generalize World.setRow _ _ _ = W9 at *
    go_wp2
    obtain ⟨hb9, hbel9⟩ := HST.out
    have r0 := (blkCell hb9 0).trans rfl
    have r1 := (blkCell hb9 1).trans rfl
    have r2 := (blkCell hb9 2).trans rfl
    have r3 := (blkCell hb9 3).trans rfl
    have r4 := (blkCell hb9 4).trans rfl
    have r5 := (blkCell hb9 5).trans rfl
    have r6 := (blkCell hb9 6).trans rfl
    exact bodyPost_ret (v := .tuple #[.agg #[.int .i64 oa, .int .i64 ob, .int .i64 ok, .int .i64 oc, .int .i64 od, .int .i64 os, .int .i64 og], .bool true]) (by simp [results, Tryd.results21, go_sem, r0, r1, r2, r3, r4, r5, r6]) rfl ⟨.inr ⟨HM.out, by rw [HOO.out]; rfl⟩, hbel9⟩
/-- What both answer. -/
def takeA (l : List Op7) (r t : Int) : Op7 := if mayTake l r t = true then takeO l r t.toNat else ⟨0, 0, 0, 0, 0, 0, 0⟩
theorem takeA_of {l : List Op7} {r t : Int} {e : Ending} (h : (mayTake l r t = false ∧ e = .returned (.tuple #[.agg #[.int .i64 0, .int .i64 0, .int .i64 0, .int .i64 0, .int .i64 0, .int .i64 0, .int .i64 0], .bool false])) ∨ (mayTake l r t = true ∧ e = .returned (.tuple #[opV (takeO l r t.toNat), .bool true]))) : e = .returned (.tuple #[opV (takeA l r t), .bool (mayTake l r t)]) := by
  rcases h with ⟨h1, h2⟩ | ⟨h1, h2⟩
  · rw [h2]; unfold takeA; rw [h1]; rfl
  · rw [h2]; unfold takeA; rw [h1]; rfl
end Go.Proofs.YtedanlmippfojaaDoor

namespace Go.Proofs.YtedanlmippfojaaDoor
open Go.RowKit
set_option linter.unusedSimpArgs false
set_option linter.unusedVariables false
/-- A box with a thing in it, in memory that has grown. -/
structure OX (b : Nat) (o : Op7) (w W : World) : Prop where
  box : W.heap[b]? = some (.cells #[.int .i64 o.a, .int .i64 o.b, .int .i64 o.k, .int .i64 o.c, .int .i64 o.d, .int .i64 o.s, .int .i64 o.g] 29 (0, 0))
  bel : Below w.heap.size w W
theorem OX.below {b : Nat} {o : Op7} {w W W' : World} (h : OX b o w W) (hb : Below W.heap.size W W') : OX b o w W' := ⟨blk_below h.box hb, Bstep h.bel hb⟩
end Go.Proofs.YtedanlmippfojaaDoor

namespace Go.Proofs.YtedanlmippfojaaDoor
open Go.RowKit
set_option linter.unusedSimpArgs false
set_option linter.unusedVariables false

/-- Where an empty place is: whatever is put there, and nowhere else, stands between the same two parts of the row of all. -/
theorem spot_graft {l : List Op7} (h : opsB l = true) {x : Int × Int × Int} (hs : x.2.2 = 0 ∨ x.2.2 = 1) (hx : kidsL l x = []) (hup : ∃ d, Up l d (x.1, x.2.1)) (h0 : x.1 = 0 ∧ x.2.1 = 0 → x.2.2 = 1) :
    ∃ A B, allO l = A ++ B ∧ ∀ (L T : List Op7) (N : Nat), opsB L = true → (∀ n, N ≤ n → sideO L n x = T) → (∀ y d, y ≠ x → Up l d (y.1, y.2.1) → kidsL L y = kidsL l y) → allO L = A ++ T ++ B := by
  obtain ⟨d, hd⟩ := hup
  rcases up_inv hd with ⟨_, hz⟩ | ⟨e, p, _, hm, hk, _, hz⟩
  · have e1 : x.1 = 0 := congrArg Prod.fst hz
    have e2 : x.2.1 = 0 := congrArg Prod.snd hz
    have e3 := h0 ⟨e1, e2⟩
    have ex : x = (0, 0, 1) := Prod.ext e1 (Prod.ext e2 e3)
    subst ex
    have hnil : allO l = [] := by
      show sideO l (l.length + 2) (0, 0, 1) = []
      show (kidsL l (0, 0, 1)).flatMap _ = []
      rw [hx]; rfl
    refine ⟨[], [], by rw [hnil]; rfl, fun L T N hL hT hkk => ?_⟩
    have := (graft_none h hL hx hT).2
    rw [this]; simp
  · have e1 : x.1 = p.a := congrArg Prod.fst hz
    have e2 : x.2.1 = p.b := congrArg Prod.snd hz
    have hp : p ∈ allO l := all_mem h hm hk
    obtain ⟨A0, B0, he⟩ := List.append_of_mem hp
    have hpos : 1 ≤ p.a := op_pos (opsB_all h).1 hm
    have hne : x ≠ (0, 0, 1) := fun e => by have := congrArg Prod.fst e; simp at this; omega
    rcases hs with hs | hs
    · refine ⟨A0, p :: B0, he, fun L T N hL hT hkk => ?_⟩
      rw [graft_all h hL (.inl hs) hx hT hkk hne, ins_at h (x := x) ⟨e1.symm, e2.symm⟩ he, if_neg (by omega)]
      simp
    · refine ⟨A0 ++ [p], B0, by rw [he]; simp, fun L T N hL hT hkk => ?_⟩
      rw [graft_all h hL (.inr hs) hx hT hkk hne, ins_at h (x := x) ⟨e1.symm, e2.symm⟩ he, if_pos hs]
      simp
/-- What can be done still can when something else was done that is not by the same one. -/
theorem can_still {l : List Op7} {o b : Op7} (h : opsB l = true) (ho : CanL l o) (hb : CanL l b) (hne : o.a ≠ b.a) : CanL (withL l o) b := by
  have hm := withL_mem (ops_sorted h) ho.new
  refine ⟨hb.form, fun p hp => ?_, fun h1 => ?_, ?_⟩
  · rcases (hm p).1 hp with rfl | hp
    · exact fun e => hne e.1
    · exact hb.new p hp
  · obtain ⟨q, hq, e⟩ := hb.next h1
    exact ⟨q, (hm q).2 (.inr hq), e⟩
  · obtain ⟨d, hd⟩ := hb.ref
    exact ⟨d, hd.mono fun q hq => (hm q).2 (.inr hq)⟩
theorem not_own {l : List Op7} {o b : Op7} (h : opsB l = true) (ho : CanL l o) (hr : b.c = o.c ∧ b.d = o.d) (s : Int) : isKid (o.a, o.b, s) b = false := by
  cases hb : isKid (o.a, o.b, s) b
  · rfl
  · simp [isKid] at hb
    obtain ⟨d, hd⟩ := ho.ref
    rcases up_inv hd with ⟨_, hx⟩ | ⟨e, p, _, hm, _, _, hx⟩
    · have h1 : o.c = 0 := congrArg Prod.fst hx
      have := (okO_id ho.form).1
      omega
    · have e1 : o.c = p.a := congrArg Prod.fst hx
      have e2 : o.d = p.b := congrArg Prod.snd hx
      exact absurd ⟨by omega, by omega⟩ (ho.new p hm)
/-- The kids of the place behind both: who did it tells who stands first. -/
theorem kids_two {l : List Op7} {o b : Op7} (h : opsB l = true) (ho : CanL l o) (hb : CanL l b) (hko : o.k = 1) (hkb : b.k = 1) (hr : b.c = o.c ∧ b.d = o.d ∧ b.s = o.s) (hx : kidsL l (o.c, o.d, o.s) = []) (hne : o.a < b.a ∨ b.a < o.a) :
    kidsL (withL (withL l o) b) (o.c, o.d, o.s) = if o.a < b.a then [o, b] else [b, o] := by
  have hcx := can_still h ho hb (by omega)
  have hwx := (okW_can h ho).2
  have hself : isKid (o.c, o.d, o.s) o = true := by simp [isKid, hko]
  have hselfb : isKid (o.c, o.d, o.s) b = true := by simp [isKid, hkb, hr.1, hr.2.1, hr.2.2]
  have hkx : kidsL (withL l o) (o.c, o.d, o.s) = [o] := (kids_with h ho.new _).2 hself hx
  obtain ⟨A, B, e1, e2⟩ := withL_split (ops_sorted hwx) hcx.new
  have hsrt := withL_sorted (ops_sorted hwx) b
  rw [e2] at hsrt
  unfold kidsL at hkx ⊢
  rw [e2, List.filter_append, List.filter_cons_of_pos (by simp [hselfb])]
  rw [e1, List.filter_append] at hkx
  obtain ⟨_, hs2, hs3⟩ := List.pairwise_append.1 hsrt
  cases hA : A.filter (isKid (o.c, o.d, o.s)) with
  | nil =>
    rw [hA, List.nil_append] at hkx
    have hoB : o ∈ B := (List.mem_filter.1 (by rw [hkx]; simp : o ∈ B.filter (isKid (o.c, o.d, o.s)))).1
    have hlt := (List.pairwise_cons.1 hs2).1 o hoB
    unfold lessB at hlt
    have hlt := of_decide_eq_true hlt
    rw [hkx, if_neg (by omega)]
    rfl
  | cons z zs =>
    rw [hA] at hkx
    simp only [List.cons_append, List.cons.injEq, List.append_eq_nil_iff] at hkx
    obtain ⟨rfl, rfl, hB⟩ := hkx
    have hoA : z ∈ A := (List.mem_filter.1 (by rw [hA]; simp : z ∈ A.filter (isKid (z.c, z.d, z.s)))).1
    have hlt := hs3 z hoA b (by simp)
    unfold lessB at hlt
    have hlt := of_decide_eq_true hlt
    rw [hB, if_pos (by omega)]
    rfl
theorem spot_side {o : Op7} (h : okO o = true) (hk : o.k = 1) : (o.s = 0 ∨ o.s = 1) ∧ (o.c = 0 ∧ o.d = 0 → o.s = 1) := by
  unfold okO at h
  rw [opB_true] at h
  omega
/-- Both stand side by side between the same two parts. -/
theorem all_two {l : List Op7} {o b : Op7} (h : opsB l = true) (ho : CanL l o) (hb : CanL l b) (hko : o.k = 1) (hkb : b.k = 1) (hr : b.c = o.c ∧ b.d = o.d ∧ b.s = o.s) (hx : kidsL l (o.c, o.d, o.s) = []) (hne : o.a < b.a ∨ b.a < o.a) :
    ∃ A B, allO l = A ++ B ∧ allO (withL l o) = A ++ o :: B ∧ allO (withL (withL l o) b) = A ++ (if o.a < b.a then [o, b] else [b, o]) ++ B := by
  have hcx := can_still h ho hb (by omega)
  have hwx := (okW_can h ho).2
  have hwy := (okW_can hwx hcx).2
  obtain ⟨hs1, hs2⟩ := spot_side ho.form hko
  obtain ⟨A, B, e, hg⟩ := spot_graft h (x := (o.c, o.d, o.s)) hs1 hx ho.ref hs2
  have hoth : ∀ y, y ≠ (o.c, o.d, o.s) → isKid y o = false ∧ isKid y b = false := fun y hy => by
    refine ⟨?_, ?_⟩
    · cases hq : isKid y o
      · rfl
      · simp [isKid] at hq
        exact absurd (Prod.ext hq.2.1.symm (Prod.ext hq.2.2.1.symm hq.2.2.2.symm)) hy
    · cases hq : isKid y b
      · rfl
      · simp [isKid] at hq
        exact absurd (Prod.ext (hq.2.1.symm.trans hr.1) (Prod.ext (hq.2.2.1.symm.trans hr.2.1) (hq.2.2.2.symm.trans hr.2.2))) hy
  have hko0 : ∀ s, kidsL (withL (withL l o) b) (o.a, o.b, s) = [] := fun s => by
    rw [(kids_with hwx hcx.new _).1 (not_own h ho ⟨hr.1, hr.2.1⟩ s), (kids_with h ho.new _).1 (not_own h ho ⟨rfl, rfl⟩ s), kids_new h ho.new (okO_id ho.form).1 s]
  have hkb0 : ∀ s, kidsL (withL (withL l o) b) (b.a, b.b, s) = [] := fun s => by
    rw [(kids_with hwx hcx.new _).1 (not_own h hb ⟨rfl, rfl⟩ s), (kids_with h ho.new _).1 (not_own h hb ⟨hr.1.symm, hr.2.1.symm⟩ s), kids_new h hb.new (okO_id hb.form).1 s]
  have hnil : ∀ (p : Op7) m s, kidsL (withL (withL l o) b) (p.a, p.b, s) = [] → sideO (withL (withL l o) b) m (p.a, p.b, s) = [] := fun p m s hk => by
    cases m with
    | zero => rfl
    | succ m => show (kidsL (withL (withL l o) b) (p.a, p.b, s)).flatMap _ = []; rw [hk]; rfl
  refine ⟨A, B, e, ?_, ?_⟩
  · have := hg (withL l o) [o] 1 hwx (side_new h ho hko hx) (fun y d hy _ => (kids_with h ho.new y).1 (hoth y hy).1)
    rw [this]; simp
  · refine hg (withL (withL l o) b) _ 1 hwy (fun n hn => ?_) (fun y d hy _ => by rw [(kids_with hwx hcx.new y).1 (hoth y hy).2, (kids_with h ho.new y).1 (hoth y hy).1])
    obtain ⟨m, rfl⟩ : ∃ m, n = m + 1 := ⟨n - 1, by omega⟩
    show (kidsL (withL (withL l o) b) (o.c, o.d, o.s)).flatMap _ = _
    rw [kids_two h ho hb hko hkb hr hx hne]
    split
    · simp [hnil o m _ (hko0 _), hnil b m _ (hkb0 _)]
    · simp [hnil o m _ (hko0 _), hnil b m _ (hkb0 _)]
/-- The text behind both. -/
theorem two_text {l : List Op7} {o b : Op7} (h : opsB l = true) (ho : CanL l o) (hb : CanL l b) (hko : o.k = 1) (hkb : b.k = 1) (hr : b.c = o.c ∧ b.d = o.d ∧ b.s = o.s) (hx : kidsL l (o.c, o.d, o.s) = []) (hne : o.a < b.a ∨ b.a < o.a) {A B : List Op7} (he : allO l = A ++ B) (hw : allO (withL l o) = A ++ o :: B) :
    shown (lfs (withL (withL l o) b) (allO (withL (withL l o) b))) = shown (lfs l A) ++ (if o.a < b.a then [o.g % 256, b.g % 256] else [b.g % 256, o.g % 256]) ++ shown (lfs l B) := by
  have hcx := can_still h ho hb (by omega)
  have hwx := (okW_can h ho).2
  obtain ⟨A', B', e1, e2, e3⟩ := all_two h ho hb hko hkb hr hx hne
  obtain ⟨rfl, rfl⟩ := mid_eq (q := o) (by rw [← e2]; exact nodup_all hwx) (e2.symm.trans hw)
  have hgo : goneB (withL (withL l o) b) (o.a, o.b) = false := by
    rw [gone_with hwx hcx, gone_with h ho, gone_new h ho, hko, hkb]; simp
  have hgb : goneB (withL (withL l o) b) (b.a, b.b) = false := by
    rw [gone_with hwx hcx, gone_new hwx hcx, hkb]; simp
  have hl : ∀ C, lfs (withL (withL l o) b) C = lfs l C := fun C => by rw [lfs_put hwx hcx hkb, lfs_put h ho hko]
  rw [e3, lfs_two, lfs_two, hl A', hl B', shown_app, shown_app]
  split
  · have e4 : shown (lfs (withL (withL l o) b) [o, b]) = [o.g % 256, b.g % 256] := by simp [lfs, hgo, hgb, shown]
    rw [e4]
  · have e4 : shown (lfs (withL (withL l o) b) [b, o]) = [b.g % 256, o.g % 256] := by simp [lfs, hgo, hgb, shown]
    rw [e4]
theorem putO_ref (l : List Op7) (r u sg mg : Int) (t : Nat) : (putO l u t mg).c = (putO l r t sg).c ∧ (putO l u t mg).d = (putO l r t sg).d ∧ (putO l u t mg).s = (putO l r t sg).s := by
  unfold putO
  split <;> exact ⟨rfl, rfl, rfl⟩
/-- What two put at one place, both done. -/
theorem two_done {l : List Op7} {r u t sg mg : Int} (h1 : mayPut l r t sg = true) (h2 : mayPut l u t mg = true) (hne : r < u ∨ u < r) :
    okW l (putO l r t.toNat sg) = true ∧ okW (withL l (putO l r t.toNat sg)) (putO l u t.toNat mg) = true ∧ opsB (withL (withL l (putO l r t.toNat sg)) (putO l u t.toNat mg)) = true ∧
    txtB (shown (lfs (withL (withL l (putO l r t.toNat sg)) (putO l u t.toNat mg)) (standL (withL (withL l (putO l r t.toNat sg)) (putO l u t.toNat mg))))) =
      if r < u then (txtB (shown (lfs l (standL l)))).extract 0 t.toNat ++ txtB [sg] ++ txtB [mg] ++ (txtB (shown (lfs l (standL l)))).extract t.toNat (txtB (shown (lfs l (standL l)))).size
      else (txtB (shown (lfs l (standL l)))).extract 0 t.toNat ++ txtB [mg] ++ txtB [sg] ++ (txtB (shown (lfs l (standL l)))).extract t.toNat (txtB (shown (lfs l (standL l)))).size := by
  have q1 := h1
  have q2 := h2
  unfold mayPut inB at q1 q2
  simp only [Bool.and_eq_true, decide_eq_true_eq] at q1 q2
  obtain ⟨hm1, hsg, ht0, ht1⟩ := q1
  obtain ⟨hm2, hmg, _, _⟩ := q2
  have ho := (may_parts hm1).1
  obtain ⟨hc1, hx, A, B, he, hwe, hn⟩ := put_can (t := t.toNat) hm1 hsg (by omega)
  obtain ⟨hc2, _, _⟩ := put_can (t := t.toNat) hm2 hmg (by omega)
  have hk1 : (putO l r t.toNat sg).k = 1 := by unfold putO; split <;> rfl
  have hk2 : (putO l u t.toNat mg).k = 1 := by unfold putO; split <;> rfl
  have ha1 : (putO l r t.toNat sg).a = r := by unfold putO; split <;> rfl
  have ha2 : (putO l u t.toNat mg).a = u := by unfold putO; split <;> rfl
  have hg1 : (putO l r t.toNat sg).g = sg := by unfold putO; split <;> rfl
  have hg2 : (putO l u t.toNat mg).g = mg := by unfold putO; split <;> rfl
  have hcx := can_still ho hc1 hc2 (by rw [ha1, ha2]; omega)
  have hwx := okW_can ho hc1
  have hwy := okW_can hwx.2 hcx
  have htx := two_text ho hc1 hc2 hk1 hk2 (putO_ref l r u sg mg t.toNat) hx (by rw [ha1, ha2]; exact hne) he hwe
  obtain ⟨e1, _⟩ := put_text ho hc1 hk1 he hwe
  rw [ha1, ha2, hg1, hg2, show sg % 256 = sg by omega, show mg % 256 = mg by omega] at htx
  have hl : (shown (lfs l A)).length = t.toNat := by rw [shown_n, hn]
  refine ⟨hwx.1, hwy.1, hwy.2, ?_⟩
  rw [stand_ok ho, stand_ok hwy.2, htx, e1, txtB_size]
  have x1 : (txtB (shown (lfs l A) ++ shown (lfs l B))).extract 0 t.toNat = txtB (shown (lfs l A)) := by rw [← hl]; exact txt_take _ _
  have x2 : (txtB (shown (lfs l A) ++ shown (lfs l B))).extract t.toNat (shown (lfs l A) ++ shown (lfs l B)).length = txtB (shown (lfs l B)) := by rw [← hl]; exact txt_drop _ _
  rw [x1, x2, txtB_app, txtB_app, txtB_app, txtB_app, txtB_app, txtB_app]
  split <;> simp
end Go.Proofs.YtedanlmippfojaaDoor

namespace Go.Proofs.YtedanlmippfojaaDoor
open Go.RowKit
set_option linter.unusedVariables false

theorem txt_leaves {l : List Op7} (h : opsB l = true) : (txtB (shown (lfs l (standL l)))).size = (shownI (lvs l)).length := by
  rw [txtB_size, shown_n, shownI_len]
  unfold lvs standL
  rw [if_pos h]
theorem by_unput {T b : ByteArray} {m : Nat} (hm : m ≤ T.size) (hb : b.size = 1) : (T.extract 0 m ++ b ++ T.extract m T.size).extract 0 m ++ (T.extract 0 m ++ b ++ T.extract m T.size).extract (m + 1) (T.extract 0 m ++ b ++ T.extract m T.size).size = T := by
  apply by_ext
  simp only [by_app, by_ext_cut]
  have h1 : (T.data.toList.take m).length = m := by rw [List.length_take, by_len]; omega
  have h2 : b.data.toList.length = 1 := by rw [by_len]; exact hb
  have h3 : (T.extract 0 m ++ b ++ T.extract m T.size).size = m + 1 + (T.size - m) := by
    rw [← by_len]
    simp only [by_app, by_ext_cut, List.length_append, List.drop_zero, Nat.sub_zero]
    rw [h1, h2, List.length_take, List.length_drop, by_len]
    omega
  rw [h3]
  simp only [List.drop_zero, Nat.sub_zero]
  have h4 : (T.data.toList.take m ++ b.data.toList).length = m + 1 := by rw [List.length_append, h1, h2]
  have h5 : (List.take (T.size - m) (List.drop m T.data.toList)) = List.drop m T.data.toList := List.take_of_length_le (by rw [List.length_drop, by_len]; omega)
  rw [h5, List.append_assoc, List.take_append_of_le_length (by omega), List.take_of_length_le (by omega), ← List.append_assoc, List.drop_append_of_le_length (by omega), List.drop_of_length_le (by omega), List.nil_append]
  rw [List.take_of_length_le (l := List.drop m T.data.toList) (by rw [List.length_drop, by_len]; omega), List.take_append_drop]
theorem take_parts {l : List Op7} {r t : Int} (h : mayTake l r t = true) : mayMore l r = true ∧ 0 ≤ t ∧ t.toNat < (shownI (lvs l)).length := by
  unfold mayTake inB at h
  simp only [Bool.and_eq_true, decide_eq_true_eq] at h
  exact ⟨h.1, h.2.1, by omega⟩
/-- Two take the same sign away. -/
theorem two_taken {l : List Op7} {r u t : Int} (h1 : mayTake l r t = true) (h2 : mayTake l u t = true) (hne : r ≠ u) :
    okW (withL l (takeO l r t.toNat)) (takeO l u t.toNat) = true ∧ opsB (withL l (takeO l r t.toNat)) = true ∧
    txtL (withL (withL l (takeO l r t.toNat)) (takeO l u t.toNat)) = txtL (withL l (takeO l r t.toNat)) := by
  obtain ⟨m1, _, t1⟩ := take_parts h1
  obtain ⟨m2, _, _⟩ := take_parts h2
  have ho := (may_parts m1).1
  have c1 := (take_can m1 t1).1
  have c2 := (take_can m2 t1).1
  have hX := (okW_can ho c1).2
  have c3 : CanL (withL l (takeO l r t.toNat)) (takeO l u t.toNat) := can_still ho c1 c2 hne
  obtain ⟨w1, w2⟩ := okW_can hX c3
  refine ⟨w1, hX, ?_⟩
  unfold txtL
  rw [stand_ok w2, stand_ok hX, all_take hX c3 rfl]
  congr 2
  unfold lfs
  apply List.map_congr_left
  intro y _
  have hg : goneB (withL (withL l (takeO l r t.toNat)) (takeO l u t.toNat)) (y.a, y.b) = goneB (withL l (takeO l r t.toNat)) (y.a, y.b) := by
    rw [gone_with hX c3, gone_with ho c1]
    have e : (takeO l u t.toNat).k = (takeO l r t.toNat).k ∧ (takeO l u t.toNat).c = (takeO l r t.toNat).c ∧ (takeO l u t.toNat).d = (takeO l r t.toNat).d := ⟨rfl, rfl, rfl⟩
    rw [e.1, e.2.1, e.2.2]
    cases goneB l (y.a, y.b) <;> cases ((takeO l r t.toNat).k == 2 && ((takeO l r t.toNat).c == y.a && (takeO l r t.toNat).d == y.b)) <;> rfl
  rw [hg]
theorem cnt_with {l : List Op7} {o : Op7} (h : okW l o = true) {r : Int} (hne : o.a ≠ r) : cnt (withL l o) r = cnt l r := by
  unfold okW at h
  simp only [Bool.and_eq_true, decide_eq_true_eq] at h
  obtain ⟨A, B, e1, e2⟩ := withL_split (ops_sorted h.1) (find_new h.2.1)
  rw [e2]
  conv => rhs; rw [e1]
  unfold cnt
  rw [List.countP_append, List.countP_cons, List.countP_append]
  have : isRep r o = false := by unfold isRep; simpa using hne
  simp [this]
/-- What one puts another one takes away: the text is as it was. -/
theorem put_back {l : List Op7} {r u m sg : Int} (hp : mayPut l u m sg = true) (hr : mayMore l r = true) (hne : u ≠ r) :
    okW l (putO l u m.toNat sg) = true ∧ mayTake (withL l (putO l u m.toNat sg)) r m = true ∧
    okW (withL l (putO l u m.toNat sg)) (takeO (withL l (putO l u m.toNat sg)) r m.toNat) = true ∧
    txtL (withL (withL l (putO l u m.toNat sg)) (takeO (withL l (putO l u m.toNat sg)) r m.toNat)) = txtL l := by
  obtain ⟨f1, f2, f3, ⟨f4, f4'⟩, _, f6⟩ := put_done hp
  obtain ⟨_, r1, r3, rc, _⟩ := may_parts hr
  have ha : (putO l u m.toNat sg).a = u := by unfold putO; split <;> rfl
  have hc := cnt_with f1 (r := r) (by rw [ha]; exact hne)
  have hb1 : (txtB [sg]).size = 1 := by rw [txtB_size]; rfl
  have hsz : (txtB (shown (lfs (withL l (putO l u m.toNat sg)) (standL (withL l (putO l u m.toNat sg)))))).size = (txtB (shown (lfs l (standL l)))).size + 1 := by
    rw [f6]
    simp only [ByteArray.size_append, ByteArray.size_extract, hb1]
    omega
  have hln := txt_leaves f3
  have hmt : mayTake (withL l (putO l u m.toNat sg)) r m = true := by
    unfold mayTake mayMore inB
    rw [f3, hc]
    simp only [Bool.and_eq_true, decide_eq_true_eq, true_and]
    exact ⟨⟨⟨r1, r3⟩, rc⟩, f4, by omega⟩
  obtain ⟨g1, g2, g3, _, _, g6⟩ := take_done hmt
  refine ⟨f1, hmt, g1, ?_⟩
  unfold txtL
  rw [g6, f6]
  exact by_unput f4' hb1
end Go.Proofs.YtedanlmippfojaaDoor

namespace Go.Proofs.YtedanlmippfojaaDoor
open Go.RowKit
set_option linter.unusedVariables false

theorem txt_at (gs : List Int) {k : Nat} (h : k < (txtB gs).size) (h' : k < gs.length) : (txtB gs)[k] = UInt8.ofNat (gs[k]).toNat := by
  show (txtB gs).data[k] = _
  simp [txtB]
theorem take_shows {l : List Op7} {r t : Int} (h : mayTake l r t = true) : ∃ k x, ∃ hk : k < (lvs l).length, (lvs l)[k]? = some x ∧ x.a = (takeO l r t.toNat).c ∧ x.b = (takeO l r t.toNat).d ∧ x.z = false ∧ atI (lvs l) (takeO l r t.toNat).c (takeO l r t.toNat).d = (k : Nat) ∧
    ∃ hs : t.toNat < (txtB (shown (lfs l (standL l)))).size, wrap64 ((((txtB (shown (lfs l (standL l))))[t.toNat]).toNat : Nat) : Int) = x.g := by
  unfold mayTake inB at h
  simp only [Bool.and_eq_true, decide_eq_true_eq] at h
  obtain ⟨hm, ht0, ht1⟩ := h
  have ho := (may_parts hm).1
  have htl : t.toNat < (shownI (lvs l)).length := by omega
  obtain ⟨hc, A, p, B, he, hid, hg, hn⟩ := take_can hm htl
  have hp : (takeO l r t.toNat).c = p.a ∧ (takeO l r t.toNat).d = p.b := by
    unfold takeO
    rw [← hid]
    exact ⟨rfl, rfl⟩
  have hpm : p ∈ allO l := by rw [he]; simp
  obtain ⟨hpl, hpk⟩ := side_put _ hpm
  have hok := (opsParts ho).1
  have hpo : okO p = true := List.all_eq_true.1 hok p hpl
  have hpg : 97 ≤ p.g ∧ p.g ≤ 122 := by
    unfold okO at hpo
    rw [opB_true] at hpo
    rcases hpo.2.2 with h | h <;> omega
  have hlv : lvs l = lfs l A ++ ⟨p.a, p.b, p.g, goneB l (p.a, p.b)⟩ :: lfs l B := by unfold lvs; rw [he]; simp [lfs]
  have hx : (lvs l)[A.length]? = some ⟨p.a, p.b, p.g, goneB l (p.a, p.b)⟩ := by rw [hlv]; simp [lfs]
  have hkl : A.length < (lvs l).length := (List.getElem?_eq_some_iff.1 hx).1
  have hxe : (lvs l)[A.length] = ⟨p.a, p.b, p.g, goneB l (p.a, p.b)⟩ := (List.getElem?_eq_some_iff.1 hx).2
  have hs : shown (lfs l (standL l)) = shown (lfs l A) ++ p.g % 256 :: shown (lfs l B) := by
    rw [stand_ok ho]
    have : lfs l (allO l) = lvs l := rfl
    rw [this, hlv]
    simp [shown, hg]
  have hl : (shown (lfs l A)).length = t.toNat := by rw [shown_n, hn]
  refine ⟨A.length, _, hkl, hx, hp.1.symm, hp.2.symm, hg, ?_, ?_⟩
  · rw [hp.1, hp.2]
    refine atI_some hkl (by rw [hxe]; exact ⟨rfl, rfl⟩) (fun j hj hjk hh => ?_)
    have := lvs_id ho (x := (lvs l)[j]) (y := (lvs l)[A.length]) (List.getElem?_eq_getElem hj) (List.getElem?_eq_getElem hkl) (by rw [hxe]; exact hh.1) (by rw [hxe]; exact hh.2)
    omega
  · rw [hs]
    have h1 : t.toNat < (shown (lfs l A) ++ p.g % 256 :: shown (lfs l B)).length := by simp [hl]
    refine ⟨by rw [txtB_size]; exact h1, ?_⟩
    rw [txt_at _ _ h1]
    have h2 : (shown (lfs l A) ++ p.g % 256 :: shown (lfs l B))[t.toNat] = p.g % 256 := by simp [hl]
    rw [h2]
    have h3 : (p.g % 256).toNat < 256 := by omega
    rw [UInt8.toNat_ofNat_of_lt' (by simpa using h3)]
    rw [show (((p.g % 256).toNat : Nat) : Int) = p.g by omega]
    exact IntWalk.wrap64_in _ ⟨by omega, by omega⟩
end Go.Proofs.YtedanlmippfojaaDoor

namespace Go.Proofs.YtedanlmippfojaaDoor
open Go.RowKit
set_option linter.unusedSimpArgs false
set_option linter.unusedVariables false
attribute [local go_sem ↓] Go.wp_at_zero Go.wp_at_succ

/-- Things, and two boxes of one thing. -/
structure TW (w W : World) (G c O P : Nat) (L : List Op7) (o : Op7) : Prop where
  own : OwnOps W w.heap.size G c L
  one : W.heap[O]? = some (.cells #[.int .i64 o.a, .int .i64 o.b, .int .i64 o.k, .int .i64 o.c, .int .i64 o.d, .int .i64 o.s, .int .i64 o.g] 29 (0, 0))
  two : W.heap[P]? = some (.cells #[.int .i64 o.a, .int .i64 o.b, .int .i64 o.k, .int .i64 o.c, .int .i64 o.d, .int .i64 o.s, .int .i64 o.g] 29 (0, 0))
  bel : Below w.heap.size w W
theorem TW.below {w W W' : World} {G c O P : Nat} {L : List Op7} {o : Op7} (h : TW w W G c O P L o) (hb : Below W.heap.size W W') : TW w W' G c O P L o := ⟨h.own.below hb, blk_below h.one hb, blk_below h.two hb, Bstep h.bel hb⟩

/-- Things, a box of one, a second row of things, and a box of another one. -/
structure T2 (w W : World) (G c P Gx cg B : Nat) (L : List Op7) (o : Op7) (M : List Op7) (b : Op7) : Prop where
  own : OwnOps W w.heap.size G c L
  one : W.heap[P]? = some (.cells #[.int .i64 o.a, .int .i64 o.b, .int .i64 o.k, .int .i64 o.c, .int .i64 o.d, .int .i64 o.s, .int .i64 o.g] 29 (0, 0))
  row : OwnOps W w.heap.size Gx cg M
  two : W.heap[B]? = some (.cells #[.int .i64 b.a, .int .i64 b.b, .int .i64 b.k, .int .i64 b.c, .int .i64 b.d, .int .i64 b.s, .int .i64 b.g] 29 (0, 0))
  bel : Below w.heap.size w W
theorem T2.below {w W W' : World} {G c P Gx cg B : Nat} {L : List Op7} {o : Op7} {M : List Op7} {b : Op7} (h : T2 w W G c P Gx cg B L o M b) (hb : Below W.heap.size W W') : T2 w W' G c P Gx cg B L o M b := ⟨h.own.below hb, blk_below h.one hb, h.row.below hb, blk_below h.two hb, Bstep h.bel hb⟩

set_option maxRecDepth 100000 in
set_option maxHeartbeats 8000000 in
theorem walkTakeTwice (w : World) (p p' : Option Addr) (n cap n' cap' : Nat) (h : ArgBytes w p n) (hcap : n ≤ cap) (hmax : cap ≤ maxLen) (h' : ArgBytes w p' n') (hcap' : n' ≤ cap') (hmax' : cap' ≤ maxLen) (x : Addr)
    (he : w.cell? ⟨0, 0, none⟩ = some (.iface 203 (.pointer (some x)))) (h0 : 0 < w.heap.size) :
    Calls Tryd.prog 6 #[.slice p n cap, .slice p' n' cap'] w fun e w' => e = .returned (.bool true) ∧ Below w.heap.size w w' := by
  have H := hideIt h
  clear h h'
  unfold maxLen at *
  by_cases hn : n ≤ 1048576 ∧ n' ≤ 1048576
  · obtain ⟨hn, hn'⟩ := hn
    go_enter Tryd.func6, Tryd.ntmps6
    go_wp2_with fail
    refine (drawTake_any _ p n cap H.out hcap hn).mono ?_
    rintro e w1 ⟨G, c, _, r, t, rfl, hr, ht, ⟨L, rfl, hL, hS⟩, hb1⟩
    have HS := hideIt hS
    have HB := hideIt hb1
    clear hS hb1
    obtain ⟨o, ho⟩ : ∃ o, takeA L r t = o := ⟨_, rfl⟩
    obtain ⟨zz, hzz⟩ : ∃ zz, mayTake L r t = zz := ⟨_, rfl⟩
    have HO := hideIt ho
    have HZ := hideIt hzz
    clear ho hzz
    go_wp2_with fail
    refine (typeTake_any L G c r t _ HS.out.at (by omega) HS.out.cap).mono ?_
    rintro e w2 ⟨hd, hb2⟩
    have hE := takeA_of hd
    rw [HO.out, HZ.out] at hE
    subst hE
    unfold opV
    have HS2 := hideIt (HS.out.below hb2)
    have HB2 := hideIt (Bstep HB.out hb2)
    clear hb2 hd HS HB
    go_wp2_with fail
    have HX2 : Hid (OX w2.heap.size o w (w2.alloc (.cells #[.int .i64 o.a, .int .i64 o.b, .int .i64 o.k, .int .i64 o.c, .int .i64 o.d, .int .i64 o.s, .int .i64 o.g] 29))) := ⟨World.alloc_heap_new _ _, HB2.out.alloc HB2.out.size _⟩
    have HS3 := hideIt (HS2.out.below ((Below.refl _ _).alloc (Nat.le_refl _) (.cells #[.int .i64 o.a, .int .i64 o.b, .int .i64 o.k, .int .i64 o.c, .int .i64 o.d, .int .i64 o.s, .int .i64 o.g] 29)))
    clear HS2 HB2
    refine (implTake_any L G c r t x _ HS3.out.at (by omega) HS3.out.cap (errB HX2.out.bel h0 he) (posB HX2.out.bel h0)).mono ?_
    rintro e w4 ⟨hd, hb4⟩
    have hE := takeA_of hd
    rw [HO.out, HZ.out] at hE
    subst hE
    unfold opV
    have HX4 := hideIt (HX2.out.below hb4)
    have HS4 := hideIt (HS3.out.below hb4)
    clear hb4 hd HX2 HS3
    generalize w2.heap.size = O at *
    have HT : Hid (TW w (w4.alloc (.cells #[.int .i64 o.a, .int .i64 o.b, .int .i64 o.k, .int .i64 o.c, .int .i64 o.d, .int .i64 o.s, .int .i64 o.g] 29)) G c O w4.heap.size L o) :=
      ⟨HS4.out.below ((Below.refl _ _).alloc (Nat.le_refl _) _), blk_below HX4.out.box ((Below.refl _ _).alloc (Nat.le_refl _) _), World.alloc_heap_new _ _, HX4.out.bel.alloc HX4.out.bel.size _⟩
    have HBX : Hid (∀ W', W' = w4.alloc (.cells #[.int .i64 o.a, .int .i64 o.b, .int .i64 o.k, .int .i64 o.c, .int .i64 o.d, .int .i64 o.s, .int .i64 o.g] 29) → S7 O o W' ∧ S7 w4.heap.size o W') := fun W' e => by
      subst e
      exact ⟨S7.of HT.out.one, S7.of HT.out.two⟩
    obtain ⟨⟨x0, x1, x2, x3, x4, x5, x6⟩, ⟨y0, y1, y2, y3, y4, y5, y6⟩⟩ := HBX.out _ rfl
    have hlO := (Array.getElem?_eq_some_iff.1 HX4.out.box).1
    have z0 := (blk_cell HX4.out.box 0).trans rfl
    have z1 := (blk_cell HX4.out.box 1).trans rfl
    have z2 := (blk_cell HX4.out.box 2).trans rfl
    have z3 := (blk_cell HX4.out.box 3).trans rfl
    have z4 := (blk_cell HX4.out.box 4).trans rfl
    have z5 := (blk_cell HX4.out.box 5).trans rfl
    have z6 := (blk_cell HX4.out.box 6).trans rfl
    cases zz
    · go_wp2
      go_ret
      exact ⟨rfl, HT.out.bel⟩
    · have HOE : Hid (takeO L r t.toNat = o) := by
        have h := HO.out
        unfold takeA at h
        rw [HZ.out, if_pos rfl] at h
        exact h
      have HZ1 : Hid (mayTake L r t = true) := HZ.out
      obtain ⟨hmm, _, _⟩ := take_parts HZ.out
      obtain ⟨hop, hr1, hr3, _, _⟩ := may_parts hmm
      have HMM := hideIt hmm
      have HOP := hideIt hop
      have hoc : ¬ ((0 : Int) = o.c) := by
        obtain ⟨k, xl, hkl, hx, ha, _⟩ := take_shows HZ.out
        rw [HOE.out] at ha
        have := lvs_pos hop hx
        omega
      obtain ⟨f1, f2, f3, ⟨f4, f4'⟩, f5, f6⟩ := take_done HZ.out
      rw [HOE.out] at f1 f3 f5 f6
      have HOK := hideIt f1
      have HOPX := hideIt f3
      have hE : ansW L o = withL L o := ansW_yes f1
      have hwl := withL_lenW L o
      have hwl1 : 0 < (withL L o).length := by unfold withL; simp only [List.length_append, List.length_cons, List.length_nil]; omega
      obtain ⟨v, u, hv, hu, hne, hu1⟩ : ∃ v u : Int, r % 3 = v ∧ v + 1 = u ∧ r ≠ u ∧ (1 ≤ u ∧ u ≤ 3) := ⟨r % 3, r % 3 + 1, rfl, rfl, by omega, by omega⟩
      have hv2 : Int.tmod r 3 = v := by rw [Int.tmod_eq_emod_of_nonneg (by omega)]; exact hv
      have hwu : IntKind.i64.wrap (v + 1) = u := by rw [hu]; exact IntWalk.i64_in u ⟨by omega, by omega⟩
      have HHU := hideIt hu
      clear f1 f2 f3 f5 f6 hmm hop hu
      go_wp2_with fail
      refine (implWith_any L G c o x _ HT.out.own.at (by omega) HT.out.own.cap (errB HT.out.bel h0 he) (posB HT.out.bel h0)).mono ?_
      rintro e w6 ⟨vx, rfl, hrow, hb6⟩
      rw [HOK.out]
      rw [hE] at hrow
      have hrow := ownsRow_base HT.out.bel.size hrow
      have HM := hideIt (HT.out.below hb6)
      clear hb6 hE HT HX4 HS4 HBX x0 x1 x2 x3 x4 x5 x6 y0 y1 y2 y3 y4 y5 y6 z0 z1 z2 z3 z4 z5 z6 hlO
      obtain ⟨M, hM⟩ : ∃ M, withL L o = M := ⟨_, rfl⟩
      rw [hM] at hrow hwl hwl1 HOPX
      have HMM1 := hideIt hM
      clear hM
      obtain ⟨qg, cg, rfl, hqg⟩ := oprow hrow
      obtain ⟨Gx, rfl, hcx, _, _, _⟩ := hqg hwl1
      have HOX : Hid (OwnOps w6 w.heap.size Gx cg M) := hrow
      clear hqg hrow
      go_wp2_with fail
      obtain ⟨b, hb⟩ : ∃ b, takeA L u t = b := ⟨_, rfl⟩
      obtain ⟨z2, hz2⟩ : ∃ z2, mayTake L u t = z2 := ⟨_, rfl⟩
      have HBE := hideIt hb
      have HZ2 := hideIt hz2
      clear hb hz2
      refine (implTake_any L G c u t x _ HM.out.own.at (by omega) HM.out.own.cap (errB HM.out.bel h0 he) (posB HM.out.bel h0)).mono ?_
      rintro e w7 ⟨hd, hb7⟩
      have hE := takeA_of hd
      rw [HBE.out, HZ2.out] at hE
      subst hE
      cases z2
      · have hb0 : b = ⟨0, 0, 0, 0, 0, 0, 0⟩ := by
          have h := HBE.out
          unfold takeA at h
          rw [HZ2.out] at h
          exact h.symm
        subst hb0
        unfold opV
        have hba : Below w7.heap.size w7 (w7.alloc (.cells #[.int .i64 0, .int .i64 0, .int .i64 0, .int .i64 0, .int .i64 0, .int .i64 0, .int .i64 0] 29)) := (Below.refl _ _).alloc (Nat.le_refl _) _
        generalize hPP : w4.heap.size = P at *
        have HT2 : Hid (T2 w (w7.alloc (.cells #[.int .i64 0, .int .i64 0, .int .i64 0, .int .i64 0, .int .i64 0, .int .i64 0, .int .i64 0] 29)) G c P Gx cg w7.heap.size L o M ⟨0, 0, 0, 0, 0, 0, 0⟩) :=
          ⟨(HM.out.own.below hb7).below hba, blk_below (blk_below HM.out.two hb7) hba, (HOX.out.below hb7).below hba, World.alloc_heap_new _ _, Bstep (Bstep HM.out.bel hb7) hba⟩
        have HWA : Hid (∀ W', W' = w7.alloc (.cells #[.int .i64 0, .int .i64 0, .int .i64 0, .int .i64 0, .int .i64 0, .int .i64 0, .int .i64 0] 29) → S7 P o W' ∧ S7 w7.heap.size ⟨0, 0, 0, 0, 0, 0, 0⟩ W' ∧ P < W'.heap.size ∧ w7.heap.size < W'.heap.size) := fun W' e => by
          subst e
          exact ⟨S7.of HT2.out.one, S7.of HT2.out.two, (Array.getElem?_eq_some_iff.1 HT2.out.one).1, (Array.getElem?_eq_some_iff.1 HT2.out.two).1⟩
        obtain ⟨⟨x0, x1, x2, x3, x4, x5, x6⟩, ⟨y0, y1, y2, y3, y4, y5, y6⟩, hlp, hlb⟩ := HWA.out _ rfl
        have hpl : P < w7.heap.size := Nat.lt_of_lt_of_le (Array.getElem?_eq_some_iff.1 HM.out.two).1 hb7.size
        have k3 := ((bcell hb7).1 P 3 (Array.getElem?_eq_some_iff.1 HM.out.two).1).trans ((S7.of HM.out.two).2.2.2.1)
        have k4 := ((bcell hb7).1 P 4 (Array.getElem?_eq_some_iff.1 HM.out.two).1).trans ((S7.of HM.out.two).2.2.2.2.1)
        clear hb7 hba HM HOX hPP
        go_wp2_with fail
        generalize w7.alloc (.cells #[.int .i64 0, .int .i64 0, .int .i64 0, .int .i64 0, .int .i64 0, .int .i64 0, .int .i64 0] 29) = W8 at *
        generalize w7.heap.size = B at *
        clear x0 x1 x2 x3 x4 x5 x6 y0 y1 y2 y3 y4 y5 y6 k3 k4 hlp hlb HWA hpl
        refine (implTxt_any L G c x _ HT2.out.own.at (by omega) HT2.out.own.cap (errB HT2.out.bel h0 he) (posB HT2.out.bel h0)).mono ?_
        rintro e w9 ⟨rfl, hb9⟩
        have HT9 := hideIt (HT2.out.below hb9)
        clear hb9 HT2
        rw [show txtB (shown (lfs L (standL L))) = txtL L from rfl]
        have hts : (txtL L).size ≤ 74 := by
          unfold txtL
          rw [txtB_size]
          have h1 := shown_len (lfs L (standL L))
          rw [lfs_len] at h1
          have h2 := stand_len L
          omega
        obtain ⟨T, hT⟩ : ∃ T, txtL L = T := ⟨_, rfl⟩
        have HTT := hideIt hT
        rw [hT] at hts ⊢
        clear hT
        have hsw : IntKind.i64.wrap ((T.size : Int) + 1) = (T.size : Int) + 1 := IntWalk.i64_in _ ⟨by omega, by omega⟩
        have hsz : ¬ ((T.size : Int) + 1 = 0) := by omega
        obtain ⟨q, hq, hqs⟩ : ∃ q : Nat, (n' : Int).tmod ((T.size : Int) + 1) = (q : Int) ∧ q ≤ T.size := by
          have h1 : (n' : Int).tmod ((T.size : Int) + 1) = ((n' % (T.size + 1) : Nat) : Int) := by
            rw [Int.tmod_eq_emod_of_nonneg (by omega)]
            push_cast; rfl
          exact ⟨_, h1, by have := Nat.mod_lt n' (show 0 < T.size + 1 by omega); omega⟩
        have hq2 : (n' : Int) % ((T.size : Int) + 1) = (q : Int) := by rw [← hq, Int.tmod_eq_emod_of_nonneg (by omega)]
        have hwq : wf64 (q : Int) := wf_small (by omega)
        go_wp2_with fail
        refine (implPut_any L G c u q 109 hwq x _ HT9.out.own.at (by omega) HT9.out.own.cap (errB HT9.out.bel h0 he) (posB HT9.out.bel h0)).mono ?_
        rintro e w10 ⟨(⟨hm, rfl⟩ | ⟨hm, rfl⟩), hb10⟩
        · skip
          have hbq : Below w10.heap.size w10 (w10.alloc (.cells #[.int .i64 0, .int .i64 0, .int .i64 0, .int .i64 0, .int .i64 0, .int .i64 0, .int .i64 0] 29)) := (Below.refl _ _).alloc (Nat.le_refl _) _
          have HTQ := hideIt ((HT9.out.below hb10).below hbq)
          have HQ : Hid ((w10.alloc (.cells #[.int .i64 0, .int .i64 0, .int .i64 0, .int .i64 0, .int .i64 0, .int .i64 0, .int .i64 0] 29)).heap[w10.heap.size]? = some (.cells #[.int .i64 0, .int .i64 0, .int .i64 0, .int .i64 0, .int .i64 0, .int .i64 0, .int .i64 0] 29 (0, 0))) := World.alloc_heap_new _ _
          clear hb10 hm HT9
          go_wp2
          go_ret
          exact ⟨rfl, HTQ.out.bel⟩
        · skip
          obtain ⟨p1, p2, p3, p4⟩ := put_back (r := r) hm HMM.out (fun e => hne e.symm)
          obtain ⟨ob, hob⟩ : ∃ ob, putO L u (q : Int).toNat 109 = ob := ⟨_, rfl⟩
          rw [hob] at p1 p2 p3 p4 ⊢
          have HP1 := hideIt p1
          have HP2 := hideIt p2
          have HP3 := hideIt p3
          have HP4 := hideIt p4
          have hEz : ansW L ob = withL L ob := ansW_yes p1
          have hwz := withL_lenW L ob
          have hwz1 : 0 < (withL L ob).length := by unfold withL; simp only [List.length_append, List.length_cons, List.length_nil]; omega
          clear p1 p2 p3 p4 hob hm
          unfold opV
          have hbq : Below w10.heap.size w10 (w10.alloc (.cells #[.int .i64 ob.a, .int .i64 ob.b, .int .i64 ob.k, .int .i64 ob.c, .int .i64 ob.d, .int .i64 ob.s, .int .i64 ob.g] 29)) := (Below.refl _ _).alloc (Nat.le_refl _) _
          have HTQ := hideIt ((HT9.out.below hb10).below hbq)
          have HQ : Hid ((w10.alloc (.cells #[.int .i64 ob.a, .int .i64 ob.b, .int .i64 ob.k, .int .i64 ob.c, .int .i64 ob.d, .int .i64 ob.s, .int .i64 ob.g] 29)).heap[w10.heap.size]? = some (.cells #[.int .i64 ob.a, .int .i64 ob.b, .int .i64 ob.k, .int .i64 ob.c, .int .i64 ob.d, .int .i64 ob.s, .int .i64 ob.g] 29 (0, 0))) := World.alloc_heap_new _ _
          clear hb10 hbq HT9
          obtain ⟨q0, q1, q2, q3, q4, q5, q6⟩ := S7.of HQ.out
          have hlq := (Array.getElem?_eq_some_iff.1 HQ.out).1
          go_wp2_with fail
          refine (implWith_any L G c ob x _ HTQ.out.own.at (by omega) HTQ.out.own.cap (errB HTQ.out.bel h0 he) (posB HTQ.out.bel h0)).mono ?_
          rintro e w14 ⟨vz, rfl, hrz, hb14⟩
          rw [HP1.out]
          rw [hEz] at hrz
          have hrz := ownsRow_base HTQ.out.bel.size hrz
          have HTZ := hideIt (HTQ.out.below hb14)
          clear hb14 hEz q0 q1 q2 q3 q4 q5 q6 hlq HQ HTQ
          obtain ⟨Z, hZ⟩ : ∃ Z, withL L ob = Z := ⟨_, rfl⟩
          rw [hZ] at hrz hwz hwz1
          have HP2 : Hid (mayTake Z r q = true) := by have h := HP2.out; rw [hZ] at h; exact h
          have HP3 : Hid (okW Z (takeO Z r (q : Int).toNat) = true) := by have h := HP3.out; rw [hZ] at h; exact h
          have HP4 : Hid (txtL (withL Z (takeO Z r (q : Int).toNat)) = txtL L) := by have h := HP4.out; rw [hZ] at h; exact h
          clear hZ
          obtain ⟨qz, cz, rfl, hqz⟩ := oprow hrz
          obtain ⟨Gz, rfl, _, _, _, _⟩ := hqz hwz1
          have HOZ : Hid (OwnOps w14 w.heap.size Gz cz Z) := hrz
          clear hqz hrz
          go_wp2_with fail
          refine (implTake_any Z Gz cz r q x _ HOZ.out.at (by omega) HOZ.out.cap (errB HTZ.out.bel h0 he) (posB HTZ.out.bel h0)).mono ?_
          rintro e w15 ⟨(⟨hf, _⟩ | ⟨_, rfl⟩), hb15⟩
          · rw [HP2.out] at hf; cases hf
          obtain ⟨bk, hbk⟩ : ∃ bk, takeO Z r (q : Int).toNat = bk := ⟨_, rfl⟩
          rw [hbk]
          have HP3 : Hid (okW Z bk = true) := by have h := HP3.out; rw [hbk] at h; exact h
          have HP4 : Hid (txtL (withL Z bk) = txtL L) := by have h := HP4.out; rw [hbk] at h; exact h
          clear hbk HP2
          have HOZ := hideIt (HOZ.out.below hb15)
          have HTZ := hideIt (HTZ.out.below hb15)
          clear hb15
          unfold opV
          have hwu2 := withL_lenW Z bk
          have hwu1 : 0 < (withL Z bk).length := by unfold withL; simp only [List.length_append, List.length_cons, List.length_nil]; omega
          have hEu : ansW Z bk = withL Z bk := ansW_yes HP3.out
          go_wp2_with fail
          have hbk2 : Below w15.heap.size w15 (w15.alloc (.cells #[.int .i64 bk.a, .int .i64 bk.b, .int .i64 bk.k, .int .i64 bk.c, .int .i64 bk.d, .int .i64 bk.s, .int .i64 bk.g] 29)) := (Below.refl _ _).alloc (Nat.le_refl _) _
          have HOZ := hideIt (HOZ.out.below hbk2)
          have HTZ := hideIt (HTZ.out.below hbk2)
          clear hbk2
          refine (implWith_any Z Gz cz bk x _ HOZ.out.at (by omega) HOZ.out.cap (errB HTZ.out.bel h0 he) (posB HTZ.out.bel h0)).mono ?_
          rintro e w16 ⟨vu, rfl, hru, hb16⟩
          rw [HP3.out]
          rw [hEu] at hru
          have hru := ownsRow_base HTZ.out.bel.size hru
          have HTZ := hideIt (HTZ.out.below hb16)
          clear hb16 hEu HOZ
          obtain ⟨U, hU⟩ : ∃ U, withL Z bk = U := ⟨_, rfl⟩
          rw [hU] at hru hwu2 hwu1
          have HP4 : Hid (txtL U = T) := by have h := HP4.out; rw [hU, HTT.out] at h; exact h
          clear hU
          obtain ⟨qu, cu, rfl, hqu⟩ := oprow hru
          obtain ⟨Gu, rfl, _, _, _, _⟩ := hqu hwu1
          have HOU : Hid (OwnOps w16 w.heap.size Gu cu U) := hru
          clear hqu hru
          go_wp2_with fail
          refine (implTxt_any U Gu cu x _ HOU.out.at (by omega) HOU.out.cap (errB HTZ.out.bel h0 he) (posB HTZ.out.bel h0)).mono ?_
          rintro e w17 ⟨rfl, hb17⟩
          rw [show txtB (shown (lfs U (standL U))) = txtL U from rfl, HP4.out]
          have HTZ := hideIt (HTZ.out.below hb17)
          clear hb17
          go_wp2
          go_ret
          exact ⟨by simp, HTZ.out.bel⟩
      · have HBO : Hid (takeO L u t.toNat = b) := by
          have h := HBE.out
          unfold takeA at h
          rw [HZ2.out, if_pos rfl] at h
          exact h
        have hbc : b.c = o.c := by rw [← HBO.out, ← HOE.out]; rfl
        have hbd : b.d = o.d := by rw [← HBO.out, ← HOE.out]; rfl
        obtain ⟨ba, bb, bk, bc, bd, bs, bg⟩ := b
        dsimp only at hbc hbd
        subst hbc hbd
        unfold opV
        dsimp only
        have hba : Below w7.heap.size w7 (w7.alloc (.cells #[.int .i64 ba, .int .i64 bb, .int .i64 bk, .int .i64 o.c, .int .i64 o.d, .int .i64 bs, .int .i64 bg] 29)) := (Below.refl _ _).alloc (Nat.le_refl _) _
        generalize hPP : w4.heap.size = P at *
        have HT2 : Hid (T2 w (w7.alloc (.cells #[.int .i64 ba, .int .i64 bb, .int .i64 bk, .int .i64 o.c, .int .i64 o.d, .int .i64 bs, .int .i64 bg] 29)) G c P Gx cg w7.heap.size L o M ⟨ba, bb, bk, o.c, o.d, bs, bg⟩) :=
          ⟨(HM.out.own.below hb7).below hba, blk_below (blk_below HM.out.two hb7) hba, (HOX.out.below hb7).below hba, World.alloc_heap_new _ _, Bstep (Bstep HM.out.bel hb7) hba⟩
        have HWA : Hid (∀ W', W' = w7.alloc (.cells #[.int .i64 ba, .int .i64 bb, .int .i64 bk, .int .i64 o.c, .int .i64 o.d, .int .i64 bs, .int .i64 bg] 29) → S7 P o W' ∧ S7 w7.heap.size ⟨ba, bb, bk, o.c, o.d, bs, bg⟩ W' ∧ P < W'.heap.size ∧ w7.heap.size < W'.heap.size) := fun W' e => by
          subst e
          exact ⟨S7.of HT2.out.one, S7.of HT2.out.two, (Array.getElem?_eq_some_iff.1 HT2.out.one).1, (Array.getElem?_eq_some_iff.1 HT2.out.two).1⟩
        obtain ⟨⟨x0, x1, x2, x3, x4, x5, x6⟩, ⟨y0, y1, y2, y3, y4, y5, y6⟩, hlp, hlb⟩ := HWA.out _ rfl
        have hpl : P < w7.heap.size := Nat.lt_of_lt_of_le (Array.getElem?_eq_some_iff.1 HM.out.two).1 hb7.size
        have k3 := ((bcell hb7).1 P 3 (Array.getElem?_eq_some_iff.1 HM.out.two).1).trans ((S7.of HM.out.two).2.2.2.1)
        have k4 := ((bcell hb7).1 P 4 (Array.getElem?_eq_some_iff.1 HM.out.two).1).trans ((S7.of HM.out.two).2.2.2.2.1)
        clear hb7 hba HM HOX hPP
        go_wp2_with fail
        generalize w7.alloc (.cells #[.int .i64 ba, .int .i64 bb, .int .i64 bk, .int .i64 o.c, .int .i64 o.d, .int .i64 bs, .int .i64 bg] 29) = W8 at *
        generalize w7.heap.size = B at *
        clear x0 x1 x2 x3 x4 x5 x6 y0 y1 y2 y3 y4 y5 y6 k3 k4 hlp hlb HWA hpl
        refine (implTxt_any L G c x _ HT2.out.own.at (by omega) HT2.out.own.cap (errB HT2.out.bel h0 he) (posB HT2.out.bel h0)).mono ?_
        rintro e w9 ⟨rfl, hb9⟩
        have HT9 := hideIt (HT2.out.below hb9)
        clear hb9 HT2
        rw [show txtB (shown (lfs L (standL L))) = txtL L from rfl]
        have hts : (txtL L).size ≤ 74 := by
          unfold txtL
          rw [txtB_size]
          have h1 := shown_len (lfs L (standL L))
          rw [lfs_len] at h1
          have h2 := stand_len L
          omega
        obtain ⟨T, hT⟩ : ∃ T, txtL L = T := ⟨_, rfl⟩
        have HTT := hideIt hT
        rw [hT] at hts ⊢
        clear hT
        have hsw : IntKind.i64.wrap ((T.size : Int) + 1) = (T.size : Int) + 1 := IntWalk.i64_in _ ⟨by omega, by omega⟩
        have hsz : ¬ ((T.size : Int) + 1 = 0) := by omega
        obtain ⟨q, hq, hqs⟩ : ∃ q : Nat, (n' : Int).tmod ((T.size : Int) + 1) = (q : Int) ∧ q ≤ T.size := by
          have h1 : (n' : Int).tmod ((T.size : Int) + 1) = ((n' % (T.size + 1) : Nat) : Int) := by
            rw [Int.tmod_eq_emod_of_nonneg (by omega)]
            push_cast; rfl
          exact ⟨_, h1, by have := Nat.mod_lt n' (show 0 < T.size + 1 by omega); omega⟩
        have hq2 : (n' : Int) % ((T.size : Int) + 1) = (q : Int) := by rw [← hq, Int.tmod_eq_emod_of_nonneg (by omega)]
        have hwq : wf64 (q : Int) := wf_small (by omega)
        go_wp2_with fail
        refine (implPut_any L G c u q 109 hwq x _ HT9.out.own.at (by omega) HT9.out.own.cap (errB HT9.out.bel h0 he) (posB HT9.out.bel h0)).mono ?_
        rintro e w10 ⟨(⟨hm, rfl⟩ | ⟨hm, rfl⟩), hb10⟩
        · skip
          have hbq : Below w10.heap.size w10 (w10.alloc (.cells #[.int .i64 0, .int .i64 0, .int .i64 0, .int .i64 0, .int .i64 0, .int .i64 0, .int .i64 0] 29)) := (Below.refl _ _).alloc (Nat.le_refl _) _
          have HTQ := hideIt ((HT9.out.below hb10).below hbq)
          have HQ : Hid ((w10.alloc (.cells #[.int .i64 0, .int .i64 0, .int .i64 0, .int .i64 0, .int .i64 0, .int .i64 0, .int .i64 0] 29)).heap[w10.heap.size]? = some (.cells #[.int .i64 0, .int .i64 0, .int .i64 0, .int .i64 0, .int .i64 0, .int .i64 0, .int .i64 0] 29 (0, 0))) := World.alloc_heap_new _ _
          clear hb10 hm HT9
          obtain ⟨c1, c2, c3⟩ := two_taken HZ1.out HZ2.out hne
          rw [HOE.out, HMM1.out, HBO.out] at c1
          rw [HOE.out, HMM1.out, HBO.out] at c3
          have HC1 := hideIt c1
          have HC3 := hideIt c3
          have hwy := withL_lenW M ⟨ba, bb, bk, o.c, o.d, bs, bg⟩
          have hwy1 : 0 < (withL M ⟨ba, bb, bk, o.c, o.d, bs, bg⟩).length := by rw [show withL M ⟨ba, bb, bk, o.c, o.d, bs, bg⟩ = M.filter (fun p => lessB p ⟨ba, bb, bk, o.c, o.d, bs, bg⟩) ++ [⟨ba, bb, bk, o.c, o.d, bs, bg⟩] ++ M.filter (fun p => lessB ⟨ba, bb, bk, o.c, o.d, bs, bg⟩ p) from rfl]; simp only [List.length_append, List.length_cons, List.length_nil]; omega
          have hE2 : ansW M ⟨ba, bb, bk, o.c, o.d, bs, bg⟩ = withL M ⟨ba, bb, bk, o.c, o.d, bs, bg⟩ := ansW_yes c1
          clear c1 c2 c3
          obtain ⟨y0, y1, y2, y3, y4, y5, y6⟩ := S7.of HTQ.out.two
          have hlb := (Array.getElem?_eq_some_iff.1 HTQ.out.two).1
          go_wp2_with fail
          refine (implWith_any M Gx cg ⟨ba, bb, bk, o.c, o.d, bs, bg⟩ x _ HTQ.out.row.at (by omega) HTQ.out.row.cap (errB HTQ.out.bel h0 he) (posB HTQ.out.bel h0)).mono ?_
          rintro e w11 ⟨vy, rfl, hry, hb11⟩
          rw [HC1.out]
          rw [hE2] at hry
          have hry := ownsRow_base HTQ.out.bel.size hry
          have HTQ := hideIt (HTQ.out.below hb11)
          have HQ := hideIt (blk_below HQ.out hb11)
          clear hb11 hE2 y0 y1 y2 y3 y4 y5 y6 hlb
          obtain ⟨Y, hY⟩ : ∃ Y, withL M ⟨ba, bb, bk, o.c, o.d, bs, bg⟩ = Y := ⟨_, rfl⟩
          rw [hY] at hry hwy hwy1
          have HC3 : Hid (txtL Y = txtL M) := by have h := HC3.out; rw [hY] at h; exact h
          clear hY
          obtain ⟨qy, cy, rfl, hqy⟩ := oprow hry
          obtain ⟨Gy, rfl, _, _, _, _⟩ := hqy hwy1
          have HOY : Hid (OwnOps w11 w.heap.size Gy cy Y) := hry
          clear hqy hry
          go_wp2_with fail
          refine (implTxt_any Y Gy cy x _ HOY.out.at (by omega) HOY.out.cap (errB HTQ.out.bel h0 he) (posB HTQ.out.bel h0)).mono ?_
          rintro e w12 ⟨rfl, hb12⟩
          rw [show txtB (shown (lfs Y (standL Y))) = txtL Y from rfl, HC3.out]
          have HTQ := hideIt (HTQ.out.below hb12)
          have HQ := hideIt (blk_below HQ.out hb12)
          clear hb12 HOY
          go_wp2_with fail
          refine (implTxt_any M Gx cg x _ HTQ.out.row.at (by omega) HTQ.out.row.cap (errB HTQ.out.bel h0 he) (posB HTQ.out.bel h0)).mono ?_
          rintro e w13 ⟨rfl, hb13⟩
          rw [show txtB (shown (lfs M (standL M))) = txtL M from rfl]
          have HTQ := hideIt (HTQ.out.below hb13)
          have HQ := hideIt (blk_below HQ.out hb13)
          clear hb13
          go_wp2
          go_ret
          exact ⟨rfl, HTQ.out.bel⟩
        · skip
          obtain ⟨p1, p2, p3, p4⟩ := put_back (r := r) hm HMM.out (fun e => hne e.symm)
          obtain ⟨ob, hob⟩ : ∃ ob, putO L u (q : Int).toNat 109 = ob := ⟨_, rfl⟩
          rw [hob] at p1 p2 p3 p4 ⊢
          have HP1 := hideIt p1
          have HP2 := hideIt p2
          have HP3 := hideIt p3
          have HP4 := hideIt p4
          have hEz : ansW L ob = withL L ob := ansW_yes p1
          have hwz := withL_lenW L ob
          have hwz1 : 0 < (withL L ob).length := by unfold withL; simp only [List.length_append, List.length_cons, List.length_nil]; omega
          clear p1 p2 p3 p4 hob hm
          unfold opV
          have hbq : Below w10.heap.size w10 (w10.alloc (.cells #[.int .i64 ob.a, .int .i64 ob.b, .int .i64 ob.k, .int .i64 ob.c, .int .i64 ob.d, .int .i64 ob.s, .int .i64 ob.g] 29)) := (Below.refl _ _).alloc (Nat.le_refl _) _
          have HTQ := hideIt ((HT9.out.below hb10).below hbq)
          have HQ : Hid ((w10.alloc (.cells #[.int .i64 ob.a, .int .i64 ob.b, .int .i64 ob.k, .int .i64 ob.c, .int .i64 ob.d, .int .i64 ob.s, .int .i64 ob.g] 29)).heap[w10.heap.size]? = some (.cells #[.int .i64 ob.a, .int .i64 ob.b, .int .i64 ob.k, .int .i64 ob.c, .int .i64 ob.d, .int .i64 ob.s, .int .i64 ob.g] 29 (0, 0))) := World.alloc_heap_new _ _
          clear hb10 hbq HT9
          obtain ⟨c1, c2, c3⟩ := two_taken HZ1.out HZ2.out hne
          rw [HOE.out, HMM1.out, HBO.out] at c1
          rw [HOE.out, HMM1.out, HBO.out] at c3
          have HC1 := hideIt c1
          have HC3 := hideIt c3
          have hwy := withL_lenW M ⟨ba, bb, bk, o.c, o.d, bs, bg⟩
          have hwy1 : 0 < (withL M ⟨ba, bb, bk, o.c, o.d, bs, bg⟩).length := by rw [show withL M ⟨ba, bb, bk, o.c, o.d, bs, bg⟩ = M.filter (fun p => lessB p ⟨ba, bb, bk, o.c, o.d, bs, bg⟩) ++ [⟨ba, bb, bk, o.c, o.d, bs, bg⟩] ++ M.filter (fun p => lessB ⟨ba, bb, bk, o.c, o.d, bs, bg⟩ p) from rfl]; simp only [List.length_append, List.length_cons, List.length_nil]; omega
          have hE2 : ansW M ⟨ba, bb, bk, o.c, o.d, bs, bg⟩ = withL M ⟨ba, bb, bk, o.c, o.d, bs, bg⟩ := ansW_yes c1
          clear c1 c2 c3
          obtain ⟨y0, y1, y2, y3, y4, y5, y6⟩ := S7.of HTQ.out.two
          have hlb := (Array.getElem?_eq_some_iff.1 HTQ.out.two).1
          go_wp2_with fail
          refine (implWith_any M Gx cg ⟨ba, bb, bk, o.c, o.d, bs, bg⟩ x _ HTQ.out.row.at (by omega) HTQ.out.row.cap (errB HTQ.out.bel h0 he) (posB HTQ.out.bel h0)).mono ?_
          rintro e w11 ⟨vy, rfl, hry, hb11⟩
          rw [HC1.out]
          rw [hE2] at hry
          have hry := ownsRow_base HTQ.out.bel.size hry
          have HTQ := hideIt (HTQ.out.below hb11)
          have HQ := hideIt (blk_below HQ.out hb11)
          clear hb11 hE2 y0 y1 y2 y3 y4 y5 y6 hlb
          obtain ⟨Y, hY⟩ : ∃ Y, withL M ⟨ba, bb, bk, o.c, o.d, bs, bg⟩ = Y := ⟨_, rfl⟩
          rw [hY] at hry hwy hwy1
          have HC3 : Hid (txtL Y = txtL M) := by have h := HC3.out; rw [hY] at h; exact h
          clear hY
          obtain ⟨qy, cy, rfl, hqy⟩ := oprow hry
          obtain ⟨Gy, rfl, _, _, _, _⟩ := hqy hwy1
          have HOY : Hid (OwnOps w11 w.heap.size Gy cy Y) := hry
          clear hqy hry
          go_wp2_with fail
          refine (implTxt_any Y Gy cy x _ HOY.out.at (by omega) HOY.out.cap (errB HTQ.out.bel h0 he) (posB HTQ.out.bel h0)).mono ?_
          rintro e w12 ⟨rfl, hb12⟩
          rw [show txtB (shown (lfs Y (standL Y))) = txtL Y from rfl, HC3.out]
          have HTQ := hideIt (HTQ.out.below hb12)
          have HQ := hideIt (blk_below HQ.out hb12)
          clear hb12 HOY
          go_wp2_with fail
          refine (implTxt_any M Gx cg x _ HTQ.out.row.at (by omega) HTQ.out.row.cap (errB HTQ.out.bel h0 he) (posB HTQ.out.bel h0)).mono ?_
          rintro e w13 ⟨rfl, hb13⟩
          rw [show txtB (shown (lfs M (standL M))) = txtL M from rfl]
          have HTQ := hideIt (HTQ.out.below hb13)
          have HQ := hideIt (blk_below HQ.out hb13)
          clear hb13
          obtain ⟨q0, q1, q2, q3, q4, q5, q6⟩ := S7.of HQ.out
          have hlq := (Array.getElem?_eq_some_iff.1 HQ.out).1
          go_wp2_with fail
          refine (implWith_any L G c ob x _ HTQ.out.own.at (by omega) HTQ.out.own.cap (errB HTQ.out.bel h0 he) (posB HTQ.out.bel h0)).mono ?_
          rintro e w14 ⟨vz, rfl, hrz, hb14⟩
          rw [HP1.out]
          rw [hEz] at hrz
          have hrz := ownsRow_base HTQ.out.bel.size hrz
          have HTZ := hideIt (HTQ.out.below hb14)
          clear hb14 hEz q0 q1 q2 q3 q4 q5 q6 hlq HQ HTQ
          obtain ⟨Z, hZ⟩ : ∃ Z, withL L ob = Z := ⟨_, rfl⟩
          rw [hZ] at hrz hwz hwz1
          have HP2 : Hid (mayTake Z r q = true) := by have h := HP2.out; rw [hZ] at h; exact h
          have HP3 : Hid (okW Z (takeO Z r (q : Int).toNat) = true) := by have h := HP3.out; rw [hZ] at h; exact h
          have HP4 : Hid (txtL (withL Z (takeO Z r (q : Int).toNat)) = txtL L) := by have h := HP4.out; rw [hZ] at h; exact h
          clear hZ
          obtain ⟨qz, cz, rfl, hqz⟩ := oprow hrz
          obtain ⟨Gz, rfl, _, _, _, _⟩ := hqz hwz1
          have HOZ : Hid (OwnOps w14 w.heap.size Gz cz Z) := hrz
          clear hqz hrz
          go_wp2_with fail
          refine (implTake_any Z Gz cz r q x _ HOZ.out.at (by omega) HOZ.out.cap (errB HTZ.out.bel h0 he) (posB HTZ.out.bel h0)).mono ?_
          rintro e w15 ⟨(⟨hf, _⟩ | ⟨_, rfl⟩), hb15⟩
          · rw [HP2.out] at hf; cases hf
          obtain ⟨bz, hbz⟩ : ∃ bz, takeO Z r (q : Int).toNat = bz := ⟨_, rfl⟩
          rw [hbz]
          have HP3 : Hid (okW Z bz = true) := by have h := HP3.out; rw [hbz] at h; exact h
          have HP4 : Hid (txtL (withL Z bz) = txtL L) := by have h := HP4.out; rw [hbz] at h; exact h
          clear hbz HP2
          have HOZ := hideIt (HOZ.out.below hb15)
          have HTZ := hideIt (HTZ.out.below hb15)
          clear hb15
          unfold opV
          have hwu2 := withL_lenW Z bz
          have hwu1 : 0 < (withL Z bz).length := by unfold withL; simp only [List.length_append, List.length_cons, List.length_nil]; omega
          have hEu : ansW Z bz = withL Z bz := ansW_yes HP3.out
          go_wp2_with fail
          have hbk2 : Below w15.heap.size w15 (w15.alloc (.cells #[.int .i64 bz.a, .int .i64 bz.b, .int .i64 bz.k, .int .i64 bz.c, .int .i64 bz.d, .int .i64 bz.s, .int .i64 bz.g] 29)) := (Below.refl _ _).alloc (Nat.le_refl _) _
          have HOZ := hideIt (HOZ.out.below hbk2)
          have HTZ := hideIt (HTZ.out.below hbk2)
          clear hbk2
          refine (implWith_any Z Gz cz bz x _ HOZ.out.at (by omega) HOZ.out.cap (errB HTZ.out.bel h0 he) (posB HTZ.out.bel h0)).mono ?_
          rintro e w16 ⟨vu, rfl, hru, hb16⟩
          rw [HP3.out]
          rw [hEu] at hru
          have hru := ownsRow_base HTZ.out.bel.size hru
          have HTZ := hideIt (HTZ.out.below hb16)
          clear hb16 hEu HOZ
          obtain ⟨U, hU⟩ : ∃ U, withL Z bz = U := ⟨_, rfl⟩
          rw [hU] at hru hwu2 hwu1
          have HP4 : Hid (txtL U = T) := by have h := HP4.out; rw [hU, HTT.out] at h; exact h
          clear hU
          obtain ⟨qu, cu, rfl, hqu⟩ := oprow hru
          obtain ⟨Gu, rfl, _, _, _, _⟩ := hqu hwu1
          have HOU : Hid (OwnOps w16 w.heap.size Gu cu U) := hru
          clear hqu hru
          go_wp2_with fail
          refine (implTxt_any U Gu cu x _ HOU.out.at (by omega) HOU.out.cap (errB HTZ.out.bel h0 he) (posB HTZ.out.bel h0)).mono ?_
          rintro e w17 ⟨rfl, hb17⟩
          rw [show txtB (shown (lfs U (standL U))) = txtL U from rfl, HP4.out]
          have HTZ := hideIt (HTZ.out.below hb17)
          clear hb17
          go_wp2
          go_ret
          exact ⟨by simp, HTZ.out.bel⟩
  · go_enter Tryd.func6, Tryd.ntmps6
    by_cases hn1 : n ≤ 1048576
    · have hn2 : (1048576 : Int) < (n' : Int) := by omega
      go_wp2
      go_ret
      exact ⟨rfl, Below.refl _ _⟩
    · have hn2 : (1048576 : Int) < (n : Int) := by omega
      go_wp2
      go_ret
      exact ⟨rfl, Below.refl _ _⟩
end Go.Proofs.YtedanlmippfojaaDoor

namespace Go.Proofs.YtedanlmippfojaaDoor
open Go.ChangeShapes Go.WideShapes Go.ChangeAt Go.RowKit Go.Joins

theorem own : ownKnob Tryd.prog.godebug = none := by kernel_rfl
theorem laidOut : laidOutB Tryd.prog = true := by kernel_rfl
theorem cells_int : Tryd.prog.cellsOf 3 = 1 := by kernel_rfl

/-- The name of the one listed variable. -/
abbrev errName : String := Rows.fnTypeAnyoneSpec.vars.headD ""
/-- What the rows list. -/
abbrev laid1 : List (String × DataW Unit) := Rows.fnTypeAnyoneRow.laid
theorem gErr : Tryd.prog.globalNamed errName = some 0 := by kernel_rfl
theorem tErr : (Tryd.prog.globals[0]?).map (·.type) = some 93 := by kernel_rfl
def nmOf : DataW Unit → String
  | .iface n _ => n
  | _ => ""
theorem star : "*" ++ "errors.errorString" = nmOf Rows.laid_loop_example_tatting_impl_errNoThing := by decide
theorem nameErr (u : TypeId) (h : Tryd.prog.typeName? 3 u = some (nmOf Rows.laid_loop_example_tatting_impl_errNoThing)) : u = 203 :=
  typeName_ptr_named (nm := "errors.errorString") (by rw [star]; kernel_rfl) (by kernel_rfl) (by decide) u (by rw [star]; exact h)

theorem door_met (os : Os) (args : Array Value) : laidMetH Tryd.prog laid1 ((World.doorLaid Tryd.prog 28 os).forCall (fun _ _ => 0) ⟨#[], args, []⟩).memory :=
  laidMetH_of_parts3 (fuel := 8) (laidMet_of_run' 8 (by kernel_rfl) (by kernel_rfl)) (by kernel_rfl) (by kernel_rfl)

/-- WHAT THE CONDITION GIVES THE WALKS: the one error's cell. -/
theorem of_laid {W : World} (h : laidMetH Tryd.prog laid1 W) : ∃ x : Addr, W.var? Tryd.prog errName = some #[.iface 203 (.pointer (some x))] ∧ W.cell? ⟨0, 0, none⟩ = some (.iface 203 (.pointer (some x))) ∧ 0 < W.heap.size := by
  rw [MakeChecks.laidMetH_plain _ _ _ (by kernel_rfl)] at h
  obtain ⟨x, s, hv, hc, _, _⟩ := laid_sentinel h gErr tErr Tryd.underlying93 nameErr Tryd.underlying203 Tryd.underlying230 rfl rfl Tryd.underlying9 (by kernel_rfl) (by kernel_rfl)
  have hcell : W.cell? ⟨0, 0, none⟩ = some (.iface 203 (.pointer (some x))) := by simpa using World.var?_cell gErr hv 0
  refine ⟨x, hv, hcell, ?_⟩
  rcases Nat.eq_zero_or_pos W.heap.size with h0 | h0
  · exfalso
    simp [World.cell?, Array.eq_empty_of_size_eq_zero h0] at hcell
  · exact h0

/-- The variable holds what it held, where nothing that was there has turned. -/
theorem var_kept {W W' : World} {x : Value} (hb : Below W.heap.size W W') (h0 : 0 < W.heap.size) (hv : W.var? Tryd.prog errName = some #[x]) : W'.var? Tryd.prog errName = some #[x] := by
  unfold World.var? at hv ⊢
  rw [gErr] at hv ⊢
  simp only [Option.bind_some] at hv ⊢
  rw [hb.block 0 h0]
  exact hv
end Go.Proofs.YtedanlmippfojaaDoor

namespace Go.Proofs.YtedanlmippfojaaDoor
open Go.ChangeShapes Go.WideShapes Go.ChangeAt Go.RowKit Go.Joins

theorem cells_byte : Tryd.prog.cellsOf 5 = 1 := by kernel_rfl

set_option maxRecDepth 100000 in
theorem open_bytes {H : Type} {enc : TypeId × Value → H} {w : World} {r : Reach} {b0 : Nat} {spare : Nat → Bool} {held : Bool} {v : Value} {d : DataW H} {p : List MemPlace}
    (hv : Value.okWide Tryd.prog w r b0 22 v) (h : DataW.Trod enc Tryd.prog w 0 spare held 22 v d p) :
    ∃ (q : Option Addr) (n cap : Nat), v = .slice q n cap ∧ n ≤ cap ∧ cap ≤ maxLen ∧ ArgBytes w q n := by
  obtain ⟨q, len, cap, rfl⟩ := okWide_slice Tryd.underlying22 hv
  obtain ⟨fuel, hf⟩ := h
  rcases open_ints Tryd.underlying22 Tryd.underlying5 cells_byte hf with ⟨hcs, _⟩ | ⟨a, len', cap', zs, hcs, _, hl, hm, hz, _, hcell, hwz⟩
  · simp [Value.cells] at hcs
    obtain ⟨rfl, rfl, rfl⟩ := hcs
    exact ⟨none, 0, 0, rfl, Nat.le_refl _, Nat.zero_le _, .inl rfl⟩
  · simp [Value.cells] at hcs
    obtain ⟨rfl, rfl, rfl⟩ := hcs
    refine ⟨some a, len, cap, rfl, hl, hm, ?_⟩
    have hlz : len ≤ zs.length := by rw [hz]; split <;> omega
    rcases Nat.eq_zero_or_pos len with h0 | h0
    · exact .inl h0
    obtain ⟨b, off, spot⟩ := a
    have hspot : spot = none := by simpa [Addr.add] using World.cell?_spot (hcell 0 (by omega))
    subst hspot
    refine .inr ⟨b, off, rfl, ?_, fun i hi => ?_⟩
    · have := World.block_lt_of_cell? w _ (hcell 0 (by omega))
      simpa [Addr.add_lit] using this
    · have hc := hcell i (by omega)
      rw [Addr.add_lit] at hc
      have hb := range_u8 hwz i
      exact ⟨zs.getD i 0, by simpa [List.getD] using hb.1, by simpa [List.getD] using hb.2, hc⟩

end Go.Proofs.YtedanlmippfojaaDoor

namespace Go.Proofs.YtedanlmippfojaaDoor
open Go.ChangeShapes Go.WideShapes Go.ChangeAt Go.RowKit Go.Joins

set_option maxRecDepth 100000 in
theorem liftedFnTakeTwice (os : Os) (started : os.Started) (H : Type) (enc : TypeId × Value → H) :
    ReturnsInHanded {} Tryd.checked os 6 .any (fun w args => (Rows.fnTakeTwiceSpec.pre enc Tryd.prog Tryd.f6 [] false w args ∧ laidMetH Tryd.prog laid1 w) ∧ sizedMet enc Tryd.prog Tryd.f6 (OpenSpec.ofChange Rows.fnTakeTwiceSpec) false w args)
      (Rows.fnTakeTwiceSpec.post enc Tryd.prog Tryd.f6 false true false false) := by
  refine returnsInHanded_of_change_and (C := Tryd.checked) (X := fun w _ => laidMetH Tryd.prog laid1 w) (fun _ _ _ hh h => h.of_heap hh) own started (by kernel_rfl) Tryd.func6
    (ChangeSpec.witness_shaped (enc := enc) (C := Tryd.checked) (os := os) (X := fun w _ => laidMetH Tryd.prog laid1 w) false (World.doorLaid Tryd.prog 28 os) #[.slice none 0 0, .slice none 0 0] 8 rfl (World.shaped_of_RefB (by kernel_rfl) (by kernel_rfl)) (by kernel_rfl) (by kernel_rfl) (by kernel_rfl) (door_met os _)) ?_
  intro W base args ds gs before hval0 hW _ _ hL _
  have hval : ∀ (j : Nat) t v, Tryd.f6.params[j]? = some t → args[j]? = some v → Value.okWide Tryd.prog W .any base t v := hval0
  have hW' := hW
  obtain ⟨p, q, hA0, hV0, rfl, hfz, hnd⟩ := hW
  have hA : DataW.TrodAll enc Tryd.prog W 0 (fun _ => true) true Tryd.f6.params.toList args.toList ds p := hA0
  have hV : DataW.TrodVars enc Tryd.prog W (fun _ => true) [errName] gs q := hV0
  rw [Tryd.params6] at hA hval
  obtain ⟨v0, v1, d0, d1, p0, p1, rfl, rfl, rfl, h0, h1⟩ := trodAll_two hA
  have k0 := h0
  have k1 := h1
  have lt0 : ∀ x ∈ p0, x.block < W.heap.size := by obtain ⟨m, hm⟩ := k0; exact DataW.trod_lt m _ _ _ hm
  have lt1 : ∀ x ∈ p1, x.block < W.heap.size := by obtain ⟨m, hm⟩ := k1; exact DataW.trod_lt m _ _ _ hm
  obtain ⟨x, hv, hc, hpos⟩ := of_laid hL
  obtain ⟨rfl, rfl⟩ := hV.unique (vars_read1 enc gErr tErr Tryd.underlying93 hv trivial _)
  obtain ⟨q0, n0, c0, rfl, hc0, hm0, ha0⟩ := open_bytes (hval 0 22 v0 rfl rfl) h0
  obtain ⟨q1, n1, c1, rfl, hc1, hm1, ha1⟩ := open_bytes (hval 1 22 v1 rfl rfl) h1
  clear hA0 hV0 hval0
  refine (walkTakeTwice W q0 q1 n0 c0 n1 c1 ha0 hc0 hm0 ha1 hc1 hm1 x hc hpos).mono fun e W' ⟨he, bel⟩ => ?_
  subst he
  exact ⟨_, rfl, _, _, _, [], _, [.cell 0 0], hW', trodAll_mk1 (shut_bool Tryd.underlying4 _), (trodAll_cons_mk (Below.trod laidOut (by kernel_rfl) (of_decide_eq_true (by kernel_rfl)) k0 bel lt0) (trodAll_cons_mk (Below.trod laidOut (by kernel_rfl) (of_decide_eq_true (by kernel_rfl)) k1 bel lt1) trodAll_mk0)), vars_read1 enc gErr tErr Tryd.underlying93 (var_kept bel hpos hv) trivial _, bel.frame _, fun h => by cases h⟩

theorem fnTakeTwice_row : Rows.FnTakeTwiceSaid :=
  OpenClaim.holds_of_wide 6 Tryd.f6 rfl rfl rfl rfl rfl rfl rfl ⟨rfl, rfl, rfl, rfl, rfl⟩ rfl rfl rfl rfl rfl (by kernel_rfl) Tryd.func6 (by kernel_rfl)
    (of_decide_eq_true (by kernel_rfl)) (by unfold Func.isWrapper; first | (rw [if_pos (by decide +kernel)]; kernel_rfl) | (rw [if_neg (by decide +kernel)]; exact ⟨rfl, rfl⟩))
    (fun os started H enc _ => liftedFnTakeTwice os started H enc)

/-- THE STATEMENT. -/
theorem fnTakeTwice_holds : Rows.FnTakeTwiceCardSaid :=
  Claim7.holds_tied_plain_at .later [] Rows.fnTakeTwiceCard.laidKinds true Rows.fnTakeTwiceCard.stood.harness true
    fnTakeTwice_row (fun _ h => by cases h) (by kernel_rfl) (fun _ h => by cases h) fnTakeTwice_row_tie rfl ⟨rfl, rfl⟩ (by kernel_rfl) rfl
    (fun f fn hf hfn => by
      obtain rfl : f = 6 := Option.some.inj ((show Tryd.prog.funcNamed Rows.fnTakeTwiceRow.func = some 6 by kernel_rfl).symm.trans hf) |>.symm
      obtain rfl : fn = Tryd.f6 := (Option.some.inj (Tryd.func6.symm.trans hfn)).symm
      exact ⟨by kernel_rfl, fun j t ht => by
        rw [Tryd.params6] at ht
        have hm : t ∈ [22, 22] := by simpa using Array.mem_of_getElem? ht
        have hall : ([22, 22].all fun u => !Tryd.prog.wantsStandIn u) = true := by kernel_rfl
        exact (show Tryd.prog.wantsStandIn t = false by simpa using List.all_eq_true.1 hall t hm)⟩)
    (by kernel_rfl)
#print axioms fnTakeTwice_holds
end Go.Proofs.YtedanlmippfojaaDoor
