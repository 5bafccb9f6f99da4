/-
  PROVED: TypeTake is true just where there is such a sign, of somebody who did less than twelve things, and refers to the sign that the text shows there, which is not gone, whatever bytes what was done, who takes and where are drawn from; and TypeTake answers as the specification's does (the given card of FnTakeCan), for every input; the one listed variable, the program's error, reads as its own initialiser lays it.
-/
import Derived.Test.YtedanlmippfojaaDoorP5
import Derived.Test.YtedanlmippfojaaDoorP2
import Derived.Test.YtedanlmippfojaaDoorP0
import Derived.Test.YtedanlmippfojaaDoorP4
import Derived.Test.YtedanlmippfojaaDoorP3
import Derived.Test.YtedanlmippfojaaDoorP6
import Derived.Test.YtedanlmippfojaaDoorRows
import Derived.WalkKit
import Derived.ProofKit
import Derived.OpenShut
import Derived.ChangeOld
import Derived.Below
import Derived.Lib.SmallJoins
import Derived.Stop.LaidErr
import Derived.LaidMore
import Derived.Stop.Joined
import Derived.ChangeSlices
import Derived.Test.YtedanlmippfojaaDoorTie
import Derived.Test.YtedanlmippfojaaDoorCards
import Derived.SevenTiedAt
namespace Go.Proofs.YtedanlmippfojaaDoor
open Go.RowKit Go.Shelf
set_option linter.unusedSimpArgs false
set_option linter.unusedVariables false
attribute [local go_sem ↓] Go.wp_at_zero Go.wp_at_succ build_op0 build_opTake build_opPut

set_option maxRecDepth 100000 in
set_option maxHeartbeats 2000000 in
theorem takingAt_any (l : List Op7) (g cap : Nat) (r t : Int) (x : Addr) (w : World) (hl : OpsAt w g l) (hn : l.length ≤ 1048576) (hcap : l.length ≤ cap)
    (he : w.cell? ⟨0, 0, none⟩ = some (.iface 203 (.pointer (some x)))) (h0 : 0 < w.heap.size) :
    Calls Tryd.prog 71 #[.slice (some ⟨g, 0, none⟩) l.length cap, .int .i64 r, .int .i64 t] w fun e w' =>
      ((mayTake l r t = false ∧ e = .returned (.tuple #[.agg #[.int .i64 0, .int .i64 0, .int .i64 0, .int .i64 0, .int .i64 0, .int .i64 0, .int .i64 0], .iface 203 (.pointer (some x))])) ∨
       (mayTake l r t = true ∧ e = .returned (.tuple #[opV (takeO l r t.toNat), .nilIface]))) ∧ Below w.heap.size w w' := by
  have HL := hideIt hl
  have hgw := hl.1
  clear hl
  go_enter Tryd.func71, Tryd.ntmps71
  go_wp2_with fail
  have HRB := hideIt (RB.start w)
  refine (treeNext_any l g cap r x _ (HL.out.below HRB.out.bel hgw) hn hcap (errB HRB.out.bel h0 he) (posB HRB.out.bel h0)).mono ?_
  rintro e w1 ⟨(⟨hm, rfl⟩ | ⟨hm, b1, b2, b3, base, rfl, hT⟩), hb1⟩
  all_goals
    have HM := hideIt hm
    have HR1 := hideIt (HRB.out.below hb1)
    have hwl := HR1.out.lt
    clear hm hb1 HRB
  · have HA := hideIt (HR1.out.below (((Below.refl _ _).alloc (Nat.le_refl _) (.cells #[.map none, .map none, .map none] 107)).alloc (by simp) (.cells #[.int .i64 0, .int .i64 0] 27)))
    go_wp2_with (first | (refine wpList_store_row rfl 29 _ _ rfl w.heap.size _ rfl rfl 29 _ HA.out.box (by kernel_rfl) rfl (all7 _ _ _ _ _ _ _) ?_; have HST := hideIt (HA.out.stored 0 0 0 0 0 0 0); generalize World.setRow _ _ _ = W9 at *))
    obtain ⟨hb9, hbel9⟩ := HST.out
    have r0 := (blkCell hb9 0).trans rfl
    have r1 := (blkCell hb9 1).trans rfl
    have r2 := (blkCell hb9 2).trans rfl
    have r3 := (blkCell hb9 3).trans rfl
    have r4 := (blkCell hb9 4).trans rfl
    have r5 := (blkCell hb9 5).trans rfl
    have r6 := (blkCell hb9 6).trans rfl
    exact bodyPost_ret (v := .tuple #[.agg #[.int .i64 0, .int .i64 0, .int .i64 0, .int .i64 0, .int .i64 0, .int .i64 0, .int .i64 0], .iface 203 (.pointer (some x))]) (by simp [results, Tryd.results71, go_sem, r0, r1, r2, r3, r4, r5, r6]) rfl ⟨.inl ⟨by simp [mayTake, HM.out], rfl⟩, hbel9⟩
  · have HTT := hideIt hT
    have HOI : Hid (opsB l = true) := by
      have h := HM.out
      unfold mayMore at h
      simp only [Bool.and_eq_true] at h
      exact h.1.1
    clear hT
    generalize hcn : cnt l r + 1 = cn
    have HCN := hideIt hcn
    clear hcn
    go_wp2_with fail
    have HBa : Hid (Below w1.heap.size w1 ((w1.alloc (.cells #[.map (some b1), .map (some b2), .map (some b3)] 107)).alloc (.cells #[.int .i64 r, .int .i64 cn] 27))) := ((Below.refl _ _).alloc (Nat.le_refl _) _).alloc (by simp) _
    have HIa : Hid (((w1.alloc (.cells #[.map (some b1), .map (some b2), .map (some b3)] 107)).alloc (.cells #[.int .i64 r, .int .i64 cn] 27)).heap[w1.heap.size + 1]? = some (.cells #[.int .i64 r, .int .i64 cn] 27 (0, 0))) := by
      have h := World.alloc_heap_new (w1.alloc (.cells #[.map (some b1), .map (some b2), .map (some b3)] 107)) (.cells #[.int .i64 r, .int .i64 cn] 27)
      rw [World.size_alloc] at h
      exact h
    have HR2 := hideIt (HR1.out.below HBa.out)
    refine (callsIn_wide.1 (signAt_in l HOI.out hn w1 b1 b2 b3 base HTT.out 3 (Nat.le_refl _) t x _ HBa.out (errB HR2.out.bel h0 he) (posB HR2.out.bel h0))).mono ?_
    rintro e w3 ⟨(⟨k, j, y, hk, hj, hy, rfl⟩ | ⟨hno, rfl⟩), hb3⟩
    all_goals
      have HR3 := hideIt (HR2.out.below hb3)
      have HI3 := hideIt (blk_below HIa.out hb3)
      have hwl3 := HR3.out.lt
      have hil3 := (Array.getElem?_eq_some_iff.1 HI3.out).1
      have hdd : w1.heap.size + 1 ≠ w.heap.size := by omega
      clear hb3 HR2 HIa HBa
      generalize w1.heap.size + 1 = Bi at *
    · have HYES : Hid (mayTake l r t = true ∧ takeO l r t.toNat = ⟨r, cn, 2, y.a, y.b, 0, 0⟩) := by
        have hlt := (List.getElem?_eq_some_iff.1 hj).1
        subst hk
        refine ⟨?_, ?_⟩
        · simp [mayTake, HM.out, inB]
          omega
        · simp [takeO, takeId, hj, hy, HCN.out]
      clear hk hj hy
      generalize y.a = ya at *
      generalize y.b = yb at *
      have HA := hideIt (HR3.out.below ((Below.refl _ _).alloc (Nat.le_refl _) (.cells #[.int .i64 ya, .int .i64 yb] 27)))
      have d0 := (blk_cell HI3.out 0).trans rfl
      have d1 := (blk_cell HI3.out 1).trans rfl
      go_wp2_with (first | (refine wpList_store_row rfl 29 _ _ rfl w.heap.size _ rfl rfl 29 _ HA.out.box (by kernel_rfl) rfl (all7 _ _ _ _ _ _ _) ?_; have HST := hideIt (HA.out.stored r cn 2 ya yb 0 0); generalize World.setRow _ _ _ = W9 at *))
      obtain ⟨hb9, hbel9⟩ := HST.out
      have r0 := (blkCell hb9 0).trans rfl
      have r1 := (blkCell hb9 1).trans rfl
      have r2 := (blkCell hb9 2).trans rfl
      have r3 := (blkCell hb9 3).trans rfl
      have r4 := (blkCell hb9 4).trans rfl
      have r5 := (blkCell hb9 5).trans rfl
      have r6 := (blkCell hb9 6).trans rfl
      exact bodyPost_ret (v := .tuple #[.agg #[.int .i64 r, .int .i64 cn, .int .i64 2, .int .i64 ya, .int .i64 yb, .int .i64 0, .int .i64 0], .nilIface]) (by simp [results, Tryd.results71, go_sem, r0, r1, r2, r3, r4, r5, r6]) rfl ⟨.inr ⟨HYES.out.1, by rw [HYES.out.2]; rfl⟩, hbel9⟩
    · have HNO : Hid (mayTake l r t = false) := by show mayTake l r t = false; unfold mayTake; rw [hno]; simp
      clear hno
      have HA := hideIt (HR3.out.below ((Below.refl _ _).alloc (Nat.le_refl _) (.cells #[.int .i64 0, .int .i64 0] 27)))
      go_wp2_with (first | (refine wpList_store_row rfl 29 _ _ rfl w.heap.size _ rfl rfl 29 _ HA.out.box (by kernel_rfl) rfl (all7 _ _ _ _ _ _ _) ?_; have HST := hideIt (HA.out.stored 0 0 0 0 0 0 0); generalize World.setRow _ _ _ = W9 at *))
      obtain ⟨hb9, hbel9⟩ := HST.out
      have r0 := (blkCell hb9 0).trans rfl
      have r1 := (blkCell hb9 1).trans rfl
      have r2 := (blkCell hb9 2).trans rfl
      have r3 := (blkCell hb9 3).trans rfl
      have r4 := (blkCell hb9 4).trans rfl
      have r5 := (blkCell hb9 5).trans rfl
      have r6 := (blkCell hb9 6).trans rfl
      exact bodyPost_ret (v := .tuple #[.agg #[.int .i64 0, .int .i64 0, .int .i64 0, .int .i64 0, .int .i64 0, .int .i64 0, .int .i64 0], .iface 203 (.pointer (some x))]) (by simp [results, Tryd.results71, go_sem, r0, r1, r2, r3, r4, r5, r6]) rfl ⟨.inl ⟨HNO.out, rfl⟩, hbel9⟩
end Go.Proofs.YtedanlmippfojaaDoor

namespace Go.Proofs.YtedanlmippfojaaDoor
open Go.RowKit Go.Shelf
set_option linter.unusedSimpArgs false
set_option linter.unusedVariables false
attribute [local go_sem ↓] Go.wp_at_zero Go.wp_at_succ build_op0 build_opTake build_opPut

/-- A box of a thing: what lies in it. -/
def S7 (M : Nat) (o : Op7) (W : World) : Prop := W.cell? ⟨M, 0, none⟩ = some (.int .i64 o.a) ∧ W.cell? ⟨M, 1, none⟩ = some (.int .i64 o.b) ∧ W.cell? ⟨M, 2, none⟩ = some (.int .i64 o.k) ∧ W.cell? ⟨M, 3, none⟩ = some (.int .i64 o.c) ∧ W.cell? ⟨M, 4, none⟩ = some (.int .i64 o.d) ∧ W.cell? ⟨M, 5, none⟩ = some (.int .i64 o.s) ∧ W.cell? ⟨M, 6, none⟩ = some (.int .i64 o.g)
theorem S7.of {M : Nat} {o : Op7} {W : World} (h : W.heap[M]? = some (.cells #[.int .i64 o.a, .int .i64 o.b, .int .i64 o.k, .int .i64 o.c, .int .i64 o.d, .int .i64 o.s, .int .i64 o.g] 29 (0, 0))) : S7 M o W :=
  ⟨(blk_cell h 0).trans rfl, (blk_cell h 1).trans rfl, (blk_cell h 2).trans rfl, (blk_cell h 3).trans rfl, (blk_cell h 4).trans rfl, (blk_cell h 5).trans rfl, (blk_cell h 6).trans rfl⟩

attribute [-go_sem] Instr.storeAt
attribute [local go_sem ↓] store_op_new
set_option maxRecDepth 100000 in
set_option maxHeartbeats 2000000 in
theorem implTake_any (l : List Op7) (g cap : Nat) (r t : Int) (x : Addr) (w : World) (hl : OpsAt w g l) (hn : l.length ≤ 1048576) (hcap : l.length ≤ cap)
    (he : w.cell? ⟨0, 0, none⟩ = some (.iface 203 (.pointer (some x)))) (h0 : 0 < w.heap.size) :
    Calls Tryd.prog 21 #[.slice (some ⟨g, 0, none⟩) l.length cap, .int .i64 r, .int .i64 t] w fun e w' =>
      ((mayTake l r t = false ∧ e = .returned (.tuple #[.agg #[.int .i64 0, .int .i64 0, .int .i64 0, .int .i64 0, .int .i64 0, .int .i64 0, .int .i64 0], .bool false])) ∨
       (mayTake l r t = true ∧ e = .returned (.tuple #[opV (takeO l r t.toNat), .bool true]))) ∧ Below w.heap.size w w' := by
  have HL := hideIt hl
  have hgw := hl.1
  clear hl
  go_enter Tryd.func21, Tryd.ntmps21
  go_wp2_with fail
  have HRB := hideIt (RB.start w)
  refine (takingAt_any l g cap r t x _ (HL.out.below HRB.out.bel hgw) hn hcap (errB HRB.out.bel h0 he) (posB HRB.out.bel h0)).mono ?_
  rintro e w1 ⟨(⟨hm, rfl⟩ | ⟨hm, rfl⟩), hb1⟩
  all_goals
    have HM := hideIt hm
    have HR1 := hideIt (HRB.out.below hb1)
    have hwl := HR1.out.lt
    clear hm hb1 HRB
  · go_wp2_with fail
    obtain ⟨Wm, hWm⟩ : ∃ Wm, w1.alloc (.cells #[.int .i64 0, .int .i64 0, .int .i64 0, .int .i64 0, .int .i64 0, .int .i64 0, .int .i64 0] 29) = Wm := ⟨_, rfl⟩
    have hbm : Below w1.heap.size w1 Wm := by rw [← hWm]; exact (Below.refl _ _).alloc (Nat.le_refl _) _
    have hmk : Wm.heap[w1.heap.size]? = some (.cells #[.int .i64 0, .int .i64 0, .int .i64 0, .int .i64 0, .int .i64 0, .int .i64 0, .int .i64 0] 29 (0, 0)) := by rw [← hWm]; exact World.alloc_heap_new _ _
    have HIM := hideIt (HR1.out.below hbm)
    have herrm : Wm.cell? ⟨0, 0, none⟩ = some (.iface 203 (.pointer (some x))) := errB HIM.out.bel h0 he
    rw [hWm]
    clear hWm hbm
    have m0 := (blk_cell hmk 0).trans rfl
    have m1 := (blk_cell hmk 1).trans rfl
    have m2 := (blk_cell hmk 2).trans rfl
    have m3 := (blk_cell hmk 3).trans rfl
    have m4 := (blk_cell hmk 4).trans rfl
    have m5 := (blk_cell hmk 5).trans rfl
    have m6 := (blk_cell hmk 6).trans rfl
    clear hmk
    generalize w1.heap.size = M at *
    have n1 : M ≠ w.heap.size := by omega
    have n2 : 0 ≠ w.heap.size := by omega
    have K1 : Hid (Wm.drew.cell? ⟨M, 0, none⟩ = some (.int .i64 0) ∧ Wm.drew.cell? ⟨M, 1, none⟩ = some (.int .i64 0) ∧ Wm.drew.cell? ⟨M, 2, none⟩ = some (.int .i64 0) ∧ Wm.drew.cell? ⟨M, 3, none⟩ = some (.int .i64 0) ∧ Wm.drew.cell? ⟨M, 4, none⟩ = some (.int .i64 0) ∧ Wm.drew.cell? ⟨M, 5, none⟩ = some (.int .i64 0) ∧ Wm.drew.cell? ⟨M, 6, none⟩ = some (.int .i64 0) ∧ Wm.drew.cell? ⟨0, 0, none⟩ = some (.iface 203 (.pointer (some x)))) := ⟨m0, m1, m2, m3, m4, m5, m6, herrm⟩
    have K9 : Hid ((Wm.drew.setRow w.heap.size #[.int .i64 0, .int .i64 0, .int .i64 0, .int .i64 0, .int .i64 0, .int .i64 0, .int .i64 0]).cell? ⟨M, 0, none⟩ = some (.int .i64 0) ∧ (Wm.drew.setRow w.heap.size #[.int .i64 0, .int .i64 0, .int .i64 0, .int .i64 0, .int .i64 0, .int .i64 0, .int .i64 0]).cell? ⟨M, 1, none⟩ = some (.int .i64 0) ∧ (Wm.drew.setRow w.heap.size #[.int .i64 0, .int .i64 0, .int .i64 0, .int .i64 0, .int .i64 0, .int .i64 0, .int .i64 0]).cell? ⟨M, 2, none⟩ = some (.int .i64 0) ∧ (Wm.drew.setRow w.heap.size #[.int .i64 0, .int .i64 0, .int .i64 0, .int .i64 0, .int .i64 0, .int .i64 0, .int .i64 0]).cell? ⟨M, 3, none⟩ = some (.int .i64 0) ∧ (Wm.drew.setRow w.heap.size #[.int .i64 0, .int .i64 0, .int .i64 0, .int .i64 0, .int .i64 0, .int .i64 0, .int .i64 0]).cell? ⟨M, 4, none⟩ = some (.int .i64 0) ∧ (Wm.drew.setRow w.heap.size #[.int .i64 0, .int .i64 0, .int .i64 0, .int .i64 0, .int .i64 0, .int .i64 0, .int .i64 0]).cell? ⟨M, 5, none⟩ = some (.int .i64 0) ∧ (Wm.drew.setRow w.heap.size #[.int .i64 0, .int .i64 0, .int .i64 0, .int .i64 0, .int .i64 0, .int .i64 0, .int .i64 0]).cell? ⟨M, 6, none⟩ = some (.int .i64 0) ∧ (Wm.drew.setRow w.heap.size #[.int .i64 0, .int .i64 0, .int .i64 0, .int .i64 0, .int .i64 0, .int .i64 0, .int .i64 0]).cell? ⟨0, 0, none⟩ = some (.iface 203 (.pointer (some x)))) := ⟨setRow_cell (W := Wm.drew) n1 m0, setRow_cell (W := Wm.drew) n1 m1, setRow_cell (W := Wm.drew) n1 m2, setRow_cell (W := Wm.drew) n1 m3, setRow_cell (W := Wm.drew) n1 m4, setRow_cell (W := Wm.drew) n1 m5, setRow_cell (W := Wm.drew) n1 m6, setRow_cell (W := Wm.drew) n2 herrm⟩
    have ks1 : (Instr.storeAt 29 (.pointer (some ⟨w.heap.size, 0, none⟩)) (.agg #[.int .i64 0, .int .i64 0, .int .i64 0, .int .i64 0, .int .i64 0, .int .i64 0, .int .i64 0])).run Tryd.prog Wm.drew = .ok () (Wm.drew.setRow w.heap.size #[.int .i64 0, .int .i64 0, .int .i64 0, .int .i64 0, .int .i64 0, .int .i64 0, .int .i64 0]) := store_op Wm.drew w.heap.size _ HIM.out.box rfl 0 0 0 0 0 0 0
    have HST := hideIt ((HIM.out.below ((Below.refl _ _).drew)).stored 0 0 0 0 0 0 0)
    clear m0 m1 m2 m3 m4 m5 m6
    go_region_held3 (fun w' => w'.cell? ⟨M, 0, none⟩ = some (.int .i64 0) ∧ w'.cell? ⟨M, 1, none⟩ = some (.int .i64 0) ∧ w'.cell? ⟨M, 2, none⟩ = some (.int .i64 0) ∧ w'.cell? ⟨M, 3, none⟩ = some (.int .i64 0) ∧ w'.cell? ⟨M, 4, none⟩ = some (.int .i64 0) ∧ w'.cell? ⟨M, 5, none⟩ = some (.int .i64 0) ∧ w'.cell? ⟨M, 6, none⟩ = some (.int .i64 0) ∧ w'.cell? ⟨0, 0, none⟩ = some (.iface 203 (.pointer (some x))))
      (first | with_reducible exact K1.out | with_reducible exact K9.out)
      (first | (go_at_call 68; refine (is_same x _).mono ?_; rintro e w'' ⟨rfl, rfl⟩))
    rename_i hHH
    clear hHH K9 K1 ks1
    generalize World.setRow _ _ _ = W9 at *
    go_wp2
    obtain ⟨hb9, hbel9⟩ := HST.out
    have r0 := (blkCell hb9 0).trans rfl
    have r1 := (blkCell hb9 1).trans rfl
    have r2 := (blkCell hb9 2).trans rfl
    have r3 := (blkCell hb9 3).trans rfl
    have r4 := (blkCell hb9 4).trans rfl
    have r5 := (blkCell hb9 5).trans rfl
    have r6 := (blkCell hb9 6).trans rfl
    exact bodyPost_ret (v := .tuple #[.agg #[.int .i64 0, .int .i64 0, .int .i64 0, .int .i64 0, .int .i64 0, .int .i64 0, .int .i64 0], .bool false]) (by simp [results, Tryd.results21, go_sem, r0, r1, r2, r3, r4, r5, r6]) rfl ⟨.inl ⟨HM.out, rfl⟩, hbel9⟩
  · obtain ⟨oa, ob, ok, oc, od, os, og, ho⟩ : ∃ oa ob ok oc od os og, takeO l r t.toNat = ⟨oa, ob, ok, oc, od, os, og⟩ := ⟨_, _, _, _, _, _, _, rfl⟩
    have HOO := hideIt ho
    rw [ho]
    clear ho
    unfold opV
    dsimp only
    go_wp2_with fail
    obtain ⟨Wm, hWm⟩ : ∃ Wm, w1.alloc (.cells #[.int .i64 oa, .int .i64 ob, .int .i64 ok, .int .i64 oc, .int .i64 od, .int .i64 os, .int .i64 og] 29) = Wm := ⟨_, rfl⟩
    have hbm : Below w1.heap.size w1 Wm := by rw [← hWm]; exact (Below.refl _ _).alloc (Nat.le_refl _) _
    have hmk : Wm.heap[w1.heap.size]? = some (.cells #[.int .i64 oa, .int .i64 ob, .int .i64 ok, .int .i64 oc, .int .i64 od, .int .i64 os, .int .i64 og] 29 (0, 0)) := by rw [← hWm]; exact World.alloc_heap_new _ _
    have HIM := hideIt (HR1.out.below hbm)
    have herrm : Wm.cell? ⟨0, 0, none⟩ = some (.iface 203 (.pointer (some x))) := errB HIM.out.bel h0 he
    rw [hWm]
    clear hWm hbm
    have m0 := (blk_cell hmk 0).trans rfl
    have m1 := (blk_cell hmk 1).trans rfl
    have m2 := (blk_cell hmk 2).trans rfl
    have m3 := (blk_cell hmk 3).trans rfl
    have m4 := (blk_cell hmk 4).trans rfl
    have m5 := (blk_cell hmk 5).trans rfl
    have m6 := (blk_cell hmk 6).trans rfl
    clear hmk
    generalize w1.heap.size = M at *
    have n1 : M ≠ w.heap.size := by omega
    have n2 : 0 ≠ w.heap.size := by omega
    have K1 : Hid (Wm.drew.cell? ⟨M, 0, none⟩ = some (.int .i64 oa) ∧ Wm.drew.cell? ⟨M, 1, none⟩ = some (.int .i64 ob) ∧ Wm.drew.cell? ⟨M, 2, none⟩ = some (.int .i64 ok) ∧ Wm.drew.cell? ⟨M, 3, none⟩ = some (.int .i64 oc) ∧ Wm.drew.cell? ⟨M, 4, none⟩ = some (.int .i64 od) ∧ Wm.drew.cell? ⟨M, 5, none⟩ = some (.int .i64 os) ∧ Wm.drew.cell? ⟨M, 6, none⟩ = some (.int .i64 og) ∧ Wm.drew.cell? ⟨0, 0, none⟩ = some (.iface 203 (.pointer (some x)))) := ⟨m0, m1, m2, m3, m4, m5, m6, herrm⟩
    have K9 : Hid ((Wm.drew.setRow w.heap.size #[.int .i64 oa, .int .i64 ob, .int .i64 ok, .int .i64 oc, .int .i64 od, .int .i64 os, .int .i64 og]).cell? ⟨M, 0, none⟩ = some (.int .i64 oa) ∧ (Wm.drew.setRow w.heap.size #[.int .i64 oa, .int .i64 ob, .int .i64 ok, .int .i64 oc, .int .i64 od, .int .i64 os, .int .i64 og]).cell? ⟨M, 1, none⟩ = some (.int .i64 ob) ∧ (Wm.drew.setRow w.heap.size #[.int .i64 oa, .int .i64 ob, .int .i64 ok, .int .i64 oc, .int .i64 od, .int .i64 os, .int .i64 og]).cell? ⟨M, 2, none⟩ = some (.int .i64 ok) ∧ (Wm.drew.setRow w.heap.size #[.int .i64 oa, .int .i64 ob, .int .i64 ok, .int .i64 oc, .int .i64 od, .int .i64 os, .int .i64 og]).cell? ⟨M, 3, none⟩ = some (.int .i64 oc) ∧ (Wm.drew.setRow w.heap.size #[.int .i64 oa, .int .i64 ob, .int .i64 ok, .int .i64 oc, .int .i64 od, .int .i64 os, .int .i64 og]).cell? ⟨M, 4, none⟩ = some (.int .i64 od) ∧ (Wm.drew.setRow w.heap.size #[.int .i64 oa, .int .i64 ob, .int .i64 ok, .int .i64 oc, .int .i64 od, .int .i64 os, .int .i64 og]).cell? ⟨M, 5, none⟩ = some (.int .i64 os) ∧ (Wm.drew.setRow w.heap.size #[.int .i64 oa, .int .i64 ob, .int .i64 ok, .int .i64 oc, .int .i64 od, .int .i64 os, .int .i64 og]).cell? ⟨M, 6, none⟩ = some (.int .i64 og) ∧ (Wm.drew.setRow w.heap.size #[.int .i64 oa, .int .i64 ob, .int .i64 ok, .int .i64 oc, .int .i64 od, .int .i64 os, .int .i64 og]).cell? ⟨0, 0, none⟩ = some (.iface 203 (.pointer (some x)))) := ⟨setRow_cell (W := Wm.drew) n1 m0, setRow_cell (W := Wm.drew) n1 m1, setRow_cell (W := Wm.drew) n1 m2, setRow_cell (W := Wm.drew) n1 m3, setRow_cell (W := Wm.drew) n1 m4, setRow_cell (W := Wm.drew) n1 m5, setRow_cell (W := Wm.drew) n1 m6, setRow_cell (W := Wm.drew) n2 herrm⟩
    have ks1 : (Instr.storeAt 29 (.pointer (some ⟨w.heap.size, 0, none⟩)) (.agg #[.int .i64 oa, .int .i64 ob, .int .i64 ok, .int .i64 oc, .int .i64 od, .int .i64 os, .int .i64 og])).run Tryd.prog Wm.drew = .ok () (Wm.drew.setRow w.heap.size #[.int .i64 oa, .int .i64 ob, .int .i64 ok, .int .i64 oc, .int .i64 od, .int .i64 os, .int .i64 og]) := store_op Wm.drew w.heap.size _ HIM.out.box rfl oa ob ok oc od os og
    have HST := hideIt ((HIM.out.below ((Below.refl _ _).drew)).stored oa ob ok oc od os og)
    clear m0 m1 m2 m3 m4 m5 m6
    go_region_held3 (fun w' => w'.cell? ⟨M, 0, none⟩ = some (.int .i64 oa) ∧ w'.cell? ⟨M, 1, none⟩ = some (.int .i64 ob) ∧ w'.cell? ⟨M, 2, none⟩ = some (.int .i64 ok) ∧ w'.cell? ⟨M, 3, none⟩ = some (.int .i64 oc) ∧ w'.cell? ⟨M, 4, none⟩ = some (.int .i64 od) ∧ w'.cell? ⟨M, 5, none⟩ = some (.int .i64 os) ∧ w'.cell? ⟨M, 6, none⟩ = some (.int .i64 og) ∧ w'.cell? ⟨0, 0, none⟩ = some (.iface 203 (.pointer (some x))))
      (first | with_reducible exact K1.out | with_reducible exact K9.out)
      (first | (go_at_call 68; refine (is_nil x _).mono ?_; rintro e w'' ⟨rfl, rfl⟩))
    rename_i hHH
    clear hHH K9 K1 ks1
    generalize World.setRow _ _ _ = W9 at *
    go_wp2
    obtain ⟨hb9, hbel9⟩ := HST.out
    have r0 := (blkCell hb9 0).trans rfl
    have r1 := (blkCell hb9 1).trans rfl
    have r2 := (blkCell hb9 2).trans rfl
    have r3 := (blkCell hb9 3).trans rfl
    have r4 := (blkCell hb9 4).trans rfl
    have r5 := (blkCell hb9 5).trans rfl
    have r6 := (blkCell hb9 6).trans rfl
    exact bodyPost_ret (v := .tuple #[.agg #[.int .i64 oa, .int .i64 ob, .int .i64 ok, .int .i64 oc, .int .i64 od, .int .i64 os, .int .i64 og], .bool true]) (by simp [results, Tryd.results21, go_sem, r0, r1, r2, r3, r4, r5, r6]) rfl ⟨.inr ⟨HM.out, by rw [HOO.out]; rfl⟩, hbel9⟩
/-- What both answer. -/
def takeA (l : List Op7) (r t : Int) : Op7 := if mayTake l r t = true then takeO l r t.toNat else ⟨0, 0, 0, 0, 0, 0, 0⟩
theorem takeA_of {l : List Op7} {r t : Int} {e : Ending} (h : (mayTake l r t = false ∧ e = .returned (.tuple #[.agg #[.int .i64 0, .int .i64 0, .int .i64 0, .int .i64 0, .int .i64 0, .int .i64 0, .int .i64 0], .bool false])) ∨ (mayTake l r t = true ∧ e = .returned (.tuple #[opV (takeO l r t.toNat), .bool true]))) : e = .returned (.tuple #[opV (takeA l r t), .bool (mayTake l r t)]) := by
  rcases h with ⟨h1, h2⟩ | ⟨h1, h2⟩
  · rw [h2]; unfold takeA; rw [h1]; rfl
  · rw [h2]; unfold takeA; rw [h1]; rfl
end Go.Proofs.YtedanlmippfojaaDoor

namespace Go.Proofs.YtedanlmippfojaaDoor
open Go.RowKit
set_option linter.unusedSimpArgs false
set_option linter.unusedVariables false
/-- A box with a thing in it, in memory that has grown. -/
structure OX (b : Nat) (o : Op7) (w W : World) : Prop where
  box : W.heap[b]? = some (.cells #[.int .i64 o.a, .int .i64 o.b, .int .i64 o.k, .int .i64 o.c, .int .i64 o.d, .int .i64 o.s, .int .i64 o.g] 29 (0, 0))
  bel : Below w.heap.size w W
theorem OX.below {b : Nat} {o : Op7} {w W W' : World} (h : OX b o w W) (hb : Below W.heap.size W W') : OX b o w W' := ⟨blk_below h.box hb, Bstep h.bel hb⟩
end Go.Proofs.YtedanlmippfojaaDoor

namespace Go.Proofs.YtedanlmippfojaaDoor
open Go.RowKit
set_option linter.unusedVariables false

theorem txt_at (gs : List Int) {k : Nat} (h : k < (txtB gs).size) (h' : k < gs.length) : (txtB gs)[k] = UInt8.ofNat (gs[k]).toNat := by
  show (txtB gs).data[k] = _
  simp [txtB]
theorem take_shows {l : List Op7} {r t : Int} (h : mayTake l r t = true) : ∃ k x, ∃ hk : k < (lvs l).length, (lvs l)[k]? = some x ∧ x.a = (takeO l r t.toNat).c ∧ x.b = (takeO l r t.toNat).d ∧ x.z = false ∧ atI (lvs l) (takeO l r t.toNat).c (takeO l r t.toNat).d = (k : Nat) ∧
    ∃ hs : t.toNat < (txtB (shown (lfs l (standL l)))).size, wrap64 ((((txtB (shown (lfs l (standL l))))[t.toNat]).toNat : Nat) : Int) = x.g := by
  unfold mayTake inB at h
  simp only [Bool.and_eq_true, decide_eq_true_eq] at h
  obtain ⟨hm, ht0, ht1⟩ := h
  have ho := (may_parts hm).1
  have htl : t.toNat < (shownI (lvs l)).length := by omega
  obtain ⟨hc, A, p, B, he, hid, hg, hn⟩ := take_can hm htl
  have hp : (takeO l r t.toNat).c = p.a ∧ (takeO l r t.toNat).d = p.b := by
    unfold takeO
    rw [← hid]
    exact ⟨rfl, rfl⟩
  have hpm : p ∈ allO l := by rw [he]; simp
  obtain ⟨hpl, hpk⟩ := side_put _ hpm
  have hok := (opsParts ho).1
  have hpo : okO p = true := List.all_eq_true.1 hok p hpl
  have hpg : 97 ≤ p.g ∧ p.g ≤ 122 := by
    unfold okO at hpo
    rw [opB_true] at hpo
    rcases hpo.2.2 with h | h <;> omega
  have hlv : lvs l = lfs l A ++ ⟨p.a, p.b, p.g, goneB l (p.a, p.b)⟩ :: lfs l B := by unfold lvs; rw [he]; simp [lfs]
  have hx : (lvs l)[A.length]? = some ⟨p.a, p.b, p.g, goneB l (p.a, p.b)⟩ := by rw [hlv]; simp [lfs]
  have hkl : A.length < (lvs l).length := (List.getElem?_eq_some_iff.1 hx).1
  have hxe : (lvs l)[A.length] = ⟨p.a, p.b, p.g, goneB l (p.a, p.b)⟩ := (List.getElem?_eq_some_iff.1 hx).2
  have hs : shown (lfs l (standL l)) = shown (lfs l A) ++ p.g % 256 :: shown (lfs l B) := by
    rw [stand_ok ho]
    have : lfs l (allO l) = lvs l := rfl
    rw [this, hlv]
    simp [shown, hg]
  have hl : (shown (lfs l A)).length = t.toNat := by rw [shown_n, hn]
  refine ⟨A.length, _, hkl, hx, hp.1.symm, hp.2.symm, hg, ?_, ?_⟩
  · rw [hp.1, hp.2]
    refine atI_some hkl (by rw [hxe]; exact ⟨rfl, rfl⟩) (fun j hj hjk hh => ?_)
    have := lvs_id ho (x := (lvs l)[j]) (y := (lvs l)[A.length]) (List.getElem?_eq_getElem hj) (List.getElem?_eq_getElem hkl) (by rw [hxe]; exact hh.1) (by rw [hxe]; exact hh.2)
    omega
  · rw [hs]
    have h1 : t.toNat < (shown (lfs l A) ++ p.g % 256 :: shown (lfs l B)).length := by simp [hl]
    refine ⟨by rw [txtB_size]; exact h1, ?_⟩
    rw [txt_at _ _ h1]
    have h2 : (shown (lfs l A) ++ p.g % 256 :: shown (lfs l B))[t.toNat] = p.g % 256 := by simp [hl]
    rw [h2]
    have h3 : (p.g % 256).toNat < 256 := by omega
    rw [UInt8.toNat_ofNat_of_lt' (by simpa using h3)]
    rw [show (((p.g % 256).toNat : Nat) : Int) = p.g by omega]
    exact IntWalk.wrap64_in _ ⟨by omega, by omega⟩
end Go.Proofs.YtedanlmippfojaaDoor

namespace Go.Proofs.YtedanlmippfojaaDoor
open Go.RowKit
set_option linter.unusedSimpArgs false
set_option linter.unusedVariables false
attribute [local go_sem ↓] Go.wp_at_zero Go.wp_at_succ

/-- Things, and two boxes of one thing. -/
structure TW (w W : World) (G c O P : Nat) (L : List Op7) (o : Op7) : Prop where
  own : OwnOps W w.heap.size G c L
  one : W.heap[O]? = some (.cells #[.int .i64 o.a, .int .i64 o.b, .int .i64 o.k, .int .i64 o.c, .int .i64 o.d, .int .i64 o.s, .int .i64 o.g] 29 (0, 0))
  two : W.heap[P]? = some (.cells #[.int .i64 o.a, .int .i64 o.b, .int .i64 o.k, .int .i64 o.c, .int .i64 o.d, .int .i64 o.s, .int .i64 o.g] 29 (0, 0))
  bel : Below w.heap.size w W
theorem TW.below {w W W' : World} {G c O P : Nat} {L : List Op7} {o : Op7} (h : TW w W G c O P L o) (hb : Below W.heap.size W W') : TW w W' G c O P L o := ⟨h.own.below hb, blk_below h.one hb, blk_below h.two hb, Bstep h.bel hb⟩

theorem nShown_text' (L : List Lf) : (txtB (shown L)).size = nShown L := by rw [txtB_size]; simp [shown, nShown]
theorem txt_shown' {l : List Op7} (h : opsB l = true) : (txtB (shown (lfs l (standL l)))).size = (shownI (lvs l)).length := by
  rw [nShown_text', shownI_len]
  unfold lvs standL
  rw [if_pos h]

set_option maxRecDepth 100000 in
set_option maxHeartbeats 8000000 in
theorem walkTakeCan (w : World) (p : Option Addr) (n cap : Nat) (h : ArgBytes w p n) (hcap : n ≤ cap) (hmax : cap ≤ maxLen) (x : Addr)
    (he : w.cell? ⟨0, 0, none⟩ = some (.iface 203 (.pointer (some x)))) (h0 : 0 < w.heap.size) :
    Calls Tryd.prog 4 #[.slice p n cap] w fun e w' => e = .returned (.bool true) ∧ Below w.heap.size w w' := by
  have H := hideIt h
  clear h
  unfold maxLen at *
  by_cases hn : n ≤ 1048576
  · go_enter Tryd.func4, Tryd.ntmps4
    go_wp2_with fail
    refine (drawTake_any _ p n cap H.out hcap hn).mono ?_
    rintro e w1 ⟨G, c, _, r, t, rfl, hr, ht, ⟨L, rfl, hL, hS⟩, hb1⟩
    have HS := hideIt hS
    have HB := hideIt hb1
    clear hS hb1
    obtain ⟨o, ho⟩ : ∃ o, takeA L r t = o := ⟨_, rfl⟩
    obtain ⟨zz, hzz⟩ : ∃ zz, mayTake L r t = zz := ⟨_, rfl⟩
    have HO := hideIt ho
    have HZ := hideIt hzz
    clear ho hzz
    go_wp2_with fail
    refine (typeTake_any L G c r t _ HS.out.at (by omega) HS.out.cap).mono ?_
    rintro e w2 ⟨hd, hb2⟩
    have hE := takeA_of hd
    rw [HO.out, HZ.out] at hE
    subst hE
    unfold opV
    have HS2 := hideIt (HS.out.below hb2)
    have HB2 := hideIt (Bstep HB.out hb2)
    clear hb2 hd HS HB
    go_wp2_with fail
    have HX2 : Hid (OX w2.heap.size o w (w2.alloc (.cells #[.int .i64 o.a, .int .i64 o.b, .int .i64 o.k, .int .i64 o.c, .int .i64 o.d, .int .i64 o.s, .int .i64 o.g] 29))) := ⟨World.alloc_heap_new _ _, HB2.out.alloc HB2.out.size _⟩
    have HS3 := hideIt (HS2.out.below ((Below.refl _ _).alloc (Nat.le_refl _) (.cells #[.int .i64 o.a, .int .i64 o.b, .int .i64 o.k, .int .i64 o.c, .int .i64 o.d, .int .i64 o.s, .int .i64 o.g] 29)))
    clear HS2 HB2
    refine (implTake_any L G c r t x _ HS3.out.at (by omega) HS3.out.cap (errB HX2.out.bel h0 he) (posB HX2.out.bel h0)).mono ?_
    rintro e w4 ⟨hd, hb4⟩
    have hE := takeA_of hd
    rw [HO.out, HZ.out] at hE
    subst hE
    unfold opV
    have HX4 := hideIt (HX2.out.below hb4)
    have HS4 := hideIt (HS3.out.below hb4)
    clear hb4 hd HX2 HS3
    generalize w2.heap.size = O at *
    have HT : Hid (TW w (w4.alloc (.cells #[.int .i64 o.a, .int .i64 o.b, .int .i64 o.k, .int .i64 o.c, .int .i64 o.d, .int .i64 o.s, .int .i64 o.g] 29)) G c O w4.heap.size L o) :=
      ⟨HS4.out.below ((Below.refl _ _).alloc (Nat.le_refl _) _), blk_below HX4.out.box ((Below.refl _ _).alloc (Nat.le_refl _) _), World.alloc_heap_new _ _, HX4.out.bel.alloc HX4.out.bel.size _⟩
    have HBX : Hid (∀ W', W' = w4.alloc (.cells #[.int .i64 o.a, .int .i64 o.b, .int .i64 o.k, .int .i64 o.c, .int .i64 o.d, .int .i64 o.s, .int .i64 o.g] 29) → S7 O o W' ∧ S7 w4.heap.size o W') := fun W' e => by
      subst e
      exact ⟨S7.of HT.out.one, S7.of HT.out.two⟩
    obtain ⟨⟨x0, x1, x2, x3, x4, x5, x6⟩, ⟨y0, y1, y2, y3, y4, y5, y6⟩⟩ := HBX.out _ rfl
    have hlO := (Array.getElem?_eq_some_iff.1 HX4.out.box).1
    have z0 := (blk_cell HX4.out.box 0).trans rfl
    have z1 := (blk_cell HX4.out.box 1).trans rfl
    have z2 := (blk_cell HX4.out.box 2).trans rfl
    have z3 := (blk_cell HX4.out.box 3).trans rfl
    have z4 := (blk_cell HX4.out.box 4).trans rfl
    have z5 := (blk_cell HX4.out.box 5).trans rfl
    have z6 := (blk_cell HX4.out.box 6).trans rfl
    go_wp2_with fail
    refine (specOps_any L _ _ _ HT.out.own.at (by omega) HT.out.own.cap).mono ?_
    rintro e w5 ⟨rfl, hb5⟩
    have HT5 := hideIt (HT.out.below hb5)
    clear hb5 HT HBX x0 x1 x2 x3 x4 x5 x6 y0 y1 y2 y3 y4 y5 y6 z0 z1 z2 z3 z4 z5 z6 hlO HX4 HS4
    generalize w4.heap.size = P at *
    clear w4
    obtain ⟨x0, x1, x2, x3, x4, x5, x6⟩ := S7.of HT5.out.one
    obtain ⟨y0, y1, y2, y3, y4, y5, y6⟩ := S7.of HT5.out.two
    cases hop : opsB L
    · go_wp2
      go_ret
      exact ⟨by simp, HT5.out.bel⟩
    · have HOP := hideIt hop
      clear hop
      by_cases hr1 : r < 1
      · go_wp2
        go_ret
        exact ⟨by simp, HT5.out.bel⟩
      · by_cases hr3 : 3 < r
        · go_wp2
          go_ret
          exact ⟨by simp, HT5.out.bel⟩
        · have hr13 : inB r 1 3 = true := by unfold inB; exact decide_eq_true (by omega)
          have HZE : Hid (zz = (decide (cnt L r + 1 ≤ 12) && inB t 0 ((shownI (lvs L)).length - 1))) := by
            show zz = _
            rw [← HZ.out]
            unfold mayTake mayMore
            rw [HOP.out, hr13]
            simp
          have hts := txt_shown' HOP.out
          clear hr13
          by_cases ht0 : t < 0
          · have hz : zz = false := by rw [HZE.out]; simp [inB]; omega
            subst hz
            go_wp2_with fail
            clear x0 x1 x2 x3 x4 x5 x6 y0 y1 y2 y3 y4 y5 y6
            refine (implLeaves_any L G c x _ HT5.out.own.at (by omega) HT5.out.own.cap (errB HT5.out.bel h0 he) (posB HT5.out.bel h0)).mono ?_
            rintro e w8 ⟨va, rfl, hra, hb8⟩
            have HT8 := hideIt (HT5.out.below hb8)
            rw [show standL L = allO L by unfold standL; rw [if_pos HOP.out]] at hra
            have HR8 : Hid (w8.ownsRow w.heap.size 44 4 va (lvs L).length (lfCells (lvs L))) := ownsRow_base HT5.out.bel.size hra
            clear hb8 hra
            obtain ⟨y0, y1, y2, y3, y4, y5, y6⟩ := S7.of HT8.out.two
            have hplt := (Array.getElem?_eq_some_iff.1 HT8.out.two).1
            go_wp2_with fail
            refine (ltAt_any (lvs L) va _ o.c o.d _ HR8.out (Nat.le_trans (lvs_len HOP.out) (by omega))).mono ?_
            rintro e w9 ⟨rfl, hb9⟩
            have HT9 := hideIt (HT8.out.below hb9)
            have HR9 := hideIt (rowKeep HR8.out hb9)
            clear hb9 y0 y1 y2 y3 y4 y5 y6 hplt HT8 HR8
            clear HR9
            have HTd := hideIt (HT9.out.below ((Below.refl _ _).drew))
            go_wp2_with fail
            refine wp_region_any (by kernel_rfl) ?_
            change wpAny _ _ _ _ _ _ _ (World.drew _)
            refine wpAny_take (i := 0) (oi := { dst := some 90, op := Op.move (Operand.tmp 9), type := 4, pos := "laws.go:804", after := #[], guard := none }) (v := ?_) rfl (by kernel_rfl) (by kernel_rfl) (by kernel_rfl) (fun _ _ _ h => h) (Or.inl ⟨by rfl, ?_⟩) ?_
            rotate_left
            · (intro wq; go_simp; try with_reducible rfl)
            try simp only [Act.put, List.setIfInBounds_toArray, List.set_cons_zero, List.set_cons_succ]
            refine wpAny_take (i := 1) (oi := { dst := some 91, op := Op.unOp UnOp.not 4 (Operand.tmp 90), type := 4, pos := "laws.go:804", after := #[{ on := 0, ground := Ground.data }], guard := none }) (v := ?_) rfl (by kernel_rfl) (by kernel_rfl) (by kernel_rfl) (fun _ _ _ h => h) (Or.inl ⟨by rfl, ?_⟩) ?_
            rotate_left
            · (intro wq; go_simp; try with_reducible rfl)
            try simp only [Act.put, List.setIfInBounds_toArray, List.set_cons_zero, List.set_cons_succ]
            refine wpAny_take (i := 2) (oi := { dst := some 92, op := Op.move (Operand.tmp 91), type := 4, pos := "laws.go:804", after := #[{ on := 1, ground := Ground.data }], guard := none }) (v := ?_) rfl (by kernel_rfl) (by kernel_rfl) (by kernel_rfl) (fun _ _ _ h => h) (Or.inl ⟨by rfl, ?_⟩) ?_
            rotate_left
            · (intro wq; go_simp; try with_reducible rfl)
            try simp only [Act.put, List.setIfInBounds_toArray, List.set_cons_zero, List.set_cons_succ]
            refine wpAny_skipU (i := 3) (oi := { dst := some 93, op := Op.move (Operand.tmp 11), type := 3, pos := "laws.go:804", after := #[{ on := 2, ground := Ground.guard }], guard := some (2, false) }) rfl (by kernel_rfl) (by kernel_rfl) (by kernel_rfl) 93 rfl (fun _ _ _ h => h) (by rfl) (by rfl) ?_
            refine wpAny_skipU (i := 4) (oi := { dst := some 94, op := Op.binOp BinOp.geq 3 (Operand.tmp 93) (Operand.const (Value.int IntKind.i64 0)) 3, type := 4, pos := "laws.go:804", after := #[{ on := 3, ground := Ground.data }, { on := 2, ground := Ground.guard }], guard := some (2, false) }) rfl (by kernel_rfl) (by kernel_rfl) (by kernel_rfl) 94 rfl (fun _ _ _ h => h) (by rfl) (by rfl) ?_
            refine wpAny_skipU (i := 5) (oi := { dst := some 95, op := Op.move (Operand.tmp 94), type := 4, pos := "laws.go:804", after := #[{ on := 4, ground := Ground.data }, { on := 2, ground := Ground.chain }, { on := 2, ground := Ground.guard }], guard := some (2, false) }) rfl (by kernel_rfl) (by kernel_rfl) (by kernel_rfl) 95 rfl (fun _ _ _ h => h) (by rfl) (by rfl) ?_
            refine wpAny_skipU (i := 6) (oi := { dst := some 96, op := Op.move (Operand.tmp 10), type := 40, pos := "laws.go:804", after := #[{ on := 5, ground := Ground.guard }], guard := some (5, true) }) rfl (by kernel_rfl) (by kernel_rfl) (by kernel_rfl) 96 rfl (fun _ _ _ h => h) (by rfl) (by rfl) ?_
            refine wpAny_skipU (i := 7) (oi := { dst := some 97, op := Op.move (Operand.tmp 11), type := 3, pos := "laws.go:804", after := #[{ on := 5, ground := Ground.guard }], guard := some (5, true) }) rfl (by kernel_rfl) (by kernel_rfl) (by kernel_rfl) 97 rfl (fun _ _ _ h => h) (by rfl) (by rfl) ?_
            refine wpAny_skipU (i := 8) (oi := { dst := some 98, op := Op.indexAddr 40 (Operand.tmp 96) (Operand.tmp 97), type := 0, pos := "laws.go:804", after := #[{ on := 6, ground := Ground.data }, { on := 7, ground := Ground.data }, { on := 5, ground := Ground.guard }], guard := some (5, true) }) rfl (by kernel_rfl) (by kernel_rfl) (by kernel_rfl) 98 rfl (fun _ _ _ h => h) (by rfl) (by rfl) ?_
            refine wpAny_skipU (i := 9) (oi := { dst := some 99, op := Op.fieldAddr 44 (Operand.tmp 98) 2, type := 0, pos := "laws.go:804", after := #[{ on := 8, ground := Ground.data }, { on := 5, ground := Ground.guard }], guard := some (5, true) }) rfl (by kernel_rfl) (by kernel_rfl) (by kernel_rfl) 99 rfl (fun _ _ _ h => h) (by rfl) (by rfl) ?_
            refine wpAny_skipU (i := 10) (oi := { dst := some 100, op := Op.load 4 (Operand.tmp 99), type := 4, pos := "laws.go:804", after := #[{ on := 9, ground := Ground.data }, { on := 5, ground := Ground.guard }], guard := some (5, true) }) rfl (by kernel_rfl) (by kernel_rfl) (by kernel_rfl) 100 rfl (fun _ _ _ h => h) (by rfl) (by rfl) ?_
            refine wpAny_skipU (i := 11) (oi := { dst := some 101, op := Op.unOp UnOp.not 4 (Operand.tmp 100), type := 4, pos := "laws.go:804", after := #[{ on := 10, ground := Ground.data }, { on := 5, ground := Ground.guard }], guard := some (5, true) }) rfl (by kernel_rfl) (by kernel_rfl) (by kernel_rfl) 101 rfl (fun _ _ _ h => h) (by rfl) (by rfl) ?_
            refine wpAny_skipU (i := 12) (oi := { dst := some 102, op := Op.pick (Operand.tmp 95) (Operand.tmp 101) (Operand.const (Value.bool false)), type := 4, pos := "laws.go:804", after := #[{ on := 5, ground := Ground.data }, { on := 11, ground := Ground.data }, { on := 2, ground := Ground.guard }], guard := some (2, false) }) rfl (by kernel_rfl) (by kernel_rfl) (by kernel_rfl) 102 rfl (fun _ _ _ h => h) (by rfl) (by rfl) ?_
            refine wpAny_skipU (i := 13) (oi := { dst := some 103, op := Op.move (Operand.tmp 102), type := 4, pos := "laws.go:804", after := #[{ on := 12, ground := Ground.data }, { on := 5, ground := Ground.chain }, { on := 2, ground := Ground.guard }], guard := some (2, false) }) rfl (by kernel_rfl) (by kernel_rfl) (by kernel_rfl) 103 rfl (fun _ _ _ h => h) (by rfl) (by rfl) ?_
            refine wpAny_skipU (i := 14) (oi := { dst := some 104, op := Op.move (Operand.tmp 10), type := 40, pos := "laws.go:804", after := #[{ on := 13, ground := Ground.guard }], guard := some (13, true) }) rfl (by kernel_rfl) (by kernel_rfl) (by kernel_rfl) 104 rfl (fun _ _ _ h => h) (by rfl) (by rfl) ?_
            refine wpAny_skipU (i := 15) (oi := { dst := some 105, op := Op.move (Operand.tmp 11), type := 3, pos := "laws.go:804", after := #[{ on := 13, ground := Ground.guard }], guard := some (13, true) }) rfl (by kernel_rfl) (by kernel_rfl) (by kernel_rfl) 105 rfl (fun _ _ _ h => h) (by rfl) (by rfl) ?_
            refine wpAny_skipU (i := 16) (oi := { dst := some 106, op := Op.indexAddr 40 (Operand.tmp 104) (Operand.tmp 105), type := 0, pos := "laws.go:804", after := #[{ on := 14, ground := Ground.data }, { on := 15, ground := Ground.data }, { on := 13, ground := Ground.guard }], guard := some (13, true) }) rfl (by kernel_rfl) (by kernel_rfl) (by kernel_rfl) 106 rfl (fun _ _ _ h => h) (by rfl) (by rfl) ?_
            refine wpAny_skipU (i := 17) (oi := { dst := some 107, op := Op.fieldAddr 44 (Operand.tmp 106) 1, type := 0, pos := "laws.go:804", after := #[{ on := 16, ground := Ground.data }, { on := 13, ground := Ground.guard }], guard := some (13, true) }) rfl (by kernel_rfl) (by kernel_rfl) (by kernel_rfl) 107 rfl (fun _ _ _ h => h) (by rfl) (by rfl) ?_
            refine wpAny_skipU (i := 18) (oi := { dst := some 108, op := Op.load 3 (Operand.tmp 107), type := 3, pos := "laws.go:804", after := #[{ on := 17, ground := Ground.data }, { on := 13, ground := Ground.guard }], guard := some (13, true) }) rfl (by kernel_rfl) (by kernel_rfl) (by kernel_rfl) 108 rfl (fun _ _ _ h => h) (by rfl) (by rfl) ?_
            refine wpAny_skipU (i := 19) (oi := { dst := some 109, op := Op.move (Operand.tmp 3), type := 23, pos := "laws.go:804", after := #[{ on := 13, ground := Ground.guard }], guard := some (13, true) }) rfl (by kernel_rfl) (by kernel_rfl) (by kernel_rfl) 109 rfl (fun _ _ _ h => h) (by rfl) (by rfl) ?_
            refine wpAny_skipU (i := 20) (oi := { dst := some 110, op := Op.call { callee := Callee.value (Operand.func 23), args := #[Operand.tmp 109], argTypes := #[23] }, type := 9, pos := "laws.go:804", after := #[{ on := 19, ground := Ground.data }, { on := 13, ground := Ground.chain }, { on := 13, ground := Ground.guard }], guard := some (13, true) }) rfl (by kernel_rfl) (by kernel_rfl) (by kernel_rfl) 110 rfl (fun _ _ _ h => h) (by rfl) (by rfl) ?_
            refine wpAny_skipU (i := 21) (oi := { dst := some 111, op := Op.move (Operand.tmp 5), type := 3, pos := "laws.go:804", after := #[{ on := 13, ground := Ground.guard }], guard := some (13, true) }) rfl (by kernel_rfl) (by kernel_rfl) (by kernel_rfl) 111 rfl (fun _ _ _ h => h) (by rfl) (by rfl) ?_
            refine wpAny_skipU (i := 22) (oi := { dst := some 112, op := Op.index 9 (Operand.tmp 110) (Operand.tmp 111), type := 5, pos := "laws.go:804", after := #[{ on := 20, ground := Ground.data }, { on := 21, ground := Ground.data }, { on := 13, ground := Ground.guard }], guard := some (13, true) }) rfl (by kernel_rfl) (by kernel_rfl) (by kernel_rfl) 112 rfl (fun _ _ _ h => h) (by rfl) (by rfl) ?_
            refine wpAny_skipU (i := 23) (oi := { dst := some 113, op := Op.convert 5 3 (Operand.tmp 112), type := 3, pos := "laws.go:804", after := #[{ on := 22, ground := Ground.data }, { on := 13, ground := Ground.guard }], guard := some (13, true) }) rfl (by kernel_rfl) (by kernel_rfl) (by kernel_rfl) 113 rfl (fun _ _ _ h => h) (by rfl) (by rfl) ?_
            refine wpAny_skipU (i := 24) (oi := { dst := some 114, op := Op.binOp BinOp.eql 3 (Operand.tmp 108) (Operand.tmp 113) 3, type := 4, pos := "laws.go:804", after := #[{ on := 18, ground := Ground.data }, { on := 23, ground := Ground.data }, { on := 13, ground := Ground.guard }], guard := some (13, true) }) rfl (by kernel_rfl) (by kernel_rfl) (by kernel_rfl) 114 rfl (fun _ _ _ h => h) (by rfl) (by rfl) ?_
            refine wpAny_skipU (i := 25) (oi := { dst := some 115, op := Op.pick (Operand.tmp 103) (Operand.tmp 114) (Operand.const (Value.bool false)), type := 4, pos := "laws.go:804", after := #[{ on := 13, ground := Ground.data }, { on := 24, ground := Ground.data }, { on := 2, ground := Ground.guard }], guard := some (2, false) }) rfl (by kernel_rfl) (by kernel_rfl) (by kernel_rfl) 115 rfl (fun _ _ _ h => h) (by rfl) (by rfl) ?_
            refine wpAny_take (i := 26) (oi := { dst := some 116, op := Op.pick (Operand.tmp 92) (Operand.const (Value.bool true)) (Operand.tmp 115), type := 4, pos := "laws.go:804", after := #[{ on := 2, ground := Ground.data }, { on := 25, ground := Ground.data }], guard := none }) (v := ?_) rfl (by kernel_rfl) (by kernel_rfl) (by kernel_rfl) (fun _ _ _ h => h) (Or.inl ⟨by rfl, ?_⟩) ?_
            rotate_left
            · (intro wq; go_simp; try with_reducible rfl)
            try simp only [Act.put, List.setIfInBounds_toArray, List.set_cons_zero, List.set_cons_succ]
            refine wpAny_take (i := 27) (oi := { dst := some 2, op := Op.assign (Operand.tmp 116), type := 4, pos := "laws.go:804", after := #[{ on := 26, ground := Ground.data }, { on := 20, ground := Ground.chain }, { on := 0, ground := Ground.phase }, { on := 1, ground := Ground.phase }, { on := 2, ground := Ground.phase }, { on := 3, ground := Ground.phase }, { on := 4, ground := Ground.phase }, { on := 5, ground := Ground.phase }, { on := 6, ground := Ground.phase }, { on := 7, ground := Ground.phase }, { on := 8, ground := Ground.phase }, { on := 9, ground := Ground.phase }, { on := 10, ground := Ground.phase }, { on := 11, ground := Ground.phase }, { on := 12, ground := Ground.phase }, { on := 13, ground := Ground.phase }, { on := 14, ground := Ground.phase }, { on := 15, ground := Ground.phase }, { on := 16, ground := Ground.phase }, { on := 17, ground := Ground.phase }, { on := 18, ground := Ground.phase }, { on := 19, ground := Ground.phase }, { on := 20, ground := Ground.phase }, { on := 21, ground := Ground.phase }, { on := 22, ground := Ground.phase }, { on := 23, ground := Ground.phase }, { on := 24, ground := Ground.phase }, { on := 25, ground := Ground.phase }, { on := 26, ground := Ground.phase }], guard := none }) (v := ?_) rfl (by kernel_rfl) (by kernel_rfl) (by kernel_rfl) (fun _ _ _ h => h) (Or.inl ⟨by rfl, ?_⟩) ?_
            rotate_left
            · (intro wq; go_simp; try with_reducible rfl)
            try simp only [Act.put, List.setIfInBounds_toArray, List.set_cons_zero, List.set_cons_succ]
            refine wpAny_done (by kernel_rfl) ?_ _
            go_wp2
            go_ret
            exact ⟨by simp, HTd.out.bel⟩
          · go_wp2_with fail
            refine (implTxt_any L G c x _ HT5.out.own.at (by omega) HT5.out.own.cap (errB HT5.out.bel h0 he) (posB HT5.out.bel h0)).mono ?_
            rintro e w6 ⟨rfl, hb6⟩
            have HT6 := hideIt (HT5.out.below hb6)
            have HTK : Hid (zz = true → _) := fun h => take_shows (l := L) (r := r) (t := t) (HZ.out.trans h)
            have HTX : Hid (∀ W : World, True) := fun _ => trivial
            clear hb6 x0 x1 x2 x3 x4 x5 x6 y0 y1 y2 y3 y4 y5 y6 HT5
            obtain ⟨T, hT⟩ : ∃ T, txtB (shown (lfs L (standL L))) = T := ⟨_, rfl⟩
            rw [hT]
            rw [hT] at hts
            have HTT := hideIt hT
            clear hT
            rw [← hts] at HZE
            by_cases ht1 : (T.size : Int) ≤ t
            · have hz : zz = false := by rw [HZE.out]; simp [inB]; omega
              subst hz
              have ht1' : ¬ (t < (T.size : Int)) := by omega
              go_wp2_with fail
              refine (implLeaves_any L G c x _ HT6.out.own.at (by omega) HT6.out.own.cap (errB HT6.out.bel h0 he) (posB HT6.out.bel h0)).mono ?_
              rintro e w8 ⟨va, rfl, hra, hb8⟩
              have HT8 := hideIt (HT6.out.below hb8)
              rw [show standL L = allO L by unfold standL; rw [if_pos HOP.out]] at hra
              have HR8 : Hid (w8.ownsRow w.heap.size 44 4 va (lvs L).length (lfCells (lvs L))) := ownsRow_base HT6.out.bel.size hra
              clear hb8 hra
              obtain ⟨y0, y1, y2, y3, y4, y5, y6⟩ := S7.of HT8.out.two
              have hplt := (Array.getElem?_eq_some_iff.1 HT8.out.two).1
              go_wp2_with fail
              refine (ltAt_any (lvs L) va _ o.c o.d _ HR8.out (Nat.le_trans (lvs_len HOP.out) (by omega))).mono ?_
              rintro e w9 ⟨rfl, hb9⟩
              have HT9 := hideIt (HT8.out.below hb9)
              have HR9 := hideIt (rowKeep HR8.out hb9)
              clear hb9 y0 y1 y2 y3 y4 y5 y6 hplt HT8 HR8
              clear HR9
              have HTd := hideIt (HT9.out.below ((Below.refl _ _).drew))
              go_wp2_with fail
              refine wp_region_any (by kernel_rfl) ?_
              change wpAny _ _ _ _ _ _ _ (World.drew _)
              refine wpAny_take (i := 0) (oi := { dst := some 90, op := Op.move (Operand.tmp 9), type := 4, pos := "laws.go:804", after := #[], guard := none }) (v := ?_) rfl (by kernel_rfl) (by kernel_rfl) (by kernel_rfl) (fun _ _ _ h => h) (Or.inl ⟨by rfl, ?_⟩) ?_
              rotate_left
              · (intro wq; go_simp; try with_reducible rfl)
              try simp only [Act.put, List.setIfInBounds_toArray, List.set_cons_zero, List.set_cons_succ]
              refine wpAny_take (i := 1) (oi := { dst := some 91, op := Op.unOp UnOp.not 4 (Operand.tmp 90), type := 4, pos := "laws.go:804", after := #[{ on := 0, ground := Ground.data }], guard := none }) (v := ?_) rfl (by kernel_rfl) (by kernel_rfl) (by kernel_rfl) (fun _ _ _ h => h) (Or.inl ⟨by rfl, ?_⟩) ?_
              rotate_left
              · (intro wq; go_simp; try with_reducible rfl)
              try simp only [Act.put, List.setIfInBounds_toArray, List.set_cons_zero, List.set_cons_succ]
              refine wpAny_take (i := 2) (oi := { dst := some 92, op := Op.move (Operand.tmp 91), type := 4, pos := "laws.go:804", after := #[{ on := 1, ground := Ground.data }], guard := none }) (v := ?_) rfl (by kernel_rfl) (by kernel_rfl) (by kernel_rfl) (fun _ _ _ h => h) (Or.inl ⟨by rfl, ?_⟩) ?_
              rotate_left
              · (intro wq; go_simp; try with_reducible rfl)
              try simp only [Act.put, List.setIfInBounds_toArray, List.set_cons_zero, List.set_cons_succ]
              refine wpAny_skipU (i := 3) (oi := { dst := some 93, op := Op.move (Operand.tmp 11), type := 3, pos := "laws.go:804", after := #[{ on := 2, ground := Ground.guard }], guard := some (2, false) }) rfl (by kernel_rfl) (by kernel_rfl) (by kernel_rfl) 93 rfl (fun _ _ _ h => h) (by rfl) (by rfl) ?_
              refine wpAny_skipU (i := 4) (oi := { dst := some 94, op := Op.binOp BinOp.geq 3 (Operand.tmp 93) (Operand.const (Value.int IntKind.i64 0)) 3, type := 4, pos := "laws.go:804", after := #[{ on := 3, ground := Ground.data }, { on := 2, ground := Ground.guard }], guard := some (2, false) }) rfl (by kernel_rfl) (by kernel_rfl) (by kernel_rfl) 94 rfl (fun _ _ _ h => h) (by rfl) (by rfl) ?_
              refine wpAny_skipU (i := 5) (oi := { dst := some 95, op := Op.move (Operand.tmp 94), type := 4, pos := "laws.go:804", after := #[{ on := 4, ground := Ground.data }, { on := 2, ground := Ground.chain }, { on := 2, ground := Ground.guard }], guard := some (2, false) }) rfl (by kernel_rfl) (by kernel_rfl) (by kernel_rfl) 95 rfl (fun _ _ _ h => h) (by rfl) (by rfl) ?_
              refine wpAny_skipU (i := 6) (oi := { dst := some 96, op := Op.move (Operand.tmp 10), type := 40, pos := "laws.go:804", after := #[{ on := 5, ground := Ground.guard }], guard := some (5, true) }) rfl (by kernel_rfl) (by kernel_rfl) (by kernel_rfl) 96 rfl (fun _ _ _ h => h) (by rfl) (by rfl) ?_
              refine wpAny_skipU (i := 7) (oi := { dst := some 97, op := Op.move (Operand.tmp 11), type := 3, pos := "laws.go:804", after := #[{ on := 5, ground := Ground.guard }], guard := some (5, true) }) rfl (by kernel_rfl) (by kernel_rfl) (by kernel_rfl) 97 rfl (fun _ _ _ h => h) (by rfl) (by rfl) ?_
              refine wpAny_skipU (i := 8) (oi := { dst := some 98, op := Op.indexAddr 40 (Operand.tmp 96) (Operand.tmp 97), type := 0, pos := "laws.go:804", after := #[{ on := 6, ground := Ground.data }, { on := 7, ground := Ground.data }, { on := 5, ground := Ground.guard }], guard := some (5, true) }) rfl (by kernel_rfl) (by kernel_rfl) (by kernel_rfl) 98 rfl (fun _ _ _ h => h) (by rfl) (by rfl) ?_
              refine wpAny_skipU (i := 9) (oi := { dst := some 99, op := Op.fieldAddr 44 (Operand.tmp 98) 2, type := 0, pos := "laws.go:804", after := #[{ on := 8, ground := Ground.data }, { on := 5, ground := Ground.guard }], guard := some (5, true) }) rfl (by kernel_rfl) (by kernel_rfl) (by kernel_rfl) 99 rfl (fun _ _ _ h => h) (by rfl) (by rfl) ?_
              refine wpAny_skipU (i := 10) (oi := { dst := some 100, op := Op.load 4 (Operand.tmp 99), type := 4, pos := "laws.go:804", after := #[{ on := 9, ground := Ground.data }, { on := 5, ground := Ground.guard }], guard := some (5, true) }) rfl (by kernel_rfl) (by kernel_rfl) (by kernel_rfl) 100 rfl (fun _ _ _ h => h) (by rfl) (by rfl) ?_
              refine wpAny_skipU (i := 11) (oi := { dst := some 101, op := Op.unOp UnOp.not 4 (Operand.tmp 100), type := 4, pos := "laws.go:804", after := #[{ on := 10, ground := Ground.data }, { on := 5, ground := Ground.guard }], guard := some (5, true) }) rfl (by kernel_rfl) (by kernel_rfl) (by kernel_rfl) 101 rfl (fun _ _ _ h => h) (by rfl) (by rfl) ?_
              refine wpAny_skipU (i := 12) (oi := { dst := some 102, op := Op.pick (Operand.tmp 95) (Operand.tmp 101) (Operand.const (Value.bool false)), type := 4, pos := "laws.go:804", after := #[{ on := 5, ground := Ground.data }, { on := 11, ground := Ground.data }, { on := 2, ground := Ground.guard }], guard := some (2, false) }) rfl (by kernel_rfl) (by kernel_rfl) (by kernel_rfl) 102 rfl (fun _ _ _ h => h) (by rfl) (by rfl) ?_
              refine wpAny_skipU (i := 13) (oi := { dst := some 103, op := Op.move (Operand.tmp 102), type := 4, pos := "laws.go:804", after := #[{ on := 12, ground := Ground.data }, { on := 5, ground := Ground.chain }, { on := 2, ground := Ground.guard }], guard := some (2, false) }) rfl (by kernel_rfl) (by kernel_rfl) (by kernel_rfl) 103 rfl (fun _ _ _ h => h) (by rfl) (by rfl) ?_
              refine wpAny_skipU (i := 14) (oi := { dst := some 104, op := Op.move (Operand.tmp 10), type := 40, pos := "laws.go:804", after := #[{ on := 13, ground := Ground.guard }], guard := some (13, true) }) rfl (by kernel_rfl) (by kernel_rfl) (by kernel_rfl) 104 rfl (fun _ _ _ h => h) (by rfl) (by rfl) ?_
              refine wpAny_skipU (i := 15) (oi := { dst := some 105, op := Op.move (Operand.tmp 11), type := 3, pos := "laws.go:804", after := #[{ on := 13, ground := Ground.guard }], guard := some (13, true) }) rfl (by kernel_rfl) (by kernel_rfl) (by kernel_rfl) 105 rfl (fun _ _ _ h => h) (by rfl) (by rfl) ?_
              refine wpAny_skipU (i := 16) (oi := { dst := some 106, op := Op.indexAddr 40 (Operand.tmp 104) (Operand.tmp 105), type := 0, pos := "laws.go:804", after := #[{ on := 14, ground := Ground.data }, { on := 15, ground := Ground.data }, { on := 13, ground := Ground.guard }], guard := some (13, true) }) rfl (by kernel_rfl) (by kernel_rfl) (by kernel_rfl) 106 rfl (fun _ _ _ h => h) (by rfl) (by rfl) ?_
              refine wpAny_skipU (i := 17) (oi := { dst := some 107, op := Op.fieldAddr 44 (Operand.tmp 106) 1, type := 0, pos := "laws.go:804", after := #[{ on := 16, ground := Ground.data }, { on := 13, ground := Ground.guard }], guard := some (13, true) }) rfl (by kernel_rfl) (by kernel_rfl) (by kernel_rfl) 107 rfl (fun _ _ _ h => h) (by rfl) (by rfl) ?_
              refine wpAny_skipU (i := 18) (oi := { dst := some 108, op := Op.load 3 (Operand.tmp 107), type := 3, pos := "laws.go:804", after := #[{ on := 17, ground := Ground.data }, { on := 13, ground := Ground.guard }], guard := some (13, true) }) rfl (by kernel_rfl) (by kernel_rfl) (by kernel_rfl) 108 rfl (fun _ _ _ h => h) (by rfl) (by rfl) ?_
              refine wpAny_skipU (i := 19) (oi := { dst := some 109, op := Op.move (Operand.tmp 3), type := 23, pos := "laws.go:804", after := #[{ on := 13, ground := Ground.guard }], guard := some (13, true) }) rfl (by kernel_rfl) (by kernel_rfl) (by kernel_rfl) 109 rfl (fun _ _ _ h => h) (by rfl) (by rfl) ?_
              refine wpAny_skipU (i := 20) (oi := { dst := some 110, op := Op.call { callee := Callee.value (Operand.func 23), args := #[Operand.tmp 109], argTypes := #[23] }, type := 9, pos := "laws.go:804", after := #[{ on := 19, ground := Ground.data }, { on := 13, ground := Ground.chain }, { on := 13, ground := Ground.guard }], guard := some (13, true) }) rfl (by kernel_rfl) (by kernel_rfl) (by kernel_rfl) 110 rfl (fun _ _ _ h => h) (by rfl) (by rfl) ?_
              refine wpAny_skipU (i := 21) (oi := { dst := some 111, op := Op.move (Operand.tmp 5), type := 3, pos := "laws.go:804", after := #[{ on := 13, ground := Ground.guard }], guard := some (13, true) }) rfl (by kernel_rfl) (by kernel_rfl) (by kernel_rfl) 111 rfl (fun _ _ _ h => h) (by rfl) (by rfl) ?_
              refine wpAny_skipU (i := 22) (oi := { dst := some 112, op := Op.index 9 (Operand.tmp 110) (Operand.tmp 111), type := 5, pos := "laws.go:804", after := #[{ on := 20, ground := Ground.data }, { on := 21, ground := Ground.data }, { on := 13, ground := Ground.guard }], guard := some (13, true) }) rfl (by kernel_rfl) (by kernel_rfl) (by kernel_rfl) 112 rfl (fun _ _ _ h => h) (by rfl) (by rfl) ?_
              refine wpAny_skipU (i := 23) (oi := { dst := some 113, op := Op.convert 5 3 (Operand.tmp 112), type := 3, pos := "laws.go:804", after := #[{ on := 22, ground := Ground.data }, { on := 13, ground := Ground.guard }], guard := some (13, true) }) rfl (by kernel_rfl) (by kernel_rfl) (by kernel_rfl) 113 rfl (fun _ _ _ h => h) (by rfl) (by rfl) ?_
              refine wpAny_skipU (i := 24) (oi := { dst := some 114, op := Op.binOp BinOp.eql 3 (Operand.tmp 108) (Operand.tmp 113) 3, type := 4, pos := "laws.go:804", after := #[{ on := 18, ground := Ground.data }, { on := 23, ground := Ground.data }, { on := 13, ground := Ground.guard }], guard := some (13, true) }) rfl (by kernel_rfl) (by kernel_rfl) (by kernel_rfl) 114 rfl (fun _ _ _ h => h) (by rfl) (by rfl) ?_
              refine wpAny_skipU (i := 25) (oi := { dst := some 115, op := Op.pick (Operand.tmp 103) (Operand.tmp 114) (Operand.const (Value.bool false)), type := 4, pos := "laws.go:804", after := #[{ on := 13, ground := Ground.data }, { on := 24, ground := Ground.data }, { on := 2, ground := Ground.guard }], guard := some (2, false) }) rfl (by kernel_rfl) (by kernel_rfl) (by kernel_rfl) 115 rfl (fun _ _ _ h => h) (by rfl) (by rfl) ?_
              refine wpAny_take (i := 26) (oi := { dst := some 116, op := Op.pick (Operand.tmp 92) (Operand.const (Value.bool true)) (Operand.tmp 115), type := 4, pos := "laws.go:804", after := #[{ on := 2, ground := Ground.data }, { on := 25, ground := Ground.data }], guard := none }) (v := ?_) rfl (by kernel_rfl) (by kernel_rfl) (by kernel_rfl) (fun _ _ _ h => h) (Or.inl ⟨by rfl, ?_⟩) ?_
              rotate_left
              · (intro wq; go_simp; try with_reducible rfl)
              try simp only [Act.put, List.setIfInBounds_toArray, List.set_cons_zero, List.set_cons_succ]
              refine wpAny_take (i := 27) (oi := { dst := some 2, op := Op.assign (Operand.tmp 116), type := 4, pos := "laws.go:804", after := #[{ on := 26, ground := Ground.data }, { on := 20, ground := Ground.chain }, { on := 0, ground := Ground.phase }, { on := 1, ground := Ground.phase }, { on := 2, ground := Ground.phase }, { on := 3, ground := Ground.phase }, { on := 4, ground := Ground.phase }, { on := 5, ground := Ground.phase }, { on := 6, ground := Ground.phase }, { on := 7, ground := Ground.phase }, { on := 8, ground := Ground.phase }, { on := 9, ground := Ground.phase }, { on := 10, ground := Ground.phase }, { on := 11, ground := Ground.phase }, { on := 12, ground := Ground.phase }, { on := 13, ground := Ground.phase }, { on := 14, ground := Ground.phase }, { on := 15, ground := Ground.phase }, { on := 16, ground := Ground.phase }, { on := 17, ground := Ground.phase }, { on := 18, ground := Ground.phase }, { on := 19, ground := Ground.phase }, { on := 20, ground := Ground.phase }, { on := 21, ground := Ground.phase }, { on := 22, ground := Ground.phase }, { on := 23, ground := Ground.phase }, { on := 24, ground := Ground.phase }, { on := 25, ground := Ground.phase }, { on := 26, ground := Ground.phase }], guard := none }) (v := ?_) rfl (by kernel_rfl) (by kernel_rfl) (by kernel_rfl) (fun _ _ _ h => h) (Or.inl ⟨by rfl, ?_⟩) ?_
              rotate_left
              · (intro wq; go_simp; try with_reducible rfl)
              try simp only [Act.put, List.setIfInBounds_toArray, List.set_cons_zero, List.set_cons_succ]
              refine wpAny_done (by kernel_rfl) ?_ _
              go_wp2
              go_ret
              exact ⟨by simp, HTd.out.bel⟩
            · have ht1' : t < (T.size : Int) := by omega
              have hz : zz = decide (cnt L r + 1 ≤ 12) := by
                rw [HZE.out]
                have e2 : inB t 0 ((T.size : Int) - 1) = true := by unfold inB; exact decide_eq_true (by omega)
                rw [e2]; simp
              have HZZ := hideIt hz
              clear hz HZE
              go_wp2_with fail
              refine (implSeen_any L G c x _ HT6.out.own.at (by omega) HT6.out.own.cap (errB HT6.out.bel h0 he) (posB HT6.out.bel h0)).mono ?_
              rintro e w7 ⟨(⟨_, A, _, rfl, hI, _⟩ | ⟨hf, _⟩), hb7⟩
              · have HT7 := hideIt (HT6.out.below hb7)
                obtain ⟨c1, c2, c3⟩ := ints3 hI
                clear hI hb7 HT6
                by_cases hc : cnt L r + 1 ≤ 12
                · have hzt : zz = true := by rw [HZZ.out]; exact decide_eq_true hc
                  subst hzt
                  obtain ⟨k, xl, hkl, hx, ha, hb, hxz, hat, hs, hbyte⟩ := HTK.out rfl
                  have HOE : Hid (takeO L r t.toNat = o) := by
                    have h := HO.out
                    unfold takeA at h
                    rw [HZ.out, if_pos rfl] at h
                    exact h
                  rw [HOE.out] at ha hb hat
                  clear HOE HO HZ HTK
                  obtain ⟨j, rfl⟩ : ∃ j : Nat, t = j := Int.eq_ofNat_of_zero_le (by omega)
                  have hsT : j < T.size := by omega
                  have hbT : wrap64 ((T[j].toNat : Nat) : Int) = xl.g := by
                    have h := hbyte
                    simp only [Int.toNat_natCast, HTT.out] at h
                    exact h
                  clear hbyte hs
                  have hbU : ((T[j].toNat : Nat) : Int) = xl.g := by
                    have := T[j].toNat_lt
                    rw [← hbT]
                    exact (IntWalk.wrap64_in _ ⟨by omega, by omega⟩).symm
                  have hgw : IntKind.i64.wrap xl.g = xl.g := by
                    have := T[j].toNat_lt
                    exact IntWalk.i64_in _ ⟨by omega, by omega⟩
                  clear hbT
                  have hc' : cnt L r < 12 := by omega
                  obtain rfl | rfl | rfl : r = 1 ∨ r = 2 ∨ r = 3 := by omega
                  all_goals
                    go_wp2_with fail
                    refine (implLeaves_any L G c x _ HT7.out.own.at (by omega) HT7.out.own.cap (errB HT7.out.bel h0 he) (posB HT7.out.bel h0)).mono ?_
                    rintro e w8 ⟨va, rfl, hra, hb8⟩
                    have HT8 := hideIt (HT7.out.below hb8)
                    rw [show standL L = allO L by unfold standL; rw [if_pos HOP.out]] at hra
                    have HR8 : Hid (w8.ownsRow w.heap.size 44 4 va (lvs L).length (lfCells (lvs L))) := ownsRow_base HT7.out.bel.size hra
                    clear hb8 hra
                    obtain ⟨y0, y1, y2, y3, y4, y5, y6⟩ := S7.of HT8.out.two
                    have hplt := (Array.getElem?_eq_some_iff.1 HT8.out.two).1
                    go_wp2_with fail
                    refine (ltAt_any (lvs L) va _ o.c o.d _ HR8.out (Nat.le_trans (lvs_len HOP.out) (by omega))).mono ?_
                    rintro e w9 ⟨rfl, hb9⟩
                    have HT9 := hideIt (HT8.out.below hb9)
                    have HR9 := hideIt (rowKeep HR8.out hb9)
                    clear hb9 y0 y1 y2 y3 y4 y5 y6 hplt HT8 HR8
                    rw [hat]
                    go_wp2_with fail
                    have hkl' : (k : Int) < ((lvs L).length : Int) := by omega
                    have hk0 : (0 : Int) ≤ (k : Int) := by omega
                    obtain ⟨qa, ca, rfl, hqa⟩ := lf_cases HR9.out
                    obtain ⟨gl, rfl, hgc, _⟩ := hqa (by omega)
                    obtain ⟨m0, m1, m2, m3⟩ := lf_at HR9.out hx
                    have HTd := hideIt (HT9.out.below ((Below.refl _ _).drew))
                    have hgl : gl < w9.heap.size := by rcases HR9.out.lt gl rfl with ⟨_, h⟩; exact h
                    have n2 : w9.drew.cell? ⟨gl, k * 4 + 2, none⟩ = some (.int .i64 xl.g) := m2
                    have n3 : w9.drew.cell? ⟨gl, k * 4 + 3, none⟩ = some (.bool xl.z) := m3
                    rw [hxz] at n3
                    have hLn : L.length ≤ 1048576 := by omega
                    have hLc := HTd.out.own.cap
                    clear m0 m1 m2 m3 hqa HR9 HT9 hx hgc hat ha hb
                    generalize (lvs L).length = fl at *
                    go_wp2_with fail
                    refine wp_region_any (by kernel_rfl) ?_
                    change wpAny _ _ _ _ _ _ _ (World.drew _)
                    refine wpAny_take (i := 0) (oi := { dst := some 90, op := Op.move (Operand.tmp 9), type := 4, pos := "laws.go:804", after := #[], guard := none }) (v := ?_) rfl (by kernel_rfl) (by kernel_rfl) (by kernel_rfl) (fun _ _ _ h => h) (Or.inl ⟨by rfl, ?_⟩) ?_
                    rotate_left
                    · (intro wq; go_simp; try with_reducible rfl)
                    try simp only [Act.put, List.setIfInBounds_toArray, List.set_cons_zero, List.set_cons_succ]
                    refine wpAny_take (i := 1) (oi := { dst := some 91, op := Op.unOp UnOp.not 4 (Operand.tmp 90), type := 4, pos := "laws.go:804", after := #[{ on := 0, ground := Ground.data }], guard := none }) (v := .bool false) rfl (by kernel_rfl) (by kernel_rfl) (by kernel_rfl) (fun _ _ _ h => h) (Or.inl ⟨by rfl, (fun wq => by go_simp <;> first | (simp [*]; done) | (simp; omega) | omega)⟩) ?_
                    try simp only [Act.put, List.setIfInBounds_toArray, List.set_cons_zero, List.set_cons_succ]
                    refine wpAny_take (i := 2) (oi := { dst := some 92, op := Op.move (Operand.tmp 91), type := 4, pos := "laws.go:804", after := #[{ on := 1, ground := Ground.data }], guard := none }) (v := ?_) rfl (by kernel_rfl) (by kernel_rfl) (by kernel_rfl) (fun _ _ _ h => h) (Or.inl ⟨by rfl, ?_⟩) ?_
                    rotate_left
                    · (intro wq; go_simp; try with_reducible rfl)
                    try simp only [Act.put, List.setIfInBounds_toArray, List.set_cons_zero, List.set_cons_succ]
                    refine wpAny_take (i := 3) (oi := { dst := some 93, op := Op.move (Operand.tmp 11), type := 3, pos := "laws.go:804", after := #[{ on := 2, ground := Ground.guard }], guard := some (2, false) }) (v := ?_) rfl (by kernel_rfl) (by kernel_rfl) (by kernel_rfl) (fun _ _ _ h => h) (Or.inl ⟨by rfl, ?_⟩) ?_
                    rotate_left
                    · (intro wq; go_simp; try with_reducible rfl)
                    try simp only [Act.put, List.setIfInBounds_toArray, List.set_cons_zero, List.set_cons_succ]
                    refine wpAny_take (i := 4) (oi := { dst := some 94, op := Op.binOp BinOp.geq 3 (Operand.tmp 93) (Operand.const (Value.int IntKind.i64 0)) 3, type := 4, pos := "laws.go:804", after := #[{ on := 3, ground := Ground.data }, { on := 2, ground := Ground.guard }], guard := some (2, false) }) (v := .bool true) rfl (by kernel_rfl) (by kernel_rfl) (by kernel_rfl) (fun _ _ _ h => h) (Or.inl ⟨by rfl, (fun wq => by go_simp <;> first | (simp [*]; done) | (simp; omega) | omega)⟩) ?_
                    try simp only [Act.put, List.setIfInBounds_toArray, List.set_cons_zero, List.set_cons_succ]
                    refine wpAny_take (i := 5) (oi := { dst := some 95, op := Op.move (Operand.tmp 94), type := 4, pos := "laws.go:804", after := #[{ on := 4, ground := Ground.data }, { on := 2, ground := Ground.chain }, { on := 2, ground := Ground.guard }], guard := some (2, false) }) (v := ?_) rfl (by kernel_rfl) (by kernel_rfl) (by kernel_rfl) (fun _ _ _ h => h) (Or.inl ⟨by rfl, ?_⟩) ?_
                    rotate_left
                    · (intro wq; go_simp; try with_reducible rfl)
                    try simp only [Act.put, List.setIfInBounds_toArray, List.set_cons_zero, List.set_cons_succ]
                    refine wpAny_take (i := 6) (oi := { dst := some 96, op := Op.move (Operand.tmp 10), type := 40, pos := "laws.go:804", after := #[{ on := 5, ground := Ground.guard }], guard := some (5, true) }) (v := ?_) rfl (by kernel_rfl) (by kernel_rfl) (by kernel_rfl) (fun _ _ _ h => h) (Or.inl ⟨by rfl, ?_⟩) ?_
                    rotate_left
                    · (intro wq; go_simp; try with_reducible rfl)
                    try simp only [Act.put, List.setIfInBounds_toArray, List.set_cons_zero, List.set_cons_succ]
                    refine wpAny_take (i := 7) (oi := { dst := some 97, op := Op.move (Operand.tmp 11), type := 3, pos := "laws.go:804", after := #[{ on := 5, ground := Ground.guard }], guard := some (5, true) }) (v := ?_) rfl (by kernel_rfl) (by kernel_rfl) (by kernel_rfl) (fun _ _ _ h => h) (Or.inl ⟨by rfl, ?_⟩) ?_
                    rotate_left
                    · (intro wq; go_simp; try with_reducible rfl)
                    try simp only [Act.put, List.setIfInBounds_toArray, List.set_cons_zero, List.set_cons_succ]
                    refine wpAny_take (i := 8) (oi := { dst := some 98, op := Op.indexAddr 40 (Operand.tmp 96) (Operand.tmp 97), type := 0, pos := "laws.go:804", after := #[{ on := 6, ground := Ground.data }, { on := 7, ground := Ground.data }, { on := 5, ground := Ground.guard }], guard := some (5, true) }) (v := ?_) rfl (by kernel_rfl) (by kernel_rfl) (by kernel_rfl) (fun _ _ _ h => h) (Or.inl ⟨by rfl, ?_⟩) ?_
                    rotate_left
                    · (intro wq; go_simp; try with_reducible rfl)
                    try simp only [Act.put, List.setIfInBounds_toArray, List.set_cons_zero, List.set_cons_succ]
                    refine wpAny_take (i := 9) (oi := { dst := some 99, op := Op.fieldAddr 44 (Operand.tmp 98) 2, type := 0, pos := "laws.go:804", after := #[{ on := 8, ground := Ground.data }, { on := 5, ground := Ground.guard }], guard := some (5, true) }) (v := ?_) rfl (by kernel_rfl) (by kernel_rfl) (by kernel_rfl) (fun _ _ _ h => h) (Or.inl ⟨by rfl, ?_⟩) ?_
                    rotate_left
                    · (intro wq; go_simp; try with_reducible rfl)
                    try simp only [Act.put, List.setIfInBounds_toArray, List.set_cons_zero, List.set_cons_succ]
                    refine wpAny_ready (rs := [10]) (by kernel_rfl) (by simp) ?_
                    refine AllReady.cons (o := { dst := some 100, op := Op.load 4 (Operand.tmp 99), type := 4, pos := "laws.go:804", after := #[{ on := 9, ground := Ground.data }, { on := 5, ground := Ground.guard }], guard := some (5, true) }) rfl (fun K hK => ?_) AllReady.nil
                    go_simp
                    refine hK _ _ ?_
                    clear hK K
                    try simp only [Act.put, List.setIfInBounds_toArray, List.set_cons_zero, List.set_cons_succ]
                    refine wpAny_take (i := 11) (oi := { dst := some 101, op := Op.unOp UnOp.not 4 (Operand.tmp 100), type := 4, pos := "laws.go:804", after := #[{ on := 10, ground := Ground.data }, { on := 5, ground := Ground.guard }], guard := some (5, true) }) (v := .bool true) rfl (by kernel_rfl) (by kernel_rfl) (by kernel_rfl) (fun _ _ _ h => h) (Or.inl ⟨by rfl, (fun wq => by go_simp <;> first | (simp [*]; done) | (simp; omega) | omega)⟩) ?_
                    try simp only [Act.put, List.setIfInBounds_toArray, List.set_cons_zero, List.set_cons_succ]
                    refine wpAny_take (i := 12) (oi := { dst := some 102, op := Op.pick (Operand.tmp 95) (Operand.tmp 101) (Operand.const (Value.bool false)), type := 4, pos := "laws.go:804", after := #[{ on := 5, ground := Ground.data }, { on := 11, ground := Ground.data }, { on := 2, ground := Ground.guard }], guard := some (2, false) }) (v := ?_) rfl (by kernel_rfl) (by kernel_rfl) (by kernel_rfl) (fun _ _ _ h => h) (Or.inl ⟨by rfl, ?_⟩) ?_
                    rotate_left
                    · (intro wq; go_simp; try with_reducible rfl)
                    try simp only [Act.put, List.setIfInBounds_toArray, List.set_cons_zero, List.set_cons_succ]
                    refine wpAny_take (i := 13) (oi := { dst := some 103, op := Op.move (Operand.tmp 102), type := 4, pos := "laws.go:804", after := #[{ on := 12, ground := Ground.data }, { on := 5, ground := Ground.chain }, { on := 2, ground := Ground.guard }], guard := some (2, false) }) (v := ?_) rfl (by kernel_rfl) (by kernel_rfl) (by kernel_rfl) (fun _ _ _ h => h) (Or.inl ⟨by rfl, ?_⟩) ?_
                    rotate_left
                    · (intro wq; go_simp; try with_reducible rfl)
                    try simp only [Act.put, List.setIfInBounds_toArray, List.set_cons_zero, List.set_cons_succ]
                    refine wpAny_take (i := 14) (oi := { dst := some 104, op := Op.move (Operand.tmp 10), type := 40, pos := "laws.go:804", after := #[{ on := 13, ground := Ground.guard }], guard := some (13, true) }) (v := ?_) rfl (by kernel_rfl) (by kernel_rfl) (by kernel_rfl) (fun _ _ _ h => h) (Or.inl ⟨by rfl, ?_⟩) ?_
                    rotate_left
                    · (intro wq; go_simp; try with_reducible rfl)
                    try simp only [Act.put, List.setIfInBounds_toArray, List.set_cons_zero, List.set_cons_succ]
                    refine wpAny_take (i := 15) (oi := { dst := some 105, op := Op.move (Operand.tmp 11), type := 3, pos := "laws.go:804", after := #[{ on := 13, ground := Ground.guard }], guard := some (13, true) }) (v := ?_) rfl (by kernel_rfl) (by kernel_rfl) (by kernel_rfl) (fun _ _ _ h => h) (Or.inl ⟨by rfl, ?_⟩) ?_
                    rotate_left
                    · (intro wq; go_simp; try with_reducible rfl)
                    try simp only [Act.put, List.setIfInBounds_toArray, List.set_cons_zero, List.set_cons_succ]
                    refine wpAny_take (i := 16) (oi := { dst := some 106, op := Op.indexAddr 40 (Operand.tmp 104) (Operand.tmp 105), type := 0, pos := "laws.go:804", after := #[{ on := 14, ground := Ground.data }, { on := 15, ground := Ground.data }, { on := 13, ground := Ground.guard }], guard := some (13, true) }) (v := ?_) rfl (by kernel_rfl) (by kernel_rfl) (by kernel_rfl) (fun _ _ _ h => h) (Or.inl ⟨by rfl, ?_⟩) ?_
                    rotate_left
                    · (intro wq; go_simp; try with_reducible rfl)
                    try simp only [Act.put, List.setIfInBounds_toArray, List.set_cons_zero, List.set_cons_succ]
                    refine wpAny_take (i := 17) (oi := { dst := some 107, op := Op.fieldAddr 44 (Operand.tmp 106) 1, type := 0, pos := "laws.go:804", after := #[{ on := 16, ground := Ground.data }, { on := 13, ground := Ground.guard }], guard := some (13, true) }) (v := ?_) rfl (by kernel_rfl) (by kernel_rfl) (by kernel_rfl) (fun _ _ _ h => h) (Or.inl ⟨by rfl, ?_⟩) ?_
                    rotate_left
                    · (intro wq; go_simp; try with_reducible rfl)
                    try simp only [Act.put, List.setIfInBounds_toArray, List.set_cons_zero, List.set_cons_succ]
                    refine wpAny_take (i := 19) (oi := { dst := some 109, op := Op.move (Operand.tmp 3), type := 23, pos := "laws.go:804", after := #[{ on := 13, ground := Ground.guard }], guard := some (13, true) }) (v := ?_) rfl (by kernel_rfl) (by kernel_rfl) (by kernel_rfl) (fun _ _ _ h => h) (Or.inl ⟨by rfl, ?_⟩) ?_
                    rotate_left
                    · (intro wq; go_simp; try with_reducible rfl)
                    try simp only [Act.put, List.setIfInBounds_toArray, List.set_cons_zero, List.set_cons_succ]
                    refine wpAny_take (i := 21) (oi := { dst := some 111, op := Op.move (Operand.tmp 5), type := 3, pos := "laws.go:804", after := #[{ on := 13, ground := Ground.guard }], guard := some (13, true) }) (v := ?_) rfl (by kernel_rfl) (by kernel_rfl) (by kernel_rfl) (fun _ _ _ h => h) (Or.inl ⟨by rfl, ?_⟩) ?_
                    rotate_left
                    · (intro wq; go_simp; try with_reducible rfl)
                    try simp only [Act.put, List.setIfInBounds_toArray, List.set_cons_zero, List.set_cons_succ]
                    refine wpAny_ready (rs := [18, 20]) (by kernel_rfl) (by simp) ?_
                    refine AllReady.cons (o := { dst := some 108, op := Op.load 3 (Operand.tmp 107), type := 3, pos := "laws.go:804", after := #[{ on := 17, ground := Ground.data }, { on := 13, ground := Ground.guard }], guard := some (13, true) }) rfl (fun K hK => ?_) ?_
                    · go_simp
                      refine hK _ _ ?_
                      clear hK K
                      try simp only [Act.put, List.setIfInBounds_toArray, List.set_cons_zero, List.set_cons_succ]
                      refine wpAny_ready (rs := [20]) (by kernel_rfl) (by simp) ?_
                      refine AllReady.cons (o := { dst := some 110, op := Op.call { callee := Callee.value (Operand.func 23), args := #[Operand.tmp 109], argTypes := #[23] }, type := 9, pos := "laws.go:804", after := #[{ on := 19, ground := Ground.data }, { on := 13, ground := Ground.chain }, { on := 13, ground := Ground.guard }], guard := some (13, true) }) rfl (fun K hK => ?_) AllReady.nil
                      go_simp
                      go_wp2_with (first | (go_at_call 23; refine (implTxt_any L G c x _ HTd.out.own.at hLn hLc (errB HTd.out.bel h0 he) (posB HTd.out.bel h0)).mono ?_; rintro e w10 ⟨rfl, hb10⟩; rw [HTT.out]))
                      have HT10 := hideIt (HTd.out.below hb10)
                      have n4 : w10.cell? ⟨gl, k * 4 + 2, none⟩ = some (.int .i64 xl.g) := ((bcell hb10).1 gl _ hgl).trans n2
                      clear hb10
                      try simp only [Act.put, List.setIfInBounds_toArray, List.set_cons_zero, List.set_cons_succ]
                      refine wpAny_take (i := 22) (oi := { dst := some 112, op := Op.index 9 (Operand.tmp 110) (Operand.tmp 111), type := 5, pos := "laws.go:804", after := #[{ on := 20, ground := Ground.data }, { on := 21, ground := Ground.data }, { on := 13, ground := Ground.guard }], guard := some (13, true) }) (v := ?_) rfl (by kernel_rfl) (by kernel_rfl) (by kernel_rfl) (fun _ _ _ h => h) (Or.inl ⟨by rfl, ?_⟩) ?_
                      rotate_left
                      · (intro wq; go_simp; try with_reducible rfl)
                      try simp only [Act.put, List.setIfInBounds_toArray, List.set_cons_zero, List.set_cons_succ]
                      refine wpAny_take (i := 23) (oi := { dst := some 113, op := Op.convert 5 3 (Operand.tmp 112), type := 3, pos := "laws.go:804", after := #[{ on := 22, ground := Ground.data }, { on := 13, ground := Ground.guard }], guard := some (13, true) }) (v := ?_) rfl (by kernel_rfl) (by kernel_rfl) (by kernel_rfl) (fun _ _ _ h => h) (Or.inl ⟨by rfl, ?_⟩) ?_
                      rotate_left
                      · (intro wq; go_simp; try with_reducible rfl)
                      try simp only [Act.put, List.setIfInBounds_toArray, List.set_cons_zero, List.set_cons_succ]
                      refine wpAny_take (i := 24) (oi := { dst := some 114, op := Op.binOp BinOp.eql 3 (Operand.tmp 108) (Operand.tmp 113) 3, type := 4, pos := "laws.go:804", after := #[{ on := 18, ground := Ground.data }, { on := 23, ground := Ground.data }, { on := 13, ground := Ground.guard }], guard := some (13, true) }) (v := .bool true) rfl (by kernel_rfl) (by kernel_rfl) (by kernel_rfl) (fun _ _ _ h => h) (Or.inl ⟨by rfl, (fun wq => by go_simp <;> first | (simp [*]; done) | (simp; omega) | omega)⟩) ?_
                      try simp only [Act.put, List.setIfInBounds_toArray, List.set_cons_zero, List.set_cons_succ]
                      refine wpAny_take (i := 25) (oi := { dst := some 115, op := Op.pick (Operand.tmp 103) (Operand.tmp 114) (Operand.const (Value.bool false)), type := 4, pos := "laws.go:804", after := #[{ on := 13, ground := Ground.data }, { on := 24, ground := Ground.data }, { on := 2, ground := Ground.guard }], guard := some (2, false) }) (v := ?_) rfl (by kernel_rfl) (by kernel_rfl) (by kernel_rfl) (fun _ _ _ h => h) (Or.inl ⟨by rfl, ?_⟩) ?_
                      rotate_left
                      · (intro wq; go_simp; try with_reducible rfl)
                      try simp only [Act.put, List.setIfInBounds_toArray, List.set_cons_zero, List.set_cons_succ]
                      refine wpAny_take (i := 26) (oi := { dst := some 116, op := Op.pick (Operand.tmp 92) (Operand.const (Value.bool true)) (Operand.tmp 115), type := 4, pos := "laws.go:804", after := #[{ on := 2, ground := Ground.data }, { on := 25, ground := Ground.data }], guard := none }) (v := ?_) rfl (by kernel_rfl) (by kernel_rfl) (by kernel_rfl) (fun _ _ _ h => h) (Or.inl ⟨by rfl, ?_⟩) ?_
                      rotate_left
                      · (intro wq; go_simp; try with_reducible rfl)
                      try simp only [Act.put, List.setIfInBounds_toArray, List.set_cons_zero, List.set_cons_succ]
                      refine wpAny_take (i := 27) (oi := { dst := some 2, op := Op.assign (Operand.tmp 116), type := 4, pos := "laws.go:804", after := #[{ on := 26, ground := Ground.data }, { on := 20, ground := Ground.chain }, { on := 0, ground := Ground.phase }, { on := 1, ground := Ground.phase }, { on := 2, ground := Ground.phase }, { on := 3, ground := Ground.phase }, { on := 4, ground := Ground.phase }, { on := 5, ground := Ground.phase }, { on := 6, ground := Ground.phase }, { on := 7, ground := Ground.phase }, { on := 8, ground := Ground.phase }, { on := 9, ground := Ground.phase }, { on := 10, ground := Ground.phase }, { on := 11, ground := Ground.phase }, { on := 12, ground := Ground.phase }, { on := 13, ground := Ground.phase }, { on := 14, ground := Ground.phase }, { on := 15, ground := Ground.phase }, { on := 16, ground := Ground.phase }, { on := 17, ground := Ground.phase }, { on := 18, ground := Ground.phase }, { on := 19, ground := Ground.phase }, { on := 20, ground := Ground.phase }, { on := 21, ground := Ground.phase }, { on := 22, ground := Ground.phase }, { on := 23, ground := Ground.phase }, { on := 24, ground := Ground.phase }, { on := 25, ground := Ground.phase }, { on := 26, ground := Ground.phase }], guard := none }) (v := ?_) rfl (by kernel_rfl) (by kernel_rfl) (by kernel_rfl) (fun _ _ _ h => h) (Or.inl ⟨by rfl, ?_⟩) ?_
                      rotate_left
                      · (intro wq; go_simp; try with_reducible rfl)
                      try simp only [Act.put, List.setIfInBounds_toArray, List.set_cons_zero, List.set_cons_succ]
                      refine wpAny_done (by kernel_rfl) ?_ _
                      go_wp2
                      go_ret
                      exact ⟨rfl, HT10.out.bel⟩
                    · refine AllReady.cons (o := { dst := some 110, op := Op.call { callee := Callee.value (Operand.func 23), args := #[Operand.tmp 109], argTypes := #[23] }, type := 9, pos := "laws.go:804", after := #[{ on := 19, ground := Ground.data }, { on := 13, ground := Ground.chain }, { on := 13, ground := Ground.guard }], guard := some (13, true) }) rfl (fun K hK => ?_) AllReady.nil
                      go_simp
                      go_wp2_with (first | (go_at_call 23; refine (implTxt_any L G c x _ HTd.out.own.at hLn hLc (errB HTd.out.bel h0 he) (posB HTd.out.bel h0)).mono ?_; rintro e w10 ⟨rfl, hb10⟩; rw [HTT.out]))
                      have HT10 := hideIt (HTd.out.below hb10)
                      have n4 : w10.cell? ⟨gl, k * 4 + 2, none⟩ = some (.int .i64 xl.g) := ((bcell hb10).1 gl _ hgl).trans n2
                      clear hb10
                      try simp only [Act.put, List.setIfInBounds_toArray, List.set_cons_zero, List.set_cons_succ]
                      refine wpAny_take (i := 22) (oi := { dst := some 112, op := Op.index 9 (Operand.tmp 110) (Operand.tmp 111), type := 5, pos := "laws.go:804", after := #[{ on := 20, ground := Ground.data }, { on := 21, ground := Ground.data }, { on := 13, ground := Ground.guard }], guard := some (13, true) }) (v := ?_) rfl (by kernel_rfl) (by kernel_rfl) (by kernel_rfl) (fun _ _ _ h => h) (Or.inl ⟨by rfl, ?_⟩) ?_
                      rotate_left
                      · (intro wq; go_simp; try with_reducible rfl)
                      try simp only [Act.put, List.setIfInBounds_toArray, List.set_cons_zero, List.set_cons_succ]
                      refine wpAny_take (i := 23) (oi := { dst := some 113, op := Op.convert 5 3 (Operand.tmp 112), type := 3, pos := "laws.go:804", after := #[{ on := 22, ground := Ground.data }, { on := 13, ground := Ground.guard }], guard := some (13, true) }) (v := ?_) rfl (by kernel_rfl) (by kernel_rfl) (by kernel_rfl) (fun _ _ _ h => h) (Or.inl ⟨by rfl, ?_⟩) ?_
                      rotate_left
                      · (intro wq; go_simp; try with_reducible rfl)
                      try simp only [Act.put, List.setIfInBounds_toArray, List.set_cons_zero, List.set_cons_succ]
                      refine wpAny_ready (rs := [18]) (by kernel_rfl) (by simp) ?_
                      refine AllReady.cons (o := { dst := some 108, op := Op.load 3 (Operand.tmp 107), type := 3, pos := "laws.go:804", after := #[{ on := 17, ground := Ground.data }, { on := 13, ground := Ground.guard }], guard := some (13, true) }) rfl (fun K hK => ?_) AllReady.nil
                      go_simp
                      refine hK _ _ ?_
                      clear hK K
                      try simp only [Act.put, List.setIfInBounds_toArray, List.set_cons_zero, List.set_cons_succ]
                      refine wpAny_take (i := 24) (oi := { dst := some 114, op := Op.binOp BinOp.eql 3 (Operand.tmp 108) (Operand.tmp 113) 3, type := 4, pos := "laws.go:804", after := #[{ on := 18, ground := Ground.data }, { on := 23, ground := Ground.data }, { on := 13, ground := Ground.guard }], guard := some (13, true) }) (v := .bool true) rfl (by kernel_rfl) (by kernel_rfl) (by kernel_rfl) (fun _ _ _ h => h) (Or.inl ⟨by rfl, (fun wq => by go_simp <;> first | (simp [*]; done) | (simp; omega) | omega)⟩) ?_
                      try simp only [Act.put, List.setIfInBounds_toArray, List.set_cons_zero, List.set_cons_succ]
                      refine wpAny_take (i := 25) (oi := { dst := some 115, op := Op.pick (Operand.tmp 103) (Operand.tmp 114) (Operand.const (Value.bool false)), type := 4, pos := "laws.go:804", after := #[{ on := 13, ground := Ground.data }, { on := 24, ground := Ground.data }, { on := 2, ground := Ground.guard }], guard := some (2, false) }) (v := ?_) rfl (by kernel_rfl) (by kernel_rfl) (by kernel_rfl) (fun _ _ _ h => h) (Or.inl ⟨by rfl, ?_⟩) ?_
                      rotate_left
                      · (intro wq; go_simp; try with_reducible rfl)
                      try simp only [Act.put, List.setIfInBounds_toArray, List.set_cons_zero, List.set_cons_succ]
                      refine wpAny_take (i := 26) (oi := { dst := some 116, op := Op.pick (Operand.tmp 92) (Operand.const (Value.bool true)) (Operand.tmp 115), type := 4, pos := "laws.go:804", after := #[{ on := 2, ground := Ground.data }, { on := 25, ground := Ground.data }], guard := none }) (v := ?_) rfl (by kernel_rfl) (by kernel_rfl) (by kernel_rfl) (fun _ _ _ h => h) (Or.inl ⟨by rfl, ?_⟩) ?_
                      rotate_left
                      · (intro wq; go_simp; try with_reducible rfl)
                      try simp only [Act.put, List.setIfInBounds_toArray, List.set_cons_zero, List.set_cons_succ]
                      refine wpAny_take (i := 27) (oi := { dst := some 2, op := Op.assign (Operand.tmp 116), type := 4, pos := "laws.go:804", after := #[{ on := 26, ground := Ground.data }, { on := 20, ground := Ground.chain }, { on := 0, ground := Ground.phase }, { on := 1, ground := Ground.phase }, { on := 2, ground := Ground.phase }, { on := 3, ground := Ground.phase }, { on := 4, ground := Ground.phase }, { on := 5, ground := Ground.phase }, { on := 6, ground := Ground.phase }, { on := 7, ground := Ground.phase }, { on := 8, ground := Ground.phase }, { on := 9, ground := Ground.phase }, { on := 10, ground := Ground.phase }, { on := 11, ground := Ground.phase }, { on := 12, ground := Ground.phase }, { on := 13, ground := Ground.phase }, { on := 14, ground := Ground.phase }, { on := 15, ground := Ground.phase }, { on := 16, ground := Ground.phase }, { on := 17, ground := Ground.phase }, { on := 18, ground := Ground.phase }, { on := 19, ground := Ground.phase }, { on := 20, ground := Ground.phase }, { on := 21, ground := Ground.phase }, { on := 22, ground := Ground.phase }, { on := 23, ground := Ground.phase }, { on := 24, ground := Ground.phase }, { on := 25, ground := Ground.phase }, { on := 26, ground := Ground.phase }], guard := none }) (v := ?_) rfl (by kernel_rfl) (by kernel_rfl) (by kernel_rfl) (fun _ _ _ h => h) (Or.inl ⟨by rfl, ?_⟩) ?_
                      rotate_left
                      · (intro wq; go_simp; try with_reducible rfl)
                      try simp only [Act.put, List.setIfInBounds_toArray, List.set_cons_zero, List.set_cons_succ]
                      refine wpAny_done (by kernel_rfl) ?_ _
                      go_wp2
                      go_ret
                      exact ⟨rfl, HT10.out.bel⟩
                · have hzf : zz = false := by rw [HZZ.out]; exact decide_eq_false hc
                  subst hzf
                  have hc' : ¬ (cnt L r < 12) := by omega
                  obtain rfl | rfl | rfl : r = 1 ∨ r = 2 ∨ r = 3 := by omega
                  all_goals
                    go_wp2_with fail
                    refine (implLeaves_any L G c x _ HT7.out.own.at (by omega) HT7.out.own.cap (errB HT7.out.bel h0 he) (posB HT7.out.bel h0)).mono ?_
                    rintro e w8 ⟨va, rfl, hra, hb8⟩
                    have HT8 := hideIt (HT7.out.below hb8)
                    rw [show standL L = allO L by unfold standL; rw [if_pos HOP.out]] at hra
                    have HR8 : Hid (w8.ownsRow w.heap.size 44 4 va (lvs L).length (lfCells (lvs L))) := ownsRow_base HT7.out.bel.size hra
                    clear hb8 hra
                    obtain ⟨y0, y1, y2, y3, y4, y5, y6⟩ := S7.of HT8.out.two
                    have hplt := (Array.getElem?_eq_some_iff.1 HT8.out.two).1
                    go_wp2_with fail
                    refine (ltAt_any (lvs L) va _ o.c o.d _ HR8.out (Nat.le_trans (lvs_len HOP.out) (by omega))).mono ?_
                    rintro e w9 ⟨rfl, hb9⟩
                    have HT9 := hideIt (HT8.out.below hb9)
                    have HR9 := hideIt (rowKeep HR8.out hb9)
                    clear hb9 y0 y1 y2 y3 y4 y5 y6 hplt HT8 HR8
                    clear HR9
                    have HTd := hideIt (HT9.out.below ((Below.refl _ _).drew))
                    go_wp2_with fail
                    refine wp_region_any (by kernel_rfl) ?_
                    change wpAny _ _ _ _ _ _ _ (World.drew _)
                    refine wpAny_take (i := 0) (oi := { dst := some 90, op := Op.move (Operand.tmp 9), type := 4, pos := "laws.go:804", after := #[], guard := none }) (v := ?_) rfl (by kernel_rfl) (by kernel_rfl) (by kernel_rfl) (fun _ _ _ h => h) (Or.inl ⟨by rfl, ?_⟩) ?_
                    rotate_left
                    · (intro wq; go_simp; try with_reducible rfl)
                    try simp only [Act.put, List.setIfInBounds_toArray, List.set_cons_zero, List.set_cons_succ]
                    refine wpAny_take (i := 1) (oi := { dst := some 91, op := Op.unOp UnOp.not 4 (Operand.tmp 90), type := 4, pos := "laws.go:804", after := #[{ on := 0, ground := Ground.data }], guard := none }) (v := ?_) rfl (by kernel_rfl) (by kernel_rfl) (by kernel_rfl) (fun _ _ _ h => h) (Or.inl ⟨by rfl, ?_⟩) ?_
                    rotate_left
                    · (intro wq; go_simp; try with_reducible rfl)
                    try simp only [Act.put, List.setIfInBounds_toArray, List.set_cons_zero, List.set_cons_succ]
                    refine wpAny_take (i := 2) (oi := { dst := some 92, op := Op.move (Operand.tmp 91), type := 4, pos := "laws.go:804", after := #[{ on := 1, ground := Ground.data }], guard := none }) (v := ?_) rfl (by kernel_rfl) (by kernel_rfl) (by kernel_rfl) (fun _ _ _ h => h) (Or.inl ⟨by rfl, ?_⟩) ?_
                    rotate_left
                    · (intro wq; go_simp; try with_reducible rfl)
                    try simp only [Act.put, List.setIfInBounds_toArray, List.set_cons_zero, List.set_cons_succ]
                    refine wpAny_skipU (i := 3) (oi := { dst := some 93, op := Op.move (Operand.tmp 11), type := 3, pos := "laws.go:804", after := #[{ on := 2, ground := Ground.guard }], guard := some (2, false) }) rfl (by kernel_rfl) (by kernel_rfl) (by kernel_rfl) 93 rfl (fun _ _ _ h => h) (by rfl) (by rfl) ?_
                    refine wpAny_skipU (i := 4) (oi := { dst := some 94, op := Op.binOp BinOp.geq 3 (Operand.tmp 93) (Operand.const (Value.int IntKind.i64 0)) 3, type := 4, pos := "laws.go:804", after := #[{ on := 3, ground := Ground.data }, { on := 2, ground := Ground.guard }], guard := some (2, false) }) rfl (by kernel_rfl) (by kernel_rfl) (by kernel_rfl) 94 rfl (fun _ _ _ h => h) (by rfl) (by rfl) ?_
                    refine wpAny_skipU (i := 5) (oi := { dst := some 95, op := Op.move (Operand.tmp 94), type := 4, pos := "laws.go:804", after := #[{ on := 4, ground := Ground.data }, { on := 2, ground := Ground.chain }, { on := 2, ground := Ground.guard }], guard := some (2, false) }) rfl (by kernel_rfl) (by kernel_rfl) (by kernel_rfl) 95 rfl (fun _ _ _ h => h) (by rfl) (by rfl) ?_
                    refine wpAny_skipU (i := 6) (oi := { dst := some 96, op := Op.move (Operand.tmp 10), type := 40, pos := "laws.go:804", after := #[{ on := 5, ground := Ground.guard }], guard := some (5, true) }) rfl (by kernel_rfl) (by kernel_rfl) (by kernel_rfl) 96 rfl (fun _ _ _ h => h) (by rfl) (by rfl) ?_
                    refine wpAny_skipU (i := 7) (oi := { dst := some 97, op := Op.move (Operand.tmp 11), type := 3, pos := "laws.go:804", after := #[{ on := 5, ground := Ground.guard }], guard := some (5, true) }) rfl (by kernel_rfl) (by kernel_rfl) (by kernel_rfl) 97 rfl (fun _ _ _ h => h) (by rfl) (by rfl) ?_
                    refine wpAny_skipU (i := 8) (oi := { dst := some 98, op := Op.indexAddr 40 (Operand.tmp 96) (Operand.tmp 97), type := 0, pos := "laws.go:804", after := #[{ on := 6, ground := Ground.data }, { on := 7, ground := Ground.data }, { on := 5, ground := Ground.guard }], guard := some (5, true) }) rfl (by kernel_rfl) (by kernel_rfl) (by kernel_rfl) 98 rfl (fun _ _ _ h => h) (by rfl) (by rfl) ?_
                    refine wpAny_skipU (i := 9) (oi := { dst := some 99, op := Op.fieldAddr 44 (Operand.tmp 98) 2, type := 0, pos := "laws.go:804", after := #[{ on := 8, ground := Ground.data }, { on := 5, ground := Ground.guard }], guard := some (5, true) }) rfl (by kernel_rfl) (by kernel_rfl) (by kernel_rfl) 99 rfl (fun _ _ _ h => h) (by rfl) (by rfl) ?_
                    refine wpAny_skipU (i := 10) (oi := { dst := some 100, op := Op.load 4 (Operand.tmp 99), type := 4, pos := "laws.go:804", after := #[{ on := 9, ground := Ground.data }, { on := 5, ground := Ground.guard }], guard := some (5, true) }) rfl (by kernel_rfl) (by kernel_rfl) (by kernel_rfl) 100 rfl (fun _ _ _ h => h) (by rfl) (by rfl) ?_
                    refine wpAny_skipU (i := 11) (oi := { dst := some 101, op := Op.unOp UnOp.not 4 (Operand.tmp 100), type := 4, pos := "laws.go:804", after := #[{ on := 10, ground := Ground.data }, { on := 5, ground := Ground.guard }], guard := some (5, true) }) rfl (by kernel_rfl) (by kernel_rfl) (by kernel_rfl) 101 rfl (fun _ _ _ h => h) (by rfl) (by rfl) ?_
                    refine wpAny_skipU (i := 12) (oi := { dst := some 102, op := Op.pick (Operand.tmp 95) (Operand.tmp 101) (Operand.const (Value.bool false)), type := 4, pos := "laws.go:804", after := #[{ on := 5, ground := Ground.data }, { on := 11, ground := Ground.data }, { on := 2, ground := Ground.guard }], guard := some (2, false) }) rfl (by kernel_rfl) (by kernel_rfl) (by kernel_rfl) 102 rfl (fun _ _ _ h => h) (by rfl) (by rfl) ?_
                    refine wpAny_skipU (i := 13) (oi := { dst := some 103, op := Op.move (Operand.tmp 102), type := 4, pos := "laws.go:804", after := #[{ on := 12, ground := Ground.data }, { on := 5, ground := Ground.chain }, { on := 2, ground := Ground.guard }], guard := some (2, false) }) rfl (by kernel_rfl) (by kernel_rfl) (by kernel_rfl) 103 rfl (fun _ _ _ h => h) (by rfl) (by rfl) ?_
                    refine wpAny_skipU (i := 14) (oi := { dst := some 104, op := Op.move (Operand.tmp 10), type := 40, pos := "laws.go:804", after := #[{ on := 13, ground := Ground.guard }], guard := some (13, true) }) rfl (by kernel_rfl) (by kernel_rfl) (by kernel_rfl) 104 rfl (fun _ _ _ h => h) (by rfl) (by rfl) ?_
                    refine wpAny_skipU (i := 15) (oi := { dst := some 105, op := Op.move (Operand.tmp 11), type := 3, pos := "laws.go:804", after := #[{ on := 13, ground := Ground.guard }], guard := some (13, true) }) rfl (by kernel_rfl) (by kernel_rfl) (by kernel_rfl) 105 rfl (fun _ _ _ h => h) (by rfl) (by rfl) ?_
                    refine wpAny_skipU (i := 16) (oi := { dst := some 106, op := Op.indexAddr 40 (Operand.tmp 104) (Operand.tmp 105), type := 0, pos := "laws.go:804", after := #[{ on := 14, ground := Ground.data }, { on := 15, ground := Ground.data }, { on := 13, ground := Ground.guard }], guard := some (13, true) }) rfl (by kernel_rfl) (by kernel_rfl) (by kernel_rfl) 106 rfl (fun _ _ _ h => h) (by rfl) (by rfl) ?_
                    refine wpAny_skipU (i := 17) (oi := { dst := some 107, op := Op.fieldAddr 44 (Operand.tmp 106) 1, type := 0, pos := "laws.go:804", after := #[{ on := 16, ground := Ground.data }, { on := 13, ground := Ground.guard }], guard := some (13, true) }) rfl (by kernel_rfl) (by kernel_rfl) (by kernel_rfl) 107 rfl (fun _ _ _ h => h) (by rfl) (by rfl) ?_
                    refine wpAny_skipU (i := 18) (oi := { dst := some 108, op := Op.load 3 (Operand.tmp 107), type := 3, pos := "laws.go:804", after := #[{ on := 17, ground := Ground.data }, { on := 13, ground := Ground.guard }], guard := some (13, true) }) rfl (by kernel_rfl) (by kernel_rfl) (by kernel_rfl) 108 rfl (fun _ _ _ h => h) (by rfl) (by rfl) ?_
                    refine wpAny_skipU (i := 19) (oi := { dst := some 109, op := Op.move (Operand.tmp 3), type := 23, pos := "laws.go:804", after := #[{ on := 13, ground := Ground.guard }], guard := some (13, true) }) rfl (by kernel_rfl) (by kernel_rfl) (by kernel_rfl) 109 rfl (fun _ _ _ h => h) (by rfl) (by rfl) ?_
                    refine wpAny_skipU (i := 20) (oi := { dst := some 110, op := Op.call { callee := Callee.value (Operand.func 23), args := #[Operand.tmp 109], argTypes := #[23] }, type := 9, pos := "laws.go:804", after := #[{ on := 19, ground := Ground.data }, { on := 13, ground := Ground.chain }, { on := 13, ground := Ground.guard }], guard := some (13, true) }) rfl (by kernel_rfl) (by kernel_rfl) (by kernel_rfl) 110 rfl (fun _ _ _ h => h) (by rfl) (by rfl) ?_
                    refine wpAny_skipU (i := 21) (oi := { dst := some 111, op := Op.move (Operand.tmp 5), type := 3, pos := "laws.go:804", after := #[{ on := 13, ground := Ground.guard }], guard := some (13, true) }) rfl (by kernel_rfl) (by kernel_rfl) (by kernel_rfl) 111 rfl (fun _ _ _ h => h) (by rfl) (by rfl) ?_
                    refine wpAny_skipU (i := 22) (oi := { dst := some 112, op := Op.index 9 (Operand.tmp 110) (Operand.tmp 111), type := 5, pos := "laws.go:804", after := #[{ on := 20, ground := Ground.data }, { on := 21, ground := Ground.data }, { on := 13, ground := Ground.guard }], guard := some (13, true) }) rfl (by kernel_rfl) (by kernel_rfl) (by kernel_rfl) 112 rfl (fun _ _ _ h => h) (by rfl) (by rfl) ?_
                    refine wpAny_skipU (i := 23) (oi := { dst := some 113, op := Op.convert 5 3 (Operand.tmp 112), type := 3, pos := "laws.go:804", after := #[{ on := 22, ground := Ground.data }, { on := 13, ground := Ground.guard }], guard := some (13, true) }) rfl (by kernel_rfl) (by kernel_rfl) (by kernel_rfl) 113 rfl (fun _ _ _ h => h) (by rfl) (by rfl) ?_
                    refine wpAny_skipU (i := 24) (oi := { dst := some 114, op := Op.binOp BinOp.eql 3 (Operand.tmp 108) (Operand.tmp 113) 3, type := 4, pos := "laws.go:804", after := #[{ on := 18, ground := Ground.data }, { on := 23, ground := Ground.data }, { on := 13, ground := Ground.guard }], guard := some (13, true) }) rfl (by kernel_rfl) (by kernel_rfl) (by kernel_rfl) 114 rfl (fun _ _ _ h => h) (by rfl) (by rfl) ?_
                    refine wpAny_skipU (i := 25) (oi := { dst := some 115, op := Op.pick (Operand.tmp 103) (Operand.tmp 114) (Operand.const (Value.bool false)), type := 4, pos := "laws.go:804", after := #[{ on := 13, ground := Ground.data }, { on := 24, ground := Ground.data }, { on := 2, ground := Ground.guard }], guard := some (2, false) }) rfl (by kernel_rfl) (by kernel_rfl) (by kernel_rfl) 115 rfl (fun _ _ _ h => h) (by rfl) (by rfl) ?_
                    refine wpAny_take (i := 26) (oi := { dst := some 116, op := Op.pick (Operand.tmp 92) (Operand.const (Value.bool true)) (Operand.tmp 115), type := 4, pos := "laws.go:804", after := #[{ on := 2, ground := Ground.data }, { on := 25, ground := Ground.data }], guard := none }) (v := ?_) rfl (by kernel_rfl) (by kernel_rfl) (by kernel_rfl) (fun _ _ _ h => h) (Or.inl ⟨by rfl, ?_⟩) ?_
                    rotate_left
                    · (intro wq; go_simp; try with_reducible rfl)
                    try simp only [Act.put, List.setIfInBounds_toArray, List.set_cons_zero, List.set_cons_succ]
                    refine wpAny_take (i := 27) (oi := { dst := some 2, op := Op.assign (Operand.tmp 116), type := 4, pos := "laws.go:804", after := #[{ on := 26, ground := Ground.data }, { on := 20, ground := Ground.chain }, { on := 0, ground := Ground.phase }, { on := 1, ground := Ground.phase }, { on := 2, ground := Ground.phase }, { on := 3, ground := Ground.phase }, { on := 4, ground := Ground.phase }, { on := 5, ground := Ground.phase }, { on := 6, ground := Ground.phase }, { on := 7, ground := Ground.phase }, { on := 8, ground := Ground.phase }, { on := 9, ground := Ground.phase }, { on := 10, ground := Ground.phase }, { on := 11, ground := Ground.phase }, { on := 12, ground := Ground.phase }, { on := 13, ground := Ground.phase }, { on := 14, ground := Ground.phase }, { on := 15, ground := Ground.phase }, { on := 16, ground := Ground.phase }, { on := 17, ground := Ground.phase }, { on := 18, ground := Ground.phase }, { on := 19, ground := Ground.phase }, { on := 20, ground := Ground.phase }, { on := 21, ground := Ground.phase }, { on := 22, ground := Ground.phase }, { on := 23, ground := Ground.phase }, { on := 24, ground := Ground.phase }, { on := 25, ground := Ground.phase }, { on := 26, ground := Ground.phase }], guard := none }) (v := ?_) rfl (by kernel_rfl) (by kernel_rfl) (by kernel_rfl) (fun _ _ _ h => h) (Or.inl ⟨by rfl, ?_⟩) ?_
                    rotate_left
                    · (intro wq; go_simp; try with_reducible rfl)
                    try simp only [Act.put, List.setIfInBounds_toArray, List.set_cons_zero, List.set_cons_succ]
                    refine wpAny_done (by kernel_rfl) ?_ _
                    go_wp2
                    go_ret
                    exact ⟨by simp, HTd.out.bel⟩
              · rw [HOP.out] at hf; cases hf
  · go_enter Tryd.func4, Tryd.ntmps4
    go_wp2
    go_ret
    exact ⟨rfl, Below.refl _ _⟩
end Go.Proofs.YtedanlmippfojaaDoor

namespace Go.Proofs.YtedanlmippfojaaDoor
open Go.ChangeShapes Go.WideShapes Go.ChangeAt Go.RowKit Go.Joins

theorem own : ownKnob Tryd.prog.godebug = none := by kernel_rfl
theorem laidOut : laidOutB Tryd.prog = true := by kernel_rfl
theorem cells_int : Tryd.prog.cellsOf 3 = 1 := by kernel_rfl

/-- The name of the one listed variable. -/
abbrev errName : String := Rows.fnTypeAnyoneSpec.vars.headD ""
/-- What the rows list. -/
abbrev laid1 : List (String × DataW Unit) := Rows.fnTypeAnyoneRow.laid
theorem gErr : Tryd.prog.globalNamed errName = some 0 := by kernel_rfl
theorem tErr : (Tryd.prog.globals[0]?).map (·.type) = some 93 := by kernel_rfl
def nmOf : DataW Unit → String
  | .iface n _ => n
  | _ => ""
theorem star : "*" ++ "errors.errorString" = nmOf Rows.laid_loop_example_tatting_impl_errNoThing := by decide
theorem nameErr (u : TypeId) (h : Tryd.prog.typeName? 3 u = some (nmOf Rows.laid_loop_example_tatting_impl_errNoThing)) : u = 203 :=
  typeName_ptr_named (nm := "errors.errorString") (by rw [star]; kernel_rfl) (by kernel_rfl) (by decide) u (by rw [star]; exact h)

theorem door_met (os : Os) (args : Array Value) : laidMetH Tryd.prog laid1 ((World.doorLaid Tryd.prog 28 os).forCall (fun _ _ => 0) ⟨#[], args, []⟩).memory :=
  laidMetH_of_parts3 (fuel := 8) (laidMet_of_run' 8 (by kernel_rfl) (by kernel_rfl)) (by kernel_rfl) (by kernel_rfl)

/-- WHAT THE CONDITION GIVES THE WALKS: the one error's cell. -/
theorem of_laid {W : World} (h : laidMetH Tryd.prog laid1 W) : ∃ x : Addr, W.var? Tryd.prog errName = some #[.iface 203 (.pointer (some x))] ∧ W.cell? ⟨0, 0, none⟩ = some (.iface 203 (.pointer (some x))) ∧ 0 < W.heap.size := by
  rw [MakeChecks.laidMetH_plain _ _ _ (by kernel_rfl)] at h
  obtain ⟨x, s, hv, hc, _, _⟩ := laid_sentinel h gErr tErr Tryd.underlying93 nameErr Tryd.underlying203 Tryd.underlying230 rfl rfl Tryd.underlying9 (by kernel_rfl) (by kernel_rfl)
  have hcell : W.cell? ⟨0, 0, none⟩ = some (.iface 203 (.pointer (some x))) := by simpa using World.var?_cell gErr hv 0
  refine ⟨x, hv, hcell, ?_⟩
  rcases Nat.eq_zero_or_pos W.heap.size with h0 | h0
  · exfalso
    simp [World.cell?, Array.eq_empty_of_size_eq_zero h0] at hcell
  · exact h0

/-- The variable holds what it held, where nothing that was there has turned. -/
theorem var_kept {W W' : World} {x : Value} (hb : Below W.heap.size W W') (h0 : 0 < W.heap.size) (hv : W.var? Tryd.prog errName = some #[x]) : W'.var? Tryd.prog errName = some #[x] := by
  unfold World.var? at hv ⊢
  rw [gErr] at hv ⊢
  simp only [Option.bind_some] at hv ⊢
  rw [hb.block 0 h0]
  exact hv
end Go.Proofs.YtedanlmippfojaaDoor

namespace Go.Proofs.YtedanlmippfojaaDoor
open Go.ChangeShapes Go.WideShapes Go.ChangeAt Go.RowKit Go.Joins

theorem cells_byte : Tryd.prog.cellsOf 5 = 1 := by kernel_rfl

set_option maxRecDepth 100000 in
theorem open_bytes {H : Type} {enc : TypeId × Value → H} {w : World} {r : Reach} {b0 : Nat} {spare : Nat → Bool} {held : Bool} {v : Value} {d : DataW H} {p : List MemPlace}
    (hv : Value.okWide Tryd.prog w r b0 22 v) (h : DataW.Trod enc Tryd.prog w 0 spare held 22 v d p) :
    ∃ (q : Option Addr) (n cap : Nat), v = .slice q n cap ∧ n ≤ cap ∧ cap ≤ maxLen ∧ ArgBytes w q n := by
  obtain ⟨q, len, cap, rfl⟩ := okWide_slice Tryd.underlying22 hv
  obtain ⟨fuel, hf⟩ := h
  rcases open_ints Tryd.underlying22 Tryd.underlying5 cells_byte hf with ⟨hcs, _⟩ | ⟨a, len', cap', zs, hcs, _, hl, hm, hz, _, hcell, hwz⟩
  · simp [Value.cells] at hcs
    obtain ⟨rfl, rfl, rfl⟩ := hcs
    exact ⟨none, 0, 0, rfl, Nat.le_refl _, Nat.zero_le _, .inl rfl⟩
  · simp [Value.cells] at hcs
    obtain ⟨rfl, rfl, rfl⟩ := hcs
    refine ⟨some a, len, cap, rfl, hl, hm, ?_⟩
    have hlz : len ≤ zs.length := by rw [hz]; split <;> omega
    rcases Nat.eq_zero_or_pos len with h0 | h0
    · exact .inl h0
    obtain ⟨b, off, spot⟩ := a
    have hspot : spot = none := by simpa [Addr.add] using World.cell?_spot (hcell 0 (by omega))
    subst hspot
    refine .inr ⟨b, off, rfl, ?_, fun i hi => ?_⟩
    · have := World.block_lt_of_cell? w _ (hcell 0 (by omega))
      simpa [Addr.add_lit] using this
    · have hc := hcell i (by omega)
      rw [Addr.add_lit] at hc
      have hb := range_u8 hwz i
      exact ⟨zs.getD i 0, by simpa [List.getD] using hb.1, by simpa [List.getD] using hb.2, hc⟩

end Go.Proofs.YtedanlmippfojaaDoor

namespace Go.Proofs.YtedanlmippfojaaDoor
open Go.ChangeShapes Go.WideShapes Go.ChangeAt Go.RowKit Go.Joins

set_option maxRecDepth 100000 in
theorem liftedFnTakeCan (os : Os) (started : os.Started) (H : Type) (enc : TypeId × Value → H) :
    ReturnsInHanded {} Tryd.checked os 4 .any (fun w args => (Rows.fnTakeCanSpec.pre enc Tryd.prog Tryd.f4 [] false w args ∧ laidMetH Tryd.prog laid1 w) ∧ sizedMet enc Tryd.prog Tryd.f4 (OpenSpec.ofChange Rows.fnTakeCanSpec) false w args)
      (Rows.fnTakeCanSpec.post enc Tryd.prog Tryd.f4 false true false false) := by
  refine returnsInHanded_of_change_and (C := Tryd.checked) (X := fun w _ => laidMetH Tryd.prog laid1 w) (fun _ _ _ hh h => h.of_heap hh) own started (by kernel_rfl) Tryd.func4
    (ChangeSpec.witness_shaped (enc := enc) (C := Tryd.checked) (os := os) (X := fun w _ => laidMetH Tryd.prog laid1 w) false (World.doorLaid Tryd.prog 28 os) #[.slice none 0 0] 8 rfl (World.shaped_of_RefB (by kernel_rfl) (by kernel_rfl)) (by kernel_rfl) (by kernel_rfl) (by kernel_rfl) (door_met os _)) ?_
  intro W base args ds gs before hval0 hW _ _ hL _
  have hval : ∀ (j : Nat) t v, Tryd.f4.params[j]? = some t → args[j]? = some v → Value.okWide Tryd.prog W .any base t v := hval0
  have hW' := hW
  obtain ⟨p, q, hA0, hV0, rfl, hfz, hnd⟩ := hW
  have hA : DataW.TrodAll enc Tryd.prog W 0 (fun _ => true) true Tryd.f4.params.toList args.toList ds p := hA0
  have hV : DataW.TrodVars enc Tryd.prog W (fun _ => true) [errName] gs q := hV0
  rw [Tryd.params4] at hA hval
  obtain ⟨v0, d0, rfl, rfl, h0⟩ := trodAll_one hA
  have k0 := h0
  have lt0 : ∀ x ∈ p, x.block < W.heap.size := by obtain ⟨m, hm⟩ := k0; exact DataW.trod_lt m _ _ _ hm
  obtain ⟨x, hv, hc, hpos⟩ := of_laid hL
  obtain ⟨rfl, rfl⟩ := hV.unique (vars_read1 enc gErr tErr Tryd.underlying93 hv trivial _)
  obtain ⟨q0, n0, c0, rfl, hc0, hm0, ha0⟩ := open_bytes (hval 0 22 v0 rfl rfl) h0
  clear hA0 hV0 hval0
  refine (walkTakeCan W q0 n0 c0 ha0 hc0 hm0 x hc hpos).mono fun e W' ⟨he, bel⟩ => ?_
  subst he
  exact ⟨_, rfl, _, _, _, [], p, [.cell 0 0], hW', trodAll_mk1 (shut_bool Tryd.underlying4 _), trodAll_mk1 (Below.trod laidOut (by kernel_rfl) (of_decide_eq_true (by kernel_rfl)) k0 bel lt0), vars_read1 enc gErr tErr Tryd.underlying93 (var_kept bel hpos hv) trivial _, bel.frame _, fun h => by cases h⟩

theorem fnTakeCan_row : Rows.FnTakeCanSaid :=
  OpenClaim.holds_of_wide 4 Tryd.f4 rfl rfl rfl rfl rfl rfl rfl ⟨rfl, rfl, rfl, rfl, rfl⟩ rfl rfl rfl rfl rfl (by kernel_rfl) Tryd.func4 (by kernel_rfl)
    (of_decide_eq_true (by kernel_rfl)) (by unfold Func.isWrapper; first | (rw [if_pos (by decide +kernel)]; kernel_rfl) | (rw [if_neg (by decide +kernel)]; exact ⟨rfl, rfl⟩))
    (fun os started H enc _ => liftedFnTakeCan os started H enc)

/-- THE STATEMENT. -/
theorem fnTakeCan_holds : Rows.FnTakeCanCardSaid :=
  Claim7.holds_tied_plain_at .later [] Rows.fnTakeCanCard.laidKinds true Rows.fnTakeCanCard.stood.harness true
    fnTakeCan_row (fun _ h => by cases h) (by kernel_rfl) (fun _ h => by cases h) fnTakeCan_row_tie rfl ⟨rfl, rfl⟩ (by kernel_rfl) rfl
    (fun f fn hf hfn => by
      obtain rfl : f = 4 := Option.some.inj ((show Tryd.prog.funcNamed Rows.fnTakeCanRow.func = some 4 by kernel_rfl).symm.trans hf) |>.symm
      obtain rfl : fn = Tryd.f4 := (Option.some.inj (Tryd.func4.symm.trans hfn)).symm
      exact ⟨by kernel_rfl, fun j t ht => by
        rw [Tryd.params4] at ht
        have hm : t ∈ [22] := by simpa using Array.mem_of_getElem? ht
        have hall : ([22].all fun u => !Tryd.prog.wantsStandIn u) = true := by kernel_rfl
        exact (show Tryd.prog.wantsStandIn t = false by simpa using List.all_eq_true.1 hall t hm)⟩)
    (by kernel_rfl)
#print axioms fnTakeCan_holds
end Go.Proofs.YtedanlmippfojaaDoor
