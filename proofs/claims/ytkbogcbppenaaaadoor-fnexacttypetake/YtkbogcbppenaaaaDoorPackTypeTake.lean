/-
  PROVED: at every list of things, everybody and every place the program's TypeTake answers as the specification's does, and writes nothing into the list (the given card of FnExactTypeTake), for every input; the one listed variable, the program's error, reads as its own initialiser lays it.
-/
import Derived.Test.YtkbogcbppenaaaaDoorPackN
import Derived.Test.YtkbogcbppenaaaaDoorPackH
import Derived.Test.YtkbogcbppenaaaaDoorPackU
import Derived.Test.YtkbogcbppenaaaaDoorPackO
import Derived.Test.YtkbogcbppenaaaaDoorTie
import Derived.Test.YtkbogcbppenaaaaDoorCards
import Derived.SevenTiedAt
namespace Go.Proofs.YtkbogcbppenaaaaDoor
open Go.RowKit Go.Shelf
set_option linter.unusedSimpArgs false
set_option linter.unusedVariables false
attribute [local go_sem ↓] Go.wp_at_zero Go.wp_at_succ build_op0 build_opTake build_opPut

set_option maxRecDepth 100000 in
set_option maxHeartbeats 2000000 in
theorem takingAt_any (l : List Op7) (g cap : Nat) (r t : Int) (x : Addr) (w : World) (hl : OpsAt w g l) (hn : l.length ≤ 1048576) (hcap : l.length ≤ cap)
    (he : w.cell? ⟨0, 0, none⟩ = some (.iface 191 (.pointer (some x)))) (h0 : 0 < w.heap.size) :
    Calls Tryd.prog 77 #[.slice (some ⟨g, 0, none⟩) l.length cap, .int .i64 r, .int .i64 t] w fun e w' =>
      ((mayTake l r t = false ∧ e = .returned (.tuple #[.agg #[.int .i64 0, .int .i64 0, .int .i64 0, .int .i64 0, .int .i64 0, .int .i64 0, .int .i64 0], .iface 191 (.pointer (some x))])) ∨
       (mayTake l r t = true ∧ e = .returned (.tuple #[opV (takeO l r t.toNat), .nilIface]))) ∧ Below w.heap.size w w' := by
  have HL := hideIt hl
  have hgw := hl.1
  clear hl
  go_enter Tryd.func77, Tryd.ntmps77
  go_wp2_with fail
  have HRB := hideIt (RB.start w)
  refine (treeNext_any l g cap r x _ (HL.out.below HRB.out.bel hgw) hn hcap (errB HRB.out.bel h0 he) (posB HRB.out.bel h0)).mono ?_
  rintro e w1 ⟨(⟨hm, rfl⟩ | ⟨hm, b1, b2, b3, base, rfl, hT⟩), hb1⟩
  all_goals
    have HM := hideIt hm
    have HR1 := hideIt (HRB.out.below hb1)
    have hwl := HR1.out.lt
    clear hm hb1 HRB
  · have HA := hideIt (HR1.out.below (((Below.refl _ _).alloc (Nat.le_refl _) (.cells #[.map none, .map none, .map none] 86)).alloc (by simp) (.cells #[.int .i64 0, .int .i64 0] 30)))
    go_wp2_with (first | (refine wpList_store_row rfl 51 _ _ rfl w.heap.size _ rfl rfl 51 _ HA.out.box (by kernel_rfl) rfl (all7 _ _ _ _ _ _ _) ?_; have HST := hideIt (HA.out.stored 0 0 0 0 0 0 0); generalize World.setRow _ _ _ = W9 at *))
    obtain ⟨hb9, hbel9⟩ := HST.out
    have r0 := (blkCell hb9 0).trans rfl
    have r1 := (blkCell hb9 1).trans rfl
    have r2 := (blkCell hb9 2).trans rfl
    have r3 := (blkCell hb9 3).trans rfl
    have r4 := (blkCell hb9 4).trans rfl
    have r5 := (blkCell hb9 5).trans rfl
    have r6 := (blkCell hb9 6).trans rfl
    exact bodyPost_ret (v := .tuple #[.agg #[.int .i64 0, .int .i64 0, .int .i64 0, .int .i64 0, .int .i64 0, .int .i64 0, .int .i64 0], .iface 191 (.pointer (some x))]) (by simp [results, Tryd.results77, go_sem, r0, r1, r2, r3, r4, r5, r6]) rfl ⟨.inl ⟨by simp [mayTake, HM.out], rfl⟩, hbel9⟩
  · have HTT := hideIt hT
    have HOI : Hid (opsB l = true) := by
      have h := HM.out
      unfold mayMore at h
      simp only [Bool.and_eq_true] at h
      exact h.1.1
    clear hT
    generalize hcn : cnt l r + 1 = cn
    have HCN := hideIt hcn
    clear hcn
    go_wp2_with fail
    have HBa : Hid (Below w1.heap.size w1 ((w1.alloc (.cells #[.map (some b1), .map (some b2), .map (some b3)] 86)).alloc (.cells #[.int .i64 r, .int .i64 cn] 30))) := ((Below.refl _ _).alloc (Nat.le_refl _) _).alloc (by simp) _
    have HIa : Hid (((w1.alloc (.cells #[.map (some b1), .map (some b2), .map (some b3)] 86)).alloc (.cells #[.int .i64 r, .int .i64 cn] 30)).heap[w1.heap.size + 1]? = some (.cells #[.int .i64 r, .int .i64 cn] 30 (0, 0))) := by
      have h := World.alloc_heap_new (w1.alloc (.cells #[.map (some b1), .map (some b2), .map (some b3)] 86)) (.cells #[.int .i64 r, .int .i64 cn] 30)
      rw [World.size_alloc] at h
      exact h
    have HR2 := hideIt (HR1.out.below HBa.out)
    refine (callsIn_wide.1 (signAt_in l HOI.out hn w1 b1 b2 b3 base HTT.out 3 (Nat.le_refl _) t x _ HBa.out (errB HR2.out.bel h0 he) (posB HR2.out.bel h0))).mono ?_
    rintro e w3 ⟨(⟨k, j, y, hk, hj, hy, rfl⟩ | ⟨hno, rfl⟩), hb3⟩
    all_goals
      have HR3 := hideIt (HR2.out.below hb3)
      have HI3 := hideIt (blk_below HIa.out hb3)
      have hwl3 := HR3.out.lt
      have hil3 := (Array.getElem?_eq_some_iff.1 HI3.out).1
      have hdd : w1.heap.size + 1 ≠ w.heap.size := by omega
      clear hb3 HR2 HIa HBa
      generalize w1.heap.size + 1 = Bi at *
    · have HYES : Hid (mayTake l r t = true ∧ takeO l r t.toNat = ⟨r, cn, 2, y.a, y.b, 0, 0⟩) := by
        have hlt := (List.getElem?_eq_some_iff.1 hj).1
        subst hk
        refine ⟨?_, ?_⟩
        · simp [mayTake, HM.out, inB]
          omega
        · simp [takeO, takeId, hj, hy, HCN.out]
      clear hk hj hy
      generalize y.a = ya at *
      generalize y.b = yb at *
      have HA := hideIt (HR3.out.below ((Below.refl _ _).alloc (Nat.le_refl _) (.cells #[.int .i64 ya, .int .i64 yb] 30)))
      have d0 := (blk_cell HI3.out 0).trans rfl
      have d1 := (blk_cell HI3.out 1).trans rfl
      go_wp2_with (first | (refine wpList_store_row rfl 51 _ _ rfl w.heap.size _ rfl rfl 51 _ HA.out.box (by kernel_rfl) rfl (all7 _ _ _ _ _ _ _) ?_; have HST := hideIt (HA.out.stored r cn 2 ya yb 0 0); generalize World.setRow _ _ _ = W9 at *))
      obtain ⟨hb9, hbel9⟩ := HST.out
      have r0 := (blkCell hb9 0).trans rfl
      have r1 := (blkCell hb9 1).trans rfl
      have r2 := (blkCell hb9 2).trans rfl
      have r3 := (blkCell hb9 3).trans rfl
      have r4 := (blkCell hb9 4).trans rfl
      have r5 := (blkCell hb9 5).trans rfl
      have r6 := (blkCell hb9 6).trans rfl
      exact bodyPost_ret (v := .tuple #[.agg #[.int .i64 r, .int .i64 cn, .int .i64 2, .int .i64 ya, .int .i64 yb, .int .i64 0, .int .i64 0], .nilIface]) (by simp [results, Tryd.results77, go_sem, r0, r1, r2, r3, r4, r5, r6]) rfl ⟨.inr ⟨HYES.out.1, by rw [HYES.out.2]; rfl⟩, hbel9⟩
    · have HNO : Hid (mayTake l r t = false) := by show mayTake l r t = false; unfold mayTake; rw [hno]; simp
      clear hno
      have HA := hideIt (HR3.out.below ((Below.refl _ _).alloc (Nat.le_refl _) (.cells #[.int .i64 0, .int .i64 0] 30)))
      go_wp2_with (first | (refine wpList_store_row rfl 51 _ _ rfl w.heap.size _ rfl rfl 51 _ HA.out.box (by kernel_rfl) rfl (all7 _ _ _ _ _ _ _) ?_; have HST := hideIt (HA.out.stored 0 0 0 0 0 0 0); generalize World.setRow _ _ _ = W9 at *))
      obtain ⟨hb9, hbel9⟩ := HST.out
      have r0 := (blkCell hb9 0).trans rfl
      have r1 := (blkCell hb9 1).trans rfl
      have r2 := (blkCell hb9 2).trans rfl
      have r3 := (blkCell hb9 3).trans rfl
      have r4 := (blkCell hb9 4).trans rfl
      have r5 := (blkCell hb9 5).trans rfl
      have r6 := (blkCell hb9 6).trans rfl
      exact bodyPost_ret (v := .tuple #[.agg #[.int .i64 0, .int .i64 0, .int .i64 0, .int .i64 0, .int .i64 0, .int .i64 0, .int .i64 0], .iface 191 (.pointer (some x))]) (by simp [results, Tryd.results77, go_sem, r0, r1, r2, r3, r4, r5, r6]) rfl ⟨.inl ⟨HNO.out, rfl⟩, hbel9⟩
end Go.Proofs.YtkbogcbppenaaaaDoor

namespace Go.Proofs.YtkbogcbppenaaaaDoor
open Go.RowKit
/-- A thing stored whole into its new box. -/
theorem store_op_new (w : World) (a1 a2 a3 a4 a5 a6 a7 : Int) : (Instr.storeAt 51 (.pointer (some ⟨w.heap.size, 0, none⟩)) (.agg #[.int .i64 a1, .int .i64 a2, .int .i64 a3, .int .i64 a4, .int .i64 a5, .int .i64 a6, .int .i64 a7])).run Tryd.prog (w.alloc (.cells #[.int .i64 0, .int .i64 0, .int .i64 0, .int .i64 0, .int .i64 0, .int .i64 0, .int .i64 0] 51)) = .ok () (w.alloc (.cells #[.int .i64 a1, .int .i64 a2, .int .i64 a3, .int .i64 a4, .int .i64 a5, .int .i64 a6, .int .i64 a7] 51)) :=
  run_storeAt_new w 51 #[.int .i64 0, .int .i64 0, .int .i64 0, .int .i64 0, .int .i64 0, .int .i64 0, .int .i64 0] #[.int .i64 a1, .int .i64 a2, .int .i64 a3, .int .i64 a4, .int .i64 a5, .int .i64 a6, .int .i64 a7] (by kernel_rfl) rfl (by simp [Value.oneCell'])
end Go.Proofs.YtkbogcbppenaaaaDoor

namespace Go.Proofs.YtkbogcbppenaaaaDoor
open Go.RowKit Go.Shelf
set_option linter.unusedSimpArgs false
set_option linter.unusedVariables false
attribute [local go_sem ↓] Go.wp_at_zero Go.wp_at_succ build_op0 build_opTake build_opPut

/-- A box of a thing: what lies in it. -/
def S7 (M : Nat) (o : Op7) (W : World) : Prop := W.cell? ⟨M, 0, none⟩ = some (.int .i64 o.a) ∧ W.cell? ⟨M, 1, none⟩ = some (.int .i64 o.b) ∧ W.cell? ⟨M, 2, none⟩ = some (.int .i64 o.k) ∧ W.cell? ⟨M, 3, none⟩ = some (.int .i64 o.c) ∧ W.cell? ⟨M, 4, none⟩ = some (.int .i64 o.d) ∧ W.cell? ⟨M, 5, none⟩ = some (.int .i64 o.s) ∧ W.cell? ⟨M, 6, none⟩ = some (.int .i64 o.g)
theorem S7.of {M : Nat} {o : Op7} {W : World} (h : W.heap[M]? = some (.cells #[.int .i64 o.a, .int .i64 o.b, .int .i64 o.k, .int .i64 o.c, .int .i64 o.d, .int .i64 o.s, .int .i64 o.g] 51 (0, 0))) : S7 M o W :=
  ⟨(blk_cell h 0).trans rfl, (blk_cell h 1).trans rfl, (blk_cell h 2).trans rfl, (blk_cell h 3).trans rfl, (blk_cell h 4).trans rfl, (blk_cell h 5).trans rfl, (blk_cell h 6).trans rfl⟩

attribute [-go_sem] Instr.storeAt
attribute [local go_sem ↓] store_op_new
set_option maxRecDepth 100000 in
set_option maxHeartbeats 2000000 in
theorem implTake_any (l : List Op7) (g cap : Nat) (r t : Int) (x : Addr) (w : World) (hl : OpsAt w g l) (hn : l.length ≤ 1048576) (hcap : l.length ≤ cap)
    (he : w.cell? ⟨0, 0, none⟩ = some (.iface 191 (.pointer (some x)))) (h0 : 0 < w.heap.size) :
    Calls Tryd.prog 38 #[.slice (some ⟨g, 0, none⟩) l.length cap, .int .i64 r, .int .i64 t] w fun e w' =>
      ((mayTake l r t = false ∧ e = .returned (.tuple #[.agg #[.int .i64 0, .int .i64 0, .int .i64 0, .int .i64 0, .int .i64 0, .int .i64 0, .int .i64 0], .bool false])) ∨
       (mayTake l r t = true ∧ e = .returned (.tuple #[opV (takeO l r t.toNat), .bool true]))) ∧ Below w.heap.size w w' := by
  have HL := hideIt hl
  have hgw := hl.1
  clear hl
  go_enter Tryd.func38, Tryd.ntmps38
  go_wp2_with fail
  have HRB := hideIt (RB.start w)
  refine (takingAt_any l g cap r t x _ (HL.out.below HRB.out.bel hgw) hn hcap (errB HRB.out.bel h0 he) (posB HRB.out.bel h0)).mono ?_
  rintro e w1 ⟨(⟨hm, rfl⟩ | ⟨hm, rfl⟩), hb1⟩
  all_goals
    have HM := hideIt hm
    have HR1 := hideIt (HRB.out.below hb1)
    have hwl := HR1.out.lt
    clear hm hb1 HRB
  · go_wp2_with fail
    obtain ⟨Wm, hWm⟩ : ∃ Wm, w1.alloc (.cells #[.int .i64 0, .int .i64 0, .int .i64 0, .int .i64 0, .int .i64 0, .int .i64 0, .int .i64 0] 51) = Wm := ⟨_, rfl⟩
    have hbm : Below w1.heap.size w1 Wm := by rw [← hWm]; exact (Below.refl _ _).alloc (Nat.le_refl _) _
    have hmk : Wm.heap[w1.heap.size]? = some (.cells #[.int .i64 0, .int .i64 0, .int .i64 0, .int .i64 0, .int .i64 0, .int .i64 0, .int .i64 0] 51 (0, 0)) := by rw [← hWm]; exact World.alloc_heap_new _ _
    have HIM := hideIt (HR1.out.below hbm)
    have herrm : Wm.cell? ⟨0, 0, none⟩ = some (.iface 191 (.pointer (some x))) := errB HIM.out.bel h0 he
    rw [hWm]
    clear hWm hbm
    have m0 := (blk_cell hmk 0).trans rfl
    have m1 := (blk_cell hmk 1).trans rfl
    have m2 := (blk_cell hmk 2).trans rfl
    have m3 := (blk_cell hmk 3).trans rfl
    have m4 := (blk_cell hmk 4).trans rfl
    have m5 := (blk_cell hmk 5).trans rfl
    have m6 := (blk_cell hmk 6).trans rfl
    clear hmk
    generalize w1.heap.size = M at *
    have n1 : M ≠ w.heap.size := by omega
    have n2 : 0 ≠ w.heap.size := by omega
    have K1 : Hid (Wm.drew.cell? ⟨M, 0, none⟩ = some (.int .i64 0) ∧ Wm.drew.cell? ⟨M, 1, none⟩ = some (.int .i64 0) ∧ Wm.drew.cell? ⟨M, 2, none⟩ = some (.int .i64 0) ∧ Wm.drew.cell? ⟨M, 3, none⟩ = some (.int .i64 0) ∧ Wm.drew.cell? ⟨M, 4, none⟩ = some (.int .i64 0) ∧ Wm.drew.cell? ⟨M, 5, none⟩ = some (.int .i64 0) ∧ Wm.drew.cell? ⟨M, 6, none⟩ = some (.int .i64 0) ∧ Wm.drew.cell? ⟨0, 0, none⟩ = some (.iface 191 (.pointer (some x)))) := ⟨m0, m1, m2, m3, m4, m5, m6, herrm⟩
    have K9 : Hid ((Wm.drew.setRow w.heap.size #[.int .i64 0, .int .i64 0, .int .i64 0, .int .i64 0, .int .i64 0, .int .i64 0, .int .i64 0]).cell? ⟨M, 0, none⟩ = some (.int .i64 0) ∧ (Wm.drew.setRow w.heap.size #[.int .i64 0, .int .i64 0, .int .i64 0, .int .i64 0, .int .i64 0, .int .i64 0, .int .i64 0]).cell? ⟨M, 1, none⟩ = some (.int .i64 0) ∧ (Wm.drew.setRow w.heap.size #[.int .i64 0, .int .i64 0, .int .i64 0, .int .i64 0, .int .i64 0, .int .i64 0, .int .i64 0]).cell? ⟨M, 2, none⟩ = some (.int .i64 0) ∧ (Wm.drew.setRow w.heap.size #[.int .i64 0, .int .i64 0, .int .i64 0, .int .i64 0, .int .i64 0, .int .i64 0, .int .i64 0]).cell? ⟨M, 3, none⟩ = some (.int .i64 0) ∧ (Wm.drew.setRow w.heap.size #[.int .i64 0, .int .i64 0, .int .i64 0, .int .i64 0, .int .i64 0, .int .i64 0, .int .i64 0]).cell? ⟨M, 4, none⟩ = some (.int .i64 0) ∧ (Wm.drew.setRow w.heap.size #[.int .i64 0, .int .i64 0, .int .i64 0, .int .i64 0, .int .i64 0, .int .i64 0, .int .i64 0]).cell? ⟨M, 5, none⟩ = some (.int .i64 0) ∧ (Wm.drew.setRow w.heap.size #[.int .i64 0, .int .i64 0, .int .i64 0, .int .i64 0, .int .i64 0, .int .i64 0, .int .i64 0]).cell? ⟨M, 6, none⟩ = some (.int .i64 0) ∧ (Wm.drew.setRow w.heap.size #[.int .i64 0, .int .i64 0, .int .i64 0, .int .i64 0, .int .i64 0, .int .i64 0, .int .i64 0]).cell? ⟨0, 0, none⟩ = some (.iface 191 (.pointer (some x)))) := ⟨setRow_cell (W := Wm.drew) n1 m0, setRow_cell (W := Wm.drew) n1 m1, setRow_cell (W := Wm.drew) n1 m2, setRow_cell (W := Wm.drew) n1 m3, setRow_cell (W := Wm.drew) n1 m4, setRow_cell (W := Wm.drew) n1 m5, setRow_cell (W := Wm.drew) n1 m6, setRow_cell (W := Wm.drew) n2 herrm⟩
    have ks1 : (Instr.storeAt 51 (.pointer (some ⟨w.heap.size, 0, none⟩)) (.agg #[.int .i64 0, .int .i64 0, .int .i64 0, .int .i64 0, .int .i64 0, .int .i64 0, .int .i64 0])).run Tryd.prog Wm.drew = .ok () (Wm.drew.setRow w.heap.size #[.int .i64 0, .int .i64 0, .int .i64 0, .int .i64 0, .int .i64 0, .int .i64 0, .int .i64 0]) := store_op Wm.drew w.heap.size _ HIM.out.box rfl 0 0 0 0 0 0 0
    have HST := hideIt ((HIM.out.below ((Below.refl _ _).drew)).stored 0 0 0 0 0 0 0)
    clear m0 m1 m2 m3 m4 m5 m6
    go_region_held3 (fun w' => w'.cell? ⟨M, 0, none⟩ = some (.int .i64 0) ∧ w'.cell? ⟨M, 1, none⟩ = some (.int .i64 0) ∧ w'.cell? ⟨M, 2, none⟩ = some (.int .i64 0) ∧ w'.cell? ⟨M, 3, none⟩ = some (.int .i64 0) ∧ w'.cell? ⟨M, 4, none⟩ = some (.int .i64 0) ∧ w'.cell? ⟨M, 5, none⟩ = some (.int .i64 0) ∧ w'.cell? ⟨M, 6, none⟩ = some (.int .i64 0) ∧ w'.cell? ⟨0, 0, none⟩ = some (.iface 191 (.pointer (some x))))
      (first | with_reducible exact K1.out | with_reducible exact K9.out)
      (first | (go_at_call 59; refine (is_same x _).mono ?_; rintro e w'' ⟨rfl, rfl⟩))
    rename_i hHH
    clear hHH K9 K1 ks1
    generalize World.setRow _ _ _ = W9 at *
    go_wp2
    obtain ⟨hb9, hbel9⟩ := HST.out
    have r0 := (blkCell hb9 0).trans rfl
    have r1 := (blkCell hb9 1).trans rfl
    have r2 := (blkCell hb9 2).trans rfl
    have r3 := (blkCell hb9 3).trans rfl
    have r4 := (blkCell hb9 4).trans rfl
    have r5 := (blkCell hb9 5).trans rfl
    have r6 := (blkCell hb9 6).trans rfl
    exact bodyPost_ret (v := .tuple #[.agg #[.int .i64 0, .int .i64 0, .int .i64 0, .int .i64 0, .int .i64 0, .int .i64 0, .int .i64 0], .bool false]) (by simp [results, Tryd.results38, go_sem, r0, r1, r2, r3, r4, r5, r6]) rfl ⟨.inl ⟨HM.out, rfl⟩, hbel9⟩
  · obtain ⟨oa, ob, ok, oc, od, os, og, ho⟩ : ∃ oa ob ok oc od os og, takeO l r t.toNat = ⟨oa, ob, ok, oc, od, os, og⟩ := ⟨_, _, _, _, _, _, _, rfl⟩
    have HOO := hideIt ho
    rw [ho]
    clear ho
    unfold opV
    dsimp only
    go_wp2_with fail
    obtain ⟨Wm, hWm⟩ : ∃ Wm, w1.alloc (.cells #[.int .i64 oa, .int .i64 ob, .int .i64 ok, .int .i64 oc, .int .i64 od, .int .i64 os, .int .i64 og] 51) = Wm := ⟨_, rfl⟩
    have hbm : Below w1.heap.size w1 Wm := by rw [← hWm]; exact (Below.refl _ _).alloc (Nat.le_refl _) _
    have hmk : Wm.heap[w1.heap.size]? = some (.cells #[.int .i64 oa, .int .i64 ob, .int .i64 ok, .int .i64 oc, .int .i64 od, .int .i64 os, .int .i64 og] 51 (0, 0)) := by rw [← hWm]; exact World.alloc_heap_new _ _
    have HIM := hideIt (HR1.out.below hbm)
    have herrm : Wm.cell? ⟨0, 0, none⟩ = some (.iface 191 (.pointer (some x))) := errB HIM.out.bel h0 he
    rw [hWm]
    clear hWm hbm
    have m0 := (blk_cell hmk 0).trans rfl
    have m1 := (blk_cell hmk 1).trans rfl
    have m2 := (blk_cell hmk 2).trans rfl
    have m3 := (blk_cell hmk 3).trans rfl
    have m4 := (blk_cell hmk 4).trans rfl
    have m5 := (blk_cell hmk 5).trans rfl
    have m6 := (blk_cell hmk 6).trans rfl
    clear hmk
    generalize w1.heap.size = M at *
    have n1 : M ≠ w.heap.size := by omega
    have n2 : 0 ≠ w.heap.size := by omega
    have K1 : Hid (Wm.drew.cell? ⟨M, 0, none⟩ = some (.int .i64 oa) ∧ Wm.drew.cell? ⟨M, 1, none⟩ = some (.int .i64 ob) ∧ Wm.drew.cell? ⟨M, 2, none⟩ = some (.int .i64 ok) ∧ Wm.drew.cell? ⟨M, 3, none⟩ = some (.int .i64 oc) ∧ Wm.drew.cell? ⟨M, 4, none⟩ = some (.int .i64 od) ∧ Wm.drew.cell? ⟨M, 5, none⟩ = some (.int .i64 os) ∧ Wm.drew.cell? ⟨M, 6, none⟩ = some (.int .i64 og) ∧ Wm.drew.cell? ⟨0, 0, none⟩ = some (.iface 191 (.pointer (some x)))) := ⟨m0, m1, m2, m3, m4, m5, m6, herrm⟩
    have K9 : Hid ((Wm.drew.setRow w.heap.size #[.int .i64 oa, .int .i64 ob, .int .i64 ok, .int .i64 oc, .int .i64 od, .int .i64 os, .int .i64 og]).cell? ⟨M, 0, none⟩ = some (.int .i64 oa) ∧ (Wm.drew.setRow w.heap.size #[.int .i64 oa, .int .i64 ob, .int .i64 ok, .int .i64 oc, .int .i64 od, .int .i64 os, .int .i64 og]).cell? ⟨M, 1, none⟩ = some (.int .i64 ob) ∧ (Wm.drew.setRow w.heap.size #[.int .i64 oa, .int .i64 ob, .int .i64 ok, .int .i64 oc, .int .i64 od, .int .i64 os, .int .i64 og]).cell? ⟨M, 2, none⟩ = some (.int .i64 ok) ∧ (Wm.drew.setRow w.heap.size #[.int .i64 oa, .int .i64 ob, .int .i64 ok, .int .i64 oc, .int .i64 od, .int .i64 os, .int .i64 og]).cell? ⟨M, 3, none⟩ = some (.int .i64 oc) ∧ (Wm.drew.setRow w.heap.size #[.int .i64 oa, .int .i64 ob, .int .i64 ok, .int .i64 oc, .int .i64 od, .int .i64 os, .int .i64 og]).cell? ⟨M, 4, none⟩ = some (.int .i64 od) ∧ (Wm.drew.setRow w.heap.size #[.int .i64 oa, .int .i64 ob, .int .i64 ok, .int .i64 oc, .int .i64 od, .int .i64 os, .int .i64 og]).cell? ⟨M, 5, none⟩ = some (.int .i64 os) ∧ (Wm.drew.setRow w.heap.size #[.int .i64 oa, .int .i64 ob, .int .i64 ok, .int .i64 oc, .int .i64 od, .int .i64 os, .int .i64 og]).cell? ⟨M, 6, none⟩ = some (.int .i64 og) ∧ (Wm.drew.setRow w.heap.size #[.int .i64 oa, .int .i64 ob, .int .i64 ok, .int .i64 oc, .int .i64 od, .int .i64 os, .int .i64 og]).cell? ⟨0, 0, none⟩ = some (.iface 191 (.pointer (some x)))) := ⟨setRow_cell (W := Wm.drew) n1 m0, setRow_cell (W := Wm.drew) n1 m1, setRow_cell (W := Wm.drew) n1 m2, setRow_cell (W := Wm.drew) n1 m3, setRow_cell (W := Wm.drew) n1 m4, setRow_cell (W := Wm.drew) n1 m5, setRow_cell (W := Wm.drew) n1 m6, setRow_cell (W := Wm.drew) n2 herrm⟩
    have ks1 : (Instr.storeAt 51 (.pointer (some ⟨w.heap.size, 0, none⟩)) (.agg #[.int .i64 oa, .int .i64 ob, .int .i64 ok, .int .i64 oc, .int .i64 od, .int .i64 os, .int .i64 og])).run Tryd.prog Wm.drew = .ok () (Wm.drew.setRow w.heap.size #[.int .i64 oa, .int .i64 ob, .int .i64 ok, .int .i64 oc, .int .i64 od, .int .i64 os, .int .i64 og]) := store_op Wm.drew w.heap.size _ HIM.out.box rfl oa ob ok oc od os og
    have HST := hideIt ((HIM.out.below ((Below.refl _ _).drew)).stored oa ob ok oc od os og)
    clear m0 m1 m2 m3 m4 m5 m6
    go_region_held3 (fun w' => w'.cell? ⟨M, 0, none⟩ = some (.int .i64 oa) ∧ w'.cell? ⟨M, 1, none⟩ = some (.int .i64 ob) ∧ w'.cell? ⟨M, 2, none⟩ = some (.int .i64 ok) ∧ w'.cell? ⟨M, 3, none⟩ = some (.int .i64 oc) ∧ w'.cell? ⟨M, 4, none⟩ = some (.int .i64 od) ∧ w'.cell? ⟨M, 5, none⟩ = some (.int .i64 os) ∧ w'.cell? ⟨M, 6, none⟩ = some (.int .i64 og) ∧ w'.cell? ⟨0, 0, none⟩ = some (.iface 191 (.pointer (some x))))
      (first | with_reducible exact K1.out | with_reducible exact K9.out)
      (first | (go_at_call 59; refine (is_nil x _).mono ?_; rintro e w'' ⟨rfl, rfl⟩))
    rename_i hHH
    clear hHH K9 K1 ks1
    generalize World.setRow _ _ _ = W9 at *
    go_wp2
    obtain ⟨hb9, hbel9⟩ := HST.out
    have r0 := (blkCell hb9 0).trans rfl
    have r1 := (blkCell hb9 1).trans rfl
    have r2 := (blkCell hb9 2).trans rfl
    have r3 := (blkCell hb9 3).trans rfl
    have r4 := (blkCell hb9 4).trans rfl
    have r5 := (blkCell hb9 5).trans rfl
    have r6 := (blkCell hb9 6).trans rfl
    exact bodyPost_ret (v := .tuple #[.agg #[.int .i64 oa, .int .i64 ob, .int .i64 ok, .int .i64 oc, .int .i64 od, .int .i64 os, .int .i64 og], .bool true]) (by simp [results, Tryd.results38, go_sem, r0, r1, r2, r3, r4, r5, r6]) rfl ⟨.inr ⟨HM.out, by rw [HOO.out]; rfl⟩, hbel9⟩
end Go.Proofs.YtkbogcbppenaaaaDoor

namespace Go.Proofs.YtkbogcbppenaaaaDoor
open Go.RowKit
set_option linter.unusedSimpArgs false
set_option linter.unusedVariables false
attribute [local go_sem ↓] Go.wp_at_zero Go.wp_at_succ

/-- What both answer. -/
def takeA (l : List Op7) (r t : Int) : Op7 := if mayTake l r t = true then takeO l r t.toNat else ⟨0, 0, 0, 0, 0, 0, 0⟩
theorem takeA_of {l : List Op7} {r t : Int} {e : Ending} (h : (mayTake l r t = false ∧ e = .returned (.tuple #[.agg #[.int .i64 0, .int .i64 0, .int .i64 0, .int .i64 0, .int .i64 0, .int .i64 0, .int .i64 0], .bool false])) ∨ (mayTake l r t = true ∧ e = .returned (.tuple #[opV (takeO l r t.toNat), .bool true]))) : e = .returned (.tuple #[opV (takeA l r t), .bool (mayTake l r t)]) := by
  rcases h with ⟨h1, h2⟩ | ⟨h1, h2⟩
  · rw [h2]; unfold takeA; rw [h1]; rfl
  · rw [h2]; unfold takeA; rw [h1]; rfl
/-- A box with a thing in it, in memory that has grown. -/
structure OX (b : Nat) (o : Op7) (w W : World) : Prop where
  box : W.heap[b]? = some (.cells #[.int .i64 o.a, .int .i64 o.b, .int .i64 o.k, .int .i64 o.c, .int .i64 o.d, .int .i64 o.s, .int .i64 o.g] 51 (0, 0))
  bel : Below w.heap.size w W
theorem OX.below {b : Nat} {o : Op7} {w W W' : World} (h : OX b o w W) (hb : Below W.heap.size W W') : OX b o w W' := ⟨blk_below h.box hb, Bstep h.bel hb⟩

attribute [-go_sem] Instr.storeAt
attribute [local go_sem ↓] store_op_new
set_option maxRecDepth 100000 in
set_option maxHeartbeats 2000000 in
theorem walkTypeTake (l : List Op7) (p : Option Addr) (cap : Nat) (r t : Int) (x : Addr) (w : World) (hl : ArgOps w p l) (hcap : l.length ≤ cap) (hmax : cap ≤ maxLen)
    (he : w.cell? ⟨0, 0, none⟩ = some (.iface 191 (.pointer (some x)))) (h0 : 0 < w.heap.size) (hwr : wf64 r) (hwt : wf64 t) :
    Calls Tryd.prog 9 #[.slice p l.length cap, .int .i64 r, .int .i64 t] w fun e w' => e = .returned (.bool true) ∧ Below w.heap.size w w' := by
  have HA := hideIt hl
  clear hl
  by_cases hn : l.length ≤ 1048576
  · go_enter Tryd.func9, Tryd.ntmps9
    go_wp2_with (first | (go_at_call 15; refine (sz_small _ _ _ _ hn).mono ?_; rintro e w' ⟨rfl, hw'⟩; rw [hw']; clear hw'))
    refine (toOpS_any l p cap _ HA.out hn hcap).mono ?_
    rintro e w1 ⟨rfl, hA1, hB1⟩
    have HA1 := hideIt hA1
    have HB1 := hideIt hB1
    clear hA1 hB1
    obtain ⟨o, ho⟩ : ∃ o, takeA l r t = o := ⟨_, rfl⟩
    obtain ⟨zz, hzz⟩ : ∃ zz, mayTake l r t = zz := ⟨_, rfl⟩
    have HO := hideIt ho
    have HZ := hideIt hzz
    clear ho hzz
    go_wp2_with fail
    refine (typeTake_any l _ _ _ _ _ HA1.out hn (Nat.le_refl _)).mono ?_
    rintro e w2 ⟨hd, hB2⟩
    have hE := takeA_of hd
    rw [HO.out, HZ.out] at hE
    subst hE
    unfold opV
    have HB2 := hideIt (Bstep HB1.out hB2)
    clear hB2 HA1 HB1 hd
    go_wp2_with fail
    have HX2 : Hid (OX w2.heap.size o w (w2.alloc (.cells #[.int .i64 o.a, .int .i64 o.b, .int .i64 o.k, .int .i64 o.c, .int .i64 o.d, .int .i64 o.s, .int .i64 o.g] 51))) := ⟨World.alloc_heap_new _ _, HB2.out.alloc HB2.out.size _⟩
    refine (toOpS_any l p cap _ (HA.out.below HX2.out.bel) hn hcap).mono ?_
    rintro e w4 ⟨rfl, hA4, hB4⟩
    have HA4 : Hid (OpsAt w4 (w2.heap.size + 1) l) := (by have h := hA4; simp only [World.size_alloc] at h; exact h)
    have HX4 := hideIt (HX2.out.below hB4)
    clear hA4 hB4 HX2
    go_wp2_with fail
    refine (implTake_any l _ _ _ _ x _ HA4.out hn (Nat.le_refl _) (errB HX4.out.bel h0 he) (posB HX4.out.bel h0)).mono ?_
    rintro e w6 ⟨hd, hB6⟩
    have hE := takeA_of hd
    rw [HO.out, HZ.out] at hE
    subst hE
    unfold opV
    have HA6 := hideIt (HA4.out.below hB6 HA4.out.1)
    have HX6 := hideIt (HX4.out.below hB6)
    have i0 := (blk_cell HX6.out.box 0).trans rfl
    have i1 := (blk_cell HX6.out.box 1).trans rfl
    have i2 := (blk_cell HX6.out.box 2).trans rfl
    have i3 := (blk_cell HX6.out.box 3).trans rfl
    have i4 := (blk_cell HX6.out.box 4).trans rfl
    have i5 := (blk_cell HX6.out.box 5).trans rfl
    have i6 := (blk_cell HX6.out.box 6).trans rfl
    have hbl := (Array.getElem?_eq_some_iff.1 HX6.out.box).1
    have HY6 : Hid (OX w6.heap.size o w (w6.alloc (.cells #[.int .i64 o.a, .int .i64 o.b, .int .i64 o.k, .int .i64 o.c, .int .i64 o.d, .int .i64 o.s, .int .i64 o.g] 51))) := ⟨World.alloc_heap_new _ _, HX6.out.bel.alloc HX6.out.bel.size _⟩
    have HA7 := hideIt (HA6.out.below ((Below.refl _ _).alloc (Nat.le_refl _) (.cells #[.int .i64 o.a, .int .i64 o.b, .int .i64 o.k, .int .i64 o.c, .int .i64 o.d, .int .i64 o.s, .int .i64 o.g] 51)) HA6.out.1)
    clear hB6 HA4 HX4 HA6 hd
    go_wp2_with fail
    refine (eqOp_same _ _ _ _ _ _ _ _).mono ?_
    rintro e w7 ⟨rfl, hB7⟩
    have HB7 := hideIt (Bstep HY6.out.bel hB7)
    have HA8 := hideIt (HA7.out.below hB7 HA7.out.1)
    clear hB7 HA7 HY6 HX6 i0 i1 i2 i3 i4 i5 i6 hbl
    go_wp2_with fail
    refine (toOpS_any l p cap _ (HA.out.below HB7.out) hn hcap).mono ?_
    rintro e w8 ⟨rfl, hA9, hB8⟩
    have HA89 := hideIt (HA8.out.below hB8 HA8.out.1)
    have HA9 := hideIt hA9
    have HB8 := hideIt (Bstep HB7.out hB8)
    clear hA9 hB8
    go_wp2_with fail
    refine (eqOpS_same l _ _ _ _ _ HA89.out HA9.out hn (Nat.le_refl _) (Nat.le_refl _)).mono ?_
    rintro e w9 ⟨rfl, hB9⟩
    have HB9 := hideIt (Bstep HB8.out hB9)
    clear hB9
    go_wp2
    go_ret
    exact ⟨rfl, HB9.out⟩
  · go_enter Tryd.func9, Tryd.ntmps9
    go_wp2_with (first | (go_at_call 15; refine (sz_big _ _ _ _ (by omega) (by omega)).mono ?_; rintro e w' ⟨rfl, rfl⟩))
    go_ret
    exact ⟨rfl, Below.refl _ _⟩
end Go.Proofs.YtkbogcbppenaaaaDoor

namespace Go.Proofs.YtkbogcbppenaaaaDoor
open Go.ChangeShapes Go.WideShapes Go.ChangeAt Go.RowKit Go.Joins

set_option maxRecDepth 100000 in
theorem fnExactTypeTake_lifted (os : Os) (started : os.Started) (H : Type) (enc : TypeId × Value → H) :
    ReturnsInHanded {} Tryd.checked os 9 .any (fun w args => (Rows.fnExactTypeTakeSpec.pre enc Tryd.prog Tryd.f9 [] false w args ∧ laidMetH Tryd.prog laid1 w) ∧ sizedMet enc Tryd.prog Tryd.f9 (OpenSpec.ofChange Rows.fnExactTypeTakeSpec) false w args)
      (Rows.fnExactTypeTakeSpec.post enc Tryd.prog Tryd.f9 false true false false) := by
  refine returnsInHanded_of_change_and (C := Tryd.checked) (X := fun w _ => laidMetH Tryd.prog laid1 w) (fun _ _ _ hh h => h.of_heap hh) own started (by kernel_rfl) Tryd.func9
    (ChangeSpec.witness_shaped (enc := enc) (C := Tryd.checked) (os := os) (X := fun w _ => laidMetH Tryd.prog laid1 w) false (World.doorLaid Tryd.prog 28 os) #[.slice none 0 0, .int .i64 0, .int .i64 0] 8 rfl (World.shaped_of_RefB (by kernel_rfl) (by kernel_rfl)) (by kernel_rfl) (by kernel_rfl) (by kernel_rfl) (door_met os _)) ?_
  intro W base args ds gs before hval0 hW _ _ hL _
  have hval : ∀ (j : Nat) t v, Tryd.f9.params[j]? = some t → args[j]? = some v → Value.okWide Tryd.prog W .any base t v := hval0
  have hW' := hW
  obtain ⟨p, q, hA0, hV0, rfl, hfz, hnd⟩ := hW
  have hA : DataW.TrodAll enc Tryd.prog W 0 (fun _ => true) true Tryd.f9.params.toList args.toList ds p := hA0
  have hV : DataW.TrodVars enc Tryd.prog W (fun _ => true) [errName] gs q := hV0
  rw [Tryd.params9] at hA hval
  obtain ⟨v0, v1, v2, d0, d1, d2, p0, p1, p2, rfl, rfl, rfl, h0, h1, h2⟩ := trodAll_three hA
  have kk0 := h0
  have lt0 : ∀ x ∈ p0, x.block < W.heap.size := by obtain ⟨m, hm⟩ := kk0; exact DataW.trod_lt m _ _ _ hm
  have kk1 := h1
  have lt1 : ∀ x ∈ p1, x.block < W.heap.size := by obtain ⟨m, hm⟩ := kk1; exact DataW.trod_lt m _ _ _ hm
  have kk2 := h2
  have lt2 : ∀ x ∈ p2, x.block < W.heap.size := by obtain ⟨m, hm⟩ := kk2; exact DataW.trod_lt m _ _ _ hm
  obtain ⟨x, hv, hc, hpos⟩ := of_laid hL
  obtain ⟨rfl, rfl⟩ := hV.unique (vars_read1 enc gErr tErr Tryd.underlying88 hv trivial _)
  obtain ⟨pa0, l0, cap0, rfl, hcap0, hmax0, hargs0⟩ := open_ops (hval 0 22 v0 rfl rfl) h0
  obtain ⟨n1, rfl, wn1⟩ := open_int (hval 1 3 v1 rfl rfl) h1
  obtain ⟨n2, rfl, wn2⟩ := open_int (hval 2 3 v2 rfl rfl) h2
  clear hA0 hV0 hval0
  refine (walkTypeTake l0 pa0 cap0 n1 n2 x W hargs0 hcap0 hmax0 hc hpos wn1 wn2).mono fun e W' ⟨he, bel⟩ => ?_
  subst he
  exact ⟨_, rfl, _, _, _, [], _, [.cell 0 0], hW', trodAll_mk1 (shut_bool Tryd.underlying4 _), (trodAll_cons_mk (Below.trod laidOut (by kernel_rfl) (of_decide_eq_true (by kernel_rfl)) kk0 bel lt0) (trodAll_cons_mk (Below.trod laidOut (by kernel_rfl) (of_decide_eq_true (by kernel_rfl)) kk1 bel lt1) (trodAll_cons_mk (Below.trod laidOut (by kernel_rfl) (of_decide_eq_true (by kernel_rfl)) kk2 bel lt2) trodAll_mk0))), vars_read1 enc gErr tErr Tryd.underlying88 (var_kept bel hpos hv) trivial _, bel.frame _, fun h => by cases h⟩

theorem fnExactTypeTake_row : Rows.FnExactTypeTakeSaid :=
  OpenClaim.holds_of_wide 9 Tryd.f9 rfl rfl rfl rfl rfl rfl rfl ⟨rfl, rfl, rfl, rfl, rfl⟩ rfl rfl rfl rfl rfl (by kernel_rfl) Tryd.func9 (by kernel_rfl)
    (of_decide_eq_true (by kernel_rfl)) (by unfold Func.isWrapper; first | (rw [if_pos (by decide +kernel)]; kernel_rfl) | (rw [if_neg (by decide +kernel)]; exact ⟨rfl, rfl⟩))
    (fun os started H enc _ => fnExactTypeTake_lifted os started H enc)

/-- THE STATEMENT. -/
theorem fnExactTypeTake_holds : Rows.FnExactTypeTakeCardSaid :=
  Claim7.holds_tied_plain_at .later [] Rows.fnExactTypeTakeCard.laidKinds true Rows.fnExactTypeTakeCard.stood.harness true
    fnExactTypeTake_row (fun _ h => by cases h) (by kernel_rfl) (fun _ h => by cases h) fnExactTypeTake_row_tie rfl ⟨rfl, rfl⟩ (by kernel_rfl) rfl
    (fun f fn hf hfn => by
      obtain rfl : f = 9 := Option.some.inj ((show Tryd.prog.funcNamed Rows.fnExactTypeTakeRow.func = some 9 by kernel_rfl).symm.trans hf) |>.symm
      obtain rfl : fn = Tryd.f9 := (Option.some.inj (Tryd.func9.symm.trans hfn)).symm
      exact ⟨by kernel_rfl, fun j t ht => by
        rw [Tryd.params9] at ht
        have hm : t ∈ [22, 3] := by simpa using Array.mem_of_getElem? ht
        have hall : ([22, 3].all fun u => !Tryd.prog.wantsStandIn u) = true := by kernel_rfl
        exact (show Tryd.prog.wantsStandIn t = false by simpa using List.all_eq_true.1 hall t hm)⟩)
    (by kernel_rfl)
#print axioms fnExactTypeTake_holds
end Go.Proofs.YtkbogcbppenaaaaDoor
