/-
  PROVED: what was put on one side of a sign stands by who did it, in the order of ids and in the order of leaves, and each is a sign that was put there (the given card of FnKidsOrder), for every input; the one listed variable, the program's error, reads as its own initialiser lays it.
-/
import Derived.Test.YtedanlmippfojaaDoorP3
import Derived.Test.YtedanlmippfojaaDoorP1
import Derived.Test.YtedanlmippfojaaDoorP5
import Derived.Test.YtedanlmippfojaaDoorP4
import Derived.Test.YtedanlmippfojaaDoorRows
import Derived.WalkKit
import Derived.ProofKit
import Derived.OpenShut
import Derived.ChangeOld
import Derived.Below
import Derived.Lib.SmallJoins
import Derived.Stop.LaidErr
import Derived.LaidMore
import Derived.Stop.Joined
import Derived.Test.YtedanlmippfojaaDoorP2
import Derived.ChangeSlices
import Derived.Test.YtedanlmippfojaaDoorTie
import Derived.Test.YtedanlmippfojaaDoorCards
import Derived.SevenTiedAt
namespace Go.Proofs.YtedanlmippfojaaDoor
open Go.RowKit
set_option linter.unusedSimpArgs false
set_option linter.unusedVariables false
attribute [local go_sem ↓] Go.wp_at_zero Go.wp_at_succ

/-- An id of a thing, or a small one. -/
def IdIn (L : List Op7) (r m : Int) : Prop := (∃ o ∈ L, o.a = r ∧ o.b = m) ∨ (-2 ≤ r ∧ r ≤ 20 ∧ -2 ≤ m ∧ m ≤ 20)

set_option maxRecDepth 100000 in
set_option maxHeartbeats 1000000 in
theorem l71SomeL_any (w : World) (q : Nat) (p : Option Addr) (n cap k base G c : Nat) (L : List Op7) (hm : L.length ≤ 74) (h : RdAt w q p n cap k) (hk : k ≤ 100000) (hs : OwnOps w base G c L) (hq : q < base) (hqw : q < w.heap.size) :
    Calls Tryd.prog 83 #[.pointer (some ⟨q, 0, none⟩), .slice (some ⟨G, 0, none⟩) L.length c] w fun e w' => (∃ r m : Int, IdIn L r m ∧ e = .returned (.agg #[.int .i64 r, .int .i64 m])) ∧ (∃ k', k' ≤ k + 4 ∧ RdAt w' q p n cap k') ∧ OnlyQ q w w' := by
  have H := hideIt h
  have HS := hideIt hs
  clear h hs
  have hne : ¬ w.heap.size = q := by omega
  have hne' : ¬ q = w.heap.size := by omega
  by_cases h0 : L.length = 0
  · have h0' : (L.length : Int) = 0 := by omega
    go_enter Tryd.func83, Tryd.ntmps83
    go_wp2_with fail
    refine (l71Id_small _ q p n cap k (H.out.alloc _) (by omega)).mono ?_
    rintro e w9 ⟨⟨a, b, hsm, rfl⟩, ⟨k9, hk9, hR9⟩, hO8⟩
    have s0 : w9.cell? ⟨w.heap.size, 0, none⟩ = some (.int .i64 0) := by rw [hO8.cell _ _ (by simp) (by omega)]; simp [go_sem]
    have s1 : w9.cell? ⟨w.heap.size, 1, none⟩ = some (.int .i64 0) := by rw [hO8.cell _ _ (by simp) (by omega)]; simp [go_sem]
    have sf : ∀ j, w9.frozen? ⟨w.heap.size, j, none⟩ = false := fun j => by rw [hO8.frozen _ _ (by simp) (by omega)]; simp [go_sem]
    have HR9 := hideIt hR9
    have HO9 := hideIt (((OnlyQ.refl q w).alloc hqw _).trans hO8)
    clear hR9 hO8
    go_wp2
    have hO9 := (HO9.out.set hqw (g := w.heap.size) (Nat.le_refl _) 0 (.int .i64 a)).set hqw (g := w.heap.size) (Nat.le_refl _) 1 (.int .i64 b)
    exact bodyPost_ret (v := .agg #[.int .i64 a, .int .i64 b]) (by simp [results, Tryd.results83, go_sem, s0, s1]) rfl ⟨⟨_, _, .inr hsm, rfl⟩, ⟨k9, by omega, H.out.fin HR9.out hO9 (fun o => by simp [go_sem, hne, hne']) (fun o => by simp)⟩, hO9⟩
  · go_enter Tryd.func83, Tryd.ntmps83
    go_wp2_with fail
    refine (pick_any _ q p n cap k 6 (H.out.alloc _) (by omega) (by omega) (by omega)).mono ?_
    rintro e w1 ⟨⟨x, hx0, hx1, rfl⟩, hR1, hO1⟩
    have r0 : w1.cell? ⟨w.heap.size, 0, none⟩ = some (.int .i64 0) := by rw [hO1.cell _ _ (by simp) (by omega)]; simp [go_sem]
    have r1 : w1.cell? ⟨w.heap.size, 1, none⟩ = some (.int .i64 0) := by rw [hO1.cell _ _ (by simp) (by omega)]; simp [go_sem]
    have rf : ∀ j, w1.frozen? ⟨w.heap.size, j, none⟩ = false := fun j => by rw [hO1.frozen _ _ (by simp) (by omega)]; simp [go_sem]
    have hs1 : w.heap.size < w1.heap.size := by have := hO1.size; simp at this; omega
    have HS1 := hideIt ((HS.out.below ((Below.refl _ _).alloc (Nat.le_refl _) _)).only hO1 (by have := HS.out.lt.1; omega))
    have HR1 := hideIt hR1
    have HO1 := hideIt (((OnlyQ.refl q w).alloc hqw _).trans hO1)
    clear hR1 hO1
    by_cases hz : x = 0
    · subst hz
      go_wp2_with fail
      refine (l71Id_small _ q p n cap (k + 1) HR1.out (by omega)).mono ?_
      rintro e w9 ⟨⟨a, b, hsm, rfl⟩, ⟨k9, hk9, hR9⟩, hO8⟩
      have s0 : w9.cell? ⟨w.heap.size, 0, none⟩ = some (.int .i64 0) := by rw [hO8.cell _ _ (by omega) (by omega)]; exact r0
      have s1 : w9.cell? ⟨w.heap.size, 1, none⟩ = some (.int .i64 0) := by rw [hO8.cell _ _ (by omega) (by omega)]; exact r1
      have sf : ∀ j, w9.frozen? ⟨w.heap.size, j, none⟩ = false := fun j => by rw [hO8.frozen _ _ (by omega) (by omega)]; exact rf j
      have HR9 := hideIt hR9
      have HO9 := hideIt (HO1.out.trans hO8)
      clear hR9 hO8
      go_wp2
      have hO9 := (HO9.out.set hqw (g := w.heap.size) (Nat.le_refl _) 0 (.int .i64 a)).set hqw (g := w.heap.size) (Nat.le_refl _) 1 (.int .i64 b)
      exact bodyPost_ret (v := .agg #[.int .i64 a, .int .i64 b]) (by simp [results, Tryd.results83, go_sem, s0, s1]) rfl ⟨⟨_, _, .inr hsm, rfl⟩, ⟨k9, by omega, H.out.fin HR9.out hO9 (fun o => by simp [go_sem, hne, hne']) (fun o => by simp)⟩, hO9⟩
    · have hpos : (0 : Int) < x := by omega
      go_wp2_with fail
      refine (pick_any _ q p n cap (k + 1) _ HR1.out (by omega) (by omega) (by omega)).mono ?_
      rintro e w2 ⟨⟨y, hy0, hy1, rfl⟩, hR2, hO2⟩
      obtain ⟨j, rfl⟩ := Int.eq_ofNat_of_zero_le hy0
      have s0 : w2.cell? ⟨w.heap.size, 0, none⟩ = some (.int .i64 0) := by rw [hO2.cell _ _ (by omega) (by omega)]; exact r0
      have s1 : w2.cell? ⟨w.heap.size, 1, none⟩ = some (.int .i64 0) := by rw [hO2.cell _ _ (by omega) (by omega)]; exact r1
      have sf : ∀ j, w2.frozen? ⟨w.heap.size, j, none⟩ = false := fun j => by rw [hO2.frozen _ _ (by omega) (by omega)]; exact rf j
      obtain ⟨y0, y1, _⟩ := (HS1.out.only hO2 (by have := HS1.out.lt.1; omega)).at.2 j (L[j]'(by omega)) (by simp)
      have HID : Hid (IdIn L (L[j]'(by omega)).a (L[j]'(by omega)).b) := .inl ⟨L[j]'(by omega), List.getElem_mem _, rfl, rfl⟩
      generalize (L[j]'(by omega)) = o at *
      have HR9 := hideIt hR2
      have HO9 := hideIt (HO1.out.trans hO2)
      clear hR2 hO2 r0 r1 rf
      generalize o.a = oa at *
      generalize o.b = ob at *
      go_wp2
      have hO9 := (HO9.out.set hqw (g := w.heap.size) (Nat.le_refl _) 0 (.int .i64 oa)).set hqw (g := w.heap.size) (Nat.le_refl _) 1 (.int .i64 ob)
      exact bodyPost_ret (v := .agg #[.int .i64 oa, .int .i64 ob]) (by simp [results, Tryd.results83, go_sem, s0, s1]) rfl ⟨⟨_, _, HID.out, rfl⟩, ⟨k + 1 + 1, by omega, H.out.fin HR9.out hO9 (fun o => by simp [go_sem, hne, hne']) (fun o => by simp)⟩, hO9⟩
/-- An id in its box, that may be written. -/
structure Bx (W : World) (A : Nat) (r m : Int) : Prop where
  x0 : W.cell? ⟨A, 0, none⟩ = some (.int .i64 r)
  x1 : W.cell? ⟨A, 1, none⟩ = some (.int .i64 m)
  fz : ∀ j, W.frozen? ⟨A, j, none⟩ = false
  lt : A < W.heap.size
theorem Bx.below {W W' : World} {A : Nat} {r m : Int} (h : Bx W A r m) (hb : Below W.heap.size W W') : Bx W' A r m :=
  ⟨((bcell hb).1 _ _ h.lt).trans h.x0, ((bcell hb).1 _ _ h.lt).trans h.x1, fun j => ((bcell hb).2 _ _ h.lt).trans (h.fz j), Nat.lt_of_lt_of_le h.lt hb.size⟩
theorem Bx.only {W W' : World} {A q : Nat} {r m : Int} (h : Bx W A r m) (ho : OnlyQ q W W') (hne : A ≠ q) : Bx W' A r m :=
  ⟨(ho.cell _ _ h.lt hne).trans h.x0, (ho.cell _ _ h.lt hne).trans h.x1, fun j => (ho.frozen _ _ h.lt hne).trans (h.fz j), Nat.lt_of_lt_of_le h.lt ho.size⟩
theorem Bx.new (W : World) (r m : Int) (T : TypeId) : Bx (W.alloc (.cells #[.int .i64 r, .int .i64 m] T)) W.heap.size r m :=
  ⟨by simp [go_sem], by simp [go_sem], fun j => by simp [go_sem], by simp⟩
theorem Bx.put {W : World} {A : Nat} {r m : Int} (h : Bx W A r m) (r' m' : Int) : Bx ((W.setCell ⟨A, 0, none⟩ (.int .i64 r')).setCell ⟨A, 1, none⟩ (.int .i64 m')) A r' m' := by
  have x0 := h.x0
  have x1 := h.x1
  exact ⟨by simp [go_sem, x0, x1], by simp [go_sem, x0, x1], fun j => by simp [h.fz], by simpa using h.lt⟩
theorem Bx.other {W : World} {A A' : Nat} {r m : Int} (h : Bx W A r m) (hne : A ≠ A') (u v : Value) : Bx ((W.setCell ⟨A', 0, none⟩ u).setCell ⟨A', 1, none⟩ v) A r m := by
  have hc : ∀ i, ((W.setCell ⟨A', 0, none⟩ u).setCell ⟨A', 1, none⟩ v).cell? ⟨A, i, none⟩ = W.cell? ⟨A, i, none⟩ := fun i => by
    rw [World.cell?_setCell_other _ _ _ _ (by intro he; have := congrArg Addr.block he; simp at this; omega), World.cell?_setCell_other _ _ _ _ (by intro he; have := congrArg Addr.block he; simp at this; omega)]
  exact ⟨(hc _).trans h.x0, (hc _).trans h.x1, fun j => by rw [World.frozen?_setCell, World.frozen?_setCell]; exact h.fz j, by simpa using h.lt⟩
theorem fin4b {w W : World} {r1 : Nat} (hb : Below w.heap.size w W) (h1 : w.heap.size ≤ r1) (u0 u1 v0 v1 : Value) : Below w.heap.size w ((((W.setCell ⟨w.heap.size, 0, none⟩ u0).setCell ⟨w.heap.size, 1, none⟩ u1).setCell ⟨r1, 0, none⟩ v0).setCell ⟨r1, 1, none⟩ v1).drew :=
  ((((hb.setCell (p := ⟨w.heap.size, 0, none⟩) (Nat.le_refl _) u0).setCell (p := ⟨w.heap.size, 1, none⟩) (Nat.le_refl _) u1).setCell (p := ⟨r1, 0, none⟩) h1 v0).setCell (p := ⟨r1, 1, none⟩) h1 v1).drew
theorem fin4o {W : World} {base G c r0 r1 : Nat} {L : List Op7} (h : OwnOps W base G c L) (h0 : G ≠ r0) (h1 : G ≠ r1) (u0 u1 v0 v1 : Value) : OwnOps ((((W.setCell ⟨r0, 0, none⟩ u0).setCell ⟨r0, 1, none⟩ u1).setCell ⟨r1, 0, none⟩ v0).setCell ⟨r1, 1, none⟩ v1).drew base G c L :=
  ((((h.set h0 u0).set h0 u1).set h1 v0).set h1 v1).below ((Below.refl _ _).drew)
/-- Where the drawing of two ids stands. -/
structure DU (w wS wr : World) (q G c : Nat) (L : List Op7) (A B : Nat) (ar am br bm : Int) : Prop where
  only : OnlyQ q wS wr
  own : OwnOps wr wS.heap.size G c L
  a : Bx wr A ar am
  b : Bx wr B br bm
  ia : IdIn L ar am
  ib : IdIn L br bm
theorem DU.below {w wS wr w' : World} {q G c A B : Nat} {L : List Op7} {ar am br bm : Int} (h : DU w wS wr q G c L A B ar am br bm) (hq : q < wS.heap.size) (hb : Below wr.heap.size wr w') : DU w wS w' q G c L A B ar am br bm :=
  ⟨h.only.then hq hb, h.own.below hb, h.a.below hb, h.b.below hb, h.ia, h.ib⟩
theorem DU.next {w wS wr w' : World} {q G c A B : Nat} {L : List Op7} {ar am br bm : Int} (h : DU w wS wr q G c L A B ar am br bm) (hq : q < wS.heap.size) (hA : wS.heap.size ≤ A) (hB : wS.heap.size ≤ B) (ho : OnlyQ q wr w') : DU w wS w' q G c L A B ar am br bm :=
  ⟨h.only.trans ho, h.own.only ho (by have := h.own.lt.1; omega), h.a.only ho (by omega), h.b.only ho (by omega), h.ia, h.ib⟩
theorem DU.setA {w wS wr : World} {q G c A B : Nat} {L : List Op7} {ar am br bm : Int} (h : DU w wS wr q G c L A B ar am br bm) (hq : q < wS.heap.size) (hA : wS.heap.size ≤ A) (hAB : A ≠ B) (hAG : G ≠ A) (r m : Int) (hi : IdIn L r m) : DU w wS ((wr.setCell ⟨A, 0, none⟩ (.int .i64 r)).setCell ⟨A, 1, none⟩ (.int .i64 m)) q G c L A B r m br bm :=
  ⟨(h.only.set hq hA 0 _).set hq hA 1 _, (h.own.set hAG _).set hAG _, h.a.put r m, h.b.other (Ne.symm hAB) _ _, hi, h.ib⟩
theorem DU.setB {w wS wr : World} {q G c A B : Nat} {L : List Op7} {ar am br bm : Int} (h : DU w wS wr q G c L A B ar am br bm) (hq : q < wS.heap.size) (hB : wS.heap.size ≤ B) (hAB : A ≠ B) (hBG : G ≠ B) (r m : Int) (hi : IdIn L r m) : DU w wS ((wr.setCell ⟨B, 0, none⟩ (.int .i64 r)).setCell ⟨B, 1, none⟩ (.int .i64 m)) q G c L A B ar am r m :=
  ⟨(h.only.set hq hB 0 _).set hq hB 1 _, (h.own.set hBG _).set hBG _, h.a.other hAB _ _, h.b.put r m, h.ia, hi⟩

end Go.Proofs.YtedanlmippfojaaDoor

namespace Go.Proofs.YtedanlmippfojaaDoor
open Go.RowKit
set_option linter.unusedSimpArgs false
set_option linter.unusedVariables false
attribute [local go_sem ↓] Go.wp_at_zero Go.wp_at_succ

set_option maxRecDepth 100000 in
set_option maxHeartbeats 1000000 in
theorem specKidsT_any (l : List Op7) (g cap : Nat) (r m s : Int) (w : World) (hl : OpsAt w g l) (hn : l.length ≤ 1048576) (hcap : l.length ≤ cap) :
    Calls Tryd.prog 44 #[.slice (some ⟨g, 0, none⟩) l.length cap, .agg #[.int .i64 r, .int .i64 m], .int .i64 s] w fun e w' => ∃ v, e = .returned v ∧ w'.ownsRow w.heap.size 27 2 v (kidIds l r m s).length (idCells (kidIds l r m s)) ∧ Below w.heap.size w w' := by
  have HL := hideIt hl
  have hgw := hl.1
  clear hl
  have HB0 : Hid (Below w.heap.size w (w.alloc (.cells #[.int .i64 r, .int .i64 m] 27))) := (Below.refl _ _).alloc (Nat.le_refl _) _
  cases ho : opsB l
  all_goals
    have HO := hideIt ho
    clear ho
    go_enter Tryd.func44, Tryd.ntmps44
    go_wp2_with fail
    refine (specOps_any l _ _ _ (HL.out.below HB0.out hgw) hn hcap).mono ?_
    rintro e w1 ⟨rfl, hb1⟩
    rw [HO.out]
    have HB1 : Hid (Below w.heap.size w w1) := HB0.out.trans (hb1.mono (by simp))
    have k0 : w1.cell? ⟨w.heap.size, 0, none⟩ = some (.int .i64 r) := by rw [(bcell hb1).1 _ _ (by simp)]; simp [go_sem]
    have k1 : w1.cell? ⟨w.heap.size, 1, none⟩ = some (.int .i64 m) := by rw [(bcell hb1).1 _ _ (by simp)]; simp [go_sem]
    have hz0 : w.heap.size < w1.heap.size := by have := hb1.size; simp at this; omega
    clear hb1
  · have e : kidIds l r m s = [] := by unfold kidIds; rw [HO.out]; rfl
    have HE := hideIt e
    clear e
    go_wp2
    go_ret
    refine ⟨_, rfl, ?_, HB1.out.alloc HB1.out.size _⟩
    rw [HE.out]
    have h := World.ownsRow_made (base := w.heap.size) (e := 27) (size := 2) w1 #[] 0 HB1.out.size (Nat.zero_le _) rfl
    exact h
  · go_wp2_with fail
    refine (l2Kids_any l _ _ _ _ _ _ (HL.out.below HB1.out hgw) hn hcap).mono ?_
    rintro e w2 ⟨v, rfl, hrow, hb2⟩
    have HB2 := hideIt (Bstep HB1.out hb2)
    have HRW := hideIt (ownsRow_base HB1.out.size hrow)
    clear hb2 hrow
    go_wp2
    go_ret
    exact ⟨_, rfl, by unfold kidIds; rw [HO.out, if_pos rfl, idsOf_len]; exact HRW.out, HB2.out⟩
end Go.Proofs.YtedanlmippfojaaDoor

namespace Go.Proofs.YtedanlmippfojaaDoor
open Go.RowKit
set_option linter.unusedSimpArgs false
set_option linter.unusedVariables false
attribute [local go_sem ↓] Go.wp_at_zero Go.wp_at_succ

/-- Where the drawing of one id stands. -/
structure DK (w wS wr : World) (q G c : Nat) (L : List Op7) (A : Nat) (ar am : Int) : Prop where
  only : OnlyQ q wS wr
  own : OwnOps wr wS.heap.size G c L
  a : Bx wr A ar am
  ia : IdIn L ar am
theorem DK.below {w wS wr w' : World} {q G c A : Nat} {L : List Op7} {ar am : Int} (h : DK w wS wr q G c L A ar am) (hq : q < wS.heap.size) (hb : Below wr.heap.size wr w') : DK w wS w' q G c L A ar am :=
  ⟨h.only.then hq hb, h.own.below hb, h.a.below hb, h.ia⟩
theorem DK.next {w wS wr w' : World} {q G c A : Nat} {L : List Op7} {ar am : Int} (h : DK w wS wr q G c L A ar am) (hq : q < wS.heap.size) (hA : wS.heap.size ≤ A) (ho : OnlyQ q wr w') : DK w wS w' q G c L A ar am :=
  ⟨h.only.trans ho, h.own.only ho (by have := h.own.lt.1; omega), h.a.only ho (by omega), h.ia⟩
theorem DK.setA {w wS wr : World} {q G c A : Nat} {L : List Op7} {ar am : Int} (h : DK w wS wr q G c L A ar am) (hq : q < wS.heap.size) (hA : wS.heap.size ≤ A) (hAG : G ≠ A) (r m : Int) (hi : IdIn L r m) : DK w wS ((wr.setCell ⟨A, 0, none⟩ (.int .i64 r)).setCell ⟨A, 1, none⟩ (.int .i64 m)) q G c L A r m :=
  ⟨(h.only.set hq hA 0 _).set hq hA 1 _, (h.own.set hAG _).set hAG _, h.a.put r m, hi⟩
theorem fin2b {w W : World} (hb : Below w.heap.size w W) (u0 u1 : Value) : Below w.heap.size w ((W.setCell ⟨w.heap.size, 0, none⟩ u0).setCell ⟨w.heap.size, 1, none⟩ u1) :=
  (hb.setCell (p := ⟨w.heap.size, 0, none⟩) (Nat.le_refl _) u0).setCell (p := ⟨w.heap.size, 1, none⟩) (Nat.le_refl _) u1
theorem fin2o {W : World} {base G c r0 : Nat} {L : List Op7} (h : OwnOps W base G c L) (h0 : G ≠ r0) (u0 u1 : Value) : OwnOps ((W.setCell ⟨r0, 0, none⟩ u0).setCell ⟨r0, 1, none⟩ u1) base G c L := (h.set h0 u0).set h0 u1
theorem side_in {s u : Int} (hs0 : 0 ≤ s) (hs1 : s < 2) (hu0 : 0 ≤ u) (hu1 : u < 24) : 0 ≤ IntKind.i64.wrap (s + IntKind.i64.wrap (IntKind.i64.wrap (u.tdiv 23) * 2)) ∧ IntKind.i64.wrap (s + IntKind.i64.wrap (IntKind.i64.wrap (u.tdiv 23) * 2)) ≤ 3 := by
  have h1 : u.tdiv 23 = u / 23 := Int.tdiv_eq_ediv_of_nonneg hu0
  have h2 : 0 ≤ u / 23 ∧ u / 23 ≤ 1 := by omega
  rw [h1, IntWalk.i64_in (u / 23) ⟨by omega, by omega⟩, IntWalk.i64_in (u / 23 * 2) ⟨by omega, by omega⟩, IntWalk.i64_in (s + u / 23 * 2) ⟨by omega, by omega⟩]
  omega
theorem idNone (L : List Op7) : IdIn L 0 0 := .inr ⟨by omega, by omega, by omega, by omega⟩

set_option maxRecDepth 100000 in
set_option maxHeartbeats 4000000 in
theorem drawKids_any (w : World) (p : Option Addr) (n cap : Nat) (h : ArgBytes w p n) (hcap : n ≤ cap) (hn : n ≤ 1048576) :
    Calls Tryd.prog 41 #[.slice p n cap] w fun e w' => ∃ G c L, ∃ ar am s : Int, e = .returned (.tuple #[.slice (some ⟨G, 0, none⟩) (L : List Op7).length c, .agg #[.int .i64 ar, .int .i64 am], .int .i64 s]) ∧ L.length ≤ 74 ∧ IdIn L ar am ∧ (0 ≤ s ∧ s ≤ 3) ∧ OwnOps w' w.heap.size G c L ∧ Below w.heap.size w w' := by
  have H := hideIt h
  clear h
  go_enter Tryd.func41, Tryd.ntmps41
  go_wp2_with fail
  have hB0 : Below w.heap.size w (w.alloc (.cells #[.int .i64 0, .int .i64 0] 27)) := (Below.refl _ _).alloc (Nat.le_refl _) _
  have hX0 : Bx (w.alloc (.cells #[.int .i64 0, .int .i64 0] 27)) w.heap.size 0 0 := Bx.new w 0 0 _
  generalize w.alloc (.cells #[.int .i64 0, .int .i64 0] 27) = W0 at *
  refine (open_any _ p n cap (H.out.below hB0) hcap hn).mono ?_
  rintro e wS ⟨n', rfl, hRS, hbS⟩
  have HX0 := hideIt (hX0.below hbS)
  have HBS := hideIt (hB0.trans (hbS.mono hB0.size))
  have HRS := hideIt hRS
  have hqS := hRS.lt
  have hl0 := hX0.lt
  have hzS := hbS.size
  clear hRS hbS hX0 hB0
  generalize W0.heap.size = q at *
  go_wp2_with fail
  refine (l71Off_any _ _ p n' cap 0 HRS.out (by omega)).mono ?_
  rintro e w2 ⟨⟨G, c, _, rfl, ⟨L, rfl, hL, hS2⟩⟩, ⟨k2, hk2, hR2⟩, hO2⟩
  have HS2 := hideIt hS2
  have HR2 := hideIt hR2
  have HO2 := hideIt hO2
  have hG2 := hS2.lt
  have hz2 := hO2.size
  clear hS2 hR2 hO2
  go_wp2_with fail
  refine (l71SomeL_any _ _ p n' cap k2 _ G c L hL HR2.out (by omega) HS2.out hqS HR2.out.lt).mono ?_
  rintro e w3 ⟨⟨ar, am, hia, rfl⟩, ⟨k3, hk3, hR3⟩, hO3⟩
  have hz3 := hO3.size
  have HIA := hideIt hia
  have HS3 := hideIt ((HS2.out.only hO3 (by omega)).below ((Below.refl _ _).alloc (Nat.le_refl _) (.cells #[.int .i64 ar, .int .i64 am] 27)))
  have HR3 := hideIt (hR3.alloc (.cells #[.int .i64 ar, .int .i64 am] 27))
  have HO3 := hideIt ((HO2.out.trans hO3).alloc hqS (.cells #[.int .i64 ar, .int .i64 am] 27))
  have HA3 := hideIt (Bx.new w3 ar am 27)
  clear hR3 hO3 hia HS2 HR2 HO2
  go_wp2_with fail
  have hA3 : wS.heap.size ≤ w3.heap.size := by omega
  have hAG : G ≠ w3.heap.size := by omega
  have hW3 : w3.heap.size < (w3.alloc (.cells #[.int .i64 ar, .int .i64 am] 27)).heap.size := by simp
  generalize w3.alloc (.cells #[.int .i64 ar, .int .i64 am] 27) = W3 at *
  generalize w3.heap.size = A at *
  refine (pick_any _ q p n' cap k3 2 HR3.out (by omega) (by omega) (by omega)).mono ?_
  rintro e w4 ⟨⟨s, hs0, hs1, rfl⟩, hR4, hO4⟩
  have HU4 : Hid (DK w wS w4 q G c L A ar am) := ⟨HO3.out.trans hO4, HS3.out.only hO4 (by omega), HA3.out.only hO4 (by omega), HIA.out⟩
  have HR4 := hideIt hR4
  clear hR4 hO4 HS3 HR3 HO3 HA3 HIA
  go_wp2_with fail
  go_loopw [8, 9] (fun sv i wr => ∃ k j : Nat, k ≤ 12 ∧ j ≤ k3 + 1 + 20 * k ∧ i = .int .i64 k ∧ RdAt wr q p n' cap j ∧ ∃ ar am s : Int, sv = .int .i64 s ∧ (0 ≤ s ∧ s < 2) ∧ DK w wS wr q G c L A ar am) (fun _ i _ => 13 - (intOf i).toNat)
  case atStart => exact ⟨0, k3 + 1, by omega, by omega, rfl, HR4.out, ar, am, s, rfl, ⟨hs0, hs1⟩, HU4.out⟩
  case round =>
    clear HR4 HU4 hs0 hs1
    obtain ⟨k, j, hk, hj, rfl, hR, ar, am, s, rfl, ⟨hs0, hs1⟩, hU⟩ := hrel
    have HR := hideIt hR
    have HU := hideIt hU
    clear hR hU
    by_cases hk8 : k < 12
    · have hk' : (k : Int) < 12 := by omega
      go_wp2_with fail
      refine (pick_any _ q p n' cap j 12 HR.out (by omega) (by omega) (by omega)).mono ?_
      rintro e w5 ⟨⟨y, hy0, hy1, rfl⟩, hR5, hO5⟩
      have HR := hideIt hR5
      have HU := hideIt (HU.out.next hqS hA3 hO5)
      clear hR5 hO5
      by_cases hz : y = 0
      · subst hz
        have hxa0 := HU.out.a.x0
        have hxa1 := HU.out.a.x1
        have hr0 := HX0.out.only HU.out.only (by omega)
        have c0 := hr0.x0
        have c1 := hr0.x1
        have cf := hr0.fz
        have cl := hr0.lt
        have HOWN : Hid (OwnOps w5 w.heap.size G c L) := ownsRow_base (by omega) HU.out.own
        have HBEL : Hid (Below w.heap.size w w5) := HBS.out.trans (HU.out.only.below.mono (by omega))
        have HIA := hideIt HU.out.ia
        have hlA := HU.out.a.lt
        have hn1 : ¬ A = w.heap.size := by omega
        have hn5 : ¬ w.heap.size = A := by omega
        go_wp2
        have HR := hideIt (HR.out.below ((Below.refl _ _).drew))
        have HU := hideIt (HU.out.below hqS ((Below.refl _ _).drew))
        go_region_with (first | (go_at_call 59; refine (pick_any _ q p n' cap (j + 1) 24 HR.out (by omega) (by omega) (by omega)).mono ?_; rintro e wz ⟨⟨u, hu0, hu1, rfl⟩, hRz, hOz⟩; have HU := hideIt (HU.out.next hqS hA3 hOz); have hxa0 := HU.out.a.x0; have hxa1 := HU.out.a.x1; have hrz := HX0.out.only HU.out.only (by omega); have c0 := hrz.x0; have c1 := hrz.x1; have cf := hrz.fz; have cl := hrz.lt; have hlA := HU.out.a.lt; clear hr0))
        all_goals
          go_wp2
          refine bodyPost_ret (v := .tuple #[.slice (some ⟨G, 0, none⟩) L.length c, .agg #[.int .i64 ar, .int .i64 am], .int .i64 (IntKind.i64.wrap (s + IntKind.i64.wrap (IntKind.i64.wrap (u.tdiv 23) * 2)))]) (by simp [results, Tryd.results41, go_sem, c0, c1]) rfl ⟨G, c, L, ar, am, _, rfl, hL, HIA.out, ?_, ?_, ?_⟩
          · exact side_in hs0 hs1 hu0 hu1
          · exact fin2o (ownsRow_base (by omega) HU.out.own) (by omega) _ _
          · exact fin2b (HBS.out.trans (HU.out.only.below.mono (by omega))) _ _
      · have hpos : (0 : Int) < y := by omega
        have xa0 := HU.out.a.x0
        have xa1 := HU.out.a.x1
        have hlA := HU.out.a.lt
        go_wp2_with fail
        refine (specKidsT_any L G c ar am s _ HU.out.own.at (by omega) HU.out.own.cap).mono ?_
        rintro e w6 ⟨v, rfl, hr6, hb6⟩
        have HR := hideIt (HR.out.below hb6)
        have HU := hideIt (HU.out.below hqS hb6)
        obtain ⟨qv, cv, rfl⟩ : ∃ qv cv, v = .slice qv (kidIds L ar am s).length cv := by
          rcases row_cases hr6 with ⟨h0, p0, c0, e⟩ | ⟨h0, g0, c0, e, _⟩
          · exact ⟨p0, c0, by rw [h0]; exact e⟩
          · exact ⟨_, c0, e⟩
        clear hb6 hr6 xa0 xa1 hlA
        by_cases hlen : (kidIds L ar am s).length = 0
        · have hlen' : ((kidIds L ar am s).length : Int) = 0 := by omega
          go_wp2_with fail
          refine (l71SomeL_any _ _ p n' cap (j + 1) _ G c L hL HR.out (by omega) HU.out.own hqS HR.out.lt).mono ?_
          rintro e w7 ⟨⟨ar', am', hia', rfl⟩, ⟨k7, hk7, hR7⟩, hO7⟩
          have HU := hideIt (HU.out.next hqS hA3 hO7)
          have HR := hideIt hR7
          have HIA' := hideIt hia'
          clear hR7 hO7 hia'
          have xa0 := HU.out.a.x0
          have xa1 := HU.out.a.x1
          have xaf := HU.out.a.fz
          go_wp2_with fail
          have HU := hideIt (HU.out.setA hqS hA3 hAG ar' am' HIA'.out)
          have HR := hideIt (HRS.out.fin HR.out HU.out.only (fun y => by simp [go_sem, show ¬ A = q by omega, show ¬ q = A by omega]) (fun y => by simp))
          clear xa0 xa1 xaf
          generalize (w7.setCell ⟨A, 0, none⟩ (.int .i64 ar')).setCell ⟨A, 1, none⟩ (.int .i64 am') = W7 at *
          refine (pick_any _ q p n' cap k7 2 HR.out (by omega) (by omega) (by omega)).mono ?_
          rintro e w8 ⟨⟨s', hs0', hs1', rfl⟩, hR8, hO8⟩
          have HU := hideIt (HU.out.next hqS hA3 hO8)
          have HR := hideIt hR8
          clear hR8 hO8
          have xa0 := HU.out.a.x0
          have xa1 := HU.out.a.x1
          have xaf := HU.out.a.fz
          by_cases h6 : k = 6
          · subst h6
            go_wp2
            have HU := hideIt (HU.out.setA hqS hA3 hAG 0 0 (idNone L))
            have HR := hideIt (HRS.out.fin HR.out HU.out.only (fun y => by simp [go_sem, show ¬ A = q by omega, show ¬ q = A by omega]) (fun y => by simp))
            exact ⟨⟨7, k7 + 1, by omega, by omega, by go_num, HR.out, 0, 0, s', rfl, ⟨hs0', hs1'⟩, HU.out⟩, by simp [intOf]⟩
          · have h6' : ¬ ((k : Int) = 6) := by omega
            go_wp2
            exact ⟨⟨k + 1, k7 + 1, by omega, by omega, by go_num, HR.out, ar', am', s', rfl, ⟨hs0', hs1'⟩, HU.out⟩, by simp [intOf]; omega⟩
        · have hlen' : ¬ (((kidIds L ar am s).length : Int) = 0) := by omega
          have hxa0 := HU.out.a.x0
          have hxa1 := HU.out.a.x1
          have hr0 := HX0.out.only HU.out.only (by omega)
          have c0 := hr0.x0
          have c1 := hr0.x1
          have cf := hr0.fz
          have cl := hr0.lt
          have HOWN : Hid (OwnOps w6 w.heap.size G c L) := ownsRow_base (by omega) HU.out.own
          have HBEL : Hid (Below w.heap.size w w6) := HBS.out.trans (HU.out.only.below.mono (by omega))
          have HIA := hideIt HU.out.ia
          have hlA := HU.out.a.lt
          have hn1 : ¬ A = w.heap.size := by omega
          have hn5 : ¬ w.heap.size = A := by omega
          go_wp2
          have HR := hideIt (HR.out.below ((Below.refl _ _).drew))
          have HU := hideIt (HU.out.below hqS ((Below.refl _ _).drew))
          go_region_with (first | (go_at_call 59; refine (pick_any _ q p n' cap (j + 1) 24 HR.out (by omega) (by omega) (by omega)).mono ?_; rintro e wz ⟨⟨u, hu0, hu1, rfl⟩, hRz, hOz⟩; have HU := hideIt (HU.out.next hqS hA3 hOz); have hxa0 := HU.out.a.x0; have hxa1 := HU.out.a.x1; have hrz := HX0.out.only HU.out.only (by omega); have c0 := hrz.x0; have c1 := hrz.x1; have cf := hrz.fz; have cl := hrz.lt; have hlA := HU.out.a.lt; clear hr0))
          all_goals
            go_wp2
            refine bodyPost_ret (v := .tuple #[.slice (some ⟨G, 0, none⟩) L.length c, .agg #[.int .i64 ar, .int .i64 am], .int .i64 (IntKind.i64.wrap (s + IntKind.i64.wrap (IntKind.i64.wrap (u.tdiv 23) * 2)))]) (by simp [results, Tryd.results41, go_sem, c0, c1]) rfl ⟨G, c, L, ar, am, _, rfl, hL, HIA.out, ?_, ?_, ?_⟩
            · exact side_in hs0 hs1 hu0 hu1
            · exact fin2o (ownsRow_base (by omega) HU.out.own) (by omega) _ _
            · exact fin2b (HBS.out.trans (HU.out.only.below.mono (by omega))) _ _
    · have hk' : ¬ ((k : Int) < 12) := by omega
      have hxa0 := HU.out.a.x0
      have hxa1 := HU.out.a.x1
      have hr0 := HX0.out.only HU.out.only (by omega)
      have c0 := hr0.x0
      have c1 := hr0.x1
      have cf := hr0.fz
      have cl := hr0.lt
      have HOWN : Hid (OwnOps wr w.heap.size G c L) := ownsRow_base (by omega) HU.out.own
      have HBEL : Hid (Below w.heap.size w wr) := HBS.out.trans (HU.out.only.below.mono (by omega))
      have HIA := hideIt HU.out.ia
      have hlA := HU.out.a.lt
      have hn1 : ¬ A = w.heap.size := by omega
      have hn5 : ¬ w.heap.size = A := by omega
      go_wp2
      have HR := hideIt (HR.out.below ((Below.refl _ _).drew))
      have HU := hideIt (HU.out.below hqS ((Below.refl _ _).drew))
      go_region_with (first | (go_at_call 59; refine (pick_any _ q p n' cap (j) 24 HR.out (by omega) (by omega) (by omega)).mono ?_; rintro e wz ⟨⟨u, hu0, hu1, rfl⟩, hRz, hOz⟩; have HU := hideIt (HU.out.next hqS hA3 hOz); have hxa0 := HU.out.a.x0; have hxa1 := HU.out.a.x1; have hrz := HX0.out.only HU.out.only (by omega); have c0 := hrz.x0; have c1 := hrz.x1; have cf := hrz.fz; have cl := hrz.lt; have hlA := HU.out.a.lt; clear hr0))
      all_goals
        go_wp2
        refine bodyPost_ret (v := .tuple #[.slice (some ⟨G, 0, none⟩) L.length c, .agg #[.int .i64 ar, .int .i64 am], .int .i64 (IntKind.i64.wrap (s + IntKind.i64.wrap (IntKind.i64.wrap (u.tdiv 23) * 2)))]) (by simp [results, Tryd.results41, go_sem, c0, c1]) rfl ⟨G, c, L, ar, am, _, rfl, hL, HIA.out, ?_, ?_, ?_⟩
        · exact side_in hs0 hs1 hu0 hu1
        · exact fin2o (ownsRow_base (by omega) HU.out.own) (by omega) _ _
        · exact fin2b (HBS.out.trans (HU.out.only.below.mono (by omega))) _ _
end Go.Proofs.YtedanlmippfojaaDoor

namespace Go.Proofs.YtedanlmippfojaaDoor
open Go.RowKit
set_option linter.unusedSimpArgs false
set_option linter.unusedVariables false
attribute [local go_sem ↓] Go.wp_at_zero Go.wp_at_succ

set_option maxRecDepth 100000 in
set_option maxHeartbeats 1000000 in
theorem implKidsO_any (l : List Op7) (g cap : Nat) (r m s : Int) (x : Addr) (w : World) (hl : OpsAt w g l) (hn : l.length ≤ 1048576) (hcap : l.length ≤ cap)
    (he : w.cell? ⟨0, 0, none⟩ = some (.iface 203 (.pointer (some x)))) (h0 : 0 < w.heap.size) (hr : opsB l = true → wf64 r) (hm : opsB l = true → wf64 m) (hs : wf64 s) :
    Calls Tryd.prog 42 #[.slice (some ⟨g, 0, none⟩) l.length cap, .agg #[.int .i64 r, .int .i64 m], .int .i64 s] w fun e w' => ∃ v, e = .returned v ∧ w'.ownsRow w.heap.size 27 2 v (kidIds l r m s).length (idCells (kidIds l r m s)) ∧ Below w.heap.size w w' := by
  have HL := hideIt hl
  have hgw := hl.1
  have HR := hideIt hr
  have HM := hideIt hm
  have HSW := hideIt hs
  clear hl hr hm hs
  go_enter Tryd.func42, Tryd.ntmps42
  go_wp2_with fail
  have HB0 : Hid (Below w.heap.size w (w.alloc (.cells #[.int .i64 r, .int .i64 m] 27))) := (Below.refl _ _).alloc (Nat.le_refl _) _
  refine (treeOf_any l g cap x _ (HL.out.below HB0.out hgw) hn hcap (errB HB0.out h0 he) (posB HB0.out h0)).mono ?_
  rintro e w1 ⟨(⟨ht, b1, b2, b3, base, rfl, hT⟩ | ⟨ht, rfl⟩), hb1⟩
  all_goals
    have HO := hideIt ht
    have HB1 : Hid (Below w.heap.size w w1) := HB0.out.trans (hb1.mono (by simp))
    have herr1 : w1.cell? ⟨0, 0, none⟩ = some (.iface 203 (.pointer (some x))) := errB HB1.out h0 he
    have hp1 : 0 < w1.heap.size := posB HB1.out h0
    have k0 : w1.cell? ⟨w.heap.size, 0, none⟩ = some (.int .i64 r) := by rw [(bcell hb1).1 _ _ (by simp)]; simp [go_sem]
    have k1 : w1.cell? ⟨w.heap.size, 1, none⟩ = some (.int .i64 m) := by rw [(bcell hb1).1 _ _ (by simp)]; simp [go_sem]
    have hz0 : w.heap.size < w1.heap.size := by have := hb1.size; simp at this; omega
    clear ht hb1
  · obtain ⟨ks, hks⟩ := key_spot (HR.out HO.out) (HM.out HO.out) HSW.out
    have HKS := hideIt hks
    clear hks
    have HTT := hideIt hT
    obtain ⟨f, hf⟩ := (hT.below ((Below.refl _ _).alloc (Nat.le_refl _) (.cells #[.map (some b1), .map (some b2), .map (some b3)] 107))).2.1
    have HF := hideIt hf
    obtain ⟨v0, hv0⟩ : ∃ v0, (f (r, m, s)).getD (.slice none 0 0) = v0 := ⟨_, rfl⟩
    have hv0o := hf.at (r, m, s)
    rw [hv0] at hv0o
    have HV0 := hideIt hv0
    have HOW := hideIt hv0o
    clear hT hf hv0 hv0o
    rcases row_cases HOW.out with ⟨hlen, p0, c0, hv⟩ | ⟨hlen, G, cap0, hv, hcap0, hGl, hcell⟩
    all_goals rw [hv] at HV0
    all_goals
      go_wp2_with (first
        | (go_at_call 68; refine (is_nil x _).mono ?_; rintro e w'' ⟨rfl, rfl⟩)
        | (at_lookup; refine wpList_look0 (t := 104) (e := 130) rfl _ _ rfl keyedSpot Tryd.underlying104 (.slice none 0 0) (zeroSlice _) encSpot_inj rfl HF.out.1 (r, m, s) rfl ks HKS.out _ HV0.out ?_))
    · refine wp_loop_rounds 1 ?_
      rw [rounds_succ]
      go_wp2
      go_ret
      refine ⟨_, rfl, ?_, by have := HB1.out; go_grown⟩
      have e : kidIds l r m s = [] := by unfold kidIds; rw [HO.out, if_pos rfl, List.length_eq_zero_iff.1 hlen]; rfl
      rw [e]
      exact World.ownsRow_nil _ _ _ _
    · have HCE := hideIt hcell
      have HKI : Hid (kidIds l r m s = idsOf (kidsL l (r, m, s))) := by unfold kidIds; exact if_pos HO.out
      have hKl : (kidsL l (r, m, s)).length ≤ 1048576 := Nat.le_trans (kids_le l _) hn
      have hGG : G < w1.heap.size + 1 := by simpa using hGl
      clear hcell HOW hGl hv HF HTT
      generalize kidsL l (r, m, s) = K at *
      obtain ⟨i0, hi, hz0', hz1', hz2⟩ := info_parts infoId
      have HI1 := hideIt hi
      have HZ0 := hideIt hz0'
      have HZ1 := hideIt hz1'
      have HZ2 := hideIt hz2
      clear hi hz0' hz1' hz2
      have HBW : Hid (Below w.heap.size w (w1.alloc (.cells #[.map (some b1), .map (some b2), .map (some b3)] 107))) := HB1.out.alloc HB1.out.size _
      go_loopw [9, 27] (fun v i wr => ∃ k : Nat, k ≤ K.length ∧ i = .int .i64 k ∧ wr.ownsRow (w1.heap.size + 1) 27 2 v k (idCells (idsOf (K.take k))) ∧ Below (w1.heap.size + 1) (w1.alloc (.cells #[.map (some b1), .map (some b2), .map (some b3)] 107)) wr)
        (fun _ i _ => K.length - (intOf i).toNat)
      case atStart => exact ⟨0, Nat.zero_le _, rfl, World.ownsRow_nil _ _ _ _, Below.refl _ _⟩
      case round =>
        obtain ⟨k, hk, rfl, hrow, hB⟩ := hrel
        have HRW := hideIt hrow
        have HB := hideIt hB
        have hzr : w1.heap.size + 1 ≤ wr.heap.size := by have := hB.size; simpa using this
        by_cases hlt : k < K.length
        · obtain ⟨i0', i1', i2', i3', i4', i5'⟩ := putCells_at K k K[k] (by simp [hlt])
          have cc : ∀ j, j < K.length * 6 → wr.cell? ⟨G, j, none⟩ = (putCells K)[j]? := fun j hj => (hB.cell (p := ⟨G, j, none⟩) hGG).trans (HCE.out j hj)
          have y0 := (cc (k * 6) (by omega)).trans i0'
          have y1 := (cc (k * 6 + 1) (by omega)).trans i1'
          have y2 := (cc (k * 6 + 2) (by omega)).trans i2'
          have y3 := (cc (k * 6 + 3) (by omega)).trans i3'
          have y4 := (cc (k * 6 + 4) (by omega)).trans i4'
          have y5 := (cc (k * 6 + 5) (by omega)).trans i5'
          have htk : Hid (idCells (idsOf (K.take (k + 1))) = idCells (idsOf (K.take k)) ++ [.int .i64 K[k].a, .int .i64 K[k].b]) := by
            show idCells (idsOf (K.take (k + 1))) = _
            rw [List.take_succ_eq_append_getElem hlt, idCells_more]
          have hGr : G < wr.heap.size := by omega
          generalize K[k] = o at *
          have hlt' : (k : Int) < (K.length : Int) := by omega
          have hk0 : (0 : Int) ≤ (k : Int) := by omega
          have HNW : Hid (∀ j u, ([.int .i64 o.a, .int .i64 o.b] : List Value)[j]? = some u → ((wr.alloc (.cells #[.int .i64 o.a, .int .i64 o.b, .int .i64 o.c, .int .i64 o.d, .int .i64 o.s, .int .i64 o.g] 136)).alloc (.cells #[.int .i64 o.a, .int .i64 o.b] 27)).cell? ((⟨wr.heap.size + 1, 0, none⟩ : Addr).add j) = some u) := by
            intro j u hj
            have h := cells_new (wr.alloc (.cells #[.int .i64 o.a, .int .i64 o.b, .int .i64 o.c, .int .i64 o.d, .int .i64 o.s, .int .i64 o.g] 136)) [.int .i64 o.a, .int .i64 o.b] 27 j u hj
            simp only [World.size_alloc] at h
            exact h
          clear hB hrow cc i0' i1' i2' i3' i4' i5'
          go_wp2_with (first
            | (at_builtin; refine wpList_append_own_at _ rfl _ _ 65 rfl (w1.heap.size + 1) 27 i0 _ 2 16 Tryd.underlying65 HI1.out HZ0.out HZ1.out HZ2.out rfl (by decide) _ _ _ rfl ((HRW.out.alloc _).alloc _) ⟨wr.heap.size + 1, 0, none⟩ 1 1 [.int .i64 o.a, .int .i64 o.b] rfl rfl HNW.out ids_one (by unfold maxLen; omega) (by omega) (by simp; omega) ?_; intro v' w2 hown2 hg2 _ _;
                have HO2 := hideIt hown2; have HB2 := hideIt (below_grown ((HB.out.alloc (by omega) _).alloc (by simp; omega) _) hg2 (by simp; omega) (fun j e => (HRW.out.lt j e).1)); clear hown2 hg2))
          exact ⟨⟨k + 1, by omega, by go_num, by rw [htk.out]; exact HO2.out, HB2.out⟩, by simp [intOf]; omega⟩
        · obtain rfl : k = K.length := by omega
          clear hB hrow
          go_wp2
          go_ret
          refine ⟨_, rfl, ?_, HBW.out.trans (HB.out.mono (by omega))⟩
          rw [HKI.out]
          have h := HRW.out
          rw [List.take_length] at h
          have h2 := ownsRow_base (show w.heap.size ≤ w1.heap.size + 1 by omega) h
          simpa [idsOf] using h2
  · go_wp2_with (first | (go_at_call 68; refine (is_same x _).mono ?_; rintro e w'' ⟨rfl, rfl⟩))
    go_ret
    exact ⟨_, rfl, by unfold kidIds; rw [HO.out]; exact World.ownsRow_nil _ _ _ _, by have := HB1.out; go_grown⟩

end Go.Proofs.YtedanlmippfojaaDoor

namespace Go.Proofs.YtedanlmippfojaaDoor
open Go.RowKit
set_option linter.unusedSimpArgs false
set_option linter.unusedVariables false
attribute [local go_sem ↓] Go.wp_at_zero Go.wp_at_succ

theorem idCells_at : ∀ (L : List (Int × Int)) (i : Nat) (x : Int × Int), L[i]? = some x → (idCells L)[i * 2]? = some (.int .i64 x.1) ∧ (idCells L)[i * 2 + 1]? = some (.int .i64 x.2)
  | [], i, x, h => by simp at h
  | y :: r, 0, x, h => by simp at h; subst h; simp [idCells]
  | y :: r, i + 1, x, h => by
    have h' := idCells_at r i x (by simpa using h)
    have e : idCells (y :: r) = [.int .i64 y.1, .int .i64 y.2] ++ idCells r := by simp [idCells]
    have hs : ∀ j, (idCells (y :: r))[(i + 1) * 2 + j]? = (idCells r)[i * 2 + j]? := fun j => by
      rw [e, List.getElem?_append_right (by simp; omega)]
      congr 1
      simp
      omega
    have h0 := hs 0
    simp only [Nat.add_zero] at h0
    rw [h0, hs 1]
    exact h'

theorem implKidsS_any (l : List Op7) (hO : opsB l = true) (g cap : Nat) (r m s : Int) (x : Addr) (w : World) (hl : OpsAt w g l) (hn : l.length ≤ 1048576) (hcap : l.length ≤ cap)
    (he : w.cell? ⟨0, 0, none⟩ = some (.iface 203 (.pointer (some x)))) (h0 : 0 < w.heap.size) (hr : wf64 r) (hm : wf64 m) (hs : wf64 s) :
    Calls Tryd.prog 42 #[.slice (some ⟨g, 0, none⟩) l.length cap, .agg #[.int .i64 r, .int .i64 m], .int .i64 s] w fun e w' => ∃ q c, e = .returned (.slice q (kidsL l (r, m, s)).length c) ∧ (0 < (kidsL l (r, m, s)).length → ∃ gk, q = some ⟨gk, 0, none⟩ ∧ (kidsL l (r, m, s)).length ≤ c ∧ gk < w'.heap.size ∧ ∀ j, j < (kidsL l (r, m, s)).length * 2 → w'.cell? ⟨gk, j, none⟩ = (idCells (idsOf (kidsL l (r, m, s))))[j]?) ∧ Below w.heap.size w w' := by
  refine (implKids_any l g cap r m s x w hl hn hcap he h0 hr hm hs).mono ?_
  rintro e w' ⟨v, rfl, hr, hb⟩
  have e1 : kidIds l r m s = idsOf (kidsL l (r, m, s)) := by unfold kidIds; rw [if_pos hO]
  rw [e1, idsOf_len] at hr
  rcases hr.2 with ⟨e, e0⟩ | ⟨g', c', cur, e, _, hg, h2, _⟩
  · exact ⟨none, 0, by rw [e, e0], fun h => by omega, hb⟩
  · subst e
    exact ⟨some ⟨g', 0, none⟩, c', rfl, fun _ => ⟨g', rfl, h2, (Array.getElem?_eq_some_iff.1 hg).1, fun j hj => World.ownsRow.cellAt hr j hj⟩, hb⟩

theorem op_wf {l : List Op7} (h : opsB l = true) {o : Op7} (ho : o ∈ l) : wf64 o.a ∧ wf64 o.b ∧ wf64 o.c ∧ wf64 o.d ∧ wf64 o.s := by
  have := okO_num (List.all_eq_true.1 (opsB_all h).1 o ho)
  exact ⟨wf_small ⟨by omega, by omega⟩, wf_small ⟨by omega, by omega⟩, wf_small ⟨by omega, by omega⟩, wf_small ⟨by omega, by omega⟩, wf_small ⟨by omega, by omega⟩⟩
/-- Is an id among the first k kids? -/
def inTo (K : List Op7) (k : Nat) (a b : Int) : Bool := (K.take k).any fun o => o.a == a && o.b == b
theorem inTo_zero (K : List Op7) (a b : Int) : inTo K 0 a b = false := by simp [inTo]
theorem inTo_more {K : List Op7} {k : Nat} (hk : k < K.length) (a b : Int) : inTo K (k + 1) a b = (inTo K k a b || (K[k].a == a && K[k].b == b)) := by
  unfold inTo
  rw [List.take_succ_eq_append_getElem hk, List.any_append]
  simp
theorem inTo_all {K : List Op7} {o : Op7} (h : o ∈ K) : inTo K K.length o.a o.b = true := by
  unfold inTo
  rw [List.take_length]
  exact List.any_eq_true.2 ⟨o, h, by simp⟩

end Go.Proofs.YtedanlmippfojaaDoor

namespace Go.Proofs.YtedanlmippfojaaDoor
open Go.RowKit
set_option linter.unusedSimpArgs false
set_option linter.unusedVariables false
attribute [local go_sem ↓] Go.wp_at_zero Go.wp_at_succ

theorem idrow {w : World} {base : Nat} {v : Value} {L : List (Int × Int)} (h : w.ownsRow base 27 2 v L.length (idCells L)) : ∃ q c, v = .slice q L.length c ∧ (0 < L.length → ∃ g, q = some ⟨g, 0, none⟩ ∧ L.length ≤ c ∧ base ≤ g ∧ g < w.heap.size ∧ ∀ j, j < L.length * 2 → w.cell? ⟨g, j, none⟩ = (idCells L)[j]?) := by
  rcases h.2 with ⟨e, e0⟩ | ⟨g', c', cur, e, hb, hg, h2, _⟩
  · exact ⟨none, 0, by rw [e, e0], fun h => by omega⟩
  · subst e
    exact ⟨some ⟨g', 0, none⟩, c', rfl, fun _ => ⟨g', rfl, h2, hb, (Array.getElem?_eq_some_iff.1 hg).1, fun j hj => World.ownsRow.cellAt h j hj⟩⟩

set_option maxRecDepth 100000 in
set_option maxHeartbeats 1000000 in
theorem ltIds_rows (L : List (Int × Int)) (v1 v2 : Value) (base1 base2 : Nat) (w : World) (h1 : w.ownsRow base1 27 2 v1 L.length (idCells L)) (h2 : w.ownsRow base2 27 2 v2 L.length (idCells L)) (hn : L.length ≤ 1048576) :
    Calls Tryd.prog 43 #[v1, v2] w fun e w' => e = .returned (.bool true) ∧ Below w.heap.size w w' := by
  obtain ⟨q1, c1, rfl, hq1⟩ := idrow h1
  obtain ⟨q2, c2, rfl, hq2⟩ := idrow h2
  have HQ1 := hideIt hq1
  have HQ2 := hideIt hq2
  clear h1 h2 hq1 hq2
  go_enter Tryd.func43, Tryd.ntmps43
  go_wp2
  go_loopw [5] (fun i wr => ∃ k : Nat, k ≤ L.length ∧ i = .int .i64 k ∧ Below w.heap.size w wr) (fun i _ => L.length - (intOf i).toNat)
  case atStart => exact ⟨0, Nat.zero_le _, rfl, by go_grown⟩
  case round =>
    obtain ⟨k, hk, rfl, hB⟩ := hrel
    have HB := hideIt hB
    by_cases hlt : k < L.length
    · obtain ⟨g1, rfl, hc1, hb1, hg1, hx1⟩ := HQ1.out (by omega)
      obtain ⟨g2, rfl, hc2, hb2, hg2, hx2⟩ := HQ2.out (by omega)
      obtain ⟨i0, i1⟩ := idCells_at L k L[k] (by simp [hlt])
      have y0 := ((bcell hB).1 g1 _ hg1).trans ((hx1 (k * 2) (by omega)).trans i0)
      have y1 := ((bcell hB).1 g1 _ hg1).trans ((hx1 (k * 2 + 1) (by omega)).trans i1)
      have z0 := ((bcell hB).1 g2 _ hg2).trans ((hx2 (k * 2) (by omega)).trans i0)
      have z1 := ((bcell hB).1 g2 _ hg2).trans ((hx2 (k * 2 + 1) (by omega)).trans i1)
      have hlt' : (k : Int) < (L.length : Int) := by omega
      have hk0 : (0 : Int) ≤ (k : Int) := by omega
      generalize L[k] = y at *
      clear hB i0 i1 hx1 hx2
      go_wp2
      go_quiet (fail)
      go_wp2
      exact ⟨⟨k + 1, by omega, by go_num, below_drewN HB.out _⟩, by simp [intOf]; omega⟩
    · clear hB
      go_wp2
      go_ret
      exact ⟨rfl, HB.out⟩
end Go.Proofs.YtedanlmippfojaaDoor

namespace Go.Proofs.YtedanlmippfojaaDoor
open Go.RowKit
set_option linter.unusedSimpArgs false
set_option linter.unusedVariables false

theorem sub_flat {f : Op7 → List Op7} (hf : ∀ o, o ∈ f o) : ∀ K : List Op7, K.Sublist (K.flatMap f)
  | [] => List.Sublist.refl _
  | o :: K => by
    rw [List.flatMap_cons, show o :: K = [o] ++ K from rfl]
    exact (List.singleton_sublist.2 (hf o)).append (sub_flat hf K)
theorem kids_side (l : List Op7) (n : Nat) (x : Int × Int × Int) : (kidsL l x).Sublist (sideO l (n + 1) x) :=
  sub_flat (fun o => by simp) _
/-- Kids stand among all as they stand among kids. -/
theorem kids_sub {l : List Op7} (h : opsB l = true) (x : Int × Int × Int) : (kidsL l x).Sublist (allO l) := by
  cases hk : kidsL l x with
  | nil => exact List.nil_sublist _
  | cons u r =>
    have hu : u ∈ kidsL l x := by rw [hk]; simp
    rw [← hk]
    obtain ⟨h1, h2, hx⟩ := mem_kids hu
    obtain ⟨d, hd⟩ := put_up h h1
    rcases up_inv hd with ⟨_, h0⟩ | ⟨e, p, _, hp, hpk, hpu, h0⟩
    · have hs := put_side h h1 h2
      have hx1 : x = (0, 0, 1) := by
        simp only [Prod.mk.injEq] at h0
        rw [hx, h0.1, h0.2]
        rcases hs with ⟨_, _, hs⟩ | ⟨hs, _⟩
        · rw [hs]
        · omega
      rw [hx1]
      exact kids_side l _ _
    · obtain ⟨pre, post, n, d2, hu2, hn, he⟩ := all_both (all_mem h hp hpk)
      simp only [Prod.mk.injEq] at h0
      have hup : Up l (d2 + 1) (u.a, u.b) := Up.step h1 h2 (by rw [h0.1, h0.2]; exact hu2)
      have hle := up_le h hup
      obtain ⟨m, rfl⟩ : ∃ m, n = m + 1 := ⟨n - 1, by omega⟩
      rw [he]
      have hside : (kidsL l x).Sublist (sideO l (m + 1) (p.a, p.b, 0) ++ p :: sideO l (m + 1) (p.a, p.b, 1)) := by
        rcases put_s h h1 h2 with hs | hs
        · rw [hx, h0.1, h0.2, hs]
          exact (kids_side l m _).trans (List.sublist_append_left _ _)
        · rw [hx, h0.1, h0.2, hs]
          exact ((kids_side l m _).trans (List.sublist_cons_self _ _)).trans (List.sublist_append_right _ _)
      exact (hside.trans (List.sublist_append_right _ _)).trans (List.sublist_append_left _ _)
theorem kids_sorted {l : List Op7} (h : opsB l = true) (x : Int × Int × Int) : (kidsL l x).Pairwise fun p q => lessB p q = true :=
  (ops_sorted h).sublist List.filter_sublist
/-- Where a kid stands among leaves. -/
theorem kid_leaf {l : List Op7} (h : opsB l = true) {x : Int × Int × Int} {o : Op7} (ho : o ∈ kidsL l x) : ∃ k : Nat, atI (lfs l (allO l)) o.a o.b = (k : Nat) ∧ (allO l)[k]? = some o := by
  obtain ⟨h1, h2, _⟩ := mem_kids ho
  obtain ⟨k, hk, ha, hb⟩ := put_leaf h h1 h2
  refine ⟨k, ha, ?_⟩
  have hk' : k < (allO l).length := by rw [lfs_len] at hk; exact hk
  rw [List.getElem?_eq_getElem hk']
  have hm : (allO l)[k] ∈ l := (side_put _ (List.getElem_mem hk')).1
  have he : (lfs l (allO l))[k] = ⟨(allO l)[k].a, (allO l)[k].b, (allO l)[k].g, goneB l ((allO l)[k].a, (allO l)[k].b)⟩ := by simp [lfs]
  rw [he] at hb
  simp only [Lf.mk.injEq] at hb
  rw [once_eq (once_ops h) hm h1 hb.1 hb.2.1]
/-- Of two kids of one side: the first one is of who is ahead, and stands ahead. -/
theorem kids_ahead {l : List Op7} (h : opsB l = true) {x : Int × Int × Int} {i : Nat} (hi : i + 1 < (kidsL l x).length) :
    lessB (kidsL l x)[i] (kidsL l x)[i + 1] = true ∧ atI (lfs l (allO l)) (kidsL l x)[i].a (kidsL l x)[i].b < atI (lfs l (allO l)) (kidsL l x)[i + 1].a (kidsL l x)[i + 1].b := by
  refine ⟨List.pairwise_iff_getElem.1 (kids_sorted h x) i (i + 1) (by omega) hi (by omega), ?_⟩
  obtain ⟨a, ha, ha2⟩ := kid_leaf h (x := x) (List.getElem_mem (show i < (kidsL l x).length by omega))
  obtain ⟨b, hb, hb2⟩ := kid_leaf h (x := x) (List.getElem_mem hi)
  rw [ha, hb]
  have := sub_at (kids_sub h x) (nodup_all h) (i := i) (j := i + 1) (List.getElem?_eq_getElem (by omega)) (List.getElem?_eq_getElem hi) ha2 hb2 (by omega)
  omega
/-- A kid is found, and is what it is. -/
theorem kid_found {l : List Op7} (h : opsB l = true) {r m s : Int} {o : Op7} (ho : o ∈ kidsL l (r, m, s)) : ∃ k : Nat, findB l o.a o.b = (k : Nat) ∧ l[k]? = some o ∧ o.k = 1 ∧ o.c = r ∧ o.d = m ∧ o.s = s := by
  obtain ⟨h1, h2, hx⟩ := mem_kids ho
  simp only [Prod.mk.injEq] at hx
  obtain ⟨i, hi⟩ := List.mem_iff_getElem?.1 h1
  unfold findB
  rw [if_pos h]
  unfold findI
  cases hx2 : l.findIdx? (hasId o.a o.b) with
  | none => have := List.findIdx?_eq_none_iff.1 hx2 o h1; simp [hasId] at this
  | some k =>
    obtain ⟨g1, g2, _⟩ := List.findIdx?_eq_some_iff_getElem.1 hx2
    have g3 : l[k].a = o.a ∧ l[k].b = o.b := by simpa [hasId] using g2
    refine ⟨k, rfl, ?_, h2, hx.1.symm, hx.2.1.symm, hx.2.2.symm⟩
    rw [List.getElem?_eq_getElem g1, once_eq (once_ops h) (List.getElem_mem g1) h1 g3.1 g3.2]
end Go.Proofs.YtedanlmippfojaaDoor

namespace Go.Proofs.YtedanlmippfojaaDoor
open Go.RowKit
set_option linter.unusedSimpArgs false
set_option linter.unusedVariables false
attribute [local go_sem ↓] Go.wp_at_zero Go.wp_at_succ

theorem idIn_wfK {L : List Op7} (h : opsB L = true) {r m : Int} (hi : IdIn L r m) : wf64 r ∧ wf64 m := by
  rcases hi with ⟨o, ho, rfl, rfl⟩ | ⟨h1, h2, h3, h4⟩
  · exact ⟨(op_wf h ho).1, (op_wf h ho).2.1⟩
  · exact ⟨wf_small ⟨by omega, by omega⟩, wf_small ⟨by omega, by omega⟩⟩
/-- Things, an id in its box, in memory that has grown. -/
structure KW (w W : World) (G c B : Nat) (L : List Op7) (r m : Int) : Prop where
  own : OwnOps W w.heap.size G c L
  box : W.heap[B]? = some (.cells #[.int .i64 r, .int .i64 m] 27 (0, 0))
  bel : Below w.heap.size w W
theorem KW.below {w W W' : World} {G c B : Nat} {L : List Op7} {r m : Int} (h : KW w W G c B L r m) (hb : Below W.heap.size W W') : KW w W' G c B L r m := ⟨h.own.below hb, blk_below h.box hb, Bstep h.bel hb⟩
/-- A row of ids, kept. -/
def KidsAt (W : World) (K : List Op7) (q : Option Addr) (c : Nat) : Prop := 0 < K.length → ∃ g, q = some ⟨g, 0, none⟩ ∧ K.length ≤ c ∧ g < W.heap.size ∧ ∀ (j : Nat) (hj : j < K.length), W.cell? ⟨g, j * 2, none⟩ = some (.int .i64 K[j].a) ∧ W.cell? ⟨g, j * 2 + 1, none⟩ = some (.int .i64 K[j].b)
theorem KidsAt.below {W W' : World} {K : List Op7} {q : Option Addr} {c : Nat} (h : KidsAt W K q c) (hb : Below W.heap.size W W') : KidsAt W' K q c := fun h0 => by
  obtain ⟨g, h1, h2, h3, h4⟩ := h h0
  exact ⟨g, h1, h2, Nat.lt_of_lt_of_le h3 hb.size, fun j hj => ⟨((bcell hb).1 g _ h3).trans (h4 j hj).1, ((bcell hb).1 g _ h3).trans (h4 j hj).2⟩⟩
theorem kids_at {w : World} {base : Nat} {v : Value} {K : List Op7} (h : w.ownsRow base 27 2 v (idsOf K).length (idCells (idsOf K))) : ∃ q c, v = .slice q K.length c ∧ KidsAt w K q c := by
  obtain ⟨q, c, e, hx⟩ := idrow h
  rw [idsOf_len] at e hx
  refine ⟨q, c, e, fun h0 => ?_⟩
  obtain ⟨g, h1, h2, h3, h4, h5⟩ := hx h0
  refine ⟨g, h1, h2, h4, fun j hj => ?_⟩
  obtain ⟨i0, i1⟩ := idCells_at (idsOf K) j (K[j].a, K[j].b) (by simp [idsOf, hj])
  exact ⟨(h5 (j * 2) (by omega)).trans i0, (h5 (j * 2 + 1) (by omega)).trans i1⟩

set_option maxRecDepth 100000 in
set_option maxHeartbeats 1500000 in
theorem walkKidsOrder (w : World) (p : Option Addr) (n cap : Nat) (h : ArgBytes w p n) (hcap : n ≤ cap) (hmax : cap ≤ maxLen) (x : Addr)
    (he : w.cell? ⟨0, 0, none⟩ = some (.iface 203 (.pointer (some x)))) (h0 : 0 < w.heap.size) :
    Calls Tryd.prog 12 #[.slice p n cap] w fun e w' => e = .returned (.bool true) ∧ Below w.heap.size w w' := by
  have H := hideIt h
  clear h
  unfold maxLen at *
  by_cases hn : n ≤ 1048576
  · go_enter Tryd.func12, Tryd.ntmps12
    go_wp2_with fail
    refine (drawKids_any _ p n cap H.out hcap hn).mono ?_
    rintro e w1 ⟨G, c, L, ar, am, s, rfl, hL, hia, ⟨hs0, hs3⟩, hS, hb1⟩
    have HIA := hideIt hia
    have HX : Hid (KW w (w1.alloc (.cells #[.int .i64 ar, .int .i64 am] 27)) G c w1.heap.size L ar am) := ⟨hS.below ((Below.refl _ _).alloc (Nat.le_refl _) _), World.alloc_heap_new _ _, hb1.alloc hb1.size _⟩
    clear hS hb1 hia
    have hws : wf64 s := wf_small ⟨by omega, by omega⟩
    go_wp2_with fail
    generalize w1.alloc (.cells #[.int .i64 ar, .int .i64 am] 27) = W1 at *
    generalize w1.heap.size = B at *
    refine (implKidsO_any L G c ar am s x _ HX.out.own.at (by omega) HX.out.own.cap (errB HX.out.bel h0 he) (posB HX.out.bel h0) (fun h => (idIn_wfK h HIA.out).1) (fun h => (idIn_wfK h HIA.out).2) hws).mono ?_
    rintro e w2 ⟨v, rfl, hr2, hb2⟩
    have HR := hideIt hr2
    have HX := hideIt (HX.out.below hb2)
    clear hr2 hb2
    have hkn : (kidIds L ar am s).length ≤ 74 := by
      unfold kidIds
      split
      · rw [idsOf_len]; exact Nat.le_trans (List.length_filter_le _ _) hL
      · simp
    have x0 := (blk_cell HX.out.box 0).trans rfl
    have x1 := (blk_cell HX.out.box 1).trans rfl
    have xl := (Array.getElem?_eq_some_iff.1 HX.out.box).1
    cases ho : opsB L
    · have HO := hideIt ho
      clear ho
      go_wp2_with (first
        | (go_at_call 44; refine (specKidsT_any L G c _ _ _ _ HX.out.own.at (by omega) HX.out.own.cap).mono ?_; rintro e w3 ⟨v3, rfl, hr3, hb3⟩; have HR3 := hideIt hr3; have HR := hideIt (rowKeep HR.out hb3); have HX := hideIt (HX.out.below hb3); clear hb3 hr3 x0 x1 xl; have x0 := (blk_cell HX.out.box 0).trans rfl; have x1 := (blk_cell HX.out.box 1).trans rfl; have xl := (Array.getElem?_eq_some_iff.1 HX.out.box).1)
        | (go_at_call 43; refine (ltIds_rows (kidIds L ar am s) _ _ _ _ _ HR.out HR3.out (by omega)).mono ?_; rintro e w4 ⟨rfl, hb4⟩; have HR := hideIt (rowKeep HR.out hb4); have HX := hideIt (HX.out.below hb4); clear hb4 x0 x1 xl; have x0 := (blk_cell HX.out.box 0).trans rfl; have x1 := (blk_cell HX.out.box 1).trans rfl; have xl := (Array.getElem?_eq_some_iff.1 HX.out.box).1)
        | (go_at_call 22; refine (specOps_any L G c _ HX.out.own.at (by omega) HX.out.own.cap).mono ?_; rintro e w5 ⟨rfl, hb5⟩; rw [HO.out]; have HR := hideIt (rowKeep HR.out hb5); have HX := hideIt (HX.out.below hb5); clear hb5 x0 x1 xl; have x0 := (blk_cell HX.out.box 0).trans rfl; have x1 := (blk_cell HX.out.box 1).trans rfl; have xl := (Array.getElem?_eq_some_iff.1 HX.out.box).1))
      go_ret
      exact ⟨rfl, HX.out.bel⟩
    · have HO := hideIt ho
      have hst : standL L = allO L := by unfold standL; rw [if_pos ho]
      have hK : kidIds L ar am s = idsOf (kidsL L (ar, am, s)) := by unfold kidIds; rw [if_pos ho]
      clear ho
      go_wp2_with (first
        | (go_at_call 44; refine (specKidsT_any L G c _ _ _ _ HX.out.own.at (by omega) HX.out.own.cap).mono ?_; rintro e w3 ⟨v3, rfl, hr3, hb3⟩; have HR3 := hideIt hr3; have HR := hideIt (rowKeep HR.out hb3); have HX := hideIt (HX.out.below hb3); clear hb3 hr3 x0 x1 xl; have x0 := (blk_cell HX.out.box 0).trans rfl; have x1 := (blk_cell HX.out.box 1).trans rfl; have xl := (Array.getElem?_eq_some_iff.1 HX.out.box).1)
        | (go_at_call 43; refine (ltIds_rows (kidIds L ar am s) _ _ _ _ _ HR.out HR3.out (by omega)).mono ?_; rintro e w4 ⟨rfl, hb4⟩; have HR := hideIt (rowKeep HR.out hb4); have HX := hideIt (HX.out.below hb4); clear hb4 x0 x1 xl; have x0 := (blk_cell HX.out.box 0).trans rfl; have x1 := (blk_cell HX.out.box 1).trans rfl; have xl := (Array.getElem?_eq_some_iff.1 HX.out.box).1)
        | (go_at_call 22; refine (specOps_any L G c _ HX.out.own.at (by omega) HX.out.own.cap).mono ?_; rintro e w5 ⟨rfl, hb5⟩; rw [HO.out]; have HR := hideIt (rowKeep HR.out hb5); have HX := hideIt (HX.out.below hb5); clear hb5 x0 x1 xl; have x0 := (blk_cell HX.out.box 0).trans rfl; have x1 := (blk_cell HX.out.box 1).trans rfl; have xl := (Array.getElem?_eq_some_iff.1 HX.out.box).1))
      clear x0 x1 xl
      refine (implLeaves_any L G c x _ HX.out.own.at (by omega) HX.out.own.cap (errB HX.out.bel h0 he) (posB HX.out.bel h0)).mono ?_
      rintro e w6 ⟨vl, rfl, hrl, hb6⟩
      have HR := hideIt (rowKeep HR.out hb6)
      have HX := hideIt (HX.out.below hb6)
      clear hb6
      have hF : (lfs L (standL L)).length ≤ 74 := by rw [lfs_len]; exact Nat.le_trans (stand_len L) hL
      rw [hst] at hrl hF
      have HL := hideIt (ownsRow_base (b' := 0) (Nat.zero_le _) hrl)
      have hr' := HR.out
      rw [hK] at hr'
      obtain ⟨q, cq, rfl, hKA⟩ := kids_at hr'
      obtain ⟨K, hKe⟩ : ∃ K, K = kidsL L (ar, am, s) := ⟨_, rfl⟩
      have HKA : Hid (KidsAt w6 K q cq) := by rw [hKe]; exact hKA
      have HFD : Hid (∀ o ∈ K, ∃ k : Nat, findB L o.a o.b = (k : Nat) ∧ L[k]? = some o ∧ o.k = 1 ∧ o.c = ar ∧ o.d = am ∧ o.s = s) := by subst hKe; exact fun o ho => kid_found HO.out ho
      have HAH : Hid (∀ (i : Nat) (hi : i + 1 < K.length), lessB K[i] K[i + 1] = true ∧ atI (lfs L (allO L)) K[i].a K[i].b < atI (lfs L (allO L)) K[i + 1].a K[i + 1].b) := by subst hKe; exact fun i hi => kids_ahead HO.out hi
      have hkl : K.length ≤ 74 := by rw [hKe]; exact Nat.le_trans (List.length_filter_le _ _) hL
      clear hr' hKA hrl hst hK hkn HR3
      repeat (clear HR)
      rw [show (kidsL L (ar, am, s)).length = K.length by rw [hKe]]
      clear hKe
      generalize lfs L (allO L) = F at *
      go_wp2
      go_loopw [8] (fun i wr => ∃ k : Nat, k ≤ K.length ∧ i = .int .i64 k ∧ KW w wr G c B L ar am ∧ KidsAt wr K q cq ∧ wr.ownsRow 0 44 4 vl F.length (lfCells F)) (fun i _ => K.length - (intOf i).toNat)
      case atStart => exact ⟨0, Nat.zero_le _, rfl, HX.out, HKA.out, HL.out⟩
      case round =>
        clear HX HKA HL
        obtain ⟨k, hk, rfl, hX, hKA, hLf⟩ := hrel
        have HX := hideIt hX
        have HKA := hideIt hKA
        have HL := hideIt hLf
        clear hX hKA hLf
        by_cases hlt : k < K.length
        · have hlt' : (k : Int) < (K.length : Int) := by omega
          have hk0 : (0 : Int) ≤ (k : Int) := by omega
          obtain ⟨gk, rfl, hcq, hgk, hxk⟩ := HKA.out (by omega)
          obtain ⟨z0, z1⟩ := hxk k hlt
          obtain ⟨j, hj, hpj, hok, hoc, hod, hos⟩ := HFD.out K[k] (List.getElem_mem hlt)
          have hjl : j < L.length := (List.getElem?_eq_some_iff.1 hpj).1
          have hj0 : (0 : Int) ≤ (j : Int) := by omega
          have hj1 : ¬ ((j : Int) < 0) := by omega
          have hjl' : (j : Int) < (L.length : Int) := by omega
          have hjl2 : ¬ ((L.length : Int) ≤ (j : Int)) := by omega
          have x0 := (blk_cell HX.out.box 0).trans rfl
          have x1 := (blk_cell HX.out.box 1).trans rfl
          have xl := (Array.getElem?_eq_some_iff.1 HX.out.box).1
          have HFI := hideIt hj
          have HPJ := hideIt hpj
          clear hj hpj hxk
          obtain ⟨o, hoe⟩ : ∃ o, o = K[k] := ⟨_, rfl⟩
          rw [← hoe] at z0 z1 HFI HPJ hok hoc hod hos
          have HOE := hideIt hoe
          clear hoe
          obtain ⟨oa, ob, ok, oc, od, os, og⟩ := o
          simp only at hok hoc hod hos z0 z1
          subst hok hoc hod hos
          go_wp2_with (first
            | (go_at_call 40; refine (implFind_any L G c oa ob x _ HX.out.own.at (by omega) HX.out.own.cap (errB HX.out.bel h0 he) (posB HX.out.bel h0)).mono ?_; rintro e w7 ⟨rfl, hb7⟩; rw [show findB L oa ob = (j : Int) from HFI.out]; have HX := hideIt (HX.out.below hb7); have HKA := hideIt (HKA.out.below hb7); have HL := hideIt (rowKeep HL.out hb7); clear hb7 x0 x1 xl z0 z1))
          have x0 := (blk_cell HX.out.box 0).trans rfl
          have x1 := (blk_cell HX.out.box 1).trans rfl
          have xl := (Array.getElem?_eq_some_iff.1 HX.out.box).1
          obtain ⟨y0, y1, y2, y3, y4, y5, y6⟩ := HX.out.own.at.2 j _ HPJ.out
          simp only at y0 y1 y2 y3 y4 y5 y6
          by_cases hk1 : k = 0
          · subst hk1
            have hkz : ¬ ((0 : Int) < ((0 : Nat) : Int)) := by omega
            go_wp2
            go_quiet (fail)
            go_wp2
            go_quiet (fail)
            go_wp2
            exact ⟨⟨1, by omega, rfl, HX.out.below (below_drewN (Below.refl _ _) _), HKA.out.below (below_drewN (Below.refl _ _) _), rowKeep HL.out (below_drewN (Below.refl _ _) _)⟩, by simp [intOf]; omega⟩
          · have hkz : (0 : Int) < (k : Int) := by omega
            have hkz2 : 0 < k := by omega
            obtain ⟨kp, hkp⟩ : ∃ kp : Nat, kp + 1 = k := ⟨k - 1, by omega⟩
            have hwk : IntKind.i64.wrap ((k : Int) - 1) = (kp : Int) := by rw [IntWalk.i64_in _ ⟨by omega, by omega⟩]; omega
            have hkk0 : (0 : Int) ≤ (kp : Int) := by omega
            have hkkl : (kp : Int) < (K.length : Int) := by omega
            have hah : lessB (K[kp]'(by omega)) K[k] = true ∧ atI F (K[kp]'(by omega)).a (K[kp]'(by omega)).b < atI F K[k].a K[k].b := by
              subst hkp
              exact HAH.out kp hlt
            obtain ⟨hls, hat⟩ := hah
            rw [← HOE.out] at hls hat
            obtain ⟨gk', hgk', _, _, hxk⟩ := HKA.out (by omega)
            cases hgk'
            obtain ⟨u0, u1⟩ := hxk kp (by omega)
            obtain ⟨z0, z1⟩ := hxk k hlt
            rw [← HOE.out] at z0 z1
            obtain ⟨u, hue⟩ : ∃ u, u = K[kp]'(by omega) := ⟨_, rfl⟩
            rw [← hue] at hls hat u0 u1
            clear hue hxk
            obtain ⟨ua, ub, uk, uc, ud, us, ug⟩ := u
            simp only at hls hat u0 u1 z0 z1
            obtain ⟨i1, hi1⟩ : ∃ i1, atI F ua ub = i1 := ⟨_, rfl⟩
            obtain ⟨i2, hi2⟩ : ∃ i2, atI F oa ob = i2 := ⟨_, rfl⟩
            rw [hi1, hi2] at hat
            have HI1 := hideIt hi1
            have HI2 := hideIt hi2
            have HLS : Hid (decide (ua < oa ∨ (ua = oa ∧ ub < ob)) = true) := hls
            have hge : ¬ (i2 ≤ i1) := by omega
            clear hls hi1 hi2 HOE
            go_wp2
            go_quiet (fail)
            go_wp2
            have hbq : ∀ q, Below w7.heap.size w7 (w7.drewN q).drew := fun q => (below_drewN (Below.refl _ _) q).drew
            have HXq : Hid (∀ q, KW w (w7.drewN q).drew G c B L oc od) := fun q => HX.out.below (hbq q)
            have HKq : Hid (∀ q, KidsAt (w7.drewN q).drew K (some ⟨gk, 0, none⟩) cq) := fun q => HKA.out.below (hbq q)
            have HLq : Hid (∀ q, (w7.drewN q).drew.ownsRow 0 44 4 vl F.length (lfCells F)) := fun q => rowKeep HL.out (hbq q)
            have hgz : ∀ q, gk < (w7.drewN q).drew.heap.size := fun q => by
              obtain ⟨g2, h2, _, h3, _⟩ := HKq.out q (by omega)
              cases h2
              exact h3
            have HX := hideIt (HXq.out nq)
            have HKA := hideIt (HKq.out nq)
            have HL := hideIt (HLq.out nq)
            have hgz := hgz nq
            clear hbq HXq HKq HLq
            go_region_held3 (fun w' => w'.cell? ⟨gk, kp * 2, none⟩ = some (.int .i64 ua) ∧ w'.cell? ⟨gk, kp * 2 + 1, none⟩ = some (.int .i64 ub) ∧ w'.cell? ⟨gk, k * 2, none⟩ = some (.int .i64 oa) ∧ w'.cell? ⟨gk, k * 2 + 1, none⟩ = some (.int .i64 ob))
              (first | exact ⟨u0, u1, z0, z1⟩)
              (first
              | (go_at_call 37; refine (implLess_any _ _ _ _ _).mono ?_; rintro e w8 ⟨rfl, hb8⟩; rw [HLS.out]; have u0 := ((bcell hb8).1 gk _ hgz).trans u0; have u1 := ((bcell hb8).1 gk _ hgz).trans u1; have z0 := ((bcell hb8).1 gk _ hgz).trans z0; have z1 := ((bcell hb8).1 gk _ hgz).trans z1; have HX := hideIt (HX.out.below hb8); have HKA := hideIt (HKA.out.below hb8); have HL := hideIt (rowKeep HL.out hb8); have hgz := Nat.lt_of_lt_of_le hgz hb8.size)
              | (go_at_call 25; (first | with_reducible refine (ltAt_any F _ _ ua ub _ HL.out (by omega)).mono ?_ | with_reducible refine (ltAt_any F _ _ oa ob _ HL.out (by omega)).mono ?_); rintro e w8 ⟨rfl, hb8⟩; (first | rw [HI1.out] | rw [HI2.out]); have u0 := ((bcell hb8).1 gk _ hgz).trans u0; have u1 := ((bcell hb8).1 gk _ hgz).trans u1; have z0 := ((bcell hb8).1 gk _ hgz).trans z0; have z1 := ((bcell hb8).1 gk _ hgz).trans z1; have HX := hideIt (HX.out.below hb8); have HKA := hideIt (HKA.out.below hb8); have HL := hideIt (rowKeep HL.out hb8); have hgz := Nat.lt_of_lt_of_le hgz hb8.size))
            rename_i hHH
            clear hHH
            go_wp2
            exact ⟨⟨k + 1, by omega, by go_num, HX.out, HKA.out, HL.out⟩, by simp [intOf]; omega⟩
        · obtain rfl : k = K.length := by omega
          go_wp2
          go_ret
          exact ⟨rfl, HX.out.bel⟩
  · go_enter Tryd.func12, Tryd.ntmps12
    have hn' : (1048576 : Int) < (n : Int) := by omega
    go_wp2
    go_ret
    exact ⟨rfl, Below.refl _ _⟩
end Go.Proofs.YtedanlmippfojaaDoor

namespace Go.Proofs.YtedanlmippfojaaDoor
open Go.ChangeShapes Go.WideShapes Go.ChangeAt Go.RowKit Go.Joins

theorem own : ownKnob Tryd.prog.godebug = none := by kernel_rfl
theorem laidOut : laidOutB Tryd.prog = true := by kernel_rfl
theorem cells_int : Tryd.prog.cellsOf 3 = 1 := by kernel_rfl

/-- The name of the one listed variable. -/
abbrev errName : String := Rows.fnTypeAnyoneSpec.vars.headD ""
/-- What the rows list. -/
abbrev laid1 : List (String × DataW Unit) := Rows.fnTypeAnyoneRow.laid
theorem gErr : Tryd.prog.globalNamed errName = some 0 := by kernel_rfl
theorem tErr : (Tryd.prog.globals[0]?).map (·.type) = some 93 := by kernel_rfl
def nmOf : DataW Unit → String
  | .iface n _ => n
  | _ => ""
theorem star : "*" ++ "errors.errorString" = nmOf Rows.laid_loop_example_tatting_impl_errNoThing := by decide
theorem nameErr (u : TypeId) (h : Tryd.prog.typeName? 3 u = some (nmOf Rows.laid_loop_example_tatting_impl_errNoThing)) : u = 203 :=
  typeName_ptr_named (nm := "errors.errorString") (by rw [star]; kernel_rfl) (by kernel_rfl) (by decide) u (by rw [star]; exact h)

theorem door_met (os : Os) (args : Array Value) : laidMetH Tryd.prog laid1 ((World.doorLaid Tryd.prog 28 os).forCall (fun _ _ => 0) ⟨#[], args, []⟩).memory :=
  laidMetH_of_parts3 (fuel := 8) (laidMet_of_run' 8 (by kernel_rfl) (by kernel_rfl)) (by kernel_rfl) (by kernel_rfl)

/-- WHAT THE CONDITION GIVES THE WALKS: the one error's cell. -/
theorem of_laid {W : World} (h : laidMetH Tryd.prog laid1 W) : ∃ x : Addr, W.var? Tryd.prog errName = some #[.iface 203 (.pointer (some x))] ∧ W.cell? ⟨0, 0, none⟩ = some (.iface 203 (.pointer (some x))) ∧ 0 < W.heap.size := by
  rw [MakeChecks.laidMetH_plain _ _ _ (by kernel_rfl)] at h
  obtain ⟨x, s, hv, hc, _, _⟩ := laid_sentinel h gErr tErr Tryd.underlying93 nameErr Tryd.underlying203 Tryd.underlying230 rfl rfl Tryd.underlying9 (by kernel_rfl) (by kernel_rfl)
  have hcell : W.cell? ⟨0, 0, none⟩ = some (.iface 203 (.pointer (some x))) := by simpa using World.var?_cell gErr hv 0
  refine ⟨x, hv, hcell, ?_⟩
  rcases Nat.eq_zero_or_pos W.heap.size with h0 | h0
  · exfalso
    simp [World.cell?, Array.eq_empty_of_size_eq_zero h0] at hcell
  · exact h0

/-- The variable holds what it held, where nothing that was there has turned. -/
theorem var_kept {W W' : World} {x : Value} (hb : Below W.heap.size W W') (h0 : 0 < W.heap.size) (hv : W.var? Tryd.prog errName = some #[x]) : W'.var? Tryd.prog errName = some #[x] := by
  unfold World.var? at hv ⊢
  rw [gErr] at hv ⊢
  simp only [Option.bind_some] at hv ⊢
  rw [hb.block 0 h0]
  exact hv
end Go.Proofs.YtedanlmippfojaaDoor

namespace Go.Proofs.YtedanlmippfojaaDoor
open Go.ChangeShapes Go.WideShapes Go.ChangeAt Go.RowKit Go.Joins

theorem cells_byte : Tryd.prog.cellsOf 5 = 1 := by kernel_rfl

set_option maxRecDepth 100000 in
theorem open_bytes {H : Type} {enc : TypeId × Value → H} {w : World} {r : Reach} {b0 : Nat} {spare : Nat → Bool} {held : Bool} {v : Value} {d : DataW H} {p : List MemPlace}
    (hv : Value.okWide Tryd.prog w r b0 22 v) (h : DataW.Trod enc Tryd.prog w 0 spare held 22 v d p) :
    ∃ (q : Option Addr) (n cap : Nat), v = .slice q n cap ∧ n ≤ cap ∧ cap ≤ maxLen ∧ ArgBytes w q n := by
  obtain ⟨q, len, cap, rfl⟩ := okWide_slice Tryd.underlying22 hv
  obtain ⟨fuel, hf⟩ := h
  rcases open_ints Tryd.underlying22 Tryd.underlying5 cells_byte hf with ⟨hcs, _⟩ | ⟨a, len', cap', zs, hcs, _, hl, hm, hz, _, hcell, hwz⟩
  · simp [Value.cells] at hcs
    obtain ⟨rfl, rfl, rfl⟩ := hcs
    exact ⟨none, 0, 0, rfl, Nat.le_refl _, Nat.zero_le _, .inl rfl⟩
  · simp [Value.cells] at hcs
    obtain ⟨rfl, rfl, rfl⟩ := hcs
    refine ⟨some a, len, cap, rfl, hl, hm, ?_⟩
    have hlz : len ≤ zs.length := by rw [hz]; split <;> omega
    rcases Nat.eq_zero_or_pos len with h0 | h0
    · exact .inl h0
    obtain ⟨b, off, spot⟩ := a
    have hspot : spot = none := by simpa [Addr.add] using World.cell?_spot (hcell 0 (by omega))
    subst hspot
    refine .inr ⟨b, off, rfl, ?_, fun i hi => ?_⟩
    · have := World.block_lt_of_cell? w _ (hcell 0 (by omega))
      simpa [Addr.add_lit] using this
    · have hc := hcell i (by omega)
      rw [Addr.add_lit] at hc
      have hb := range_u8 hwz i
      exact ⟨zs.getD i 0, by simpa [List.getD] using hb.1, by simpa [List.getD] using hb.2, hc⟩

end Go.Proofs.YtedanlmippfojaaDoor

namespace Go.Proofs.YtedanlmippfojaaDoor
open Go.ChangeShapes Go.WideShapes Go.ChangeAt Go.RowKit Go.Joins

set_option maxRecDepth 100000 in
theorem liftedFnKidsOrder (os : Os) (started : os.Started) (H : Type) (enc : TypeId × Value → H) :
    ReturnsInHanded {} Tryd.checked os 12 .any (fun w args => (Rows.fnKidsOrderSpec.pre enc Tryd.prog Tryd.f12 [] false w args ∧ laidMetH Tryd.prog laid1 w) ∧ sizedMet enc Tryd.prog Tryd.f12 (OpenSpec.ofChange Rows.fnKidsOrderSpec) false w args)
      (Rows.fnKidsOrderSpec.post enc Tryd.prog Tryd.f12 false true false false) := by
  refine returnsInHanded_of_change_and (C := Tryd.checked) (X := fun w _ => laidMetH Tryd.prog laid1 w) (fun _ _ _ hh h => h.of_heap hh) own started (by kernel_rfl) Tryd.func12
    (ChangeSpec.witness_shaped (enc := enc) (C := Tryd.checked) (os := os) (X := fun w _ => laidMetH Tryd.prog laid1 w) false (World.doorLaid Tryd.prog 28 os) #[.slice none 0 0] 8 rfl (World.shaped_of_RefB (by kernel_rfl) (by kernel_rfl)) (by kernel_rfl) (by kernel_rfl) (by kernel_rfl) (door_met os _)) ?_
  intro W base args ds gs before hval0 hW _ _ hL _
  have hval : ∀ (j : Nat) t v, Tryd.f12.params[j]? = some t → args[j]? = some v → Value.okWide Tryd.prog W .any base t v := hval0
  have hW' := hW
  obtain ⟨p, q, hA0, hV0, rfl, hfz, hnd⟩ := hW
  have hA : DataW.TrodAll enc Tryd.prog W 0 (fun _ => true) true Tryd.f12.params.toList args.toList ds p := hA0
  have hV : DataW.TrodVars enc Tryd.prog W (fun _ => true) [errName] gs q := hV0
  rw [Tryd.params12] at hA hval
  obtain ⟨v0, d0, rfl, rfl, h0⟩ := trodAll_one hA
  have k0 := h0
  have lt0 : ∀ x ∈ p, x.block < W.heap.size := by obtain ⟨m, hm⟩ := k0; exact DataW.trod_lt m _ _ _ hm
  obtain ⟨x, hv, hc, hpos⟩ := of_laid hL
  obtain ⟨rfl, rfl⟩ := hV.unique (vars_read1 enc gErr tErr Tryd.underlying93 hv trivial _)
  obtain ⟨q0, n0, c0, rfl, hc0, hm0, ha0⟩ := open_bytes (hval 0 22 v0 rfl rfl) h0
  clear hA0 hV0 hval0
  refine (walkKidsOrder W q0 n0 c0 ha0 hc0 hm0 x hc hpos).mono fun e W' ⟨he, bel⟩ => ?_
  subst he
  exact ⟨_, rfl, _, _, _, [], p, [.cell 0 0], hW', trodAll_mk1 (shut_bool Tryd.underlying4 _), trodAll_mk1 (Below.trod laidOut (by kernel_rfl) (of_decide_eq_true (by kernel_rfl)) k0 bel lt0), vars_read1 enc gErr tErr Tryd.underlying93 (var_kept bel hpos hv) trivial _, bel.frame _, fun h => by cases h⟩

theorem fnKidsOrder_row : Rows.FnKidsOrderSaid :=
  OpenClaim.holds_of_wide 12 Tryd.f12 rfl rfl rfl rfl rfl rfl rfl ⟨rfl, rfl, rfl, rfl, rfl⟩ rfl rfl rfl rfl rfl (by kernel_rfl) Tryd.func12 (by kernel_rfl)
    (of_decide_eq_true (by kernel_rfl)) (by unfold Func.isWrapper; first | (rw [if_pos (by decide +kernel)]; kernel_rfl) | (rw [if_neg (by decide +kernel)]; exact ⟨rfl, rfl⟩))
    (fun os started H enc _ => liftedFnKidsOrder os started H enc)

/-- THE STATEMENT. -/
theorem fnKidsOrder_holds : Rows.FnKidsOrderCardSaid :=
  Claim7.holds_tied_plain_at .later [] Rows.fnKidsOrderCard.laidKinds true Rows.fnKidsOrderCard.stood.harness true
    fnKidsOrder_row (fun _ h => by cases h) (by kernel_rfl) (fun _ h => by cases h) fnKidsOrder_row_tie rfl ⟨rfl, rfl⟩ (by kernel_rfl) rfl
    (fun f fn hf hfn => by
      obtain rfl : f = 12 := Option.some.inj ((show Tryd.prog.funcNamed Rows.fnKidsOrderRow.func = some 12 by kernel_rfl).symm.trans hf) |>.symm
      obtain rfl : fn = Tryd.f12 := (Option.some.inj (Tryd.func12.symm.trans hfn)).symm
      exact ⟨by kernel_rfl, fun j t ht => by
        rw [Tryd.params12] at ht
        have hm : t ∈ [22] := by simpa using Array.mem_of_getElem? ht
        have hall : ([22].all fun u => !Tryd.prog.wantsStandIn u) = true := by kernel_rfl
        exact (show Tryd.prog.wantsStandIn t = false by simpa using List.all_eq_true.1 hall t hm)⟩)
    (by kernel_rfl)
#print axioms fnKidsOrder_holds
end Go.Proofs.YtedanlmippfojaaDoor
