/-
  PROVED: at every argument the program's OpsWith answers as its specification, writes into no argument, and its answer is memory of its own (the given card of FnExactOpsWith), for every input; the one listed variable, the program's error, reads as its own initialiser lays it.
-/
import Derived.Test.YtfdhhebgefoalaaDoorPackC
import Derived.Test.YtfdhhebgefoalaaDoorPackM
import Derived.Test.YtfdhhebgefoalaaDoorPackT
import Derived.Test.YtfdhhebgefoalaaDoorPackO
import Derived.Test.YtfdhhebgefoalaaDoorTie
import Derived.Test.YtfdhhebgefoalaaDoorCards
import Derived.SevenTiedAt
namespace Go.Proofs.YtfdhhebgefoalaaDoor
open Go.RowKit
set_option linter.unusedSimpArgs false
set_option linter.unusedVariables false
attribute [local go_sem ↓] Go.wp_at_zero Go.wp_at_succ

/-- A thing in its box. -/
def Box7 (w W : World) (o : Op7) : Prop := W.cell? ⟨w.heap.size, 0, none⟩ = some (.int .i64 o.a) ∧ W.cell? ⟨w.heap.size, 1, none⟩ = some (.int .i64 o.b) ∧ W.cell? ⟨w.heap.size, 2, none⟩ = some (.int .i64 o.k) ∧ W.cell? ⟨w.heap.size, 3, none⟩ = some (.int .i64 o.c) ∧ W.cell? ⟨w.heap.size, 4, none⟩ = some (.int .i64 o.d) ∧ W.cell? ⟨w.heap.size, 5, none⟩ = some (.int .i64 o.s) ∧ W.cell? ⟨w.heap.size, 6, none⟩ = some (.int .i64 o.g) ∧ w.heap.size < W.heap.size ∧ Below w.heap.size w W
theorem Box7.below {w W W' : World} {o : Op7} (h : Box7 w W o) (hb : Below W.heap.size W W') : Box7 w W' o := by
  obtain ⟨h0, h1, h2, h3, h4, h5, h6, hl, hB⟩ := h
  obtain ⟨hc, _⟩ := bcell hb
  exact ⟨(hc _ _ hl).trans h0, (hc _ _ hl).trans h1, (hc _ _ hl).trans h2, (hc _ _ hl).trans h3, (hc _ _ hl).trans h4, (hc _ _ hl).trans h5, (hc _ _ hl).trans h6, Nat.lt_of_lt_of_le hl hb.size, Bstep hB hb⟩
theorem keep7 {w w1 w2 : World} {o : Op7} (hb : Below w1.heap.size w1 w2) (h : w1.cell? ⟨w.heap.size, 0, none⟩ = some (.int .i64 o.a) ∧ w1.cell? ⟨w.heap.size, 1, none⟩ = some (.int .i64 o.b) ∧ w1.cell? ⟨w.heap.size, 2, none⟩ = some (.int .i64 o.k) ∧ w1.cell? ⟨w.heap.size, 3, none⟩ = some (.int .i64 o.c) ∧ w1.cell? ⟨w.heap.size, 4, none⟩ = some (.int .i64 o.d) ∧ w1.cell? ⟨w.heap.size, 5, none⟩ = some (.int .i64 o.s) ∧ w1.cell? ⟨w.heap.size, 6, none⟩ = some (.int .i64 o.g) ∧ w.heap.size < w1.heap.size ∧ Below w.heap.size w w1) : w2.cell? ⟨w.heap.size, 0, none⟩ = some (.int .i64 o.a) ∧ w2.cell? ⟨w.heap.size, 1, none⟩ = some (.int .i64 o.b) ∧ w2.cell? ⟨w.heap.size, 2, none⟩ = some (.int .i64 o.k) ∧ w2.cell? ⟨w.heap.size, 3, none⟩ = some (.int .i64 o.c) ∧ w2.cell? ⟨w.heap.size, 4, none⟩ = some (.int .i64 o.d) ∧ w2.cell? ⟨w.heap.size, 5, none⟩ = some (.int .i64 o.s) ∧ w2.cell? ⟨w.heap.size, 6, none⟩ = some (.int .i64 o.g) ∧ w.heap.size < w2.heap.size ∧ Below w.heap.size w w2 := Box7.below (show Box7 w w1 o from h) hb
theorem Box7.grown {w W W' : World} {o : Op7} {row : Option Nat} (h : Box7 w W o) (hg : W.grownBy W' row) (hr : ∀ j, row = some j → w.heap.size < j) : Box7 w W' o := by
  obtain ⟨h0, h1, h2, h3, h4, h5, h6, hl, hB⟩ := h
  have hc : ∀ j, W'.cell? ⟨w.heap.size, j, none⟩ = W.cell? ⟨w.heap.size, j, none⟩ := fun j => grown_cell hg hl (fun e => by have := hr _ e.symm; omega) j
  exact ⟨(hc _).trans h0, (hc _).trans h1, (hc _).trans h2, (hc _).trans h3, (hc _).trans h4, (hc _).trans h5, (hc _).trans h6, Nat.lt_of_lt_of_le hl hg.size, below_grown hB hg hB.size (fun j e => by have := hr j e; omega)⟩
theorem rowBelowO {w w' : World} {b : Nat} {T : TypeId} {m : Nat} {v : Value} {n : Nat} {xs : List Value} (h : w.ownsRow b T m v n xs) (hb : Below w.heap.size w w') : w'.ownsRow b T m v n xs :=
  h.kept (row := none) ⟨hb.os, hb.tape, hb.output, hb.size, fun i hi _ => hb.block i hi⟩ (by cases v.ownBlock <;> simp)
/-- What the law holds in its hands: a thing, the specification's answer, the program's, and the block of the things that were handed in. -/
structure QW (w W : World) (o : Op7) (L Lg : List Op7) (vw vg : Value) (X : Nat) : Prop where
  box : Box7 w W o
  rw : W.ownsRow w.heap.size 34 7 vw L.length (opCells L)
  rg : W.ownsRow (X + 1) 34 7 vg Lg.length (opCells Lg)
  wx : ∀ j, vw.ownBlock = some j → j < X
  xz : w.heap.size < X
  xl : X < W.heap.size
theorem QW.bel {w W : World} {o : Op7} {L Lg : List Op7} {vw vg : Value} {X : Nat} (h : QW w W o L Lg vw vg X) : Below w.heap.size w W := h.box.2.2.2.2.2.2.2.2
theorem QW.below {w W W' : World} {o : Op7} {L Lg : List Op7} {vw vg : Value} {X : Nat} (h : QW w W o L Lg vw vg X) (hb : Below W.heap.size W W') : QW w W' o L Lg vw vg X :=
  ⟨h.box.below hb, rowBelowO h.rw hb, rowBelowO h.rg hb, h.wx, h.xz, Nat.lt_of_lt_of_le h.xl hb.size⟩
theorem QW.marked {w W W' : World} {o : Op7} {L Lg : List Op7} {vw vg : Value} {X : Nat} (h : QW w W o L Lg vw vg X) (ho : OnlyBlk X W W') : QW w W' o L Lg vw vg X := by
  have h1 := h.xz
  have h2 := h.xl
  have hg : W.grownBy W' (some X) := ⟨ho.os, ho.tape, ho.output, by rw [ho.size]; exact Nat.le_refl _, fun i _ hne => ho.block i (fun e => hne (by rw [e]))⟩
  refine ⟨h.box.grown hg (fun j e => by have := Option.some.inj e; omega), h.rw.kept hg ?_, h.rg.kept hg ?_, h.wx, h1, by rw [ho.size]; exact h2⟩
  · cases hv : vw.ownBlock with
    | none => exact .inl rfl
    | some j => exact .inr fun e => by have := h.wx j hv; have := Option.some.inj e; omega
  · cases hv : vg.ownBlock with
    | none => exact .inl rfl
    | some j => exact .inr fun e => by have := (h.rg.lt j hv).1; have := Option.some.inj e; omega
theorem QW.own {w W W' : World} {o : Op7} {L Lg Lg' : List Op7} {vw vg : Value} {X : Nat} (h : QW w W o L Lg vw vg X) (hg : W.grownBy W' vg.ownBlock) (hr : W'.ownsRow (X + 1) 34 7 vg Lg'.length (opCells Lg')) : QW w W' o L Lg' vw vg X := by
  have h1 := h.xz
  have h2 := h.xl
  have ge : ∀ j, vg.ownBlock = some j → X + 1 ≤ j := fun j e => (h.rg.lt j e).1
  refine ⟨h.box.grown hg (fun j e => by have := ge j e; omega), h.rw.kept hg ?_, hr, h.wx, h1, Nat.lt_of_lt_of_le h2 hg.size⟩
  cases hv : vw.ownBlock with
  | none => exact .inl rfl
  | some j => exact .inr fun e => by have := h.wx j hv; have := ge j e.symm; omega

set_option maxHeartbeats 1000000 in
theorem eqOpS_rows (L : List Op7) (v1 v2 : Value) (base1 base2 : Nat) (w : World) (h1 : w.ownsRow base1 34 7 v1 L.length (opCells L)) (h2 : w.ownsRow base2 34 7 v2 L.length (opCells L)) (hn : L.length ≤ 1048576) :
    Calls Tryd.prog 15 #[v1, v2] w fun e w' => e = .returned (.bool true) ∧ Below w.heap.size w w' := by
  rcases opRow_cases h1 with ⟨h0, p1, c1, rfl⟩ | ⟨h0, g1, c1, rfl, hc1, hg1, hx1⟩
  · rcases opRow_cases h2 with ⟨_, p2, c2, rfl⟩ | ⟨h0', _⟩
    · clear h1 h2
      go_enter Tryd.func15, Tryd.ntmps15
      go_wp2
      refine wp_loop_rounds 1 ?_
      rw [rounds_succ]
      go_wp2
      go_ret
      exact ⟨rfl, Below.refl _ _⟩
    · omega
  · rcases opRow_cases h2 with ⟨h0', _⟩ | ⟨_, g2, c2, rfl, hc2, hg2, hx2⟩
    · omega
    · have at1 : OpsAt w g1 L := OwnOps.at (show OwnOps w base1 g1 c1 L from h1)
      have at2 : OpsAt w g2 L := OwnOps.at (show OwnOps w base2 g2 c2 L from h2)
      exact eqOpS_same L g1 g2 c1 c2 w at1 at2 hn hc1 hc2

set_option maxRecDepth 100000 in
set_option maxHeartbeats 4000000 in
theorem walkWith (l : List Op7) (p : Option Addr) (cap : Nat) (a b k c d s g : Int) (x : Addr) (w : World) (hl : ArgOps w p l) (hcap : l.length ≤ cap) (hmax : cap ≤ maxLen)
    (he : w.cell? ⟨0, 0, none⟩ = some (.iface 165 (.pointer (some x)))) (h0 : 0 < w.heap.size) :
    Calls Tryd.prog 3 #[.slice p l.length cap, .agg #[.int .i64 a, .int .i64 b, .int .i64 k, .int .i64 c, .int .i64 d, .int .i64 s, .int .i64 g]] w fun e w' => e = .returned (.bool true) ∧ Below w.heap.size w w' := by
  obtain ⟨o, ho⟩ : ∃ o : Op7, o = ⟨a, b, k, c, d, s, g⟩ := ⟨_, rfl⟩
  obtain ⟨rfl, rfl, rfl, rfl, rfl, rfl, rfl⟩ : o.a = a ∧ o.b = b ∧ o.k = k ∧ o.c = c ∧ o.d = d ∧ o.s = s ∧ o.g = g := by rw [ho]; exact ⟨rfl, rfl, rfl, rfl, rfl, rfl, rfl⟩
  clear ho
  have HA := hideIt hl
  clear hl
  have HB0 : Hid (Box7 w (w.alloc (.cells #[.int .i64 o.a, .int .i64 o.b, .int .i64 o.k, .int .i64 o.c, .int .i64 o.d, .int .i64 o.s, .int .i64 o.g] 26)) o) := ⟨by simp [go_sem], by simp [go_sem], by simp [go_sem], by simp [go_sem], by simp [go_sem], by simp [go_sem], by simp [go_sem], by simp, (Below.refl _ _).alloc (Nat.le_refl _) _⟩
  by_cases hn : l.length ≤ 1048576
  · have HKL : Hid ((ansW l o).length ≤ 1048576) := by
      show (ansW l o).length ≤ 1048576
      cases hz : okW l o
      · rw [ansW_no hz]; simp
      · rw [ansW_yes hz]
        have h36 : l.length ≤ 36 := ops_36 (by unfold okW at hz; simp only [Bool.and_eq_true] at hz; exact hz.1)
        have := withL_lenW l o
        omega
    go_enter Tryd.func3, Tryd.ntmps3
    go_wp2_with (first | (go_at_call 10; refine (sz_small _ _ _ _ hn).mono ?_; rintro e w' ⟨rfl, rfl⟩))
    go_region_held3 (fun w' => w'.cell? ⟨w.heap.size, 0, none⟩ = some (.int .i64 o.a) ∧ w'.cell? ⟨w.heap.size, 1, none⟩ = some (.int .i64 o.b) ∧ w'.cell? ⟨w.heap.size, 2, none⟩ = some (.int .i64 o.k) ∧ w'.cell? ⟨w.heap.size, 3, none⟩ = some (.int .i64 o.c) ∧ w'.cell? ⟨w.heap.size, 4, none⟩ = some (.int .i64 o.d) ∧ w'.cell? ⟨w.heap.size, 5, none⟩ = some (.int .i64 o.s) ∧ w'.cell? ⟨w.heap.size, 6, none⟩ = some (.int .i64 o.g) ∧ w.heap.size < w'.heap.size ∧ Below w.heap.size w w')
      (first | exact keep7 hb2 (by with_reducible assumption) | exact HB0.out.below ((Below.refl _ _).drew))
      (first
        | (go_at_call 12; refine (toOpS_any l p cap _ (HA.out.below (HB0.out.below ((Below.refl _ _).drew)).2.2.2.2.2.2.2.2) hn hcap).mono ?_; rintro e w1 ⟨rfl, hA1, hb2⟩; have HA1 : Hid (OpsAt w1 (w.heap.size + 1) l) := (by have h := hA1; simp only [World.size_drew, World.size_alloc] at h; exact h); clear hA1)
        | (go_at_call 13; refine (toOp_any _ _ _ _ _ _ _ _).mono ?_; rintro e w2 ⟨rfl, hb2⟩; have HA2 : Hid (OpsAt w2 (w.heap.size + 1) l) := HA1.out.below hb2 HA1.out.1)
        | (go_at_call 11; refine (specWith_any l (w.heap.size + 1) l.length o _ HA2.out hn (Nat.le_refl _)).mono ?_; rintro e w3 ⟨vw, rfl, hrw, hb2⟩; have HRW := hideIt (ownsRow_base (b' := w.heap.size) (by have := HA2.out.1; omega) hrw); clear hrw))
    rename_i hS
    have HS3 : Hid (Box7 w w3 o) := hS
    clear hS hb2 HA1 HA2
    go_wp2_with fail
    refine (toOpS_anyF l p cap _ (HA.out.below HS3.out.2.2.2.2.2.2.2.2) hn hcap).mono ?_
    rintro e w4 ⟨rfl, hA4, hK4, hB4⟩
    have HA4 := hideIt hA4
    have HK4 := hideIt hK4
    have HS4 := hideIt (HS3.out.below hB4)
    have HR4 := hideIt (rowBelowO HRW.out hB4)
    have HWX : Hid (∀ j, vw.ownBlock = some j → j < w3.heap.size) := fun j e => (HRW.out.lt j e).2
    have hX : w.heap.size < w3.heap.size := HS3.out.2.2.2.2.2.2.2.1
    clear hA4 hK4 hB4 HS3 HRW
    generalize hXX : w3.heap.size = X at *
    obtain ⟨k0, k1, k2, k3, k4, k5, k6, hz4, -⟩ := HS4.out
    go_wp2_with fail
    refine (toOp_any _ _ _ _ _ _ _ _).mono ?_
    rintro e w5 ⟨rfl, hB5⟩
    have HA5 := hideIt (HA4.out.below hB5 HA4.out.1)
    have HK5 := hideIt (HK4.out.below hB5 HA4.out.1)
    have HS5 := hideIt (HS4.out.below hB5)
    have HR5 := hideIt (rowBelowO HR4.out hB5)
    clear hB5 k0 k1 k2 k3 k4 k5 k6 hz4 HA4 HK4 HS4 HR4
    go_wp2_with fail
    refine (implWith_any l _ _ o x _ HA5.out hn (Nat.le_refl _) (errB HS5.out.2.2.2.2.2.2.2.2 h0 he) (posB HS5.out.2.2.2.2.2.2.2.2 h0)).mono ?_
    rintro e w6 ⟨vg, rfl, hrg, hB6⟩
    have HA6 := hideIt (HA5.out.below hB6 HA5.out.1)
    have HK6 := hideIt (HK5.out.below hB6 HA5.out.1)
    have HW6 : Hid (QW w w6 o (ansW l o) (ansW l o) vw vg X) := ⟨HS5.out.below hB6, rowBelowO HR5.out hB6, ownsRow_base HA5.out.1 hrg, HWX.out, hX, HA6.out.1⟩
    clear hrg hB6 HA5 HK5 HS5 HR5
    generalize hzw : okW l o = zw at *
    have HZW := hideIt hzw
    clear hzw
    go_wp2_with fail
    refine (eqOpS_rows (ansW l o) _ _ _ _ _ HW6.out.rg HW6.out.rw HKL.out).mono ?_
    rintro e w7 ⟨rfl, hB7⟩
    have HA7 := hideIt (HA6.out.below hB7 HA6.out.1)
    have HK7 := hideIt (HK6.out.below hB7 HA6.out.1)
    have HW7 := hideIt (HW6.out.below hB7)
    clear hB7 HA6 HK6 HW6
    go_wp2_with fail
    refine (toOpS_any l p cap _ (HA.out.below HW7.out.bel) hn hcap).mono ?_
    rintro e w8 ⟨rfl, hA8', hB8⟩
    have HA88 := hideIt hA8'
    have HA8 := hideIt (HA7.out.below hB8 HA7.out.1)
    have HK8 := hideIt (HK7.out.below hB8 HA7.out.1)
    have HW8 := hideIt (HW7.out.below hB8)
    clear hA8' hB8 HA7 HK7 HW7
    go_wp2_with fail
    refine (eqOpS_same l _ _ _ _ _ HA8.out HA88.out hn (Nat.le_refl _) (Nat.le_refl _)).mono ?_
    rintro e w9 ⟨rfl, hB9⟩
    have HK9 := hideIt (HK8.out.below hB9 HA8.out.1)
    have HW9 := hideIt (HW8.out.below hB9)
    clear hB9 HA8 HA88 HK8 HW8
    go_wp2_with fail
    refine (markOpS_any X l.length _ _ HK9.out hn (Nat.le_refl _)).mono ?_
    rintro e w10 ⟨rfl, hO10⟩
    have HW10 := hideIt (HW9.out.marked hO10)
    clear hO10 HK9 HW9
    go_wp2_with fail
    refine (eqOpS_rows (ansW l o) _ _ _ _ _ HW10.out.rg HW10.out.rw HKL.out).mono ?_
    rintro e w11 ⟨rfl, hB11⟩
    have HW11 := hideIt (HW10.out.below hB11)
    clear hB11 HW10
    go_wp2_with fail
    refine (markOpS_row vg (ansW l o).length _ _ _ HW11.out.rg HKL.out).mono ?_
    rintro e w12 ⟨rfl, hr12, hg12⟩
    have HW12 := hideIt (HW11.out.own (Lg' := marksO (ansW l o).length) hg12 (by rw [marksO_len]; exact hr12))
    clear hr12 hg12 HW11
    go_wp2_with fail
    refine (heldOpS_row vg (ansW l o).length _ _ (by have h := HW12.out.rg; rw [marksO_len] at h; exact h) HKL.out).mono ?_
    rintro e w13 ⟨rfl, hB13⟩
    have HW13 := hideIt (HW12.out.below hB13)
    have hkl := HKL.out
    generalize hNN : (ansW l o).length = N at *
    clear hB13 HW12
    have HW : Hid (QW w w13.drew o (ansW l o) (marksO N) vw vg X) := HW13.out.below ((Below.refl _ _).drew)
    have hzd : w13.drew.heap.size = w13.heap.size := rfl
    obtain ⟨k0, k1, k2, k3, k4, k5, k6, hz13, -⟩ := HW13.out.box
    clear HW13
    go_wp2_with fail
    go_region_held3 (fun w' => w'.cell? ⟨w.heap.size, 0, none⟩ = some (.int .i64 o.a) ∧ w'.cell? ⟨w.heap.size, 1, none⟩ = some (.int .i64 o.b) ∧ w'.cell? ⟨w.heap.size, 2, none⟩ = some (.int .i64 o.k) ∧ w'.cell? ⟨w.heap.size, 3, none⟩ = some (.int .i64 o.c) ∧ w'.cell? ⟨w.heap.size, 4, none⟩ = some (.int .i64 o.d) ∧ w'.cell? ⟨w.heap.size, 5, none⟩ = some (.int .i64 o.s) ∧ w'.cell? ⟨w.heap.size, 6, none⟩ = some (.int .i64 o.g) ∧ w.heap.size < w'.heap.size ∧ Below w.heap.size w w')
      (first | exact keep7 hb2 (by with_reducible assumption) | exact HW.out.box)
      (first
        | (go_at_call 12; refine (toOpS_any l p cap _ (HA.out.below HW.out.bel) hn hcap).mono ?_; rintro e w14 ⟨rfl, hA1, hb2⟩; have HA1 : Hid (OpsAt w14 w13.heap.size l) := hA1; have HW := hideIt (HW.out.below hb2); clear hA1)
        | (go_at_call 13; refine (toOp_any _ _ _ _ _ _ _ _).mono ?_; rintro e w15 ⟨rfl, hb2⟩; have HA2 : Hid (OpsAt w15 w13.heap.size l) := HA1.out.below hb2 HA1.out.1; have HW := hideIt (HW.out.below hb2))
        | (go_at_call 14; refine (implWith_any l w13.heap.size l.length o x _ HA2.out hn (Nat.le_refl _) (errB HW.out.bel h0 he) (posB HW.out.bel h0)).mono ?_; rintro e w16 ⟨vh, rfl, hrh, hb2⟩; rw [HZW.out]; have HRH := hideIt hrh; have HW := hideIt (HW.out.below hb2); clear hrh))
    rename_i hS
    clear hS hb2 HA1 HA2 k0 k1 k2 k3 k4 k5 k6 hz13
    go_wp2_with fail
    refine (eqOpS_rows (ansW l o) _ _ _ _ _ HRH.out HW.out.rw (by rw [hNN]; exact hkl)).mono ?_
    rintro e w17 ⟨rfl, hB17⟩
    have HW17 := hideIt (HW.out.below hB17)
    clear hB17 HRH
    go_wp2_with fail
    refine (heldOpS_row vg N _ _ (by have h := HW17.out.rg; rw [marksO_len] at h; exact h) hkl).mono ?_
    rintro e w18 ⟨rfl, hB18⟩
    have HW18 := hideIt (HW17.out.below hB18)
    clear hB18
    go_wp2
    go_ret
    exact ⟨rfl, HW18.out.bel⟩
  · go_enter Tryd.func3, Tryd.ntmps3
    go_wp2_with (first | (go_at_call 10; refine (sz_big _ _ _ _ (by omega) (by omega)).mono ?_; rintro e w' ⟨rfl, rfl⟩))
    go_ret
    exact ⟨rfl, HB0.out.2.2.2.2.2.2.2.2⟩
end Go.Proofs.YtfdhhebgefoalaaDoor

namespace Go.Proofs.YtfdhhebgefoalaaDoor
open Go.ChangeShapes Go.WideShapes Go.ChangeAt Go.RowKit Go.Joins

set_option maxRecDepth 100000 in
theorem fnExactOpsWith_lifted (os : Os) (started : os.Started) (H : Type) (enc : TypeId × Value → H) :
    ReturnsInHanded {} Tryd.checked os 3 .any (fun w args => (Rows.fnExactOpsWithSpec.pre enc Tryd.prog Tryd.f3 [] false w args ∧ laidMetH Tryd.prog laid1 w) ∧ sizedMet enc Tryd.prog Tryd.f3 (OpenSpec.ofChange Rows.fnExactOpsWithSpec) false w args)
      (Rows.fnExactOpsWithSpec.post enc Tryd.prog Tryd.f3 false true false false) := by
  refine returnsInHanded_of_change_and (C := Tryd.checked) (X := fun w _ => laidMetH Tryd.prog laid1 w) (fun _ _ _ hh h => h.of_heap hh) own started (by kernel_rfl) Tryd.func3
    (ChangeSpec.witness_shaped (enc := enc) (C := Tryd.checked) (os := os) (X := fun w _ => laidMetH Tryd.prog laid1 w) false (World.doorLaid Tryd.prog 28 os) #[.slice none 0 0, .agg #[.int .i64 0, .int .i64 0, .int .i64 0, .int .i64 0, .int .i64 0, .int .i64 0, .int .i64 0]] 8 rfl (World.shaped_of_RefB (by kernel_rfl) (by kernel_rfl)) (by kernel_rfl) (by kernel_rfl) (by kernel_rfl) (door_met os _)) ?_
  intro W base args ds gs before hval0 hW _ _ hL _
  have hval : ∀ (j : Nat) t v, Tryd.f3.params[j]? = some t → args[j]? = some v → Value.okWide Tryd.prog W .any base t v := hval0
  have hW' := hW
  obtain ⟨p, q, hA0, hV0, rfl, hfz, hnd⟩ := hW
  have hA : DataW.TrodAll enc Tryd.prog W 0 (fun _ => true) true Tryd.f3.params.toList args.toList ds p := hA0
  have hV : DataW.TrodVars enc Tryd.prog W (fun _ => true) [errName] gs q := hV0
  rw [Tryd.params3] at hA hval
  obtain ⟨v0, v1, d0, d1, p0, p1, rfl, rfl, rfl, h0, h1⟩ := trodAll_two hA
  have kk0 := h0
  have lt0 : ∀ x ∈ p0, x.block < W.heap.size := by obtain ⟨m, hm⟩ := kk0; exact DataW.trod_lt m _ _ _ hm
  have kk1 := h1
  have lt1 : ∀ x ∈ p1, x.block < W.heap.size := by obtain ⟨m, hm⟩ := kk1; exact DataW.trod_lt m _ _ _ hm
  obtain ⟨x, hv, hc, hpos⟩ := of_laid hL
  obtain ⟨rfl, rfl⟩ := hV.unique (vars_read1 enc gErr tErr Tryd.underlying75 hv trivial _)
  obtain ⟨pa0, l0, cap0, rfl, hcap0, hmax0, hargs0⟩ := open_ops (hval 0 22 v0 rfl rfl) h0
  obtain ⟨a1, b1, k1, c1, d1, s1, g1, rfl⟩ := open_op (hval 1 26 v1 rfl rfl) h1
  clear hA0 hV0 hval0
  refine (walkWith l0 pa0 cap0 a1 b1 k1 c1 d1 s1 g1 x W hargs0 hcap0 hmax0 hc hpos).mono fun e W' ⟨he, bel⟩ => ?_
  subst he
  exact ⟨_, rfl, _, _, _, [], _, [.cell 0 0], hW', trodAll_mk1 (shut_bool Tryd.underlying4 _), (trodAll_cons_mk (Below.trod laidOut (by kernel_rfl) (of_decide_eq_true (by kernel_rfl)) kk0 bel lt0) (trodAll_cons_mk (Below.trod laidOut (by kernel_rfl) (of_decide_eq_true (by kernel_rfl)) kk1 bel lt1) trodAll_mk0)), vars_read1 enc gErr tErr Tryd.underlying75 (var_kept bel hpos hv) trivial _, bel.frame _, fun h => by cases h⟩

theorem fnExactOpsWith_row : Rows.FnExactOpsWithSaid :=
  OpenClaim.holds_of_wide 3 Tryd.f3 rfl rfl rfl rfl rfl rfl rfl ⟨rfl, rfl, rfl, rfl, rfl⟩ rfl rfl rfl rfl rfl (by kernel_rfl) Tryd.func3 (by kernel_rfl)
    (of_decide_eq_true (by kernel_rfl)) (by unfold Func.isWrapper; first | (rw [if_pos (by decide +kernel)]; kernel_rfl) | (rw [if_neg (by decide +kernel)]; exact ⟨rfl, rfl⟩))
    (fun os started H enc _ => fnExactOpsWith_lifted os started H enc)

/-- THE STATEMENT. -/
theorem fnExactOpsWith_holds : Rows.FnExactOpsWithCardSaid :=
  Claim7.holds_tied_plain_at .later [] Rows.fnExactOpsWithCard.laidKinds true Rows.fnExactOpsWithCard.stood.harness true
    fnExactOpsWith_row (fun _ h => by cases h) (by kernel_rfl) (fun _ h => by cases h) fnExactOpsWith_row_tie rfl ⟨rfl, rfl⟩ (by kernel_rfl) rfl
    (fun f fn hf hfn => by
      obtain rfl : f = 3 := Option.some.inj ((show Tryd.prog.funcNamed Rows.fnExactOpsWithRow.func = some 3 by kernel_rfl).symm.trans hf) |>.symm
      obtain rfl : fn = Tryd.f3 := (Option.some.inj (Tryd.func3.symm.trans hfn)).symm
      exact ⟨by kernel_rfl, fun j t ht => by
        rw [Tryd.params3] at ht
        have hm : t ∈ [22, 26] := by simpa using Array.mem_of_getElem? ht
        have hall : ([22, 26].all fun u => !Tryd.prog.wantsStandIn u) = true := by kernel_rfl
        exact (show Tryd.prog.wantsStandIn t = false by simpa using List.all_eq_true.1 hall t hm)⟩)
    (by kernel_rfl)
#print axioms fnExactOpsWith_holds
end Go.Proofs.YtfdhhebgefoalaaDoor
