/- Contracts of both OpsSeen, and the walk of the law FnExactOpsSeen. -/
import Derived.Test.YtfjhecoihkbjhaaDoorFindOps
import Derived.Test.YtfjhecoihkbjhaaDoorSeen
import Derived.Test.YtfjhecoihkbjhaaDoorToOpsF
namespace Go.Proofs.YtfjhecoihkbjhaaDoor
open Go.RowKit
set_option linter.unusedSimpArgs false
set_option linter.unusedVariables false

set_option maxHeartbeats 1000000 in
theorem specSeen_any (l : List Op7) (g cap : Nat) (w : World) (hl : OpsAt w g l) (hn : l.length ≤ 1048576) (hcap : l.length ≤ cap) :
    Calls Tryd.prog 16 #[.slice (some ⟨g, 0, none⟩) l.length cap] w fun e w' =>
      ((opsB l = true ∧ ∃ G, e = .returned (.slice (some ⟨G, 0, none⟩) 3 3) ∧ IntsAt w' G [cnt l 1, cnt l 2, cnt l 3]) ∨ (opsB l = false ∧ ∃ q c, e = .returned (.slice q 0 c))) ∧ Below w.heap.size w w' := by
  have HL := hideIt hl
  have hgw := hl.1
  clear hl
  cases ho : opsB l
  all_goals
    have HO := hideIt ho
    clear ho
    go_enter Tryd.func16, Tryd.ntmps16
    go_wp2_with fail
    refine (specOps_any l _ _ _ HL.out hn hcap).mono ?_
    rintro e w1 ⟨rfl, hb1⟩
    rw [HO.out]
    have HB1 := hideIt hb1
    clear hb1
  · go_wp2
    go_ret
    exact ⟨.inr ⟨by first | rfl | trivial, _, _, rfl⟩, HB1.out.alloc HB1.out.size _⟩
  · go_wp2_with fail
    obtain ⟨hok, hord⟩ := opsB_parts HO.out
    refine (l1Seen_any l _ _ _ (HL.out.below HB1.out hgw) hn hcap hok hord).mono ?_
    rintro e w2 ⟨rfl, hI, hb2⟩
    have HB2 := hideIt (Bstep HB1.out hb2)
    have HI := hideIt hI
    clear hb2 hI hok hord
    go_wp2
    go_ret
    exact ⟨.inl ⟨by first | rfl | trivial, _, rfl, HI.out⟩, HB2.out⟩

set_option maxHeartbeats 1000000 in
theorem implSeen_any (l : List Op7) (g cap : Nat) (x : Addr) (w : World) (hl : OpsAt w g l) (hn : l.length ≤ 1048576) (hcap : l.length ≤ cap)
    (he : w.cell? ⟨0, 0, none⟩ = some (.iface 117 (.pointer (some x)))) (h0 : 0 < w.heap.size) :
    Calls Tryd.prog 17 #[.slice (some ⟨g, 0, none⟩) l.length cap] w fun e w' =>
      ((opsB l = true ∧ ∃ G, w.heap.size ≤ G ∧ e = .returned (.slice (some ⟨G, 0, none⟩) 3 3) ∧ IntsAt w' G [cnt l 1, cnt l 2, cnt l 3] ∧ ∀ j, w'.frozen? ⟨G, j, none⟩ = false) ∨ (opsB l = false ∧ e = .returned (.slice none 0 0))) ∧ Below w.heap.size w w' := by
  have HL := hideIt hl
  clear hl
  go_enter Tryd.func17, Tryd.ntmps17
  go_wp2_with fail
  refine (things_any l g cap x _ HL.out hn hcap he h0).mono ?_
  rintro e w1 ⟨(⟨ht, M, hMM, rfl, hT⟩ | ⟨ht, rfl⟩), hb1⟩
  all_goals
    have HT := hideIt ((th_same l).symm.trans ht)
    have HB1 := hideIt hb1
    have herr1 : w1.cell? ⟨0, 0, none⟩ = some (.iface 117 (.pointer (some x))) := errB hb1 h0 he
    clear ht hb1
  · have HTT := hideIt hT
    have HOK := hideIt (opsB_parts HT.out).1
    clear hT hMM
    go_wp2_with (first | (go_at_call 30; refine (is_nil x _).mono ?_; rintro e w'' ⟨rfl, rfl⟩))
    refine (count_any l M l.length _ HTT.out hn (Nat.le_refl _) HOK.out).mono ?_
    rintro e w2 ⟨rfl, hse, hfz, hb2⟩
    have HSE := hideIt hse
    have HF := hideIt hfz
    have HB2 := hideIt (Bstep HB1.out hb2)
    clear hse hfz hb2
    go_wp2
    go_ret
    exact ⟨.inl ⟨HT.out, _, HB1.out.size, rfl, HSE.out, HF.out⟩, HB2.out⟩
  · go_wp2_with (first | (go_at_call 30; refine (is_same x _).mono ?_; rintro e w'' ⟨rfl, rfl⟩))
    go_ret
    exact ⟨.inr ⟨HT.out, rfl⟩, HB1.out⟩

theorem ArgOps.only {w w' : World} {g : Nat} {p : Option Addr} {l : List Op7} (h : ArgOps w p l) (ho : OnlyBlk g w w') (hg : w.heap.size ≤ g) : ArgOps w' p l := h.below (ho.below hg)
theorem set3_ints {w : World} {g : Nat} {x1 x2 x3 : Int} (h : IntsAt w g [x1, x2, x3]) : IntsAt (((w.setCell ⟨g, 0, none⟩ (.int .i64 1)).setCell ⟨g, 1, none⟩ (.int .i64 2)).setCell ⟨g, 2, none⟩ (.int .i64 3)) g [1, 2, 3] := by
  have h0 := h.2 0 _ rfl
  have h1 := h.2 1 _ rfl
  have h2 := h.2 2 _ rfl
  refine ⟨by simpa using h.1, fun i x hx => ?_⟩
  match i, hx with
  | 0, hx => simp at hx; subst hx; simp [h0, h1, h2, go_sem]
  | 1, hx => simp at hx; subst hx; simp [h0, h1, h2, go_sem]
  | 2, hx => simp at hx; subst hx; simp [h0, h1, h2, go_sem]

set_option maxRecDepth 100000 in
set_option maxHeartbeats 2000000 in
theorem walkOpsSeen (l : List Op7) (p : Option Addr) (cap : Nat) (x : Addr) (w : World) (hl : ArgOps w p l) (hcap : l.length ≤ cap) (hmax : cap ≤ maxLen)
    (he : w.cell? ⟨0, 0, none⟩ = some (.iface 117 (.pointer (some x)))) (h0 : 0 < w.heap.size) :
    Calls Tryd.prog 5 #[.slice p l.length cap] w fun e w' => e = .returned (.bool true) ∧ Below w.heap.size w w' := by
  have HA := hideIt hl
  clear hl
  by_cases hn : l.length ≤ 1048576
  · go_enter Tryd.func5, Tryd.ntmps5
    go_wp2_with (first | (go_at_call 11; refine (sz_small _ _ _ _ hn).mono ?_; rintro e w' ⟨rfl, hw'⟩; rw [hw']; clear hw'))
    refine (toOpS_any l p cap _ HA.out hn hcap).mono ?_
    rintro e w1 ⟨rfl, hA1, hB1⟩
    have HA1 := hideIt hA1
    have HB1 := hideIt hB1
    clear hA1 hB1
    go_wp2_with fail
    refine (specSeen_any l _ _ _ HA1.out hn (Nat.le_refl _)).mono ?_
    rintro e w2 ⟨(⟨hop, G0, rfl, hI2⟩ | ⟨hop, q0, c0, rfl⟩), hB2⟩
    all_goals
      have HOP := hideIt hop
      have HB2 := hideIt (Bstep HB1.out hB2)
      clear hB2 hop HA1 HB1
    · have HI2 := hideIt hI2
      clear hI2
      go_wp2_with fail
      refine (toOpS_anyF l p cap _ (HA.out.below HB2.out) hn hcap).mono ?_
      rintro e w3 ⟨rfl, hA3, hK3, hB3⟩
      have HA3 := hideIt hA3
      have HK3 := hideIt hK3
      have HI3 := hideIt (HI2.out.below hB3 HI2.out.1)
      have hG0 : G0 < w2.heap.size := HI2.out.1
      have hX : w.heap.size ≤ w2.heap.size := HB2.out.size
      have HB3 := hideIt (Bstep HB2.out hB3)
      clear hA3 hK3 hB3 HI2
      generalize hXX : w2.heap.size = X at *
      clear hXX HB2
      go_wp2_with fail
      refine (implSeen_any l _ _ x _ HA3.out hn (Nat.le_refl _) (errB HB3.out h0 he) (posB HB3.out h0)).mono ?_
      rintro e w4 ⟨(⟨_, G, hG, rfl, hI4, hF4⟩ | ⟨hop, rfl⟩), hB4⟩
      · have HA4 := hideIt (HA3.out.below hB4 HA3.out.1)
        have HK4 := hideIt (HK3.out.below hB4 HA3.out.1)
        have HI4 := hideIt (HI3.out.below hB4 HI3.out.1)
        have HG4 := hideIt hI4
        have HF4 := hideIt hF4
        have hXG : X < G := Nat.lt_of_lt_of_le HA3.out.1 hG
        have HB4 := hideIt (Bstep HB3.out hB4)
        clear hB4 hI4 hF4 HA3 HK3 HI3 HB3
        go_wp2_with fail
        refine (eqIntS_same [cnt l 1, cnt l 2, cnt l 3] _ _ _ _ _ HG4.out HI4.out (by simp) (by simp) (by simp)).mono ?_
        rintro e w5 ⟨rfl, hB5⟩
        have HA5 := hideIt (HA4.out.below hB5 HA4.out.1)
        have HK5 := hideIt (HK4.out.below hB5 HA4.out.1)
        have HI5 := hideIt (HI4.out.below hB5 HI4.out.1)
        have HG5 := hideIt (HG4.out.below hB5 HG4.out.1)
        have HF5 : Hid (∀ j, w5.frozen? ⟨G, j, none⟩ = false) := fun j => by rw [(bcell hB5).2 _ _ HG4.out.1]; exact HF4.out j
        have HB5 := hideIt (Bstep HB4.out hB5)
        clear hB5 HA4 HK4 HI4 HG4 HF4 HB4
        go_wp2_with fail
        refine (toOpS_any l p cap _ (HA.out.below HB5.out) hn hcap).mono ?_
        rintro e w6 ⟨rfl, hA6', hB6⟩
        have HA66 := hideIt hA6'
        have HA6 := hideIt (HA5.out.below hB6 HA5.out.1)
        have HK6 := hideIt (HK5.out.below hB6 HA5.out.1)
        have HI6 := hideIt (HI5.out.below hB6 HI5.out.1)
        have HG6 := hideIt (HG5.out.below hB6 HG5.out.1)
        have HF6 : Hid (∀ j, w6.frozen? ⟨G, j, none⟩ = false) := fun j => by rw [(bcell hB6).2 _ _ HG5.out.1]; exact HF5.out j
        have HB6 := hideIt (Bstep HB5.out hB6)
        clear hA6' hB6 HA5 HK5 HI5 HG5 HF5 HB5
        go_wp2_with fail
        refine (eqOpS_same l _ _ _ _ _ HA6.out HA66.out hn (Nat.le_refl _) (Nat.le_refl _)).mono ?_
        rintro e w7 ⟨rfl, hB7⟩
        have hX7 : X < w7.heap.size := Nat.lt_of_lt_of_le HA6.out.1 hB7.size
        have HK7 := hideIt (HK6.out.below hB7 HA6.out.1)
        have HI7 := hideIt (HI6.out.below hB7 HI6.out.1)
        have HG7 := hideIt (HG6.out.below hB7 HG6.out.1)
        have HF7 : Hid (∀ j, w7.frozen? ⟨G, j, none⟩ = false) := fun j => by rw [(bcell hB7).2 _ _ HG6.out.1]; exact HF6.out j
        have HB7 := hideIt (Bstep HB6.out hB7)
        clear hB7 HA6 HA66 HK6 HI6 HG6 HF6 HB6
        go_wp2_with fail
        refine (markOpS_any X l.length _ _ HK7.out hn (Nat.le_refl _)).mono ?_
        rintro e w8 ⟨rfl, hO8⟩
        have HI8 := hideIt (hO8.ints (by omega) HI7.out)
        have HG8 := hideIt (hO8.ints (by omega) HG7.out)
        have HF8 : Hid (∀ j, w8.frozen? ⟨G, j, none⟩ = false) := fun j => by
          have e : w8.frozen? ⟨G, j, none⟩ = w7.frozen? ⟨G, j, none⟩ := World.frozen?_of_block (hO8.block G (by omega))
          rw [e]; exact HF7.out j
        have HB8 := hideIt (HB7.out.trans (hO8.below hX))
        clear hO8 HK7 HI7 HG7 HF7 HB7
        go_wp2_with fail
        refine (eqIntS_same [cnt l 1, cnt l 2, cnt l 3] _ _ _ _ _ HG8.out HI8.out (by simp) (by simp) (by simp)).mono ?_
        rintro e w9 ⟨rfl, hB9⟩
        have HI9 := hideIt (HI8.out.below hB9 HI8.out.1)
        have HG9 := hideIt (HG8.out.below hB9 HG8.out.1)
        have HF9 : Hid (∀ j, w9.frozen? ⟨G, j, none⟩ = false) := fun j => by rw [(bcell hB9).2 _ _ HG8.out.1]; exact HF8.out j
        have HB9 := hideIt (Bstep HB8.out hB9)
        clear hB9 HI8 HG8 HF8 HB8
        go_wp2_with fail
        refine (mark3 G _ _ _ _ HG9.out HF9.out).mono ?_
        rintro e w10 ⟨rfl, hw10⟩
        have HG10 : Hid (IntsAt w10 G [1, 2, 3]) := by rw [hw10]; exact set3_ints HG9.out
        have hO10 : OnlyBlk G w9 w10 := by rw [hw10]; exact (((OnlyBlk.refl _ _).setCell _ _).setCell _ _).setCell _ _
        have HI10 := hideIt (hO10.ints (by omega) HI9.out)
        have HB10 := hideIt (HB9.out.trans (hO10.below (by omega)))
        clear hw10 hO10 HI9 HG9 HF9 HB9
        go_wp2_with fail
        refine (held3 G 3 _ HG10.out).mono ?_
        rintro e w11 ⟨rfl, rfl⟩
        go_wp2_with fail
        refine (toOpS_any l p cap _ (HA.out.below HB10.out) hn hcap).mono ?_
        rintro e w12 ⟨rfl, hA12, hB12⟩
        have HA12 := hideIt hA12
        have HI12 := hideIt (HI10.out.below hB12 HI10.out.1)
        have HG12 := hideIt (HG10.out.below hB12 HG10.out.1)
        have HB12 := hideIt (Bstep HB10.out hB12)
        clear hA12 hB12 HI10 HG10 HB10
        go_wp2_with fail
        refine (implSeen_any l _ _ x _ HA12.out hn (Nat.le_refl _) (errB HB12.out h0 he) (posB HB12.out h0)).mono ?_
        rintro e w13 ⟨(⟨_, G2, _, rfl, hI13, _⟩ | ⟨hop, rfl⟩), hB13⟩
        · have HH13 := hideIt hI13
          have HI13 := hideIt (HI12.out.below hB13 HI12.out.1)
          have HG13 := hideIt (HG12.out.below hB13 HG12.out.1)
          have HB13 := hideIt (Bstep HB12.out hB13)
          clear hI13 hB13 HA12 HI12 HG12 HB12
          go_wp2_with fail
          refine (eqIntS_same [cnt l 1, cnt l 2, cnt l 3] _ _ _ _ _ HH13.out HI13.out (by simp) (by simp) (by simp)).mono ?_
          rintro e w14 ⟨rfl, hB14⟩
          have HG14 := hideIt (HG13.out.below hB14 HG13.out.1)
          have HB14 := hideIt (Bstep HB13.out hB14)
          clear hB14 HH13 HI13 HG13 HB13
          go_wp2_with fail
          refine (held3 G 3 _ HG14.out).mono ?_
          rintro e w15 ⟨rfl, rfl⟩
          go_wp2
          go_ret
          exact ⟨rfl, HB14.out⟩
        · rw [HOP.out] at hop; cases hop
      · rw [HOP.out] at hop; cases hop
    · go_wp2_with fail
      refine (toOpS_anyF l p cap _ (HA.out.below HB2.out) hn hcap).mono ?_
      rintro e w3 ⟨rfl, hA3, hK3, hB3⟩
      have HA3 := hideIt hA3
      have HK3 := hideIt hK3
      have hX : w.heap.size ≤ w2.heap.size := HB2.out.size
      have HB3 := hideIt (Bstep HB2.out hB3)
      clear hA3 hK3 hB3
      generalize hXX : w2.heap.size = X at *
      clear hXX HB2
      go_wp2_with fail
      refine (implSeen_any l _ _ x _ HA3.out hn (Nat.le_refl _) (errB HB3.out h0 he) (posB HB3.out h0)).mono ?_
      rintro e w4 ⟨(⟨hop, _⟩ | ⟨_, rfl⟩), hB4⟩
      · rw [HOP.out] at hop; cases hop
      · have HA4 := hideIt (HA3.out.below hB4 HA3.out.1)
        have HK4 := hideIt (HK3.out.below hB4 HA3.out.1)
        have HB4 := hideIt (Bstep HB3.out hB4)
        clear hB4 HA3 HK3 HB3
        go_wp2_with fail
        refine (eqIntS_none _ _ _ _ _).mono ?_
        rintro e w5 ⟨rfl, hw5⟩
        rw [hw5]
        clear hw5
        go_wp2_with fail
        refine (toOpS_any l p cap _ (HA.out.below HB4.out) hn hcap).mono ?_
        rintro e w6 ⟨rfl, hA6', hB6⟩
        have HA66 := hideIt hA6'
        have HA6 := hideIt (HA4.out.below hB6 HA4.out.1)
        have HK6 := hideIt (HK4.out.below hB6 HA4.out.1)
        have HB6 := hideIt (Bstep HB4.out hB6)
        clear hA6' hB6 HA4 HK4 HB4
        go_wp2_with fail
        refine (eqOpS_same l _ _ _ _ _ HA6.out HA66.out hn (Nat.le_refl _) (Nat.le_refl _)).mono ?_
        rintro e w7 ⟨rfl, hB7⟩
        have HK7 := hideIt (HK6.out.below hB7 HA6.out.1)
        have HB7 := hideIt (Bstep HB6.out hB7)
        clear hB7 HA6 HA66 HK6 HB6
        go_wp2_with fail
        refine (markOpS_any X l.length _ _ HK7.out hn (Nat.le_refl _)).mono ?_
        rintro e w8 ⟨rfl, hO8⟩
        have HB8 := hideIt (HB7.out.trans (hO8.below hX))
        clear hO8 HK7 HB7
        go_wp2_with fail
        refine (eqIntS_none _ _ _ _ _).mono ?_
        rintro e w9 ⟨rfl, hw9⟩
        rw [hw9]
        clear hw9
        go_wp2_with fail
        refine (markIntS_none _ _ _).mono ?_
        rintro e w10 ⟨rfl, hw10⟩
        rw [hw10]
        clear hw10
        go_wp2_with fail
        refine (heldIntS_none _ _ _).mono ?_
        rintro e w11 ⟨rfl, hw11⟩
        rw [hw11]
        clear hw11
        go_wp2_with fail
        refine (toOpS_any l p cap _ (HA.out.below HB8.out) hn hcap).mono ?_
        rintro e w12 ⟨rfl, hA12, hB12⟩
        have HA12 := hideIt hA12
        have HB12 := hideIt (Bstep HB8.out hB12)
        clear hA12 hB12 HB8
        go_wp2_with fail
        refine (implSeen_any l _ _ x _ HA12.out hn (Nat.le_refl _) (errB HB12.out h0 he) (posB HB12.out h0)).mono ?_
        rintro e w13 ⟨(⟨hop, _⟩ | ⟨_, rfl⟩), hB13⟩
        · rw [HOP.out] at hop; cases hop
        · have HB13 := hideIt (Bstep HB12.out hB13)
          clear hB13 HA12 HB12
          go_wp2_with fail
          refine (eqIntS_none _ _ _ _ _).mono ?_
          rintro e w14 ⟨rfl, hw14⟩
          rw [hw14]
          clear hw14
          go_wp2_with fail
          refine (heldIntS_none _ _ _).mono ?_
          rintro e w15 ⟨rfl, hw15⟩
          rw [hw15]
          clear hw15
          go_wp2
          go_ret
          exact ⟨rfl, HB13.out⟩
  · go_enter Tryd.func5, Tryd.ntmps5
    go_wp2_with (first | (go_at_call 11; refine (sz_big _ _ _ _ (by omega) (by omega)).mono ?_; rintro e w' ⟨rfl, rfl⟩))
    go_ret
    exact ⟨rfl, Below.refl _ _⟩
end Go.Proofs.YtfjhecoihkbjhaaDoor
