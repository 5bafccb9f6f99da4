/-
  PROVED: what OpsWith answers of drawn things, with something more, has that and all that was done, is ok, takes it no second time, and finds it where it stands (the given card of FnWithOne), for every input; the one listed variable, the program's error, reads as its own initialiser lays it.
-/
import Derived.Test.YtcnpfhnlniiacaaDoorPackW
import Derived.Test.YtcnpfhnlniiacaaDoorPackC
import Derived.Test.YtcnpfhnlniiacaaDoorPackF
import Derived.Test.YtcnpfhnlniiacaaDoorTie
import Derived.Test.YtcnpfhnlniiacaaDoorCards
import Derived.SevenTiedAt
namespace Go.Proofs.YtcnpfhnlniiacaaDoor
open Go.RowKit
set_option linter.unusedSimpArgs false
set_option linter.unusedVariables false
attribute [local go_sem ↓] Go.wp_at_zero Go.wp_at_succ

set_option maxRecDepth 100000 in
set_option maxHeartbeats 4000000 in
theorem ltHas_yes (L : List Op7) (g cap : Nat) (o : Op7) (ho : o ∈ L) (w : World) (hl : OpsAt w g L) (hn : L.length ≤ 1048576) (hcap : L.length ≤ cap) :
    Calls Tryd.prog 47 #[.slice (some ⟨g, 0, none⟩) L.length cap, .agg #[.int .i64 o.a, .int .i64 o.b, .int .i64 o.k, .int .i64 o.c, .int .i64 o.d, .int .i64 o.s, .int .i64 o.g]] w fun e w' => e = .returned (.bool true) ∧ Below w.heap.size w w' := by
  have HL := hideIt hl
  have hgw := hl.1
  have HM := hideIt ho
  clear hl ho
  have HST : Hid (WL w (w.alloc (.cells #[.int .i64 o.a, .int .i64 o.b, .int .i64 o.k, .int .i64 o.c, .int .i64 o.d, .int .i64 o.s, .int .i64 o.g] 30)) o (.slice none 0 0) []) :=
    ⟨World.ownsRow_nil _ _ _ _, World.alloc_heap_new w _, (Below.refl _ _).alloc (Nat.le_refl _) _⟩
  go_enter Tryd.func47, Tryd.ntmps47
  go_wp2
  go_loopw [5] (fun i wr => ∃ k : Nat, k ≤ L.length ∧ i = .int .i64 k ∧ (∀ j (hj : j < L.length), j < k → L[j] ≠ o) ∧ WL w wr o (.slice none 0 0) []) (fun i _ => L.length - (intOf i).toNat)
  case atStart => exact ⟨0, Nat.zero_le _, rfl, fun j hj h => by omega, HST.out⟩
  case round =>
    clear HST
    obtain ⟨k, hk, rfl, hno, hW⟩ := hrel
    have HN := hideIt hno
    have HW := hideIt hW
    clear hno hW
    by_cases hlt : k < L.length
    · have hlt' : (k : Int) < (L.length : Int) := by omega
      have hk0 : (0 : Int) ≤ (k : Int) := by omega
      have hpk : L[k]? = some L[k] := by simp [hlt]
      have HX : Hid (L[k] ≠ o → ∀ j (hj : j < L.length), j < k + 1 → L[j] ≠ o) := fun hf j hj hj1 => by
        rcases Nat.lt_or_ge j k with h | h
        · exact HN.out j hj h
        · obtain rfl : j = k := by omega
          exact hf
      generalize L[k] = q at *
      obtain ⟨y0, y1, y2, y3, y4, y5, y6⟩ := (HL.out.below HW.out.bel hgw).2 k q hpk
      obtain ⟨x0, x1, x2, x3, x4, x5, x6⟩ := HW.out.id
      by_cases hq : q = o
      · subst hq
        go_wp2
        go_quiet (fail)
        go_wp2
        go_ret
        exact ⟨rfl, below_drewN HW.out.bel _⟩
      · have HE := hideIt (HX.out hq)
        have hne := op_ne hq
        clear HX hq HN
        rcases hne with hne | ⟨e0, hne⟩ | ⟨e0, e1, hne⟩ | ⟨e0, e1, e2, hne⟩ | ⟨e0, e1, e2, e3, hne⟩ | ⟨e0, e1, e2, e3, e4, hne⟩ | ⟨e0, e1, e2, e3, e4, e5, hne⟩
        all_goals
          go_wp2
          go_quiet (fail)
          go_wp2
          exact ⟨⟨k + 1, by omega, by go_num, HE.out, HW.out.below (below_drewN (Below.refl _ _) _)⟩, by simp [intOf]; omega⟩
    · exfalso
      obtain ⟨j, hj, e⟩ := List.getElem_of_mem HM.out
      exact HN.out j hj (by omega) e
end Go.Proofs.YtcnpfhnlniiacaaDoor

namespace Go.Proofs.YtcnpfhnlniiacaaDoor
open Go.RowKit
set_option linter.unusedSimpArgs false
set_option linter.unusedVariables false
attribute [local go_sem ↓] Go.wp_at_zero Go.wp_at_succ

/-- Things, a thing in its box. -/
structure MV (w W : World) (G c O : Nat) (L : List Op7) (o : Op7) : Prop where
  own : OwnOps W w.heap.size G c L
  box : OpBlk W O o.a o.b o.k o.c o.d o.s o.g
  bel : Below w.heap.size w W
theorem OpBlk.belowV {W W' : World} {g : Nat} {a b k c d s t : Int} (h : OpBlk W g a b k c d s t) (hb : Below W.heap.size W W') : OpBlk W' g a b k c d s t := by
  obtain ⟨hc, hf⟩ := bcell hb
  exact ⟨(hc _ _ h.lt).trans h.x0, (hc _ _ h.lt).trans h.x1, (hc _ _ h.lt).trans h.x2, (hc _ _ h.lt).trans h.x3, (hc _ _ h.lt).trans h.x4, (hc _ _ h.lt).trans h.x5, (hc _ _ h.lt).trans h.x6, fun j => (hf _ _ h.lt).trans (h.fz j), Nat.lt_of_lt_of_le h.lt hb.size⟩
theorem MV.below {w W W' : World} {G c O : Nat} {L : List Op7} {o : Op7} (h : MV w W G c O L o) (hb : Below W.heap.size W W') : MV w W' G c O L o := ⟨h.own.below hb, h.box.belowV hb, Bstep h.bel hb⟩
theorem okV_parts {l : List Op7} {o : Op7} (h : okW l o = true) : opsB l = true ∧ findI l o.a o.b < 0 ∧ opsB (withL l o) = true := by
  unfold okW at h
  simp only [Bool.and_eq_true, decide_eq_true_eq] at h
  exact ⟨h.1, h.2.1, h.2.2⟩

set_option maxRecDepth 100000 in
set_option maxHeartbeats 8000000 in
theorem walkWithOne (w : World) (p : Option Addr) (n cap : Nat) (h : ArgBytes w p n) (hcap : n ≤ cap) (hmax : cap ≤ maxLen) (x : Addr)
    (he : w.cell? ⟨0, 0, none⟩ = some (.iface 164 (.pointer (some x)))) (h0 : 0 < w.heap.size) :
    Calls Tryd.prog 14 #[.slice p n cap] w fun e w' => e = .returned (.bool true) ∧ Below w.heap.size w w' := by
  have H := hideIt h
  clear h
  unfold maxLen at *
  by_cases hn : n ≤ 1048576
  · go_enter Tryd.func14, Tryd.ntmps14
    go_wp2_with fail
    refine (drawWith_any _ p n cap H.out hcap hn).mono ?_
    rintro e w1 ⟨G, c, L, o, rfl, hL, hS, hb1⟩
    unfold opV
    have HS := hideIt hS
    have HB := hideIt hb1
    clear hS hb1
    go_wp2_with fail
    have HM : Hid (MV w (w1.alloc (.cells #[.int .i64 o.a, .int .i64 o.b, .int .i64 o.k, .int .i64 o.c, .int .i64 o.d, .int .i64 o.s, .int .i64 o.g] 30)) G c w1.heap.size L o) := ⟨HS.out.below ((Below.refl _ _).alloc (Nat.le_refl _) _), ⟨by simp [go_sem], by simp [go_sem], by simp [go_sem], by simp [go_sem], by simp [go_sem], by simp [go_sem], by simp [go_sem], fun j => by simp [go_sem], by simp⟩, HB.out.alloc HB.out.size _⟩
    clear HS HB
    generalize w1.alloc (.cells #[.int .i64 o.a, .int .i64 o.b, .int .i64 o.k, .int .i64 o.c, .int .i64 o.d, .int .i64 o.s, .int .i64 o.g] 30) = W1 at *
    generalize w1.heap.size = O at *
    have hLw : (ansW L o).length ≤ 1000 := by
      cases hz : okW L o
      · rw [ansW_no hz]; simp
      · rw [ansW_yes hz]; have := withL_lenW L o; omega
    refine (specWith_any L G c o _ HM.out.own.at (by omega) HM.out.own.cap).mono ?_
    rintro e w2 ⟨vw, rfl, hrw, hb2⟩
    have HRW := hideIt (ownsRow_base HM.out.bel.size hrw)
    have HM := hideIt (HM.out.below hb2)
    clear hrw hb2
    obtain ⟨x0, x1, x2, x3, x4, x5, x6, xf, xl⟩ := HM.out.box
    go_wp2_with fail
    refine (implWith_any L G c o x _ HM.out.own.at (by omega) HM.out.own.cap (errB HM.out.bel h0 he) (posB HM.out.bel h0)).mono ?_
    rintro e w3 ⟨vg, rfl, hrg, hb3⟩
    have HRG := hideIt (ownsRow_base HM.out.bel.size hrg)
    have HRW := hideIt (rowKeep HRW.out hb3)
    have HM := hideIt (HM.out.below hb3)
    clear hrg hb3 x0 x1 x2 x3 x4 x5 x6 xf xl
    cases hz : okW L o
    · have HZ := hideIt hz
      clear hz
      go_wp2_with (first
        | (go_at_call 37; refine (ltOps_rows (ansW L o) _ _ _ _ _ HRG.out HRW.out (by omega)).mono ?_; rintro e w4 ⟨rfl, hb4⟩; have HRG := hideIt (rowKeep HRG.out hb4); have HRW := hideIt (rowKeep HRW.out hb4); have HM := hideIt (HM.out.below hb4); clear hb4))
      go_ret
      exact ⟨rfl, HM.out.bel⟩
    · have HZ := hideIt hz
      obtain ⟨hop, hfi, how⟩ := okV_parts hz
      have HOP := hideIt hop
      have HOW := hideIt how
      have hE : ansW L o = withL L o := ansW_yes hz
      have hwl1 : 0 < (withL L o).length := by unfold withL; simp only [List.length_append, List.length_cons, List.length_nil]; omega
      have hno := find_new hfi
      have HMEM : Hid (∀ q ∈ L, q ∈ withL L o) := fun q hq => (withL_mem (ops_sorted hop) hno q).2 (.inr hq)
      have hlen : (withL L o).length = L.length + 1 := by
        obtain ⟨A, B, h1, h2⟩ := withL_split (ops_sorted hop) hno
        rw [h2]
        conv => rhs; rw [h1]
        simp only [List.length_append, List.length_cons]
        omega
      have hom : o ∈ withL L o := (withL_mem (ops_sorted hop) hno o).2 (.inl rfl)
      have hfd : ∃ kf : Nat, ∃ hk : kf < (withL L o).length, findI (withL L o) o.a o.b = kf ∧ (withL L o)[kf] = o := by
        unfold findI
        cases hx : (withL L o).findIdx? (hasId o.a o.b) with
        | none => have := List.findIdx?_eq_none_iff.1 hx o hom; simp [hasId] at this
        | some i =>
          obtain ⟨h1, h2, _⟩ := List.findIdx?_eq_some_iff_getElem.1 hx
          refine ⟨i, h1, rfl, ?_⟩
          have h3 : (withL L o)[i].a = o.a ∧ (withL L o)[i].b = o.b := by simpa [hasId] using h2
          exact once_eq (once_of (opsParts how).1 (opsParts how).2) (List.getElem_mem h1) hom h3.1 h3.2
      have HLEN := hideIt hlen
      clear hlen
      obtain ⟨kf, hkl, hkf, hko⟩ := hfd
      have HAG : Hid (okW (withL L o) o = false) := by
        show okW (withL L o) o = false
        unfold okW
        rw [hkf]
        have : decide ((kf : Int) < 0) = false := decide_eq_false (by omega)
        rw [this]; simp
      have HFB : Hid (findB (withL L o) o.a o.b = kf) := by show findB (withL L o) o.a o.b = kf; unfold findB; rw [if_pos how]; exact hkf
      have hpf : (withL L o)[kf]? = some o := by rw [List.getElem?_eq_getElem hkl, hko]
      clear hz hop hfi how hno hom hkf hko
      rw [hE] at HRW HRG hLw
      clear hE
      generalize withL L o = M at *
      obtain ⟨qg, cg, rfl, hqg⟩ := oprow HRG.out
      obtain ⟨Gx, rfl, hcx, _, _, _⟩ := hqg hwl1
      clear hqg
      have HOX : Hid (OwnOps w3 w.heap.size Gx cg M) := HRG.out
      go_wp2_with (first
        | (go_at_call 37; refine (ltOps_rows M _ _ _ _ _ HRG.out HRW.out (by omega)).mono ?_; rintro e w4 ⟨rfl, hb4⟩; have HRG := hideIt (rowKeep HRG.out hb4); have HRW := hideIt (rowKeep HRW.out hb4); have HOX := hideIt (HOX.out.below hb4); have HM := hideIt (HM.out.below hb4); clear hb4; obtain ⟨x0, x1, x2, x3, x4, x5, x6, xf, xl⟩ := HM.out.box))
      refine (implWith_any M Gx cg o x _ HOX.out.at (by omega) HOX.out.cap (errB HM.out.bel h0 he) (posB HM.out.bel h0)).mono ?_
      rintro e w5 ⟨va, rfl, _, hb5⟩
      rw [HAG.out]
      have HOX := hideIt (HOX.out.below hb5)
      have HM := hideIt (HM.out.below hb5)
      clear hb5 x0 x1 x2 x3 x4 x5 x6 xf xl HRG HRW
      obtain ⟨x0, x1, x2, x3, x4, x5, x6, xf, xl⟩ := HM.out.box
      go_wp2_with fail
      refine (implFind_any M Gx cg _ _ x _ HOX.out.at (by omega) HOX.out.cap (errB HM.out.bel h0 he) (posB HM.out.bel h0)).mono ?_
      rintro e w6 ⟨rfl, hb6⟩
      rw [HFB.out]
      have HOX := hideIt (HOX.out.below hb6)
      have HM := hideIt (HM.out.below hb6)
      clear hb6 x0 x1 x2 x3 x4 x5 x6 xf xl
      go_wp2
      go_loopw [12] (fun i wr => ∃ k : Nat, k ≤ L.length ∧ i = .int .i64 k ∧ OwnOps wr w.heap.size Gx cg M ∧ MV w wr G c O L o) (fun i _ => L.length - (intOf i).toNat)
      case atStart => exact ⟨0, Nat.zero_le _, rfl, HOX.out, HM.out⟩
      case round =>
        clear HOX HM
        obtain ⟨k, hk, rfl, hX, hM⟩ := hrel
        have HOX := hideIt hX
        have HM := hideIt hM
        clear hX hM
        by_cases hlt : k < L.length
        · have hlt' : (k : Int) < (L.length : Int) := by omega
          have hk0 : (0 : Int) ≤ (k : Int) := by omega
          have hpk : L[k]? = some L[k] := by simp [hlt]
          have HIN := hideIt (HMEM.out L[k] (List.getElem_mem hlt))
          generalize L[k] = q at *
          obtain ⟨y0, y1, y2, y3, y4, y5, y6⟩ := HM.out.own.at.2 k q hpk
          go_wp2_with (first
            | (go_at_call 47; refine (ltHas_yes M Gx cg q HIN.out _ HOX.out.at (by omega) HOX.out.cap).mono ?_; rintro e w7 ⟨rfl, hb7⟩; have HOX := hideIt (HOX.out.below hb7); have HM := hideIt (HM.out.below hb7); clear hb7))
          exact ⟨⟨k + 1, by omega, by go_num, HOX.out, HM.out⟩, by simp [intOf]; omega⟩
        · obtain rfl : k = L.length := by omega
          obtain ⟨y0, y1, y2, y3, y4, y5, y6⟩ := HOX.out.at.2 kf o hpf
          obtain ⟨x0, x1, x2, x3, x4, x5, x6, xf, xl⟩ := HM.out.box
          have hkl' : (kf : Int) < (M.length : Int) := by omega
          have hkf0 : (0 : Int) ≤ (kf : Int) := by omega
          have hw1 : IntKind.i64.wrap ((L.length : Int) + 1) = (M.length : Int) := by rw [IntWalk.i64_in _ ⟨by omega, by omega⟩]; have := HLEN.out; omega
          go_wp2_with fail
          have HOX := hideIt (HOX.out.below ((Below.refl _ _).drew))
          have HM := hideIt (HM.out.below ((Below.refl _ _).drew))
          go_region_held3 (fun w' => w'.cell? ⟨Gx, kf * 7, none⟩ = some (.int .i64 o.a) ∧ w'.cell? ⟨Gx, kf * 7 + 1, none⟩ = some (.int .i64 o.b) ∧ w'.cell? ⟨Gx, kf * 7 + 2, none⟩ = some (.int .i64 o.k) ∧ w'.cell? ⟨Gx, kf * 7 + 3, none⟩ = some (.int .i64 o.c) ∧ w'.cell? ⟨Gx, kf * 7 + 4, none⟩ = some (.int .i64 o.d) ∧ w'.cell? ⟨Gx, kf * 7 + 5, none⟩ = some (.int .i64 o.s) ∧ w'.cell? ⟨Gx, kf * 7 + 6, none⟩ = some (.int .i64 o.g) ∧ w'.cell? ⟨O, 0, none⟩ = some (.int .i64 o.a) ∧ w'.cell? ⟨O, 1, none⟩ = some (.int .i64 o.b) ∧ w'.cell? ⟨O, 2, none⟩ = some (.int .i64 o.k) ∧ w'.cell? ⟨O, 3, none⟩ = some (.int .i64 o.c) ∧ w'.cell? ⟨O, 4, none⟩ = some (.int .i64 o.d) ∧ w'.cell? ⟨O, 5, none⟩ = some (.int .i64 o.s) ∧ w'.cell? ⟨O, 6, none⟩ = some (.int .i64 o.g))
            (first | exact ⟨y0, y1, y2, y3, y4, y5, y6, x0, x1, x2, x3, x4, x5, x6⟩ | exact ⟨u0, u1, u2, u3, u4, u5, u6, v0, v1, v2, v3, v4, v5, v6⟩)
            (first | (go_at_call 31; refine (implOps_any M Gx cg x _ HOX.out.at (by omega) HOX.out.cap (errB HM.out.bel h0 he) (posB HM.out.bel h0)).mono ?_; rintro e w8 ⟨rfl, hb8⟩; rw [th_same, HOW.out]; have HOX := hideIt (HOX.out.below hb8); have HM := hideIt (HM.out.below hb8); clear hb8; obtain ⟨u0, u1, u2, u3, u4, u5, u6⟩ := HOX.out.at.2 kf o hpf; obtain ⟨v0, v1, v2, v3, v4, v5, v6, vf, vl⟩ := HM.out.box))
          rename_i hHH
          clear hHH
          go_wp2
          go_ret
          exact ⟨rfl, HM.out.bel⟩
  · go_enter Tryd.func14, Tryd.ntmps14
    have hn' : (1048576 : Int) < (n : Int) := by omega
    go_wp2
    go_ret
    exact ⟨rfl, Below.refl _ _⟩
end Go.Proofs.YtcnpfhnlniiacaaDoor

namespace Go.Proofs.YtcnpfhnlniiacaaDoor
open Go.ChangeShapes Go.WideShapes Go.ChangeAt Go.RowKit Go.Joins

set_option maxRecDepth 100000 in
theorem liftedFnWithOne (os : Os) (started : os.Started) (H : Type) (enc : TypeId × Value → H) :
    ReturnsInHanded {} Tryd.checked os 14 .any (fun w args => (Rows.fnWithOneSpec.pre enc Tryd.prog Tryd.f14 [] false w args ∧ laidMetH Tryd.prog laid1 w) ∧ sizedMet enc Tryd.prog Tryd.f14 (OpenSpec.ofChange Rows.fnWithOneSpec) false w args)
      (Rows.fnWithOneSpec.post enc Tryd.prog Tryd.f14 false true false false) := by
  refine returnsInHanded_of_change_and (C := Tryd.checked) (X := fun w _ => laidMetH Tryd.prog laid1 w) (fun _ _ _ hh h => h.of_heap hh) own started (by kernel_rfl) Tryd.func14
    (ChangeSpec.witness_shaped (enc := enc) (C := Tryd.checked) (os := os) (X := fun w _ => laidMetH Tryd.prog laid1 w) false (World.doorLaid Tryd.prog 28 os) #[.slice none 0 0] 8 rfl (World.shaped_of_RefB (by kernel_rfl) (by kernel_rfl)) (by kernel_rfl) (by kernel_rfl) (by kernel_rfl) (door_met os _)) ?_
  intro W base args ds gs before hval0 hW _ _ hL _
  have hval : ∀ (j : Nat) t v, Tryd.f14.params[j]? = some t → args[j]? = some v → Value.okWide Tryd.prog W .any base t v := hval0
  have hW' := hW
  obtain ⟨p, q, hA0, hV0, rfl, hfz, hnd⟩ := hW
  have hA : DataW.TrodAll enc Tryd.prog W 0 (fun _ => true) true Tryd.f14.params.toList args.toList ds p := hA0
  have hV : DataW.TrodVars enc Tryd.prog W (fun _ => true) [errName] gs q := hV0
  rw [Tryd.params14] at hA hval
  obtain ⟨v0, d0, rfl, rfl, h0⟩ := trodAll_one hA
  have k0 := h0
  have lt0 : ∀ x ∈ p, x.block < W.heap.size := by obtain ⟨m, hm⟩ := k0; exact DataW.trod_lt m _ _ _ hm
  obtain ⟨x, hv, hc, hpos⟩ := of_laid hL
  obtain ⟨rfl, rfl⟩ := hV.unique (vars_read1 enc gErr tErr Tryd.underlying77 hv trivial _)
  obtain ⟨q0, n0, c0, rfl, hc0, hm0, ha0⟩ := open_bytes (hval 0 22 v0 rfl rfl) h0
  clear hA0 hV0 hval0
  refine (walkWithOne W q0 n0 c0 ha0 hc0 hm0 x hc hpos).mono fun e W' ⟨he, bel⟩ => ?_
  subst he
  exact ⟨_, rfl, _, _, _, [], p, [.cell 0 0], hW', trodAll_mk1 (shut_bool Tryd.underlying4 _), trodAll_mk1 (Below.trod laidOut (by kernel_rfl) (of_decide_eq_true (by kernel_rfl)) k0 bel lt0), vars_read1 enc gErr tErr Tryd.underlying77 (var_kept bel hpos hv) trivial _, bel.frame _, fun h => by cases h⟩

theorem fnWithOne_row : Rows.FnWithOneSaid :=
  OpenClaim.holds_of_wide 14 Tryd.f14 rfl rfl rfl rfl rfl rfl rfl ⟨rfl, rfl, rfl, rfl, rfl⟩ rfl rfl rfl rfl rfl (by kernel_rfl) Tryd.func14 (by kernel_rfl)
    (of_decide_eq_true (by kernel_rfl)) (by unfold Func.isWrapper; first | (rw [if_pos (by decide +kernel)]; kernel_rfl) | (rw [if_neg (by decide +kernel)]; exact ⟨rfl, rfl⟩))
    (fun os started H enc _ => liftedFnWithOne os started H enc)

/-- THE STATEMENT. -/
theorem fnWithOne_holds : Rows.FnWithOneCardSaid :=
  Claim7.holds_tied_plain_at .later [] Rows.fnWithOneCard.laidKinds true Rows.fnWithOneCard.stood.harness true
    fnWithOne_row (fun _ h => by cases h) (by kernel_rfl) (fun _ h => by cases h) fnWithOne_row_tie rfl ⟨rfl, rfl⟩ (by kernel_rfl) rfl
    (fun f fn hf hfn => by
      obtain rfl : f = 14 := Option.some.inj ((show Tryd.prog.funcNamed Rows.fnWithOneRow.func = some 14 by kernel_rfl).symm.trans hf) |>.symm
      obtain rfl : fn = Tryd.f14 := (Option.some.inj (Tryd.func14.symm.trans hfn)).symm
      exact ⟨by kernel_rfl, fun j t ht => by
        rw [Tryd.params14] at ht
        have hm : t ∈ [22] := by simpa using Array.mem_of_getElem? ht
        have hall : ([22].all fun u => !Tryd.prog.wantsStandIn u) = true := by kernel_rfl
        exact (show Tryd.prog.wantsStandIn t = false by simpa using List.all_eq_true.1 hall t hm)⟩)
    (by kernel_rfl)
#print axioms fnWithOne_holds
end Go.Proofs.YtcnpfhnlniiacaaDoor
