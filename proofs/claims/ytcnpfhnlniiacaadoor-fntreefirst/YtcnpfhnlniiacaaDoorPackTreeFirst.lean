/-
  PROVED: a drawn sign is under another one just if it is a kid of it, or under one of its kids (the given card of FnTreeFirst), for every input; the one listed variable, the program's error, reads as its own initialiser lays it.
-/
import Derived.Test.YtcnpfhnlniiacaaDoorPackF
import Derived.Deep.Upon
import Derived.Test.YtcnpfhnlniiacaaDoorTie
import Derived.Test.YtcnpfhnlniiacaaDoorCards
import Derived.SevenTiedAt
namespace Go.Proofs.YtcnpfhnlniiacaaDoor
open Go.RowKit
set_option linter.unusedSimpArgs false
set_option linter.unusedVariables false

theorem infoIdR : (Tryd.prog.info? 25).map (fun i => (i.zero, i.size, i.bytes)) = some (some (.agg #[.int .i64 0, .int .i64 0]), 2, 16) := by kernel_rfl
theorem idCells_lenR : ∀ L : List (Int × Int), (idCells L).length = L.length * 2
  | [] => rfl
  | y :: r => by have := idCells_lenR r; simp [idCells] at this ⊢; omega
theorem idCells_oneR (L : List (Int × Int)) : ∀ u ∈ idCells L, u.oneCell' = true := by
  intro u hu
  unfold idCells at hu
  obtain ⟨o, _, ho⟩ := List.mem_flatMap.1 hu
  simp at ho
  rcases ho with rfl | rfl <;> rfl
theorem idCells_appR (L M : List (Int × Int)) : idCells (L ++ M) = idCells L ++ idCells M := by simp [idCells]
theorem idRow_cases {w : World} {base : Nat} {v : Value} {L : List (Int × Int)} (h : w.ownsRow base 25 2 v L.length (idCells L)) : ∃ q c, v = .slice q L.length c ∧ L.length ≤ c ∧ ((L.length = 0 ∧ (q = none ∨ ∃ g, q = some ⟨g, 0, none⟩)) ∨ (0 < L.length ∧ ∃ g, q = some ⟨g, 0, none⟩ ∧ g < w.heap.size ∧ base ≤ g ∧ ∀ j, j < L.length * 2 → w.cell? ⟨g, j, none⟩ = (idCells L)[j]?)) := by
  have h' := h
  rcases h.2 with ⟨e, e0⟩ | ⟨g, c, cur, e, h1, h2, h3, _⟩
  · exact ⟨none, 0, by rw [e, e0], by omega, .inl ⟨e0, .inl rfl⟩⟩
  · subst e
    refine ⟨_, c, rfl, h3, ?_⟩
    rcases Nat.eq_zero_or_pos L.length with h0 | h0
    · exact .inl ⟨h0, .inr ⟨g, rfl⟩⟩
    · exact .inr ⟨h0, g, rfl, (Array.getElem?_eq_some_iff.1 h2).1, h1, fun j hj => World.ownsRow.cellAt h' j hj⟩
/-- The append of one row to another. -/
theorem app_rows {w : World} {base b1 : Nat} {v0 v1 : Value} {L M : List (Int × Int)} (h0 : w.ownsRow base 25 2 v0 L.length (idCells L)) (h1 : w.ownsRow b1 25 2 v1 M.length (idCells M)) (hl : L.length ≤ 1048576) (hm : M.length ≤ 1048576) (hb : base ≤ w.heap.size) :
    ∃ v' w', (Builtin.append_ #[33, 33] 33 #[v0, v1]).run Tryd.prog w = .ok v' w' ∧ w'.ownsRow base 25 2 v' (L ++ M).length (idCells (L ++ M)) ∧ w.grownBy w' v0.ownBlock := by
  obtain ⟨i0, hi, hz0, hz1, hz2⟩ := info_parts infoIdR
  obtain ⟨q1, c1, rfl, hc1, hq1⟩ := idRow_cases h1
  obtain ⟨q0, c0, e0, hc0, _⟩ := idRow_cases h0
  rcases hq1 with ⟨hz, hq⟩ | ⟨hpos, g, rfl, hg, _, hx⟩
  · obtain rfl : M = [] := List.length_eq_zero_iff.1 hz
    rcases hq with rfl | ⟨g, rfl⟩
    · refine ⟨v0, w, ?_, by simpa using h0, ⟨rfl, rfl, rfl, Nat.le_refl _, fun _ _ _ => rfl⟩⟩
      rw [e0]
      exact run_append_nothing w 33 33 33 25 i0 Tryd.underlying33 hi q0 L.length c0 hc0 _ (Src.ofNil w Tryd.underlying33 c1)
    · refine ⟨v0, w, ?_, by simpa using h0, ⟨rfl, rfl, rfl, Nat.le_refl _, fun _ _ _ => rfl⟩⟩
      rw [e0]
      exact run_append_nothing w 33 33 33 25 i0 Tryd.underlying33 hi q0 L.length c0 hc0 _ (Src.ofSlice w Tryd.underlying33 ⟨g, 0, none⟩ 0 c1 [] (by simp) (fun j u hj => by simp at hj) (fun u hu => by cases hu))
  · obtain ⟨v', w', h2, h3, h4, _, _⟩ := run_append_own_at (P := Tryd.prog) w base 33 33 25 i0 _ 2 16 Tryd.underlying33 hi hz0 hz1 hz2 rfl (by decide) v0 L.length (idCells L) h0 ⟨g, 0, none⟩ M.length c1 (idCells M) (idCells_lenR M) (fun j u hj => by
      have hj' := (List.getElem?_eq_some_iff.1 hj).1
      rw [idCells_lenR] at hj'
      rw [show (⟨g, 0, none⟩ : Addr).add j = ⟨g, j, none⟩ by unfold Addr.add; split <;> simp_all, hx j hj']
      exact hj) (idCells_oneR M) (by unfold maxLen; omega) (by omega) hb
    exact ⟨v', w', h2, by rw [List.length_append, idCells_appR]; exact h3, h4⟩
/-- Is one of the first k kids a, or a under it? -/
def byTo (l : List Op7) (a : Int × Int) (K : List Op7) (k : Nat) : Bool := (K.take k).any (byKid l a)
theorem byTo_zero (l : List Op7) (a : Int × Int) (K : List Op7) : byTo l a K 0 = false := by simp [byTo]
theorem byTo_more {l : List Op7} {a : Int × Int} {K : List Op7} {k : Nat} (hk : k < K.length) : byTo l a K (k + 1) = (byTo l a K k || byKid l a K[k]) := by
  unfold byTo
  rw [List.take_succ_eq_append_getElem hk, List.any_append]
  simp
theorem byTo_all (l : List Op7) (a : Int × Int) (K : List Op7) : byTo l a K K.length = K.any (byKid l a) := by unfold byTo; rw [List.take_length]
end Go.Proofs.YtcnpfhnlniiacaaDoor

namespace Go.Proofs.YtcnpfhnlniiacaaDoor
open Go.RowKit
set_option linter.unusedSimpArgs false
set_option linter.unusedVariables false
attribute [local go_sem ↓] Go.wp_at_zero Go.wp_at_succ

theorem idInF_wf {L : List Op7} (h : opsB L = true) {r m : Int} (hi : IdIn L r m) : wf64 r ∧ wf64 m := by
  rcases hi with ⟨o, ho, rfl, rfl⟩ | ⟨h1, h2, h3, h4⟩
  · exact ⟨(op_wf h ho).1, (op_wf h ho).2.1⟩
  · exact ⟨wf_small ⟨by omega, by omega⟩, wf_small ⟨by omega, by omega⟩⟩

theorem Bx.grown {W W' : World} {A : Nat} {r m : Int} {row : Option Nat} (h : Bx W A r m) (hg : W.grownBy W' row) (hr : row ≠ some A) : Bx W' A r m := by
  have hb : W'.heap[A]? = W.heap[A]? := hg.block A h.lt (fun e => hr e.symm)
  exact ⟨(World.cell?_of_block (a := ⟨A, 0, none⟩) hb).trans h.x0, (World.cell?_of_block (a := ⟨A, 1, none⟩) hb).trans h.x1, fun j => (World.frozen?_of_block (a := ⟨A, j, none⟩) hb).trans (h.fz j), Nat.lt_of_lt_of_le h.lt hg.size⟩
theorem kidIds_yes {l : List Op7} (h : opsB l = true) (r m s : Int) : kidIds l r m s = idsOf (kidsL l (r, m, s)) := by unfold kidIds; rw [if_pos h]
theorem ids_app (l : List Op7) (b : Int × Int) : idsOf (kidsL l (b.1, b.2, 0)) ++ idsOf (kidsL l (b.1, b.2, 1)) = idsOf (kidsB l b) := by simp [idsOf, kidsB]
theorem id_at {w : World} {base g c : Nat} {K : List Op7} (h : w.ownsRow base 25 2 (.slice (some ⟨g, 0, none⟩) K.length c) K.length (idCells (idsOf K))) {k : Nat} {o : Op7} (hk : K[k]? = some o) : w.cell? ⟨g, k * 2, none⟩ = some (.int .i64 o.a) ∧ w.cell? ⟨g, k * 2 + 1, none⟩ = some (.int .i64 o.b) := by
  have hl := (List.getElem?_eq_some_iff.1 hk).1
  obtain ⟨v0, v1⟩ := idCells_at (idsOf K) k (o.a, o.b) (by simp [idsOf, hk])
  exact ⟨(World.ownsRow.cellAt h _ (by omega)).trans v0, (World.ownsRow.cellAt h _ (by omega)).trans v1⟩
/-- What the law holds: things, two ids, kids. -/
structure TF (w W : World) (G c A B : Nat) (L : List Op7) (ar am br bm : Int) : Prop where
  own : OwnOps W w.heap.size G c L
  a : Bx W A ar am
  b : Bx W B br bm
  bel : Below w.heap.size w W
theorem TF.below {w W W' : World} {G c A B : Nat} {L : List Op7} {ar am br bm : Int} (h : TF w W G c A B L ar am br bm) (hb : Below W.heap.size W W') : TF w W' G c A B L ar am br bm :=
  ⟨h.own.below hb, h.a.below hb, h.b.below hb, Bstep h.bel hb⟩
theorem TF.grown {w W W' : World} {G c A B : Nat} {L : List Op7} {ar am br bm : Int} {row : Option Nat} {Z : Nat} (h : TF w W G c A B L ar am br bm) (hg : W.grownBy W' row) (hr : ∀ j, row = some j → Z ≤ j) (hG : G < Z) (hA : A < Z) (hB : B < Z) (hw : w.heap.size ≤ Z) : TF w W' G c A B L ar am br bm := by
  refine ⟨World.ownsRow.kept h.own hg (.inr fun e => ?_), h.a.grown hg (fun e => by have := hr _ e; omega), h.b.grown hg (fun e => by have := hr _ e; omega), below_grown h.bel hg h.bel.size (fun j e => by have := hr j e; omega)⟩
  have e' : row = some G := by rw [← e]; rfl
  have := hr G e'
  omega

set_option maxRecDepth 100000 in
set_option maxHeartbeats 12000000 in
theorem walkTreeFirst (w : World) (p : Option Addr) (n cap : Nat) (h : ArgBytes w p n) (hcap : n ≤ cap) (hmax : cap ≤ maxLen) (x : Addr)
    (he : w.cell? ⟨0, 0, none⟩ = some (.iface 164 (.pointer (some x)))) (h0 : 0 < w.heap.size) :
    Calls Tryd.prog 4 #[.slice p n cap] w fun e w' => e = .returned (.bool true) ∧ Below w.heap.size w w' := by
  have H := hideIt h
  clear h
  unfold maxLen at *
  by_cases hn : n ≤ 1048576
  · go_enter Tryd.func4, Tryd.ntmps4
    go_wp2_with fail
    refine (drawUnder_any _ p n cap H.out hcap hn).mono ?_
    rintro e w1 ⟨G, c, L, ar, am, br, bm, rfl, hL, hia, hib, hS, hb1⟩
    have HS := hideIt hS
    have HB := hideIt hb1
    have HIA := hideIt hia
    have HIB := hideIt hib
    clear hS hb1 hia hib
    have HWA : Hid (opsB L = true → wf64 ar ∧ wf64 am) := fun h => idInF_wf h HIA.out
    have HWB : Hid (opsB L = true → wf64 br ∧ wf64 bm) := fun h => idInF_wf h HIB.out
    go_wp2_with fail
    have hB0 : Below w1.heap.size w1 ((w1.alloc (.cells #[.int .i64 ar, .int .i64 am] 25)).alloc (.cells #[.int .i64 br, .int .i64 bm] 25)) := ((Below.refl _ _).alloc (Nat.le_refl _) _).alloc (by simp) _
    have HS := hideIt (HS.out.below hB0)
    have HB := hideIt (Bstep HB.out hB0)
    have HXA : Hid (Bx ((w1.alloc (.cells #[.int .i64 ar, .int .i64 am] 25)).alloc (.cells #[.int .i64 br, .int .i64 bm] 25)) w1.heap.size ar am) := (Bx.new w1 ar am _).below ((Below.refl _ _).alloc (Nat.le_refl _) _)
    have HXB : Hid (Bx ((w1.alloc (.cells #[.int .i64 ar, .int .i64 am] 25)).alloc (.cells #[.int .i64 br, .int .i64 bm] 25)) (w1.heap.size + 1) br bm) := by
      have := Bx.new (w1.alloc (.cells #[.int .i64 ar, .int .i64 am] 25)) br bm 25
      rw [World.size_alloc] at this
      exact this
    clear hB0
    generalize (w1.alloc (.cells #[.int .i64 ar, .int .i64 am] 25)).alloc (.cells #[.int .i64 br, .int .i64 bm] 25) = w2 at *
    generalize w1.heap.size + 1 = B at *
    generalize w1.heap.size = A at *
    have a0 := HXA.out.x0
    have a1 := HXA.out.x1
    have b0 := HXB.out.x0
    have b1 := HXB.out.x1
    refine (implUnderO_any L G c _ _ _ _ x _ HS.out.at (by omega) HS.out.cap (errB HB.out h0 he) (posB HB.out h0) (fun h => (HWA.out h).1) (fun h => (HWA.out h).2)).mono ?_
    rintro e wZ ⟨rfl, hbZ⟩
    have HS := hideIt (HS.out.below hbZ)
    have HXA := hideIt (HXA.out.below hbZ)
    have HXB := hideIt (HXB.out.below hbZ)
    have HB := hideIt (Bstep HB.out hbZ)
    clear hbZ a0 a1 b0 b1
    have a0 := HXA.out.x0
    have a1 := HXA.out.x1
    have b0 := HXB.out.x0
    have b1 := HXB.out.x1
    obtain ⟨ub, hub⟩ : ∃ ub : Bool, undB L ar am br bm = ub := ⟨_, rfl⟩
    have HU := hideIt hub
    rw [hub]
    clear hub
    cases ho : opsB L
    · have HO := hideIt ho
      clear ho
      cases ub
      all_goals
        go_wp2_with (first
          | (go_at_call 17; refine (specUnder_any L G c _ _ _ _ _ HS.out.at (by omega) HS.out.cap).mono ?_; rintro e wZ ⟨rfl, hbZ⟩; rw [HU.out]; have HS := hideIt (HS.out.below hbZ); have HXA := hideIt (HXA.out.below hbZ); have HXB := hideIt (HXB.out.below hbZ); have HB := hideIt (Bstep HB.out hbZ); clear hbZ a0 a1 b0 b1; have a0 := HXA.out.x0; have a1 := HXA.out.x1; have b0 := HXB.out.x0; have b1 := HXB.out.x1)
          | (go_at_call 18; refine (specOps_any L G c _ HS.out.at (by omega) HS.out.cap).mono ?_; rintro e wZ ⟨rfl, hbZ⟩; rw [HO.out]; have HS := hideIt (HS.out.below hbZ); have HXA := hideIt (HXA.out.below hbZ); have HXB := hideIt (HXB.out.below hbZ); have HB := hideIt (Bstep HB.out hbZ); clear hbZ a0 a1 b0 b1; have a0 := HXA.out.x0; have a1 := HXA.out.x1; have b0 := HXB.out.x0; have b1 := HXB.out.x1))
        go_ret
        exact ⟨rfl, HB.out⟩
    · have HO := hideIt ho
      clear ho
      have HKB : Hid (ub = (kidsB L (br, bm)).any (byKid L (ar, am))) := by show ub = _; rw [← HU.out]; exact und_kids HO.out (ar, am) (br, bm)
      cases ub
      all_goals
        go_wp2_with (first
          | (go_at_call 17; refine (specUnder_any L G c _ _ _ _ _ HS.out.at (by omega) HS.out.cap).mono ?_; rintro e wZ ⟨rfl, hbZ⟩; rw [HU.out]; have HS := hideIt (HS.out.below hbZ); have HXA := hideIt (HXA.out.below hbZ); have HXB := hideIt (HXB.out.below hbZ); have HB := hideIt (Bstep HB.out hbZ); clear hbZ a0 a1 b0 b1; have a0 := HXA.out.x0; have a1 := HXA.out.x1; have b0 := HXB.out.x0; have b1 := HXB.out.x1)
          | (go_at_call 18; refine (specOps_any L G c _ HS.out.at (by omega) HS.out.cap).mono ?_; rintro e wZ ⟨rfl, hbZ⟩; rw [HO.out]; have HS := hideIt (HS.out.below hbZ); have HXA := hideIt (HXA.out.below hbZ); have HXB := hideIt (HXB.out.below hbZ); have HB := hideIt (Bstep HB.out hbZ); clear hbZ a0 a1 b0 b1; have a0 := HXA.out.x0; have a1 := HXA.out.x1; have b0 := HXB.out.x0; have b1 := HXB.out.x1))
        clear a0 a1
        have HT : Hid (TF w wZ G c A B L ar am br bm) := ⟨HS.out, HXA.out, HXB.out, HB.out⟩
        have HZ : Hid (G < wZ.drew.heap.size ∧ A < wZ.drew.heap.size ∧ B < wZ.drew.heap.size ∧ w.heap.size ≤ wZ.drew.heap.size) := ⟨HS.out.lt.2, HXA.out.lt, HXB.out.lt, HB.out.size⟩
        clear HS HXA HXB HB
        have HK0 : Hid ((kidsL L (br, bm, 0)).length ≤ 1048576) := Nat.le_trans (kids_le L _) (by omega)
        have HK1 : Hid ((kidsL L (br, bm, 1)).length ≤ 1048576) := Nat.le_trans (kids_le L _) (by omega)
        have HT := hideIt (HT.out.below ((Below.refl _ _).drew))
        go_region_held3 (fun w' => w'.cell? ⟨B, 0, none⟩ = some (.int .i64 br) ∧ w'.cell? ⟨B, 1, none⟩ = some (.int .i64 bm))
          (first | exact ⟨b0, b1⟩ | exact ⟨u0, u1⟩ | exact ⟨t0, t1⟩ | exact ⟨s0, s1⟩)
          (first
            | (go_at_call 19; with_reducible refine (implKids_any L G c br bm 0 x _ HT.out.own.at (by omega) HT.out.own.cap (errB HT.out.bel h0 he) (posB HT.out.bel h0) (HWB.out HO.out).1 (HWB.out HO.out).2 (wf_small ⟨by omega, by omega⟩)).mono ?_; rintro e wK ⟨v0, rfl, hr0, hbK⟩; rw [kidIds_yes HO.out] at hr0; have HR0 := hideIt hr0; have HT := hideIt (HT.out.below hbK); have u0 := HT.out.b.x0; have u1 := HT.out.b.x1; have hz0 := hbK.size; clear hbK hr0)
            | (go_at_call 19; with_reducible refine (implKids_any L G c br bm 1 x _ HT.out.own.at (by omega) HT.out.own.cap (errB HT.out.bel h0 he) (posB HT.out.bel h0) (HWB.out HO.out).1 (HWB.out HO.out).2 (wf_small ⟨by omega, by omega⟩)).mono ?_; rintro e wL ⟨v1, rfl, hr1, hbK⟩; rw [kidIds_yes HO.out] at hr1; have HR1 := hideIt hr1; have HR0 := hideIt (rowKeep HR0.out hbK); have HT := hideIt (HT.out.below hbK); have t0 := HT.out.b.x0; have t1 := HT.out.b.x1; have hz1 := hbK.size; clear hbK hr1; obtain ⟨v2, w9, hap, hown9, hg9⟩ := app_rows HR0.out HR1.out (by rw [idsOf_len]; exact HK0.out) (by rw [idsOf_len]; exact HK1.out) (Nat.le_trans hz0 hz1); have HT9 := hideIt (HT.out.grown hg9 (fun j e => (HR0.out.lt j e).1) HZ.out.1 HZ.out.2.1 HZ.out.2.2.1 HZ.out.2.2.2); rw [ids_app L (br, bm)] at hown9; have HR9 := hideIt hown9; have s0 := HT9.out.b.x0; have s1 := HT9.out.b.x1; clear hown9 hg9)
            | (refine append_arm (t := 33) (v := v0) (u := v1) rfl rfl rfl rfl rfl hap ?_; clear hap))
        rename_i hHH
        clear hHH b0 b1 u0 u1 t0 t1 s0 s1 HT HR0 HR1
        have HT := hideIt HT9.out
        have HR := hideIt HR9.out
        clear HT9 HR9 HK0 HK1
        obtain ⟨q2, c2, rfl, hc2, hq2⟩ := idRow_cases HR.out
        have HQ2 := hideIt hq2
        clear hq2
        have hlen : (idsOf (kidsB L (br, bm))).length = (kidsB L (br, bm)).length := idsOf_len _
        have hKl : (kidsB L (br, bm)).length ≤ 148 := by
          unfold kidsB
          rw [List.length_append]
          have h1 := kids_le L (br, bm, 0)
          have h2 := kids_le L (br, bm, 1)
          simp only at *
          omega
        generalize kidsB L (br, bm) = KB at *
        rw [hlen] at hc2 HQ2 ⊢
        go_wp2
        go_loopw [8, 9] (fun bv i wr => ∃ k : Nat, k ≤ KB.length ∧ i = .int .i64 k ∧ bv = .bool (byTo L (ar, am) KB k) ∧ wr.ownsRow wZ.drew.heap.size 25 2 (.slice q2 KB.length c2) KB.length (idCells (idsOf KB)) ∧ TF w wr G c A B L ar am br bm) (fun _ i _ => KB.length - (intOf i).toNat)
        case atStart => exact ⟨0, Nat.zero_le _, rfl, by rw [byTo_zero], by have := HR.out; rw [hlen] at this; exact this, HT.out⟩
        case round =>
          clear HR HT
          obtain ⟨k, hk, rfl, rfl, hR, hT⟩ := hrel
          have HR := hideIt hR
          have HT := hideIt hT
          clear hR hT
          by_cases hlt : k < KB.length
          · have hlt' : (k : Int) < (KB.length : Int) := by omega
            have hk0 : (0 : Int) ≤ (k : Int) := by omega
            have hpk : KB[k]? = some KB[k] := by simp [hlt]
            have HM := hideIt (byTo_more (l := L) (a := (ar, am)) hlt)
            obtain ⟨g2, hq2⟩ : ∃ g2, q2 = some ⟨g2, 0, none⟩ := by
              rcases HQ2.out with ⟨h1, _⟩ | ⟨_, g2, h2, _⟩
              · omega
              · exact ⟨g2, h2⟩
            subst hq2
            obtain ⟨z0, z1⟩ := id_at HR.out hpk
            have a0 := HT.out.a.x0
            have a1 := HT.out.a.x1
            generalize KB[k] = z at *
            cases hgt : byTo L (ar, am) KB k
            · by_cases heq : z.a = ar ∧ z.b = am
              · obtain ⟨e1, e2⟩ := heq
                have HE2 : Hid (byTo L (ar, am) KB (k + 1) = true) := by show byTo L (ar, am) KB (k + 1) = true; rw [HM.out, hgt]; simp [byKid, e1, e2]
                rw [e1] at z0
                rw [e2] at z1
                clear e1 e2 HM hgt
                go_wp2
                go_quiet (fail)
                go_wp2
                exact ⟨⟨k + 1, by omega, by go_num, by rw [HE2.out], rowKeep HR.out (below_drewN (Below.refl _ _) _), HT.out.below (below_drewN (Below.refl _ _) _)⟩, by simp [intOf]; omega⟩
              · have hne' : ¬ z.a = ar ∨ (z.a = ar ∧ ¬ z.b = am) := by omega
                obtain ⟨za, zb, zk, zc, zd, zs, zg⟩ := z
                simp only at *
                clear heq
                rcases hne' with hne | ⟨hea, hne⟩
                · skip
                  cases hu : undB L ar am za zb
                  all_goals
                    have HUZ := hideIt hu
                    clear hu
                    go_wp2
                    have HR := hideIt (rowKeep HR.out ((Below.refl _ _).drew))
                    have HT := hideIt (HT.out.below ((Below.refl _ _).drew))
                    go_region_held3 (fun w' => w'.cell? ⟨g2, k * 2, none⟩ = some (.int .i64 za) ∧ w'.cell? ⟨g2, k * 2 + 1, none⟩ = some (.int .i64 zb) ∧ w'.cell? ⟨A, 0, none⟩ = some (.int .i64 ar) ∧ w'.cell? ⟨A, 1, none⟩ = some (.int .i64 am))
                      (first | exact ⟨z0, z1, a0, a1⟩ | exact ⟨u0, u1, u2, u3⟩)
                      (first | (go_at_call 16; refine (implUnderO_any L G c _ _ _ _ x _ HT.out.own.at (by omega) HT.out.own.cap (errB HT.out.bel h0 he) (posB HT.out.bel h0) (fun h => (HWA.out h).1) (fun h => (HWA.out h).2)).mono ?_; rintro e w6 ⟨rfl, hb6⟩; rw [HUZ.out]; have HR := hideIt (rowKeep HR.out hb6); have HT := hideIt (HT.out.below hb6); clear hb6; obtain ⟨u0, u1⟩ := id_at HR.out hpk; have u2 := HT.out.a.x0; have u3 := HT.out.a.x1))
                    rename_i hHH
                    clear hHH u0 u1 u2 u3 z0 z1 a0 a1
                  · have HE2 : Hid (byTo L (ar, am) KB (k + 1) = false) := by show byTo L (ar, am) KB (k + 1) = false; rw [HM.out, hgt]; simp [byKid, HUZ.out, hne]
                    go_wp2
                    exact ⟨⟨k + 1, by omega, by go_num, by rw [HE2.out], HR.out, HT.out⟩, by simp [intOf]; omega⟩
                  · have HE2 : Hid (byTo L (ar, am) KB (k + 1) = true) := by show byTo L (ar, am) KB (k + 1) = true; rw [HM.out, hgt]; simp [byKid, HUZ.out]
                    go_wp2
                    exact ⟨⟨k + 1, by omega, by go_num, by rw [HE2.out], HR.out, HT.out⟩, by simp [intOf]; omega⟩
                · have hea' := hea.symm
                  clear hea
                  subst hea'
                  cases hu : undB L ar am ar zb
                  all_goals
                    have HUZ := hideIt hu
                    clear hu
                    go_wp2
                    have HR := hideIt (rowKeep HR.out ((Below.refl _ _).drew))
                    have HT := hideIt (HT.out.below ((Below.refl _ _).drew))
                    go_region_held3 (fun w' => w'.cell? ⟨g2, k * 2, none⟩ = some (.int .i64 ar) ∧ w'.cell? ⟨g2, k * 2 + 1, none⟩ = some (.int .i64 zb) ∧ w'.cell? ⟨A, 0, none⟩ = some (.int .i64 ar) ∧ w'.cell? ⟨A, 1, none⟩ = some (.int .i64 am))
                      (first | exact ⟨z0, z1, a0, a1⟩ | exact ⟨u0, u1, u2, u3⟩)
                      (first | (go_at_call 16; refine (implUnderO_any L G c _ _ _ _ x _ HT.out.own.at (by omega) HT.out.own.cap (errB HT.out.bel h0 he) (posB HT.out.bel h0) (fun h => (HWA.out h).1) (fun h => (HWA.out h).2)).mono ?_; rintro e w6 ⟨rfl, hb6⟩; rw [HUZ.out]; have HR := hideIt (rowKeep HR.out hb6); have HT := hideIt (HT.out.below hb6); clear hb6; obtain ⟨u0, u1⟩ := id_at HR.out hpk; have u2 := HT.out.a.x0; have u3 := HT.out.a.x1))
                    rename_i hHH
                    clear hHH u0 u1 u2 u3 z0 z1 a0 a1
                  · have HE2 : Hid (byTo L (ar, am) KB (k + 1) = false) := by show byTo L (ar, am) KB (k + 1) = false; rw [HM.out, hgt]; simp [byKid, HUZ.out, hne]
                    go_wp2
                    exact ⟨⟨k + 1, by omega, by go_num, by rw [HE2.out], HR.out, HT.out⟩, by simp [intOf]; omega⟩
                  · have HE2 : Hid (byTo L (ar, am) KB (k + 1) = true) := by show byTo L (ar, am) KB (k + 1) = true; rw [HM.out, hgt]; simp [byKid, HUZ.out]
                    go_wp2
                    exact ⟨⟨k + 1, by omega, by go_num, by rw [HE2.out], HR.out, HT.out⟩, by simp [intOf]; omega⟩
            · have HE2 : Hid (byTo L (ar, am) KB (k + 1) = true) := by show byTo L (ar, am) KB (k + 1) = true; rw [HM.out, hgt]; rfl
              clear HM hgt
              go_wp2
              go_quiet (fail)
              go_wp2
              exact ⟨⟨k + 1, by omega, by go_num, by rw [HE2.out], rowKeep HR.out (below_drewN (Below.refl _ _) _), HT.out.below (below_drewN (Below.refl _ _) _)⟩, by simp [intOf]; omega⟩
          · obtain rfl : k = KB.length := by omega
            have hE := byTo_all L (ar, am) KB
            rw [hE, ← HKB.out]
            go_wp2
            go_ret
            exact ⟨rfl, HT.out.bel⟩
  · go_enter Tryd.func4, Tryd.ntmps4
    have hn' : (1048576 : Int) < (n : Int) := by omega
    go_wp2
    go_ret
    exact ⟨rfl, Below.refl _ _⟩
end Go.Proofs.YtcnpfhnlniiacaaDoor

namespace Go.Proofs.YtcnpfhnlniiacaaDoor
open Go.ChangeShapes Go.WideShapes Go.ChangeAt Go.RowKit Go.Joins

set_option maxRecDepth 100000 in
theorem liftedFnTreeFirst (os : Os) (started : os.Started) (H : Type) (enc : TypeId × Value → H) :
    ReturnsInHanded {} Tryd.checked os 4 .any (fun w args => (Rows.fnTreeFirstSpec.pre enc Tryd.prog Tryd.f4 [] false w args ∧ laidMetH Tryd.prog laid1 w) ∧ sizedMet enc Tryd.prog Tryd.f4 (OpenSpec.ofChange Rows.fnTreeFirstSpec) false w args)
      (Rows.fnTreeFirstSpec.post enc Tryd.prog Tryd.f4 false true false false) := by
  refine returnsInHanded_of_change_and (C := Tryd.checked) (X := fun w _ => laidMetH Tryd.prog laid1 w) (fun _ _ _ hh h => h.of_heap hh) own started (by kernel_rfl) Tryd.func4
    (ChangeSpec.witness_shaped (enc := enc) (C := Tryd.checked) (os := os) (X := fun w _ => laidMetH Tryd.prog laid1 w) false (World.doorLaid Tryd.prog 28 os) #[.slice none 0 0] 8 rfl (World.shaped_of_RefB (by kernel_rfl) (by kernel_rfl)) (by kernel_rfl) (by kernel_rfl) (by kernel_rfl) (door_met os _)) ?_
  intro W base args ds gs before hval0 hW _ _ hL _
  have hval : ∀ (j : Nat) t v, Tryd.f4.params[j]? = some t → args[j]? = some v → Value.okWide Tryd.prog W .any base t v := hval0
  have hW' := hW
  obtain ⟨p, q, hA0, hV0, rfl, hfz, hnd⟩ := hW
  have hA : DataW.TrodAll enc Tryd.prog W 0 (fun _ => true) true Tryd.f4.params.toList args.toList ds p := hA0
  have hV : DataW.TrodVars enc Tryd.prog W (fun _ => true) [errName] gs q := hV0
  rw [Tryd.params4] at hA hval
  obtain ⟨v0, d0, rfl, rfl, h0⟩ := trodAll_one hA
  have k0 := h0
  have lt0 : ∀ x ∈ p, x.block < W.heap.size := by obtain ⟨m, hm⟩ := k0; exact DataW.trod_lt m _ _ _ hm
  obtain ⟨x, hv, hc, hpos⟩ := of_laid hL
  obtain ⟨rfl, rfl⟩ := hV.unique (vars_read1 enc gErr tErr Tryd.underlying77 hv trivial _)
  obtain ⟨q0, n0, c0, rfl, hc0, hm0, ha0⟩ := open_bytes (hval 0 22 v0 rfl rfl) h0
  clear hA0 hV0 hval0
  refine (walkTreeFirst W q0 n0 c0 ha0 hc0 hm0 x hc hpos).mono fun e W' ⟨he, bel⟩ => ?_
  subst he
  exact ⟨_, rfl, _, _, _, [], p, [.cell 0 0], hW', trodAll_mk1 (shut_bool Tryd.underlying4 _), trodAll_mk1 (Below.trod laidOut (by kernel_rfl) (of_decide_eq_true (by kernel_rfl)) k0 bel lt0), vars_read1 enc gErr tErr Tryd.underlying77 (var_kept bel hpos hv) trivial _, bel.frame _, fun h => by cases h⟩

theorem fnTreeFirst_row : Rows.FnTreeFirstSaid :=
  OpenClaim.holds_of_wide 4 Tryd.f4 rfl rfl rfl rfl rfl rfl rfl ⟨rfl, rfl, rfl, rfl, rfl⟩ rfl rfl rfl rfl rfl (by kernel_rfl) Tryd.func4 (by kernel_rfl)
    (of_decide_eq_true (by kernel_rfl)) (by unfold Func.isWrapper; first | (rw [if_pos (by decide +kernel)]; kernel_rfl) | (rw [if_neg (by decide +kernel)]; exact ⟨rfl, rfl⟩))
    (fun os started H enc _ => liftedFnTreeFirst os started H enc)

/-- THE STATEMENT. -/
theorem fnTreeFirst_holds : Rows.FnTreeFirstCardSaid :=
  Claim7.holds_tied_plain_at .later [] Rows.fnTreeFirstCard.laidKinds true Rows.fnTreeFirstCard.stood.harness true
    fnTreeFirst_row (fun _ h => by cases h) (by kernel_rfl) (fun _ h => by cases h) fnTreeFirst_row_tie rfl ⟨rfl, rfl⟩ (by kernel_rfl) rfl
    (fun f fn hf hfn => by
      obtain rfl : f = 4 := Option.some.inj ((show Tryd.prog.funcNamed Rows.fnTreeFirstRow.func = some 4 by kernel_rfl).symm.trans hf) |>.symm
      obtain rfl : fn = Tryd.f4 := (Option.some.inj (Tryd.func4.symm.trans hfn)).symm
      exact ⟨by kernel_rfl, fun j t ht => by
        rw [Tryd.params4] at ht
        have hm : t ∈ [22] := by simpa using Array.mem_of_getElem? ht
        have hall : ([22].all fun u => !Tryd.prog.wantsStandIn u) = true := by kernel_rfl
        exact (show Tryd.prog.wantsStandIn t = false by simpa using List.all_eq_true.1 hall t hm)⟩)
    (by kernel_rfl)
#print axioms fnTreeFirst_holds
end Go.Proofs.YtcnpfhnlniiacaaDoor
