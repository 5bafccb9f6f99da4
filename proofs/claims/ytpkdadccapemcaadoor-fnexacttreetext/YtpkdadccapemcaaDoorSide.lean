/- The contract of l2Side, of what is ok. -/
import Derived.Test.YtpkdadccapemcaaDoorGone
namespace Go.Proofs.YtpkdadccapemcaaDoor
open Go.RowKit
set_option linter.unusedSimpArgs false
set_option linter.unusedVariables false
attribute [local go_sem ↓] Go.wp_at_zero Go.wp_at_succ

theorem idCells_at2 : ∀ (L : List (Int × Int)) (i : Nat) (x : Int × Int), L[i]? = some x → (idCells L)[i * 2]? = some (.int .i64 x.1) ∧ (idCells L)[i * 2 + 1]? = some (.int .i64 x.2)
  | [], i, x, h => by simp at h
  | y :: r, 0, x, h => by simp at h; subst h; simp [idCells]
  | y :: r, i + 1, x, h => by
    have ih := idCells_at2 r i x (by simpa using h)
    have e : idCells (y :: r) = .int .i64 y.1 :: .int .i64 y.2 :: idCells r := rfl
    rw [e, show (i + 1) * 2 = i * 2 + 1 + 1 by omega]
    simpa using ih
theorem find_at {l : List Op7} (h : opsB l = true) {o : Op7} (hm : o ∈ l) : ∃ i : Nat, findI l o.a o.b = i ∧ i < l.length ∧ l[i]? = some o := by
  obtain ⟨hok, hord⟩ := opsParts h
  have h1 := once_of hok hord
  obtain ⟨i, hi⟩ := List.mem_iff_getElem?.1 hm
  obtain ⟨hl, he⟩ := List.getElem?_eq_some_iff.1 hi
  refine ⟨i, ?_, hl, hi⟩
  refine findI_some hl (by rw [he]; simp [hasId]) (fun j hj => ?_)
  cases hc : hasId o.a o.b (l[j]'(by omega))
  · rfl
  · simp [hasId] at hc
    have := h1 j i (l[j]'(by omega)) o (by simp) hi hc.1 hc.2
    omega
/-- Kid by kid. -/
def sideK (l : List Op7) (n : Nat) (L : List Op7) : List Op7 := L.flatMap fun o => sideO l n (o.a, o.b, 0) ++ o :: sideO l n (o.a, o.b, 1)
theorem sideK_all (l : List Op7) (n : Nat) (x : Int × Int × Int) : sideO l (n + 1) x = sideK l n (kidsL l x) := rfl
theorem sideK_step {l : List Op7} {n : Nat} {K : List Op7} {k : Nat} (h : k < K.length) : sideK l n (K.take (k + 1)) = sideK l n (K.take k) ++ sideO l n (K[k].a, K[k].b, 0) ++ [K[k]] ++ sideO l n (K[k].a, K[k].b, 1) := by
  unfold sideK
  rw [List.take_succ_eq_append_getElem h, List.flatMap_append]
  simp
theorem sideK_le {l : List Op7} {n : Nat} {K : List Op7} (k : Nat) : (sideK l n (K.take k)).length ≤ (sideK l n K).length := by
  unfold sideK
  conv => rhs; rw [← List.take_append_drop k K]
  rw [List.flatMap_append, List.length_append]
  omega

/-- An append in a region that draws its order, by the equation of its run. -/
theorem append_arm {P : Program} {o : Oper} {A : Act} {w w' : World} {K' : Act → World → Prop} {Q : Exit → Act → World → Prop} {ys : Nat → Option Bool} {s x : Operand} {t : TypeId} {v u v' : Value}
    (hop : o.op = .call { callee := .builtin .append, args := #[s, x], argTypes := #[t, t] }) (hw : Region.wanted o ys = true) (hs : A.eval s = v) (hx : A.eval x = u) (ht : o.type = t) (hr : (Builtin.append_ #[t, t] t #[v, u]).run P w = .ok v' w') (h : K' (A.put o.dst v') w') :
    if Region.wanted o ys = true then Oper.wp P o A w K' Q else K' (A.put o.dst undef) w := by
  rw [if_pos hw]
  unfold Oper.wp execOp
  subst ht
  simp only [hop, resolve, invoke, builtin, Sem.run_bind, Sem.run_pure, Result.andThen_ok, List.map_toArray, List.map_cons, List.map_nil, hs, hx, hr]
  exact h
/-- Where the loop of l2Side stands: the leaves so far, the kids, the things. -/
structure SL (l : List Op7) (w wr : World) (Gk : Nat) (K : List Op7) (v : Value) (L : List Op7) : Prop where
  row : wr.ownsRow (w.heap.size + 1) 63 4 v L.length (leafCells l L)
  ne : ∀ j, v.ownBlock = some j → j ≠ Gk
  kc : ∀ j, j < K.length * 2 → wr.cell? ⟨Gk, j, none⟩ = (idCells (idsOf K))[j]?
  kl : Gk < wr.heap.size
  kg : w.heap.size + 1 < Gk
  bel : Below w.heap.size w wr
theorem SL.below {l : List Op7} {w wr w' : World} {Gk : Nat} {K : List Op7} {v : Value} {L : List Op7} (h : SL l w wr Gk K v L) (hb : Below wr.heap.size wr w') : SL l w w' Gk K v L :=
  ⟨h.row.kept (row := none) ⟨hb.os, hb.tape, hb.output, hb.size, fun i hi _ => hb.block i hi⟩ (by cases v.ownBlock <;> simp), h.ne, fun j hj => ((bcell hb).1 _ _ h.kl).trans (h.kc j hj), Nat.lt_of_lt_of_le h.kl hb.size, h.kg, Bstep h.bel hb⟩
theorem SL.app {l : List Op7} {w wr w' : World} {Gk : Nat} {K : List Op7} {v v' : Value} {L M : List Op7} (h : SL l w wr Gk K v L) (hg : wr.grownBy w' v.ownBlock) (hown : w'.ownsRow (w.heap.size + 1) 63 4 v' (L.length + M.length) (leafCells l L ++ leafCells l M))
    (hloc : v'.ownBlock = v.ownBlock ∨ v'.ownBlock = some wr.heap.size) : SL l w w' Gk K v' (L ++ M) := by
  have h1 := h.kl
  refine ⟨by rw [leafCells_app, List.length_append]; exact hown, fun j hj => ?_, fun j hj => (grown_cell hg h.kl (fun e => h.ne Gk e.symm rfl) j).trans (h.kc j hj), Nat.lt_of_lt_of_le h.kl hg.size, h.kg, below_grown h.bel hg h.bel.size (fun j e => by have := (h.row.lt j e).1; omega)⟩
  rcases hloc with e | e
  · exact h.ne j (e ▸ hj)
  · rw [e] at hj
    have := Option.some.inj hj
    omega

set_option maxRecDepth 100000 in
set_option maxHeartbeats 4000000 in
theorem l2Side_any (l : List Op7) (hops : opsB l = true) (g cap : Nat) (hn : l.length ≤ 1048576) (hcap : l.length ≤ cap) : ∀ (n d : Nat) (r m s : Int), Up l d (r, m) → d + n = l.length + 2 → ∀ (w : World), OpsAt w g l →
    Calls Tryd.prog 44 #[.slice (some ⟨g, 0, none⟩) l.length cap, .agg #[.int .i64 r, .int .i64 m], .int .i64 s] w fun e w' => ∃ G c, e = .returned (.slice (some ⟨G, 0, none⟩) (sideO l n (r, m, s)).length c) ∧ w'.ownsRow w.heap.size 63 4 (.slice (some ⟨G, 0, none⟩) (sideO l n (r, m, s)).length c) (sideO l n (r, m, s)).length (leafCells l (sideO l n (r, m, s))) ∧ Below w.heap.size w w' := by
  intro n
  induction n with
  | zero =>
    intro d r m s hu hd
    have := up_le hops hu
    omega
  | succ n ih =>
    intro d r m s hu hd w hl
    have IH : Hid (∀ (o : Op7), o ∈ kidsL l (r, m, s) → ∀ (t : Int) (w : World), OpsAt w g l → Calls Tryd.prog 44 #[.slice (some ⟨g, 0, none⟩) l.length cap, .agg #[.int .i64 o.a, .int .i64 o.b], .int .i64 t] w fun e w' => ∃ G c, e = .returned (.slice (some ⟨G, 0, none⟩) (sideO l n (o.a, o.b, t)).length c) ∧ w'.ownsRow w.heap.size 63 4 (.slice (some ⟨G, 0, none⟩) (sideO l n (o.a, o.b, t)).length c) (sideO l n (o.a, o.b, t)).length (leafCells l (sideO l n (o.a, o.b, t))) ∧ Below w.heap.size w w') :=
      fun o ho t w hw => ih (d + 1) o.a o.b t (up_kid ho hu) (by omega) w hw
    have HLEN : Hid ((sideK l n (kidsL l (r, m, s))).length ≤ l.length) := side_len (n := n + 1) (x := (r, m, s)) hops hu
    have HL := hideIt hl
    have hgw := hl.1
    have HO := hideIt hops
    have HMEM : Hid (∀ o ∈ kidsL l (r, m, s), o ∈ l) := fun o ho => (mem_kids ho).1
    clear ih hu hd hl hops
    have hKl : (kidsL l (r, m, s)).length ≤ 1048576 := Nat.le_trans (kids_le l _) hn
    rw [sideK_all]
    generalize hKK : kidsL l (r, m, s) = K at *
    have HKK := hideIt hKK
    clear hKK
    go_enter Tryd.func44, Tryd.ntmps44
    go_wp2_with fail
    have HB0 : Hid (Below w.heap.size w ((w.alloc (.cells #[.int .i64 r, .int .i64 m] 38)).alloc (.cells #[] 63))) := ((Below.refl _ _).alloc (Nat.le_refl _) _).alloc (by simp) _
    refine (l2Kids_any l _ _ _ _ _ _ (HL.out.below HB0.out hgw) hn hcap).mono ?_
    rintro e w1 ⟨vk, rfl, hrk, hb1⟩
    rw [HKK.out] at hrk
    have HB1 : Hid (Below w.heap.size w w1) := HB0.out.trans (hb1.mono (by simp; omega))
    have HR0 : Hid (w1.ownsRow (w.heap.size + 1) 63 4 (.slice (some ⟨w.heap.size + 1, 0, none⟩) 0 0) 0 []) := by
      have h := World.ownsRow_made (base := w.heap.size + 1) (e := 63) (size := 4) (w.alloc (.cells #[.int .i64 r, .int .i64 m] 38)) #[] 0 (by simp) (Nat.zero_le _) rfl
      simp only [World.size_alloc] at h
      exact h.kept (row := none) ⟨hb1.os, hb1.tape, hb1.output, hb1.size, fun i hi _ => hb1.block i hi⟩ (.inr (by simp [Value.ownBlock]))
    simp only [World.size_alloc] at hrk
    have hrk2 := hrk
    rcases row_cases hrk with ⟨hlen, p0, c0, rfl⟩ | ⟨hlen, Gk, capk, rfl, hcapk, hGl, hcell⟩
    · obtain rfl : K = [] := List.length_eq_zero_iff.1 hlen
      clear hrk hrk2 hb1 hlen
      go_wp2
      refine wp_loop_rounds 1 ?_
      rw [rounds_succ]
      go_wp2
      go_ret
      exact ⟨_, _, rfl, ownsRow_base (Nat.le_succ _) HR0.out, HB1.out⟩
    · have hGk : w.heap.size + 1 + 1 ≤ Gk := (hrk2.lt Gk rfl).1
      have HS0 : Hid (SL l w w1 Gk K (.slice (some ⟨w.heap.size + 1, 0, none⟩) 0 0) []) :=
        ⟨HR0.out, fun j e => by simp [Value.ownBlock] at e; omega, hcell, hGl, by omega, HB1.out⟩
      clear hrk hrk2 hb1 hcell hGl HR0 HB0 HB1
      obtain ⟨i0, hi, hz0', hz1', hz2⟩ := info_parts infoLeaf
      have HI1 := hideIt hi
      have HZ0 := hideIt hz0'
      have HZ1 := hideIt hz1'
      have HZ2 := hideIt hz2
      clear hi hz0' hz1' hz2
      go_wp2
      go_loopw [7, 9] (fun v i wr => ∃ k : Nat, k ≤ K.length ∧ i = .int .i64 k ∧ (∃ G c, v = .slice (some ⟨G, 0, none⟩) (sideK l n (K.take k)).length c) ∧ SL l w wr Gk K v (sideK l n (K.take k)))
        (fun _ i _ => K.length - (intOf i).toNat)
      case atStart => exact ⟨0, Nat.zero_le _, rfl, ⟨_, _, rfl⟩, HS0.out⟩
      case round =>
        obtain ⟨k, hk, rfl, ⟨G0, c0, rfl⟩, hSL⟩ := hrel
        have HSL := hideIt hSL
        clear hSL HS0
        by_cases hlt : k < K.length
        · obtain ⟨j0, j1⟩ := idCells_at2 (idsOf K) k (K[k].a, K[k].b) (by simp [idsOf, hlt])
          have y0 := (HSL.out.kc (k * 2) (by omega)).trans j0
          have y1 := (HSL.out.kc (k * 2 + 1) (by omega)).trans j1
          have hGr := HSL.out.kl
          have hlt' : (k : Int) < (K.length : Int) := by omega
          have hk0 : (0 : Int) ≤ (k : Int) := by omega
          have HMK : Hid (K[k] ∈ K) := List.getElem_mem hlt
          have HST := hideIt (sideK_step (l := l) (n := n) hlt)
          have HLE := hideIt (Nat.le_trans (sideK_le (l := l) (n := n) (K := K) (k + 1)) HLEN.out)
          have HOK : Hid ((idsOf K)[k]? = some (K[k].a, K[k].b)) := by show (idsOf K)[k]? = some (K[k].a, K[k].b); simp [idsOf, hlt]
          generalize K[k] = o at *
          clear j0 j1
          obtain ⟨fi, hfi, hfl, hfo⟩ := find_at HO.out (HMEM.out o HMK.out)
          have HFI := hideIt hfi
          have HLr := hideIt (HL.out.below HSL.out.bel hgw)
          clear hfi
          go_wp2_with fail
          refine (IH.out o HMK.out 0 _ HLr.out).mono ?_
          rintro e w2 ⟨G1, c1, rfl, hr1, hb2⟩
          have HR1 := hideIt hr1
          have HS2 := hideIt (HSL.out.below hb2)
          clear hr1 hb2 y0 y1 hGr HSL HLr
          have HLL : Hid ((sideK l n (K.take k)).length + (sideO l n (o.a, o.b, 0)).length + 1 + (sideO l n (o.a, o.b, 1)).length ≤ l.length) := by
            have h := HLE.out
            rw [HST.out] at h
            simp only [List.length_append, List.length_cons, List.length_nil] at h
            exact h
          have hll := HLL.out
          go_wp2_with (first
            | (at_builtin; refine wpList_append_own_at _ rfl _ _ 24 rfl (w.heap.size + 1) 63 i0 _ 4 32 Tryd.underlying24 HI1.out HZ0.out HZ1.out HZ2.out rfl (by decide) _ _ _ rfl HS2.out.row ⟨G1, 0, none⟩ (sideO l n (o.a, o.b, 0)).length c1 (leafCells l (sideO l n (o.a, o.b, 0))) rfl (leafCells_len l _) (HR1.out.cells rfl) (leafCells_one l _) (by unfold maxLen; omega) (by omega) (by have := HS2.out.bel.size; have := HS2.out.kg; have := HS2.out.kl; omega) ?_; intro v3 w3 hown3 hg3 _ hloc3;
                have HS3 := hideIt (HS2.out.app (M := sideO l n (o.a, o.b, 0)) hg3 hown3 hloc3); clear hown3 hg3 hloc3))
          obtain ⟨j0, j1⟩ := idCells_at2 (idsOf K) k (o.a, o.b) HOK.out
          have K3 : Hid (w3.drew.cell? ⟨Gk, k * 2, none⟩ = some (.int .i64 o.a) ∧ w3.drew.cell? ⟨Gk, k * 2 + 1, none⟩ = some (.int .i64 o.b) ∧ w3.drew.cell? ⟨g, fi * 7 + 6, none⟩ = some (.int .i64 o.g)) :=
            ⟨(HS3.out.kc (k * 2) (by omega)).trans j0, (HS3.out.kc (k * 2 + 1) (by omega)).trans j1, ((HL.out.below HS3.out.bel hgw).2 fi o hfo).2.2.2.2.2.2⟩
          have hGk3 : Gk < w3.drew.heap.size := HS3.out.kl
          have HS : Hid (SL l w w3.drew Gk K v3 (sideK l n (K.take k) ++ sideO l n (o.a, o.b, 0))) := HS3.out.below ((Below.refl _ _).drew)
          have hfl' : (fi : Int) < (l.length : Int) := by omega
          have hf0 : (0 : Int) ≤ (fi : Int) := by omega
          clear HS2 HR1 HS3 j0 j1
          go_region_held3 (fun w' => w'.cell? ⟨Gk, k * 2, none⟩ = some (.int .i64 o.a) ∧ w'.cell? ⟨Gk, k * 2 + 1, none⟩ = some (.int .i64 o.b) ∧ w'.cell? ⟨g, fi * 7 + 6, none⟩ = some (.int .i64 o.g))
            (first | exact K3.out | exact K4.out | exact K5.out | exact K6.out | exact K7.out)
            (first
              | (go_at_call 38; refine (l1Find_any l g cap _ _ _ (HL.out.below HS.out.bel hgw) hn hcap).mono ?_; rintro e w4 ⟨rfl, hb4⟩; rw [HFI.out]; have K4 : Hid (w4.cell? ⟨Gk, k * 2, none⟩ = some (.int .i64 o.a) ∧ w4.cell? ⟨Gk, k * 2 + 1, none⟩ = some (.int .i64 o.b) ∧ w4.cell? ⟨g, fi * 7 + 6, none⟩ = some (.int .i64 o.g)) := ⟨((bcell hb4).1 _ _ HS.out.kl).trans K3.out.1, ((bcell hb4).1 _ _ HS.out.kl).trans K3.out.2.1, ((bcell hb4).1 _ _ (Nat.lt_of_lt_of_le hgw HS.out.bel.size)).trans K3.out.2.2⟩; have HS := hideIt (HS.out.below hb4); clear hb4)
              | (go_at_call 53; refine (l2Gone_any l g cap _ _ _ (HL.out.below HS.out.bel hgw) hn hcap).mono ?_; rintro e w5 ⟨rfl, hb5⟩; have K5 : Hid (w5.cell? ⟨Gk, k * 2, none⟩ = some (.int .i64 o.a) ∧ w5.cell? ⟨Gk, k * 2 + 1, none⟩ = some (.int .i64 o.b) ∧ w5.cell? ⟨g, fi * 7 + 6, none⟩ = some (.int .i64 o.g)) := ⟨((bcell hb5).1 _ _ HS.out.kl).trans K4.out.1, ((bcell hb5).1 _ _ HS.out.kl).trans K4.out.2.1, ((bcell hb5).1 _ _ (Nat.lt_of_lt_of_le hgw HS.out.bel.size)).trans K4.out.2.2⟩; have HS := hideIt (HS.out.below hb5);
                  have HSA : Hid (SL l w (w5.alloc (.cells #[.int .i64 o.a, .int .i64 o.b, .int .i64 o.g, .bool (goneB l (o.a, o.b))] 63)) Gk K v3 (sideK l n (K.take k) ++ sideO l n (o.a, o.b, 0))) := HS.out.below ((Below.refl _ _).alloc (Nat.le_refl _) _);
                  have K6 : Hid ((w5.alloc (.cells #[.int .i64 o.a, .int .i64 o.b, .int .i64 o.g, .bool (goneB l (o.a, o.b))] 63)).cell? ⟨Gk, k * 2, none⟩ = some (.int .i64 o.a) ∧ (w5.alloc (.cells #[.int .i64 o.a, .int .i64 o.b, .int .i64 o.g, .bool (goneB l (o.a, o.b))] 63)).cell? ⟨Gk, k * 2 + 1, none⟩ = some (.int .i64 o.b) ∧ (w5.alloc (.cells #[.int .i64 o.a, .int .i64 o.b, .int .i64 o.g, .bool (goneB l (o.a, o.b))] 63)).cell? ⟨g, fi * 7 + 6, none⟩ = some (.int .i64 o.g)) := ⟨(World.cell?_alloc_lt _ _ _ HS.out.kl).trans K5.out.1, (World.cell?_alloc_lt _ _ _ HS.out.kl).trans K5.out.2.1, (World.cell?_alloc_lt _ _ _ (show g < _ from Nat.lt_of_lt_of_le hgw HS.out.bel.size)).trans K5.out.2.2⟩;
                  obtain ⟨v6, w6, hap, hown6, hg6, _, hloc6⟩ := run_append_own_at (P := Tryd.prog) (w5.alloc (.cells #[.int .i64 o.a, .int .i64 o.b, .int .i64 o.g, .bool (goneB l (o.a, o.b))] 63)) (w.heap.size + 1) 24 24 63 i0 _ 4 32 Tryd.underlying24 HI1.out HZ0.out HZ1.out HZ2.out rfl (by decide) v3 _ _ HSA.out.row ⟨w5.heap.size, 0, none⟩ 1 1 (leafCells l [o]) rfl (cells_new w5 (leafCells l [o]) 63) (leafCells_one l _) (by rw [List.length_append]; unfold maxLen; omega) (by rw [List.length_append]; omega) (by have := HSA.out.kg; have := HSA.out.kl; omega);
                  have K7 : Hid (w6.cell? ⟨Gk, k * 2, none⟩ = some (.int .i64 o.a) ∧ w6.cell? ⟨Gk, k * 2 + 1, none⟩ = some (.int .i64 o.b) ∧ w6.cell? ⟨g, fi * 7 + 6, none⟩ = some (.int .i64 o.g)) := ⟨(grown_cell hg6 HSA.out.kl (fun e => HSA.out.ne _ e.symm rfl) _).trans K6.out.1, (grown_cell hg6 HSA.out.kl (fun e => HSA.out.ne _ e.symm rfl) _).trans K6.out.2.1, (grown_cell hg6 (Nat.lt_of_lt_of_le hgw HSA.out.bel.size) (fun e => by have := (HSA.out.row.lt _ e.symm).1; omega) _).trans K6.out.2.2⟩;
                  have HS6 := hideIt (HSA.out.app (M := [o]) hg6 hown6 hloc6); clear hown6 hg6 hloc6 hb5)
              | (refine append_arm (t := 24) rfl rfl rfl rfl rfl hap ?_; clear hap))
          rename_i hS
          clear hS HSA HS K4 K5 K6 K3
          have y0 := K7.out.1
          have y1 := K7.out.2.1
          have hGr := HS6.out.kl
          go_wp2_with fail
          refine (IH.out o HMK.out 1 _ (HL.out.below HS6.out.bel hgw)).mono ?_
          rintro e w7 ⟨G7, c7, rfl, hr7, hb7⟩
          have HR7 := hideIt hr7
          have HS7 := hideIt (HS6.out.below hb7)
          clear hr7 hb7 y0 y1 hGr HS6 K7
          go_wp2_with (first
            | (at_builtin; refine wpList_append_own_at _ rfl _ _ 24 rfl (w.heap.size + 1) 63 i0 _ 4 32 Tryd.underlying24 HI1.out HZ0.out HZ1.out HZ2.out rfl (by decide) _ _ _ rfl HS7.out.row ⟨G7, 0, none⟩ (sideO l n (o.a, o.b, 1)).length c7 (leafCells l (sideO l n (o.a, o.b, 1))) rfl (leafCells_len l _) (HR7.out.cells rfl) (leafCells_one l _) (by simp only [List.length_append, List.length_cons, List.length_nil]; unfold maxLen; omega) (by simp only [List.length_append, List.length_cons, List.length_nil]; omega) (by have := HS7.out.kg; have := HS7.out.kl; omega) ?_; intro v8 w8 hown8 hg8 hnil8 hloc8;
                have HS8 := hideIt (HS7.out.app (M := sideO l n (o.a, o.b, 1)) hg8 hown8 hloc8); clear hown8 hg8 hloc8 hnil8))
          have HE := hideIt HS8.out
          have hrow := HS8.out.row
          rw [← HST.out] at hrow
          have hv8 : ∃ G c, v8 = .slice (some ⟨G, 0, none⟩) (sideK l n (K.take (k + 1))).length c := by
            rcases hrow.2 with ⟨_, h1⟩ | ⟨G, c, cur, h1, _⟩
            · exfalso
              rw [HST.out] at h1
              simp at h1
            · exact ⟨G, c, h1⟩
          exact ⟨⟨k + 1, by omega, by go_num, hv8, by rw [HST.out]; exact HS8.out⟩, by simp [intOf]; omega⟩
        · obtain rfl : k = K.length := by omega
          go_wp2
          go_ret
          have h := HSL.out.row
          have hbb := HSL.out.bel
          rw [List.take_length] at h ⊢
          exact ⟨_, _, rfl, ownsRow_base (Nat.le_succ _) h, hbb⟩
end Go.Proofs.YtpkdadccapemcaaDoor
