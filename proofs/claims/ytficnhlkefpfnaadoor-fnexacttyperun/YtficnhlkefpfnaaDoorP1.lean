/- Parts of a block of things, as the cells of a row. -/
import Derived.Test.YtficnhlkefpfnaaDoorP0
import Derived.RangeFuncBox
import Derived.BigQuiet
import Derived.WalkSmall
import Derived.Deep.WholeRow
import Derived.Laws.CopyOwn
import Derived.Deep.RegionHeld3
import Derived.Lib.SmallJoins
import Derived.Laws.BytesArg
namespace Go.Proofs.YtficnhlkefpfnaaDoor
open Go.RowKit
set_option linter.unusedSimpArgs false
set_option linter.unusedVariables false
attribute [local go_sem ↓] Go.wp_at_zero Go.wp_at_succ

/-- A sign was taken away. -/
def goneB (l : List Op7) (x : Int × Int) : Bool := l.any fun o => o.k == 2 && (o.c == x.1 && o.d == x.2)
theorem gone_take {l : List Op7} (hok : l.all okO = true) (x : Int × Int) : goneB l x = decide (0 < takesN l x) := by
  unfold goneB takesN
  rw [Bool.eq_iff_iff, decide_eq_true_eq, List.countP_pos_iff, List.any_eq_true]
  constructor
  · rintro ⟨o, ho, h⟩
    simp at h
    exact ⟨o, ho, by simp [h]⟩
  · rintro ⟨o, ho, h⟩
    simp at h
    have hk : o.k = 1 ∨ o.k = 2 := by rcases thV_cases (List.all_eq_true.1 hok o ho) with h | h <;> simp [h.2]
    exact ⟨o, ho, by simp; omega⟩
/-- The cells of leaves. -/
def leafCells (l L : List Op7) : List Value := L.flatMap fun o => [.int .i64 o.a, .int .i64 o.b, .int .i64 o.g, .bool (goneB l (o.a, o.b))]
theorem leafCells_len (l : List Op7) : ∀ L : List Op7, (leafCells l L).length = L.length * 4
  | [] => rfl
  | x :: r => by have := leafCells_len l r; simp [leafCells] at this ⊢; omega
theorem leafCells_app (l L M : List Op7) : leafCells l (L ++ M) = leafCells l L ++ leafCells l M := by simp [leafCells]
theorem leafCells_one (l : List Op7) : ∀ L, ∀ u ∈ leafCells l L, u.oneCell' = true := by
  intro L u hu
  unfold leafCells at hu
  obtain ⟨o, _, ho⟩ := List.mem_flatMap.1 hu
  simp at ho
  rcases ho with rfl | rfl | rfl | rfl <;> rfl
theorem infoLeaf : (Tryd.prog.info? 115).map (fun i => (i.zero, i.size, i.bytes)) = some (some (.agg #[.int .i64 0, .int .i64 0, .int .i64 0, .bool false]), 4, 32) := by kernel_rfl

theorem gone_no {l : List Op7} {x : Int × Int} (h : ∀ j (hj : j < l.length), (l[j].k == 2 && (l[j].c == x.1 && l[j].d == x.2)) = false) : goneB l x = false := by
  unfold goneB
  rw [List.any_eq_false]
  intro o ho
  obtain ⟨j, hj, rfl⟩ := List.getElem_of_mem ho
  simp [h j hj]
theorem gone_yes {l : List Op7} {x : Int × Int} {o : Op7} {i : Nat} (h : l[i]? = some o) (h1 : o.k = 2) (h2 : o.c = x.1) (h3 : o.d = x.2) : goneB l x = true := by
  unfold goneB
  rw [List.any_eq_true]
  exact ⟨o, List.mem_of_getElem? h, by simp [h1, h2, h3]⟩

set_option maxRecDepth 100000 in
set_option maxHeartbeats 1000000 in
theorem l2Gone_any (l : List Op7) (g cap : Nat) (r m : Int) (w : World) (hl : OpsAt w g l) (hn : l.length ≤ 1048576) (hcap : l.length ≤ cap) :
    Calls Tryd.prog 133 #[.slice (some ⟨g, 0, none⟩) l.length cap, .agg #[.int .i64 r, .int .i64 m]] w fun e w' => e = .returned (.bool (goneB l (r, m))) ∧ Below w.heap.size w w' := by
  have HL := hideIt hl
  have hgw := hl.1
  clear hl
  go_enter Tryd.func133, Tryd.ntmps133
  go_wp2
  go_loopw [5] (fun i wr => ∃ k : Nat, k ≤ l.length ∧ i = .int .i64 k ∧ (∀ j (hj : j < l.length), j < k → (l[j].k == 2 && (l[j].c == r && l[j].d == m)) = false) ∧ wr.cell? ⟨w.heap.size, 0, none⟩ = some (.int .i64 r) ∧ wr.cell? ⟨w.heap.size, 1, none⟩ = some (.int .i64 m) ∧ Below w.heap.size w wr)
    (fun i _ => l.length - (intOf i).toNat)
  case atStart => exact ⟨0, Nat.zero_le _, rfl, fun j hj h => by omega, by simp [go_sem], by simp [go_sem], by go_grown⟩
  case round =>
    obtain ⟨k, hk, rfl, hno, hr, hm, hB⟩ := hrel
    have HN := hideIt hno
    have HB := hideIt hB
    have HLr := hideIt (HL.out.below hB hgw)
    have hgr : g < wr.heap.size := HLr.out.1
    by_cases hlt : k < l.length
    · obtain ⟨y0, y1, y2, y3, y4, y5, y6⟩ := HLr.out.2 k l[k] (by simp [hlt])
      have hlk : Hid (l[k]? = some l[k]) := by show l[k]? = some l[k]; simp [hlt]
      have hnext : Hid ((l[k].k == 2 && (l[k].c == r && l[k].d == m)) = false → ∀ j (hj : j < l.length), j < k + 1 → (l[j].k == 2 && (l[j].c == r && l[j].d == m)) = false) := fun hf j hj hj1 => by
        rcases Nat.lt_or_ge j k with h | h
        · exact HN.out j hj h
        · obtain rfl : j = k := by omega
          exact hf
      generalize l[k] = o at *
      have hlt' : (k : Int) < (l.length : Int) := by omega
      have hk0 : (0 : Int) ≤ (k : Int) := by omega
      clear hno hB
      by_cases hk2 : o.k = 2
      · by_cases hc1 : o.c = r
        · by_cases hd1 : o.d = m
          · have HY : Hid (goneB l (r, m) = true) := gone_yes hlk.out hk2 hc1 hd1
            rw [hk2] at y2
            rw [hc1] at y3
            rw [hd1] at y4
            clear hk2 hc1 hd1
            go_wp2
            go_quiet (fail)
            go_wp2
            go_ret
            exact ⟨ret_bool HY.out.symm, below_drewN HB.out _⟩
          · have HF : Hid ((o.k == 2 && (o.c == r && o.d == m)) = false) := by show (o.k == 2 && (o.c == r && o.d == m)) = false; simp [hd1]
            rw [hk2] at y2
            rw [hc1] at y3
            clear hk2 hc1
            go_wp2
            go_quiet (fail)
            go_wp2
            exact ⟨⟨k + 1, by omega, by go_num, hnext.out HF.out, by simpa using hr, by simpa using hm, below_drewN HB.out _⟩, by simp [intOf]; omega⟩
        · have HF : Hid ((o.k == 2 && (o.c == r && o.d == m)) = false) := by show (o.k == 2 && (o.c == r && o.d == m)) = false; simp [hc1]
          rw [hk2] at y2
          clear hk2
          go_wp2
          go_quiet (fail)
          go_wp2
          exact ⟨⟨k + 1, by omega, by go_num, hnext.out HF.out, by simpa using hr, by simpa using hm, below_drewN HB.out _⟩, by simp [intOf]; omega⟩
      · have HF : Hid ((o.k == 2 && (o.c == r && o.d == m)) = false) := by show (o.k == 2 && (o.c == r && o.d == m)) = false; simp [hk2]
        go_wp2
        go_quiet (fail)
        go_wp2
        exact ⟨⟨k + 1, by omega, by go_num, hnext.out HF.out, by simpa using hr, by simpa using hm, below_drewN HB.out _⟩, by simp [intOf]; omega⟩
    · clear hno hB
      go_wp2
      go_ret
      exact ⟨ret_bool (gone_no (fun j hj => HN.out j hj (by omega))).symm, HB.out⟩
end Go.Proofs.YtficnhlkefpfnaaDoor

namespace Go.Proofs.YtficnhlkefpfnaaDoor
open Go.RowKit
set_option linter.unusedSimpArgs false
set_option linter.unusedVariables false
attribute [local go_sem ↓] Go.wp_at_zero Go.wp_at_succ

theorem idCells_at2 : ∀ (L : List (Int × Int)) (i : Nat) (x : Int × Int), L[i]? = some x → (idCells L)[i * 2]? = some (.int .i64 x.1) ∧ (idCells L)[i * 2 + 1]? = some (.int .i64 x.2)
  | [], i, x, h => by simp at h
  | y :: r, 0, x, h => by simp at h; subst h; simp [idCells]
  | y :: r, i + 1, x, h => by
    have ih := idCells_at2 r i x (by simpa using h)
    have e : idCells (y :: r) = .int .i64 y.1 :: .int .i64 y.2 :: idCells r := rfl
    rw [e, show (i + 1) * 2 = i * 2 + 1 + 1 by omega]
    simpa using ih
theorem find_at {l : List Op7} (h : opsB l = true) {o : Op7} (hm : o ∈ l) : ∃ i : Nat, findI l o.a o.b = i ∧ i < l.length ∧ l[i]? = some o := by
  obtain ⟨hok, hord⟩ := opsParts h
  have h1 := once_of hok hord
  obtain ⟨i, hi⟩ := List.mem_iff_getElem?.1 hm
  obtain ⟨hl, he⟩ := List.getElem?_eq_some_iff.1 hi
  refine ⟨i, ?_, hl, hi⟩
  refine findI_some hl (by rw [he]; simp [hasId]) (fun j hj => ?_)
  cases hc : hasId o.a o.b (l[j]'(by omega))
  · rfl
  · simp [hasId] at hc
    have := h1 j i (l[j]'(by omega)) o (by simp) hi hc.1 hc.2
    omega
/-- Kid by kid. -/
def sideK (l : List Op7) (n : Nat) (L : List Op7) : List Op7 := L.flatMap fun o => sideO l n (o.a, o.b, 0) ++ o :: sideO l n (o.a, o.b, 1)
theorem sideK_all (l : List Op7) (n : Nat) (x : Int × Int × Int) : sideO l (n + 1) x = sideK l n (kidsL l x) := rfl
theorem sideK_step {l : List Op7} {n : Nat} {K : List Op7} {k : Nat} (h : k < K.length) : sideK l n (K.take (k + 1)) = sideK l n (K.take k) ++ sideO l n (K[k].a, K[k].b, 0) ++ [K[k]] ++ sideO l n (K[k].a, K[k].b, 1) := by
  unfold sideK
  rw [List.take_succ_eq_append_getElem h, List.flatMap_append]
  simp
theorem sideK_le {l : List Op7} {n : Nat} {K : List Op7} (k : Nat) : (sideK l n (K.take k)).length ≤ (sideK l n K).length := by
  unfold sideK
  conv => rhs; rw [← List.take_append_drop k K]
  rw [List.flatMap_append, List.length_append]
  omega

/-- An append in a region that draws its order, by the equation of its run. -/
theorem append_arm {P : Program} {o : Oper} {A : Act} {w w' : World} {K' : Act → World → Prop} {Q : Exit → Act → World → Prop} {ys : Nat → Option Bool} {s x : Operand} {t : TypeId} {v u v' : Value}
    (hop : o.op = .call { callee := .builtin .append, args := #[s, x], argTypes := #[t, t] }) (hw : Region.wanted o ys = true) (hs : A.eval s = v) (hx : A.eval x = u) (ht : o.type = t) (hr : (Builtin.append_ #[t, t] t #[v, u]).run P w = .ok v' w') (h : K' (A.put o.dst v') w') :
    if Region.wanted o ys = true then Oper.wp P o A w K' Q else K' (A.put o.dst undef) w := by
  rw [if_pos hw]
  unfold Oper.wp execOp
  subst ht
  simp only [hop, resolve, invoke, builtin, Sem.run_bind, Sem.run_pure, Result.andThen_ok, List.map_toArray, List.map_cons, List.map_nil, hs, hx, hr]
  exact h
/-- Where the loop of l2Side stands: the leaves so far, the kids, the things. -/
structure SL (l : List Op7) (w wr : World) (Gk : Nat) (K : List Op7) (v : Value) (L : List Op7) : Prop where
  row : wr.ownsRow (w.heap.size + 1) 115 4 v L.length (leafCells l L)
  ne : ∀ j, v.ownBlock = some j → j ≠ Gk
  kc : ∀ j, j < K.length * 2 → wr.cell? ⟨Gk, j, none⟩ = (idCells (idsOf K))[j]?
  kl : Gk < wr.heap.size
  kg : w.heap.size + 1 < Gk
  bel : Below w.heap.size w wr
theorem SL.below {l : List Op7} {w wr w' : World} {Gk : Nat} {K : List Op7} {v : Value} {L : List Op7} (h : SL l w wr Gk K v L) (hb : Below wr.heap.size wr w') : SL l w w' Gk K v L :=
  ⟨h.row.kept (row := none) ⟨hb.os, hb.tape, hb.output, hb.size, fun i hi _ => hb.block i hi⟩ (by cases v.ownBlock <;> simp), h.ne, fun j hj => ((bcell hb).1 _ _ h.kl).trans (h.kc j hj), Nat.lt_of_lt_of_le h.kl hb.size, h.kg, Bstep h.bel hb⟩
theorem SL.app {l : List Op7} {w wr w' : World} {Gk : Nat} {K : List Op7} {v v' : Value} {L M : List Op7} (h : SL l w wr Gk K v L) (hg : wr.grownBy w' v.ownBlock) (hown : w'.ownsRow (w.heap.size + 1) 115 4 v' (L.length + M.length) (leafCells l L ++ leafCells l M))
    (hloc : v'.ownBlock = v.ownBlock ∨ v'.ownBlock = some wr.heap.size) : SL l w w' Gk K v' (L ++ M) := by
  have h1 := h.kl
  refine ⟨by rw [leafCells_app, List.length_append]; exact hown, fun j hj => ?_, fun j hj => (grown_cell hg h.kl (fun e => h.ne Gk e.symm rfl) j).trans (h.kc j hj), Nat.lt_of_lt_of_le h.kl hg.size, h.kg, below_grown h.bel hg h.bel.size (fun j e => by have := (h.row.lt j e).1; omega)⟩
  rcases hloc with e | e
  · exact h.ne j (e ▸ hj)
  · rw [e] at hj
    have := Option.some.inj hj
    omega

set_option maxRecDepth 100000 in
set_option maxHeartbeats 4000000 in
theorem l2Side_any (l : List Op7) (hops : opsB l = true) (g cap : Nat) (hn : l.length ≤ 1048576) (hcap : l.length ≤ cap) : ∀ (n d : Nat) (r m s : Int), Up l d (r, m) → d + n = l.length + 2 → ∀ (w : World), OpsAt w g l →
    Calls Tryd.prog 118 #[.slice (some ⟨g, 0, none⟩) l.length cap, .agg #[.int .i64 r, .int .i64 m], .int .i64 s] w fun e w' => ∃ G c, e = .returned (.slice (some ⟨G, 0, none⟩) (sideO l n (r, m, s)).length c) ∧ w'.ownsRow w.heap.size 115 4 (.slice (some ⟨G, 0, none⟩) (sideO l n (r, m, s)).length c) (sideO l n (r, m, s)).length (leafCells l (sideO l n (r, m, s))) ∧ Below w.heap.size w w' := by
  intro n
  induction n with
  | zero =>
    intro d r m s hu hd
    have := up_le hops hu
    omega
  | succ n ih =>
    intro d r m s hu hd w hl
    have IH : Hid (∀ (o : Op7), o ∈ kidsL l (r, m, s) → ∀ (t : Int) (w : World), OpsAt w g l → Calls Tryd.prog 118 #[.slice (some ⟨g, 0, none⟩) l.length cap, .agg #[.int .i64 o.a, .int .i64 o.b], .int .i64 t] w fun e w' => ∃ G c, e = .returned (.slice (some ⟨G, 0, none⟩) (sideO l n (o.a, o.b, t)).length c) ∧ w'.ownsRow w.heap.size 115 4 (.slice (some ⟨G, 0, none⟩) (sideO l n (o.a, o.b, t)).length c) (sideO l n (o.a, o.b, t)).length (leafCells l (sideO l n (o.a, o.b, t))) ∧ Below w.heap.size w w') :=
      fun o ho t w hw => ih (d + 1) o.a o.b t (up_kid ho hu) (by omega) w hw
    have HLEN : Hid ((sideK l n (kidsL l (r, m, s))).length ≤ l.length) := side_len (n := n + 1) (x := (r, m, s)) hops hu
    have HL := hideIt hl
    have hgw := hl.1
    have HO := hideIt hops
    have HMEM : Hid (∀ o ∈ kidsL l (r, m, s), o ∈ l) := fun o ho => (mem_kids ho).1
    clear ih hu hd hl hops
    have hKl : (kidsL l (r, m, s)).length ≤ 1048576 := Nat.le_trans (kids_le l _) hn
    rw [sideK_all]
    generalize hKK : kidsL l (r, m, s) = K at *
    have HKK := hideIt hKK
    clear hKK
    go_enter Tryd.func118, Tryd.ntmps118
    go_wp2_with fail
    have HB0 : Hid (Below w.heap.size w ((w.alloc (.cells #[.int .i64 r, .int .i64 m] 69)).alloc (.cells #[] 115))) := ((Below.refl _ _).alloc (Nat.le_refl _) _).alloc (by simp) _
    refine (l2Kids_any l _ _ _ _ _ _ (HL.out.below HB0.out hgw) hn hcap).mono ?_
    rintro e w1 ⟨vk, rfl, hrk, hb1⟩
    rw [HKK.out] at hrk
    have HB1 : Hid (Below w.heap.size w w1) := HB0.out.trans (hb1.mono (by simp; omega))
    have HR0 : Hid (w1.ownsRow (w.heap.size + 1) 115 4 (.slice (some ⟨w.heap.size + 1, 0, none⟩) 0 0) 0 []) := by
      have h := World.ownsRow_made (base := w.heap.size + 1) (e := 115) (size := 4) (w.alloc (.cells #[.int .i64 r, .int .i64 m] 69)) #[] 0 (by simp) (Nat.zero_le _) rfl
      simp only [World.size_alloc] at h
      exact h.kept (row := none) ⟨hb1.os, hb1.tape, hb1.output, hb1.size, fun i hi _ => hb1.block i hi⟩ (.inr (by simp [Value.ownBlock]))
    simp only [World.size_alloc] at hrk
    have hrk2 := hrk
    rcases row_cases hrk with ⟨hlen, p0, c0, rfl⟩ | ⟨hlen, Gk, capk, rfl, hcapk, hGl, hcell⟩
    · obtain rfl : K = [] := List.length_eq_zero_iff.1 hlen
      clear hrk hrk2 hb1 hlen
      go_wp2
      refine wp_loop_rounds 1 ?_
      rw [rounds_succ]
      go_wp2
      go_ret
      exact ⟨_, _, rfl, ownsRow_base (Nat.le_succ _) HR0.out, HB1.out⟩
    · have hGk : w.heap.size + 1 + 1 ≤ Gk := (hrk2.lt Gk rfl).1
      have HS0 : Hid (SL l w w1 Gk K (.slice (some ⟨w.heap.size + 1, 0, none⟩) 0 0) []) :=
        ⟨HR0.out, fun j e => by simp [Value.ownBlock] at e; omega, hcell, hGl, by omega, HB1.out⟩
      clear hrk hrk2 hb1 hcell hGl HR0 HB0 HB1
      obtain ⟨i0, hi, hz0', hz1', hz2⟩ := info_parts infoLeaf
      have HI1 := hideIt hi
      have HZ0 := hideIt hz0'
      have HZ1 := hideIt hz1'
      have HZ2 := hideIt hz2
      clear hi hz0' hz1' hz2
      go_wp2
      go_loopw [7, 9] (fun v i wr => ∃ k : Nat, k ≤ K.length ∧ i = .int .i64 k ∧ (∃ G c, v = .slice (some ⟨G, 0, none⟩) (sideK l n (K.take k)).length c) ∧ SL l w wr Gk K v (sideK l n (K.take k)))
        (fun _ i _ => K.length - (intOf i).toNat)
      case atStart => exact ⟨0, Nat.zero_le _, rfl, ⟨_, _, rfl⟩, HS0.out⟩
      case round =>
        obtain ⟨k, hk, rfl, ⟨G0, c0, rfl⟩, hSL⟩ := hrel
        have HSL := hideIt hSL
        clear hSL HS0
        by_cases hlt : k < K.length
        · obtain ⟨j0, j1⟩ := idCells_at2 (idsOf K) k (K[k].a, K[k].b) (by simp [idsOf, hlt])
          have y0 := (HSL.out.kc (k * 2) (by omega)).trans j0
          have y1 := (HSL.out.kc (k * 2 + 1) (by omega)).trans j1
          have hGr := HSL.out.kl
          have hlt' : (k : Int) < (K.length : Int) := by omega
          have hk0 : (0 : Int) ≤ (k : Int) := by omega
          have HMK : Hid (K[k] ∈ K) := List.getElem_mem hlt
          have HST := hideIt (sideK_step (l := l) (n := n) hlt)
          have HLE := hideIt (Nat.le_trans (sideK_le (l := l) (n := n) (K := K) (k + 1)) HLEN.out)
          have HOK : Hid ((idsOf K)[k]? = some (K[k].a, K[k].b)) := by show (idsOf K)[k]? = some (K[k].a, K[k].b); simp [idsOf, hlt]
          generalize K[k] = o at *
          clear j0 j1
          obtain ⟨fi, hfi, hfl, hfo⟩ := find_at HO.out (HMEM.out o HMK.out)
          have HFI := hideIt hfi
          have HLr := hideIt (HL.out.below HSL.out.bel hgw)
          clear hfi
          go_wp2_with fail
          refine (IH.out o HMK.out 0 _ HLr.out).mono ?_
          rintro e w2 ⟨G1, c1, rfl, hr1, hb2⟩
          have HR1 := hideIt hr1
          have HS2 := hideIt (HSL.out.below hb2)
          clear hr1 hb2 y0 y1 hGr HSL HLr
          have HLL : Hid ((sideK l n (K.take k)).length + (sideO l n (o.a, o.b, 0)).length + 1 + (sideO l n (o.a, o.b, 1)).length ≤ l.length) := by
            have h := HLE.out
            rw [HST.out] at h
            simp only [List.length_append, List.length_cons, List.length_nil] at h
            exact h
          have hll := HLL.out
          go_wp2_with (first
            | (at_builtin; refine wpList_append_own_at _ rfl _ _ 111 rfl (w.heap.size + 1) 115 i0 _ 4 32 Tryd.underlying111 HI1.out HZ0.out HZ1.out HZ2.out rfl (by decide) _ _ _ rfl HS2.out.row ⟨G1, 0, none⟩ (sideO l n (o.a, o.b, 0)).length c1 (leafCells l (sideO l n (o.a, o.b, 0))) rfl (leafCells_len l _) (HR1.out.cells rfl) (leafCells_one l _) (by unfold maxLen; omega) (by omega) (by have := HS2.out.bel.size; have := HS2.out.kg; have := HS2.out.kl; omega) ?_; intro v3 w3 hown3 hg3 _ hloc3;
                have HS3 := hideIt (HS2.out.app (M := sideO l n (o.a, o.b, 0)) hg3 hown3 hloc3); clear hown3 hg3 hloc3))
          obtain ⟨j0, j1⟩ := idCells_at2 (idsOf K) k (o.a, o.b) HOK.out
          have K3 : Hid (w3.drew.cell? ⟨Gk, k * 2, none⟩ = some (.int .i64 o.a) ∧ w3.drew.cell? ⟨Gk, k * 2 + 1, none⟩ = some (.int .i64 o.b) ∧ w3.drew.cell? ⟨g, fi * 7 + 6, none⟩ = some (.int .i64 o.g)) :=
            ⟨(HS3.out.kc (k * 2) (by omega)).trans j0, (HS3.out.kc (k * 2 + 1) (by omega)).trans j1, ((HL.out.below HS3.out.bel hgw).2 fi o hfo).2.2.2.2.2.2⟩
          have hGk3 : Gk < w3.drew.heap.size := HS3.out.kl
          have HS : Hid (SL l w w3.drew Gk K v3 (sideK l n (K.take k) ++ sideO l n (o.a, o.b, 0))) := HS3.out.below ((Below.refl _ _).drew)
          have hfl' : (fi : Int) < (l.length : Int) := by omega
          have hf0 : (0 : Int) ≤ (fi : Int) := by omega
          clear HS2 HR1 HS3 j0 j1
          go_region_held3 (fun w' => w'.cell? ⟨Gk, k * 2, none⟩ = some (.int .i64 o.a) ∧ w'.cell? ⟨Gk, k * 2 + 1, none⟩ = some (.int .i64 o.b) ∧ w'.cell? ⟨g, fi * 7 + 6, none⟩ = some (.int .i64 o.g))
            (first | exact K3.out | exact K4.out | exact K5.out | exact K6.out | exact K7.out)
            (first
              | (go_at_call 75; refine (l1Find_any l g cap _ _ _ (HL.out.below HS.out.bel hgw) hn hcap).mono ?_; rintro e w4 ⟨rfl, hb4⟩; rw [HFI.out]; have K4 : Hid (w4.cell? ⟨Gk, k * 2, none⟩ = some (.int .i64 o.a) ∧ w4.cell? ⟨Gk, k * 2 + 1, none⟩ = some (.int .i64 o.b) ∧ w4.cell? ⟨g, fi * 7 + 6, none⟩ = some (.int .i64 o.g)) := ⟨((bcell hb4).1 _ _ HS.out.kl).trans K3.out.1, ((bcell hb4).1 _ _ HS.out.kl).trans K3.out.2.1, ((bcell hb4).1 _ _ (Nat.lt_of_lt_of_le hgw HS.out.bel.size)).trans K3.out.2.2⟩; have HS := hideIt (HS.out.below hb4); clear hb4)
              | (go_at_call 133; refine (l2Gone_any l g cap _ _ _ (HL.out.below HS.out.bel hgw) hn hcap).mono ?_; rintro e w5 ⟨rfl, hb5⟩; have K5 : Hid (w5.cell? ⟨Gk, k * 2, none⟩ = some (.int .i64 o.a) ∧ w5.cell? ⟨Gk, k * 2 + 1, none⟩ = some (.int .i64 o.b) ∧ w5.cell? ⟨g, fi * 7 + 6, none⟩ = some (.int .i64 o.g)) := ⟨((bcell hb5).1 _ _ HS.out.kl).trans K4.out.1, ((bcell hb5).1 _ _ HS.out.kl).trans K4.out.2.1, ((bcell hb5).1 _ _ (Nat.lt_of_lt_of_le hgw HS.out.bel.size)).trans K4.out.2.2⟩; have HS := hideIt (HS.out.below hb5);
                  have HSA : Hid (SL l w (w5.alloc (.cells #[.int .i64 o.a, .int .i64 o.b, .int .i64 o.g, .bool (goneB l (o.a, o.b))] 115)) Gk K v3 (sideK l n (K.take k) ++ sideO l n (o.a, o.b, 0))) := HS.out.below ((Below.refl _ _).alloc (Nat.le_refl _) _);
                  have K6 : Hid ((w5.alloc (.cells #[.int .i64 o.a, .int .i64 o.b, .int .i64 o.g, .bool (goneB l (o.a, o.b))] 115)).cell? ⟨Gk, k * 2, none⟩ = some (.int .i64 o.a) ∧ (w5.alloc (.cells #[.int .i64 o.a, .int .i64 o.b, .int .i64 o.g, .bool (goneB l (o.a, o.b))] 115)).cell? ⟨Gk, k * 2 + 1, none⟩ = some (.int .i64 o.b) ∧ (w5.alloc (.cells #[.int .i64 o.a, .int .i64 o.b, .int .i64 o.g, .bool (goneB l (o.a, o.b))] 115)).cell? ⟨g, fi * 7 + 6, none⟩ = some (.int .i64 o.g)) := ⟨(World.cell?_alloc_lt _ _ _ HS.out.kl).trans K5.out.1, (World.cell?_alloc_lt _ _ _ HS.out.kl).trans K5.out.2.1, (World.cell?_alloc_lt _ _ _ (show g < _ from Nat.lt_of_lt_of_le hgw HS.out.bel.size)).trans K5.out.2.2⟩;
                  obtain ⟨v6, w6, hap, hown6, hg6, _, hloc6⟩ := run_append_own_at (P := Tryd.prog) (w5.alloc (.cells #[.int .i64 o.a, .int .i64 o.b, .int .i64 o.g, .bool (goneB l (o.a, o.b))] 115)) (w.heap.size + 1) 111 111 115 i0 _ 4 32 Tryd.underlying111 HI1.out HZ0.out HZ1.out HZ2.out rfl (by decide) v3 _ _ HSA.out.row ⟨w5.heap.size, 0, none⟩ 1 1 (leafCells l [o]) rfl (cells_new w5 (leafCells l [o]) 115) (leafCells_one l _) (by rw [List.length_append]; unfold maxLen; omega) (by rw [List.length_append]; omega) (by have := HSA.out.kg; have := HSA.out.kl; omega);
                  have K7 : Hid (w6.cell? ⟨Gk, k * 2, none⟩ = some (.int .i64 o.a) ∧ w6.cell? ⟨Gk, k * 2 + 1, none⟩ = some (.int .i64 o.b) ∧ w6.cell? ⟨g, fi * 7 + 6, none⟩ = some (.int .i64 o.g)) := ⟨(grown_cell hg6 HSA.out.kl (fun e => HSA.out.ne _ e.symm rfl) _).trans K6.out.1, (grown_cell hg6 HSA.out.kl (fun e => HSA.out.ne _ e.symm rfl) _).trans K6.out.2.1, (grown_cell hg6 (Nat.lt_of_lt_of_le hgw HSA.out.bel.size) (fun e => by have := (HSA.out.row.lt _ e.symm).1; omega) _).trans K6.out.2.2⟩;
                  have HS6 := hideIt (HSA.out.app (M := [o]) hg6 hown6 hloc6); clear hown6 hg6 hloc6 hb5)
              | (refine append_arm (t := 111) rfl rfl rfl rfl rfl hap ?_; clear hap))
          rename_i hS
          clear hS HSA HS K4 K5 K6 K3
          have y0 := K7.out.1
          have y1 := K7.out.2.1
          have hGr := HS6.out.kl
          go_wp2_with fail
          refine (IH.out o HMK.out 1 _ (HL.out.below HS6.out.bel hgw)).mono ?_
          rintro e w7 ⟨G7, c7, rfl, hr7, hb7⟩
          have HR7 := hideIt hr7
          have HS7 := hideIt (HS6.out.below hb7)
          clear hr7 hb7 y0 y1 hGr HS6 K7
          go_wp2_with (first
            | (at_builtin; refine wpList_append_own_at _ rfl _ _ 111 rfl (w.heap.size + 1) 115 i0 _ 4 32 Tryd.underlying111 HI1.out HZ0.out HZ1.out HZ2.out rfl (by decide) _ _ _ rfl HS7.out.row ⟨G7, 0, none⟩ (sideO l n (o.a, o.b, 1)).length c7 (leafCells l (sideO l n (o.a, o.b, 1))) rfl (leafCells_len l _) (HR7.out.cells rfl) (leafCells_one l _) (by simp only [List.length_append, List.length_cons, List.length_nil]; unfold maxLen; omega) (by simp only [List.length_append, List.length_cons, List.length_nil]; omega) (by have := HS7.out.kg; have := HS7.out.kl; omega) ?_; intro v8 w8 hown8 hg8 hnil8 hloc8;
                have HS8 := hideIt (HS7.out.app (M := sideO l n (o.a, o.b, 1)) hg8 hown8 hloc8); clear hown8 hg8 hloc8 hnil8))
          have HE := hideIt HS8.out
          have hrow := HS8.out.row
          rw [← HST.out] at hrow
          have hv8 : ∃ G c, v8 = .slice (some ⟨G, 0, none⟩) (sideK l n (K.take (k + 1))).length c := by
            rcases hrow.2 with ⟨_, h1⟩ | ⟨G, c, cur, h1, _⟩
            · exfalso
              rw [HST.out] at h1
              simp at h1
            · exact ⟨G, c, h1⟩
          exact ⟨⟨k + 1, by omega, by go_num, hv8, by rw [HST.out]; exact HS8.out⟩, by simp [intOf]; omega⟩
        · obtain rfl : k = K.length := by omega
          go_wp2
          go_ret
          have h := HSL.out.row
          have hbb := HSL.out.bel
          rw [List.take_length] at h ⊢
          exact ⟨_, _, rfl, ownsRow_base (Nat.le_succ _) h, hbb⟩
end Go.Proofs.YtficnhlkefpfnaaDoor

namespace Go.Proofs.YtficnhlkefpfnaaDoor
open Go.RowKit
set_option linter.unusedSimpArgs false
set_option linter.unusedVariables false
attribute [local go_sem ↓] Go.wp_at_zero Go.wp_at_succ

/-- All signs, as they stand, if what was done is ok. -/
def standL (l : List Op7) : List Op7 := if opsB l = true then allO l else []
theorem all_len {l : List Op7} (h : opsB l = true) : (allO l).length ≤ l.length := side_len (x := (0, 0, 1)) h Up.zero
theorem stand_len (l : List Op7) : (standL l).length ≤ l.length := by
  unfold standL
  split
  · rename_i h; exact all_len h
  · simp

set_option maxRecDepth 100000 in
set_option maxHeartbeats 1000000 in
theorem l2Leaves_any (l : List Op7) (hops : opsB l = true) (g cap : Nat) (w : World) (hl : OpsAt w g l) (hn : l.length ≤ 1048576) (hcap : l.length ≤ cap) :
    Calls Tryd.prog 94 #[.slice (some ⟨g, 0, none⟩) l.length cap] w fun e w' => ∃ G c, e = .returned (.slice (some ⟨G, 0, none⟩) (allO l).length c) ∧ w'.ownsRow w.heap.size 115 4 (.slice (some ⟨G, 0, none⟩) (allO l).length c) (allO l).length (leafCells l (allO l)) ∧ Below w.heap.size w w' := by
  have HL := hideIt hl
  have HO := hideIt hops
  clear hl hops
  go_enter Tryd.func94, Tryd.ntmps94
  go_wp2_with fail
  refine (l2Side_any l HO.out g cap hn hcap (l.length + 2) 0 0 0 1 Up.zero (by omega) _ HL.out).mono ?_
  rintro e w1 ⟨G, c, rfl, hr, hb⟩
  have HR := hideIt hr
  have HB := hideIt hb
  clear hr hb
  go_wp2
  go_ret
  exact ⟨_, _, rfl, HR.out, HB.out⟩

/-- A leaf's four parts. -/
structure Lf where
  a : Int
  b : Int
  g : Int
  z : Bool
def lfCells (L : List Lf) : List Value := L.flatMap fun o => [.int .i64 o.a, .int .i64 o.b, .int .i64 o.g, .bool o.z]
def lfs (l L : List Op7) : List Lf := L.map fun o => ⟨o.a, o.b, o.g, goneB l (o.a, o.b)⟩
theorem lfs_cells (l L : List Op7) : leafCells l L = lfCells (lfs l L) := by simp [leafCells, lfCells, lfs, List.flatMap_map]
theorem lfs_len (l L : List Op7) : (lfs l L).length = L.length := by simp [lfs]
theorem lfCells_len : ∀ L : List Lf, (lfCells L).length = L.length * 4
  | [] => rfl
  | x :: r => by have := lfCells_len r; simp [lfCells] at this ⊢; omega
theorem lfCells_at : ∀ (L : List Lf) (i : Nat) (x : Lf), L[i]? = some x → (lfCells L)[i * 4]? = some (.int .i64 x.a) ∧ (lfCells L)[i * 4 + 1]? = some (.int .i64 x.b) ∧ (lfCells L)[i * 4 + 2]? = some (.int .i64 x.g) ∧ (lfCells L)[i * 4 + 3]? = some (.bool x.z)
  | [], i, x, h => by simp at h
  | y :: r, 0, x, h => by simp at h; subst h; simp [lfCells]
  | y :: r, i + 1, x, h => by
    have ih := lfCells_at r i x (by simpa using h)
    have e : lfCells (y :: r) = .int .i64 y.a :: .int .i64 y.b :: .int .i64 y.g :: .bool y.z :: lfCells r := rfl
    rw [e, show (i + 1) * 4 = i * 4 + 1 + 1 + 1 + 1 by omega]
    simpa using ih

end Go.Proofs.YtficnhlkefpfnaaDoor

namespace Go.Proofs.YtficnhlkefpfnaaDoor
open Go.RowKit
set_option linter.unusedSimpArgs false
set_option linter.unusedVariables false

/-- A sign in the row of all, and behind it all that was put on its right. -/
theorem side_at {l : List Op7} : ∀ (n d : Nat) (x : Int × Int × Int) (p : Op7), Up l d (x.1, x.2.1) → d + n = l.length + 2 → p ∈ sideO l n x →
    ∃ pre post n' d', Up l d' (p.a, p.b) ∧ d' + n' = l.length + 2 ∧ sideO l n x = pre ++ p :: (sideO l n' (p.a, p.b, 1) ++ post) := by
  intro n
  induction n with
  | zero => intro d x p _ _ h; cases h
  | succ n ih =>
    intro d x p hu hd hp
    obtain ⟨o, ho, hpo⟩ := List.mem_flatMap.1 hp
    have huo := up_kid ho hu
    obtain ⟨K1, K2, hK⟩ := List.append_of_mem ho
    have hS : sideO l (n + 1) x = sideK l n K1 ++ (sideO l n (o.a, o.b, 0) ++ o :: sideO l n (o.a, o.b, 1)) ++ sideK l n K2 := by
      rw [sideK_all, hK]
      simp [sideK]
    rcases List.mem_append.1 hpo with h | h
    · obtain ⟨pre, post, n', d', h1, h2, h3⟩ := ih (d + 1) (o.a, o.b, 0) p huo (by omega) h
      exact ⟨sideK l n K1 ++ pre, post ++ (o :: sideO l n (o.a, o.b, 1)) ++ sideK l n K2, n', d', h1, h2, by rw [hS, h3]; simp⟩
    · rcases List.mem_cons.1 h with rfl | h
      · exact ⟨sideK l n K1 ++ sideO l n (p.a, p.b, 0), sideK l n K2, n, d + 1, huo, by omega, by rw [hS]; simp⟩
      · obtain ⟨pre, post, n', d', h1, h2, h3⟩ := ih (d + 1) (o.a, o.b, 1) p huo (by omega) h
        exact ⟨sideK l n K1 ++ sideO l n (o.a, o.b, 0) ++ o :: pre, post ++ sideK l n K2, n', d', h1, h2, by rw [hS, h3]; simp⟩
theorem nodup_all {l : List Op7} (h : opsB l = true) : (allO l).Nodup := by
  obtain ⟨hok, hord⟩ := opsParts h
  have h1 := once_of hok hord
  exact nodup_side hok h1 (nodup_of_once h1) _ 0 _ Up.zero
/-- What was put on a sign's right stands behind it. -/
theorem all_next {l : List Op7} (h : opsB l = true) {j : Nat} {p : Op7} (hj : (allO l)[j]? = some p) (hk : kidsL l (p.a, p.b, 1) ≠ []) : j + 1 < (allO l).length := by
  obtain ⟨pre, post, n', d', h1, h2, h3⟩ := side_at (l := l) (l.length + 2) 0 (0, 0, 1) p Up.zero (by omega) (List.mem_of_getElem? hj)
  obtain ⟨y, hy⟩ := List.exists_mem_of_ne_nil _ hk
  have hu := up_le h (up_kid (x := (p.a, p.b, 1)) hy h1)
  obtain ⟨m, rfl⟩ : ∃ m, n' = m + 1 := ⟨n' - 1, by omega⟩
  have hmem : y ∈ sideO l (m + 1) (p.a, p.b, 1) := by
    rw [sideK_all]
    exact List.mem_flatMap.2 ⟨y, hy, by simp⟩
  have hpos : 0 < (sideO l (m + 1) (p.a, p.b, 1)).length := List.length_pos_of_mem hmem
  have hnd : (allO l).Nodup := nodup_all h
  have h3' : allO l = pre ++ p :: (sideO l (m + 1) (p.a, p.b, 1) ++ post) := h3
  have hlen : (allO l).length = pre.length + 1 + (sideO l (m + 1) (p.a, p.b, 1)).length + post.length := by rw [h3']; simp; omega
  have hlt : j < (allO l).length := (List.getElem?_eq_some_iff.1 hj).1
  have hp2 : (allO l)[pre.length]? = some p := by rw [h3']; simp
  have : j = pre.length := (List.getElem?_inj hlt hnd).1 (hj.trans hp2.symm)
  omega
/-- If something was put on the right of nothing, there is a first one. -/
theorem all_first {l : List Op7} (h : opsB l = true) (hk : kidsL l (0, 0, 1) ≠ []) : 0 < (allO l).length := by
  obtain ⟨y, hy⟩ := List.exists_mem_of_ne_nil _ hk
  exact List.length_pos_of_mem (a := y) (List.mem_flatMap.2 ⟨y, hy, by simp⟩)
/-- Where, among the first k leaves, those are that are not gone. -/
def shownTo (L : List Lf) (k : Nat) : List Nat := (List.range k).filter fun i => match L[i]? with | some x => !x.z | none => false
def shownI (L : List Lf) : List Nat := shownTo L L.length
theorem shownTo_gone {L : List Lf} {k : Nat} (hk : k < L.length) (h : L[k].z = true) : shownTo L (k + 1) = shownTo L k := by
  simp [shownTo, List.range_succ, List.filter_append, hk, h]
theorem shownTo_there {L : List Lf} {k : Nat} (hk : k < L.length) (h : L[k].z = false) : shownTo L (k + 1) = shownTo L k ++ [k] := by
  simp [shownTo, List.range_succ, List.filter_append, hk, h]
theorem shownTo_len (L : List Lf) (k : Nat) : (shownTo L k).length ≤ k := by
  have := List.length_filter_le (fun i => match L[i]? with | some x => !x.z | none => false) (List.range k)
  simpa [shownTo] using this
theorem shownI_lt {L : List Lf} {i : Nat} (h : i ∈ shownI L) : i < L.length := by
  have := (List.mem_filter.1 h).1
  simpa using this
/-- Things that are ok are 36 at most. -/
theorem ops_36 {l : List Op7} (h : opsB l = true) : l.length ≤ 36 := by
  obtain ⟨hok, hord⟩ := opsParts h
  have h1 := once_of hok hord
  have hnd : (l.map fun o => (o.a, o.b)).Nodup := by
    refine List.pairwise_iff_getElem.2 fun i j hi hj hij e => ?_
    simp only [List.length_map] at hi hj
    simp only [List.getElem_map, Prod.mk.injEq] at e
    have := h1 i j l[i] l[j] (by simp [hi]) (by simp [hj]) e.1 e.2
    omega
  have hsub : ∀ x ∈ (l.map fun o => (o.a, o.b)), x ∈ (List.range 3).flatMap fun i => (List.range 12).map fun j => (((i + 1 : Nat) : Int), ((j + 1 : Nat) : Int)) := by
    intro x hx
    obtain ⟨o, ho, rfl⟩ := List.mem_map.1 hx
    obtain ⟨a1, a3, b1, b12⟩ := okO_id (List.all_eq_true.1 hok o ho)
    refine List.mem_flatMap.2 ⟨(o.a - 1).toNat, by simp; omega, List.mem_map.2 ⟨(o.b - 1).toNat, by simp; omega, ?_⟩⟩
    refine Prod.ext ?_ ?_ <;> simp <;> omega
  have h36 := nodup_le _ _ hnd hsub
  rw [List.length_map] at h36
  exact Nat.le_trans h36 (by decide)
end Go.Proofs.YtficnhlkefpfnaaDoor

namespace Go.Proofs.YtficnhlkefpfnaaDoor
open Go.RowKit
set_option linter.unusedSimpArgs false
set_option linter.unusedVariables false

/-- All leaves. -/
def lvs (l : List Op7) : List Lf := lfs l (allO l)
theorem lvs_len {l : List Op7} (h : opsB l = true) : (lvs l).length ≤ 36 := by
  unfold lvs
  rw [lfs_len]
  exact Nat.le_trans (all_len h) (ops_36 h)
theorem lvs_at {l : List Op7} {j : Nat} {x : Lf} (h : (lvs l)[j]? = some x) : ∃ p, (allO l)[j]? = some p ∧ p.a = x.a ∧ p.b = x.b := by
  unfold lvs lfs at h
  rw [List.getElem?_map] at h
  cases hp : (allO l)[j]? with
  | none => rw [hp] at h; cases h
  | some p => rw [hp] at h; cases h; exact ⟨p, rfl, rfl, rfl⟩
/-- One can do one thing more. -/
def mayMore (l : List Op7) (r : Int) : Bool := opsB l && inB r 1 3 && decide (cnt l r + 1 ≤ 12)
/-- The leaf that stands ahead of a place among those that are shown, and where. -/
def aheadOf (l : List Op7) (t : Nat) : Option (Lf × Nat) := match t with
  | 0 => none
  | k + 1 => match (shownI (lvs l))[k]? with
    | some j => match (lvs l)[j]? with | some x => some (x, j) | none => none
    | none => none
def leftOf (l : List Op7) (t : Nat) : Int × Int × Nat := match aheadOf l t with | some (x, j) => (x.a, x.b, j + 1) | none => (0, 0, 0)
theorem leftOf_zero (l : List Op7) : leftOf l 0 = (0, 0, 0) := rfl
theorem leftOf_succ {l : List Op7} {k j : Nat} {x : Lf} (h : (shownI (lvs l))[k]? = some j) (hx : (lvs l)[j]? = some x) : leftOf l (k + 1) = (x.a, x.b, j + 1) := by
  simp [leftOf, aheadOf, h, hx]
theorem shown_leaf {l : List Op7} {k : Nat} (h : k < (shownI (lvs l)).length) : ∃ j x, (shownI (lvs l))[k]? = some j ∧ (lvs l)[j]? = some x ∧ j < (lvs l).length := by
  have hj := shownI_lt (List.getElem_mem h)
  exact ⟨(shownI (lvs l))[k], (lvs l)[(shownI (lvs l))[k]], by simp [h], by simp [hj], hj⟩
/-- If something was put on the right of what stands ahead of a place, something stands behind it. -/
theorem left_next {l : List Op7} (h : opsB l = true) {t : Nat} (ht : t ≤ (shownI (lvs l)).length) (hk : kidsL l ((leftOf l t).1, (leftOf l t).2.1, 1) ≠ []) : (leftOf l t).2.2 < (lvs l).length := by
  have hll : (lvs l).length = (allO l).length := by unfold lvs; exact lfs_len _ _
  cases t with
  | zero =>
    rw [leftOf_zero] at hk ⊢
    rw [hll]
    exact all_first h hk
  | succ k =>
    obtain ⟨j, x, h1, h2, h3⟩ := shown_leaf (l := l) (k := k) (by omega)
    rw [leftOf_succ h1 h2] at hk ⊢
    obtain ⟨p, hp, ha, hb⟩ := lvs_at h2
    rw [hll]
    exact all_next h hp (by rw [ha, hb]; exact hk)
/-- What is put at a place: the leaf that stands behind. -/
def nextLf (l : List Op7) (t : Nat) : Int × Int := match (lvs l)[(leftOf l t).2.2]? with | some x => (x.a, x.b) | none => (0, 0)
def putO (l : List Op7) (r : Int) (t : Nat) (sg : Int) : Op7 :=
  if kidsL l ((leftOf l t).1, (leftOf l t).2.1, 1) = [] then ⟨r, cnt l r + 1, 1, (leftOf l t).1, (leftOf l t).2.1, 1, sg⟩ else ⟨r, cnt l r + 1, 1, (nextLf l t).1, (nextLf l t).2, 0, sg⟩
def mayPut (l : List Op7) (r t sg : Int) : Bool := mayMore l r && (inB sg 97 122 && inB t 0 (shownI (lvs l)).length)
/-- What is taken at a place. -/
def takeId (l : List Op7) (t : Nat) : Int × Int := match (shownI (lvs l))[t]? with
  | some j => match (lvs l)[j]? with | some x => (x.a, x.b) | none => (0, 0)
  | none => (0, 0)
def takeO (l : List Op7) (r : Int) (t : Nat) : Op7 := ⟨r, cnt l r + 1, 2, (takeId l t).1, (takeId l t).2, 0, 0⟩
def mayTake (l : List Op7) (r t : Int) : Bool := mayMore l r && inB t 0 ((shownI (lvs l)).length - 1)
end Go.Proofs.YtficnhlkefpfnaaDoor

namespace Go.Proofs.YtficnhlkefpfnaaDoor
open Go.RowKit
set_option linter.unusedSimpArgs false
set_option linter.unusedVariables false
attribute [local go_sem ↓] Go.wp_at_zero Go.wp_at_succ

/-- Places, as cells. -/
def natCells (L : List Nat) : List Value := L.map fun i => .int .i64 (Int.ofNat i)
theorem natCells_len (L : List Nat) : (natCells L).length = L.length := by simp [natCells]
theorem natCells_more (L : List Nat) (k : Nat) : natCells (L ++ [k]) = natCells L ++ [.int .i64 (k : Int)] := by simp [natCells]
theorem nat_one {k : Int} : ∀ u ∈ [Value.int .i64 k], u.oneCell' = true := by
  intro u hu
  simp at hu
  subst hu
  rfl

set_option maxRecDepth 100000 in
set_option maxHeartbeats 2000000 in
theorem l3Shown_any (L : List Lf) (G c base : Nat) (w : World) (h : w.ownsRow base 115 4 (.slice (some ⟨G, 0, none⟩) L.length c) L.length (lfCells L)) (hn : L.length ≤ 1048576) (hc : L.length ≤ c) :
    Calls Tryd.prog 95 #[.slice (some ⟨G, 0, none⟩) L.length c] w fun e w' => ∃ S c', e = .returned (.slice (some ⟨S, 0, none⟩) (shownI L).length c') ∧ w'.ownsRow w.heap.size 3 1 (.slice (some ⟨S, 0, none⟩) (shownI L).length c') (shownI L).length (natCells (shownI L)) ∧ Below w.heap.size w w' := by
  have hG := (h.lt G rfl).2
  have HC : Hid (∀ j, j < L.length * 4 → w.cell? ⟨G, j, none⟩ = (lfCells L)[j]?) := fun j hj => h.cellAt j hj
  clear h
  obtain ⟨i0, hi, hz0', hz1', hz2⟩ := info_parts infoInt
  have HI1 := hideIt hi
  have HZ0 := hideIt hz0'
  have HZ1 := hideIt hz1'
  have HZ2 := hideIt hz2
  clear hi hz0' hz1' hz2
  go_enter Tryd.func95, Tryd.ntmps95
  go_wp2
  have HST : Hid ((w.alloc (.cells #[] 3)).ownsRow w.heap.size 3 1 (.slice (some ⟨w.heap.size, 0, none⟩) 0 0) 0 []) :=
    World.ownsRow_made (base := w.heap.size) (e := 3) (size := 1) w #[] 0 (Nat.le_refl _) (Nat.zero_le _) rfl
  go_loopw [3, 4] (fun v i wr => ∃ (k S c' : Nat), k ≤ L.length ∧ i = .int .i64 k ∧ v = .slice (some ⟨S, 0, none⟩) (shownTo L k).length c' ∧ wr.ownsRow w.heap.size 3 1 v (shownTo L k).length (natCells (shownTo L k)) ∧ Below w.heap.size w wr)
    (fun _ i _ => L.length - (intOf i).toNat)
  case atStart => exact ⟨0, w.heap.size, 0, Nat.zero_le _, rfl, rfl, HST.out, (Below.refl _ _).alloc (Nat.le_refl _) _⟩
  case round =>
    obtain ⟨k, Sb, cs, hk, rfl, rfl, hrow, hB⟩ := hrel
    have HB := hideIt hB
    have HRW := hideIt hrow
    have hzr := hB.size
    by_cases hlt : k < L.length
    · obtain ⟨i0', i1, i2, i3⟩ := lfCells_at L k L[k] (by simp [hlt])
      have y3 := ((bcell hB).1 G _ hG).trans ((HC.out (k * 4 + 3) (by omega)).trans i3)
      have hGr := Nat.lt_of_lt_of_le hG hB.size
      have hgone : Hid (L[k].z = true → shownTo L (k + 1) = shownTo L k) := shownTo_gone hlt
      have hthere : Hid (L[k].z = false → shownTo L (k + 1) = shownTo L k ++ [k]) := shownTo_there hlt
      have hsl : (shownTo L k).length ≤ 1048576 := by have := shownTo_len L k; omega
      generalize L[k].z = xz at *
      have hlt' : (k : Int) < (L.length : Int) := by omega
      have hk0 : (0 : Int) ≤ (k : Int) := by omega
      clear hB hrow i0' i1 i2 i3
      cases xz
      · have hsame := hideIt (hthere.out rfl)
        go_wp2_with (first
          | (at_builtin; refine wpList_append_own_at _ rfl _ _ 33 rfl w.heap.size 3 i0 _ 1 8 Tryd.underlying33 HI1.out HZ0.out HZ1.out HZ2.out rfl (by decide) _ _ _ rfl (HRW.out.alloc _) ⟨wr.heap.size, 0, none⟩ 1 1 [.int .i64 (k : Int)] rfl rfl (cells_new wr [.int .i64 (k : Int)] 3) nat_one (by unfold maxLen; omega) (by omega) (by simp; omega) ?_; intro v' w2 hown2 hg2 _ _;
              obtain ⟨g', cap', hv'⟩ := ownsRow_succ hown2; subst hv';
              have HO2 := hideIt hown2; have HB2 := hideIt (below_grown (HB.out.alloc HB.out.size _) hg2 (by simp; omega) (fun j e => (HRW.out.lt j e).1)); clear hown2 hg2))
        exact ⟨⟨k + 1, _, _, by omega, by go_num, by rw [hsame.out, List.length_append]; rfl, by rw [hsame.out, natCells_more, List.length_append]; exact HO2.out, HB2.out⟩, by simp [intOf]; omega⟩
      · have hsame := hideIt (hgone.out rfl)
        go_wp2
        exact ⟨⟨k + 1, _, _, by omega, by go_num, by rw [hsame.out], by rw [hsame.out]; exact HRW.out, HB.out⟩, by simp [intOf]; omega⟩
    · obtain rfl : k = L.length := by omega
      go_wp2
      go_ret
      exact ⟨_, _, rfl, HRW.out, HB.out⟩
end Go.Proofs.YtficnhlkefpfnaaDoor

namespace Go.Proofs.YtficnhlkefpfnaaDoor
open Go.RowKit
set_option linter.unusedSimpArgs false
set_option linter.unusedVariables false

set_option maxRecDepth 100000 in
set_option maxHeartbeats 4000000 in
theorem l1Seen_any (l : List Op7) (g cap : Nat) (w : World) (hl : OpsAt w g l) (hn : l.length ≤ 1048576) (hcap : l.length ≤ cap) (hok : l.all okO = true) (hord : ordB l = true) :
    Calls Tryd.prog 103 #[.slice (some ⟨g, 0, none⟩) l.length cap] w fun e w' => e = .returned (.slice (some ⟨w.heap.size, 0, none⟩) 3 3) ∧ IntsAt w' w.heap.size [cnt l 1, cnt l 2, cnt l 3] ∧ Below w.heap.size w w' := by
  have hgw : g < w.heap.size := hl.1
  have HL0 : Hid (OpsAt w g l) := hl
  have HO : Hid (l.all okO = true) := hok
  have HR : Hid (ordB l = true) := hord
  clear hl hok hord
  go_enter Tryd.func103, Tryd.ntmps103
  obtain ⟨i0, hi, hz0, hz1, hz2⟩ := info_parts infoInt
  go_wp2_with (first
    | (at_make; refine wpList_make_full _ rfl _ _ 33 rfl w.heap.size 3 i0 _ 1 Tryd.underlying33 hi hz0 hz1 .i64 .i64 _ _ 3 rfl rfl rfl rfl (by rw [hz2]; omega) (by unfold maxLen; omega) (Nat.le_refl _) ?_; intro w1 hown hgrow))
  clear hi hz0 hz1 hz2
  rw [made3] at hown
  have hB1 : Below w.heap.size w w1 := (Below.refl _ _).grown hgrow (Nat.le_refl _) (fun k h => by cases h)
  have c0 : w1.cell? ⟨w.heap.size, 0, none⟩ = some (.int .i64 0) := hown.cellAt 0 (by omega)
  have c1 : w1.cell? ⟨w.heap.size, 1, none⟩ = some (.int .i64 0) := hown.cellAt 1 (by omega)
  have c2 : w1.cell? ⟨w.heap.size, 2, none⟩ = some (.int .i64 0) := hown.cellAt 2 (by omega)
  have f0 : ∀ j, w1.frozen? ⟨w.heap.size, j, none⟩ = false := fun j => hown.frozenAt j
  have z0 : w.heap.size < w1.heap.size := (hown.lt _ rfl).2
  clear hown hgrow
  go_loopw [4] (fun i wr => ∃ k : Nat, k ≤ l.length ∧ i = .int .i64 k ∧ wr.cell? ⟨w.heap.size, 0, none⟩ = some (.int .i64 (cntTo l k 1)) ∧ wr.cell? ⟨w.heap.size, 1, none⟩ = some (.int .i64 (cntTo l k 2)) ∧ wr.cell? ⟨w.heap.size, 2, none⟩ = some (.int .i64 (cntTo l k 3)) ∧ (∀ j, wr.frozen? ⟨w.heap.size, j, none⟩ = false) ∧ w.heap.size < wr.heap.size ∧ Below w.heap.size w wr)
    (fun i _ => l.length - (intOf i).toNat)
  case atStart => exact ⟨0, Nat.zero_le _, rfl, by rw [cntTo_zero]; exact c0, by rw [cntTo_zero]; exact c1, by rw [cntTo_zero]; exact c2, f0, z0, hB1⟩
  case round =>
    obtain ⟨k, hk, rfl, q0, q1, q2, hfz, hws, hB⟩ := hrel
    have HB : Hid (Below w.heap.size w wr) := hB
    have HL : Hid (OpsAt wr g l) := HL0.out.below hB hgw
    have hgr : g < wr.heap.size := HL.out.1
    clear hB hB1 c0 c1 c2 f0 z0
    by_cases hlt : k < l.length
    · obtain ⟨h0, h1, _⟩ := HL.out.2 k l[k] (by simp [hlt])
      obtain ⟨ha1, ha3, hb1, hb12⟩ := okO_id (all_iff.1 HO.out k hlt)
      have hnum := num_is HO.out HR.out k hlt
      have s1 : Hid (∀ r, l[k].a = r → cntTo l (k + 1) r = cntTo l k r + 1) := fun r h => cntTo_same hlt h
      have s2 : Hid (∀ r, l[k].a ≠ r → cntTo l (k + 1) r = cntTo l k r) := fun r h => cntTo_other hlt h
      have b1 := cntTo_le l k 1
      have b2 := cntTo_le l k 2
      have b3 := cntTo_le l k 3
      generalize l[k] = o at *
      obtain ⟨xa, xb, xk, xc, xd, xs, xg⟩ := o
      simp only at *
      have hlt' : (k : Int) < (l.length : Int) := by omega
      have hk0 : (0 : Int) ≤ (k : Int) := by omega
      have hw0 : IntKind.i64.wrap 0 = 0 := by decide
      have hw1 : IntKind.i64.wrap 1 = 1 := by decide
      have hw2 : IntKind.i64.wrap 2 = 2 := by decide
      obtain rfl | rfl | rfl : xa = 1 ∨ xa = 2 ∨ xa = 3 := by omega
      · have E1 := hideIt (s1.out _ rfl)
        have hm1 : Hid (xb = cntTo l k 1 + 1) := hnum
        clear hnum s1
        generalize hc1 : cntTo l k 1 = n1 at *
        generalize hc2 : cntTo l k 2 = n2 at *
        generalize hc3 : cntTo l k 3 = n3 at *
        have C1 := hideIt hc1
        have C2 := hideIt hc2
        have C3 := hideIt hc3
        clear hc1 hc2 hc3
        obtain rfl := hm1.out
        go_wp2
        go_region
        go_wp2
        refine ⟨⟨k + 1, by omega, by go_num, ?_, ?_, ?_, fun j => by simp [hfz], by simpa using hws, by have := HB.out; go_grown⟩, by simp [intOf]; omega⟩
        · rw [E1.out]; simp [q0, q1, q2, go_sem]
        · rw [s2.out 2 (by decide), C2.out]; simp [q0, q1, q2, go_sem]
        · rw [s2.out 3 (by decide), C3.out]; simp [q0, q1, q2, go_sem]
      · have E1 := hideIt (s1.out _ rfl)
        have hm1 : Hid (xb = cntTo l k 2 + 1) := hnum
        clear hnum s1
        generalize hc1 : cntTo l k 1 = n1 at *
        generalize hc2 : cntTo l k 2 = n2 at *
        generalize hc3 : cntTo l k 3 = n3 at *
        have C1 := hideIt hc1
        have C2 := hideIt hc2
        have C3 := hideIt hc3
        clear hc1 hc2 hc3
        obtain rfl := hm1.out
        go_wp2
        go_region
        go_wp2
        refine ⟨⟨k + 1, by omega, by go_num, ?_, ?_, ?_, fun j => by simp [hfz], by simpa using hws, by have := HB.out; go_grown⟩, by simp [intOf]; omega⟩
        · rw [s2.out 1 (by decide), C1.out]; simp [q0, q1, q2, go_sem]
        · rw [E1.out]; simp [q0, q1, q2, go_sem]
        · rw [s2.out 3 (by decide), C3.out]; simp [q0, q1, q2, go_sem]
      · have E1 := hideIt (s1.out _ rfl)
        have hm1 : Hid (xb = cntTo l k 3 + 1) := hnum
        clear hnum s1
        generalize hc1 : cntTo l k 1 = n1 at *
        generalize hc2 : cntTo l k 2 = n2 at *
        generalize hc3 : cntTo l k 3 = n3 at *
        have C1 := hideIt hc1
        have C2 := hideIt hc2
        have C3 := hideIt hc3
        clear hc1 hc2 hc3
        obtain rfl := hm1.out
        go_wp2
        go_region
        go_wp2
        refine ⟨⟨k + 1, by omega, by go_num, ?_, ?_, ?_, fun j => by simp [hfz], by simpa using hws, by have := HB.out; go_grown⟩, by simp [intOf]; omega⟩
        · rw [s2.out 1 (by decide), C1.out]; simp [q0, q1, q2, go_sem]
        · rw [s2.out 2 (by decide), C2.out]; simp [q0, q1, q2, go_sem]
        · rw [E1.out]; simp [q0, q1, q2, go_sem]
    · obtain rfl : k = l.length := by omega
      rw [cntTo_len] at q0 q1 q2
      go_wp2
      go_ret
      exact ⟨rfl, ⟨hws, fun i x hx => by
        match i, hx with
        | 0, hx => simp at hx; subst hx; exact q0
        | 1, hx => simp at hx; subst hx; exact q1
        | 2, hx => simp at hx; subst hx; exact q2⟩, HB.out⟩
end Go.Proofs.YtficnhlkefpfnaaDoor

namespace Go.Proofs.YtficnhlkefpfnaaDoor
open Go.RowKit
set_option linter.unusedSimpArgs false
set_option linter.unusedVariables false
attribute [local go_sem ↓] Go.wp_at_zero Go.wp_at_succ

theorem in3 {r : Int} (h : inB r 1 3 = true) : r = 1 ∨ r = 2 ∨ r = 3 := by
  simp [inB] at h
  omega

set_option maxRecDepth 100000 in
set_option maxHeartbeats 2000000 in
theorem l3Next_any (l : List Op7) (g cap : Nat) (r : Int) (w : World) (hl : OpsAt w g l) (hn : l.length ≤ 1048576) (hcap : l.length ≤ cap) :
    Calls Tryd.prog 93 #[.slice (some ⟨g, 0, none⟩) l.length cap, .int .i64 r] w fun e w' =>
      (((opsB l && inB r 1 3) = false ∧ e = .returned (.tuple #[.agg #[.int .i64 0, .int .i64 0], .bool false])) ∨
       (opsB l = true ∧ inB r 1 3 = true ∧ e = .returned (.tuple #[.agg #[.int .i64 r, .int .i64 (cnt l r + 1)], .bool (decide (cnt l r + 1 ≤ 12))]))) ∧ Below w.heap.size w w' := by
  have HL := hideIt hl
  have hgw := hl.1
  clear hl
  cases ho : opsB l
  all_goals
    have HO := hideIt ho
    clear ho
    go_enter Tryd.func93, Tryd.ntmps93
    go_wp2_with fail
    have HB0 : Hid (Below w.heap.size w (w.alloc (.cells #[.int .i64 0, .int .i64 0] 69))) := (Below.refl _ _).alloc (Nat.le_refl _) _
    refine (specOps_any l _ _ _ (HL.out.below HB0.out hgw) hn hcap).mono ?_
    rintro e w1 ⟨rfl, hb1⟩
    rw [HO.out]
    have HB1 := hideIt (Bstep HB0.out hb1)
    have rc0 : w1.cell? ⟨w.heap.size, 0, none⟩ = some (.int .i64 0) := ((bcell hb1).1 _ _ (by simp)).trans (by simp [go_sem])
    have rc1 : w1.cell? ⟨w.heap.size, 1, none⟩ = some (.int .i64 0) := ((bcell hb1).1 _ _ (by simp)).trans (by simp [go_sem])
    have hwl : w.heap.size < w1.heap.size := by have := hb1.size; simp at this; omega
    have FZ : Hid (∀ j, w1.frozen? ⟨w.heap.size, j, none⟩ = false) := fun j => ((bcell hb1).2 _ _ (by simp)).trans (by simp [go_sem])
    clear hb1
  · have hfz : ∀ j, w1.frozen? ⟨w.heap.size, j, none⟩ = false := FZ.out
    go_wp2
    have hbb := HB1.out
    exact bodyPost_ret (v := .tuple #[.agg #[.int .i64 0, .int .i64 0], .bool false]) (by simp [results, Tryd.results93, go_sem, rc0, rc1]) rfl ⟨.inl ⟨rfl, rfl⟩, by go_grown⟩
  · cases hi : inB r 1 3
    all_goals
      have HI := hideIt hi
      clear hi
      have hfz : ∀ j, w1.frozen? ⟨w.heap.size, j, none⟩ = false := FZ.out
      go_wp2_with (first | (go_at_call 62; refine (l6In_any _ _ _ _).mono ?_; rintro e w' ⟨rfl, hw'⟩; subst hw'; rw [HI.out]))
    · have hbb := HB1.out
      exact bodyPost_ret (v := .tuple #[.agg #[.int .i64 0, .int .i64 0], .bool false]) (by simp [results, Tryd.results93, go_sem, rc0, rc1]) rfl ⟨.inl ⟨by simp [HI.out], rfl⟩, by go_grown⟩
    · obtain ⟨hok, hord⟩ := opsParts HO.out
      refine (l1Seen_any l _ _ _ (HL.out.below HB1.out hgw) hn hcap hok hord).mono ?_
      rintro e w2 ⟨rfl, hI, hb2⟩
      have HB2 := hideIt (Bstep HB1.out hb2)
      obtain ⟨c0, c1, c2⟩ := ints3 hI
      have hw2 : w.heap.size < w2.heap.size := Nat.lt_of_lt_of_le hwl hb2.size
      have rd0 := ((bcell hb2).1 _ _ hwl).trans rc0
      have rd1 := ((bcell hb2).1 _ _ hwl).trans rc1
      have hfy : ∀ j, w2.frozen? ⟨w.heap.size, j, none⟩ = false := fun j => ((bcell hb2).2 _ _ hwl).trans (hfz j)
      have hc := cnt_sum l
      have n1 := cnt_nonneg l 1
      have n2 := cnt_nonneg l 2
      have n3 := cnt_nonneg l 3
      clear hb2 hI hok hord
      obtain rfl | rfl | rfl := in3 HI.out
      all_goals
        generalize hx1 : cnt l 1 = x1 at *
        generalize hx2 : cnt l 2 = x2 at *
        generalize hx3 : cnt l 3 = x3 at *
        go_wp2
        have hbb := HB2.out
        first
          | exact bodyPost_ret (v := .tuple #[.agg #[.int .i64 1, .int .i64 (x1 + 1)], .bool (decide (x1 + 1 ≤ 12))]) (by simp [results, Tryd.results93, go_sem, rd0, rd1]) rfl ⟨.inr ⟨trivial, HI.out, by rw [hx1]⟩, by go_grown⟩
          | exact bodyPost_ret (v := .tuple #[.agg #[.int .i64 2, .int .i64 (x2 + 1)], .bool (decide (x2 + 1 ≤ 12))]) (by simp [results, Tryd.results93, go_sem, rd0, rd1]) rfl ⟨.inr ⟨trivial, HI.out, by rw [hx2]⟩, by go_grown⟩
          | exact bodyPost_ret (v := .tuple #[.agg #[.int .i64 3, .int .i64 (x3 + 1)], .bool (decide (x3 + 1 ≤ 12))]) (by simp [results, Tryd.results93, go_sem, rd0, rd1]) rfl ⟨.inr ⟨trivial, HI.out, by rw [hx3]⟩, by go_grown⟩
end Go.Proofs.YtficnhlkefpfnaaDoor

namespace Go.Proofs.YtficnhlkefpfnaaDoor
open Go.RowKit
set_option linter.unusedSimpArgs false
set_option linter.unusedVariables false
attribute [local go_sem ↓] Go.wp_at_zero Go.wp_at_succ

/-- The cells of things. -/
def opCells (L : List Op7) : List Value := L.flatMap fun o => [.int .i64 o.a, .int .i64 o.b, .int .i64 o.k, .int .i64 o.c, .int .i64 o.d, .int .i64 o.s, .int .i64 o.g]
theorem opCells_len : ∀ L : List Op7, (opCells L).length = L.length * 7
  | [] => rfl
  | x :: r => by have := opCells_len r; simp [opCells] at this ⊢; omega
theorem opCells_app (L M : List Op7) : opCells (L ++ M) = opCells L ++ opCells M := by simp [opCells]
theorem opCells_one : ∀ L, ∀ u ∈ opCells L, u.oneCell' = true := by
  intro L u hu
  unfold opCells at hu
  obtain ⟨o, _, ho⟩ := List.mem_flatMap.1 hu
  simp at ho
  rcases ho with rfl | rfl | rfl | rfl | rfl | rfl | rfl <;> rfl
theorem opCells_at : ∀ (L : List Op7) (i : Nat) (o : Op7), L[i]? = some o → (opCells L)[i * 7]? = some (.int .i64 o.a) ∧ (opCells L)[i * 7 + 1]? = some (.int .i64 o.b) ∧ (opCells L)[i * 7 + 2]? = some (.int .i64 o.k) ∧ (opCells L)[i * 7 + 3]? = some (.int .i64 o.c) ∧ (opCells L)[i * 7 + 4]? = some (.int .i64 o.d) ∧ (opCells L)[i * 7 + 5]? = some (.int .i64 o.s) ∧ (opCells L)[i * 7 + 6]? = some (.int .i64 o.g)
  | [], i, o, h => by simp at h
  | y :: r, 0, o, h => by simp at h; subst h; simp [opCells]
  | y :: r, i + 1, o, h => by
    have h' := opCells_at r i o (by simpa using h)
    have e : opCells (y :: r) = [.int .i64 y.a, .int .i64 y.b, .int .i64 y.k, .int .i64 y.c, .int .i64 y.d, .int .i64 y.s, .int .i64 y.g] ++ opCells r := by simp [opCells]
    have hs : ∀ j, (opCells (y :: r))[(i + 1) * 7 + j]? = (opCells r)[i * 7 + j]? := fun j => by
      rw [e, List.getElem?_append_right (by simp; omega)]
      congr 1
      simp
      omega
    have h0 := hs 0
    simp only [Nat.add_zero] at h0
    rw [h0, hs 1, hs 2, hs 3, hs 4, hs 5, hs 6]
    exact h'
/-- A row of things of one's own. -/
def OwnOps (w : World) (base : Nat) (g cap : Nat) (L : List Op7) : Prop := w.ownsRow base 71 7 (.slice (some ⟨g, 0, none⟩) L.length cap) L.length (opCells L)
theorem OwnOps.at {w : World} {base g cap : Nat} {L : List Op7} (h : OwnOps w base g cap L) : OpsAt w g L := by
  refine ⟨(World.ownsRow.lt h g rfl).2, fun i o ho => ?_⟩
  obtain ⟨h0, h1, h2, h3, h4, h5, h6⟩ := opCells_at L i o ho
  have hi : i < L.length := (List.getElem?_eq_some_iff.1 ho).1
  have hc : ∀ j, j < L.length * 7 → w.cell? ⟨g, j, none⟩ = (opCells L)[j]? := fun j hj => World.ownsRow.cellAt h j hj
  exact ⟨(hc _ (by omega)).trans h0, (hc _ (by omega)).trans h1, (hc _ (by omega)).trans h2, (hc _ (by omega)).trans h3, (hc _ (by omega)).trans h4, (hc _ (by omega)).trans h5, (hc _ (by omega)).trans h6⟩
theorem OwnOps.cap {w : World} {base g cap : Nat} {L : List Op7} (h : OwnOps w base g cap L) : L.length ≤ cap := by
  rcases h.2 with ⟨h, _⟩ | ⟨g', c', cur, h, _, _, h2, _⟩
  · cases h
  · cases h; exact h2
theorem OwnOps.below {w w' : World} {base g cap : Nat} {L : List Op7} (h : OwnOps w base g cap L) (hb : Below w.heap.size w w') : OwnOps w' base g cap L :=
  World.ownsRow.kept h (row := none) ⟨hb.os, hb.tape, hb.output, hb.size, fun i hi _ => hb.block i hi⟩ (.inr (by simp [Value.ownBlock]))
theorem infoOp : (Tryd.prog.info? 71).map (fun i => (i.zero, i.size, i.bytes)) = some (some (.agg #[.int .i64 0, .int .i64 0, .int .i64 0, .int .i64 0, .int .i64 0, .int .i64 0, .int .i64 0]), 7, 56) := by kernel_rfl

theorem blkCell {W : World} {b : Nat} {cur : Array Value} {T : TypeId} (h : W.heap[b]? = some (.cells cur T (0, 0))) (j : Nat) : W.cell? ⟨b, j, none⟩ = cur[j]? := by simp [World.cell?, h]
/-- One is ahead of another. -/
def lessB (p q : Op7) : Bool := decide (p.a < q.a ∨ (p.a = q.a ∧ p.b < q.b))
/-- What was done, with something more. -/
def withL (l : List Op7) (o : Op7) : List Op7 := l.filter (fun p => lessB p o) ++ [o] ++ l.filter (fun p => lessB o p)

set_option maxRecDepth 100000 in
set_option maxHeartbeats 2000000 in
theorem specLess_any (a b c d : Int) (w : World) :
    Calls Tryd.prog 79 #[.agg #[.int .i64 a, .int .i64 b], .agg #[.int .i64 c, .int .i64 d]] w fun e w' => e = .returned (.bool (decide (a < c ∨ (a = c ∧ b < d)))) ∧ Below w.heap.size w w' := by
  go_enter Tryd.func79, Tryd.ntmps79
  by_cases h1 : a < c
  · go_wp2
    go_ret
    exact ⟨by simp [h1], by go_grown⟩
  · by_cases h2 : a = c
    · subst h2
      go_wp2
      go_ret
      exact ⟨by simp, by go_grown⟩
    · go_wp2
      go_ret
      exact ⟨by simp [h1, h2], by go_grown⟩
end Go.Proofs.YtficnhlkefpfnaaDoor

namespace Go.Proofs.YtficnhlkefpfnaaDoor
open Go.RowKit
set_option linter.unusedSimpArgs false
set_option linter.unusedVariables false

theorem build_op0 (W : World) : (Instr.build 71 #[]).run Tryd.prog W = .ok (.agg #[.int .i64 0, .int .i64 0, .int .i64 0, .int .i64 0, .int .i64 0, .int .i64 0, .int .i64 0]) W := by
  kernel_rfl
theorem build_opTake (W : World) (a b c d : Int) : (Instr.build 71 #[(0, .agg #[.int .i64 a, .int .i64 b]), (1, .int .i64 2), (2, .agg #[.int .i64 c, .int .i64 d])]).run Tryd.prog W = .ok (.agg #[.int .i64 a, .int .i64 b, .int .i64 2, .int .i64 c, .int .i64 d, .int .i64 0, .int .i64 0]) W := by
  kernel_rfl
theorem build_opPut (W : World) (a b c d s g : Int) : (Instr.build 71 #[(0, .agg #[.int .i64 a, .int .i64 b]), (1, .int .i64 1), (2, .agg #[.int .i64 c, .int .i64 d]), (3, .int .i64 s), (4, .int .i64 g)]).run Tryd.prog W = .ok (.agg #[.int .i64 a, .int .i64 b, .int .i64 1, .int .i64 c, .int .i64 d, .int .i64 s, .int .i64 g]) W := by
  kernel_rfl
/-- A thing stored whole into its box. -/
theorem store_op (W : World) (b : Nat) (cur : Array Value) (h : W.heap[b]? = some (.cells cur 71 (0, 0))) (hs : cur.size = 7) (a1 a2 a3 a4 a5 a6 a7 : Int) :
    (Instr.storeAt 71 (.pointer (some ⟨b, 0, none⟩)) (.agg #[.int .i64 a1, .int .i64 a2, .int .i64 a3, .int .i64 a4, .int .i64 a5, .int .i64 a6, .int .i64 a7])).run Tryd.prog W = .ok () (W.setRow b #[.int .i64 a1, .int .i64 a2, .int .i64 a3, .int .i64 a4, .int .i64 a5, .int .i64 a6, .int .i64 a7]) := by
  simp only [Instr.storeAt, Instr.sureAddr, Sem.run_bind, Sem.run_pure, Result.andThen]
  exact run_storeVar_row _ _ _ _ cur _ h (by kernel_rfl) (by simp [hs]) (by simp [Value.oneCell'])
/-- An id stored whole into its new box. -/
theorem store_id_new (w : World) (a b : Int) : (Instr.storeAt 69 (.pointer (some ⟨w.heap.size, 0, none⟩)) (.agg #[.int .i64 a, .int .i64 b])).run Tryd.prog (w.alloc (.cells #[.int .i64 0, .int .i64 0] 69)) = .ok () (w.alloc (.cells #[.int .i64 a, .int .i64 b] 69)) :=
  run_storeAt_new w 69 #[.int .i64 0, .int .i64 0] #[.int .i64 a, .int .i64 b] (by kernel_rfl) rfl (by simp [Value.oneCell'])
end Go.Proofs.YtficnhlkefpfnaaDoor

namespace Go.Proofs.YtficnhlkefpfnaaDoor
open Go.RowKit
set_option linter.unusedSimpArgs false
set_option linter.unusedVariables false
attribute [local go_sem ↓] Go.wp_at_zero Go.wp_at_succ build_op0 build_opTake build_opPut

def opV (o : Op7) : Value := .agg #[.int .i64 o.a, .int .i64 o.b, .int .i64 o.k, .int .i64 o.c, .int .i64 o.d, .int .i64 o.s, .int .i64 o.g]
/-- The box of a thing that is to be returned, still nothing. -/
structure RB (w W : World) : Prop where
  box : W.heap[w.heap.size]? = some (.cells #[.int .i64 0, .int .i64 0, .int .i64 0, .int .i64 0, .int .i64 0, .int .i64 0, .int .i64 0] 71 (0, 0))
  bel : Below w.heap.size w W
theorem RB.lt {w W : World} (h : RB w W) : w.heap.size < W.heap.size := (Array.getElem?_eq_some_iff.1 h.box).1
theorem RB.start (w : World) : RB w (w.alloc (.cells #[.int .i64 0, .int .i64 0, .int .i64 0, .int .i64 0, .int .i64 0, .int .i64 0, .int .i64 0] 71)) := ⟨World.alloc_heap_new _ _, (Below.refl _ _).alloc (Nat.le_refl _) _⟩
theorem RB.below {w W W' : World} (h : RB w W) (hb : Below W.heap.size W W') : RB w W' := ⟨(hb.block _ h.lt).trans h.box, Bstep h.bel hb⟩
theorem RB.cells {w W : World} (h : RB w W) : W.cell? ⟨w.heap.size, 0, none⟩ = some (.int .i64 0) ∧ W.cell? ⟨w.heap.size, 1, none⟩ = some (.int .i64 0) ∧ W.cell? ⟨w.heap.size, 2, none⟩ = some (.int .i64 0) ∧ W.cell? ⟨w.heap.size, 3, none⟩ = some (.int .i64 0) ∧ W.cell? ⟨w.heap.size, 4, none⟩ = some (.int .i64 0) ∧ W.cell? ⟨w.heap.size, 5, none⟩ = some (.int .i64 0) ∧ W.cell? ⟨w.heap.size, 6, none⟩ = some (.int .i64 0) :=
  ⟨(blkCell h.box 0).trans rfl, (blkCell h.box 1).trans rfl, (blkCell h.box 2).trans rfl, (blkCell h.box 3).trans rfl, (blkCell h.box 4).trans rfl, (blkCell h.box 5).trans rfl, (blkCell h.box 6).trans rfl⟩
theorem RB.frozen {w W : World} (h : RB w W) (j : Nat) : W.frozen? ⟨w.heap.size, j, none⟩ = false := by simp [World.frozen?, h.box]
/-- The box behind its one store. -/
theorem RB.stored {w W : World} (h : RB w W) (a1 a2 a3 a4 a5 a6 a7 : Int) : (W.setRow w.heap.size #[.int .i64 a1, .int .i64 a2, .int .i64 a3, .int .i64 a4, .int .i64 a5, .int .i64 a6, .int .i64 a7]).heap[w.heap.size]? = some (.cells #[.int .i64 a1, .int .i64 a2, .int .i64 a3, .int .i64 a4, .int .i64 a5, .int .i64 a6, .int .i64 a7] 71 (0, 0)) ∧ Below w.heap.size w (W.setRow w.heap.size #[.int .i64 a1, .int .i64 a2, .int .i64 a3, .int .i64 a4, .int .i64 a5, .int .i64 a6, .int .i64 a7]) :=
  ⟨setRow_heap _ _ _ _ _ _ h.box, below_setRow h.bel (Nat.le_refl _) _⟩
theorem all7 (a1 a2 a3 a4 a5 a6 a7 : Int) : (#[Value.int .i64 a1, .int .i64 a2, .int .i64 a3, .int .i64 a4, .int .i64 a5, .int .i64 a6, .int .i64 a7].all fun x => x.oneCell') = true := by simp [Value.oneCell']
/-- A thing stored whole in a region that draws its order. -/
theorem store_arm {P : Program} {o : Oper} {A : Act} {w : World} {K' : Act → World → Prop} {Q : Exit → Act → World → Prop} {ys : Nat → Option Bool} {ty t : TypeId} {x y : Operand} {g : Nat} {cells old : Array Value}
    (ho : o.op = .store ty x y) (hw : Region.wanted o ys = true) (hx : A.eval x = .pointer (some ⟨g, 0, none⟩)) (hy : A.eval y = .agg cells) (hg : w.heap[g]? = some (.cells old t (0, 0))) (hi : (P.info? ty).map (·.size) = some cells.size)
    (hold : old.size = cells.size) (h1 : cells.all (·.oneCell') = true) (h : K' (A.put o.dst undef) (w.setRow g cells)) :
    if Region.wanted o ys = true then Oper.wp P o A w K' Q else K' (A.put o.dst undef) w := by
  rw [if_pos hw]
  exact wp_store_row ty x y ho g cells hx hy t old hg hi hold h1 h
theorem setRow_cell {W : World} {g b o : Nat} {cs : Array Value} {v : Value} (h : b ≠ g) (hv : W.cell? ⟨b, o, none⟩ = some v) : (W.setRow g cs).cell? ⟨b, o, none⟩ = some v := by
  rw [← hv]
  simp [World.cell?, setRow_other W g b cs h]
theorem rowKeep {w w' : World} {b : Nat} {T : TypeId} {m : Nat} {v : Value} {n : Nat} {xs : List Value} (h : w.ownsRow b T m v n xs) (hb : Below w.heap.size w w') : w'.ownsRow b T m v n xs :=
  h.kept (row := none) ⟨hb.os, hb.tape, hb.output, hb.size, fun i hi _ => hb.block i hi⟩ (by cases v.ownBlock <;> simp)
theorem natCells_at {L : List Nat} {i j : Nat} (h : L[i]? = some j) : (natCells L)[i]? = some (.int .i64 (j : Int)) := by simp [natCells, h]

attribute [-go_sem] Instr.storeAt
attribute [local go_sem ↓] store_id_new
end Go.Proofs.YtficnhlkefpfnaaDoor

namespace Go.Proofs.YtficnhlkefpfnaaDoor
open Go.RowKit
set_option linter.unusedSimpArgs false
set_option linter.unusedVariables false
attribute [local go_sem ↓] Go.wp_at_zero Go.wp_at_succ build_op0 build_opTake build_opPut

theorem row_len {W : World} {base : Nat} {T : TypeId} {m : Nat} {v : Value} {n : Nat} {xs : List Value} (h : W.ownsRow base T m v n xs) : ∃ p c, v = .slice p n c := by
  rcases h.2 with ⟨rfl, h0⟩ | ⟨g, c, cur, rfl, _⟩
  · exact ⟨none, 0, by rw [h0]⟩
  · exact ⟨_, _, rfl⟩
theorem putO_yes {l : List Op7} {r sg : Int} {t : Nat} (h : kidsL l ((leftOf l t).1, (leftOf l t).2.1, 1) = []) : putO l r t sg = ⟨r, cnt l r + 1, 1, (leftOf l t).1, (leftOf l t).2.1, 1, sg⟩ := by unfold putO; rw [if_pos h]
theorem putO_no {l : List Op7} {r sg : Int} {t : Nat} (h : kidsL l ((leftOf l t).1, (leftOf l t).2.1, 1) ≠ []) {x : Lf} (hx : (lvs l)[(leftOf l t).2.2]? = some x) : putO l r t sg = ⟨r, cnt l r + 1, 1, x.a, x.b, 0, sg⟩ := by unfold putO; rw [if_neg h]; simp [nextLf, hx]

attribute [-go_sem] Instr.storeAt
attribute [local go_sem ↓] store_id_new
set_option maxRecDepth 100000 in
set_option maxHeartbeats 2000000 in
theorem typePut_any (l : List Op7) (g cap : Nat) (r t sg : Int) (w : World) (hl : OpsAt w g l) (hn : l.length ≤ 1048576) (hcap : l.length ≤ cap) :
    Calls Tryd.prog 55 #[.slice (some ⟨g, 0, none⟩) l.length cap, .int .i64 r, .int .i64 t, .int .i64 sg] w fun e w' =>
      ((mayPut l r t sg = false ∧ e = .returned (.tuple #[.agg #[.int .i64 0, .int .i64 0, .int .i64 0, .int .i64 0, .int .i64 0, .int .i64 0, .int .i64 0], .bool false])) ∨
       (mayPut l r t sg = true ∧ e = .returned (.tuple #[opV (putO l r t.toNat sg), .bool true]))) ∧ Below w.heap.size w w' := by
  have HL := hideIt hl
  have hgw := hl.1
  clear hl
  go_enter Tryd.func55, Tryd.ntmps55
  go_wp2_with fail
  have HRB := hideIt (RB.start w)
  refine (l3Next_any l _ _ _ _ (HL.out.below HRB.out.bel hgw) hn hcap).mono ?_
  rintro e w1 ⟨(⟨hno, rfl⟩ | ⟨hops, hin, rfl⟩), hb1⟩
  all_goals
    have HR1 := hideIt (HRB.out.below hb1)
    clear hb1 HRB
  · have HA := hideIt (HR1.out.below ((Below.refl _ _).alloc (Nat.le_refl _) (.cells #[.int .i64 0, .int .i64 0] 69)))
    have hwl := HR1.out.lt
    have HNO := hideIt hno
    clear hno
    go_wp2_with (first | (refine wpList_store_row rfl 71 _ _ rfl w.heap.size _ rfl rfl 71 _ HA.out.box (by kernel_rfl) rfl (all7 _ _ _ _ _ _ _) ?_; have HST := hideIt (HA.out.stored 0 0 0 0 0 0 0); generalize World.setRow _ _ _ = W9 at *))
    obtain ⟨hb9, hbel9⟩ := HST.out
    have r0 := (blkCell hb9 0).trans rfl
    have r1 := (blkCell hb9 1).trans rfl
    have r2 := (blkCell hb9 2).trans rfl
    have r3 := (blkCell hb9 3).trans rfl
    have r4 := (blkCell hb9 4).trans rfl
    have r5 := (blkCell hb9 5).trans rfl
    have r6 := (blkCell hb9 6).trans rfl
    exact bodyPost_ret (v := .tuple #[.agg #[.int .i64 0, .int .i64 0, .int .i64 0, .int .i64 0, .int .i64 0, .int .i64 0, .int .i64 0], .bool false]) (by simp [results, Tryd.results55, go_sem, r0, r1, r2, r3, r4, r5, r6]) rfl ⟨.inl ⟨by simp [mayPut, mayMore, HNO.out], rfl⟩, hbel9⟩
  · have HO := hideIt hops
    have HI := hideIt hin
    clear hops hin
    generalize hz : decide (cnt l r + 1 ≤ 12) = z
    have HZ := hideIt hz
    clear hz
    generalize hcn : cnt l r + 1 = cn
    have HCN := hideIt hcn
    clear hcn
    cases z
    · have HA := hideIt (HR1.out.below ((Below.refl _ _).alloc (Nat.le_refl _) (.cells #[.int .i64 r, .int .i64 cn] 69)))
      have hwl := HR1.out.lt
      go_wp2_with (first | (refine wpList_store_row rfl 71 _ _ rfl w.heap.size _ rfl rfl 71 _ HA.out.box (by kernel_rfl) rfl (all7 _ _ _ _ _ _ _) ?_; have HST := hideIt (HA.out.stored 0 0 0 0 0 0 0); generalize World.setRow _ _ _ = W9 at *))
      obtain ⟨hb9, hbel9⟩ := HST.out
      have r0 := (blkCell hb9 0).trans rfl
      have r1 := (blkCell hb9 1).trans rfl
      have r2 := (blkCell hb9 2).trans rfl
      have r3 := (blkCell hb9 3).trans rfl
      have r4 := (blkCell hb9 4).trans rfl
      have r5 := (blkCell hb9 5).trans rfl
      have r6 := (blkCell hb9 6).trans rfl
      exact bodyPost_ret (v := .tuple #[.agg #[.int .i64 0, .int .i64 0, .int .i64 0, .int .i64 0, .int .i64 0, .int .i64 0, .int .i64 0], .bool false]) (by simp [results, Tryd.results55, go_sem, r0, r1, r2, r3, r4, r5, r6]) rfl ⟨.inl ⟨by simp [mayPut, mayMore, HZ.out], rfl⟩, hbel9⟩
    · cases hsg : inB sg 97 122
      all_goals
        have HSG := hideIt hsg
        clear hsg
      · have HA := hideIt (HR1.out.below ((Below.refl _ _).alloc (Nat.le_refl _) (.cells #[.int .i64 r, .int .i64 cn] 69)))
        have hwl := HR1.out.lt
        go_wp2_with (first | (go_at_call 62; refine (l6In_any _ _ _ _).mono ?_; rintro e w' ⟨rfl, hw'⟩; subst hw'; rw [HSG.out]) | (refine wpList_store_row rfl 71 _ _ rfl w.heap.size _ rfl rfl 71 _ HA.out.box (by kernel_rfl) rfl (all7 _ _ _ _ _ _ _) ?_; have HST := hideIt (HA.out.stored 0 0 0 0 0 0 0); generalize World.setRow _ _ _ = W9 at *))
        obtain ⟨hb9, hbel9⟩ := HST.out
        have r0 := (blkCell hb9 0).trans rfl
        have r1 := (blkCell hb9 1).trans rfl
        have r2 := (blkCell hb9 2).trans rfl
        have r3 := (blkCell hb9 3).trans rfl
        have r4 := (blkCell hb9 4).trans rfl
        have r5 := (blkCell hb9 5).trans rfl
        have r6 := (blkCell hb9 6).trans rfl
        exact bodyPost_ret (v := .tuple #[.agg #[.int .i64 0, .int .i64 0, .int .i64 0, .int .i64 0, .int .i64 0, .int .i64 0, .int .i64 0], .bool false]) (by simp [results, Tryd.results55, go_sem, r0, r1, r2, r3, r4, r5, r6]) rfl ⟨.inl ⟨by simp [mayPut, HSG.out], rfl⟩, hbel9⟩
      · have HA1 := hideIt (HR1.out.below ((Below.refl _ _).alloc (Nat.le_refl _) (.cells #[.int .i64 r, .int .i64 cn] 69)))
        have D1 : Hid ((w1.alloc (.cells #[.int .i64 r, .int .i64 cn] 69)).cell? ⟨w1.heap.size, 0, none⟩ = some (.int .i64 r) ∧ (w1.alloc (.cells #[.int .i64 r, .int .i64 cn] 69)).cell? ⟨w1.heap.size, 1, none⟩ = some (.int .i64 cn) ∧ w1.heap.size < (w1.alloc (.cells #[.int .i64 r, .int .i64 cn] 69)).heap.size) := ⟨by simp [go_sem], by simp [go_sem], by simp⟩
        have hdd : w1.heap.size ≠ w.heap.size := by have := HR1.out.lt; omega
        have HOP := hideIt (HL.out.below HA1.out.bel hgw)
        go_wp2_with (first | (go_at_call 62; refine (l6In_any _ _ _ _).mono ?_; rintro e w' ⟨rfl, hw'⟩; subst hw'; rw [HSG.out]))
        clear HR1
        generalize w1.alloc (.cells #[.int .i64 r, .int .i64 cn] 69) = Wi at *
        generalize w1.heap.size = B1 at *
        refine (l2Leaves_any l HO.out _ _ _ HOP.out hn hcap).mono ?_
        rintro e w2 ⟨G, c, rfl, hr, hb2⟩
        have HLN := hideIt (lvs_len HO.out)
        have hc : (lvs l).length ≤ c := by
          rcases hr.2 with ⟨h, _⟩ | ⟨g', c', cur, h, _, _, h2, _⟩
          · cases h
          · cases h; unfold lvs; rw [lfs_len]; exact h2
        rw [lfs_cells, ← lfs_len l (allO l)] at hr
        rw [← lfs_len l (allO l)]
        have HR : Hid (w2.ownsRow Wi.heap.size 115 4 (.slice (some ⟨G, 0, none⟩) (lvs l).length c) (lvs l).length (lfCells (lvs l))) := hr
        have HR2 := hideIt (HA1.out.below hb2)
        have D2 : Hid (w2.cell? ⟨B1, 0, none⟩ = some (.int .i64 r) ∧ w2.cell? ⟨B1, 1, none⟩ = some (.int .i64 cn) ∧ B1 < w2.heap.size) := ⟨((bcell hb2).1 _ _ D1.out.2.2).trans D1.out.1, ((bcell hb2).1 _ _ D1.out.2.2).trans D1.out.2.1, Nat.lt_of_lt_of_le D1.out.2.2 hb2.size⟩
        have hGw : Hid (w.heap.size < Wi.heap.size ∧ w.heap.size < w2.heap.size) := ⟨HA1.out.lt, HR2.out.lt⟩
        clear hr hb2 HA1 D1 HOP
        rw [show (lfs l (allO l)) = lvs l from rfl]
        go_wp2_with fail
        refine (l3Shown_any (lvs l) G c _ _ HR.out (by have := HLN.out; omega) hc).mono ?_
        rintro e w3 ⟨S, c3, rfl, hr3, hb3⟩
        have HS3 := hideIt hr3
        have HRR := hideIt (rowKeep HR.out hb3)
        have HA := hideIt (HR2.out.below hb3)
        have D3 : Hid (w3.cell? ⟨B1, 0, none⟩ = some (.int .i64 r) ∧ w3.cell? ⟨B1, 1, none⟩ = some (.int .i64 cn) ∧ B1 < w3.heap.size) := ⟨((bcell hb3).1 _ _ D2.out.2.2).trans D2.out.1, ((bcell hb3).1 _ _ D2.out.2.2).trans D2.out.2.1, Nat.lt_of_lt_of_le D2.out.2.2 hb3.size⟩
        have hsn : (shownI (lvs l)).length ≤ 36 := Nat.le_trans (shownTo_len _ _) HLN.out
        clear hr3 hb3 HR HR2 D2
        have hwl := HA.out.lt
        cases hi : inB t 0 (shownI (lvs l)).length
        all_goals
          have HIN := hideIt hi
          clear hi
        · go_wp2_with (first | (go_at_call 62; refine (l6In_any _ _ _ _).mono ?_; rintro e w' ⟨rfl, hw'⟩; subst hw'; rw [HIN.out]) | (refine wpList_store_row rfl 71 _ _ rfl w.heap.size _ rfl rfl 71 _ HA.out.box (by kernel_rfl) rfl (all7 _ _ _ _ _ _ _) ?_; have HST := hideIt (HA.out.stored 0 0 0 0 0 0 0); generalize World.setRow _ _ _ = W9 at *))
          obtain ⟨hb9, hbel9⟩ := HST.out
          have r0 := (blkCell hb9 0).trans rfl
          have r1 := (blkCell hb9 1).trans rfl
          have r2 := (blkCell hb9 2).trans rfl
          have r3 := (blkCell hb9 3).trans rfl
          have r4 := (blkCell hb9 4).trans rfl
          have r5 := (blkCell hb9 5).trans rfl
          have r6 := (blkCell hb9 6).trans rfl
          exact bodyPost_ret (v := .tuple #[.agg #[.int .i64 0, .int .i64 0, .int .i64 0, .int .i64 0, .int .i64 0, .int .i64 0, .int .i64 0], .bool false]) (by simp [results, Tryd.results55, go_sem, r0, r1, r2, r3, r4, r5, r6]) rfl ⟨.inl ⟨by simp [mayPut, HIN.out], rfl⟩, hbel9⟩
        · have hk : 0 ≤ t ∧ t ≤ (shownI (lvs l)).length := by
            have h := HIN.out
            simp [inB] at h
            exact h
          obtain ⟨d0, d1, dl⟩ := D3.out
          by_cases ht : t = 0
          · subst ht
            go_wp2_with (first | (go_at_call 62; refine (l6In_any _ _ _ _).mono ?_; rintro e w' ⟨rfl, hw'⟩; subst hw'; rw [HIN.out]))
            have HAL := hideIt (HA.out.below ((Below.refl _ _).alloc (Nat.le_refl _) (.cells #[.int .i64 0, .int .i64 0] 69)))
            have hb0 : Below w'.heap.size w' (w'.alloc (.cells #[.int .i64 0, .int .i64 0] 69)) := (Below.refl _ _).alloc (Nat.le_refl _) _
            have D4 : Hid ((w'.alloc (.cells #[.int .i64 0, .int .i64 0] 69)).cell? ⟨w'.heap.size, 0, none⟩ = some (.int .i64 0) ∧ (w'.alloc (.cells #[.int .i64 0, .int .i64 0] 69)).cell? ⟨w'.heap.size, 1, none⟩ = some (.int .i64 0) ∧ w'.heap.size < (w'.alloc (.cells #[.int .i64 0, .int .i64 0] 69)).heap.size) := ⟨by simp [go_sem], by simp [go_sem], by simp⟩
            have HRK := hideIt (rowKeep HRR.out hb0)
            have a0 := ((bcell hb0).1 _ _ dl).trans d0
            have a1 := ((bcell hb0).1 _ _ dl).trans d1
            have al := Nat.lt_of_lt_of_le dl hb0.size
            have hd2 : w'.heap.size ≠ w.heap.size := by have := HA.out.lt; omega
            clear hb0
            generalize w'.alloc (.cells #[.int .i64 0, .int .i64 0] 69) = Wj at *
            generalize w'.heap.size = B2 at *
            refine (l2Kids_any l g cap _ _ _ _ (HL.out.below HAL.out.bel hgw) hn hcap).mono ?_
            rintro e w4 ⟨v, rfl, hrk, hb4⟩
            obtain ⟨pk, ck, rfl⟩ := row_len hrk
            have d0 := ((bcell hb4).1 _ _ al).trans a0
            have d1 := ((bcell hb4).1 _ _ al).trans a1
            have e0 := ((bcell hb4).1 _ _ D4.out.2.2).trans D4.out.1
            have e1 := ((bcell hb4).1 _ _ D4.out.2.2).trans D4.out.2.1
            have HR4 := hideIt (rowKeep HRK.out hb4)
            have hB14 : B1 < w4.heap.size := Nat.lt_of_lt_of_le al hb4.size
            have hB24 : B2 < w4.heap.size := Nat.lt_of_lt_of_le D4.out.2.2 hb4.size
            have HA := hideIt (HAL.out.below hb4)
            have hwl4 := HA.out.lt
            have nG : G ≠ w.heap.size := by have h1 := (World.ownsRow.lt HRR.out G rfl).1; have h2 := hGw.out.1; omega
            have hGl4 := (World.ownsRow.lt HR4.out G rfl).2
            clear hrk hb4 HAL HRK
            by_cases hK : kidsL l (0, 0, 1) = []
            · have HOP : Hid (putO l r (0) sg = ⟨r, cn, 1, 0, 0, 1, sg⟩) := by
                have h := putO_yes (l := l) (r := r) (sg := sg) (t := 0) (by rw [leftOf_zero]; exact hK)
                rw [leftOf_zero, HCN.out] at h
                exact h
              have hkn : (kidsL l (0, 0, 1)).length = 0 := by rw [hK]; rfl
              rw [hkn]
              clear hK
              go_wp2_with (first | (refine wpList_store_row rfl 71 _ _ rfl w.heap.size _ rfl rfl 71 _ HA.out.box (by kernel_rfl) rfl (all7 _ _ _ _ _ _ _) ?_; have HST := hideIt (HA.out.stored r cn 1 0 0 1 sg); generalize World.setRow _ _ _ = W9 at *))
              obtain ⟨hb9, hbel9⟩ := HST.out
              have r0 := (blkCell hb9 0).trans rfl
              have r1 := (blkCell hb9 1).trans rfl
              have r2 := (blkCell hb9 2).trans rfl
              have r3 := (blkCell hb9 3).trans rfl
              have r4 := (blkCell hb9 4).trans rfl
              have r5 := (blkCell hb9 5).trans rfl
              have r6 := (blkCell hb9 6).trans rfl
              exact bodyPost_ret (v := .tuple #[.agg #[.int .i64 r, .int .i64 cn, .int .i64 1, .int .i64 0, .int .i64 0, .int .i64 1, .int .i64 sg], .bool true]) (by simp [results, Tryd.results55, go_sem, r0, r1, r2, r3, r4, r5, r6]) rfl ⟨.inr ⟨by simp [mayPut, mayMore, HO.out, HI.out, HZ.out, HIN.out, HSG.out], by rw [show ((0 : Int)).toNat = 0 from rfl, HOP.out]; rfl⟩, hbel9⟩
            · have hnx : 0 < (lvs l).length := by
                have h := left_next (l := l) HO.out (t := 0) (by omega) (by rw [leftOf_zero]; exact hK)
                rw [leftOf_zero] at h
                exact h
              have hxn : (lvs l)[0]? = some (lvs l)[0] := by simp [hnx]
              have HOP : Hid (putO l r (0) sg = ⟨r, cn, 1, (lvs l)[0].a, (lvs l)[0].b, 0, sg⟩) := by
                have h := putO_no (l := l) (r := r) (sg := sg) (t := 0) (by rw [leftOf_zero]; exact hK) (x := (lvs l)[0]) (by rw [leftOf_zero]; exact hxn)
                rw [HCN.out] at h
                exact h
              obtain ⟨q0, q1, _, _⟩ := lfCells_at (lvs l) (0) _ hxn
              have u0 := (World.ownsRow.cellAt HR4.out ((0) * 4) (by omega)).trans q0
              have u1 := (World.ownsRow.cellAt HR4.out ((0) * 4 + 1) (by omega)).trans q1
              have hkp : 0 < (kidsL l (0, 0, 1)).length := List.length_pos_iff.2 hK
              generalize (lvs l)[0].a = ya at *
              generalize (lvs l)[0].b = yb at *
              generalize (kidsL l (0, 0, 1)).length = kn at *
              clear hK hxn q0 q1
              have hkp' : ¬ ((kn : Int) = 0) := by omega
              have hnx' : (0 : Int) < ((lvs l).length : Int) := by omega
              have ks1 : (Instr.storeAt 71 (.pointer (some ⟨w.heap.size, 0, none⟩)) (.agg #[.int .i64 r, .int .i64 cn, .int .i64 1, .int .i64 ya, .int .i64 yb, .int .i64 0, .int .i64 sg])).run Tryd.prog w4.drew = .ok () (w4.drew.setRow w.heap.size #[.int .i64 r, .int .i64 cn, .int .i64 1, .int .i64 ya, .int .i64 yb, .int .i64 0, .int .i64 sg]) := store_op w4.drew w.heap.size _ HA.out.box rfl r cn 1 ya yb 0 sg
              have HST := hideIt ((HA.out.below ((Below.refl _ _).drew)).stored r cn 1 ya yb 0 sg)
              have K9 : Hid ((w4.drew.setRow w.heap.size #[.int .i64 r, .int .i64 cn, .int .i64 1, .int .i64 ya, .int .i64 yb, .int .i64 0, .int .i64 sg]).cell? ⟨B1, 0, none⟩ = some (.int .i64 r) ∧ (w4.drew.setRow w.heap.size #[.int .i64 r, .int .i64 cn, .int .i64 1, .int .i64 ya, .int .i64 yb, .int .i64 0, .int .i64 sg]).cell? ⟨B1, 1, none⟩ = some (.int .i64 cn) ∧ (w4.drew.setRow w.heap.size #[.int .i64 r, .int .i64 cn, .int .i64 1, .int .i64 ya, .int .i64 yb, .int .i64 0, .int .i64 sg]).cell? ⟨G, (0) * 4, none⟩ = some (.int .i64 ya) ∧ (w4.drew.setRow w.heap.size #[.int .i64 r, .int .i64 cn, .int .i64 1, .int .i64 ya, .int .i64 yb, .int .i64 0, .int .i64 sg]).cell? ⟨G, (0) * 4 + 1, none⟩ = some (.int .i64 yb)) :=
                ⟨setRow_cell (W := w4.drew) hdd d0, setRow_cell (W := w4.drew) hdd d1, setRow_cell (W := w4.drew) nG u0, setRow_cell (W := w4.drew) nG u1⟩
              go_wp2
              go_region_held3 (fun w' => w'.cell? ⟨B1, 0, none⟩ = some (.int .i64 r) ∧ w'.cell? ⟨B1, 1, none⟩ = some (.int .i64 cn) ∧ w'.cell? ⟨G, (0) * 4, none⟩ = some (.int .i64 ya) ∧ w'.cell? ⟨G, (0) * 4 + 1, none⟩ = some (.int .i64 yb))
                (first | exact ⟨d0, d1, u0, u1⟩ | exact K9.out)
                (fail)
              rename_i hHH
              clear hHH K9
              generalize World.setRow _ _ _ = W9 at *
              go_wp2
              obtain ⟨hb9, hbel9⟩ := HST.out
              have r0 := (blkCell hb9 0).trans rfl
              have r1 := (blkCell hb9 1).trans rfl
              have r2 := (blkCell hb9 2).trans rfl
              have r3 := (blkCell hb9 3).trans rfl
              have r4 := (blkCell hb9 4).trans rfl
              have r5 := (blkCell hb9 5).trans rfl
              have r6 := (blkCell hb9 6).trans rfl
              exact bodyPost_ret (v := .tuple #[.agg #[.int .i64 r, .int .i64 cn, .int .i64 1, .int .i64 ya, .int .i64 yb, .int .i64 0, .int .i64 sg], .bool true]) (by simp [results, Tryd.results55, go_sem, r0, r1, r2, r3, r4, r5, r6]) rfl ⟨.inr ⟨by simp [mayPut, mayMore, HO.out, HI.out, HZ.out, HIN.out, HSG.out], by rw [show ((0 : Int)).toNat = 0 from rfl, HOP.out]; rfl⟩, hbel9⟩
          · obtain ⟨k, rfl, hk1⟩ : ∃ k : Nat, t = (k : Int) + 1 ∧ k < (shownI (lvs l)).length := ⟨t.toNat - 1, by omega, by omega⟩
            obtain ⟨j, x, hj, hx, hjl⟩ := shown_leaf hk1
            have HLF : Hid (leftOf l (k + 1) = (x.a, x.b, j + 1)) := leftOf_succ hj hx
            have hS := (World.ownsRow.cellAt HS3.out k (by omega)).trans (natCells_at hj)
            obtain ⟨q0, q1, _, _⟩ := lfCells_at (lvs l) j x hx
            have z0 := (World.ownsRow.cellAt HRR.out (j * 4) (by omega)).trans q0
            have z1 := (World.ownsRow.cellAt HRR.out (j * 4 + 1) (by omega)).trans q1
            have hSl := (World.ownsRow.lt HS3.out S rfl).2
            have hGl := (World.ownsRow.lt HRR.out G rfl).2
            have hk' : (k : Int) < ((shownI (lvs l)).length : Int) := by omega
            have hj' : (j : Int) < ((lvs l).length : Int) := by omega
            have hj0 : (0 : Int) ≤ (j : Int) := by omega
            have hk0 : (0 : Int) ≤ (k : Int) := by omega
            have hk00 : (0 : Int) < (k : Int) + 1 := by omega
            have hjw : wrap64 ((j : Int) + 1) = (j : Int) + 1 := by have := HLN.out; simp only [wrap64]; omega
            generalize x.a = xa at *
            generalize x.b = xb at *
            clear q0 q1 hj hx
            go_wp2_with (first | (go_at_call 62; refine (l6In_any _ _ _ _).mono ?_; rintro e w' ⟨rfl, hw'⟩; subst hw'; rw [HIN.out]))
            have HAL := hideIt (HA.out.below ((Below.refl _ _).alloc (Nat.le_refl _) (.cells #[.int .i64 xa, .int .i64 xb] 69)))
            have hb0 : Below w'.heap.size w' (w'.alloc (.cells #[.int .i64 xa, .int .i64 xb] 69)) := (Below.refl _ _).alloc (Nat.le_refl _) _
            have D4 : Hid ((w'.alloc (.cells #[.int .i64 xa, .int .i64 xb] 69)).cell? ⟨w'.heap.size, 0, none⟩ = some (.int .i64 xa) ∧ (w'.alloc (.cells #[.int .i64 xa, .int .i64 xb] 69)).cell? ⟨w'.heap.size, 1, none⟩ = some (.int .i64 xb) ∧ w'.heap.size < (w'.alloc (.cells #[.int .i64 xa, .int .i64 xb] 69)).heap.size) := ⟨by simp [go_sem], by simp [go_sem], by simp⟩
            have HRK := hideIt (rowKeep HRR.out hb0)
            have a0 := ((bcell hb0).1 _ _ dl).trans d0
            have a1 := ((bcell hb0).1 _ _ dl).trans d1
            have al := Nat.lt_of_lt_of_le dl hb0.size
            have hd2 : w'.heap.size ≠ w.heap.size := by have := HA.out.lt; omega
            clear hb0
            generalize w'.alloc (.cells #[.int .i64 xa, .int .i64 xb] 69) = Wj at *
            generalize w'.heap.size = B2 at *
            refine (l2Kids_any l g cap _ _ _ _ (HL.out.below HAL.out.bel hgw) hn hcap).mono ?_
            rintro e w4 ⟨v, rfl, hrk, hb4⟩
            obtain ⟨pk, ck, rfl⟩ := row_len hrk
            have d0 := ((bcell hb4).1 _ _ al).trans a0
            have d1 := ((bcell hb4).1 _ _ al).trans a1
            have e0 := ((bcell hb4).1 _ _ D4.out.2.2).trans D4.out.1
            have e1 := ((bcell hb4).1 _ _ D4.out.2.2).trans D4.out.2.1
            have HR4 := hideIt (rowKeep HRK.out hb4)
            have hB14 : B1 < w4.heap.size := Nat.lt_of_lt_of_le al hb4.size
            have hB24 : B2 < w4.heap.size := Nat.lt_of_lt_of_le D4.out.2.2 hb4.size
            have HA := hideIt (HAL.out.below hb4)
            have hwl4 := HA.out.lt
            have nG : G ≠ w.heap.size := by have h1 := (World.ownsRow.lt HRR.out G rfl).1; have h2 := hGw.out.1; omega
            have hGl4 := (World.ownsRow.lt HR4.out G rfl).2
            clear hrk hb4 HAL HRK
            by_cases hK : kidsL l (xa, xb, 1) = []
            · have HOP : Hid (putO l r (k + 1) sg = ⟨r, cn, 1, xa, xb, 1, sg⟩) := by
                have h := putO_yes (l := l) (r := r) (sg := sg) (t := k + 1) (by rw [HLF.out]; exact hK)
                rw [HLF.out, HCN.out] at h
                exact h
              have hkn : (kidsL l (xa, xb, 1)).length = 0 := by rw [hK]; rfl
              rw [hkn]
              clear hK
              go_wp2_with (first | (refine wpList_store_row rfl 71 _ _ rfl w.heap.size _ rfl rfl 71 _ HA.out.box (by kernel_rfl) rfl (all7 _ _ _ _ _ _ _) ?_; have HST := hideIt (HA.out.stored r cn 1 xa xb 1 sg); generalize World.setRow _ _ _ = W9 at *))
              obtain ⟨hb9, hbel9⟩ := HST.out
              have r0 := (blkCell hb9 0).trans rfl
              have r1 := (blkCell hb9 1).trans rfl
              have r2 := (blkCell hb9 2).trans rfl
              have r3 := (blkCell hb9 3).trans rfl
              have r4 := (blkCell hb9 4).trans rfl
              have r5 := (blkCell hb9 5).trans rfl
              have r6 := (blkCell hb9 6).trans rfl
              exact bodyPost_ret (v := .tuple #[.agg #[.int .i64 r, .int .i64 cn, .int .i64 1, .int .i64 xa, .int .i64 xb, .int .i64 1, .int .i64 sg], .bool true]) (by simp [results, Tryd.results55, go_sem, r0, r1, r2, r3, r4, r5, r6]) rfl ⟨.inr ⟨by simp [mayPut, mayMore, HO.out, HI.out, HZ.out, HIN.out, HSG.out], by rw [show ((k : Int) + 1).toNat = k + 1 from (by omega), HOP.out]; rfl⟩, hbel9⟩
            · have hnx : (j + 1) < (lvs l).length := by
                have h := left_next (l := l) HO.out (t := k + 1) (by omega) (by rw [HLF.out]; exact hK)
                rw [HLF.out] at h
                exact h
              have hxn : (lvs l)[(j + 1)]? = some (lvs l)[(j + 1)] := by simp [hnx]
              have HOP : Hid (putO l r (k + 1) sg = ⟨r, cn, 1, (lvs l)[(j + 1)].a, (lvs l)[(j + 1)].b, 0, sg⟩) := by
                have h := putO_no (l := l) (r := r) (sg := sg) (t := k + 1) (by rw [HLF.out]; exact hK) (x := (lvs l)[(j + 1)]) (by rw [HLF.out]; exact hxn)
                rw [HCN.out] at h
                exact h
              obtain ⟨q0, q1, _, _⟩ := lfCells_at (lvs l) ((j + 1)) _ hxn
              have u0 := (World.ownsRow.cellAt HR4.out (((j + 1)) * 4) (by omega)).trans q0
              have u1 := (World.ownsRow.cellAt HR4.out (((j + 1)) * 4 + 1) (by omega)).trans q1
              have hkp : 0 < (kidsL l (xa, xb, 1)).length := List.length_pos_iff.2 hK
              generalize (lvs l)[(j + 1)].a = ya at *
              generalize (lvs l)[(j + 1)].b = yb at *
              generalize (kidsL l (xa, xb, 1)).length = kn at *
              clear hK hxn q0 q1
              have hkp' : ¬ ((kn : Int) = 0) := by omega
              have hnx' : ((j : Int) + 1 : Int) < ((lvs l).length : Int) := by omega
              have hnx0 : (0 : Int) ≤ (j : Int) + 1 := by omega
              have hnt : ((j : Int) + 1).toNat = j + 1 := by omega
              have ks1 : (Instr.storeAt 71 (.pointer (some ⟨w.heap.size, 0, none⟩)) (.agg #[.int .i64 r, .int .i64 cn, .int .i64 1, .int .i64 ya, .int .i64 yb, .int .i64 0, .int .i64 sg])).run Tryd.prog w4.drew = .ok () (w4.drew.setRow w.heap.size #[.int .i64 r, .int .i64 cn, .int .i64 1, .int .i64 ya, .int .i64 yb, .int .i64 0, .int .i64 sg]) := store_op w4.drew w.heap.size _ HA.out.box rfl r cn 1 ya yb 0 sg
              have HST := hideIt ((HA.out.below ((Below.refl _ _).drew)).stored r cn 1 ya yb 0 sg)
              have K9 : Hid ((w4.drew.setRow w.heap.size #[.int .i64 r, .int .i64 cn, .int .i64 1, .int .i64 ya, .int .i64 yb, .int .i64 0, .int .i64 sg]).cell? ⟨B1, 0, none⟩ = some (.int .i64 r) ∧ (w4.drew.setRow w.heap.size #[.int .i64 r, .int .i64 cn, .int .i64 1, .int .i64 ya, .int .i64 yb, .int .i64 0, .int .i64 sg]).cell? ⟨B1, 1, none⟩ = some (.int .i64 cn) ∧ (w4.drew.setRow w.heap.size #[.int .i64 r, .int .i64 cn, .int .i64 1, .int .i64 ya, .int .i64 yb, .int .i64 0, .int .i64 sg]).cell? ⟨G, (j + 1) * 4, none⟩ = some (.int .i64 ya) ∧ (w4.drew.setRow w.heap.size #[.int .i64 r, .int .i64 cn, .int .i64 1, .int .i64 ya, .int .i64 yb, .int .i64 0, .int .i64 sg]).cell? ⟨G, (j + 1) * 4 + 1, none⟩ = some (.int .i64 yb)) :=
                ⟨setRow_cell (W := w4.drew) hdd d0, setRow_cell (W := w4.drew) hdd d1, setRow_cell (W := w4.drew) nG u0, setRow_cell (W := w4.drew) nG u1⟩
              go_wp2
              go_region_held3 (fun w' => w'.cell? ⟨B1, 0, none⟩ = some (.int .i64 r) ∧ w'.cell? ⟨B1, 1, none⟩ = some (.int .i64 cn) ∧ w'.cell? ⟨G, (j + 1) * 4, none⟩ = some (.int .i64 ya) ∧ w'.cell? ⟨G, (j + 1) * 4 + 1, none⟩ = some (.int .i64 yb))
                (first | exact ⟨d0, d1, u0, u1⟩ | exact K9.out)
                (fail)
              rename_i hHH
              clear hHH K9
              generalize World.setRow _ _ _ = W9 at *
              go_wp2
              obtain ⟨hb9, hbel9⟩ := HST.out
              have r0 := (blkCell hb9 0).trans rfl
              have r1 := (blkCell hb9 1).trans rfl
              have r2 := (blkCell hb9 2).trans rfl
              have r3 := (blkCell hb9 3).trans rfl
              have r4 := (blkCell hb9 4).trans rfl
              have r5 := (blkCell hb9 5).trans rfl
              have r6 := (blkCell hb9 6).trans rfl
              exact bodyPost_ret (v := .tuple #[.agg #[.int .i64 r, .int .i64 cn, .int .i64 1, .int .i64 ya, .int .i64 yb, .int .i64 0, .int .i64 sg], .bool true]) (by simp [results, Tryd.results55, go_sem, r0, r1, r2, r3, r4, r5, r6]) rfl ⟨.inr ⟨by simp [mayPut, mayMore, HO.out, HI.out, HZ.out, HIN.out, HSG.out], by rw [show ((k : Int) + 1).toNat = k + 1 from (by omega), HOP.out]; rfl⟩, hbel9⟩
end Go.Proofs.YtficnhlkefpfnaaDoor

namespace Go.Proofs.YtficnhlkefpfnaaDoor
open Go.RowKit
set_option linter.unusedSimpArgs false
set_option linter.unusedVariables false
attribute [local go_sem ↓] Go.wp_at_zero Go.wp_at_succ

/-- Where l3With stands: what it has so far, and the thing in its box. -/
structure WL (w wr : World) (o : Op7) (v : Value) (L : List Op7) : Prop where
  row : wr.ownsRow (w.heap.size + 1) 71 7 v L.length (opCells L)
  box : wr.heap[w.heap.size]? = some (.cells #[.int .i64 o.a, .int .i64 o.b, .int .i64 o.k, .int .i64 o.c, .int .i64 o.d, .int .i64 o.s, .int .i64 o.g] 71 (0, 0))
  bel : Below w.heap.size w wr
theorem WL.lt {w wr : World} {o : Op7} {v : Value} {L : List Op7} (h : WL w wr o v L) : w.heap.size < wr.heap.size := (Array.getElem?_eq_some_iff.1 h.box).1
theorem WL.below {w wr w' : World} {o : Op7} {v : Value} {L : List Op7} (h : WL w wr o v L) (hb : Below wr.heap.size wr w') : WL w w' o v L :=
  ⟨h.row.kept (row := none) ⟨hb.os, hb.tape, hb.output, hb.size, fun i hi _ => hb.block i hi⟩ (by cases v.ownBlock <;> simp), (hb.block _ h.lt).trans h.box, Bstep h.bel hb⟩
theorem WL.app {w wr w' : World} {o : Op7} {v v' : Value} {L M : List Op7} (h : WL w wr o v L) (hg : wr.grownBy w' v.ownBlock) (hown : w'.ownsRow (w.heap.size + 1) 71 7 v' (L.length + M.length) (opCells L ++ opCells M)) : WL w w' o v' (L ++ M) :=
  ⟨by rw [opCells_app, List.length_append]; exact hown, (hg.block _ h.lt (fun e => by have := (h.row.lt _ e.symm).1; omega)).trans h.box, below_grown h.bel hg h.bel.size (fun j e => by have := (h.row.lt j e).1; omega)⟩
/-- The two cells of the thing's id. -/
theorem WL.id {w wr : World} {o : Op7} {v : Value} {L : List Op7} (h : WL w wr o v L) : wr.cell? ⟨w.heap.size, 0, none⟩ = some (.int .i64 o.a) ∧ wr.cell? ⟨w.heap.size, 1, none⟩ = some (.int .i64 o.b) ∧ wr.cell? ⟨w.heap.size, 2, none⟩ = some (.int .i64 o.k) ∧ wr.cell? ⟨w.heap.size, 3, none⟩ = some (.int .i64 o.c) ∧ wr.cell? ⟨w.heap.size, 4, none⟩ = some (.int .i64 o.d) ∧ wr.cell? ⟨w.heap.size, 5, none⟩ = some (.int .i64 o.s) ∧ wr.cell? ⟨w.heap.size, 6, none⟩ = some (.int .i64 o.g) :=
  ⟨(blkCell h.box 0).trans rfl, (blkCell h.box 1).trans rfl, (blkCell h.box 2).trans rfl, (blkCell h.box 3).trans rfl, (blkCell h.box 4).trans rfl, (blkCell h.box 5).trans rfl, (blkCell h.box 6).trans rfl⟩
/-- Of the first k those that are ahead; and those that are behind. -/
def fstL (l : List Op7) (o : Op7) (k : Nat) : List Op7 := (l.take k).filter fun p => lessB p o
def sndL (l : List Op7) (o : Op7) (k : Nat) : List Op7 := (l.take k).filter fun p => lessB o p
theorem fst_yes {l : List Op7} {o : Op7} {k : Nat} (hk : k < l.length) (h : lessB l[k] o = true) : fstL l o (k + 1) = fstL l o k ++ [l[k]] := by unfold fstL; rw [List.take_succ_eq_append_getElem hk, List.filter_append]; simp [h]
theorem fst_no {l : List Op7} {o : Op7} {k : Nat} (hk : k < l.length) (h : lessB l[k] o = false) : fstL l o (k + 1) = fstL l o k := by unfold fstL; rw [List.take_succ_eq_append_getElem hk, List.filter_append]; simp [h]
theorem snd_yes {l : List Op7} {o : Op7} {k : Nat} (hk : k < l.length) (h : lessB o l[k] = true) : sndL l o (k + 1) = sndL l o k ++ [l[k]] := by unfold sndL; rw [List.take_succ_eq_append_getElem hk, List.filter_append]; simp [h]
theorem snd_no {l : List Op7} {o : Op7} {k : Nat} (hk : k < l.length) (h : lessB o l[k] = false) : sndL l o (k + 1) = sndL l o k := by unfold sndL; rw [List.take_succ_eq_append_getElem hk, List.filter_append]; simp [h]
/-- All so far: those ahead, the thing, those behind. -/
def bothL (l : List Op7) (o : Op7) (k : Nat) : List Op7 := fstL l o l.length ++ [o] ++ sndL l o k
theorem both_yes {l : List Op7} {o : Op7} {k : Nat} (hk : k < l.length) (h : lessB o l[k] = true) : bothL l o (k + 1) = bothL l o k ++ [l[k]] := by unfold bothL; rw [snd_yes hk h, ← List.append_assoc]
theorem both_no {l : List Op7} {o : Op7} {k : Nat} (hk : k < l.length) (h : lessB o l[k] = false) : bothL l o (k + 1) = bothL l o k := by unfold bothL; rw [snd_no hk h]
theorem both_zero (l : List Op7) (o : Op7) : bothL l o 0 = fstL l o l.length ++ [o] := by simp [bothL, sndL]
theorem both_all (l : List Op7) (o : Op7) : bothL l o l.length = withL l o := by simp [bothL, fstL, sndL, withL]
theorem fst_len (l : List Op7) (o : Op7) (k : Nat) : (fstL l o k).length ≤ l.length := Nat.le_trans (List.length_filter_le _ _) (List.length_take_le' _ _)
theorem snd_len (l : List Op7) (o : Op7) (k : Nat) : (sndL l o k).length ≤ l.length := Nat.le_trans (List.length_filter_le _ _) (List.length_take_le' _ _)
theorem both_len (l : List Op7) (o : Op7) (k : Nat) : (bothL l o k).length ≤ 2 * l.length + 1 := by
  have h1 := fst_len l o l.length
  have h2 := snd_len l o k
  unfold bothL
  rw [List.length_append, List.length_append]
  simp only [List.length_cons, List.length_nil]
  omega

set_option maxRecDepth 100000 in
set_option maxHeartbeats 4000000 in
theorem l3With_any (l : List Op7) (g cap : Nat) (o : Op7) (w : World) (hl : OpsAt w g l) (hn : l.length ≤ 1048576) (hcap : l.length ≤ cap) :
    Calls Tryd.prog 56 #[.slice (some ⟨g, 0, none⟩) l.length cap, .agg #[.int .i64 o.a, .int .i64 o.b, .int .i64 o.k, .int .i64 o.c, .int .i64 o.d, .int .i64 o.s, .int .i64 o.g]] w fun e w' => ∃ G c, e = .returned (.slice (some ⟨G, 0, none⟩) (withL l o).length c) ∧ OwnOps w' w.heap.size G c (withL l o) ∧ Below w.heap.size w w' := by
  have HL := hideIt hl
  have hgw := hl.1
  clear hl
  obtain ⟨i0, hi, hz0', hz1', hz2⟩ := info_parts infoOp
  have HI1 := hideIt hi
  have HZ0 := hideIt hz0'
  have HZ1 := hideIt hz1'
  have HZ2 := hideIt hz2
  clear hi hz0' hz1' hz2
  go_enter Tryd.func56, Tryd.ntmps56
  go_wp2
  have HST : Hid (WL w ((w.alloc (.cells #[.int .i64 o.a, .int .i64 o.b, .int .i64 o.k, .int .i64 o.c, .int .i64 o.d, .int .i64 o.s, .int .i64 o.g] 71)).alloc (.cells #[] 71)) o (.slice (some ⟨w.heap.size + 1, 0, none⟩) 0 0) []) := by
    refine ⟨?_, ?_, ((Below.refl _ _).alloc (Nat.le_refl _) _).alloc (by simp) _⟩
    · have h := World.ownsRow_made (base := w.heap.size + 1) (e := 71) (size := 7) (w.alloc (.cells #[.int .i64 o.a, .int .i64 o.b, .int .i64 o.k, .int .i64 o.c, .int .i64 o.d, .int .i64 o.s, .int .i64 o.g] 71)) #[] 0 (by simp) (Nat.zero_le _) rfl
      simp only [World.size_alloc] at h
      exact h
    · exact (Below.heap_alloc _ _ _ (by simp)).trans (World.alloc_heap_new w _)
  go_loopw [5, 6] (fun v i wr => ∃ k G c : Nat, k ≤ l.length ∧ i = .int .i64 k ∧ v = .slice (some ⟨G, 0, none⟩) (fstL l o k).length c ∧ WL w wr o v (fstL l o k))
    (fun _ i _ => l.length - (intOf i).toNat)
  case atStart => exact ⟨0, _, _, Nat.zero_le _, rfl, rfl, HST.out⟩
  case round =>
    obtain ⟨k, Gb, cb, hk, rfl, rfl, hS⟩ := hrel
    have HS := hideIt hS
    have hgr : g < wr.heap.size := Nat.lt_of_lt_of_le hgw hS.bel.size
    have hwr := hS.lt
    have hfl := fst_len l o k
    clear hS
    by_cases hlt : k < l.length
    · obtain ⟨y0, y1, y2, y3, y4, y5, y6⟩ := (HL.out.below HS.out.bel hgw).2 k l[k] (by simp [hlt])
      obtain ⟨b0, b1, b2, b3, b4, b5, b6⟩ := HS.out.id
      have hpk : l[k]? = some l[k] := by simp [hlt]
      have hyes : Hid (lessB l[k] o = true → fstL l o (k + 1) = fstL l o k ++ [l[k]]) := fst_yes hlt
      have hno : Hid (lessB l[k] o = false → fstL l o (k + 1) = fstL l o k) := fst_no hlt
      generalize l[k] = p at *
      have hlt' : (k : Int) < (l.length : Int) := by omega
      have hk0 : (0 : Int) ≤ (k : Int) := by omega
      cases hz : lessB p o
      all_goals
        have HZ := hideIt hz
        clear hz
        go_wp2
        go_region_held3 (fun w' => w'.cell? ⟨g, k * 7, none⟩ = some (.int .i64 p.a) ∧ w'.cell? ⟨g, k * 7 + 1, none⟩ = some (.int .i64 p.b) ∧ w'.cell? ⟨w.heap.size, 0, none⟩ = some (.int .i64 o.a) ∧ w'.cell? ⟨w.heap.size, 1, none⟩ = some (.int .i64 o.b))
          (first | exact ⟨y0, y1, b0, b1⟩ | exact ⟨((bcell hb2).1 g _ hgr).trans y0, ((bcell hb2).1 g _ hgr).trans y1, ((bcell hb2).1 _ _ hwr).trans b0, ((bcell hb2).1 _ _ hwr).trans b1⟩)
          (first | (go_at_call 79; refine (specLess_any _ _ _ _ _).mono ?_; rintro e w2 ⟨rfl, hb2⟩; have HS2 : Hid (WL w w2 o (.slice (some ⟨Gb, 0, none⟩) (fstL l o k).length cb) (fstL l o k)) := (HS.out.below ((Below.refl _ _).drew)).below hb2; rw [show decide (p.a < o.a ∨ p.a = o.a ∧ p.b < o.b) = _ from HZ.out]))
        rename_i hHH
        clear hHH hb2 y0 y1 y2 y3 y4 y5 y6 b0 b1 b2 b3 b4 b5 b6
      · have HE := hideIt (hno.out HZ.out)
        go_wp2
        exact ⟨⟨k + 1, Gb, cb, by omega, by go_num, by rw [HE.out], by rw [HE.out]; exact HS2.out⟩, by simp [intOf]; omega⟩
      · have HE := hideIt (hyes.out HZ.out)
        obtain ⟨y0, y1, y2, y3, y4, y5, y6⟩ := (HL.out.below HS2.out.bel hgw).2 k p hpk
        have hgr2 : g < w2.heap.size := Nat.lt_of_lt_of_le hgw HS2.out.bel.size
        have hwr2 := HS2.out.lt
        go_wp2_with (first
          | (at_builtin; refine wpList_append_own_at _ rfl _ _ 24 rfl (w.heap.size + 1) 71 i0 _ 7 56 Tryd.underlying24 HI1.out HZ0.out HZ1.out HZ2.out rfl (by decide) _ _ _ rfl (HS2.out.row.alloc _) ⟨w2.heap.size, 0, none⟩ 1 1 (opCells [p]) rfl rfl (cells_new w2 (opCells [p]) 71) (opCells_one _) (by (try simp only [List.length_append, List.length_cons, List.length_nil]); unfold maxLen; omega) (by (try simp only [List.length_append, List.length_cons, List.length_nil]); omega) (by simp; omega) ?_; intro v' w3 hown3 hg3 _ _;
              obtain ⟨g', cap', hv'⟩ := ownsRow_succ hown3; subst hv';
              have HS3 := hideIt (WL.app (M := [p]) (HS2.out.below ((Below.refl _ _).alloc (Nat.le_refl _) _)) hg3 hown3); clear hown3 hg3))
        exact ⟨⟨k + 1, g', cap', by omega, by go_num, by rw [HE.out, List.length_append]; rfl, by rw [HE.out]; exact HS3.out⟩, by simp [intOf]; omega⟩
    · obtain rfl : k = l.length := by omega
      obtain ⟨b0, b1, b2, b3, b4, b5, b6⟩ := HS.out.id
      go_wp2_with (first
        | (at_builtin; refine wpList_append_own_at _ rfl _ _ 24 rfl (w.heap.size + 1) 71 i0 _ 7 56 Tryd.underlying24 HI1.out HZ0.out HZ1.out HZ2.out rfl (by decide) _ _ _ rfl (HS.out.row.alloc _) ⟨wr.heap.size, 0, none⟩ 1 1 (opCells [o]) rfl rfl (cells_new wr (opCells [o]) 71) (opCells_one _) (by unfold maxLen; omega) (by omega) (by simp; omega) ?_; intro v' w3 hown3 hg3 _ _;
            obtain ⟨g', cap', hv'⟩ := ownsRow_succ hown3; subst hv';
            have HS3 := hideIt (WL.app (M := [o]) (HS.out.below ((Below.refl _ _).alloc (Nat.le_refl _) _)) hg3 hown3); clear hown3 hg3))
      clear b0 b1 b2 b3 b4 b5 b6 hwr hgr
      have hfl' := fst_len l o l.length
      go_loopw [5, 7] (fun v i wr => ∃ k G c : Nat, k ≤ l.length ∧ i = .int .i64 k ∧ v = .slice (some ⟨G, 0, none⟩) (bothL l o k).length c ∧ WL w wr o v (bothL l o k))
        (fun _ i _ => l.length - (intOf i).toNat)
      case atStart => exact ⟨0, g', cap', Nat.zero_le _, rfl, by rw [both_zero, List.length_append]; rfl, by rw [both_zero]; exact HS3.out⟩
      case round =>
        clear HS HS3
        obtain ⟨k, Gb, cb, hk, rfl, rfl, hS⟩ := hrel
        have HS := hideIt hS
        have hgr : g < wr.heap.size := Nat.lt_of_lt_of_le hgw hS.bel.size
        have hwr := hS.lt
        have hsl := both_len l o k
        clear hS
        by_cases hlt : k < l.length
        · obtain ⟨y0, y1, y2, y3, y4, y5, y6⟩ := (HL.out.below HS.out.bel hgw).2 k l[k] (by simp [hlt])
          obtain ⟨b0, b1, b2, b3, b4, b5, b6⟩ := HS.out.id
          have hpk : l[k]? = some l[k] := by simp [hlt]
          have hyes : Hid (lessB o l[k] = true → bothL l o (k + 1) = bothL l o k ++ [l[k]]) := both_yes hlt
          have hno : Hid (lessB o l[k] = false → bothL l o (k + 1) = bothL l o k) := both_no hlt
          generalize l[k] = p at *
          have hlt' : (k : Int) < (l.length : Int) := by omega
          have hk0 : (0 : Int) ≤ (k : Int) := by omega
          cases hz : lessB o p
          all_goals
            have HZ := hideIt hz
            clear hz
            go_wp2
            go_region_held3 (fun w' => w'.cell? ⟨g, k * 7, none⟩ = some (.int .i64 p.a) ∧ w'.cell? ⟨g, k * 7 + 1, none⟩ = some (.int .i64 p.b) ∧ w'.cell? ⟨w.heap.size, 0, none⟩ = some (.int .i64 o.a) ∧ w'.cell? ⟨w.heap.size, 1, none⟩ = some (.int .i64 o.b))
              (first | exact ⟨y0, y1, b0, b1⟩ | exact ⟨((bcell hb2).1 g _ hgr).trans y0, ((bcell hb2).1 g _ hgr).trans y1, ((bcell hb2).1 _ _ hwr).trans b0, ((bcell hb2).1 _ _ hwr).trans b1⟩)
              (first | (go_at_call 79; refine (specLess_any _ _ _ _ _).mono ?_; rintro e w2 ⟨rfl, hb2⟩; have HS2 : Hid (WL w w2 o (.slice (some ⟨Gb, 0, none⟩) (bothL l o k).length cb) (bothL l o k)) := (HS.out.below ((Below.refl _ _).drew)).below hb2; rw [show decide (o.a < p.a ∨ o.a = p.a ∧ o.b < p.b) = _ from HZ.out]))
            rename_i hHH
            clear hHH hb2 y0 y1 y2 y3 y4 y5 y6 b0 b1 b2 b3 b4 b5 b6
          · have HE := hideIt (hno.out HZ.out)
            go_wp2
            exact ⟨⟨k + 1, Gb, cb, by omega, by go_num, by rw [HE.out], by rw [HE.out]; exact HS2.out⟩, by simp [intOf]; omega⟩
          · have HE := hideIt (hyes.out HZ.out)
            obtain ⟨y0, y1, y2, y3, y4, y5, y6⟩ := (HL.out.below HS2.out.bel hgw).2 k p hpk
            have hgr2 : g < w2.heap.size := Nat.lt_of_lt_of_le hgw HS2.out.bel.size
            have hwr2 := HS2.out.lt
            go_wp2_with (first
              | (at_builtin; refine wpList_append_own_at _ rfl _ _ 24 rfl (w.heap.size + 1) 71 i0 _ 7 56 Tryd.underlying24 HI1.out HZ0.out HZ1.out HZ2.out rfl (by decide) _ _ _ rfl (HS2.out.row.alloc _) ⟨w2.heap.size, 0, none⟩ 1 1 (opCells [p]) rfl rfl (cells_new w2 (opCells [p]) 71) (opCells_one _) (by (try simp only [List.length_append, List.length_cons, List.length_nil]); unfold maxLen; omega) (by (try simp only [List.length_append, List.length_cons, List.length_nil]); omega) (by simp; omega) ?_; intro v' w3 hown3 hg3 _ _;
                  obtain ⟨g', cap', hv'⟩ := ownsRow_succ hown3; subst hv';
                  have HS3 := hideIt (WL.app (M := [p]) (HS2.out.below ((Below.refl _ _).alloc (Nat.le_refl _) _)) hg3 hown3); clear hown3 hg3))
            exact ⟨⟨k + 1, g', cap', by omega, by go_num, by rw [HE.out, List.length_append]; rfl, by rw [HE.out]; exact HS3.out⟩, by simp [intOf]; omega⟩
        · obtain rfl : k = l.length := by omega
          go_wp2
          go_ret
          have hE := both_all l o
          have hR := HS.out.row
          rw [hE] at hR
          rw [hE]
          exact ⟨_, _, rfl, ownsRow_base (Nat.le_succ _) hR, HS.out.bel⟩
end Go.Proofs.YtficnhlkefpfnaaDoor

namespace Go.Proofs.YtficnhlkefpfnaaDoor
open Go.RowKit
set_option linter.unusedSimpArgs false
set_option linter.unusedVariables false

theorem add_plain (g j : Nat) : (⟨g, 0, none⟩ : Addr).add j = ⟨g, j, none⟩ := by
  unfold Addr.add
  split <;> simp_all
/-- What is copied from a block of things. -/
theorem OpsAt.cells {w : World} {g : Nat} {l : List Op7} (h : OpsAt w g l) : ∀ j u, (opCells l)[j]? = some u → w.cell? ((⟨g, 0, none⟩ : Addr).add j) = some u := by
  intro j u hj
  rw [add_plain]
  have hlt : j < l.length * 7 := by
    have := (List.getElem?_eq_some_iff.1 hj).1
    rwa [opCells_len] at this
  have hi : j / 7 < l.length := by omega
  have hx : l[j / 7]? = some l[j / 7] := by simp [hi]
  obtain ⟨h0, h1, h2, h3, h4, h5, h6⟩ := h.2 _ _ hx
  obtain ⟨o0, o1, o2, o3, o4, o5, o6⟩ := opCells_at l _ _ hx
  have hq : j % 7 = 0 ∨ j % 7 = 1 ∨ j % 7 = 2 ∨ j % 7 = 3 ∨ j % 7 = 4 ∨ j % 7 = 5 ∨ j % 7 = 6 := by omega
  have hd : j = j / 7 * 7 + j % 7 := by omega
  rcases hq with e | e | e | e | e | e | e <;> rw [e] at hd <;> (try simp only [Nat.add_zero] at hd) <;> rw [hd] at hj ⊢
  · rw [o0] at hj; rw [h0]; exact hj
  · rw [o1] at hj; rw [h1]; exact hj
  · rw [o2] at hj; rw [h2]; exact hj
  · rw [o3] at hj; rw [h3]; exact hj
  · rw [o4] at hj; rw [h4]; exact hj
  · rw [o5] at hj; rw [h5]; exact hj
  · rw [o6] at hj; rw [h6]; exact hj
end Go.Proofs.YtficnhlkefpfnaaDoor

namespace Go.Proofs.YtficnhlkefpfnaaDoor
open Go.RowKit
/-- A thing stored whole into its new box. -/
theorem store_op_new (w : World) (a1 a2 a3 a4 a5 a6 a7 : Int) : (Instr.storeAt 71 (.pointer (some ⟨w.heap.size, 0, none⟩)) (.agg #[.int .i64 a1, .int .i64 a2, .int .i64 a3, .int .i64 a4, .int .i64 a5, .int .i64 a6, .int .i64 a7])).run Tryd.prog (w.alloc (.cells #[.int .i64 0, .int .i64 0, .int .i64 0, .int .i64 0, .int .i64 0, .int .i64 0, .int .i64 0] 71)) = .ok () (w.alloc (.cells #[.int .i64 a1, .int .i64 a2, .int .i64 a3, .int .i64 a4, .int .i64 a5, .int .i64 a6, .int .i64 a7] 71)) :=
  run_storeAt_new w 71 #[.int .i64 0, .int .i64 0, .int .i64 0, .int .i64 0, .int .i64 0, .int .i64 0, .int .i64 0] #[.int .i64 a1, .int .i64 a2, .int .i64 a3, .int .i64 a4, .int .i64 a5, .int .i64 a6, .int .i64 a7] (by kernel_rfl) rfl (by simp [Value.oneCell'])
end Go.Proofs.YtficnhlkefpfnaaDoor

namespace Go.Proofs.YtficnhlkefpfnaaDoor
open Go.RowKit
set_option linter.unusedSimpArgs false
set_option linter.unusedVariables false
attribute [local go_sem ↓] Go.wp_at_zero Go.wp_at_succ store_op_new
attribute [-go_sem] Instr.storeAt

theorem withL_len (l : List Op7) (o : Op7) : (withL l o).length ≤ 2 * l.length + 1 := by
  have h := both_len l o l.length
  rw [both_all] at h
  exact h
theorem mayPut_ok {l : List Op7} {r t sg : Int} (h : mayPut l r t sg = true) : opsB l = true := by
  simp only [mayPut, mayMore, Bool.and_eq_true] at h
  exact h.1.1.1

set_option maxRecDepth 100000 in
set_option maxHeartbeats 2000000 in
theorem typeRun_any (l : List Op7) (g cap : Nat) (r t : Int) (s : ByteArray) (w : World) (hl : OpsAt w g l) (hn : l.length ≤ 1048576) (hcap : l.length ≤ cap) (hs : s.size ≤ 1048576) :
    Calls Tryd.prog 14 #[.slice (some ⟨g, 0, none⟩) l.length cap, .int .i64 r, .int .i64 t, .string s] w fun e w' =>
      ∃ G c L z, e = .returned (.tuple #[.slice (some ⟨G, 0, none⟩) L.length c, .bool z]) ∧ OwnOps w' w.heap.size G c L ∧ L.length ≤ 73 ∧ Below w.heap.size w w' := by
  have HL := hideIt hl
  have hgw := hl.1
  clear hl
  obtain ⟨i0, hi, hz0', hz1', hz2⟩ := info_parts infoOp
  have HI1 := hideIt hi
  have HZ0 := hideIt hz0'
  have HZ1 := hideIt hz1'
  have HZ2 := hideIt hz2
  clear hi hz0' hz1' hz2
  cases ho : opsB l
  all_goals
    have HO := hideIt ho
    clear ho
    go_enter Tryd.func14, Tryd.ntmps14
    go_wp2_with fail
    refine (specOps_any l _ _ _ HL.out hn hcap).mono ?_
    rintro e w1 ⟨rfl, hb1⟩
    rw [HO.out]
    have HB1 := hideIt hb1
    have HL1 := hideIt (HL.out.below hb1 hgw)
    clear hb1
  · go_wp2
    exact bodyPost_ret (v := .tuple #[.slice (some ⟨w1.heap.size, 0, none⟩) 0 0, .bool false]) (by simp [results, Tryd.results14, go_sem]) rfl ⟨_, _, [], _, rfl, World.ownsRow_made (base := w.heap.size) (e := 71) (size := 7) w1 #[] 0 HB1.out.size (Nat.zero_le _) rfl, by simp, HB1.out.alloc HB1.out.size _⟩
  · have h36 := ops_36 HO.out
    have hz1 := HB1.out.size
    have HST : Hid ((w1.alloc (.cells #[] 71)).ownsRow w.heap.size 71 7 (.slice (some ⟨w1.heap.size, 0, none⟩) 0 0) 0 []) :=
      World.ownsRow_made (base := w.heap.size) (e := 71) (size := 7) w1 #[] 0 HB1.out.size (Nat.zero_le _) rfl
    have HC := hideIt (HL1.out.below ((Below.refl _ _).alloc (Nat.le_refl _) (.cells #[] 71)) HL1.out.1).cells
    go_wp2_with (first
      | (at_builtin; refine wpList_append_own_at _ rfl _ _ 24 rfl w.heap.size 71 i0 _ 7 56 Tryd.underlying24 HI1.out HZ0.out HZ1.out HZ2.out rfl (by decide) _ _ _ rfl HST.out ⟨g, 0, none⟩ l.length cap (opCells l) rfl (opCells_len l) HC.out (opCells_one _) (by unfold maxLen; omega) (by omega) (by simp; omega) ?_; intro v' w3 hown3 hg3 hnil3 _))
    have HS0 : Hid (∃ G c, v' = .slice (some ⟨G, 0, none⟩) l.length c ∧ OwnOps w3 w.heap.size G c l) := by
      show ∃ G c, _
      rw [Nat.zero_add, List.nil_append] at hown3
      rcases hown3.2 with ⟨e, _⟩ | ⟨G, c, cur, e, _⟩
      · exact absurd (hnil3.1 e).1 (fun h => by cases h)
      · subst e; exact ⟨G, c, rfl, hown3⟩
    have HB3 := hideIt (below_grown (HB1.out.alloc HB1.out.size _) hg3 (by simp; omega) (fun j e => (HST.out.lt j e).1))
    clear hown3 hg3 hnil3
    go_loopw [10, 11] (fun v i wr => ∃ (k G c : Nat) (L : List Op7), k ≤ s.size ∧ i = .int .i64 k ∧ v = .slice (some ⟨G, 0, none⟩) L.length c ∧ OwnOps wr w.heap.size G c L ∧ L.length ≤ 73 ∧ Below w.heap.size w wr)
      (fun _ i _ => s.size - (intOf i).toNat)
    case atStart =>
      obtain ⟨G, c, e, h⟩ := HS0.out
      exact ⟨0, G, c, l, Nat.zero_le _, rfl, e, h, by omega, HB3.out⟩
    case round =>
      obtain ⟨k, G, c, L, hk, rfl, rfl, hS, hL73, hB⟩ := hrel
      have HS := hideIt hS
      have HB := hideIt hB
      have hzr := hB.size
      clear hS hB HS0 HB3
      by_cases hlt : k < s.size
      · have hlt' : (k : Int) < (s.size : Int) := by omega
        have hk0 : (0 : Int) ≤ (k : Int) := by omega
        by_cases h12 : 12 ≤ k
        · have h12' : (12 : Int) ≤ (k : Int) := by omega
          go_wp2
          exact bodyPost_ret (v := .tuple #[.slice (some ⟨wr.heap.size, 0, none⟩) 0 0, .bool false]) (by simp [results, Tryd.results14, go_sem]) rfl ⟨_, _, [], _, rfl, World.ownsRow_made (base := w.heap.size) (e := 71) (size := 7) wr #[] 0 HB.out.size (Nat.zero_le _) rfl, by simp, HB.out.alloc HB.out.size _⟩
        · have h12' : ¬ ((12 : Int) ≤ (k : Int)) := by omega
          go_wp2_with fail
          refine (typePut_any L G c r _ _ wr HS.out.at (by omega) HS.out.cap).mono ?_
          rintro e w4 ⟨(⟨hm, rfl⟩ | ⟨hm, rfl⟩), hb4⟩
          · have HB4 := hideIt (Bstep HB.out hb4)
            have hz4 := HB4.out.size
            clear hb4 hm
            have HM : Hid ((((w4.alloc (.cells #[.int .i64 0, .int .i64 0, .int .i64 0, .int .i64 0, .int .i64 0, .int .i64 0, .int .i64 0] 71)).alloc (.cells #[] 71))).ownsRow w.heap.size 71 7 (.slice (some ⟨w4.heap.size + 1, 0, none⟩) 0 0) 0 []) := by
              have h := World.ownsRow_made (base := w.heap.size) (e := 71) (size := 7) (w4.alloc (.cells #[.int .i64 0, .int .i64 0, .int .i64 0, .int .i64 0, .int .i64 0, .int .i64 0, .int .i64 0] 71)) #[] 0 (by simp; omega) (Nat.zero_le _) rfl
              rw [World.size_alloc] at h
              exact h
            go_wp2
            exact bodyPost_ret (v := .tuple #[.slice (some ⟨w4.heap.size + 1, 0, none⟩) 0 0, .bool false]) (by simp [results, Tryd.results14, go_sem]) rfl ⟨_, _, [], _, rfl, HM.out, by simp, (HB4.out.alloc HB4.out.size _).alloc (by simp; omega) _⟩
          · have h36L := ops_36 (mayPut_ok hm)
            have HB4 := hideIt (Bstep HB.out hb4)
            have HS4 := hideIt (HS.out.below hb4)
            have hz4 := HB4.out.size
            clear hb4 hm
            generalize putO L r _ _ = o
            unfold opV
            go_wp2_with fail
            refine (l3With_any L G c o _ (HS4.out.below ((Below.refl _ _).alloc (Nat.le_refl _) _)).at (by omega) HS4.out.cap).mono ?_
            rintro e w5 ⟨G5, c5, rfl, hS5, hb5⟩
            have HS5 : Hid (OwnOps w5 w.heap.size G5 c5 (withL L o)) := ownsRow_base (by simp; omega) hS5
            have HB5 := hideIt (Bstep (HB4.out.alloc HB4.out.size _) hb5)
            have hwl := withL_len L o
            clear hS5 hb5
            go_wp2
            exact ⟨⟨k + 1, G5, c5, withL L o, by omega, by go_num, rfl, HS5.out, by omega, HB5.out⟩, by simp [intOf]; omega⟩
      · obtain rfl : k = s.size := by omega
        go_wp2
        exact bodyPost_ret (v := .tuple #[.slice (some ⟨G, 0, none⟩) L.length c, .bool true]) (by simp [results, Tryd.results14, go_sem]) rfl ⟨_, _, L, _, rfl, HS.out, hL73, HB.out⟩
end Go.Proofs.YtficnhlkefpfnaaDoor

namespace Go.Proofs.YtficnhlkefpfnaaDoor
open Go.RowKit
set_option linter.unusedSimpArgs false
set_option linter.unusedVariables false
attribute [local go_sem ↓] Go.wp_at_zero Go.wp_at_succ

/-- Where the thing of an id stands, if what was done is ok. -/
def findB (l : List Op7) (r m : Int) : Int := if opsB l = true then findI l r m else -1
theorem opsB_parts {l : List Op7} (h : opsB l = true) : l.all okO = true ∧ ordB l = true := by
  unfold opsB at h
  simp only [Bool.and_eq_true] at h
  exact ⟨h.1, h.2.1⟩


theorem keepF {w w1 w2 : World} {u v : Value} (hb : Below w1.heap.size w1 w2)
    (h : w1.cell? ⟨w.heap.size, 0, none⟩ = some u ∧ w1.cell? ⟨w.heap.size, 1, none⟩ = some v ∧ w.heap.size < w1.heap.size ∧ Below w.heap.size w w1) :
    w2.cell? ⟨w.heap.size, 0, none⟩ = some u ∧ w2.cell? ⟨w.heap.size, 1, none⟩ = some v ∧ w.heap.size < w2.heap.size ∧ Below w.heap.size w w2 := by
  obtain ⟨h1, h2, h4, h5⟩ := h
  obtain ⟨hc, _⟩ := bcell hb
  exact ⟨(hc _ _ h4).trans h1, (hc _ _ h4).trans h2, Nat.lt_of_lt_of_le h4 hb.size, Bstep h5 hb⟩

set_option maxRecDepth 100000 in
set_option maxHeartbeats 1000000 in
theorem implFind_any (l : List Op7) (g cap : Nat) (r m : Int) (x : Addr) (w : World) (hl : OpsAt w g l) (hn : l.length ≤ 1048576) (hcap : l.length ≤ cap)
    (he : w.cell? ⟨0, 0, none⟩ = some (.iface 200 (.pointer (some x)))) (h0 : 0 < w.heap.size) :
    Calls Tryd.prog 111 #[.slice (some ⟨g, 0, none⟩) l.length cap, .agg #[.int .i64 r, .int .i64 m]] w fun e w' => e = .returned (.int .i64 (findB l r m)) ∧ Below w.heap.size w w' := by
  have HL := hideIt hl
  have hgw := hl.1
  clear hl
  go_enter Tryd.func111, Tryd.ntmps111
  go_wp2_with fail
  have HB0 : Hid (Below w.heap.size w (w.alloc (.cells #[.int .i64 r, .int .i64 m] 69))) := (Below.refl _ _).alloc (Nat.le_refl _) _
  refine (things_any l g cap x _ (HL.out.below HB0.out hgw) hn hcap (errB HB0.out h0 he) (posB HB0.out h0)).mono ?_
  rintro e w1 ⟨(⟨ht, M, hMM, rfl, hT⟩ | ⟨ht, rfl⟩), hb1⟩
  all_goals
    have HT := hideIt (ht.symm.trans (th_same l))
    have HB1 : Hid (Below w.heap.size w w1) := HB0.out.trans (hb1.mono (by simp))
    have herr1 : w1.cell? ⟨0, 0, none⟩ = some (.iface 200 (.pointer (some x))) := errB HB1.out h0 he
    have k0 : w1.cell? ⟨w.heap.size, 0, none⟩ = some (.int .i64 r) := by rw [(bcell hb1).1 _ _ (by simp)]; simp [go_sem]
    have k1 : w1.cell? ⟨w.heap.size, 1, none⟩ = some (.int .i64 m) := by rw [(bcell hb1).1 _ _ (by simp)]; simp [go_sem]
    have hz1 : w.heap.size < w1.heap.size := by have := hb1.size; simp at this; omega
    clear ht hb1
  · have HTT := hideIt hT
    have hM1 : M < w1.heap.size := hT.1
    obtain ⟨hok, hord⟩ := opsB_parts HT.out.symm
    have HOK := hideIt hok
    have HPL : Hid (placeI (cnt l 1) (cnt l 2) (cnt l 3) r m = findB l r m) := by
      show placeI _ _ _ _ _ = _
      rw [← find_place hok hord]; unfold findB; rw [← HT.out]; rfl
    have hlen := len_le hok hord
    have b1 : Hid ((0 ≤ cnt l 1 ∧ cnt l 1 ≤ 1048576) ∧ (0 ≤ cnt l 2 ∧ cnt l 2 ≤ 1048576)) := by
      have h1 := cnt_nonneg l 1
      have h2 := cnt_nonneg l 2
      have h3 := cnt_nonneg l 3
      have h4 := cnt_sum l
      exact ⟨⟨by omega, by omega⟩, ⟨by omega, by omega⟩⟩
    clear hT hok hord hMM
    go_wp2_with (first | (go_at_call 98; refine (is_nil x _).mono ?_; rintro e w'' ⟨rfl, rfl⟩))
    go_region_held3 (fun w' => w'.cell? ⟨w.heap.size, 0, none⟩ = some (.int .i64 r) ∧ w'.cell? ⟨w.heap.size, 1, none⟩ = some (.int .i64 m) ∧ w.heap.size < w'.heap.size ∧ Below w.heap.size w w')
      (first | exact keepF hb2 (by with_reducible assumption) | exact ⟨k0, k1, hz1, HB1.out.drew⟩)
      (first
        | (go_at_call 104; refine (count_any l M l.length _ (HTT.out.below ((Below.refl _ _).drew) hM1) hn (Nat.le_refl _) HOK.out).mono ?_; rintro e w2 ⟨rfl, hse, hfz2, hb2⟩; have HSE := hideIt hse; clear hse hfz2)
        | (go_at_call 129; refine (place_any _ _ _ _ _ _ _ HSE.out b1.out.1 b1.out.2).mono ?_; rintro e w3 ⟨rfl, hb2⟩; rw [HPL.out]))
    rename_i hS
    have HB3 := hideIt hS.2.2.2
    clear hS hb2
    go_wp2
    go_ret
    exact ⟨rfl, HB3.out⟩
  · go_wp2_with (first | (go_at_call 98; refine (is_same x _).mono ?_; rintro e w'' ⟨rfl, rfl⟩))
    go_ret
    exact ⟨ret_int (by unfold findB; rw [← HT.out]; rfl), HB1.out⟩
end Go.Proofs.YtficnhlkefpfnaaDoor

namespace Go.Proofs.YtficnhlkefpfnaaDoor
open Go.RowKit
set_option linter.unusedSimpArgs false
set_option linter.unusedVariables false

theorem opsB_all {l : List Op7} (h : opsB l = true) : l.all okO = true ∧ ordB l = true ∧ l.all (refsB l) = true ∧ l.all (deepF l (l.length + 1)) = true := by
  unfold opsB at h
  simp only [Bool.and_eq_true] at h
  exact ⟨h.1, h.2.1, h.2.2.1, h.2.2.2⟩
theorem next_mem {l : List Op7} {o p : Op7} (h : nextO l o = some p) : p ∈ l ∧ p.a = o.c ∧ p.b = o.d := by
  rw [nextO_find'] at h
  have h1 := List.mem_of_find?_eq_some h
  have h2 := List.find?_some h
  simp [hasId] at h2
  exact ⟨h1, h2.1, h2.2⟩
theorem deep_up {l : List Op7} (hr : l.all (refsB l) = true) : ∀ (n : Nat) (o : Op7), o ∈ l → deepF l n o = true → ∃ d, Up l d (o.c, o.d) := by
  intro n
  induction n with
  | zero => intro o _ h; simp [deepF] at h
  | succ n ih =>
    intro o ho h
    unfold deepF at h
    cases hb : noB o.c o.d
    · rw [hb] at h
      cases hx : nextO l o with
      | none => rw [hx] at h; simp at h
      | some p =>
        rw [hx] at h
        obtain ⟨hm, ha, hb'⟩ := next_mem hx
        have hk : p.k = 1 := by
          have := List.all_eq_true.1 hr o ho
          unfold refsB at this
          rw [hb, hx] at this
          simpa using this
        obtain ⟨d, hd⟩ := ih p hm (by simpa using h)
        have := Up.step hm hk hd
        rw [ha, hb'] at this
        exact ⟨d + 1, this⟩
    · unfold noB at hb
      have := of_decide_eq_true hb
      rw [this.1, this.2]
      exact ⟨0, Up.zero⟩
theorem put_up {l : List Op7} (h : opsB l = true) {o : Op7} (ho : o ∈ l) : ∃ d, Up l d (o.c, o.d) := by
  obtain ⟨_, _, h3, h4⟩ := opsB_all h
  exact deep_up h3 _ o ho (List.all_eq_true.1 h4 o ho)
theorem kid_of {l : List Op7} {o : Op7} (ho : o ∈ l) (hk : o.k = 1) : o ∈ kidsL l (o.c, o.d, o.s) := by
  unfold kidsL
  rw [List.mem_filter]
  exact ⟨ho, by simp [isKid, hk]⟩
theorem side_kid {l : List Op7} {n : Nat} {x : Int × Int × Int} {o : Op7} (ho : o ∈ kidsL l x) : o ∈ sideO l (n + 1) x ∧ ∀ s, s = 0 ∨ s = 1 → ∀ y ∈ sideO l n (o.a, o.b, s), y ∈ sideO l (n + 1) x := by
  rw [show sideO l (n + 1) x = (kidsL l x).flatMap fun o => sideO l n (o.a, o.b, 0) ++ o :: sideO l n (o.a, o.b, 1) from rfl]
  refine ⟨List.mem_flatMap.2 ⟨o, ho, by simp⟩, fun s hs y hy => List.mem_flatMap.2 ⟨o, ho, ?_⟩⟩
  rcases hs with rfl | rfl
  · exact List.mem_append.2 (.inl hy)
  · exact List.mem_append.2 (.inr (List.mem_cons_of_mem _ hy))
theorem put_side {l : List Op7} (h : opsB l = true) {o : Op7} (ho : o ∈ l) (hk : o.k = 1) : (o.c = 0 ∧ o.d = 0 ∧ o.s = 1) ∨ (1 ≤ o.c ∧ (o.s = 0 ∨ o.s = 1)) := by
  have := List.all_eq_true.1 (opsB_all h).1 o ho
  unfold okO at this
  rw [opB_true] at this
  omega
theorem up_all {l : List Op7} (h : opsB l = true) : ∀ (d : Nat) (o : Op7), o ∈ l → o.k = 1 → Up l d (o.c, o.d) → o ∈ allO l ∧ ∀ s, s = 0 ∨ s = 1 → ∀ y ∈ sideO l (l.length + 2 - (d + 1)) (o.a, o.b, s), y ∈ allO l := by
  intro d
  induction d with
  | zero =>
    intro o ho hk hu
    have e : o.c = 0 ∧ o.d = 0 := by
      rcases up_inv hu with ⟨_, hx⟩ | ⟨e, p, he, _⟩
      · exact ⟨congrArg Prod.fst hx, congrArg Prod.snd hx⟩
      · omega
    have hs : o.s = 1 := by
      rcases put_side h ho hk with ⟨_, _, h⟩ | ⟨h, _⟩
      · exact h
      · omega
    have hkid := kid_of ho hk
    rw [e.1, e.2, hs] at hkid
    exact side_kid (n := l.length + 1) hkid
  | succ d ih =>
    intro o ho hk hu
    have hle := up_le h (Up.step ho hk hu)
    rcases up_inv hu with ⟨h0, _⟩ | ⟨e, p, he, hm, hpk, hu', hx⟩
    · omega
    · obtain rfl : e = d := by omega
      have ha : o.c = p.a := congrArg Prod.fst hx
      have hb : o.d = p.b := congrArg Prod.snd hx
      have hpp := op_pos (opsB_all h).1 hm
      have hs : o.s = 0 ∨ o.s = 1 := by
        rcases put_side h ho hk with ⟨_, _, h⟩ | ⟨_, h⟩
        · exact .inr h
        · exact h
      obtain ⟨_, hsub⟩ := ih p hm hpk hu'
      have hkid := kid_of ho hk
      rw [ha, hb] at hkid
      have e1 : l.length + 2 - (e + 1) = (l.length + 2 - (e + 1 + 1)) + 1 := by omega
      rw [e1] at hsub
      obtain ⟨h1, h2⟩ := side_kid (n := l.length + 2 - (e + 1 + 1)) hkid
      exact ⟨hsub o.s hs o h1, fun s hs' y hy => hsub o.s hs y (h2 s hs' y hy)⟩
/-- What was put stands. -/
theorem all_mem {l : List Op7} (h : opsB l = true) {o : Op7} (ho : o ∈ l) (hk : o.k = 1) : o ∈ allO l := by
  obtain ⟨d, hd⟩ := put_up h ho
  exact (up_all h d o ho hk hd).1
theorem side_put {l : List Op7} (n : Nat) {x : Int × Int × Int} {p : Op7} (h : p ∈ sideO l n x) : p ∈ l ∧ p.k = 1 := by
  obtain ⟨j, hj⟩ := side_desc n h
  clear h
  induction j generalizing x with
  | zero =>
    simp only [Desc] at hj
    obtain ⟨h1, h2, _⟩ := mem_kids hj
    exact ⟨h1, h2⟩
  | succ j ih =>
    simp only [Desc] at hj
    obtain ⟨o, s, _, h⟩ := hj
    exact ih h
/-- Those that stand are those that were put. -/
theorem all_perm {l : List Op7} (h : opsB l = true) : (allO l).Perm (l.filter fun o => o.k == 1) := by
  have hl : l.Nodup := nodup_of_once (once_of (opsB_all h).1 (opsB_all h).2.1)
  refine (List.perm_ext_iff_of_nodup (nodup_all h) (hl.filter _)).2 fun o => ⟨fun ho => ?_, fun ho => ?_⟩
  · obtain ⟨h1, h2⟩ := side_put _ ho
    exact List.mem_filter.2 ⟨h1, by simp [h2]⟩
  · obtain ⟨h1, h2⟩ := List.mem_filter.1 ho
    exact all_mem h h1 (by simpa using h2)
end Go.Proofs.YtficnhlkefpfnaaDoor

namespace Go.Proofs.YtficnhlkefpfnaaDoor
open Go.RowKit
set_option linter.unusedSimpArgs false
set_option linter.unusedVariables false

theorem flatMap_sub {α β : Type} {f g : α → List β} : ∀ {A B : List α}, A.Sublist B → (∀ a, (f a).Sublist (g a)) → (A.flatMap f).Sublist (B.flatMap g) := by
  intro A B h hf
  induction h with
  | slnil => exact List.Sublist.refl _
  | cons a _ ih => rw [List.flatMap_cons]; exact ih.trans (List.sublist_append_right _ _)
  | cons_cons a _ ih => rw [List.flatMap_cons, List.flatMap_cons]; exact (hf a).append ih
theorem side_sub {l l' : List Op7} (h : l.Sublist l') : ∀ (n n' : Nat), n ≤ n' → ∀ x, (sideO l n x).Sublist (sideO l' n' x) := by
  intro n
  induction n with
  | zero => intro n' _ x; exact List.nil_sublist _
  | succ n ih =>
    intro n' hn x
    obtain ⟨m, rfl⟩ : ∃ m, n' = m + 1 := ⟨n' - 1, by omega⟩
    show ((kidsL l x).flatMap _).Sublist ((kidsL l' x).flatMap _)
    exact flatMap_sub (h.filter _) fun o => (ih m (by omega) _).append ((ih m (by omega) _).cons_cons o)
theorem all_sub {l l' : List Op7} (h : l.Sublist l') : (allO l).Sublist (allO l') := side_sub h _ _ (by have := h.length_le; omega) _
/-- In a row that stands once, what stands in a part of it in order stands so in it. -/
theorem sub_at {α : Type} {A B : List α} (h : A.Sublist B) (hn : B.Nodup) {i j a b : Nat} {p q : α} (hi : A[i]? = some p) (hj : A[j]? = some q) (ha : B[a]? = some p) (hb : B[b]? = some q) (hij : i < j) : a < b := by
  obtain ⟨is, rfl, hp⟩ := List.sublist_eq_map_getElem h
  rw [List.getElem?_map] at hi hj
  obtain ⟨u, hu, rfl⟩ := Option.map_eq_some_iff.1 hi
  obtain ⟨v, hv, rfl⟩ := Option.map_eq_some_iff.1 hj
  have hu' : a = u := (List.getElem?_inj (List.getElem?_eq_some_iff.1 ha).1 hn).1 (ha.trans (by simp))
  have hv' : b = v := (List.getElem?_inj (List.getElem?_eq_some_iff.1 hb).1 hn).1 (hb.trans (by simp))
  obtain ⟨h1, h1'⟩ := List.getElem?_eq_some_iff.1 hu
  obtain ⟨h2, h2'⟩ := List.getElem?_eq_some_iff.1 hv
  have := List.pairwise_iff_getElem.1 hp i j h1 h2 hij
  rw [h1', h2'] at this
  omega
theorem gone_sub {l l' : List Op7} (h : l.Sublist l') {x : Int × Int} (hg : goneB l x = true) : goneB l' x = true := by
  unfold goneB at *
  obtain ⟨o, ho, hb⟩ := List.any_eq_true.1 hg
  exact List.any_eq_true.2 ⟨o, h.mem ho, hb⟩
/-- They stand by their ids. -/
theorem ops_sorted {l : List Op7} (h : opsB l = true) : l.Pairwise fun p q => lessB p q = true := by
  obtain ⟨hok, hord⟩ := opsParts h
  have hnext : ∀ i (h1 : i + 1 < l.length), lessB l[i] l[i + 1] = true := fun i h1 => by
    have := ord_iff.1 hord (i + 1) h1
    rw [step_succ h1] at this
    unfold stepB at this
    have := of_decide_eq_true this
    unfold lessB
    exact decide_eq_true (by omega)
  have htr : ∀ p q r : Op7, lessB p q = true → lessB q r = true → lessB p r = true := fun p q r h1 h2 => by
    unfold lessB at *
    have := of_decide_eq_true h1
    have := of_decide_eq_true h2
    exact decide_eq_true (by omega)
  refine List.pairwise_iff_getElem.2 fun i j hi hj hij => ?_
  obtain ⟨e, rfl⟩ : ∃ e, j = i + 1 + e := ⟨j - i - 1, by omega⟩
  clear hij
  induction e with
  | zero => exact hnext i hj
  | succ e ih => exact htr _ _ _ (ih (by omega)) (hnext (i + 1 + e) (by omega))
theorem withL_split {l : List Op7} (hs : l.Pairwise fun p q => lessB p q = true) {o : Op7} (hno : ∀ p ∈ l, ¬ (p.a = o.a ∧ p.b = o.b)) : ∃ A B, l = A ++ B ∧ withL l o = A ++ o :: B := by
  induction l with
  | nil => exact ⟨[], [], rfl, rfl⟩
  | cons p r ih =>
    obtain ⟨h1, h2⟩ := List.pairwise_cons.1 hs
    obtain ⟨A, B, hr, hw⟩ := ih h2 (fun q hq => hno q (by simp [hq]))
    have hp := hno p (by simp)
    by_cases hl : lessB p o = true
    · refine ⟨p :: A, B, by rw [hr]; rfl, ?_⟩
      have hno' : lessB o p = false := by
        unfold lessB at *
        have := of_decide_eq_true hl
        exact decide_eq_false (by omega)
      have e : withL (p :: r) o = p :: withL r o := by
        unfold withL
        rw [List.filter_cons_of_pos (by simp [hl]), List.filter_cons_of_neg (by simp [hno'])]
        simp
      rw [e, hw]
      rfl
    · have hl' : lessB o p = true := by
        unfold lessB at *
        have := of_decide_eq_false (Bool.eq_false_iff.2 hl)
        exact decide_eq_true (by omega)
      have hall : ∀ q ∈ r, lessB o q = true ∧ lessB q o = false := fun q hq => by
        have := h1 q hq
        unfold lessB at *
        have h3 := of_decide_eq_true this
        have h4 := of_decide_eq_true hl'
        exact ⟨decide_eq_true (by omega), decide_eq_false (by omega)⟩
      refine ⟨[], p :: r, rfl, ?_⟩
      unfold withL
      rw [List.filter_cons_of_neg (by simpa using hl), List.filter_cons_of_pos (by simp [hl']), List.filter_eq_nil_iff.2 (fun q hq => by simp [(hall q hq).2]), List.filter_eq_self.2 (fun q hq => (hall q hq).1)]
      rfl
theorem withL_sub {l : List Op7} (h : opsB l = true) {o : Op7} (hno : ∀ p ∈ l, ¬ (p.a = o.a ∧ p.b = o.b)) : l.Sublist (withL l o) := by
  obtain ⟨A, B, h1, h2⟩ := withL_split (ops_sorted h) hno
  rw [h2]
  conv => lhs; rw [h1]
  exact (List.Sublist.refl A).append (List.sublist_cons_self o B)
end Go.Proofs.YtficnhlkefpfnaaDoor

namespace Go.Proofs.YtficnhlkefpfnaaDoor
open Go.RowKit
set_option linter.unusedSimpArgs false
set_option linter.unusedVariables false

/-- Each has the one ahead. -/
def Prev (l : List Op7) : Prop := ∀ p ∈ l, 1 < p.b → ∃ q ∈ l, q.a = p.a ∧ q.b = p.b - 1
theorem ord_prev {l : List Op7} (hok : l.all okO = true) (h : ordB l = true) : Prev l := by
  intro p hp hb
  obtain ⟨i, hi, rfl⟩ := List.getElem_of_mem hp
  have hs := ord_iff.1 h i hi
  have hid := okO_id (all_iff.1 hok i hi)
  rcases i with _ | i
  · rw [step_zero hi] at hs
    have := of_decide_eq_true hs
    omega
  · rw [step_succ hi] at hs
    have := of_decide_eq_true hs
    exact ⟨l[i], List.getElem_mem _, by omega, by omega⟩
theorem sorted_ord {l : List Op7} (hok : l.all okO = true) (hs : l.Pairwise fun p q => lessB p q = true) (hp : Prev l) : ordB l = true := by
  refine ord_iff.2 fun i hi => ?_
  have hid := okO_id (all_iff.1 hok i hi)
  have less : ∀ {j k : Nat} (hj : j < l.length) (hk : k < l.length), j < k → lessB l[j] l[k] = true := fun hj hk h => List.pairwise_iff_getElem.1 hs _ _ hj hk h
  have before : 1 < l[i].b → ∃ j, ∃ hj : j < l.length, j < i ∧ l[j].a = l[i].a ∧ l[j].b = l[i].b - 1 := fun hb => by
    obtain ⟨q, hq, ha, hb'⟩ := hp _ (List.getElem_mem hi) hb
    obtain ⟨j, hj, rfl⟩ := List.getElem_of_mem hq
    refine ⟨j, hj, ?_, ha, hb'⟩
    rcases Nat.lt_trichotomy j i with h | h | h
    · exact h
    · subst h; omega
    · have := less hi hj h
      unfold lessB at this
      have := of_decide_eq_true this
      omega
  rcases i with _ | i
  · rw [step_zero hi]
    by_cases hb : 1 < l[0].b
    · obtain ⟨j, _, h, _⟩ := before hb
      omega
    · exact stepB_true (by omega)
  · rw [step_succ hi]
    have h1 := less (by omega) hi (Nat.lt_succ_self i)
    unfold lessB at h1
    have h1 := of_decide_eq_true h1
    have hid0 := okO_id (all_iff.1 hok i (by omega))
    by_cases hb : 1 < l[i + 1].b
    · obtain ⟨j, hj, hji, ha, hb'⟩ := before hb
      have h2 : j = i ∨ lessB l[j] l[i] = true := by
        rcases Nat.lt_or_ge j i with h | h
        · exact .inr (less hj (by omega) h)
        · exact .inl (by omega)
      rcases h2 with rfl | h2
      · exact stepB_true (by omega)
      · unfold lessB at h2
        have h2 := of_decide_eq_true h2
        exact stepB_true (by omega)
    · exact stepB_true (by omega)
theorem Up.mono {l l' : List Op7} (h : ∀ o ∈ l, o ∈ l') {d : Nat} {x : Int × Int} (hu : Up l d x) : Up l' d x := by
  induction hu with
  | zero => exact .zero
  | step hm hk _ ih => exact .step (h _ hm) hk ih
/-- Those by which one comes from nothing. -/
theorem up_chain {l : List Op7} (hok : l.all okO = true) (h1 : OnceIds l) {d : Nat} {x : Int × Int} (hu : Up l d x) : ∃ c : List Op7, c.length = d ∧ c.Nodup ∧ ∀ o ∈ c, o ∈ l ∧ ∃ e, e ≤ d ∧ Up l e (o.a, o.b) := by
  induction hu with
  | zero => exact ⟨[], rfl, List.nodup_nil, fun o h => by cases h⟩
  | step hm hk hu ih =>
    rename_i d o
    obtain ⟨c, h2, h3, h4⟩ := ih
    refine ⟨o :: c, by simp [h2], List.nodup_cons.2 ⟨fun hc => ?_, h3⟩, fun p hp => ?_⟩
    · obtain ⟨_, e, he, hue⟩ := h4 o hc
      have := up_once hok h1 hue (Up.step hm hk hu)
      omega
    · rcases List.mem_cons.1 hp with rfl | hp
      · exact ⟨hm, d + 1, Nat.le_refl _, .step hm hk hu⟩
      · obtain ⟨h5, e, he, hue⟩ := h4 p hp
        exact ⟨h5, e, by omega, hue⟩
theorem up_len {l : List Op7} (hok : l.all okO = true) (h1 : OnceIds l) {d : Nat} {x : Int × Int} (hu : Up l d x) : d ≤ l.length := by
  obtain ⟨c, h2, h3, h4⟩ := up_chain hok h1 hu
  rw [← h2]
  exact nodup_le _ _ h3 fun o ho => (h4 o ho).1
theorem deep_eq (l : List Op7) (n : Nat) (o : Op7) : deepF l (n + 1) o = if noB o.c o.d = true then true else match nextO l o with | some p => deepF l n p | none => false := rfl
theorem deep_more {l : List Op7} : ∀ (n : Nat) {m : Nat} {o : Op7}, deepF l n o = true → n ≤ m → deepF l m o = true := by
  intro n
  induction n with
  | zero => intro m o h; simp [deepF] at h
  | succ n ih =>
    intro m o h hm
    obtain ⟨k, rfl⟩ : ∃ k, m = k + 1 := ⟨m - 1, by omega⟩
    rw [deep_eq] at h ⊢
    by_cases hno : noB o.c o.d = true
    · rw [if_pos hno]
    · rw [if_neg hno] at h ⊢
      cases hx : nextO l o with
      | none => rw [hx] at h; cases h
      | some p => rw [hx] at h; exact ih h (by omega)
theorem up_deepF {l : List Op7} (hok : l.all okO = true) (h1 : OnceIds l) {d : Nat} {x : Int × Int} (hu : Up l d x) : ∀ o : Op7, x = (o.c, o.d) → deepF l (d + 1) o = true := by
  induction hu with
  | zero =>
    intro o h
    have e1 : o.c = 0 := (congrArg Prod.fst h).symm
    have e2 : o.d = 0 := (congrArg Prod.snd h).symm
    unfold deepF
    rw [if_pos (by unfold noB; exact decide_eq_true ⟨e1, e2⟩)]
  | step hm hk hu ih =>
    rename_i d p
    intro o h
    have e1 : o.c = p.a := (congrArg Prod.fst h).symm
    have e2 : o.d = p.b := (congrArg Prod.snd h).symm
    have hp := op_pos hok hm
    unfold deepF
    rw [if_neg (by unfold noB; simp; omega), nextO_find', e1, e2, find_self h1 hm]
    exact ih p rfl
theorem sorted_once {l : List Op7} (hs : l.Pairwise fun p q => lessB p q = true) : OnceIds l := by
  intro i j o p hi hj ha hb
  obtain ⟨h1, rfl⟩ := List.getElem?_eq_some_iff.1 hi
  obtain ⟨h2, rfl⟩ := List.getElem?_eq_some_iff.1 hj
  rcases Nat.lt_trichotomy i j with h | h | h
  · have := List.pairwise_iff_getElem.1 hs i j h1 h2 h
    unfold lessB at this
    have := of_decide_eq_true this
    omega
  · exact h
  · have := List.pairwise_iff_getElem.1 hs j i h2 h1 h
    unfold lessB at this
    have := of_decide_eq_true this
    omega
/-- In form, in order, each with the one ahead, and each comes to nothing. -/
structure OkL (l : List Op7) : Prop where
  form : ∀ o ∈ l, okO o = true
  sorted : l.Pairwise fun p q => lessB p q = true
  prev : Prev l
  deep : ∀ o ∈ l, ∃ d, Up l d (o.c, o.d)
theorem OkL.of {l : List Op7} (h : opsB l = true) : OkL l :=
  ⟨List.all_eq_true.1 (opsB_all h).1, ops_sorted h, ord_prev (opsB_all h).1 (opsB_all h).2.1, fun o ho => put_up h ho⟩
theorem OkL.ops {l : List Op7} (h : OkL l) : opsB l = true := by
  have hok : l.all okO = true := List.all_eq_true.2 h.form
  have h1 := sorted_once h.sorted
  unfold opsB
  rw [hok, sorted_ord hok h.sorted h.prev]
  have hr : l.all (refsB l) = true := List.all_eq_true.2 fun o ho => by
    obtain ⟨d, hd⟩ := h.deep o ho
    unfold refsB
    rcases up_inv hd with ⟨_, hx⟩ | ⟨e, p, _, hm, hk, _, hx⟩
    · have e1 : o.c = 0 := congrArg Prod.fst hx
      have e2 : o.d = 0 := congrArg Prod.snd hx
      have : noB o.c o.d = true := by unfold noB; exact decide_eq_true ⟨e1, e2⟩
      rw [this]; rfl
    · have e1 : o.c = p.a := congrArg Prod.fst hx
      have e2 : o.d = p.b := congrArg Prod.snd hx
      rw [nextO_find', e1, e2, find_self h1 hm]
      simp [hk]
  have hd : l.all (deepF l (l.length + 1)) = true := List.all_eq_true.2 fun o ho => by
    obtain ⟨d, hd⟩ := h.deep o ho
    exact deep_more (d + 1) (up_deepF hok h1 hd o rfl) (by have := up_len hok h1 hd; omega)
  rw [hr, hd]; rfl
theorem OkL.once {l : List Op7} (h : OkL l) : OnceIds l := sorted_once h.sorted
theorem OkL.ok {l : List Op7} (h : OkL l) : l.all okO = true := List.all_eq_true.2 h.form
/-- What can be done behind what was done. -/
structure CanL (l : List Op7) (o : Op7) : Prop where
  form : okO o = true
  new : ∀ p ∈ l, ¬ (p.a = o.a ∧ p.b = o.b)
  next : 1 < o.b → ∃ q ∈ l, q.a = o.a ∧ q.b = o.b - 1
  ref : ∃ d, Up l d (o.c, o.d)
theorem withL_mem {l : List Op7} (hs : l.Pairwise fun p q => lessB p q = true) {o : Op7} (hno : ∀ p ∈ l, ¬ (p.a = o.a ∧ p.b = o.b)) (x : Op7) : x ∈ withL l o ↔ x = o ∨ x ∈ l := by
  obtain ⟨A, B, h1, h2⟩ := withL_split hs hno
  rw [h2, h1]
  simp only [List.mem_append, List.mem_cons]
  constructor
  · rintro (h | h | h)
    · exact .inr (.inl h)
    · exact .inl h
    · exact .inr (.inr h)
  · rintro (h | h | h)
    · exact .inr (.inl h)
    · exact .inl h
    · exact .inr (.inr h)
theorem withL_sorted {l : List Op7} (hs : l.Pairwise fun p q => lessB p q = true) (o : Op7) : (withL l o).Pairwise fun p q => lessB p q = true := by
  have htr : ∀ p q r : Op7, lessB p q = true → lessB q r = true → lessB p r = true := fun p q r h1 h2 => by
    unfold lessB at *
    have := of_decide_eq_true h1
    have := of_decide_eq_true h2
    exact decide_eq_true (by omega)
  unfold withL
  refine List.pairwise_append.2 ⟨List.pairwise_append.2 ⟨hs.filter _, List.pairwise_singleton _ _, fun p hp q hq => ?_⟩, hs.filter _, fun p hp q hq => ?_⟩
  · obtain rfl := List.mem_singleton.1 hq
    simpa using (List.mem_filter.1 hp).2
  · have hq' : lessB o q = true := by simpa using (List.mem_filter.1 hq).2
    rcases List.mem_append.1 hp with hp | hp
    · exact htr _ _ _ (by simpa using (List.mem_filter.1 hp).2) hq'
    · obtain rfl := List.mem_singleton.1 hp
      exact hq'
theorem CanL.ok {l : List Op7} {o : Op7} (h : OkL l) (hc : CanL l o) : OkL (withL l o) := by
  have hm := withL_mem h.sorted hc.new
  have hsub : ∀ x ∈ l, x ∈ withL l o := fun x hx => (hm x).2 (.inr hx)
  refine ⟨fun x hx => ?_, withL_sorted h.sorted o, fun p hp hb => ?_, fun x hx => ?_⟩
  · rcases (hm x).1 hx with rfl | hx
    · exact hc.form
    · exact h.form x hx
  · rcases (hm p).1 hp with rfl | hp
    · obtain ⟨q, hq, e⟩ := hc.next hb
      exact ⟨q, hsub q hq, e⟩
    · obtain ⟨q, hq, e⟩ := h.prev p hp hb
      exact ⟨q, hsub q hq, e⟩
  · rcases (hm x).1 hx with rfl | hx
    · obtain ⟨d, hd⟩ := hc.ref
      exact ⟨d, hd.mono hsub⟩
    · obtain ⟨d, hd⟩ := h.deep x hx
      exact ⟨d, hd.mono hsub⟩
/-- Just that can be done. -/
theorem can_iff {l : List Op7} {o : Op7} (h : opsB l = true) (hno : ∀ p ∈ l, ¬ (p.a = o.a ∧ p.b = o.b)) : opsB (withL l o) = true ↔ CanL l o := by
  have hL := OkL.of h
  refine ⟨fun hw => ?_, fun hc => (hc.ok hL).ops⟩
  have hW := OkL.of hw
  have hm := withL_mem hL.sorted hno
  have ho : o ∈ withL l o := (hm o).2 (.inl rfl)
  refine ⟨hW.form o ho, hno, fun hb => ?_, ?_⟩
  · obtain ⟨q, hq, e1, e2⟩ := hW.prev o ho hb
    rcases (hm q).1 hq with rfl | hq
    · omega
    · exact ⟨q, hq, e1, e2⟩
  · obtain ⟨d, hd⟩ := hW.deep o ho
    refine ⟨d, ?_⟩
    have key : ∀ {e : Nat} {x : Int × Int}, Up (withL l o) e x → e ≤ d → (∀ f, f < e → True) → Up l e x ∨ ∃ f, f ≤ e ∧ Up (withL l o) f (o.a, o.b) := by
      intro e x hu
      induction hu with
      | zero => intro _ _; exact .inl .zero
      | step hm' hk hu ih =>
        rename_i e p
        intro he _
        rcases (hm p).1 hm' with rfl | hp
        · exact .inr ⟨e + 1, Nat.le_refl _, .step hm' hk hu⟩
        · rcases ih (by omega) (fun _ _ => trivial) with h' | ⟨f, hf, hu'⟩
          · exact .inl (.step hp hk h')
          · exact .inr ⟨f, by omega, hu'⟩
    rcases key hd (Nat.le_refl _) (fun _ _ => trivial) with h' | ⟨f, hf, hu⟩
    · exact h'
    · by_cases hk : o.k = 1
      · have := up_once hW.ok hW.once hu (Up.step ho hk hd)
        omega
      · exfalso
        rcases up_inv hu with ⟨_, hx⟩ | ⟨e, p, _, hm', hk', _, hx⟩
        · have := op_pos hW.ok ho
          have := congrArg Prod.fst hx
          simp at this
          omega
        · have : o = p := once_eq hW.once ho hm' (congrArg Prod.fst hx) (congrArg Prod.snd hx)
          subst this
          exact hk hk'
theorem find_new {l : List Op7} {r m : Int} (h : findI l r m < 0) : ∀ p ∈ l, ¬ (p.a = r ∧ p.b = m) := by
  intro p hp ⟨h1, h2⟩
  unfold findI at h
  cases hf : l.findIdx? (hasId r m) with
  | none =>
    have := List.findIdx?_eq_none_iff.1 hf p hp
    simp [hasId, h1, h2] at this
  | some i => rw [hf] at h; simp only at h; omega
end Go.Proofs.YtficnhlkefpfnaaDoor

namespace Go.Proofs.YtficnhlkefpfnaaDoor
open Go.RowKit
set_option linter.unusedSimpArgs false
set_option linter.unusedVariables false

/-- One comes from x to br, bm within n steps. -/
def underN (l : List Op7) : Nat → Int × Int → Int → Int → Bool
  | 0, _, _, _ => false
  | n + 1, x, br, bm => match putAt l x with | none => false | some o => if o.c = br ∧ o.d = bm then true else underN l n (o.c, o.d) br bm
/-- From x one comes to nothing within n steps. -/
def Dp (l : List Op7) (n : Nat) (x : Int × Int) : Prop := ∀ o, putAt l x = some o → deepF l n o = true

theorem findIdx_get {l : List Op7} {p : Op7 → Bool} : (match l.findIdx? p with | some i => l[i]? | none => none) = l.find? p := by
  induction l with
  | nil => rfl
  | cons a r ih =>
    rw [List.findIdx?_cons, List.find?_cons]
    cases h : p a
    · simp only [Bool.false_eq_true, if_false]
      rw [← ih]
      cases r.findIdx? p <;> simp
    · simp
theorem nextO_find (l : List Op7) (o : Op7) : nextO l o = l.find? (hasId o.c o.d) := by
  unfold nextO
  exact findIdx_get
theorem putAt_some {l : List Op7} {x : Int × Int} {o : Op7} (h : putAt l x = some o) : l.find? (hasId x.1 x.2) = some o ∧ o.k = 1 ∧ o ∈ l ∧ o.a = x.1 ∧ o.b = x.2 := by
  unfold putAt at h
  cases hf : l.find? (hasId x.1 x.2) with
  | none => rw [hf] at h; cases h
  | some p =>
    rw [hf] at h
    simp only at h
    split at h
    · rename_i hk
      obtain rfl := Option.some.inj h
      have h1 := List.find?_some hf
      have h2 : p.a = x.1 ∧ p.b = x.2 := by simpa [hasId] using h1
      exact ⟨rfl, hk, List.mem_of_find?_eq_some hf, h2.1, h2.2⟩
    · cases h
theorem opsDeep {l : List Op7} (h : opsB l = true) : l.all (deepF l (l.length + 1)) = true := by
  unfold opsB at h
  simp only [Bool.and_eq_true] at h
  exact h.2.2.2
theorem dp_start {l : List Op7} (h : opsB l = true) (x : Int × Int) : Dp l (l.length + 1) x := fun o ho =>
  List.all_eq_true.1 (opsDeep h) o (putAt_some ho).2.2.1
theorem dp_step {l : List Op7} (h : opsB l = true) {n : Nat} {x : Int × Int} (hd : Dp l n x) {o : Op7} (ho : putAt l x = some o) : ∃ m, n = m + 1 ∧ Dp l m (o.c, o.d) := by
  have h1 := hd o ho
  rcases n with _ | m
  · simp [deepF] at h1
  · refine ⟨m, rfl, fun q hq => ?_⟩
    obtain ⟨hf, _, hm, ha, hb⟩ := putAt_some hq
    have hid := okO_id (List.all_eq_true.1 (opsParts h).1 q hm)
    have hno : noB o.c o.d = false := by unfold noB; exact decide_eq_false (by omega)
    unfold deepF at h1
    rw [hno, nextO_find, hf] at h1
    simpa using h1
theorem under_hit {l : List Op7} {m : Nat} {x : Int × Int} {o : Op7} {br bm : Int} (ho : putAt l x = some o) (h : o.c = br ∧ o.d = bm) : underN l (m + 1) x br bm = true := by
  unfold underN; rw [ho]; simp [h]
theorem under_on {l : List Op7} {m : Nat} {x : Int × Int} {o : Op7} {br bm : Int} (ho : putAt l x = some o) (h : ¬ (o.c = br ∧ o.d = bm)) : underN l (m + 1) x br bm = underN l m (o.c, o.d) br bm := by
  rw [underN]; rw [ho]; simp only; rw [if_neg h]
theorem under_no {l : List Op7} {n : Nat} {x : Int × Int} {br bm : Int} (ho : putAt l x = none) : underN l n x br bm = false := by
  rcases n with _ | m
  · rfl
  · unfold underN; rw [ho]
theorem find_cases (l : List Op7) (x : Int × Int) : (findI l x.1 x.2 = -1 ∧ putAt l x = none) ∨ ∃ (i : Nat) (o : Op7), findI l x.1 x.2 = i ∧ i < l.length ∧ l[i]? = some o ∧ putAt l x = if o.k = 1 then some o else none := by
  have hf := findIdx_get (l := l) (p := hasId x.1 x.2)
  unfold findI putAt
  cases h : l.findIdx? (hasId x.1 x.2) with
  | none =>
    rw [h] at hf
    rw [← hf]
    exact .inl ⟨rfl, rfl⟩
  | some i =>
    rw [h] at hf
    have hi : i < l.length := (List.findIdx?_eq_some_iff_getElem.1 h).1
    rw [← hf]
    refine .inr ⟨i, l[i], rfl, hi, by simp [hi], ?_⟩
    simp [hi]
/-- Who is under whom, if what was done is ok. -/
def undB (l : List Op7) (ar am br bm : Int) : Bool := if opsB l = true then underN l (l.length + 1) (ar, am) br bm else false
end Go.Proofs.YtficnhlkefpfnaaDoor

namespace Go.Proofs.YtficnhlkefpfnaaDoor
open Go.RowKit
set_option linter.unusedSimpArgs false
set_option linter.unusedVariables false

/-- One comes from x to b in j steps, one at least. -/
inductive Path (l : List Op7) : Nat → Int × Int → Int × Int → Prop
  | one {x : Int × Int} {o : Op7} (h : putAt l x = some o) : Path l 1 x (o.c, o.d)
  | step {j : Nat} {x b : Int × Int} {o : Op7} (h : putAt l x = some o) (hp : Path l j (o.c, o.d) b) : Path l (j + 1) x b
theorem Path.pos {l : List Op7} {j : Nat} {x b : Int × Int} (h : Path l j x b) : 1 ≤ j := by
  cases h <;> omega
theorem Path.trans {l : List Op7} {i j : Nat} {a b c : Int × Int} (h : Path l i a b) (h' : Path l j b c) : Path l (i + j) a c := by
  induction h with
  | one h => rw [Nat.add_comm]; exact .step h h'
  | step h _ ih => rw [show ∀ i j : Nat, i + 1 + j = i + j + 1 by omega]; exact .step h (ih h')
theorem Path.up {l : List Op7} (ho : opsB l = true) {j : Nat} {x b : Int × Int} (h : Path l j x b) : ∃ d, Up l d b ∧ Up l (d + j) x := by
  induction h with
  | one h =>
    obtain ⟨_, hk, hm, ha, hb⟩ := putAt_some h
    obtain ⟨d, hd⟩ := put_up ho hm
    have := Up.step hm hk hd
    rw [ha, hb] at this
    exact ⟨d, hd, this⟩
  | step h _ ih =>
    obtain ⟨_, hk, hm, ha, hb⟩ := putAt_some h
    obtain ⟨d, h1, h2⟩ := ih
    have := Up.step hm hk h2
    rw [ha, hb] at this
    exact ⟨d, h1, this⟩
theorem under_path {l : List Op7} : ∀ (n : Nat) {x b : Int × Int}, underN l n x b.1 b.2 = true → ∃ j, Path l j x b := by
  intro n
  induction n with
  | zero => intro x b h; simp [underN] at h
  | succ n ih =>
    intro x b h
    cases hp : putAt l x with
    | none => rw [under_no hp] at h; cases h
    | some o =>
      by_cases he : o.c = b.1 ∧ o.d = b.2
      · have := Path.one (l := l) hp
        rw [he.1, he.2] at this
        exact ⟨1, this⟩
      · rw [under_on hp he] at h
        obtain ⟨j, hj⟩ := ih h
        exact ⟨j + 1, .step hp hj⟩
theorem path_under {l : List Op7} {j : Nat} {x b : Int × Int} (h : Path l j x b) : ∀ n, j ≤ n → underN l n x b.1 b.2 = true := by
  induction h with
  | one h =>
    intro n hn
    obtain ⟨m, rfl⟩ : ∃ m, n = m + 1 := ⟨n - 1, by omega⟩
    exact under_hit h ⟨rfl, rfl⟩
  | step h hp ih =>
    rename_i x b o
    intro n hn
    obtain ⟨m, rfl⟩ : ∃ m, n = m + 1 := ⟨n - 1, by omega⟩
    by_cases he : o.c = b.1 ∧ o.d = b.2
    · exact under_hit h he
    · rw [under_on h he]
      exact ih m (by omega)
theorem und_path {l : List Op7} (ho : opsB l = true) {a b : Int × Int} : undB l a.1 a.2 b.1 b.2 = true ↔ ∃ j, Path l j a b := by
  unfold undB
  rw [if_pos ho]
  constructor
  · exact under_path _
  · rintro ⟨j, hj⟩
    obtain ⟨d, _, h2⟩ := hj.up ho
    exact path_under hj _ (by have := up_le ho h2; omega)
theorem und_ops {l : List Op7} {a b c d : Int} (h : undB l a b c d = true) : opsB l = true := by
  unfold undB at h
  cases ho : opsB l
  · rw [ho] at h; cases h
  · rfl
theorem und_trans {l : List Op7} {a b c : Int × Int} (h : undB l a.1 a.2 b.1 b.2 = true) (h' : undB l b.1 b.2 c.1 c.2 = true) : undB l a.1 a.2 c.1 c.2 = true := by
  have ho := und_ops h
  obtain ⟨i, hi⟩ := (und_path ho).1 h
  obtain ⟨j, hj⟩ := (und_path ho).1 h'
  exact (und_path ho).2 ⟨_, hi.trans hj⟩
theorem und_irr {l : List Op7} (ho : opsB l = true) (a : Int × Int) : undB l a.1 a.2 a.1 a.2 = false := by
  cases h : undB l a.1 a.2 a.1 a.2
  · rfl
  · obtain ⟨j, hj⟩ := (und_path ho).1 h
    obtain ⟨d, h1, h2⟩ := hj.up ho
    have := up_once (opsB_all ho).1 (once_of (opsB_all ho).1 (opsB_all ho).2.1) h1 h2
    have := hj.pos
    omega
theorem und_asym {l : List Op7} {a b : Int × Int} (h : undB l a.1 a.2 b.1 b.2 = true) : undB l b.1 b.2 a.1 a.2 = false := by
  cases h' : undB l b.1 b.2 a.1 a.2
  · rfl
  · have := und_trans h h'
    rw [und_irr (und_ops h)] at this
    cases this
theorem put_here {l : List Op7} (ho : opsB l = true) {o : Op7} (hm : o ∈ l) (hk : o.k = 1) : putAt l (o.a, o.b) = some o := by
  unfold putAt
  rw [find_self (once_of (opsB_all ho).1 (opsB_all ho).2.1) hm]
  simp [hk]
theorem Path.last {l : List Op7} {j : Nat} {x b : Int × Int} (h : Path l j x b) : ∃ o, o ∈ l ∧ o.k = 1 ∧ (o.c, o.d) = b ∧ (x = (o.a, o.b) ∨ ∃ i, Path l i x (o.a, o.b)) := by
  induction h with
  | one h =>
    obtain ⟨_, hk, hm, ha, hb⟩ := putAt_some h
    exact ⟨_, hm, hk, rfl, .inl (by rw [ha, hb])⟩
  | step h hp ih =>
    obtain ⟨p, hm, hk, he, h' | ⟨i, hi⟩⟩ := ih
    · refine ⟨p, hm, hk, he, .inr ⟨1, ?_⟩⟩
      have := Path.one (l := l) h
      rw [h'] at this
      exact this
    · exact ⟨p, hm, hk, he, .inr ⟨i + 1, .step h hi⟩⟩
/-- Those that were put beside one, on either side. -/
def kidsB (l : List Op7) (b : Int × Int) : List Op7 := kidsL l (b.1, b.2, 0) ++ kidsL l (b.1, b.2, 1)
/-- A kid of b, or under it. -/
def byKid (l : List Op7) (a : Int × Int) (o : Op7) : Bool := (o.a == a.1 && o.b == a.2) || undB l a.1 a.2 o.a o.b
theorem und_kids {l : List Op7} (ho : opsB l = true) (a b : Int × Int) : undB l a.1 a.2 b.1 b.2 = (kidsB l b).any (byKid l a) := by
  rw [Bool.eq_iff_iff, und_path ho, List.any_eq_true]
  constructor
  · rintro ⟨j, hj⟩
    obtain ⟨o, hm, hk, he, h⟩ := hj.last
    have hkid := kid_of hm hk
    have hs : o.s = 0 ∨ o.s = 1 := by
      rcases put_side ho hm hk with ⟨_, _, h⟩ | ⟨_, h⟩
      · exact .inr h
      · exact h
    have hc : o.c = b.1 := congrArg Prod.fst he
    have hd : o.d = b.2 := congrArg Prod.snd he
    refine ⟨o, ?_, ?_⟩
    · unfold kidsB
      rw [hc, hd] at hkid
      rcases hs with e | e <;> rw [e] at hkid
      · exact List.mem_append.2 (.inl hkid)
      · exact List.mem_append.2 (.inr hkid)
    · unfold byKid
      rcases h with rfl | ⟨i, hi⟩
      · simp
      · have := (und_path ho (a := a) (b := (o.a, o.b))).2 ⟨i, hi⟩
        simp only [] at this
        rw [this, Bool.or_true]
  · rintro ⟨o, hm, h⟩
    have hko : ∃ s, o ∈ kidsL l (b.1, b.2, s) := by
      unfold kidsB at hm
      rcases List.mem_append.1 hm with h | h
      · exact ⟨0, h⟩
      · exact ⟨1, h⟩
    obtain ⟨s, hks⟩ := hko
    obtain ⟨h1, h2, h3⟩ := mem_kids hks
    have hc : b.1 = o.c := congrArg Prod.fst h3
    have hd : b.2 = o.d := congrArg (fun y => y.2.1) h3
    have hone : Path l 1 (o.a, o.b) b := by
      have := Path.one (l := l) (put_here ho h1 h2)
      rw [← hc, ← hd] at this
      exact this
    unfold byKid at h
    rcases Bool.or_eq_true _ _ |>.mp h with h | h
    · have : o.a = a.1 ∧ o.b = a.2 := by simpa using h
      rw [this.1, this.2] at hone
      exact ⟨1, hone⟩
    · obtain ⟨j, hj⟩ := (und_path ho (a := a) (b := (o.a, o.b))).1 h
      exact ⟨_, hj.trans hone⟩
theorem Path.mem {l : List Op7} {j : Nat} {x b : Int × Int} (h : Path l j x b) : ∃ o ∈ l, o.k = 1 ∧ o.a = x.1 ∧ o.b = x.2 := by
  cases h with
  | one h => obtain ⟨_, hk, hm, ha, hb⟩ := putAt_some h; exact ⟨_, hm, hk, ha, hb⟩
  | step h _ => obtain ⟨_, hk, hm, ha, hb⟩ := putAt_some h; exact ⟨_, hm, hk, ha, hb⟩
theorem und_mem {l : List Op7} {a b c d : Int} (h : undB l a b c d = true) : ∃ o ∈ l, o.k = 1 ∧ o.a = a ∧ o.b = b := by
  obtain ⟨j, hj⟩ := (und_path (und_ops h) (a := (a, b)) (b := (c, d))).1 h
  exact hj.mem
end Go.Proofs.YtficnhlkefpfnaaDoor

namespace Go.Proofs.YtficnhlkefpfnaaDoor
open Go.RowKit
set_option linter.unusedSimpArgs false
set_option linter.unusedVariables false
attribute [local go_sem ↓] Go.wp_at_zero Go.wp_at_succ

/-- A row of leaves, as a slice; where there are some, its cells. -/
theorem lf_cases {w : World} {base : Nat} {v : Value} {L : List Lf} (h : w.ownsRow base 115 4 v L.length (lfCells L)) : ∃ q c, v = .slice q L.length c ∧ (0 < L.length → ∃ g, q = some ⟨g, 0, none⟩ ∧ L.length ≤ c ∧ base ≤ g ∧ g < w.heap.size ∧ ∀ j, j < L.length * 4 → w.cell? ⟨g, j, none⟩ = (lfCells L)[j]?) := by
  rcases h.2 with ⟨e, e0⟩ | ⟨g', c', cur, e, hb, hg, h2, _⟩
  · exact ⟨none, 0, by rw [e, e0], fun h => by omega⟩
  · subst e
    exact ⟨some ⟨g', 0, none⟩, c', rfl, fun _ => ⟨g', rfl, h2, hb, (Array.getElem?_eq_some_iff.1 hg).1, fun j hj => World.ownsRow.cellAt h j hj⟩⟩

/-- Where a sign stands first among leaves; -1, if it does not. -/
def atI (F : List Lf) (r m : Int) : Int := match F.findIdx? (fun y => y.a == r && y.b == m) with | some i => i | none => -1
theorem atI_none {F : List Lf} {r m : Int} (h : ∀ j (hj : j < F.length), ¬ (F[j].a = r ∧ F[j].b = m)) : atI F r m = -1 := by
  unfold atI
  rw [List.findIdx?_eq_none_iff.2 (fun y hy => by
    obtain ⟨j, hj, rfl⟩ := List.getElem_of_mem hy
    have := h j hj
    cases e : (F[j].a == r && F[j].b == m)
    · rfl
    · exact absurd (by simpa using e) this)]
theorem atI_some {F : List Lf} {r m : Int} {k : Nat} (hk : k < F.length) (h : F[k].a = r ∧ F[k].b = m) (hb : ∀ j (hj : j < F.length), j < k → ¬ (F[j].a = r ∧ F[j].b = m)) : atI F r m = k := by
  unfold atI
  rw [List.findIdx?_eq_some_iff_getElem.2 ⟨hk, by simp [h.1, h.2], fun j hj => by
    have := hb j (by omega) hj
    cases e : (F[j].a == r && F[j].b == m)
    · simp
    · exact absurd (by simpa using e) this⟩]
theorem atI_hit {F : List Lf} {r m : Int} {y : Lf} (hy : y ∈ F) (ha : y.a = r) (hb : y.b = m) : ∃ k, ∃ hk : k < F.length, atI F r m = (k : Nat) ∧ F[k].a = r ∧ F[k].b = m := by
  unfold atI
  cases e : F.findIdx? (fun y => y.a == r && y.b == m) with
  | none =>
    have := List.findIdx?_eq_none_iff.1 e y hy
    simp [ha, hb] at this
  | some k =>
    obtain ⟨h1, h2, _⟩ := List.findIdx?_eq_some_iff_getElem.1 e
    exact ⟨k, h1, rfl, by simpa using h2⟩
theorem atI_miss {F : List Lf} {r m : Int} (h : ∀ y ∈ F, ¬ (y.a = r ∧ y.b = m)) : atI F r m = -1 := atI_none fun j hj => h _ (List.getElem_mem hj)

end Go.Proofs.YtficnhlkefpfnaaDoor

namespace Go.Proofs.YtficnhlkefpfnaaDoor
open Go.RowKit
set_option linter.unusedSimpArgs false
set_option linter.unusedVariables false

theorem once_ops {l : List Op7} (h : opsB l = true) : OnceIds l := once_of (opsB_all h).1 (opsB_all h).2.1
theorem lfs_at {l A : List Op7} {k : Nat} (hk : k < (lfs l A).length) : ∃ p ∈ A, (lfs l A)[k] = ⟨p.a, p.b, p.g, goneB l (p.a, p.b)⟩ := by
  unfold lfs at *
  rw [List.length_map] at hk
  exact ⟨A[k], List.getElem_mem hk, by simp⟩
theorem put_leaf {l : List Op7} (h : opsB l = true) {o : Op7} (ho : o ∈ l) (hk : o.k = 1) : ∃ k, ∃ hk : k < (lfs l (allO l)).length, atI (lfs l (allO l)) o.a o.b = (k : Nat) ∧ (lfs l (allO l))[k] = ⟨o.a, o.b, o.g, goneB l (o.a, o.b)⟩ := by
  have hy : (⟨o.a, o.b, o.g, goneB l (o.a, o.b)⟩ : Lf) ∈ lfs l (allO l) := List.mem_map.2 ⟨o, all_mem h ho hk, rfl⟩
  obtain ⟨k, hk', h1, h2, h3⟩ := atI_hit (r := o.a) (m := o.b) hy rfl rfl
  obtain ⟨p, hp, he⟩ := lfs_at hk'
  rw [he] at h2 h3
  have e : p = o := once_eq (once_ops h) (side_put _ hp).1 ho h2 h3
  subst e
  exact ⟨k, hk', h1, he⟩
theorem take_leaf {l : List Op7} (h : opsB l = true) {o : Op7} (ho : o ∈ l) (hk : o.k = 2) : atI (lfs l (allO l)) o.a o.b = -1 := by
  refine atI_miss fun y hy hab => ?_
  obtain ⟨p, hp, rfl⟩ := List.mem_map.1 hy
  obtain ⟨h1, h2⟩ := side_put _ hp
  have e : p = o := once_eq (once_ops h) h1 ho hab.1 hab.2
  subst e
  omega
theorem ref_leaf {l : List Op7} (h : opsB l = true) {o : Op7} (ho : o ∈ l) (hk : o.k = 2) : ∃ k, ∃ hk : k < (lfs l (allO l)).length, atI (lfs l (allO l)) o.c o.d = (k : Nat) ∧ (lfs l (allO l))[k].z = true := by
  have hok := List.all_eq_true.1 (opsB_all h).1 o ho
  unfold okO at hok
  rw [opB_true] at hok
  have hr := List.all_eq_true.1 (opsB_all h).2.2.1 o ho
  unfold refsB at hr
  have hno : noB o.c o.d = false := by unfold noB; exact decide_eq_false (by omega)
  rw [hno] at hr
  cases hx : nextO l o with
  | none => rw [hx] at hr; simp at hr
  | some p =>
    rw [hx] at hr
    have hpk : p.k = 1 := by simpa using hr
    obtain ⟨hm, ha, hb⟩ := next_mem hx
    obtain ⟨k, hk', h1, h2⟩ := put_leaf h hm hpk
    rw [ha, hb] at h1 h2
    refine ⟨k, hk', h1, ?_⟩
    rw [h2]
    obtain ⟨j, hj, rfl⟩ := List.getElem_of_mem ho
    exact gone_yes (x := (l[j].c, l[j].d)) (i := j) (by simp [hj]) hk rfl rfl
/-- How many of the first i take nothing away. -/
def stayTo (L : List Op7) (i : Nat) : Nat := (L.take i).countP fun o => !(o.k == 2)
theorem stayTo_le (L : List Op7) (i : Nat) : stayTo L i ≤ i := Nat.le_trans List.countP_le_length (List.length_take_le _ _)
theorem stayTo_yes {L : List Op7} {i : Nat} (hi : i < L.length) (h : ¬ L[i].k = 2) : stayTo L (i + 1) = stayTo L i + 1 := by
  unfold stayTo
  rw [List.take_succ_eq_append_getElem hi, List.countP_append]
  simp only [List.countP_singleton]
  rw [if_pos (by simp [h])]
theorem stayTo_no {L : List Op7} {i : Nat} (hi : i < L.length) (h : L[i].k = 2) : stayTo L (i + 1) = stayTo L i := by
  unfold stayTo
  rw [List.take_succ_eq_append_getElem hi, List.countP_append]
  simp only [List.countP_singleton]
  rw [if_neg (by simp [h])]
  rfl
theorem op_kind {l : List Op7} (h : opsB l = true) {o : Op7} (ho : o ∈ l) : o.k = 1 ∨ o.k = 2 := by
  have hok := List.all_eq_true.1 (opsB_all h).1 o ho
  unfold okO at hok
  rw [opB_true] at hok
  omega
theorem stayTo_all {l : List Op7} (h : opsB l = true) : stayTo l l.length = (lfs l (allO l)).length := by
  rw [lfs_len, (all_perm h).length_eq, ← List.countP_eq_length_filter]
  unfold stayTo
  rw [List.take_length]
  refine List.countP_congr fun o ho => ?_
  rcases op_kind h ho with e | e <;> simp [e]
end Go.Proofs.YtficnhlkefpfnaaDoor

namespace Go.Proofs.YtficnhlkefpfnaaDoor
open Go.RowKit
set_option linter.unusedSimpArgs false
set_option linter.unusedVariables false

theorem countP_two {α : Type} {p q r : α → Bool} : ∀ (l : List α), (∀ o ∈ l, p o = (q o || r o) ∧ (q o && r o) = false) → l.countP p = l.countP q + l.countP r
  | [], _ => rfl
  | o :: l, h => by
    have ih := countP_two l (fun o ho => h o (List.mem_cons_of_mem _ ho))
    obtain ⟨h1, h2⟩ := h o (by simp)
    rw [List.countP_cons, List.countP_cons, List.countP_cons, ih, h1]
    cases hq : q o <;> cases hr : r o <;> rw [hq, hr] at h2 <;> simp at h2 ⊢ <;> omega
theorem put_s {l : List Op7} (h : opsB l = true) {o : Op7} (ho : o ∈ l) (hk : o.k = 1) : o.s = 0 ∨ o.s = 1 := by
  rcases put_side h ho hk with ⟨_, _, h⟩ | ⟨_, h⟩
  · exact .inr h
  · exact h
/-- Those that were put beside one stand on its left, or on its right. -/
theorem kid_sides {l : List Op7} (h : opsB l = true) (a b : Int) : (l.countP fun q => q.k == 1 && decide ((q.c, q.d) = (a, b))) = (kidsL l (a, b, 0)).length + (kidsL l (a, b, 1)).length := by
  unfold kidsL
  rw [← List.countP_eq_length_filter, ← List.countP_eq_length_filter]
  refine countP_two l fun o ho => ?_
  by_cases hk : o.k = 1
  · have hs := put_s h ho hk
    by_cases hc : o.c = a <;> by_cases hd : o.d = b <;> rcases hs with e | e <;> simp [isKid, hk, hc, hd, e]
  · have hk' : (o.k == 1) = false := by simp [hk]
    simp [isKid, hk']
/-- Nothing, and those of the first i that were put. -/
def midTo (L : List Op7) (i : Nat) : List (Int × Int) := (0, 0) :: ((L.take i).filter fun o => !(o.k == 2)).map fun o => (o.a, o.b)
/-- How many were put beside them. -/
def kidsTo (L : List Op7) (i : Nat) : Nat := L.countP fun q => q.k == 1 && decide ((q.c, q.d) ∈ midTo L i)
theorem kidsTo_zero {l : List Op7} (h : opsB l = true) : kidsTo l 0 = (kidsL l (0, 0, 0)).length + (kidsL l (0, 0, 1)).length := by
  rw [← kid_sides h 0 0]
  unfold kidsTo midTo
  simp
theorem kidsTo_no {L : List Op7} {i : Nat} (hi : i < L.length) (h : L[i].k = 2) : kidsTo L (i + 1) = kidsTo L i := by
  have hm : midTo L (i + 1) = midTo L i := by
    unfold midTo
    rw [List.take_succ_eq_append_getElem hi, List.filter_append, List.filter_cons_of_neg (by simp [h]), List.filter_nil, List.append_nil]
  unfold kidsTo
  rw [hm]
theorem midTo_not {l : List Op7} (h : opsB l = true) {i : Nat} (hi : i < l.length) : (l[i].a, l[i].b) ∉ midTo l i := by
  have hpos := op_pos (opsB_all h).1 (List.getElem_mem hi)
  unfold midTo
  intro hm
  rcases List.mem_cons.1 hm with e | hm
  · have := congrArg Prod.fst e
    simp at this
    omega
  · obtain ⟨o, ho, e⟩ := List.mem_map.1 hm
    obtain ⟨j, hj, rfl⟩ := List.getElem_of_mem (List.mem_filter.1 ho).1
    rw [List.length_take] at hj
    rw [List.getElem_take] at e
    have e1 : l[j].a = l[i].a := congrArg Prod.fst e
    have e2 : l[j].b = l[i].b := congrArg Prod.snd e
    have := once_ops h j i l[j] l[i] (by simp) (by simp) e1 e2
    omega
theorem kidsTo_yes {l : List Op7} (h : opsB l = true) {i : Nat} (hi : i < l.length) (hk : ¬ l[i].k = 2) : kidsTo l (i + 1) = kidsTo l i + (kidsL l (l[i].a, l[i].b, 0)).length + (kidsL l (l[i].a, l[i].b, 1)).length := by
  rw [Nat.add_assoc, ← kid_sides h]
  have hno := midTo_not h hi
  have hm : midTo l (i + 1) = midTo l i ++ [(l[i].a, l[i].b)] := by
    unfold midTo
    rw [List.take_succ_eq_append_getElem hi, List.filter_append, List.map_append]
    simp [hk]
  unfold kidsTo
  refine countP_two l fun o ho => ?_
  rw [hm]
  by_cases hc : (o.c, o.d) = (l[i].a, l[i].b)
  · rw [hc]
    constructor
    · cases hkk : (o.k == 1) <;> simp
    · simp [hno]
  · constructor
    · simp only [List.mem_append, List.mem_singleton, hc, or_false, decide_false, Bool.and_false, Bool.or_false]
    · simp [hc]
theorem kidsTo_all {l : List Op7} (h : opsB l = true) : kidsTo l l.length = (lfs l (allO l)).length := by
  rw [lfs_len, (all_perm h).length_eq, ← List.countP_eq_length_filter]
  unfold kidsTo
  refine List.countP_congr fun o ho => ?_
  have hr := List.all_eq_true.1 (opsB_all h).2.2.1 o ho
  unfold refsB at hr
  have hin : (o.c, o.d) ∈ midTo l l.length := by
    unfold midTo
    rw [List.take_length]
    cases hno : noB o.c o.d
    · rw [hno] at hr
      cases hx : nextO l o with
      | none => rw [hx] at hr; simp at hr
      | some p =>
        rw [hx] at hr
        have hpk : p.k = 1 := by simpa using hr
        obtain ⟨hm, ha, hb⟩ := next_mem hx
        exact List.mem_cons_of_mem _ (List.mem_map.2 ⟨p, List.mem_filter.2 ⟨hm, by simp [hpk]⟩, by rw [ha, hb]⟩)
    · unfold noB at hno
      have := of_decide_eq_true hno
      rw [this.1, this.2]
      simp
  simp [hin]
theorem kidsTo_le (L : List Op7) (i : Nat) : kidsTo L i ≤ L.length := List.countP_le_length
end Go.Proofs.YtficnhlkefpfnaaDoor

namespace Go.Proofs.YtficnhlkefpfnaaDoor
open Go.RowKit
set_option linter.unusedSimpArgs false
set_option linter.unusedVariables false

/-- A sign in the row of all, with all that was put beside it, on both sides. -/
theorem side_both {l : List Op7} : ∀ (n d : Nat) (x : Int × Int × Int) (p : Op7), Up l d (x.1, x.2.1) → d + n = l.length + 2 → p ∈ sideO l n x →
    ∃ pre post n' d', Up l d' (p.a, p.b) ∧ d' + n' = l.length + 2 ∧ sideO l n x = pre ++ (sideO l n' (p.a, p.b, 0) ++ p :: sideO l n' (p.a, p.b, 1)) ++ post := by
  intro n
  induction n with
  | zero => intro d x p _ _ h; cases h
  | succ n ih =>
    intro d x p hu hd hp
    obtain ⟨o, ho, hpo⟩ := List.mem_flatMap.1 hp
    have huo := up_kid ho hu
    obtain ⟨K1, K2, hK⟩ := List.append_of_mem ho
    have hS : sideO l (n + 1) x = sideK l n K1 ++ (sideO l n (o.a, o.b, 0) ++ o :: sideO l n (o.a, o.b, 1)) ++ sideK l n K2 := by
      rw [sideK_all, hK]
      simp [sideK]
    rcases List.mem_append.1 hpo with h | h
    · obtain ⟨pre, post, n', d', h1, h2, h3⟩ := ih (d + 1) (o.a, o.b, 0) p huo (by omega) h
      exact ⟨sideK l n K1 ++ pre, post ++ (o :: sideO l n (o.a, o.b, 1)) ++ sideK l n K2, n', d', h1, h2, by rw [hS, h3]; simp⟩
    · rcases List.mem_cons.1 h with rfl | h
      · exact ⟨sideK l n K1, sideK l n K2, n, d + 1, huo, by omega, by rw [hS]⟩
      · obtain ⟨pre, post, n', d', h1, h2, h3⟩ := ih (d + 1) (o.a, o.b, 1) p huo (by omega) h
        exact ⟨sideK l n K1 ++ sideO l n (o.a, o.b, 0) ++ o :: pre, post ++ sideK l n K2, n', d', h1, h2, by rw [hS, h3]; simp⟩
theorem all_both {l : List Op7} {p : Op7} (hp : p ∈ allO l) : ∃ pre post n d, Up l d (p.a, p.b) ∧ d + n = l.length + 2 ∧ allO l = pre ++ (sideO l n (p.a, p.b, 0) ++ p :: sideO l n (p.a, p.b, 1)) ++ post :=
  side_both (l.length + 2) 0 (0, 0, 1) p Up.zero (by omega) hp
theorem desc_snoc {l : List Op7} : ∀ (i : Nat) {x : Int × Int × Int} {p q : Op7} {s : Int}, Desc l i x p → q ∈ kidsL l (p.a, p.b, s) → Desc l (i + 1) x q := by
  intro i
  induction i with
  | zero => intro x p q s h hq; exact ⟨p, s, h, hq⟩
  | succ i ih => rintro x p q s ⟨o, t, ho, hd⟩ hq; exact ⟨o, t, ho, ih hd hq⟩
/-- What is under b stands beside it, on a side. -/
theorem path_desc {l : List Op7} (ho : opsB l = true) {j : Nat} {q b : Int × Int} (h : Path l j q b) : ∃ i p s, j = i + 1 ∧ p ∈ l ∧ p.k = 1 ∧ q = (p.a, p.b) ∧ Desc l i (b.1, b.2, s) p := by
  induction h with
  | one h =>
    obtain ⟨_, hk, hm, ha, hb⟩ := putAt_some h
    exact ⟨0, _, _, rfl, hm, hk, by rw [ha, hb], kid_of hm hk⟩
  | step h hp ih =>
    rename_i j x b o
    obtain ⟨_, hk, hm, ha, hb⟩ := putAt_some h
    obtain ⟨i, p, s, rfl, _, _, he, hd⟩ := ih
    have hkid := kid_of hm hk
    have h1 : o.c = p.a := congrArg Prod.fst he
    have h2 : o.d = p.b := congrArg Prod.snd he
    rw [h1, h2] at hkid
    exact ⟨i + 1, o, s, rfl, hm, hk, by rw [ha, hb], desc_snoc i hd hkid⟩
theorem desc_path {l : List Op7} (ho : opsB l = true) : ∀ (i : Nat) {x : Int × Int × Int} {p : Op7}, Desc l i x p → Path l (i + 1) (p.a, p.b) (x.1, x.2.1) := by
  intro i
  induction i with
  | zero =>
    intro x p h
    obtain ⟨h1, h2, rfl⟩ := mem_kids h
    exact Path.one (put_here ho h1 h2)
  | succ i ih =>
    rintro x p ⟨o, s, hk, hd⟩
    have h' := ih hd
    obtain ⟨h1, h2, rfl⟩ := mem_kids hk
    exact h'.trans (Path.one (put_here ho h1 h2))
theorem kid_s {l : List Op7} (h : opsB l = true) {x : Int × Int × Int} {o : Op7} (ho : o ∈ kidsL l x) : x.2.2 = 0 ∨ x.2.2 = 1 := by
  obtain ⟨h1, h2, rfl⟩ := mem_kids ho
  exact put_s h h1 h2
theorem desc_s {l : List Op7} (h : opsB l = true) : ∀ (i : Nat) {x : Int × Int × Int} {p : Op7}, Desc l i x p → x.2.2 = 0 ∨ x.2.2 = 1 := by
  intro i
  cases i with
  | zero => intro x p hd; exact kid_s h hd
  | succ i => rintro x p ⟨o, s, hk, _⟩; exact kid_s h hk
theorem desc_in {l : List Op7} (h : opsB l = true) : ∀ (i : Nat) {x : Int × Int × Int} {p : Op7} (n : Nat), Desc l i x p → i < n → p ∈ sideO l n x := by
  intro i
  induction i with
  | zero =>
    intro x p n hd hn
    obtain ⟨m, rfl⟩ : ∃ m, n = m + 1 := ⟨n - 1, by omega⟩
    exact (side_kid (n := m) hd).1
  | succ i ih =>
    rintro x p n ⟨o, s, hk, hd⟩ hn
    obtain ⟨m, rfl⟩ : ∃ m, n = m + 1 := ⟨n - 1, by omega⟩
    exact (side_kid (n := m) hk).2 s (desc_s h i hd) p (ih m hd (by omega))
theorem desc_deep {l : List Op7} (h : opsB l = true) {i d n : Nat} {x : Int × Int × Int} {p : Op7} (hd : Desc l i x p) (hu : Up l d (x.1, x.2.1)) (hn : d + n = l.length + 2) : p ∈ sideO l n x := by
  refine desc_in h i n hd ?_
  have := up_le h (desc_up i hd hu)
  omega
/-- A sign, or one that is under it. -/
def atOrB (l : List Op7) (p q : Op7) : Bool := (q.a == p.a && q.b == p.b) || undB l q.a q.b p.a p.b
theorem atOr_side {l : List Op7} (h : opsB l = true) {p q : Op7} {n d : Nat} (hu : Up l d (p.a, p.b)) (hn : d + n = l.length + 2) (hq : q ∈ l) (hp : p ∈ l) (hb : atOrB l p q = true) : q ∈ sideO l n (p.a, p.b, 0) ++ p :: sideO l n (p.a, p.b, 1) := by
  unfold atOrB at hb
  rcases Bool.or_eq_true _ _ |>.mp hb with hb | hb
  · have : q.a = p.a ∧ q.b = p.b := by simpa using hb
    rw [once_eq (once_ops h) hq hp this.1 this.2]
    simp
  · obtain ⟨j, hj⟩ := (und_path h (a := (q.a, q.b)) (b := (p.a, p.b))).1 hb
    obtain ⟨i, q', s, _, hm', _, he, hd⟩ := path_desc h hj
    obtain rfl := once_eq (once_ops h) hq hm' (congrArg Prod.fst he) (congrArg Prod.snd he)
    have hin := desc_deep h hd hu hn
    rcases desc_s h i hd with e | e <;> simp only at e <;> subst e
    · exact List.mem_append.2 (.inl hin)
    · exact List.mem_append.2 (.inr (List.mem_cons_of_mem _ hin))
theorem side_atOr {l : List Op7} (h : opsB l = true) {p q : Op7} {n : Nat} (hq : q ∈ sideO l n (p.a, p.b, 0) ++ p :: sideO l n (p.a, p.b, 1)) : atOrB l p q = true := by
  have key : ∀ s, q ∈ sideO l n (p.a, p.b, s) → atOrB l p q = true := fun s hs => by
    obtain ⟨i, hd⟩ := side_desc n hs
    have := (und_path h (a := (q.a, q.b)) (b := (p.a, p.b))).2 ⟨_, desc_path h i hd⟩
    unfold atOrB
    simp only at this
    rw [this, Bool.or_true]
  rcases List.mem_append.1 hq with hq | hq
  · exact key 0 hq
  · rcases List.mem_cons.1 hq with rfl | hq
    · simp [atOrB]
    · exact key 1 hq
theorem nodup_mid {α : Type} {A M B : List α} (h : (A ++ M ++ B).Nodup) {i : Nat} {q : α} (hi : (A ++ M ++ B)[i]? = some q) : q ∈ M ↔ A.length ≤ i ∧ i < A.length + M.length := by
  constructor
  · intro hq
    obtain ⟨j, hj⟩ := List.mem_iff_getElem?.1 hq
    have hjl := (List.getElem?_eq_some_iff.1 hj).1
    have h2 : (A ++ M ++ B)[A.length + j]? = some q := by
      rw [List.append_assoc, List.getElem?_append_right (by omega), List.getElem?_append_left (by omega)]
      simpa using hj
    have := (List.getElem?_inj (List.getElem?_eq_some_iff.1 hi).1 h).1 (hi.trans h2.symm)
    omega
  · rintro ⟨h1, h2⟩
    rw [List.append_assoc, List.getElem?_append_right h1, List.getElem?_append_left (by omega)] at hi
    exact List.mem_of_getElem? hi
/-- The signs that are one, or under it, stand together. -/
theorem whole_all {l : List Op7} (h : opsB l = true) {p : Op7} (hp : p ∈ allO l) : ∃ lo hi, lo < hi ∧ hi ≤ (allO l).length ∧ ∀ (i : Nat) (q : Op7), (allO l)[i]? = some q → (atOrB l p q = true ↔ lo ≤ i ∧ i < hi) := by
  obtain ⟨pre, post, n, d, hu, hn, he⟩ := all_both hp
  refine ⟨pre.length, pre.length + (sideO l n (p.a, p.b, 0) ++ p :: sideO l n (p.a, p.b, 1)).length, by simp; omega, by rw [he]; simp, fun i q hq => ?_⟩
  have hnd := nodup_all h
  have hq' := hq
  rw [he] at hq' hnd
  rw [← nodup_mid hnd hq']
  exact ⟨fun hb => atOr_side h hu hn (side_put _ (List.mem_of_getElem? hq)).1 (side_put _ hp).1 hb, fun hm => side_atOr h hm⟩
/-- What was put on a side of a sign stands on that side of it. -/
theorem side_all {l : List Op7} (h : opsB l = true) {o p q : Op7} (ho : o ∈ l) (hk : o.k = 1) (hp : p ∈ l) (hpk : p.k = 1) (hpa : p.a = o.c) (hpb : p.b = o.d) {i k : Nat} (hi : (allO l)[i]? = some q) (hkk : (allO l)[k]? = some p) (hb : atOrB l o q = true) : (k < i) ↔ o.s = 1 := by
  obtain ⟨pre, post, n, d, hu, hn, he⟩ := all_both (all_mem h hp hpk)
  have hq : q ∈ l := (side_put _ (List.mem_of_getElem? hi)).1
  have hdesc : ∃ j, Desc l j (p.a, p.b, o.s) q := by
    have hkid : o ∈ kidsL l (p.a, p.b, o.s) := by rw [hpa, hpb]; exact kid_of ho hk
    unfold atOrB at hb
    rcases Bool.or_eq_true _ _ |>.mp hb with hb | hb
    · have : q.a = o.a ∧ q.b = o.b := by simpa using hb
      rw [once_eq (once_ops h) hq ho this.1 this.2]
      exact ⟨0, hkid⟩
    · obtain ⟨j, hj⟩ := (und_path h (a := (q.a, q.b)) (b := (o.a, o.b))).1 hb
      obtain ⟨i, q', s, _, hm', _, he', hd⟩ := path_desc h hj
      obtain rfl := once_eq (once_ops h) hq hm' (congrArg Prod.fst he') (congrArg Prod.snd he')
      exact ⟨i + 1, o, s, hkid, hd⟩
  obtain ⟨j, hj⟩ := hdesc
  have hin := desc_deep h hj hu hn
  have hnd := nodup_all h
  rw [he] at hi hkk hnd
  have hkp : k = pre.length + (sideO l n (p.a, p.b, 0)).length := by
    have h2 : (pre ++ (sideO l n (p.a, p.b, 0) ++ p :: sideO l n (p.a, p.b, 1)) ++ post)[pre.length + (sideO l n (p.a, p.b, 0)).length]? = some p := by
      rw [List.append_assoc, List.getElem?_append_right (by omega), List.getElem?_append_left (by simp), List.getElem?_append_right (by omega)]
      simp
    exact (List.getElem?_inj (List.getElem?_eq_some_iff.1 hkk).1 hnd).1 (hkk.trans h2.symm)
  rcases desc_s h j hj with e | e <;> simp only at e <;> rw [e] at hin
  · rw [show pre ++ (sideO l n (p.a, p.b, 0) ++ p :: sideO l n (p.a, p.b, 1)) ++ post = pre ++ sideO l n (p.a, p.b, 0) ++ (p :: sideO l n (p.a, p.b, 1) ++ post) by simp] at hi hnd
    have := (nodup_mid hnd hi).1 hin
    rw [e]
    constructor
    · intro; omega
    · intro h; omega
  · rw [show pre ++ (sideO l n (p.a, p.b, 0) ++ p :: sideO l n (p.a, p.b, 1)) ++ post = (pre ++ sideO l n (p.a, p.b, 0) ++ [p]) ++ sideO l n (p.a, p.b, 1) ++ post by simp] at hi hnd
    have := (nodup_mid hnd hi).1 hin
    rw [e]
    simp only [List.length_append, List.length_cons, List.length_nil] at this
    constructor
    · intro; rfl
    · intro; omega
end Go.Proofs.YtficnhlkefpfnaaDoor

namespace Go.Proofs.YtficnhlkefpfnaaDoor
open Go.RowKit
set_option linter.unusedSimpArgs false
set_option linter.unusedVariables false

theorem withL_lenG (l : List Op7) (o : Op7) : (withL l o).length ≤ 2 * l.length + 1 := by
  unfold withL
  have h1 := List.length_filter_le (fun p => lessB p o) l
  have h2 := List.length_filter_le (fun p => lessB o p) l
  simp only [List.length_append, List.length_cons, List.length_nil]
  omega
theorem flatMap_congr_mem {α β : Type} {f g : α → List β} : ∀ {A : List α}, (∀ a ∈ A, f a = g a) → A.flatMap f = A.flatMap g
  | [], _ => rfl
  | a :: r, h => by rw [List.flatMap_cons, List.flatMap_cons, h a (by simp), flatMap_congr_mem (fun b hb => h b (by simp [hb]))]
theorem side_stable {l : List Op7} (h : opsB l = true) : ∀ (n d : Nat) (y : Int × Int × Int), Up l d (y.1, y.2.1) → l.length + 2 ≤ d + n → sideO l (n + 1) y = sideO l n y := by
  intro n
  induction n with
  | zero => intro d y hu hd; have := up_le h hu; omega
  | succ n ih =>
    intro d y hu hd
    show (kidsL l y).flatMap _ = (kidsL l y).flatMap _
    refine flatMap_congr_mem fun o ho => ?_
    have huo := up_kid ho hu
    rw [ih (d + 1) (o.a, o.b, 0) huo (by omega), ih (d + 1) (o.a, o.b, 1) huo (by omega)]
theorem all_side {l : List Op7} (h : opsB l = true) : ∀ m, l.length + 2 ≤ m → sideO l m (0, 0, 1) = allO l := by
  intro m hm
  obtain ⟨e, rfl⟩ : ∃ e, m = l.length + 2 + e := ⟨m - (l.length + 2), by omega⟩
  clear hm
  induction e with
  | zero => rfl
  | succ e ih => rw [← ih]; exact side_stable h (l.length + 2 + e) 0 (0, 0, 1) Up.zero (by omega)
/-- A sign, with what was put at a place beside it. -/
def insT (x : Int × Int × Int) (T : List Op7) (q : Op7) : List Op7 := if q.a = x.1 ∧ q.b = x.2.1 then (if x.2.2 = 1 then q :: T else T ++ [q]) else [q]
theorem graft_side {l L : List Op7} (h : opsB l = true) {x : Int × Int × Int} (hs : x.2.2 = 0 ∨ x.2.2 = 1) (hx : kidsL l x = []) {T : List Op7} {N : Nat} (hT : ∀ n, N ≤ n → sideO L n x = T) (hk : ∀ y d, y ≠ x → Up l d (y.1, y.2.1) → kidsL L y = kidsL l y) :
    ∀ (n d : Nat) (y : Int × Int × Int), Up l d (y.1, y.2.1) → y ≠ x → l.length + 2 + N ≤ d + n → sideO L n y = (sideO l n y).flatMap (insT x T) := by
  intro n
  induction n with
  | zero => intro d y hu _ hd; have := up_le h hu; omega
  | succ n ih =>
    intro d y hu hne hd
    show (kidsL L y).flatMap _ = ((kidsL l y).flatMap _).flatMap _
    rw [hk y d hne hu, List.flatMap_assoc]
    refine flatMap_congr_mem fun o ho => ?_
    have huo := up_kid ho hu
    have hle := up_le h huo
    have he : sideO l n x = [] := by cases n with | zero => rfl | succ n => show (kidsL l x).flatMap _ = []; rw [hx]; rfl
    rw [List.flatMap_append, List.flatMap_cons]
    by_cases hq : o.a = x.1 ∧ o.b = x.2.1
    · obtain ⟨h1, h2⟩ := hq
      rcases hs with h3 | h3
      · have e0 : (o.a, o.b, (0 : Int)) = x := by rw [h1, h2, ← h3]
        have n1 : (o.a, o.b, (1 : Int)) ≠ x := fun e => by have := congrArg (fun z => z.2.2) e; simp at this; omega
        rw [ih (d + 1) (o.a, o.b, 1) huo n1 (by omega), e0, hT n (by omega), he]
        simp [insT, h1, h2, h3]
      · have e1 : (o.a, o.b, (1 : Int)) = x := by rw [h1, h2, ← h3]
        have n0 : (o.a, o.b, (0 : Int)) ≠ x := fun e => by have := congrArg (fun z => z.2.2) e; simp at this; omega
        rw [ih (d + 1) (o.a, o.b, 0) huo n0 (by omega), e1, hT n (by omega), he]
        simp [insT, h1, h2, h3]
    · have ne : ∀ s : Int, (o.a, o.b, s) ≠ x := fun s e => hq ⟨congrArg Prod.fst e, congrArg (fun z => z.2.1) e⟩
      rw [ih (d + 1) (o.a, o.b, 0) huo (ne 0) (by omega), ih (d + 1) (o.a, o.b, 1) huo (ne 1) (by omega)]
      have : insT x T o = [o] := by unfold insT; rw [if_neg hq]
      rw [this]; rfl
theorem graft_all {l L : List Op7} (h : opsB l = true) (hL : opsB L = true) {x : Int × Int × Int} (hs : x.2.2 = 0 ∨ x.2.2 = 1) (hx : kidsL l x = []) {T : List Op7} {N : Nat} (hT : ∀ n, N ≤ n → sideO L n x = T) (hk : ∀ y d, y ≠ x → Up l d (y.1, y.2.1) → kidsL L y = kidsL l y) (h0 : x ≠ (0, 0, 1)) :
    allO L = (allO l).flatMap (insT x T) := by
  rw [← all_side hL (l.length + 2 + N + (L.length + 2)) (by omega), ← all_side h (l.length + 2 + N + (L.length + 2)) (by omega)]
  exact graft_side h hs hx hT hk _ 0 (0, 0, 1) Up.zero (Ne.symm h0) (by omega)
theorem graft_none {l L : List Op7} (h : opsB l = true) (hL : opsB L = true) (hx : kidsL l (0, 0, 1) = []) {T : List Op7} {N : Nat} (hT : ∀ n, N ≤ n → sideO L n (0, 0, 1) = T) : allO l = [] ∧ allO L = T := by
  refine ⟨?_, ?_⟩
  · show (kidsL l (0, 0, 1)).flatMap _ = []
    rw [hx]; rfl
  · rw [← all_side hL (N + (L.length + 2)) (by omega)]
    exact hT _ (by omega)
theorem ins_apart {x : Int × Int × Int} {T A : List Op7} (h : ∀ q ∈ A, ¬ (q.a = x.1 ∧ q.b = x.2.1)) : A.flatMap (insT x T) = A := by
  induction A with
  | nil => rfl
  | cons q r ih =>
    rw [List.flatMap_cons, ih (fun p hp => h p (by simp [hp]))]
    unfold insT
    rw [if_neg (h q (by simp))]
    rfl
theorem all_once {l : List Op7} (h : opsB l = true) {A B : List Op7} {p : Op7} (he : allO l = A ++ p :: B) : (∀ q ∈ A, ¬ (q.a = p.a ∧ q.b = p.b)) ∧ ∀ q ∈ B, ¬ (q.a = p.a ∧ q.b = p.b) := by
  have hnd := nodup_all h
  rw [he] at hnd
  obtain ⟨_, h2, h3⟩ := List.nodup_append.1 hnd
  have mem : ∀ q ∈ allO l, q ∈ l := fun q hq => (side_put _ hq).1
  have hp : p ∈ l := mem p (by rw [he]; simp)
  refine ⟨fun q hq e => ?_, fun q hq e => ?_⟩
  · have : q = p := once_eq (once_ops h) (mem q (by rw [he]; simp [hq])) hp e.1 e.2
    exact h3 q hq p (by simp) this
  · have : q = p := once_eq (once_ops h) (mem q (by rw [he]; simp [hq])) hp e.1 e.2
    subst this
    exact (List.nodup_cons.1 h2).1 hq
theorem ins_at {l : List Op7} (h : opsB l = true) {A B T : List Op7} {p : Op7} {x : Int × Int × Int} (hp : p.a = x.1 ∧ p.b = x.2.1) (he : allO l = A ++ p :: B) : (allO l).flatMap (insT x T) = A ++ (if x.2.2 = 1 then p :: T else T ++ [p]) ++ B := by
  obtain ⟨h1, h2⟩ := all_once h he
  rw [he, List.flatMap_append, List.flatMap_cons, ins_apart (fun q hq => by rw [← hp.1, ← hp.2]; exact h1 q hq), ins_apart (fun q hq => by rw [← hp.1, ← hp.2]; exact h2 q hq)]
  unfold insT
  rw [if_pos hp]
  simp
/-- The kids of a list with one more. -/
theorem kids_with {l : List Op7} {o : Op7} (h : opsB l = true) (hno : ∀ p ∈ l, ¬ (p.a = o.a ∧ p.b = o.b)) (y : Int × Int × Int) : (isKid y o = false → kidsL (withL l o) y = kidsL l y) ∧ (isKid y o = true → kidsL l y = [] → kidsL (withL l o) y = [o]) := by
  obtain ⟨A, B, h1, h2⟩ := withL_split (ops_sorted h) hno
  unfold kidsL
  rw [h2]
  constructor
  · intro hk
    conv => rhs; rw [h1]
    rw [List.filter_append, List.filter_append, List.filter_cons_of_neg (by simp [hk])]
  · intro hk he
    conv at he => lhs; rw [h1]
    rw [List.filter_append] at he
    obtain ⟨e1, e2⟩ := List.append_eq_nil_iff.1 he
    rw [List.filter_append, List.filter_cons_of_pos (by simp [hk]), e1, e2]
    rfl
/-- Nothing was put beside what is new. -/
theorem kids_new {l : List Op7} {o : Op7} (h : opsB l = true) (hno : ∀ p ∈ l, ¬ (p.a = o.a ∧ p.b = o.b)) (ho : 1 ≤ o.a) (s : Int) : kidsL l (o.a, o.b, s) = [] := by
  refine List.filter_eq_nil_iff.2 fun q hq hk => ?_
  simp [isKid] at hk
  obtain ⟨d, hd⟩ := put_up h hq
  rcases up_inv hd with ⟨_, hx⟩ | ⟨e, p, _, hm, _, _, hx⟩
  · have := congrArg Prod.fst hx
    simp at this
    omega
  · have e1 : q.c = p.a := congrArg Prod.fst hx
    have e2 : q.d = p.b := congrArg Prod.snd hx
    exact hno p hm ⟨by omega, by omega⟩
/-- What is put at an empty place stands alone there. -/
theorem side_new {l : List Op7} {o : Op7} (h : opsB l = true) (hc : CanL l o) (hk : o.k = 1) (hx : kidsL l (o.c, o.d, o.s) = []) : ∀ n, 1 ≤ n → sideO (withL l o) n (o.c, o.d, o.s) = [o] := by
  intro n hn
  obtain ⟨m, rfl⟩ : ∃ m, n = m + 1 := ⟨n - 1, by omega⟩
  have hself : isKid (o.c, o.d, o.s) o = true := by simp [isKid, hk]
  have hne : ∀ s, isKid (o.a, o.b, s) o = false := fun s => by
    cases hb : isKid (o.a, o.b, s) o
    · rfl
    · simp [isKid] at hb
      obtain ⟨d, hd⟩ := hc.ref
      rcases up_inv hd with ⟨_, hx⟩ | ⟨e, p, _, hm, _, _, hx⟩
      · have := congrArg Prod.fst hx
        have := (okO_id hc.form).1
        simp at *
        omega
      · have e1 : o.c = p.a := congrArg Prod.fst hx
        have e2 : o.d = p.b := congrArg Prod.snd hx
        exact absurd ⟨by omega, by omega⟩ (hc.new p hm)
  have hnil : ∀ s, sideO (withL l o) m (o.a, o.b, s) = [] := fun s => by
    cases m with
    | zero => rfl
    | succ m =>
      show (kidsL (withL l o) (o.a, o.b, s)).flatMap _ = []
      rw [(kids_with h hc.new _).1 (hne s), kids_new h hc.new (okO_id hc.form).1 s]
      rfl
  show (kidsL (withL l o) (o.c, o.d, o.s)).flatMap _ = [o]
  rw [(kids_with h hc.new _).2 hself hx]
  simp [hnil]
/-- What is put at an empty place of a sign: behind it, or ahead of it. -/
theorem all_with {l : List Op7} {o p : Op7} (h : opsB l = true) (hc : CanL l o) (hk : o.k = 1) (hx : kidsL l (o.c, o.d, o.s) = []) {A B : List Op7} (he : allO l = A ++ p :: B) (hp : p.a = o.c ∧ p.b = o.d) : allO (withL l o) = if o.s = 1 then A ++ p :: o :: B else A ++ o :: p :: B := by
  have hform := hc.form
  unfold okO at hform
  rw [opB_true] at hform
  have hs : o.s = 0 ∨ o.s = 1 := by omega
  have hpos : 1 ≤ p.a := op_pos (opsB_all h).1 (side_put _ (show p ∈ allO l by rw [he]; simp)).1
  have := graft_all h ((can_iff h hc.new).2 hc) (x := (o.c, o.d, o.s)) hs hx (side_new h hc hk hx) (fun y d hy _ => (kids_with h hc.new y).1 (by
    cases hb : isKid y o
    · rfl
    · simp [isKid] at hb
      exact absurd (by rw [hb.2.1, hb.2.2.1, hb.2.2.2]) hy)) (fun e => by have := congrArg Prod.fst e; simp at this; omega)
  rw [this, ins_at h (x := (o.c, o.d, o.s)) hp he]
  rcases hs with e | e <;> simp [e]
theorem all_with_none {l : List Op7} {o : Op7} (h : opsB l = true) (hc : CanL l o) (hk : o.k = 1) (h0 : o.c = 0 ∧ o.d = 0) (hs : o.s = 1) (hx : kidsL l (0, 0, 1) = []) : allO l = [] ∧ allO (withL l o) = [o] := by
  refine graft_none h ((can_iff h hc.new).2 hc) hx (N := 1) fun n hn => ?_
  have := side_new h hc hk (by rw [h0.1, h0.2, hs]; exact hx) n hn
  rw [h0.1, h0.2, hs] at this
  exact this
/-- What takes something away moves nothing. -/
theorem all_take {l : List Op7} {o : Op7} (h : opsB l = true) (hc : CanL l o) (hk : o.k = 2) : allO (withL l o) = allO l := by
  have hkid : ∀ y, kidsL (withL l o) y = kidsL l y := fun y => (kids_with h hc.new y).1 (by simp [isKid, hk])
  have hside : ∀ n y, sideO (withL l o) n y = sideO l n y := by
    intro n
    induction n with
    | zero => intro y; rfl
    | succ n ih =>
      intro y
      show (kidsL (withL l o) y).flatMap _ = (kidsL l y).flatMap _
      rw [hkid y]
      exact flatMap_congr_mem fun q _ => by rw [ih, ih]
  have hle := withL_lenG l o
  rw [← all_side ((can_iff h hc.new).2 hc) (l.length + 2 + 2 * l.length + 5) (by omega), ← all_side h (l.length + 2 + 2 * l.length + 5) (by omega)]
  exact hside _ _
end Go.Proofs.YtficnhlkefpfnaaDoor

namespace Go.Proofs.YtficnhlkefpfnaaDoor
open Go.RowKit
set_option linter.unusedSimpArgs false
set_option linter.unusedVariables false

/-- How many of them are not gone. -/
def nShown (L : List Lf) : Nat := (L.filter fun x => !x.z).length
theorem nShown_nil : nShown [] = 0 := rfl
theorem nShown_gone {L : List Lf} {x : Lf} (h : x.z = true) : nShown (L ++ [x]) = nShown L := by simp [nShown, h]
theorem nShown_there {L : List Lf} {x : Lf} (h : x.z = false) : nShown (L ++ [x]) = nShown L + 1 := by simp [nShown, h]
theorem nShown_le (L : List Lf) : nShown L ≤ L.length := List.length_filter_le _ _
theorem nShown_app (A B : List Lf) : nShown (A ++ B) = nShown A + nShown B := by simp [nShown]
/-- A list that has no leaf of that id. -/
def freeOf (L : List Lf) (a b : Int) : Prop := ∀ x ∈ L, ¬ (x.a = a ∧ x.b = b)
theorem freeOf_nil (a b : Int) : freeOf [] a b := fun _ h => by cases h
theorem freeOf_more {L : List Lf} {a b : Int} {x : Lf} (h : freeOf L a b) (hx : ¬ (x.a = a ∧ x.b = b)) : freeOf (L ++ [x]) a b := by
  intro y hy
  rcases List.mem_append.1 hy with h1 | h1
  · exact h y h1
  · simp at h1; subst h1; exact hx
/-- How many that are not gone stand up to the first one of that id. -/
def upTo (a b : Int) : List Lf → Nat → Option Nat
  | [], _ => none
  | x :: t, n => if x.a = a ∧ x.b = b then some (if x.z then n else n + 1) else upTo a b t (if x.z then n else n + 1)
theorem upTo_free {a b : Int} : ∀ {L : List Lf} {n : Nat}, freeOf L a b → upTo a b L n = none
  | [], _, _ => rfl
  | x :: t, n, h => by
    simp only [upTo]
    rw [if_neg (h x List.mem_cons_self)]
    exact upTo_free fun y hy => h y (List.mem_cons_of_mem _ hy)
theorem upTo_at {a b : Int} : ∀ {p : List Lf} {x : Lf} {t : List Lf} {n : Nat}, freeOf p a b → x.a = a → x.b = b → upTo a b (p ++ x :: t) n = some (n + nShown (p ++ [x]))
  | [], x, t, n, _, ha, hb => by
    simp only [List.nil_append, upTo]
    rw [if_pos ⟨ha, hb⟩]
    cases hz : x.z <;> simp [nShown, hz]
  | y :: p, x, t, n, h, ha, hb => by
    simp only [List.cons_append, upTo]
    rw [if_neg (h y List.mem_cons_self), upTo_at (fun u hu => h u (List.mem_cons_of_mem _ hu)) ha hb]
    cases hz : y.z <;> simp [nShown, hz] <;> omega
/-- The place of a mark: none, if there is no such sign. -/
def placeM (l : List Op7) (a b : Int) : Option Nat := if a = 0 ∧ b = 0 then some 0 else upTo a b (lfs l (allO l)) 0
/-- What MarkPlace answers. -/
def markP (l : List Op7) (a b : Int) : Option Nat := if opsB l = true then placeM l a b else none
def pN (p : Option Nat) : Int := match p with | some n => n | none => 0
def pB (p : Option Nat) : Bool := match p with | some _ => true | none => false
theorem upTo_le {a b : Int} : ∀ {L : List Lf} {n k : Nat}, upTo a b L n = some k → k ≤ n + nShown L
  | [], _, _, h => by cases h
  | x :: t, n, k, h => by
    simp only [upTo] at h
    cases hz : x.z <;> simp only [hz] at h <;> split at h <;> (try cases h) <;> (try simp [nShown, hz]) <;> (try (have h1 := upTo_le h; simp [nShown] at h1; omega))
theorem markP_le {l : List Op7} {a b : Int} {k : Nat} (h : markP l a b = some k) : k ≤ nShown (lfs l (standL l)) := by
  unfold markP at h
  split at h
  · rename_i ho
    unfold placeM at h
    split at h
    · cases h; omega
    · have h1 := upTo_le h
      have h2 : standL l = allO l := by unfold standL; rw [ho]; rfl
      rw [h2]; omega
  · cases h
end Go.Proofs.YtficnhlkefpfnaaDoor

namespace Go.Proofs.YtficnhlkefpfnaaDoor
open Go.RowKit
set_option linter.unusedSimpArgs false
set_option linter.unusedVariables false

theorem shownTo_prefix (L : List Lf) (k j : Nat) : ∃ r, shownTo L (k + j) = shownTo L k ++ r := by
  induction j with
  | zero => exact ⟨[], by simp⟩
  | succ j ih =>
    obtain ⟨r, hr⟩ := ih
    refine ⟨r ++ [k + j].filter fun i => match L[i]? with | some x => !x.z | none => false, ?_⟩
    rw [← List.append_assoc, ← hr]
    unfold shownTo
    rw [← Nat.add_assoc, List.range_succ, List.filter_append]
    rfl
theorem shownTo_nShown (L : List Lf) : ∀ k, k ≤ L.length → (shownTo L k).length = nShown (L.take k) := by
  intro k
  induction k with
  | zero => intro _; simp [shownTo, nShown]
  | succ k ih =>
    intro hk
    have hlt : k < L.length := by omega
    rw [List.take_succ_eq_append_getElem hlt]
    cases hz : L[k].z
    · rw [shownTo_there hlt hz, nShown_there hz, List.length_append, ih (by omega)]; rfl
    · rw [shownTo_gone hlt hz, nShown_gone hz, ih (by omega)]
theorem shownI_len (L : List Lf) : (shownI L).length = nShown L := by
  unfold shownI
  rw [shownTo_nShown L L.length (Nat.le_refl _), List.take_length]
/-- A leaf that is not gone, and has so many ahead, is the one at that place. -/
theorem shownI_at {L p t : List Lf} {x : Lf} (h : p ++ x :: t = L) (hz : x.z = false) : (shownI L)[nShown p]? = some p.length := by
  have hl : p.length < L.length := by rw [← h]; simp
  have hx : L[p.length] = x := by simp [← h]
  have htk : L.take p.length = p := by simp [← h]
  obtain ⟨r, hr⟩ := shownTo_prefix L (p.length + 1) (L.length - (p.length + 1))
  rw [show p.length + 1 + (L.length - (p.length + 1)) = L.length by omega] at hr
  unfold shownI
  rw [hr, shownTo_there hl (by rw [hx]; exact hz)]
  have e := shownTo_nShown L p.length (by omega)
  rw [htk] at e
  rw [← e]
  simp
theorem at_mid {L p t : List Lf} {x : Lf} (h : p ++ x :: t = L) : L[p.length]? = some x := by simp [← h]
/-- What is taken at a place is the leaf that has so many ahead. -/
theorem takeId_at {l : List Op7} {p t : List Lf} {x : Lf} (h : p ++ x :: t = lvs l) (hz : x.z = false) : takeId l (nShown p) = (x.a, x.b) := by
  unfold takeId
  rw [shownI_at h hz]
  simp only [at_mid h]
theorem leftOf_at {l : List Op7} {p t : List Lf} {x : Lf} (h : p ++ x :: t = lvs l) (hz : x.z = false) : leftOf l (nShown p + 1) = (x.a, x.b, p.length + 1) :=
  leftOf_succ (shownI_at h hz) (at_mid h)

/-- The id of the last one; nothing, if there is none. -/
def lastId (L : List Lf) : Int × Int := match L.getLast? with | some x => (x.a, x.b) | none => (0, 0)
theorem lastId_nil : lastId [] = (0, 0) := rfl
theorem lastId_more (L : List Lf) (x : Lf) : lastId (L ++ [x]) = (x.a, x.b) := by simp [lastId]
/-- None of them stands behind a sign of that id. -/
def noneBehind (L : List Lf) (c d : Int) : Prop := ∀ p x t, p ++ x :: t = L → ¬ lastId p = (c, d)
theorem noneBehind_nil (c d : Int) : noneBehind [] c d := fun p x t h => by simp at h
theorem noneBehind_more {L : List Lf} {c d : Int} {x : Lf} (h : noneBehind L c d) (hx : ¬ lastId L = (c, d)) : noneBehind (L ++ [x]) c d := by
  intro p y t e
  rcases List.eq_nil_or_concat t with rfl | ⟨t', z, rfl⟩
  · obtain ⟨rfl, _⟩ := List.append_inj' e rfl
    exact hx
  · have e' : (p ++ y :: t') ++ [z] = L ++ [x] := by simpa using e
    obtain ⟨e1, _⟩ := List.append_inj' e' rfl
    exact h p y t' e1
theorem all_op {l : List Op7} (h : opsB l = true) {p : Op7} (hm : p ∈ allO l) : p ∈ l := (List.mem_filter.1 ((all_perm h).mem_iff.1 hm)).1
theorem lvs_pos {l : List Op7} (h : opsB l = true) {i : Nat} {x : Lf} (hx : (lvs l)[i]? = some x) : 1 ≤ x.a := by
  obtain ⟨p, hp, pa, _⟩ := lvs_at hx
  rw [← pa]
  exact op_pos (opsParts h).1 (all_op h (List.mem_of_getElem? hp))
theorem lvs_id {l : List Op7} (h : opsB l = true) {i j : Nat} {x y : Lf} (hx : (lvs l)[i]? = some x) (hy : (lvs l)[j]? = some y) (ha : x.a = y.a) (hb : x.b = y.b) : i = j := by
  obtain ⟨p, hp, pa, pb⟩ := lvs_at hx
  obtain ⟨q, hq, qa, qb⟩ := lvs_at hy
  have hm := (List.mem_of_getElem? hp)
  have hm' := (List.mem_of_getElem? hq)
  have e : p = q := once_eq (once_of (opsParts h).1 (opsParts h).2) (all_op h hm) (all_op h hm') (by rw [pa, qa, ha]) (by rw [pb, qb, hb])
  subst e
  have hn := nodup_all h
  obtain ⟨hi, ei⟩ := List.getElem?_eq_some_iff.1 hp
  obtain ⟨hj, ej⟩ := List.getElem?_eq_some_iff.1 hq
  exact (List.getElem_inj hn).1 (ei.trans ej.symm)
/-- What stands behind the sign ahead of a place is the leaf that is looked for. -/
theorem nextLf_behind {l : List Op7} (h : opsB l = true) {t : Nat} (ht : t ≤ (shownI (lvs l)).length) {p q : List Lf} {x : Lf} (e : p ++ x :: q = lvs l) (hl : lastId p = ((leftOf l t).1, (leftOf l t).2.1)) : nextLf l t = (x.a, x.b) := by
  suffices hh : (leftOf l t).2.2 = p.length by
    unfold nextLf
    rw [hh, at_mid e]
  rcases List.eq_nil_or_concat p with rfl | ⟨p', z, rfl⟩
  · cases t with
    | zero => rfl
    | succ k =>
      obtain ⟨j, y, h1, h2, h3⟩ := shown_leaf (l := l) (k := k) (by omega)
      rw [leftOf_succ h1 h2, lastId_nil] at hl
      have := lvs_pos h h2
      have := congrArg Prod.fst hl
      simp at this
      omega
  · have hz : (lvs l)[p'.length]? = some z := at_mid (p := p') (t := x :: q) (by simpa using e)
    rw [List.concat_eq_append, lastId_more] at hl
    cases t with
    | zero =>
      rw [leftOf_zero] at hl
      have := lvs_pos h hz
      have := congrArg Prod.fst hl
      simp at this
      omega
    | succ k =>
      obtain ⟨j, y, h1, h2, h3⟩ := shown_leaf (l := l) (k := k) (by omega)
      rw [leftOf_succ h1 h2] at hl ⊢
      have := lvs_id h hz h2 (congrArg Prod.fst hl) (congrArg Prod.snd hl)
      simp
      omega
/-- If something was put on its right, there is one. -/
theorem behind_is {l : List Op7} (h : opsB l = true) {t : Nat} (ht : t ≤ (shownI (lvs l)).length) (hk : kidsL l ((leftOf l t).1, (leftOf l t).2.1, 1) ≠ []) : ¬ noneBehind (lvs l) (leftOf l t).1 (leftOf l t).2.1 := by
  intro hno
  have hlt := left_next h ht hk
  refine hno ((lvs l).take (leftOf l t).2.2) ((lvs l)[(leftOf l t).2.2]) ((lvs l).drop ((leftOf l t).2.2 + 1)) (by rw [← List.drop_eq_getElem_cons hlt, List.take_append_drop]) ?_
  cases t with
  | zero => simp [leftOf_zero, lastId]
  | succ k =>
    obtain ⟨j, y, h1, h2, h3⟩ := shown_leaf (l := l) (k := k) (by omega)
    rw [leftOf_succ h1 h2]
    have hj : (lvs l)[j] = y := (List.getElem?_eq_some_iff.1 h2).2
    show lastId ((lvs l).take (j + 1)) = _
    rw [List.take_succ_eq_append_getElem h3, lastId_more, hj]
end Go.Proofs.YtficnhlkefpfnaaDoor

namespace Go.Proofs.YtficnhlkefpfnaaDoor
open Go.RowKit
set_option linter.unusedSimpArgs false
set_option linter.unusedVariables false

theorem shownI_nodup (L : List Lf) : (shownI L).Nodup := List.Pairwise.filter _ List.nodup_range
theorem shownI_mem {L : List Lf} {j : Nat} {x : Lf} (h : j ∈ shownI L) (hx : L[j]? = some x) : x.z = false := by
  unfold shownI shownTo at h
  have h2 := (List.mem_filter.1 h).2
  rw [hx] at h2
  simpa using h2
theorem split_at {L : List Lf} {j : Nat} {x : Lf} (hx : L[j]? = some x) : L.take j ++ x :: L.drop (j + 1) = L := by
  obtain ⟨hj, he⟩ := List.getElem?_eq_some_iff.1 hx
  rw [← he, ← List.drop_eq_getElem_cons hj, List.take_append_drop]
/-- So many that are not gone stand ahead of the one at a place. -/
theorem shownI_ahead {L : List Lf} {k j : Nat} {x : Lf} (h : (shownI L)[k]? = some j) (hx : L[j]? = some x) : nShown (L.take j) = k := by
  have hz := shownI_mem (List.mem_of_getElem? h) hx
  have h1 := shownI_at (split_at hx) hz
  have hj : (L.take j).length = j := by
    have := (List.getElem?_eq_some_iff.1 hx).1
    simp; omega
  rw [hj] at h1
  have hlt := (List.getElem?_eq_some_iff.1 h).1
  exact ((List.getElem?_inj hlt (shownI_nodup L)).1 (h.trans h1.symm)).symm
theorem free_ahead {l : List Op7} (h : opsB l = true) {j : Nat} {x : Lf} (hx : (lvs l)[j]? = some x) : freeOf ((lvs l).take j) x.a x.b := by
  intro y hy ⟨ha, hb⟩
  obtain ⟨i, hi⟩ := List.mem_iff_getElem?.1 hy
  have hij : i < j := by
    have := (List.getElem?_eq_some_iff.1 hi).1
    simp at this; omega
  have hi' : (lvs l)[i]? = some y := by rw [List.getElem?_take] at hi; simpa [hij] using hi
  have := lvs_id h hi' hx ha hb
  omega
/-- The place of a leaf: how many that are not gone stand up to it. -/
theorem place_leaf {l : List Op7} (h : opsB l = true) {j : Nat} {x : Lf} (hx : (lvs l)[j]? = some x) : markP l x.a x.b = some (nShown ((lvs l).take (j + 1))) := by
  unfold markP placeM
  rw [if_pos h, if_neg (by have := lvs_pos h hx; omega)]
  have h1 := upTo_at (a := x.a) (b := x.b) (t := (lvs l).drop (j + 1)) (n := 0) (free_ahead h hx) rfl rfl
  rw [split_at hx] at h1
  have hj := (List.getElem?_eq_some_iff.1 hx)
  obtain ⟨hlt, he⟩ := hj
  rw [List.take_succ_eq_append_getElem hlt, he]
  show upTo x.a x.b (lvs l) 0 = _
  rw [h1, Nat.zero_add]
theorem mark_back {l : List Op7} (h : opsB l = true) {t : Nat} (ht : t ≤ (shownI (lvs l)).length) : markP l (leftOf l t).1 (leftOf l t).2.1 = some t := by
  cases t with
  | zero => unfold markP placeM; rw [if_pos h, leftOf_zero]; rfl
  | succ k =>
    obtain ⟨j, x, h1, h2, h3⟩ := shown_leaf (l := l) (k := k) (by omega)
    rw [leftOf_succ h1 h2]
    show markP l x.a x.b = _
    rw [place_leaf h h2, List.take_succ_eq_append_getElem h3, nShown_there (by rw [(List.getElem?_eq_some_iff.1 h2).2]; exact shownI_mem (List.mem_of_getElem? h1) h2), shownI_ahead h1 h2]
end Go.Proofs.YtficnhlkefpfnaaDoor

namespace Go.Proofs.YtficnhlkefpfnaaDoor
open Go.RowKit
set_option linter.unusedSimpArgs false
set_option linter.unusedVariables false
attribute [local go_sem ↓] Go.wp_at_zero Go.wp_at_succ

/-- Bytes as a text. -/
def txtB (gs : List Int) : ByteArray := ⟨(gs.map fun n => UInt8.ofNat n.toNat).toArray⟩
theorem txtB_more (gs : List Int) (g : Int) : txtB gs ++ txtB [g] = txtB (gs ++ [g]) := by
  apply ByteArray.ext
  simp [txtB]
theorem txtB_size (gs : List Int) : (txtB gs).size = gs.length := by
  show (txtB gs).data.size = _
  simp [txtB]
/-- The signs of leaves that are not gone, as bytes. -/
def shown (L : List Lf) : List Int := (L.filter fun x => !x.z).map fun x => x.g % 256
theorem shown_len (L : List Lf) : (shown L).length ≤ L.length := by simp [shown]; exact List.length_filter_le _ _
theorem shown_gone {L : List Lf} {x : Lf} (h : x.z = true) : shown (L ++ [x]) = shown L := by simp [shown, List.filter_append, h]
theorem shown_there {L : List Lf} {x : Lf} (h : x.z = false) : shown (L ++ [x]) = shown L ++ [x.g % 256] := by simp [shown, List.filter_append, h]


end Go.Proofs.YtficnhlkefpfnaaDoor

namespace Go.Proofs.YtficnhlkefpfnaaDoor
open Go.RowKit
set_option linter.unusedSimpArgs false
set_option linter.unusedVariables false

theorem mid_eq {α : Type} : ∀ {A B C D : List α} {q : α}, (A ++ q :: B).Nodup → A ++ q :: B = C ++ q :: D → A = C ∧ B = D
  | [], B, [], D, q, _, he => by simp at he; exact ⟨rfl, he⟩
  | [], B, c :: C, D, q, hn, he => by
    simp at he
    obtain ⟨rfl, rfl⟩ := he
    simp at hn
  | a :: A, B, [], D, q, hn, he => by
    simp at he
    obtain ⟨rfl, h⟩ := he
    simp at hn
  | a :: A, B, c :: C, D, q, hn, he => by
    simp only [List.cons_append, List.cons.injEq] at he
    obtain ⟨rfl, h⟩ := he
    obtain ⟨h1, h2⟩ := mid_eq (List.nodup_cons.1 hn).2 h
    exact ⟨by rw [h1], h2⟩
theorem txtB_app (A B : List Int) : txtB A ++ txtB B = txtB (A ++ B) := by
  apply ByteArray.ext
  simp [txtB]
theorem txt_take (A B : List Int) : (txtB (A ++ B)).extract 0 A.length = txtB A := by
  apply ByteArray.ext
  rw [ByteArray.data_extract]
  simp [txtB]
theorem txt_drop (A B : List Int) : (txtB (A ++ B)).extract A.length (A ++ B).length = txtB B := by
  apply ByteArray.ext
  rw [ByteArray.data_extract]
  simp [txtB]
  exact List.take_of_length_le (by simp)
theorem shown_app (A B : List Lf) : shown (A ++ B) = shown A ++ shown B := by simp [shown]
theorem shown_n (A : List Lf) : (shown A).length = nShown A := by simp [shown, nShown]
theorem lfs_two (l A B : List Op7) : lfs l (A ++ B) = lfs l A ++ lfs l B := by simp [lfs]
theorem lfs_cons (l : List Op7) (o : Op7) (A : List Op7) : lfs l (o :: A) = ⟨o.a, o.b, o.g, goneB l (o.a, o.b)⟩ :: lfs l A := rfl

theorem next_new {l : List Op7} {r : Int} (h : opsB l = true) : ∀ p ∈ l, ¬ (p.a = r ∧ p.b = cnt l r + 1) := by
  obtain ⟨hok, hord⟩ := opsParts h
  rintro p hp ⟨ha, hb⟩
  obtain ⟨j, hj, rfl⟩ := List.getElem_of_mem hp
  have h1 := num_is hok hord j hj
  have h2 := cntTo_same hj ha
  have h3 := cnt_mono (l := l) r l.length (j + 1) (by omega) (Nat.le_refl _)
  rw [cntTo_len] at h3
  rw [ha] at h1
  omega
theorem next_prev {l : List Op7} {r : Int} (h : opsB l = true) (h1 : 1 < cnt l r + 1) : ∃ q ∈ l, q.a = r ∧ q.b = cnt l r + 1 - 1 := by
  obtain ⟨hok, hord⟩ := opsParts h
  obtain ⟨j, hj, ha, hc⟩ := there_is (l := l) (r := r) (n := cnt l r) (by omega) l.length (Nat.le_refl _) (by rw [cntTo_len]; omega)
  have := num_is hok hord j hj
  rw [ha, hc] at this
  exact ⟨_, List.getElem_mem hj, ha, by omega⟩
theorem may_parts {l : List Op7} {r : Int} (h : mayMore l r = true) : opsB l = true ∧ 1 ≤ r ∧ r ≤ 3 ∧ cnt l r + 1 ≤ 12 ∧ 0 ≤ cnt l r := by
  unfold mayMore inB at h
  simp only [Bool.and_eq_true, decide_eq_true_eq] at h
  exact ⟨h.1.1, h.1.2.1, h.1.2.2, h.2, by unfold cnt; omega⟩
theorem up_of {l : List Op7} (h : opsB l = true) {p : Op7} (hp : p ∈ allO l) : ∃ d, Up l d (p.a, p.b) := by
  obtain ⟨h1, h2⟩ := side_put _ hp
  obtain ⟨d, hd⟩ := put_up h h1
  exact ⟨d + 1, Up.step h1 h2 hd⟩
/-- A leaf, and the sign that it is. -/
theorem leaf_sign {l : List Op7} {j : Nat} {x : Lf} (hx : (lvs l)[j]? = some x) : ∃ A p B, allO l = A ++ p :: B ∧ A.length = j ∧ p.a = x.a ∧ p.b = x.b ∧ p.g = x.g := by
  unfold lvs lfs at hx
  rw [List.getElem?_map] at hx
  cases hp : (allO l)[j]? with
  | none => rw [hp] at hx; cases hx
  | some p =>
    rw [hp] at hx
    cases hx
    obtain ⟨hj, e⟩ := List.getElem?_eq_some_iff.1 hp
    refine ⟨(allO l).take j, p, (allO l).drop (j + 1), ?_, by simp; omega, rfl, rfl, rfl⟩
    rw [← e, ← List.drop_eq_getElem_cons hj, List.take_append_drop]
theorem id_ok {l : List Op7} (h : opsB l = true) {p : Op7} (hp : p ∈ allO l) : 1 ≤ p.a ∧ p.a ≤ 3 ∧ 1 ≤ p.b ∧ p.b ≤ 12 :=
  okO_id (List.all_eq_true.1 (opsB_all h).1 p (side_put _ hp).1)

/-- What one takes away can be taken away. -/
theorem take_can {l : List Op7} {r : Int} {t : Nat} (h : mayMore l r = true) (ht : t < (shownI (lvs l)).length) : CanL l (takeO l r t) ∧ ∃ A p B, allO l = A ++ p :: B ∧ (p.a, p.b) = takeId l t ∧ goneB l (p.a, p.b) = false ∧ nShown (lfs l A) = t := by
  obtain ⟨ho, hr1, hr3, hc, hc0⟩ := may_parts h
  obtain ⟨j, x, h1, h2, h3⟩ := shown_leaf ht
  obtain ⟨A, p, B, he, hA, ha, hb, _⟩ := leaf_sign h2
  have hid : takeId l t = (p.a, p.b) := by unfold takeId; rw [h1]; simp only [h2]; rw [ha, hb]
  have hp : p ∈ allO l := by rw [he]; simp
  have hpm := (side_put _ hp).1
  have hnn := next_new (r := r) ho p hpm
  have hio := id_ok ho hp
  refine ⟨⟨?_, ?_, ?_, ?_⟩, A, p, B, he, hid.symm, ?_, ?_⟩
  · unfold takeO okO
    rw [hid, opB_true]
    exact ⟨⟨hr1, hr3, by show 1 ≤ cnt l r + 1; omega, hc⟩, fun e => hnn ⟨e.1, e.2⟩, .inr ⟨rfl, hio.1, hio.2.1, hio.2.2.1, hio.2.2.2, rfl, rfl⟩⟩
  · exact next_new ho
  · exact next_prev ho
  · unfold takeO
    rw [hid]
    exact up_of ho hp
  · have hz := shownI_mem (List.mem_of_getElem? h1) h2
    have hx : x = ⟨p.a, p.b, p.g, goneB l (p.a, p.b)⟩ := by
      unfold lvs lfs at h2
      rw [List.getElem?_map, he, ← hA] at h2
      simp at h2
      exact h2.symm
    rw [hx] at hz
    exact hz
  · rw [← shownI_ahead h1 h2]
    unfold lvs
    rw [he, lfs_two, lfs_cons, List.take_left' (by rw [lfs_len]; exact hA)]

/-- What stands right behind a sign that has something on its right has nothing on its left. -/
theorem next_free {l : List Op7} (h : opsB l = true) {A B : List Op7} {p q : Op7} (he : allO l = A ++ p :: q :: B) (hk : kidsL l (p.a, p.b, 1) ≠ []) : kidsL l (q.a, q.b, 0) = [] := by
  have hnd := nodup_all h
  have hp : p ∈ allO l := by rw [he]; simp
  have hq : q ∈ allO l := by rw [he]; simp
  have hpl := side_put _ hp
  have hql := side_put _ hq
  have hpq : ¬ (p.a = q.a ∧ p.b = q.b) := by
    rintro ⟨e1, e2⟩
    have := once_eq (once_ops h) hpl.1 hql.1 e1 e2
    subst this
    rw [he] at hnd
    have h2 := (List.nodup_append.1 hnd).2.1
    simp at h2
  -- q stands on p's right
  obtain ⟨pre, post, n, d, hu, hn, ha⟩ := all_both hp
  have h1 : A = pre ++ sideO l n (p.a, p.b, 0) ∧ q :: B = sideO l n (p.a, p.b, 1) ++ post := by
    refine mid_eq (q := p) (by rw [← he]; exact hnd) ?_
    rw [← he, ha]
    simp
  obtain ⟨y, hy⟩ := List.exists_mem_of_ne_nil _ hk
  have hyin : y ∈ sideO l n (p.a, p.b, 1) := desc_deep h (i := 0) (x := (p.a, p.b, 1)) hy hu hn
  have hqin : q ∈ sideO l n (p.a, p.b, 1) := by
    cases hs : sideO l n (p.a, p.b, 1) with
    | nil => rw [hs] at hyin; cases hyin
    | cons z zs =>
      have h2 := h1.2
      rw [hs] at h2
      simp only [List.cons_append, List.cons.injEq] at h2
      rw [h2.1]
      simp
  have hpu : undB l q.a q.b p.a p.b = true := by
    have := side_atOr (l := l) h (p := p) (q := q) (n := n) (by simp [hqin])
    unfold atOrB at this
    rcases Bool.or_eq_true _ _ |>.mp this with e | e
    · have e2 : q.a = p.a ∧ q.b = p.b := by simpa using e
      exact absurd ⟨e2.1.symm, e2.2.symm⟩ hpq
    · exact e
  -- p would stand on q's left
  cases hkq : kidsL l (q.a, q.b, 0) with
  | nil => rfl
  | cons z zs =>
    exfalso
    obtain ⟨pre', post', n', d', hu', hn', ha'⟩ := all_both hq
    have h3 : A ++ [p] = pre' ++ sideO l n' (q.a, q.b, 0) ∧ B = sideO l n' (q.a, q.b, 1) ++ post' := by
      refine mid_eq (q := q) (A := A ++ [p]) (by rw [List.append_assoc, List.singleton_append, ← he]; exact hnd) ?_
      rw [List.append_assoc, List.singleton_append, ← he, ha']
      simp
    have hz : z ∈ kidsL l (q.a, q.b, 0) := by rw [hkq]; simp
    have hzin : z ∈ sideO l n' (q.a, q.b, 0) := desc_deep h (i := 0) (x := (q.a, q.b, 0)) hz hu' hn'
    have hpin : p ∈ sideO l n' (q.a, q.b, 0) := by
      rcases List.eq_nil_or_concat (sideO l n' (q.a, q.b, 0)) with e | ⟨S, y', e⟩
      · rw [e] at hzin; cases hzin
      · rw [e] at h3
        have h4 : A ++ [p] = (pre' ++ S) ++ [y'] := by rw [h3.1]; simp
        have h5 := (List.append_inj' h4 rfl).2
        simp at h5
        rw [e, h5]
        simp
    have := side_atOr (l := l) h (p := q) (q := p) (n := n') (by simp [hpin])
    unfold atOrB at this
    rcases Bool.or_eq_true _ _ |>.mp this with e | e
    · exact hpq (by simpa using e)
    · have := und_asym (l := l) (a := (q.a, q.b)) (b := (p.a, p.b)) hpu
      simp only at this
      rw [e] at this
      cases this
/-- The first of all has nothing on its left. -/
theorem first_free {l : List Op7} (h : opsB l = true) {B : List Op7} {q : Op7} (he : allO l = q :: B) : kidsL l (q.a, q.b, 0) = [] := by
  have hnd := nodup_all h
  have hq : q ∈ allO l := by rw [he]; simp
  obtain ⟨pre, post, n, d, hu, hn, ha⟩ := all_both hq
  have h1 : [] = pre ++ sideO l n (q.a, q.b, 0) ∧ B = sideO l n (q.a, q.b, 1) ++ post := by
    refine mid_eq (q := q) (A := []) (by rw [List.nil_append, ← he]; exact hnd) ?_
    rw [List.nil_append, ← he, ha]
    simp
  cases hk : kidsL l (q.a, q.b, 0) with
  | nil => rfl
  | cons z zs =>
    exfalso
    have hz : z ∈ kidsL l (q.a, q.b, 0) := by rw [hk]; simp
    have hzin : z ∈ sideO l n (q.a, q.b, 0) := desc_deep h (i := 0) (x := (q.a, q.b, 0)) hz hu hn
    have h2 := (List.append_eq_nil_iff.1 h1.1.symm).2
    rw [h2] at hzin
    cases hzin

/-- What one puts can be put, beside nothing that stands there already; and where it stands then. -/
theorem put_can {l : List Op7} {r sg : Int} {t : Nat} (h : mayMore l r = true) (hsg : 97 ≤ sg ∧ sg ≤ 122) (ht : t ≤ (shownI (lvs l)).length) : CanL l (putO l r t sg) ∧ kidsL l ((putO l r t sg).c, (putO l r t sg).d, (putO l r t sg).s) = [] ∧
    ∃ A B, allO l = A ++ B ∧ allO (withL l (putO l r t sg)) = A ++ putO l r t sg :: B ∧ nShown (lfs l A) = t := by
  obtain ⟨ho, hr1, hr3, hc, hc0⟩ := may_parts h
  have hpar : ∀ c d s, (∃ e, Up l e (c, d)) → (c = 0 ∧ d = 0 ∧ s = 1 ∨ 1 ≤ c ∧ c ≤ 3 ∧ 1 ≤ d ∧ d ≤ 12 ∧ (s = 0 ∨ s = 1)) → ¬ (c = r ∧ d = cnt l r + 1) → CanL l ⟨r, cnt l r + 1, 1, c, d, s, sg⟩ := by
    intro c d s hup hcd hne
    refine ⟨?_, next_new ho, next_prev ho, hup⟩
    unfold okO
    rw [opB_true]
    exact ⟨⟨hr1, hr3, by show 1 ≤ cnt l r + 1; omega, hc⟩, hne, .inl ⟨rfl, hsg.1, hsg.2, hcd⟩⟩
  by_cases hk : kidsL l ((leftOf l t).1, (leftOf l t).2.1, 1) = []
  · rw [show putO l r t sg = ⟨r, cnt l r + 1, 1, (leftOf l t).1, (leftOf l t).2.1, 1, sg⟩ from by unfold putO; rw [if_pos hk]]
    cases t with
    | zero =>
      rw [leftOf_zero] at hk ⊢
      simp only at hk ⊢
      have hcan := hpar 0 0 1 ⟨0, Up.zero⟩ (by omega) (by omega)
      obtain ⟨e1, e2⟩ := all_with_none ho hcan rfl ⟨rfl, rfl⟩ rfl hk
      exact ⟨hcan, hk, [], [], e1, e2, rfl⟩
    | succ k =>
      obtain ⟨j, x, h1, h2, h3⟩ := shown_leaf (l := l) (k := k) (by omega)
      obtain ⟨A, p, B, he, hA, ha, hb, _⟩ := leaf_sign h2
      have hp : p ∈ allO l := by rw [he]; simp
      rw [leftOf_succ h1 h2] at hk ⊢
      simp only at hk ⊢
      rw [← ha, ← hb] at hk ⊢
      have hnn := next_new (r := r) ho p (side_put _ hp).1
      have hcan := hpar p.a p.b 1 (up_of ho hp) (by have := id_ok ho hp; omega) hnn
      refine ⟨hcan, hk, A ++ [p], B, by rw [he]; simp, ?_, ?_⟩
      · have := all_with ho hcan rfl hk he ⟨rfl, rfl⟩
        rw [this]
        simp
      · have hz := shownI_mem (List.mem_of_getElem? h1) h2
        have htk : (lvs l).take (j + 1) = lfs l (A ++ [p]) := by
          unfold lvs
          rw [he, show A ++ p :: B = (A ++ [p]) ++ B by simp, lfs_two, List.take_left' (by rw [lfs_len]; simp; omega)]
        rw [← htk, List.take_succ_eq_append_getElem h3, nShown_there (by rw [(List.getElem?_eq_some_iff.1 h2).2]; exact hz), shownI_ahead h1 h2]
  · have hlt := left_next ho ht hk
    obtain ⟨nx, hnx⟩ : ∃ nx, (lvs l)[(leftOf l t).2.2]? = some nx := ⟨_, List.getElem?_eq_getElem hlt⟩
    rw [show putO l r t sg = ⟨r, cnt l r + 1, 1, nx.a, nx.b, 0, sg⟩ from by unfold putO; rw [if_neg hk]; simp [nextLf, hnx]]
    obtain ⟨A', q, B, he, hA, ha, hb, _⟩ := leaf_sign hnx
    have hq : q ∈ allO l := by rw [he]; simp
    rw [← ha, ← hb]
    have hnn := next_new (r := r) ho q (side_put _ hq).1
    have hcan := hpar q.a q.b 0 (up_of ho hq) (by have := id_ok ho hq; omega) hnn
    have hfree : kidsL l (q.a, q.b, 0) = [] ∧ nShown (lfs l A') = t := by
      cases t with
      | zero =>
        rw [leftOf_zero] at hA
        have hA0 : A' = [] := by simpa using hA
        subst hA0
        exact ⟨first_free ho (by simpa using he), rfl⟩
      | succ k =>
        obtain ⟨j, x, h1, h2, h3⟩ := shown_leaf (l := l) (k := k) (by omega)
        obtain ⟨A, p, B', he', hA', ha', hb', _⟩ := leaf_sign h2
        rw [leftOf_succ h1 h2] at hk hA
        simp only at hk hA
        rw [← ha', ← hb'] at hk
        have hh : A' = A ++ [p] ∧ q :: B = B' := by
          have e : (A ++ [p]) ++ B' = A' ++ q :: B := by rw [← he, he']; simp
          have := List.append_inj e (by simp; omega)
          exact ⟨this.1.symm, this.2.symm⟩
        refine ⟨next_free ho (A := A) (B := B) (p := p) (by rw [he', hh.2]) hk, ?_⟩
        have hz := shownI_mem (List.mem_of_getElem? h1) h2
        have htk : (lvs l).take (j + 1) = lfs l (A ++ [p]) := by
          unfold lvs
          rw [he', show A ++ p :: B' = (A ++ [p]) ++ B' by simp, lfs_two, List.take_left' (by rw [lfs_len]; simp; omega)]
        rw [hh.1, ← htk, List.take_succ_eq_append_getElem h3, nShown_there (by rw [(List.getElem?_eq_some_iff.1 h2).2]; exact hz), shownI_ahead h1 h2]
    refine ⟨hcan, hfree.1, A', q :: B, he, ?_, hfree.2⟩
    have := all_with ho hcan rfl hfree.1 he ⟨rfl, rfl⟩
    rw [this]
    simp

theorem gone_with {l : List Op7} (h : opsB l = true) {o : Op7} (hc : CanL l o) (y : Int × Int) : goneB (withL l o) y = (goneB l y || (o.k == 2 && (o.c == y.1 && o.d == y.2))) := by
  have hm := withL_mem (ops_sorted h) hc.new
  rw [Bool.eq_iff_iff]
  unfold goneB
  rw [Bool.or_eq_true, List.any_eq_true, List.any_eq_true]
  constructor
  · rintro ⟨x, hx, hb⟩
    rcases (hm x).1 hx with rfl | hx
    · exact .inr hb
    · exact .inl ⟨x, hx, hb⟩
  · rintro (⟨x, hx, hb⟩ | hb)
    · exact ⟨x, (hm x).2 (.inr hx), hb⟩
    · exact ⟨o, (hm o).2 (.inl rfl), hb⟩
theorem gone_new {l : List Op7} (h : opsB l = true) {o : Op7} (hc : CanL l o) : goneB l (o.a, o.b) = false := by
  cases hg : goneB l (o.a, o.b)
  · rfl
  · exfalso
    unfold goneB at hg
    obtain ⟨q, hq, hb⟩ := List.any_eq_true.1 hg
    simp at hb
    obtain ⟨d, hd⟩ := put_up h hq
    rcases up_inv hd with ⟨_, hx⟩ | ⟨e, p, _, hm, _, _, hx⟩
    · have := congrArg Prod.fst hx
      have := (okO_id hc.form).1
      simp at *
      omega
    · have e1 : q.c = p.a := congrArg Prod.fst hx
      have e2 : q.d = p.b := congrArg Prod.snd hx
      exact hc.new p hm ⟨by omega, by omega⟩
theorem lfs_put {l : List Op7} (h : opsB l = true) {o : Op7} (hc : CanL l o) (hk : o.k = 1) (A : List Op7) : lfs (withL l o) A = lfs l A := by
  unfold lfs
  refine List.map_congr_left fun x _ => ?_
  rw [gone_with h hc, hk]
  simp
/-- What is put stands in the text, at its place. -/
theorem put_text {l : List Op7} (h : opsB l = true) {o : Op7} (hc : CanL l o) (hk : o.k = 1) {A B : List Op7} (he : allO l = A ++ B) (hw : allO (withL l o) = A ++ o :: B) :
    shown (lfs l (allO l)) = shown (lfs l A) ++ shown (lfs l B) ∧ shown (lfs (withL l o) (allO (withL l o))) = shown (lfs l A) ++ (o.g % 256) :: shown (lfs l B) := by
  refine ⟨by rw [he, lfs_two, shown_app], ?_⟩
  rw [hw, lfs_put h hc hk, lfs_two, lfs_cons, shown_app, gone_new h hc]
  simp [shown]
/-- What is taken away is gone from the text, and nothing else. -/
theorem take_text {l : List Op7} (h : opsB l = true) {o : Op7} (hc : CanL l o) (hk : o.k = 2) {A B : List Op7} {p : Op7} (he : allO l = A ++ p :: B) (hp : o.c = p.a ∧ o.d = p.b) (hg : goneB l (p.a, p.b) = false) :
    shown (lfs l (allO l)) = shown (lfs l A) ++ (p.g % 256) :: shown (lfs l B) ∧ shown (lfs (withL l o) (allO (withL l o))) = shown (lfs l A) ++ shown (lfs l B) := by
  obtain ⟨h1, h2⟩ := all_once h he
  have hsame : ∀ C : List Op7, (∀ q ∈ C, ¬ (q.a = p.a ∧ q.b = p.b)) → lfs (withL l o) C = lfs l C := by
    intro C hC
    unfold lfs
    refine List.map_congr_left fun x hx => ?_
    have := hC x hx
    have hn : (o.c == x.a && o.d == x.b) = false := by
      cases hb : (o.c == x.a && o.d == x.b)
      · rfl
      · simp at hb
        exact absurd ⟨by omega, by omega⟩ this
    rw [gone_with h hc]
    simp only
    rw [hn]
    simp
  refine ⟨by rw [he, lfs_two, lfs_cons, shown_app, hg]; simp [shown], ?_⟩
  rw [all_take h hc hk, he, lfs_two, lfs_cons, hsame A h1, hsame B h2, shown_app, gone_with h hc]
  simp [shown, hk, hp.1, hp.2]
end Go.Proofs.YtficnhlkefpfnaaDoor

namespace Go.Proofs.YtficnhlkefpfnaaDoor
open Go.RowKit
set_option linter.unusedSimpArgs false
set_option linter.unusedVariables false

theorem OpsAt.cellsTk {w : World} {g : Nat} {l : List Op7} (h : OpsAt w g l) (x : Nat) : ∀ j u, (opCells (l.take x))[j]? = some u → w.cell? ((⟨g, 0, none⟩ : Addr).add j) = some u := fun j u hj => by
  refine h.cells j u ?_
  have e : opCells l = opCells (l.take x) ++ opCells (l.drop x) := by rw [← opCells_app, List.take_append_drop]
  rw [e, List.getElem?_append_left (List.getElem?_eq_some_iff.1 hj).1]
  exact hj
theorem addOff (g o j : Nat) : (⟨g, o, none⟩ : Addr).add j = ⟨g, o + j, none⟩ := by
  unfold Addr.add
  split <;> simp_all
theorem OpsAt.cellsDr {w : World} {g : Nat} {l : List Op7} (h : OpsAt w g l) {x : Nat} (hx : x ≤ l.length) : ∀ j u, (opCells (l.drop x))[j]? = some u → w.cell? ((⟨g, x * 7, none⟩ : Addr).add j) = some u := fun j u hj => by
  have e : opCells l = opCells (l.take x) ++ opCells (l.drop x) := by rw [← opCells_app, List.take_append_drop]
  have h1 := h.cells (x * 7 + j) u (by
    rw [e, List.getElem?_append_right (by rw [opCells_len]; simp; omega)]
    rw [← hj]
    congr 1
    rw [opCells_len]
    simp
    omega)
  rw [add_plain] at h1
  rw [addOff]
  exact h1
end Go.Proofs.YtficnhlkefpfnaaDoor
