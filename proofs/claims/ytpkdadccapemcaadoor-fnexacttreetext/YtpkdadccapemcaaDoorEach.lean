/- Contracts of the tree's eachOf and eachKid, for every body that keeps the walk's own blocks. -/
import Derived.Test.YtpkdadccapemcaaDoorLeafOf
import Derived.Test.YtpkdadccapemcaaDoorLeavesSpec
import Derived.RangeFuncNested
import Derived.RangeFuncBound
import Derived.RangeFuncCalls
import Derived.RangeFuncLeaves
import Derived.Shelf.Abstract
import Derived.OwnWalkIn
import Derived.TacticsInMore
import Derived.LoopNIn
import Derived.LoopIn
namespace Go.Proofs.YtpkdadccapemcaaDoor
open Go.RowKit Go.Shelf
set_option linter.unusedSimpArgs false
set_option linter.unusedVariables false
attribute [local go_sem] Oper.semAt_some

theorem room_none {F : Fence} (hd : F.depth = none) (k : Nat) : F.room k := fun d h => by rw [hd] at h; cases h
theorem round_any {F : Fence} (hd : F.depth = none) {m m' : Nat} {P : Program} {l : Nat} {f : FuncId} {tmps : Array Value} {assign body : Code} {w : World} {R : Ending → World → Prop}
    (h : RoundIn F m P l f tmps assign body w R) : RoundIn F m' P l f tmps assign body w R := ⟨h.1, fun c cs _ => h.2 c cs (room_none hd _)⟩
theorem yield_any {F : Fence} (hd : F.depth = none) {m : Nat} (m' : Nat) {P : Program} {l : Nat} {args : Array Value} {W : World} {R : Ending → World → Prop} (h : YieldAt F m P l args W R) : YieldAt F m' P l args W R := by
  obtain ⟨fn, tmps, assign, body, hy, hR⟩ := h
  exact ⟨fn, tmps, assign, body, hy, round_any hd hR⟩

/-- What a round keeps: all that lay below n0, and the walk's own blocks. -/
def KpT (n0 : Nat) (W W' : World) : Prop := Below n0 W W' ∧ ∀ (b : Nat) (cur : Array Value) (T : TypeId) (fr : Nat × Nat), W.heap[b]? = some (.cells cur T fr) → (T = 55 ∨ T = 73 ∨ T = 77) → W'.heap[b]? = W.heap[b]?
theorem KpT.refl (n0 : Nat) (W : World) : KpT n0 W W := ⟨Below.refl _ _, fun _ _ _ _ _ _ => rfl⟩
theorem KpT.trans {n0 : Nat} {A B C : World} (h : KpT n0 A B) (k : KpT n0 B C) : KpT n0 A C :=
  ⟨h.1.trans k.1, fun b cur T fr hb hT => by have e := h.2 b cur T fr hb hT; exact (k.2 b cur T fr (e.trans hb) hT).trans e⟩
theorem KpT.of_below {n0 : Nat} {W W' : World} (hn : n0 ≤ W.heap.size) (h : Below W.heap.size W W') : KpT n0 W W' :=
  ⟨h.mono hn, fun b cur T fr hb _ => h.block b (Array.getElem?_eq_some_iff.1 hb).1⟩
theorem KpT.cell {n0 : Nat} {W W' : World} (h : KpT n0 W W') {b : Nat} {cur : Array Value} {T : TypeId} {fr : Nat × Nat} (hb : W.heap[b]? = some (.cells cur T fr)) (hT : T = 55 ∨ T = 73 ∨ T = 77) : W'.heap[b]? = some (.cells cur T fr) :=
  (h.2 b cur T fr hb hT).trans hb
/-- How a part of the walk ends: all of xs have come; or a round has said 'no more'. -/
def EPost (n0 : Nat) (J Jx : List Lf → World → Prop) (pre xs : List Lf) (W : World) (e : Ending) (W' : World) : Prop :=
  (e = .returned (.bool true) ∧ J (pre ++ xs) W' ∧ KpT n0 W W') ∨ (e = .returned (.bool false) ∧ ∃ q, Jx q W')
theorem abides_below {B : Nat} {J : List Lf → World → Prop} (hJ : AbidesFrom B J) {pre : List Lf} {W W' : World} (h : J pre W) (hb : Below W.heap.size W W') : J pre W' :=
  hJ pre W W' none h ⟨hb.os, hb.tape, hb.output, hb.size, fun i hi _ => hb.block i hi⟩ (fun r e => by cases e)
theorem blk_cell {W : World} {b : Nat} {cur : Array Value} {T : TypeId} (h : W.heap[b]? = some (.cells cur T (0, 0))) (j : Nat) : W.cell? ⟨b, j, none⟩ = cur[j]? := by simp [World.cell?, h]

set_option maxRecDepth 100000 in
set_option maxHeartbeats 4000000 in
theorem eachOf_in (l : List Op7) (hops : opsB l = true) (hn : l.length ≤ 1048576) (w0 : World) (b1 b2 b3 base : Nat) (hT : TreeAt w0 b1 b2 b3 base l) (lp B N : Nat) (J Jx : List Lf → World → Prop) (hJ : AbidesFrom B J)
    (hY : ∀ m pre (x : Lf) W, J pre W → pre.length < N → YieldAt Fence.wide m Tryd.prog lp #[.agg #[.int .i64 x.a, .int .i64 x.b, .int .i64 x.g, .bool x.z]] W fun e W' =>
      (e = .returned (.bool true) ∧ J (pre ++ [x]) W' ∧ KpT w0.heap.size W W') ∨ (e = .returned (.bool false) ∧ Jx (pre ++ [x]) W'))
    (o : Op7) (hok : okO o = true) (X0 X1 : List Lf)
    (ih0 : ∀ k pre W, Below w0.heap.size w0 W → J pre W → pre.length + X0.length ≤ N → CallsIn Fence.wide k Tryd.prog 50 #[.agg #[.map (some b1), .map (some b2), .map (some b3)], .agg #[.int .i64 o.a, .int .i64 o.b, .int .i64 0], .func (.yield lp) #[] #[]] W (EPost w0.heap.size J Jx pre X0 W))
    (ih1 : ∀ k pre W, Below w0.heap.size w0 W → J pre W → pre.length + X1.length ≤ N → CallsIn Fence.wide k Tryd.prog 50 #[.agg #[.map (some b1), .map (some b2), .map (some b3)], .agg #[.int .i64 o.a, .int .i64 o.b, .int .i64 1], .func (.yield lp) #[] #[]] W (EPost w0.heap.size J Jx pre X1 W))
    (k : Nat) (pre : List Lf) (W : World) (hW : Below w0.heap.size w0 W) (h0 : J pre W) (hN : pre.length + (X0.length + 1 + X1.length) ≤ N) :
    CallsIn Fence.wide k Tryd.prog 58 #[.agg #[.map (some b1), .map (some b2), .map (some b3)], .agg #[.int .i64 o.a, .int .i64 o.b, .int .i64 o.c, .int .i64 o.d, .int .i64 o.s, .int .i64 o.g], .func (.yield lp) #[] #[]] W (EPost w0.heap.size J Jx pre (X0 ++ ⟨o.a, o.b, o.g, goneB l (o.a, o.b)⟩ :: X1) W) := by
  refine callsIn_of_wp Tryd.func58 rfl trivial ?_ rfl
  simp only [Tryd.ntmps58, List.size_toArray, List.length_cons, List.length_nil, Nat.reduceAdd, Nat.reduceSub, Array.replicate_succ, Array.replicate_zero, List.push_toArray, List.append_toArray, List.nil_append, List.cons_append]
  have hn0 : w0.heap.size ≤ W.heap.size := hW.size
  have HBa : Hid (Below W.heap.size W ((W.alloc (.cells #[.map (some b1), .map (some b2), .map (some b3)] 55)).alloc (.cells #[.int .i64 o.a, .int .i64 o.b, .int .i64 o.c, .int .i64 o.d, .int .i64 o.s, .int .i64 o.g] 77))) := ((Below.refl _ _).alloc (Nat.le_refl _) _).alloc (by simp) _
  have HKa : Hid (KpT w0.heap.size W ((W.alloc (.cells #[.map (some b1), .map (some b2), .map (some b3)] 55)).alloc (.cells #[.int .i64 o.a, .int .i64 o.b, .int .i64 o.c, .int .i64 o.d, .int .i64 o.s, .int .i64 o.g] 77))) := KpT.of_below hn0 HBa.out
  have HWa : Hid (Below w0.heap.size w0 ((W.alloc (.cells #[.map (some b1), .map (some b2), .map (some b3)] 55)).alloc (.cells #[.int .i64 o.a, .int .i64 o.b, .int .i64 o.c, .int .i64 o.d, .int .i64 o.s, .int .i64 o.g] 77))) := hW.trans HKa.out.1
  have HTa : Hid (((W.alloc (.cells #[.map (some b1), .map (some b2), .map (some b3)] 55)).alloc (.cells #[.int .i64 o.a, .int .i64 o.b, .int .i64 o.c, .int .i64 o.d, .int .i64 o.s, .int .i64 o.g] 77)).heap[W.heap.size]? = some (.cells #[.map (some b1), .map (some b2), .map (some b3)] 55 (0, 0))) := (Below.heap_alloc _ _ _ (by simp)).trans (World.alloc_heap_new _ _)
  have HSa : Hid (((W.alloc (.cells #[.map (some b1), .map (some b2), .map (some b3)] 55)).alloc (.cells #[.int .i64 o.a, .int .i64 o.b, .int .i64 o.c, .int .i64 o.d, .int .i64 o.s, .int .i64 o.g] 77)).heap[W.heap.size + 1]? = some (.cells #[.int .i64 o.a, .int .i64 o.b, .int .i64 o.c, .int .i64 o.d, .int .i64 o.s, .int .i64 o.g] 77 (0, 0))) := by
    have h := World.alloc_heap_new (W.alloc (.cells #[.map (some b1), .map (some b2), .map (some b3)] 55)) (.cells #[.int .i64 o.a, .int .i64 o.b, .int .i64 o.c, .int .i64 o.d, .int .i64 o.s, .int .i64 o.g] 77)
    rw [World.size_alloc] at h
    exact h
  have IH0 := hideIt ih0
  have IH1 := hideIt ih1
  have HY := hideIt hY
  have HJ := hideIt hJ
  have HT := hideIt hT
  have HJa := hideIt (abides_below hJ h0 HBa.out)
  clear ih0 ih1 hY hJ hT h0 hW
  gi_wp2
  refine ⟨trivial, (fun h => by cases h), ?_⟩
  refine (IH0.out _ pre _ HWa.out HJa.out (by omega)).mono ?_
  rintro e W1 (⟨rfl, hJ1, hK1⟩ | ⟨rfl, q, hq⟩)
  · have t1 := hK1.cell HTa.out (.inl rfl)
    have s1 := hK1.cell HSa.out (.inr (.inr rfl))
    have HT1 := hideIt t1
    have HS1 := hideIt s1
    have HJ1 := hideIt hJ1
    have HK1 := hideIt (HKa.out.trans hK1)
    have HW1 := hideIt (HWa.out.trans hK1.1)
    have ct0 := (blk_cell t1 0).trans rfl
    have ct1 := (blk_cell t1 1).trans rfl
    have ct2 := (blk_cell t1 2).trans rfl
    have cs0 := (blk_cell s1 0).trans rfl
    have cs1 := (blk_cell s1 1).trans rfl
    have cs2 := (blk_cell s1 2).trans rfl
    have cs3 := (blk_cell s1 3).trans rfl
    have cs4 := (blk_cell s1 4).trans rfl
    have cs5 := (blk_cell s1 5).trans rfl
    clear t1 s1 hJ1 hK1 HJa HKa HWa HTa HSa HBa
    gi_wp2
    refine ⟨trivial, (fun h => by cases h), ?_⟩
    refine (callsIn_wide.2 (leafOf_any l hops hn b1 b2 b3 base o hok W1 (HT.out.below HW1.out))).mono ?_
    rintro e W2 ⟨rfl, hb2⟩
    have HK2 := hideIt (KpT.of_below (n0 := w0.heap.size) HW1.out.size hb2)
    have HJ2 := hideIt (abides_below HJ.out HJ1.out hb2)
    clear hb2 ct0 ct1 ct2 cs0 cs1 cs2 cs3 cs4 cs5 HJ1
    obtain ⟨fn, tmps, assign, body, hy, hR⟩ := HY.out (k - 1) (pre ++ X0) ⟨o.a, o.b, o.g, goneB l (o.a, o.b)⟩ W2 HJ2.out (by simp; omega)
    dsimp only at hy
    have HR := hideIt hR
    clear hR
    gi_wp2
    refine ⟨(fun h => by cases h), ?_⟩
    refine HR.out.mono ?_
    rintro e W3 (⟨rfl, hJ3, hK3⟩ | ⟨rfl, hx3⟩)
    · have hk13 := HK2.out.trans hK3
      have t3 := hk13.cell HT1.out (.inl rfl)
      have s3 := hk13.cell HS1.out (.inr (.inr rfl))
      have HJ3 := hideIt hJ3
      have HK3 := hideIt (HK1.out.trans hk13)
      have HW3 := hideIt (HW1.out.trans hk13.1)
      have ct0 := (blk_cell t3 0).trans rfl
      have ct1 := (blk_cell t3 1).trans rfl
      have ct2 := (blk_cell t3 2).trans rfl
      have cs0 := (blk_cell s3 0).trans rfl
      have cs1 := (blk_cell s3 1).trans rfl
      have cs2 := (blk_cell s3 2).trans rfl
      have cs3 := (blk_cell s3 3).trans rfl
      have cs4 := (blk_cell s3 4).trans rfl
      have cs5 := (blk_cell s3 5).trans rfl
      clear hk13 t3 s3 hJ3 hK3 HR hy HJ2 HK2 HT1 HS1 HK1 HW1
      gi_wp2
      refine ⟨trivial, (fun h => by cases h), ?_⟩
      refine (IH1.out _ (pre ++ X0 ++ [⟨o.a, o.b, o.g, goneB l (o.a, o.b)⟩]) _ HW3.out HJ3.out (by simp; omega)).mono ?_
      rintro e W4 (⟨rfl, hJ4, hK4⟩ | ⟨rfl, q, hq⟩)
      · gi_wp2
        go_ret
        exact .inl ⟨rfl, by simpa [List.append_assoc] using hJ4, HK3.out.trans hK4⟩
      · gi_wp2
        go_ret
        exact .inr ⟨rfl, q, hq⟩
    · gi_wp2
      refine ⟨trivial, ?_⟩
      gi_wp2
      go_ret
      exact .inr ⟨rfl, _, hx3⟩
  · gi_wp2
    refine ⟨trivial, ?_⟩
    gi_wp2
    refine ⟨fun _ h => (by cases h), ?_⟩
    gi_wp2
    refine ⟨trivial, ?_⟩
    gi_wp2
    go_ret
    exact .inr ⟨rfl, q, hq⟩

theorem up_num {l : List Op7} (hok : l.all okO = true) {d : Nat} {x : Int × Int} (h : Up l d x) : (0 ≤ x.1 ∧ x.1 ≤ 3) ∧ (0 ≤ x.2 ∧ x.2 ≤ 12) := by
  rcases up_inv h with ⟨_, rfl⟩ | ⟨e, o, _, hm, _, _, rfl⟩
  · simp
  · have := okO_num (List.all_eq_true.1 hok o hm)
    simp only
    omega
theorem lfs_app (l A B : List Op7) : lfs l (A ++ B) = lfs l A ++ lfs l B := by simp [lfs]
theorem lfs_step {l : List Op7} {n : Nat} {K : List Op7} {k : Nat} (h : k < K.length) : lfs l (sideK l n (K.take (k + 1))) = lfs l (sideK l n (K.take k)) ++ (lfs l (sideO l n (K[k].a, K[k].b, 0)) ++ ⟨K[k].a, K[k].b, K[k].g, goneB l (K[k].a, K[k].b)⟩ :: lfs l (sideO l n (K[k].a, K[k].b, 1))) := by
  rw [sideK_step h]
  simp [lfs]

set_option maxRecDepth 100000 in
set_option maxHeartbeats 4000000 in
theorem eachKid_in (l : List Op7) (hops : opsB l = true) (hn : l.length ≤ 1048576) (w0 : World) (b1 b2 b3 base : Nat) (hT : TreeAt w0 b1 b2 b3 base l) (lp B N : Nat) (J Jx : List Lf → World → Prop) (hJ : AbidesFrom B J)
    (hY : ∀ m pre (x : Lf) W, J pre W → pre.length < N → YieldAt Fence.wide m Tryd.prog lp #[.agg #[.int .i64 x.a, .int .i64 x.b, .int .i64 x.g, .bool x.z]] W fun e W' =>
      (e = .returned (.bool true) ∧ J (pre ++ [x]) W' ∧ KpT w0.heap.size W W') ∨ (e = .returned (.bool false) ∧ Jx (pre ++ [x]) W')) :
    ∀ (n d : Nat) (r m s : Int), Up l d (r, m) → (s = 0 ∨ s = 1) → d + n = l.length + 2 → ∀ k pre W, Below w0.heap.size w0 W → J pre W → pre.length + (lfs l (sideO l n (r, m, s))).length ≤ N →
      CallsIn Fence.wide k Tryd.prog 50 #[.agg #[.map (some b1), .map (some b2), .map (some b3)], .agg #[.int .i64 r, .int .i64 m, .int .i64 s], .func (.yield lp) #[] #[]] W (EPost w0.heap.size J Jx pre (lfs l (sideO l n (r, m, s))) W) := by
  intro n
  induction n with
  | zero =>
    intro d r m s hu _ hd
    have := up_le hops hu
    omega
  | succ n ih =>
    intro d r m s hu hs01 hd k pre W hW h0 hN
    have hnum := up_num (opsParts hops).1 hu
    simp only at hnum
    obtain ⟨ks, hks⟩ := key_spot (r := r) (m := m) (s := s) (wf_small (by omega)) (wf_small (by omega)) (wf_small (by omega))
    have OF : Hid (∀ o ∈ kidsL l (r, m, s), ∀ k pre W, Below w0.heap.size w0 W → J pre W → pre.length + ((lfs l (sideO l n (o.a, o.b, 0))).length + 1 + (lfs l (sideO l n (o.a, o.b, 1))).length) ≤ N →
        CallsIn Fence.wide k Tryd.prog 58 #[.agg #[.map (some b1), .map (some b2), .map (some b3)], .agg #[.int .i64 o.a, .int .i64 o.b, .int .i64 o.c, .int .i64 o.d, .int .i64 o.s, .int .i64 o.g], .func (.yield lp) #[] #[]] W (EPost w0.heap.size J Jx pre (lfs l (sideO l n (o.a, o.b, 0)) ++ ⟨o.a, o.b, o.g, goneB l (o.a, o.b)⟩ :: lfs l (sideO l n (o.a, o.b, 1))) W)) :=
      fun o ho k pre W hW h0 hN => eachOf_in l hops hn w0 b1 b2 b3 base hT lp B N J Jx hJ hY o (List.all_eq_true.1 (opsParts hops).1 o (mem_kids ho).1) _ _
        (fun k pre W hW h0 hN => ih (d + 1) o.a o.b 0 (up_kid ho hu) (.inl rfl) (by omega) k pre W hW h0 hN)
        (fun k pre W hW h0 hN => ih (d + 1) o.a o.b 1 (up_kid ho hu) (.inr rfl) (by omega) k pre W hW h0 hN) k pre W hW h0 hN
    rw [sideK_all] at hN ⊢
    obtain ⟨f, hf⟩ := hT.2.1
    have hrow := hf.at (r, m, s)
    have hM : Hid (MapFn Tryd.prog 73 w0 b2 encSpot f) := hf.1
    obtain ⟨v0, hv0⟩ : ∃ v0, (f (r, m, s)).getD (.slice none 0 0) = v0 := ⟨_, rfl⟩
    rw [hv0] at hrow
    have HV0 := hideIt hv0
    have HKS := hideIt hks
    have HJ := hideIt hJ
    have hn0 : w0.heap.size ≤ W.heap.size := hW.size
    have hKl : (kidsL l (r, m, s)).length ≤ 1048576 := Nat.le_trans (kids_le l _) hn
    clear ih hu hd hY hJ hT hf hv0 hks hops
    generalize kidsL l (r, m, s) = K at *
    have HBa : Hid (Below W.heap.size W ((W.alloc (.cells #[.map (some b1), .map (some b2), .map (some b3)] 55)).alloc (.cells #[.int .i64 r, .int .i64 m, .int .i64 s] 73))) := ((Below.refl _ _).alloc (Nat.le_refl _) _).alloc (by simp) _
    have HKa : Hid (KpT w0.heap.size W ((W.alloc (.cells #[.map (some b1), .map (some b2), .map (some b3)] 55)).alloc (.cells #[.int .i64 r, .int .i64 m, .int .i64 s] 73))) := KpT.of_below hn0 HBa.out
    have HWa := hideIt (hW.trans HKa.out.1)
    have HTa : Hid (((W.alloc (.cells #[.map (some b1), .map (some b2), .map (some b3)] 55)).alloc (.cells #[.int .i64 r, .int .i64 m, .int .i64 s] 73)).heap[W.heap.size]? = some (.cells #[.map (some b1), .map (some b2), .map (some b3)] 55 (0, 0))) := (Below.heap_alloc _ _ _ (by simp)).trans (World.alloc_heap_new _ _)
    have HJa := hideIt (abides_below HJ.out h0 HBa.out)
    clear h0 hW
    rcases row_cases hrow with ⟨hlen, p0, c0, rfl⟩ | ⟨hlen, G, cap0, rfl, hcap0, hGl, hcell⟩
    · obtain rfl : K = [] := List.length_eq_zero_iff.1 hlen
      refine callsIn_of_wp Tryd.func50 rfl trivial ?_ rfl
      simp only [Tryd.ntmps50, List.size_toArray, List.length_cons, List.length_nil, Nat.reduceAdd, Nat.reduceSub, Array.replicate_succ, Array.replicate_zero, List.push_toArray, List.append_toArray, List.nil_append, List.cons_append]
      gi_wp2_with (first
        | (gi_at_lookup; refine wpListIn_look0 (t := 52) (e := 71) rfl _ _ rfl keyedSpot Tryd.underlying52 (.slice none 0 0) (zeroSlice _) encSpot_inj rfl (hM.out.below HWa.out hM.out.lt) (r, m, s) rfl ks HKS.out _ HV0.out ?_)
        | gi_in)
      gi_loopw [14] (fun i wr => ∃ j : Nat, j = 0 ∧ i = .int .i64 j ∧ J pre wr ∧ KpT w0.heap.size W wr)
        (fun _ _ => 0)
      case atStart => exact ⟨0, rfl, rfl, HJa.out, HKa.out⟩
      case round =>
        obtain ⟨j, rfl, rfl, hj, hkp⟩ := hrel
        gi_wp2
        go_ret
        exact .inl ⟨rfl, by simpa [sideK, lfs] using hj, hkp⟩
    · have HCE := hideIt hcell
      clear hrow hcell
      refine callsIn_of_wp Tryd.func50 rfl trivial ?_ rfl
      simp only [Tryd.ntmps50, List.size_toArray, List.length_cons, List.length_nil, Nat.reduceAdd, Nat.reduceSub, Array.replicate_succ, Array.replicate_zero, List.push_toArray, List.append_toArray, List.nil_append, List.cons_append]
      gi_wp2_with (first
        | (gi_at_lookup; refine wpListIn_look0 (t := 52) (e := 71) rfl _ _ rfl keyedSpot Tryd.underlying52 (.slice none 0 0) (zeroSlice _) encSpot_inj rfl (hM.out.below HWa.out hM.out.lt) (r, m, s) rfl ks HKS.out _ HV0.out ?_)
        | gi_in)
      gi_loopw [14] (fun i wr => ∃ j : Nat, j ≤ K.length ∧ i = .int .i64 j ∧ J (pre ++ lfs l (sideK l n (K.take j))) wr ∧ KpT w0.heap.size W wr ∧ Below w0.heap.size w0 wr ∧ wr.heap[W.heap.size]? = some (.cells #[.map (some b1), .map (some b2), .map (some b3)] 55 (0, 0)))
        (fun i _ => K.length - (intOf i).toNat)
      case atStart => exact ⟨0, Nat.zero_le _, rfl, by simpa [sideK, lfs] using HJa.out, HKa.out, HWa.out, HTa.out⟩
      case round =>
        obtain ⟨j, hj, rfl, hJj, hKj, hWj, hTj⟩ := hrel
        have HJj := hideIt hJj
        have HKj := hideIt hKj
        have HWj := hideIt hWj
        have ct0 := (blk_cell hTj 0).trans rfl
        have ct1 := (blk_cell hTj 1).trans rfl
        have ct2 := (blk_cell hTj 2).trans rfl
        have HTj := hideIt hTj
        have hlw : W.heap.size < wr.heap.size := (Array.getElem?_eq_some_iff.1 hTj).1
        clear hJj hKj hTj HJa HKa HWa HTa HBa
        by_cases hlt : j < K.length
        · obtain ⟨i0', i1', i2', i3', i4', i5'⟩ := putCells_at K j K[j] (by simp [hlt])
          have cc : ∀ q, q < K.length * 6 → wr.cell? ⟨G, q, none⟩ = (putCells K)[q]? := fun q hq => (hWj.cell (p := ⟨G, q, none⟩) hGl).trans (HCE.out q hq)
          have y0 := (cc (j * 6) (by omega)).trans i0'
          have y1 := (cc (j * 6 + 1) (by omega)).trans i1'
          have y2 := (cc (j * 6 + 2) (by omega)).trans i2'
          have y3 := (cc (j * 6 + 3) (by omega)).trans i3'
          have y4 := (cc (j * 6 + 4) (by omega)).trans i4'
          have y5 := (cc (j * 6 + 5) (by omega)).trans i5'
          have HMK : Hid (K[j] ∈ K) := List.getElem_mem hlt
          have HST := hideIt (lfs_step (l := l) (n := n) hlt)
          have HLE : Hid (pre.length + (lfs l (sideK l n (K.take (j + 1)))).length ≤ N) := by
            have h := sideK_le (l := l) (n := n) (K := K) (j + 1)
            show pre.length + (lfs l (sideK l n (K.take (j + 1)))).length ≤ N
            rw [lfs_len] at hN ⊢
            omega
          have hGr : G < wr.heap.size := Nat.lt_of_lt_of_le hGl hWj.size
          generalize K[j] = o at *
          have hlt' : (j : Int) < (K.length : Int) := by omega
          have hj0 : (0 : Int) ≤ (j : Int) := by omega
          clear cc i0' i1' i2' i3' i4' i5' hWj
          have HBo : Hid (Below wr.heap.size wr (wr.alloc (.cells #[.int .i64 o.a, .int .i64 o.b, .int .i64 o.c, .int .i64 o.d, .int .i64 o.s, .int .i64 o.g] 77))) := (Below.refl _ _).alloc (Nat.le_refl _) _
          have HKo := hideIt (KpT.of_below (n0 := w0.heap.size) HWj.out.size HBo.out)
          have HJo := hideIt (abides_below HJ.out HJj.out HBo.out)
          have HWo := hideIt (HWj.out.trans HKo.out.1)
          have hll : pre.length + (lfs l (sideK l n (K.take j))).length + ((lfs l (sideO l n (o.a, o.b, 0))).length + 1 + (lfs l (sideO l n (o.a, o.b, 1))).length) ≤ N := by
            have h := HLE.out
            rw [HST.out] at h
            simp only [List.length_append, List.length_cons] at h
            omega
          gi_wp2
          refine ⟨trivial, (fun h => by cases h), ?_⟩
          refine (OF.out o HMK.out _ (pre ++ lfs l (sideK l n (K.take j))) _ HWo.out HJo.out (by rw [List.length_append]; exact hll)).mono ?_
          rintro e W5 (⟨rfl, hJ5, hK5⟩ | ⟨rfl, q, hq⟩)
          · have HJ5 := hideIt hJ5
            have HK5 := hideIt (HKo.out.trans hK5)
            clear hJ5 hK5
            gi_wp2
            exact ⟨⟨j + 1, by omega, by go_num, by rw [HST.out, ← List.append_assoc]; exact HJ5.out, HKj.out.trans HK5.out, HWj.out.trans HK5.out.1, HK5.out.cell HTj.out (.inl rfl)⟩, by simp [intOf]; omega⟩
          · gi_wp2
            go_ret
            exact .inr ⟨rfl, q, hq⟩
        · obtain rfl : j = K.length := by omega
          gi_wp2
          go_ret
          exact .inl ⟨rfl, by have h := HJj.out; rw [List.take_length] at h; exact h, HKj.out⟩
end Go.Proofs.YtpkdadccapemcaaDoor
