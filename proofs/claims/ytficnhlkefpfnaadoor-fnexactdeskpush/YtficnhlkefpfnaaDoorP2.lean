/- Contracts: can it be done, does it rightly wait (the program's). -/
import Derived.Test.YtficnhlkefpfnaaDoorP1
import Derived.RangeFuncNested
import Derived.RangeFuncBound
import Derived.RangeFuncCalls
import Derived.RangeFuncLeaves
import Derived.Shelf.Abstract
import Derived.OwnWalkIn
import Derived.TacticsInMore
import Derived.LoopNIn
import Derived.LoopIn
import Derived.RangeFuncBox
import Derived.Test.YtficnhlkefpfnaaDoorP0
import Derived.Deep.RegionHeld3
namespace Go.Proofs.YtficnhlkefpfnaaDoor
open Go.RowKit Go.Shelf
set_option linter.unusedSimpArgs false
set_option linter.unusedVariables false
attribute [local go_sem] Oper.semAt_some

theorem room_none {F : Fence} (hd : F.depth = none) (k : Nat) : F.room k := fun d h => by rw [hd] at h; cases h
theorem round_any {F : Fence} (hd : F.depth = none) {m m' : Nat} {P : Program} {l : Nat} {f : FuncId} {tmps : Array Value} {assign body : Code} {w : World} {R : Ending → World → Prop}
    (h : RoundIn F m P l f tmps assign body w R) : RoundIn F m' P l f tmps assign body w R := ⟨h.1, fun c cs _ => h.2 c cs (room_none hd _)⟩
theorem yield_any {F : Fence} (hd : F.depth = none) {m : Nat} (m' : Nat) {P : Program} {l : Nat} {args : Array Value} {W : World} {R : Ending → World → Prop} (h : YieldAt F m P l args W R) : YieldAt F m' P l args W R := by
  obtain ⟨fn, tmps, assign, body, hy, hR⟩ := h
  exact ⟨fn, tmps, assign, body, hy, round_any hd hR⟩

/-- What a round keeps: all that lay below n0, and the walk's own blocks. -/
def KpT (n0 : Nat) (W W' : World) : Prop := Below n0 W W' ∧ ∀ (b : Nat) (cur : Array Value) (T : TypeId) (fr : Nat × Nat), W.heap[b]? = some (.cells cur T fr) → (T = 152 ∨ T = 156 ∨ T = 168) → W'.heap[b]? = W.heap[b]?
theorem KpT.refl (n0 : Nat) (W : World) : KpT n0 W W := ⟨Below.refl _ _, fun _ _ _ _ _ _ => rfl⟩
theorem KpT.trans {n0 : Nat} {A B C : World} (h : KpT n0 A B) (k : KpT n0 B C) : KpT n0 A C :=
  ⟨h.1.trans k.1, fun b cur T fr hb hT => by have e := h.2 b cur T fr hb hT; exact (k.2 b cur T fr (e.trans hb) hT).trans e⟩
theorem KpT.of_below {n0 : Nat} {W W' : World} (hn : n0 ≤ W.heap.size) (h : Below W.heap.size W W') : KpT n0 W W' :=
  ⟨h.mono hn, fun b cur T fr hb _ => h.block b (Array.getElem?_eq_some_iff.1 hb).1⟩
theorem KpT.cell {n0 : Nat} {W W' : World} (h : KpT n0 W W') {b : Nat} {cur : Array Value} {T : TypeId} {fr : Nat × Nat} (hb : W.heap[b]? = some (.cells cur T fr)) (hT : T = 152 ∨ T = 156 ∨ T = 168) : W'.heap[b]? = some (.cells cur T fr) :=
  (h.2 b cur T fr hb hT).trans hb
/-- How a part of the walk ends: all of xs have come; or a round has said 'no more', at a beginning of them. -/
def EPost (n0 : Nat) (J Jx : List Lf → World → Prop) (pre xs : List Lf) (W : World) (e : Ending) (W' : World) : Prop :=
  (e = .returned (.bool true) ∧ J (pre ++ xs) W' ∧ KpT n0 W W') ∨ (e = .returned (.bool false) ∧ ∃ q t, q ++ t = pre ++ xs ∧ Jx q W')
theorem abides_below {B : Nat} {J : List Lf → World → Prop} (hJ : AbidesFrom B J) {pre : List Lf} {W W' : World} (h : J pre W) (hb : Below W.heap.size W W') : J pre W' :=
  hJ pre W W' none h ⟨hb.os, hb.tape, hb.output, hb.size, fun i hi _ => hb.block i hi⟩ (fun r e => by cases e)
theorem blk_cell {W : World} {b : Nat} {cur : Array Value} {T : TypeId} (h : W.heap[b]? = some (.cells cur T (0, 0))) (j : Nat) : W.cell? ⟨b, j, none⟩ = cur[j]? := by simp [World.cell?, h]

set_option maxRecDepth 100000 in
set_option maxHeartbeats 4000000 in
theorem eachOf_in (l : List Op7) (hops : opsB l = true) (hn : l.length ≤ 1048576) (w0 : World) (b1 b2 b3 base : Nat) (hT : TreeAt w0 b1 b2 b3 base l) (lp B N : Nat) (J Jx : List Lf → World → Prop) (hJ : AbidesFrom B J)
    (hY : ∀ m pre (x : Lf) W, J pre W → pre.length < N → YieldAt Fence.wide m Tryd.prog lp #[.agg #[.int .i64 x.a, .int .i64 x.b, .int .i64 x.g, .bool x.z]] W fun e W' =>
      (e = .returned (.bool true) ∧ J (pre ++ [x]) W' ∧ KpT w0.heap.size W W') ∨ (e = .returned (.bool false) ∧ Jx (pre ++ [x]) W'))
    (o : Op7) (hok : okO o = true) (X0 X1 : List Lf)
    (ih0 : ∀ k pre W, Below w0.heap.size w0 W → J pre W → pre.length + X0.length ≤ N → CallsIn Fence.wide k Tryd.prog 148 #[.agg #[.map (some b1), .map (some b2), .map (some b3)], .agg #[.int .i64 o.a, .int .i64 o.b, .int .i64 0], .func (.yield lp) #[] #[]] W (EPost w0.heap.size J Jx pre X0 W))
    (ih1 : ∀ k pre W, Below w0.heap.size w0 W → J pre W → pre.length + X1.length ≤ N → CallsIn Fence.wide k Tryd.prog 148 #[.agg #[.map (some b1), .map (some b2), .map (some b3)], .agg #[.int .i64 o.a, .int .i64 o.b, .int .i64 1], .func (.yield lp) #[] #[]] W (EPost w0.heap.size J Jx pre X1 W))
    (k : Nat) (pre : List Lf) (W : World) (hW : Below w0.heap.size w0 W) (h0 : J pre W) (hN : pre.length + (X0.length + 1 + X1.length) ≤ N) :
    CallsIn Fence.wide k Tryd.prog 150 #[.agg #[.map (some b1), .map (some b2), .map (some b3)], .agg #[.int .i64 o.a, .int .i64 o.b, .int .i64 o.c, .int .i64 o.d, .int .i64 o.s, .int .i64 o.g], .func (.yield lp) #[] #[]] W (EPost w0.heap.size J Jx pre (X0 ++ ⟨o.a, o.b, o.g, goneB l (o.a, o.b)⟩ :: X1) W) := by
  refine callsIn_of_wp Tryd.func150 rfl trivial ?_ rfl
  simp only [Tryd.ntmps150, List.size_toArray, List.length_cons, List.length_nil, Nat.reduceAdd, Nat.reduceSub, Array.replicate_succ, Array.replicate_zero, List.push_toArray, List.append_toArray, List.nil_append, List.cons_append]
  have hn0 : w0.heap.size ≤ W.heap.size := hW.size
  have HBa : Hid (Below W.heap.size W ((W.alloc (.cells #[.map (some b1), .map (some b2), .map (some b3)] 152)).alloc (.cells #[.int .i64 o.a, .int .i64 o.b, .int .i64 o.c, .int .i64 o.d, .int .i64 o.s, .int .i64 o.g] 168))) := ((Below.refl _ _).alloc (Nat.le_refl _) _).alloc (by simp) _
  have HKa : Hid (KpT w0.heap.size W ((W.alloc (.cells #[.map (some b1), .map (some b2), .map (some b3)] 152)).alloc (.cells #[.int .i64 o.a, .int .i64 o.b, .int .i64 o.c, .int .i64 o.d, .int .i64 o.s, .int .i64 o.g] 168))) := KpT.of_below hn0 HBa.out
  have HWa : Hid (Below w0.heap.size w0 ((W.alloc (.cells #[.map (some b1), .map (some b2), .map (some b3)] 152)).alloc (.cells #[.int .i64 o.a, .int .i64 o.b, .int .i64 o.c, .int .i64 o.d, .int .i64 o.s, .int .i64 o.g] 168))) := hW.trans HKa.out.1
  have HTa : Hid (((W.alloc (.cells #[.map (some b1), .map (some b2), .map (some b3)] 152)).alloc (.cells #[.int .i64 o.a, .int .i64 o.b, .int .i64 o.c, .int .i64 o.d, .int .i64 o.s, .int .i64 o.g] 168)).heap[W.heap.size]? = some (.cells #[.map (some b1), .map (some b2), .map (some b3)] 152 (0, 0))) := (Below.heap_alloc _ _ _ (by simp)).trans (World.alloc_heap_new _ _)
  have HSa : Hid (((W.alloc (.cells #[.map (some b1), .map (some b2), .map (some b3)] 152)).alloc (.cells #[.int .i64 o.a, .int .i64 o.b, .int .i64 o.c, .int .i64 o.d, .int .i64 o.s, .int .i64 o.g] 168)).heap[W.heap.size + 1]? = some (.cells #[.int .i64 o.a, .int .i64 o.b, .int .i64 o.c, .int .i64 o.d, .int .i64 o.s, .int .i64 o.g] 168 (0, 0))) := by
    have h := World.alloc_heap_new (W.alloc (.cells #[.map (some b1), .map (some b2), .map (some b3)] 152)) (.cells #[.int .i64 o.a, .int .i64 o.b, .int .i64 o.c, .int .i64 o.d, .int .i64 o.s, .int .i64 o.g] 168)
    rw [World.size_alloc] at h
    exact h
  have IH0 := hideIt ih0
  have IH1 := hideIt ih1
  have HY := hideIt hY
  have HJ := hideIt hJ
  have HT := hideIt hT
  have HJa := hideIt (abides_below hJ h0 HBa.out)
  clear ih0 ih1 hY hJ hT h0 hW
  gi_wp2
  refine ⟨trivial, (fun h => by cases h), ?_⟩
  refine (IH0.out _ pre _ HWa.out HJa.out (by omega)).mono ?_
  rintro e W1 (⟨rfl, hJ1, hK1⟩ | ⟨rfl, q, t, hqt, hq⟩)
  · have t1 := hK1.cell HTa.out (.inl rfl)
    have s1 := hK1.cell HSa.out (.inr (.inr rfl))
    have HT1 := hideIt t1
    have HS1 := hideIt s1
    have HJ1 := hideIt hJ1
    have HK1 := hideIt (HKa.out.trans hK1)
    have HW1 := hideIt (HWa.out.trans hK1.1)
    have ct0 := (blk_cell t1 0).trans rfl
    have ct1 := (blk_cell t1 1).trans rfl
    have ct2 := (blk_cell t1 2).trans rfl
    have cs0 := (blk_cell s1 0).trans rfl
    have cs1 := (blk_cell s1 1).trans rfl
    have cs2 := (blk_cell s1 2).trans rfl
    have cs3 := (blk_cell s1 3).trans rfl
    have cs4 := (blk_cell s1 4).trans rfl
    have cs5 := (blk_cell s1 5).trans rfl
    clear t1 s1 hJ1 hK1 HJa HKa HWa HTa HSa HBa
    gi_wp2
    refine ⟨trivial, (fun h => by cases h), ?_⟩
    refine (callsIn_wide.2 (leafOf_any l hops hn b1 b2 b3 base o hok W1 (HT.out.below HW1.out))).mono ?_
    rintro e W2 ⟨rfl, hb2⟩
    have HK2 := hideIt (KpT.of_below (n0 := w0.heap.size) HW1.out.size hb2)
    have HJ2 := hideIt (abides_below HJ.out HJ1.out hb2)
    clear hb2 ct0 ct1 ct2 cs0 cs1 cs2 cs3 cs4 cs5 HJ1
    obtain ⟨fn, tmps, assign, body, hy, hR⟩ := HY.out (k - 1) (pre ++ X0) ⟨o.a, o.b, o.g, goneB l (o.a, o.b)⟩ W2 HJ2.out (by simp; omega)
    dsimp only at hy
    have HR := hideIt hR
    clear hR
    gi_wp2
    refine ⟨(fun h => by cases h), ?_⟩
    refine HR.out.mono ?_
    rintro e W3 (⟨rfl, hJ3, hK3⟩ | ⟨rfl, hx3⟩)
    · have hk13 := HK2.out.trans hK3
      have t3 := hk13.cell HT1.out (.inl rfl)
      have s3 := hk13.cell HS1.out (.inr (.inr rfl))
      have HJ3 := hideIt hJ3
      have HK3 := hideIt (HK1.out.trans hk13)
      have HW3 := hideIt (HW1.out.trans hk13.1)
      have ct0 := (blk_cell t3 0).trans rfl
      have ct1 := (blk_cell t3 1).trans rfl
      have ct2 := (blk_cell t3 2).trans rfl
      have cs0 := (blk_cell s3 0).trans rfl
      have cs1 := (blk_cell s3 1).trans rfl
      have cs2 := (blk_cell s3 2).trans rfl
      have cs3 := (blk_cell s3 3).trans rfl
      have cs4 := (blk_cell s3 4).trans rfl
      have cs5 := (blk_cell s3 5).trans rfl
      clear hk13 t3 s3 hJ3 hK3 HR hy HJ2 HK2 HT1 HS1 HK1 HW1
      gi_wp2
      refine ⟨trivial, (fun h => by cases h), ?_⟩
      refine (IH1.out _ (pre ++ X0 ++ [⟨o.a, o.b, o.g, goneB l (o.a, o.b)⟩]) _ HW3.out HJ3.out (by simp; omega)).mono ?_
      rintro e W4 (⟨rfl, hJ4, hK4⟩ | ⟨rfl, q, t, hqt, hq⟩)
      · gi_wp2
        go_ret
        exact .inl ⟨rfl, by simpa [List.append_assoc] using hJ4, HK3.out.trans hK4⟩
      · gi_wp2
        go_ret
        exact .inr ⟨rfl, q, t, by simpa [List.append_assoc] using hqt, hq⟩
    · gi_wp2
      refine ⟨trivial, ?_⟩
      gi_wp2
      go_ret
      exact .inr ⟨rfl, _, _, by simp [List.append_assoc]; rfl, hx3⟩
  · gi_wp2
    refine ⟨trivial, ?_⟩
    gi_wp2
    refine ⟨fun _ h => (by cases h), ?_⟩
    gi_wp2
    refine ⟨trivial, ?_⟩
    gi_wp2
    go_ret
    exact .inr ⟨rfl, q, t ++ _, by rw [← List.append_assoc, hqt, List.append_assoc], hq⟩

theorem up_num {l : List Op7} (hok : l.all okO = true) {d : Nat} {x : Int × Int} (h : Up l d x) : (0 ≤ x.1 ∧ x.1 ≤ 3) ∧ (0 ≤ x.2 ∧ x.2 ≤ 12) := by
  rcases up_inv h with ⟨_, rfl⟩ | ⟨e, o, _, hm, _, _, rfl⟩
  · simp
  · have := okO_num (List.all_eq_true.1 hok o hm)
    simp only
    omega
theorem lfs_app (l A B : List Op7) : lfs l (A ++ B) = lfs l A ++ lfs l B := by simp [lfs]
theorem lfs_step {l : List Op7} {n : Nat} {K : List Op7} {k : Nat} (h : k < K.length) : lfs l (sideK l n (K.take (k + 1))) = lfs l (sideK l n (K.take k)) ++ (lfs l (sideO l n (K[k].a, K[k].b, 0)) ++ ⟨K[k].a, K[k].b, K[k].g, goneB l (K[k].a, K[k].b)⟩ :: lfs l (sideO l n (K[k].a, K[k].b, 1))) := by
  rw [sideK_step h]
  simp [lfs]

theorem sideK_app (l : List Op7) (n : Nat) (A B : List Op7) : sideK l n (A ++ B) = sideK l n A ++ sideK l n B := by
  simp [sideK]
theorem lfs_rest {l : List Op7} {n : Nat} {K : List Op7} (k : Nat) : ∃ r, lfs l (sideK l n K) = lfs l (sideK l n (K.take k)) ++ r :=
  ⟨lfs l (sideK l n (K.drop k)), by rw [← lfs_app, ← sideK_app, List.take_append_drop]⟩

set_option maxRecDepth 100000 in
set_option maxHeartbeats 4000000 in
theorem eachKid_in (l : List Op7) (hops : opsB l = true) (hn : l.length ≤ 1048576) (w0 : World) (b1 b2 b3 base : Nat) (hT : TreeAt w0 b1 b2 b3 base l) (lp B N : Nat) (J Jx : List Lf → World → Prop) (hJ : AbidesFrom B J)
    (hY : ∀ m pre (x : Lf) W, J pre W → pre.length < N → YieldAt Fence.wide m Tryd.prog lp #[.agg #[.int .i64 x.a, .int .i64 x.b, .int .i64 x.g, .bool x.z]] W fun e W' =>
      (e = .returned (.bool true) ∧ J (pre ++ [x]) W' ∧ KpT w0.heap.size W W') ∨ (e = .returned (.bool false) ∧ Jx (pre ++ [x]) W')) :
    ∀ (n d : Nat) (r m s : Int), Up l d (r, m) → (s = 0 ∨ s = 1) → d + n = l.length + 2 → ∀ k pre W, Below w0.heap.size w0 W → J pre W → pre.length + (lfs l (sideO l n (r, m, s))).length ≤ N →
      CallsIn Fence.wide k Tryd.prog 148 #[.agg #[.map (some b1), .map (some b2), .map (some b3)], .agg #[.int .i64 r, .int .i64 m, .int .i64 s], .func (.yield lp) #[] #[]] W (EPost w0.heap.size J Jx pre (lfs l (sideO l n (r, m, s))) W) := by
  intro n
  induction n with
  | zero =>
    intro d r m s hu _ hd
    have := up_le hops hu
    omega
  | succ n ih =>
    intro d r m s hu hs01 hd k pre W hW h0 hN
    have hnum := up_num (opsParts hops).1 hu
    simp only at hnum
    obtain ⟨ks, hks⟩ := key_spot (r := r) (m := m) (s := s) (wf_small (by omega)) (wf_small (by omega)) (wf_small (by omega))
    have OF : Hid (∀ o ∈ kidsL l (r, m, s), ∀ k pre W, Below w0.heap.size w0 W → J pre W → pre.length + ((lfs l (sideO l n (o.a, o.b, 0))).length + 1 + (lfs l (sideO l n (o.a, o.b, 1))).length) ≤ N →
        CallsIn Fence.wide k Tryd.prog 150 #[.agg #[.map (some b1), .map (some b2), .map (some b3)], .agg #[.int .i64 o.a, .int .i64 o.b, .int .i64 o.c, .int .i64 o.d, .int .i64 o.s, .int .i64 o.g], .func (.yield lp) #[] #[]] W (EPost w0.heap.size J Jx pre (lfs l (sideO l n (o.a, o.b, 0)) ++ ⟨o.a, o.b, o.g, goneB l (o.a, o.b)⟩ :: lfs l (sideO l n (o.a, o.b, 1))) W)) :=
      fun o ho k pre W hW h0 hN => eachOf_in l hops hn w0 b1 b2 b3 base hT lp B N J Jx hJ hY o (List.all_eq_true.1 (opsParts hops).1 o (mem_kids ho).1) _ _
        (fun k pre W hW h0 hN => ih (d + 1) o.a o.b 0 (up_kid ho hu) (.inl rfl) (by omega) k pre W hW h0 hN)
        (fun k pre W hW h0 hN => ih (d + 1) o.a o.b 1 (up_kid ho hu) (.inr rfl) (by omega) k pre W hW h0 hN) k pre W hW h0 hN
    rw [sideK_all] at hN ⊢
    obtain ⟨f, hf⟩ := hT.2.1
    have hrow := hf.at (r, m, s)
    have hM : Hid (MapFn Tryd.prog 156 w0 b2 encSpot f) := hf.1
    obtain ⟨v0, hv0⟩ : ∃ v0, (f (r, m, s)).getD (.slice none 0 0) = v0 := ⟨_, rfl⟩
    rw [hv0] at hrow
    have HV0 := hideIt hv0
    have HKS := hideIt hks
    have HJ := hideIt hJ
    have hn0 : w0.heap.size ≤ W.heap.size := hW.size
    have hKl : (kidsL l (r, m, s)).length ≤ 1048576 := Nat.le_trans (kids_le l _) hn
    clear ih hu hd hY hJ hT hf hv0 hks hops
    generalize kidsL l (r, m, s) = K at *
    have HBa : Hid (Below W.heap.size W ((W.alloc (.cells #[.map (some b1), .map (some b2), .map (some b3)] 152)).alloc (.cells #[.int .i64 r, .int .i64 m, .int .i64 s] 156))) := ((Below.refl _ _).alloc (Nat.le_refl _) _).alloc (by simp) _
    have HKa : Hid (KpT w0.heap.size W ((W.alloc (.cells #[.map (some b1), .map (some b2), .map (some b3)] 152)).alloc (.cells #[.int .i64 r, .int .i64 m, .int .i64 s] 156))) := KpT.of_below hn0 HBa.out
    have HWa := hideIt (hW.trans HKa.out.1)
    have HTa : Hid (((W.alloc (.cells #[.map (some b1), .map (some b2), .map (some b3)] 152)).alloc (.cells #[.int .i64 r, .int .i64 m, .int .i64 s] 156)).heap[W.heap.size]? = some (.cells #[.map (some b1), .map (some b2), .map (some b3)] 152 (0, 0))) := (Below.heap_alloc _ _ _ (by simp)).trans (World.alloc_heap_new _ _)
    have HJa := hideIt (abides_below HJ.out h0 HBa.out)
    clear h0 hW
    rcases row_cases hrow with ⟨hlen, p0, c0, rfl⟩ | ⟨hlen, G, cap0, rfl, hcap0, hGl, hcell⟩
    · obtain rfl : K = [] := List.length_eq_zero_iff.1 hlen
      refine callsIn_of_wp Tryd.func148 rfl trivial ?_ rfl
      simp only [Tryd.ntmps148, List.size_toArray, List.length_cons, List.length_nil, Nat.reduceAdd, Nat.reduceSub, Array.replicate_succ, Array.replicate_zero, List.push_toArray, List.append_toArray, List.nil_append, List.cons_append]
      gi_wp2_with (first
        | (gi_at_lookup; refine wpListIn_look0 (t := 149) (e := 189) rfl _ _ rfl keyedSpot Tryd.underlying149 (.slice none 0 0) (zeroSlice _) encSpot_inj rfl (hM.out.below HWa.out hM.out.lt) (r, m, s) rfl ks HKS.out _ HV0.out ?_)
        | gi_in)
      gi_loopw [14] (fun i wr => ∃ j : Nat, j = 0 ∧ i = .int .i64 j ∧ J pre wr ∧ KpT w0.heap.size W wr)
        (fun _ _ => 0)
      case atStart => exact ⟨0, rfl, rfl, HJa.out, HKa.out⟩
      case round =>
        obtain ⟨j, rfl, rfl, hj, hkp⟩ := hrel
        gi_wp2
        go_ret
        exact .inl ⟨rfl, by simpa [sideK, lfs] using hj, hkp⟩
    · have HCE := hideIt hcell
      clear hrow hcell
      refine callsIn_of_wp Tryd.func148 rfl trivial ?_ rfl
      simp only [Tryd.ntmps148, List.size_toArray, List.length_cons, List.length_nil, Nat.reduceAdd, Nat.reduceSub, Array.replicate_succ, Array.replicate_zero, List.push_toArray, List.append_toArray, List.nil_append, List.cons_append]
      gi_wp2_with (first
        | (gi_at_lookup; refine wpListIn_look0 (t := 149) (e := 189) rfl _ _ rfl keyedSpot Tryd.underlying149 (.slice none 0 0) (zeroSlice _) encSpot_inj rfl (hM.out.below HWa.out hM.out.lt) (r, m, s) rfl ks HKS.out _ HV0.out ?_)
        | gi_in)
      gi_loopw [14] (fun i wr => ∃ j : Nat, j ≤ K.length ∧ i = .int .i64 j ∧ J (pre ++ lfs l (sideK l n (K.take j))) wr ∧ KpT w0.heap.size W wr ∧ Below w0.heap.size w0 wr ∧ wr.heap[W.heap.size]? = some (.cells #[.map (some b1), .map (some b2), .map (some b3)] 152 (0, 0)))
        (fun i _ => K.length - (intOf i).toNat)
      case atStart => exact ⟨0, Nat.zero_le _, rfl, by simpa [sideK, lfs] using HJa.out, HKa.out, HWa.out, HTa.out⟩
      case round =>
        obtain ⟨j, hj, rfl, hJj, hKj, hWj, hTj⟩ := hrel
        have HJj := hideIt hJj
        have HKj := hideIt hKj
        have HWj := hideIt hWj
        have ct0 := (blk_cell hTj 0).trans rfl
        have ct1 := (blk_cell hTj 1).trans rfl
        have ct2 := (blk_cell hTj 2).trans rfl
        have HTj := hideIt hTj
        have hlw : W.heap.size < wr.heap.size := (Array.getElem?_eq_some_iff.1 hTj).1
        clear hJj hKj hTj HJa HKa HWa HTa HBa
        by_cases hlt : j < K.length
        · obtain ⟨i0', i1', i2', i3', i4', i5'⟩ := putCells_at K j K[j] (by simp [hlt])
          have cc : ∀ q, q < K.length * 6 → wr.cell? ⟨G, q, none⟩ = (putCells K)[q]? := fun q hq => (hWj.cell (p := ⟨G, q, none⟩) hGl).trans (HCE.out q hq)
          have y0 := (cc (j * 6) (by omega)).trans i0'
          have y1 := (cc (j * 6 + 1) (by omega)).trans i1'
          have y2 := (cc (j * 6 + 2) (by omega)).trans i2'
          have y3 := (cc (j * 6 + 3) (by omega)).trans i3'
          have y4 := (cc (j * 6 + 4) (by omega)).trans i4'
          have y5 := (cc (j * 6 + 5) (by omega)).trans i5'
          have HMK : Hid (K[j] ∈ K) := List.getElem_mem hlt
          have HST := hideIt (lfs_step (l := l) (n := n) hlt)
          have HLE : Hid (pre.length + (lfs l (sideK l n (K.take (j + 1)))).length ≤ N) := by
            have h := sideK_le (l := l) (n := n) (K := K) (j + 1)
            show pre.length + (lfs l (sideK l n (K.take (j + 1)))).length ≤ N
            rw [lfs_len] at hN ⊢
            omega
          have hGr : G < wr.heap.size := Nat.lt_of_lt_of_le hGl hWj.size
          generalize K[j] = o at *
          have hlt' : (j : Int) < (K.length : Int) := by omega
          have hj0 : (0 : Int) ≤ (j : Int) := by omega
          clear cc i0' i1' i2' i3' i4' i5' hWj
          have HBo : Hid (Below wr.heap.size wr (wr.alloc (.cells #[.int .i64 o.a, .int .i64 o.b, .int .i64 o.c, .int .i64 o.d, .int .i64 o.s, .int .i64 o.g] 168))) := (Below.refl _ _).alloc (Nat.le_refl _) _
          have HKo := hideIt (KpT.of_below (n0 := w0.heap.size) HWj.out.size HBo.out)
          have HJo := hideIt (abides_below HJ.out HJj.out HBo.out)
          have HWo := hideIt (HWj.out.trans HKo.out.1)
          have hll : pre.length + (lfs l (sideK l n (K.take j))).length + ((lfs l (sideO l n (o.a, o.b, 0))).length + 1 + (lfs l (sideO l n (o.a, o.b, 1))).length) ≤ N := by
            have h := HLE.out
            rw [HST.out] at h
            simp only [List.length_append, List.length_cons] at h
            omega
          gi_wp2
          refine ⟨trivial, (fun h => by cases h), ?_⟩
          refine (OF.out o HMK.out _ (pre ++ lfs l (sideK l n (K.take j))) _ HWo.out HJo.out (by rw [List.length_append]; exact hll)).mono ?_
          rintro e W5 (⟨rfl, hJ5, hK5⟩ | ⟨rfl, q, t, hqt, hq⟩)
          · have HJ5 := hideIt hJ5
            have HK5 := hideIt (HKo.out.trans hK5)
            clear hJ5 hK5
            gi_wp2
            exact ⟨⟨j + 1, by omega, by go_num, by rw [HST.out, ← List.append_assoc]; exact HJ5.out, HKj.out.trans HK5.out, HWj.out.trans HK5.out.1, HK5.out.cell HTj.out (.inl rfl)⟩, by simp [intOf]; omega⟩
          · gi_wp2
            go_ret
            obtain ⟨r, hr⟩ := lfs_rest (l := l) (n := n) (K := K) (j + 1)
            exact .inr ⟨rfl, q, t ++ r, by rw [hr, HST.out, ← List.append_assoc, hqt]; simp [List.append_assoc], hq⟩
        · obtain rfl : j = K.length := by omega
          gi_wp2
          go_ret
          exact .inl ⟨rfl, by have h := HJj.out; rw [List.take_length] at h; exact h, HKj.out⟩
end Go.Proofs.YtficnhlkefpfnaaDoor

namespace Go.Proofs.YtficnhlkefpfnaaDoor
open Go.RowKit Go.Shelf
set_option linter.unusedSimpArgs false
set_option linter.unusedVariables false
attribute [local go_sem] Oper.semAt_some

theorem leaves_any (v1 v2 v3 : Value) (w : World) (h : v1.cells = #[v1] ∧ v2.cells = #[v2] ∧ v3.cells = #[v3]) (b1 b2 b3 : Nat) (hv : v1 = .map (some b1) ∧ v2 = .map (some b2) ∧ v3 = .map (some b3)) :
    Calls Tryd.prog 145 #[.agg #[v1, v2, v3]] w fun e w' => e = .returned (.func (.func 147) #[] #[.pointer (some ⟨w.heap.size, 0, none⟩)]) ∧ w' = w.alloc (.cells #[v1, v2, v3] 152) := by
  obtain ⟨rfl, rfl, rfl⟩ := hv
  go_enter Tryd.func145, Tryd.ntmps145
  go_wp2
  go_ret
  exact ⟨rfl, rfl⟩

/-- A leaf as a value. -/
def lfV (x : Lf) : Value := .agg #[.int .i64 x.a, .int .i64 x.b, .int .i64 x.g, .bool x.z]

set_option maxRecDepth 100000 in
set_option maxHeartbeats 2000000 in
theorem leaves1_in (l : List Op7) (hops : opsB l = true) (hn : l.length ≤ 1048576) (w0 : World) (b1 b2 b3 base : Nat) (hT : TreeAt w0 b1 b2 b3 base l) (lp B : Nat) (J Jx : List Lf → World → Prop) (hJ : AbidesFrom B J)
    (hY : ∀ m pre (x : Lf) W, J pre W → pre.length < (allO l).length → YieldAt Fence.wide m Tryd.prog lp #[lfV x] W fun e W' =>
      (e = .returned (.bool true) ∧ J (pre ++ [x]) W' ∧ KpT w0.heap.size W W') ∨ (e = .returned (.bool false) ∧ Jx (pre ++ [x]) W'))
    (k Bt : Nat) (W : World) (hW : Below w0.heap.size w0 W) (h0 : J [] W) (hB : W.heap[Bt]? = some (.cells #[.map (some b1), .map (some b2), .map (some b3)] 152 (0, 0))) :
    CallsIn Fence.wide k Tryd.prog 147 #[.func (.yield lp) #[] #[], .pointer (some ⟨Bt, 0, none⟩)] W fun e W' => (∃ v, e = .returned v) ∧ ((∃ xs, xs = lfs l (allO l) ∧ J xs W') ∨ (∃ pre, (∃ t, pre ++ t = lfs l (allO l)) ∧ Jx pre W')) := by
  have hK := eachKid_in l hops hn w0 b1 b2 b3 base hT lp B (allO l).length J Jx hJ hY (l.length + 2) 0 0 0 1 Up.zero (.inr rfl) (by omega)
  have HK := hideIt hK
  have ct0 := (blk_cell hB 0).trans rfl
  have ct1 := (blk_cell hB 1).trans rfl
  have ct2 := (blk_cell hB 2).trans rfl
  clear hK hY hT
  refine callsIn_of_wp Tryd.func147 rfl trivial ?_ rfl
  simp only [Tryd.ntmps147, List.size_toArray, List.length_cons, List.length_nil, Nat.reduceAdd, Nat.reduceSub, Array.replicate_succ, Array.replicate_zero, List.push_toArray, List.append_toArray, List.nil_append, List.cons_append]
  gi_wp2
  refine ⟨trivial, (fun h => by cases h), ?_⟩
  refine (HK.out _ [] _ hW h0 (by simp [lfs_len, allO])).mono ?_
  rintro e W5 (⟨rfl, hJ5, hK5⟩ | ⟨rfl, q, t, hqt, hq⟩)
  · gi_wp2
    go_end0
    exact ⟨⟨_, rfl⟩, .inl ⟨_, rfl, by have h := hJ5; rw [List.nil_append] at h; exact h⟩⟩
  · gi_wp2
    go_end0
    exact ⟨⟨_, rfl⟩, .inr ⟨q, ⟨t, by rw [List.nil_append] at hqt; exact hqt⟩, hq⟩⟩

theorem leaves_stops (l : List Op7) (hops : opsB l = true) (hn : l.length ≤ 1048576) (w0 : World) (b1 b2 b3 base : Nat) (hT : TreeAt w0 b1 b2 b3 base l) (n Bt : Nat) (w : World) (hW : Below w0.heap.size w0 w)
    (hB : w.heap[Bt]? = some (.cells #[.map (some b1), .map (some b2), .map (some b3)] 152 (0, 0))) :
    SeqStopsK Fence.wide n Tryd.prog 147 #[.pointer (some ⟨Bt, 0, none⟩)] (fun x : Lf => #[lfV x]) (KpT w0.heap.size) (fun ys => ys = lfs l (allO l)) (fun pre => ∃ t, pre ++ t = lfs l (allO l)) (allO l).length w := fun lp J Jx W hb hJ hJx hY h0 =>
  leaves1_in l hops hn w0 b1 b2 b3 base hT lp W.heap.size J Jx hJ (fun m pre x W1 h1 h2 => yield_any rfl m (hY pre x W1 h1 h2)) n Bt W (hW.trans (hb.mono hW.size)) h0
    ((hb.block Bt (Array.getElem?_eq_some_iff.1 hB).1).trans hB)

theorem kpT_b {n0 : Nat} {w : World} (hn : n0 ≤ w.heap.size) (W : World) (l : Nat) (o o' : Obj) (hl : w.heap.size ≤ l) (h : W.heap[l]? = some o) (hc : o.isCells = false) (hw : o.isWalk = false) : KpT n0 W (W.putObj l o') :=
  ⟨belowK_b hn W l o o' hl h hc hw, fun b cur T fr hb _ => World.putObj_heap_other (fun e => by subst e; rw [hb] at h; cases h; cases hc)⟩
/-- A row of leaves, and a box, are none of the walk's own blocks. -/
theorem kpT_row {n0 : Nat} {W W' : World} {row : Option Nat} (hn : n0 ≤ W.heap.size) (hg : W.grownBy W' row) (hr : ∀ j, row = some j → n0 ≤ j ∧ ∃ cur T fr, W.heap[j]? = some (.cells cur T fr) ∧ ¬ (T = 152 ∨ T = 156 ∨ T = 168)) : KpT n0 W W' :=
  ⟨(Below.refl n0 W).grown hg hn (fun k e => (hr k e).1), fun b cur T fr hb hT => hg.block b (Array.getElem?_eq_some_iff.1 hb).1 (fun e => by
    obtain ⟨_, cur', T', fr', h1, h2⟩ := hr b e.symm
    rw [hb] at h1
    cases h1
    exact h2 hT)⟩
theorem own_type {W : World} {b : Nat} {T : TypeId} {m : Nat} {v : Value} {n : Nat} {xs : List Value} (h : W.ownsRow b T m v n xs) {j : Nat} (e : v.ownBlock = some j) (hT : ¬ (T = 152 ∨ T = 156 ∨ T = 168)) : ∃ cur T fr, W.heap[j]? = some (.cells cur T fr) ∧ ¬ (T = 152 ∨ T = 156 ∨ T = 168) := by
  rcases h.2 with ⟨rfl, _⟩ | ⟨g, cap, cur, rfl, _, hg, _⟩
  · cases e
  · obtain rfl : g = j := by simpa [Value.ownBlock] using e
    exact ⟨cur, T, _, hg, hT⟩
theorem lf_one : ∀ {a b g : Int} {z : Bool}, ∀ u ∈ [Value.int .i64 a, .int .i64 b, .int .i64 g, .bool z], u.oneCell' = true := by
  intro a b g z u hu
  simp at hu
  rcases hu with rfl | rfl | rfl | rfl <;> rfl
theorem lfCells_more (L : List Lf) (x : Lf) : lfCells (L ++ [x]) = lfCells L ++ [.int .i64 x.a, .int .i64 x.b, .int .i64 x.g, .bool x.z] := by simp [lfCells]

end Go.Proofs.YtficnhlkefpfnaaDoor

namespace Go.Proofs.YtficnhlkefpfnaaDoor
open Go.RowKit
set_option linter.unusedSimpArgs false
set_option linter.unusedVariables false

/-- A sign in the row of all, and behind it all that was put on its right. -/
theorem side_at {l : List Op7} : ∀ (n d : Nat) (x : Int × Int × Int) (p : Op7), Up l d (x.1, x.2.1) → d + n = l.length + 2 → p ∈ sideO l n x →
    ∃ pre post n' d', Up l d' (p.a, p.b) ∧ d' + n' = l.length + 2 ∧ sideO l n x = pre ++ p :: (sideO l n' (p.a, p.b, 1) ++ post) := by
  intro n
  induction n with
  | zero => intro d x p _ _ h; cases h
  | succ n ih =>
    intro d x p hu hd hp
    obtain ⟨o, ho, hpo⟩ := List.mem_flatMap.1 hp
    have huo := up_kid ho hu
    obtain ⟨K1, K2, hK⟩ := List.append_of_mem ho
    have hS : sideO l (n + 1) x = sideK l n K1 ++ (sideO l n (o.a, o.b, 0) ++ o :: sideO l n (o.a, o.b, 1)) ++ sideK l n K2 := by
      rw [sideK_all, hK]
      simp [sideK]
    rcases List.mem_append.1 hpo with h | h
    · obtain ⟨pre, post, n', d', h1, h2, h3⟩ := ih (d + 1) (o.a, o.b, 0) p huo (by omega) h
      exact ⟨sideK l n K1 ++ pre, post ++ (o :: sideO l n (o.a, o.b, 1)) ++ sideK l n K2, n', d', h1, h2, by rw [hS, h3]; simp⟩
    · rcases List.mem_cons.1 h with rfl | h
      · exact ⟨sideK l n K1 ++ sideO l n (p.a, p.b, 0), sideK l n K2, n, d + 1, huo, by omega, by rw [hS]; simp⟩
      · obtain ⟨pre, post, n', d', h1, h2, h3⟩ := ih (d + 1) (o.a, o.b, 1) p huo (by omega) h
        exact ⟨sideK l n K1 ++ sideO l n (o.a, o.b, 0) ++ o :: pre, post ++ sideK l n K2, n', d', h1, h2, by rw [hS, h3]; simp⟩
theorem nodup_all {l : List Op7} (h : opsB l = true) : (allO l).Nodup := by
  obtain ⟨hok, hord⟩ := opsParts h
  have h1 := once_of hok hord
  exact nodup_side hok h1 (nodup_of_once h1) _ 0 _ Up.zero
/-- What was put on a sign's right stands behind it. -/
theorem all_next {l : List Op7} (h : opsB l = true) {j : Nat} {p : Op7} (hj : (allO l)[j]? = some p) (hk : kidsL l (p.a, p.b, 1) ≠ []) : j + 1 < (allO l).length := by
  obtain ⟨pre, post, n', d', h1, h2, h3⟩ := side_at (l := l) (l.length + 2) 0 (0, 0, 1) p Up.zero (by omega) (List.mem_of_getElem? hj)
  obtain ⟨y, hy⟩ := List.exists_mem_of_ne_nil _ hk
  have hu := up_le h (up_kid (x := (p.a, p.b, 1)) hy h1)
  obtain ⟨m, rfl⟩ : ∃ m, n' = m + 1 := ⟨n' - 1, by omega⟩
  have hmem : y ∈ sideO l (m + 1) (p.a, p.b, 1) := by
    rw [sideK_all]
    exact List.mem_flatMap.2 ⟨y, hy, by simp⟩
  have hpos : 0 < (sideO l (m + 1) (p.a, p.b, 1)).length := List.length_pos_of_mem hmem
  have hnd : (allO l).Nodup := nodup_all h
  have h3' : allO l = pre ++ p :: (sideO l (m + 1) (p.a, p.b, 1) ++ post) := h3
  have hlen : (allO l).length = pre.length + 1 + (sideO l (m + 1) (p.a, p.b, 1)).length + post.length := by rw [h3']; simp; omega
  have hlt : j < (allO l).length := (List.getElem?_eq_some_iff.1 hj).1
  have hp2 : (allO l)[pre.length]? = some p := by rw [h3']; simp
  have : j = pre.length := (List.getElem?_inj hlt hnd).1 (hj.trans hp2.symm)
  omega
/-- If something was put on the right of nothing, there is a first one. -/
theorem all_first {l : List Op7} (h : opsB l = true) (hk : kidsL l (0, 0, 1) ≠ []) : 0 < (allO l).length := by
  obtain ⟨y, hy⟩ := List.exists_mem_of_ne_nil _ hk
  exact List.length_pos_of_mem (a := y) (List.mem_flatMap.2 ⟨y, hy, by simp⟩)
/-- Where, among the first k leaves, those are that are not gone. -/
def shownTo (L : List Lf) (k : Nat) : List Nat := (List.range k).filter fun i => match L[i]? with | some x => !x.z | none => false
def shownI (L : List Lf) : List Nat := shownTo L L.length
theorem shownTo_gone {L : List Lf} {k : Nat} (hk : k < L.length) (h : L[k].z = true) : shownTo L (k + 1) = shownTo L k := by
  simp [shownTo, List.range_succ, List.filter_append, hk, h]
theorem shownTo_there {L : List Lf} {k : Nat} (hk : k < L.length) (h : L[k].z = false) : shownTo L (k + 1) = shownTo L k ++ [k] := by
  simp [shownTo, List.range_succ, List.filter_append, hk, h]
theorem shownTo_len (L : List Lf) (k : Nat) : (shownTo L k).length ≤ k := by
  have := List.length_filter_le (fun i => match L[i]? with | some x => !x.z | none => false) (List.range k)
  simpa [shownTo] using this
theorem shownI_lt {L : List Lf} {i : Nat} (h : i ∈ shownI L) : i < L.length := by
  have := (List.mem_filter.1 h).1
  simpa using this
/-- Things that are ok are 36 at most. -/
theorem ops_36 {l : List Op7} (h : opsB l = true) : l.length ≤ 36 := by
  obtain ⟨hok, hord⟩ := opsParts h
  have h1 := once_of hok hord
  have hnd : (l.map fun o => (o.a, o.b)).Nodup := by
    refine List.pairwise_iff_getElem.2 fun i j hi hj hij e => ?_
    simp only [List.length_map] at hi hj
    simp only [List.getElem_map, Prod.mk.injEq] at e
    have := h1 i j l[i] l[j] (by simp [hi]) (by simp [hj]) e.1 e.2
    omega
  have hsub : ∀ x ∈ (l.map fun o => (o.a, o.b)), x ∈ (List.range 3).flatMap fun i => (List.range 12).map fun j => (((i + 1 : Nat) : Int), ((j + 1 : Nat) : Int)) := by
    intro x hx
    obtain ⟨o, ho, rfl⟩ := List.mem_map.1 hx
    obtain ⟨a1, a3, b1, b12⟩ := okO_id (List.all_eq_true.1 hok o ho)
    refine List.mem_flatMap.2 ⟨(o.a - 1).toNat, by simp; omega, List.mem_map.2 ⟨(o.b - 1).toNat, by simp; omega, ?_⟩⟩
    refine Prod.ext ?_ ?_ <;> simp <;> omega
  have h36 := nodup_le _ _ hnd hsub
  rw [List.length_map] at h36
  exact Nat.le_trans h36 (by decide)
end Go.Proofs.YtficnhlkefpfnaaDoor

namespace Go.Proofs.YtficnhlkefpfnaaDoor
open Go.RowKit
set_option linter.unusedSimpArgs false
set_option linter.unusedVariables false

/-- How many of them are not gone. -/
def nShown (L : List Lf) : Nat := (L.filter fun x => !x.z).length
theorem nShown_nil : nShown [] = 0 := rfl
theorem nShown_gone {L : List Lf} {x : Lf} (h : x.z = true) : nShown (L ++ [x]) = nShown L := by simp [nShown, h]
theorem nShown_there {L : List Lf} {x : Lf} (h : x.z = false) : nShown (L ++ [x]) = nShown L + 1 := by simp [nShown, h]
theorem nShown_le (L : List Lf) : nShown L ≤ L.length := List.length_filter_le _ _
theorem nShown_app (A B : List Lf) : nShown (A ++ B) = nShown A + nShown B := by simp [nShown]
/-- A list that has no leaf of that id. -/
def freeOf (L : List Lf) (a b : Int) : Prop := ∀ x ∈ L, ¬ (x.a = a ∧ x.b = b)
theorem freeOf_nil (a b : Int) : freeOf [] a b := fun _ h => by cases h
theorem freeOf_more {L : List Lf} {a b : Int} {x : Lf} (h : freeOf L a b) (hx : ¬ (x.a = a ∧ x.b = b)) : freeOf (L ++ [x]) a b := by
  intro y hy
  rcases List.mem_append.1 hy with h1 | h1
  · exact h y h1
  · simp at h1; subst h1; exact hx
/-- How many that are not gone stand up to the first one of that id. -/
def upTo (a b : Int) : List Lf → Nat → Option Nat
  | [], _ => none
  | x :: t, n => if x.a = a ∧ x.b = b then some (if x.z then n else n + 1) else upTo a b t (if x.z then n else n + 1)
theorem upTo_free {a b : Int} : ∀ {L : List Lf} {n : Nat}, freeOf L a b → upTo a b L n = none
  | [], _, _ => rfl
  | x :: t, n, h => by
    simp only [upTo]
    rw [if_neg (h x List.mem_cons_self)]
    exact upTo_free fun y hy => h y (List.mem_cons_of_mem _ hy)
theorem upTo_at {a b : Int} : ∀ {p : List Lf} {x : Lf} {t : List Lf} {n : Nat}, freeOf p a b → x.a = a → x.b = b → upTo a b (p ++ x :: t) n = some (n + nShown (p ++ [x]))
  | [], x, t, n, _, ha, hb => by
    simp only [List.nil_append, upTo]
    rw [if_pos ⟨ha, hb⟩]
    cases hz : x.z <;> simp [nShown, hz]
  | y :: p, x, t, n, h, ha, hb => by
    simp only [List.cons_append, upTo]
    rw [if_neg (h y List.mem_cons_self), upTo_at (fun u hu => h u (List.mem_cons_of_mem _ hu)) ha hb]
    cases hz : y.z <;> simp [nShown, hz] <;> omega
/-- The place of a mark: none, if there is no such sign. -/
def placeM (l : List Op7) (a b : Int) : Option Nat := if a = 0 ∧ b = 0 then some 0 else upTo a b (lfs l (allO l)) 0
/-- What MarkPlace answers. -/
def markP (l : List Op7) (a b : Int) : Option Nat := if opsB l = true then placeM l a b else none
def pN (p : Option Nat) : Int := match p with | some n => n | none => 0
def pB (p : Option Nat) : Bool := match p with | some _ => true | none => false
theorem upTo_le {a b : Int} : ∀ {L : List Lf} {n k : Nat}, upTo a b L n = some k → k ≤ n + nShown L
  | [], _, _, h => by cases h
  | x :: t, n, k, h => by
    simp only [upTo] at h
    cases hz : x.z <;> simp only [hz] at h <;> split at h <;> (try cases h) <;> (try simp [nShown, hz]) <;> (try (have h1 := upTo_le h; simp [nShown] at h1; omega))
theorem markP_le {l : List Op7} {a b : Int} {k : Nat} (h : markP l a b = some k) : k ≤ nShown (lfs l (standL l)) := by
  unfold markP at h
  split at h
  · rename_i ho
    unfold placeM at h
    split at h
    · cases h; omega
    · have h1 := upTo_le h
      have h2 : standL l = allO l := by unfold standL; rw [ho]; rfl
      rw [h2]; omega
  · cases h
end Go.Proofs.YtficnhlkefpfnaaDoor

namespace Go.Proofs.YtficnhlkefpfnaaDoor
open Go.RowKit Go.Shelf
set_option linter.unusedSimpArgs false
set_option linter.unusedVariables false
attribute [local go_sem] Oper.semAt_some

/-- A block of one's own stays, whatever the walk does with its records. -/
theorem own_blk {β : Type} (B b : Nat) (f : β → Array Value) (T : TypeId) : OwnFrom B (fun s W => W.heap[b]? = some (.cells (f s) T (0, 0))) := by
  intro s A B' row hx hg hr
  exact (hg.block b (Array.getElem?_eq_some_iff.1 hx).1 (fun e => by obtain ⟨_, o, ho, hc⟩ := hr b e.symm; rw [hx] at ho; cases ho; cases hc)).trans hx
theorem blk_below {W W' : World} {b : Nat} {o : Obj} (h : W.heap[b]? = some o) (hb : Below W.heap.size W W') : W'.heap[b]? = some o := (hb.block b (Array.getElem?_eq_some_iff.1 h).1).trans h
theorem blk_set {W : World} {b c : Nat} {o : Obj} {u : Value} (h : W.heap[b]? = some o) (hne : b ≠ c) : (W.setCell ⟨c, 0, none⟩ u).heap[b]? = some o :=
  ((grownBy_setCell' W c u).block b (Array.getElem?_eq_some_iff.1 h).1 (fun e => hne (by cases e; rfl))).trans h

theorem cell_put {W : World} {b c i : Nat} (o : Obj) (h : b ≠ c) : (W.putObj c o).cell? ⟨b, i, none⟩ = W.cell? ⟨b, i, none⟩ := by
  simp [World.cell?, World.putObj_heap_other h]
/-- Five blocks that were laid one behind the other. -/
theorem all5 (w : World) (o0 o1 o2 o3 o4 : Obj) (k : Nat) (hk : k < 5) : (((((w.alloc o0).alloc o1).alloc o2).alloc o3).alloc o4).heap[w.heap.size + k]? = [o0, o1, o2, o3, o4][k]? := by
  have e : (((((w.alloc o0).alloc o1).alloc o2).alloc o3).alloc o4).heap = ((((w.heap.push o0).push o1).push o2).push o3).push o4 := rfl
  rw [e]
  have : k = 0 ∨ k = 1 ∨ k = 2 ∨ k = 3 ∨ k = 4 := by omega
  rcases this with rfl | rfl | rfl | rfl | rfl <;> simp [Array.getElem?_push, Array.getElem_push, Nat.add_assoc]

end Go.Proofs.YtficnhlkefpfnaaDoor

namespace Go.Proofs.YtficnhlkefpfnaaDoor
open Go.RowKit
set_option linter.unusedSimpArgs false
set_option linter.unusedVariables false
attribute [local go_sem ↓] Go.wp_at_zero Go.wp_at_succ

theorem szAny_ok (p : Option Addr) (n cap k : Nat) (w : World) (hk : k ≤ 1048576) (hn : n ≤ k) :
    Calls Tryd.prog 13 #[.slice p n cap, .int .i64 k] w fun e w' => e = .returned (.int .i64 ((k - n : Nat) : Int)) ∧ w' = w := by
  have h1 : IntKind.i64.wrap ((k : Int) - (n : Int)) = ((k - n : Nat) : Int) := by rw [IntWalk.i64_in _ ⟨by omega, by omega⟩]; omega
  have h2 : ¬ (((k - n : Nat) : Int) < 0) := by omega
  go_enter Tryd.func13, Tryd.ntmps13
  go_wp2
  go_ret
  exact ⟨rfl, rfl⟩
theorem szAny_no (p : Option Addr) (n cap k : Nat) (w : World) (hk : k ≤ 1048576) (hn : k < n) (hm : n ≤ maxLen) :
    Calls Tryd.prog 13 #[.slice p n cap, .int .i64 k] w fun e w' => e = .returned (.int .i64 (-1)) ∧ w' = w := by
  unfold maxLen at hm
  obtain ⟨d, hd⟩ : ∃ d : Int, (k : Int) - (n : Int) = d := ⟨_, rfl⟩
  have h1 : IntKind.i64.wrap ((k : Int) - (n : Int)) = d := by rw [IntWalk.i64_in _ ⟨by omega, by omega⟩]; exact hd
  have h2 : d < 0 := by omega
  clear hd
  go_enter Tryd.func13, Tryd.ntmps13
  go_wp2
  go_ret
  exact ⟨rfl, rfl⟩
theorem szDoc_ok (p q : Option Addr) (n cap m cap2 : Nat) (w : World) (h : n + m ≤ 1048576) :
    Calls Tryd.prog 40 #[.agg #[.slice p n cap, .slice q m cap2], .int .i64 1048576] w fun e w' => (∃ s : Nat, e = .returned (.int .i64 s)) ∧ Below w.heap.size w w' := by
  have HB0 : Hid (Below w.heap.size w (w.alloc (.cells #[.slice p n cap, .slice q m cap2] 32))) := (Below.refl _ _).alloc (Nat.le_refl _) _
  have h3 : ¬ (((1048576 - n : Nat) : Int) < 0) := by omega
  have h4 : ¬ (((1048576 - n - m : Nat) : Int) < 0) := by omega
  go_enter Tryd.func40, Tryd.ntmps40
  go_wp2_with fail
  refine (szAny_ok p n cap 1048576 _ (Nat.le_refl _) (by omega)).mono ?_
  rintro e w' ⟨rfl, rfl⟩
  go_wp2_with fail
  refine (szAny_ok q m cap2 (1048576 - n) _ (by omega) (by omega)).mono ?_
  rintro e w' ⟨rfl, rfl⟩
  go_wp2
  go_ret
  exact ⟨⟨_, rfl⟩, HB0.out⟩
theorem szDoc_no (p q : Option Addr) (n cap m cap2 : Nat) (w : World) (h : ¬ n + m ≤ 1048576) (hn : n ≤ maxLen) (hm : m ≤ maxLen) :
    Calls Tryd.prog 40 #[.agg #[.slice p n cap, .slice q m cap2], .int .i64 1048576] w fun e w' => e = .returned (.int .i64 (-1)) ∧ Below w.heap.size w w' := by
  have HB0 : Hid (Below w.heap.size w (w.alloc (.cells #[.slice p n cap, .slice q m cap2] 32))) := (Below.refl _ _).alloc (Nat.le_refl _) _
  go_enter Tryd.func40, Tryd.ntmps40
  go_wp2_with fail
  by_cases hn2 : n ≤ 1048576
  · have h3 : ¬ (((1048576 - n : Nat) : Int) < 0) := by omega
    refine (szAny_ok p n cap 1048576 _ (Nat.le_refl _) hn2).mono ?_
    rintro e w' ⟨rfl, rfl⟩
    go_wp2_with fail
    refine (szAny_no q m cap2 (1048576 - n) _ (by omega) (by omega) hm).mono ?_
    rintro e w' ⟨rfl, rfl⟩
    go_wp2
    go_ret
    exact ⟨rfl, HB0.out⟩
  · refine (szAny_no p n cap 1048576 _ (Nat.le_refl _) (by omega) hn).mono ?_
    rintro e w' ⟨rfl, rfl⟩
    go_wp2
    go_ret
    exact ⟨rfl, HB0.out⟩

theorem OpsAt.away {W : World} {g b i : Nat} {l : List Op7} {u : Value} (h : OpsAt W g l) (hne : g ≠ b) : OpsAt (W.setCell ⟨b, i, none⟩ u) g l := by
  refine ⟨by simpa using h.1, fun j o ho => ?_⟩
  obtain ⟨h0, h1, h2, h3, h4, h5, h6⟩ := h.2 j o ho
  have e : ∀ x, (W.setCell ⟨b, i, none⟩ u).cell? ⟨g, x, none⟩ = W.cell? ⟨g, x, none⟩ := fun x => World.cell?_setCell_other _ _ _ _ (by intro he; have := congrArg Addr.block he; simp at this; omega)
  exact ⟨(e _).trans h0, (e _).trans h1, (e _).trans h2, (e _).trans h3, (e _).trans h4, (e _).trans h5, (e _).trans h6⟩
theorem set_fst {W : World} {b : Nat} {T : TypeId} {u v u' : Value} (h : W.heap[b]? = some (.cells #[u, v] T (0, 0))) : (W.setCell ⟨b, 0, none⟩ u').heap[b]? = some (.cells #[u', v] T (0, 0)) := by
  simp only [World.setCell, Array.getElem?_modify, if_true, h, Option.map_some]
  rfl
theorem set_snd {W : World} {b : Nat} {T : TypeId} {u v v' : Value} (h : W.heap[b]? = some (.cells #[u, v] T (0, 0))) : (W.setCell ⟨b, 1, none⟩ v').heap[b]? = some (.cells #[u, v'] T (0, 0)) := by
  simp only [World.setCell, Array.getElem?_modify, if_true, h, Option.map_some]
  rfl
theorem set_off {W : World} {b c i : Nat} {u : Value} {o : Obj} (h : W.heap[b]? = some o) (hne : b ≠ c) : (W.setCell ⟨c, i, none⟩ u).heap[b]? = some o :=
  (Below.heap_setCell W ⟨c, i, none⟩ u b hne).trans h
set_option maxRecDepth 100000 in
set_option maxHeartbeats 1000000 in
theorem toDoc_any (l ws : List Op7) (p q : Option Addr) (cap cap2 : Nat) (w : World) (hl : ArgOps w p l) (hn : l.length ≤ 1048576) (hcap : l.length ≤ cap) (hs : ArgOps w q ws) (hn2 : ws.length ≤ 1048576) (hcap2 : ws.length ≤ cap2) :
    Calls Tryd.prog 42 #[.agg #[.slice p l.length cap, .slice q ws.length cap2]] w fun e w' => (∃ g g2, e = .returned (.agg #[.slice (some ⟨g, 0, none⟩) l.length l.length, .slice (some ⟨g2, 0, none⟩) ws.length ws.length]) ∧ OpsAt w' g l ∧ OpsAt w' g2 ws) ∧ Below w.heap.size w w' := by
  have HL := hideIt hl
  have HS := hideIt hs
  clear hl hs
  obtain ⟨W0, hW0⟩ : ∃ W0, ((w.alloc (.cells #[.slice p l.length cap, .slice q ws.length cap2] 32)).alloc (.cells #[.slice none 0 0, .slice none 0 0] 39)).alloc (.cells #[.slice none 0 0, .slice none 0 0] 39) = W0 := ⟨_, rfl⟩
  have hB0 : Below w.heap.size w W0 := by rw [← hW0]; exact (((Below.refl _ _).alloc (Nat.le_refl _) _).alloc (by simp) _).alloc (by simp; omega) _
  have hA0 : W0.heap[w.heap.size]? = some (.cells #[.slice p l.length cap, .slice q ws.length cap2] 32 (0, 0)) := by
    rw [← hW0]
    exact blk_below (World.alloc_heap_new _ _) (((Below.refl _ _).alloc (Nat.le_refl _) _).alloc (by simp) _)
  have hR0 : W0.heap[w.heap.size + 1]? = some (.cells #[.slice none 0 0, .slice none 0 0] 39 (0, 0)) := by
    rw [← hW0]
    have h := World.alloc_heap_new (w.alloc (.cells #[.slice p l.length cap, .slice q ws.length cap2] 32)) (.cells #[.slice none 0 0, .slice none 0 0] 39)
    rw [World.size_alloc] at h
    exact blk_below h ((Below.refl _ _).alloc (Nat.le_refl _) _)
  have hO0 : W0.heap[w.heap.size + 1 + 1]? = some (.cells #[.slice none 0 0, .slice none 0 0] 39 (0, 0)) := by
    rw [← hW0]
    have h := World.alloc_heap_new ((w.alloc (.cells #[.slice p l.length cap, .slice q ws.length cap2] 32)).alloc (.cells #[.slice none 0 0, .slice none 0 0] 39)) (.cells #[.slice none 0 0, .slice none 0 0] 39)
    rw [World.size_alloc, World.size_alloc] at h
    exact h
  have HB0 := hideIt hB0
  have HA0 := hideIt hA0
  have HR0 := hideIt hR0
  have HO0 := hideIt hO0
  have HW0 := hideIt hW0
  clear hB0 hA0 hR0 hO0 hW0
  go_enter Tryd.func42, Tryd.ntmps42
  go_wp2_with fail
  rw [HW0.out]
  clear HW0
  have hz0 : w.heap.size + 1 + 1 < W0.heap.size := (Array.getElem?_eq_some_iff.1 HO0.out).1
  refine (toOpS_any l p cap _ (HL.out.below HB0.out) hn hcap).mono ?_
  rintro e w1 ⟨rfl, hA1, hb1⟩
  have HG := hideIt hA1
  have hG1 : w.heap.size ≤ W0.heap.size := by omega
  have HB1 := hideIt (Bstep HB0.out hb1)
  have HA1 := hideIt (blk_below HA0.out hb1)
  have HR1 := hideIt (blk_below HR0.out hb1)
  have HO1 := hideIt (blk_below HO0.out hb1)
  clear hA1 hb1 HB0 HA0 HR0 HO0
  generalize W0.heap.size = G at *
  have a1 := (blk_cell HA1.out 1).trans rfl
  have al := (Array.getElem?_eq_some_iff.1 HA1.out).1
  have o0 := (blk_cell HO1.out 0).trans rfl
  have o1 := (blk_cell HO1.out 1).trans rfl
  have ol := (Array.getElem?_eq_some_iff.1 HO1.out).1
  have of : ∀ j, w1.frozen? ⟨w.heap.size + 1 + 1, j, none⟩ = false := fun j => by simp [World.frozen?, HO1.out]
  go_wp2_with fail
  have HO2 := hideIt (set_fst (u' := .slice (some ⟨G, 0, none⟩) l.length l.length) HO1.out)
  have HR2 := hideIt (set_off (c := w.heap.size + 1 + 1) (i := 0) (u := .slice (some ⟨G, 0, none⟩) l.length l.length) HR1.out (by omega))
  have HG2 := hideIt (OpsAt.away (b := w.heap.size + 1 + 1) (i := 0) (u := .slice (some ⟨G, 0, none⟩) l.length l.length) HG.out (by omega))
  have HB2 := hideIt (HB1.out.setCell (p := ⟨w.heap.size + 1 + 1, 0, none⟩) (by show w.heap.size ≤ w.heap.size + 1 + 1; omega) (.slice (some ⟨G, 0, none⟩) l.length l.length))
  clear HO1 HR1 HG HB1 a1 al o0 o1 ol of HA1
  generalize w1.setCell ⟨w.heap.size + 1 + 1, 0, none⟩ (.slice (some ⟨G, 0, none⟩) l.length l.length) = W2 at *
  refine (toOpS_any ws q cap2 _ (HS.out.below HB2.out) hn2 hcap2).mono ?_
  rintro e w3 ⟨rfl, hA3, hb3⟩
  have HK3 := hideIt hA3
  have HG3 := hideIt (HG2.out.below hb3 HG2.out.1)
  have HB3 := hideIt (Bstep HB2.out hb3)
  have HO3 := hideIt (blk_below HO2.out hb3)
  have HR3 := hideIt (blk_below HR2.out hb3)
  have hz2 : w.heap.size + 1 + 1 < W2.heap.size := (Array.getElem?_eq_some_iff.1 HO2.out).1
  clear hA3 hb3 HO2 HR2 HG2 HB2
  generalize W2.heap.size = K2 at *
  have o0 := (blk_cell HO3.out 0).trans rfl
  have o1 := (blk_cell HO3.out 1).trans rfl
  have ol := (Array.getElem?_eq_some_iff.1 HO3.out).1
  have of : ∀ j, w3.frozen? ⟨w.heap.size + 1 + 1, j, none⟩ = false := fun j => by simp [World.frozen?, HO3.out]
  have r0 := (blk_cell HR3.out 0).trans rfl
  have r1 := (blk_cell HR3.out 1).trans rfl
  have rl := (Array.getElem?_eq_some_iff.1 HR3.out).1
  have rf : ∀ j, w3.frozen? ⟨w.heap.size + 1, j, none⟩ = false := fun j => by simp [World.frozen?, HR3.out]
  have n1 : ¬ w.heap.size + 1 + 1 = w.heap.size + 1 := by omega
  have n2 : ¬ w.heap.size + 1 = w.heap.size + 1 + 1 := by omega
  go_wp2
  have hb9 := set_snd (v' := .slice (some ⟨K2, 0, none⟩) ws.length ws.length) (set_fst (u' := .slice (some ⟨G, 0, none⟩) l.length l.length) (set_off (c := w.heap.size + 1 + 1) (i := 1) (u := .slice (some ⟨K2, 0, none⟩) ws.length ws.length) HR3.out n2))
  have v0 := (blk_cell hb9 0).trans rfl
  have v1 := (blk_cell hb9 1).trans rfl
  exact bodyPost_ret (v := .agg #[.slice (some ⟨G, 0, none⟩) l.length l.length, .slice (some ⟨K2, 0, none⟩) ws.length ws.length]) (by simp [results, Tryd.results42, go_sem, v0, v1]) rfl
    ⟨⟨G, K2, rfl, ((HG3.out.away (by omega)).away (by omega)).away (by omega), ((HK3.out.away (by omega)).away (by omega)).away (by omega)⟩,
      ((HB3.out.setCell (p := ⟨w.heap.size + 1 + 1, 1, none⟩) (by show w.heap.size ≤ w.heap.size + 1 + 1; omega) _).setCell (p := ⟨w.heap.size + 1, 0, none⟩) (by show w.heap.size ≤ w.heap.size + 1; omega) _).setCell (p := ⟨w.heap.size + 1, 1, none⟩) (by show w.heap.size ≤ w.heap.size + 1; omega) _⟩

set_option maxHeartbeats 1000000 in
theorem eqDoc_same (l ws : List Op7) (g g2 h h2 : Nat) (w : World) (h1 : OpsAt w g l) (h2' : OpsAt w g2 ws) (h3 : OpsAt w h l) (h4 : OpsAt w h2 ws) (hn : l.length ≤ 1048576) (hn2 : ws.length ≤ 1048576) :
    Calls Tryd.prog 44 #[.agg #[.slice (some ⟨g, 0, none⟩) l.length l.length, .slice (some ⟨g2, 0, none⟩) ws.length ws.length], .agg #[.slice (some ⟨h, 0, none⟩) l.length l.length, .slice (some ⟨h2, 0, none⟩) ws.length ws.length]] w fun e w' => e = .returned (.bool true) ∧ Below w.heap.size w w' := by
  have H1 := hideIt h1
  have H2 := hideIt h2'
  have H3 := hideIt h3
  have H4 := hideIt h4
  have g1 := h1.1
  have g2' := h2'.1
  have g3 := h3.1
  have g4 := h4.1
  clear h1 h2' h3 h4
  go_enter Tryd.func44, Tryd.ntmps44
  go_wp2_with fail
  have HB0 : Hid (Below w.heap.size w ((w.alloc (.cells #[.slice (some ⟨g, 0, none⟩) l.length l.length, .slice (some ⟨g2, 0, none⟩) ws.length ws.length] 39)).alloc (.cells #[.slice (some ⟨h, 0, none⟩) l.length l.length, .slice (some ⟨h2, 0, none⟩) ws.length ws.length] 39))) := ((Below.refl _ _).alloc (Nat.le_refl _) _).alloc (by simp) _
  refine (eqOpS_same l _ _ _ _ _ (H1.out.below HB0.out g1) (H3.out.below HB0.out g3) hn (Nat.le_refl _) (Nat.le_refl _)).mono ?_
  rintro e w1 ⟨rfl, hb1⟩
  have HB1 := hideIt (Bstep HB0.out hb1)
  have hc : ∀ b o, b < w.heap.size + 2 → w1.cell? ⟨b, o, none⟩ = _ := fun b o h => (bcell hb1).1 b o (by simp; omega)
  have x1 := hc w.heap.size 1 (by omega)
  have y1 := hc (w.heap.size + 1) 1 (by omega)
  simp [go_sem] at x1 y1
  clear hb1 hc
  go_wp2_with fail
  refine (eqOpS_same ws _ _ _ _ _ (H2.out.below HB1.out g2') (H4.out.below HB1.out g4) hn2 (Nat.le_refl _) (Nat.le_refl _)).mono ?_
  rintro e w2 ⟨rfl, hb2⟩
  have HB2 := hideIt (Bstep HB1.out hb2)
  clear hb2 x1 y1
  go_wp2
  go_ret
  exact ⟨rfl, HB2.out⟩
end Go.Proofs.YtficnhlkefpfnaaDoor

namespace Go.Proofs.YtficnhlkefpfnaaDoor
open Go.RowKit
set_option linter.unusedSimpArgs false
set_option linter.unusedVariables false
attribute [local go_sem ↓] Go.wp_at_zero Go.wp_at_succ

/-- The cells of things. -/
def opCells (L : List Op7) : List Value := L.flatMap fun o => [.int .i64 o.a, .int .i64 o.b, .int .i64 o.k, .int .i64 o.c, .int .i64 o.d, .int .i64 o.s, .int .i64 o.g]
theorem opCells_len : ∀ L : List Op7, (opCells L).length = L.length * 7
  | [] => rfl
  | x :: r => by have := opCells_len r; simp [opCells] at this ⊢; omega
theorem opCells_app (L M : List Op7) : opCells (L ++ M) = opCells L ++ opCells M := by simp [opCells]
theorem opCells_one : ∀ L, ∀ u ∈ opCells L, u.oneCell' = true := by
  intro L u hu
  unfold opCells at hu
  obtain ⟨o, _, ho⟩ := List.mem_flatMap.1 hu
  simp at ho
  rcases ho with rfl | rfl | rfl | rfl | rfl | rfl | rfl <;> rfl
theorem opCells_at : ∀ (L : List Op7) (i : Nat) (o : Op7), L[i]? = some o → (opCells L)[i * 7]? = some (.int .i64 o.a) ∧ (opCells L)[i * 7 + 1]? = some (.int .i64 o.b) ∧ (opCells L)[i * 7 + 2]? = some (.int .i64 o.k) ∧ (opCells L)[i * 7 + 3]? = some (.int .i64 o.c) ∧ (opCells L)[i * 7 + 4]? = some (.int .i64 o.d) ∧ (opCells L)[i * 7 + 5]? = some (.int .i64 o.s) ∧ (opCells L)[i * 7 + 6]? = some (.int .i64 o.g)
  | [], i, o, h => by simp at h
  | y :: r, 0, o, h => by simp at h; subst h; simp [opCells]
  | y :: r, i + 1, o, h => by
    have h' := opCells_at r i o (by simpa using h)
    have e : opCells (y :: r) = [.int .i64 y.a, .int .i64 y.b, .int .i64 y.k, .int .i64 y.c, .int .i64 y.d, .int .i64 y.s, .int .i64 y.g] ++ opCells r := by simp [opCells]
    have hs : ∀ j, (opCells (y :: r))[(i + 1) * 7 + j]? = (opCells r)[i * 7 + j]? := fun j => by
      rw [e, List.getElem?_append_right (by simp; omega)]
      congr 1
      simp
      omega
    have h0 := hs 0
    simp only [Nat.add_zero] at h0
    rw [h0, hs 1, hs 2, hs 3, hs 4, hs 5, hs 6]
    exact h'
/-- A row of things of one's own. -/
def OwnOps (w : World) (base : Nat) (g cap : Nat) (L : List Op7) : Prop := w.ownsRow base 71 7 (.slice (some ⟨g, 0, none⟩) L.length cap) L.length (opCells L)
theorem OwnOps.at {w : World} {base g cap : Nat} {L : List Op7} (h : OwnOps w base g cap L) : OpsAt w g L := by
  refine ⟨(World.ownsRow.lt h g rfl).2, fun i o ho => ?_⟩
  obtain ⟨h0, h1, h2, h3, h4, h5, h6⟩ := opCells_at L i o ho
  have hi : i < L.length := (List.getElem?_eq_some_iff.1 ho).1
  have hc : ∀ j, j < L.length * 7 → w.cell? ⟨g, j, none⟩ = (opCells L)[j]? := fun j hj => World.ownsRow.cellAt h j hj
  exact ⟨(hc _ (by omega)).trans h0, (hc _ (by omega)).trans h1, (hc _ (by omega)).trans h2, (hc _ (by omega)).trans h3, (hc _ (by omega)).trans h4, (hc _ (by omega)).trans h5, (hc _ (by omega)).trans h6⟩
theorem OwnOps.cap {w : World} {base g cap : Nat} {L : List Op7} (h : OwnOps w base g cap L) : L.length ≤ cap := by
  rcases h.2 with ⟨h, _⟩ | ⟨g', c', cur, h, _, _, h2, _⟩
  · cases h
  · cases h; exact h2
theorem OwnOps.below {w w' : World} {base g cap : Nat} {L : List Op7} (h : OwnOps w base g cap L) (hb : Below w.heap.size w w') : OwnOps w' base g cap L :=
  World.ownsRow.kept h (row := none) ⟨hb.os, hb.tape, hb.output, hb.size, fun i hi _ => hb.block i hi⟩ (.inr (by simp [Value.ownBlock]))
theorem infoOp : (Tryd.prog.info? 71).map (fun i => (i.zero, i.size, i.bytes)) = some (some (.agg #[.int .i64 0, .int .i64 0, .int .i64 0, .int .i64 0, .int .i64 0, .int .i64 0, .int .i64 0]), 7, 56) := by kernel_rfl

theorem blkCell {W : World} {b : Nat} {cur : Array Value} {T : TypeId} (h : W.heap[b]? = some (.cells cur T (0, 0))) (j : Nat) : W.cell? ⟨b, j, none⟩ = cur[j]? := by simp [World.cell?, h]
/-- One is ahead of another. -/
def lessB (p q : Op7) : Bool := decide (p.a < q.a ∨ (p.a = q.a ∧ p.b < q.b))
/-- What was done, with something more. -/
def withL (l : List Op7) (o : Op7) : List Op7 := l.filter (fun p => lessB p o) ++ [o] ++ l.filter (fun p => lessB o p)

set_option maxRecDepth 100000 in
set_option maxHeartbeats 2000000 in
theorem specLess_any (a b c d : Int) (w : World) :
    Calls Tryd.prog 79 #[.agg #[.int .i64 a, .int .i64 b], .agg #[.int .i64 c, .int .i64 d]] w fun e w' => e = .returned (.bool (decide (a < c ∨ (a = c ∧ b < d)))) ∧ Below w.heap.size w w' := by
  go_enter Tryd.func79, Tryd.ntmps79
  by_cases h1 : a < c
  · go_wp2
    go_ret
    exact ⟨by simp [h1], by go_grown⟩
  · by_cases h2 : a = c
    · subst h2
      go_wp2
      go_ret
      exact ⟨by simp, by go_grown⟩
    · go_wp2
      go_ret
      exact ⟨by simp [h1, h2], by go_grown⟩
end Go.Proofs.YtficnhlkefpfnaaDoor

namespace Go.Proofs.YtficnhlkefpfnaaDoor
open Go.RowKit
set_option linter.unusedSimpArgs false
set_option linter.unusedVariables false
attribute [local go_sem ↓] Go.wp_at_zero Go.wp_at_succ

/-- Where l3With stands: what it has so far, and the thing in its box. -/
structure WL (w wr : World) (o : Op7) (v : Value) (L : List Op7) : Prop where
  row : wr.ownsRow (w.heap.size + 1) 71 7 v L.length (opCells L)
  box : wr.heap[w.heap.size]? = some (.cells #[.int .i64 o.a, .int .i64 o.b, .int .i64 o.k, .int .i64 o.c, .int .i64 o.d, .int .i64 o.s, .int .i64 o.g] 71 (0, 0))
  bel : Below w.heap.size w wr
theorem WL.lt {w wr : World} {o : Op7} {v : Value} {L : List Op7} (h : WL w wr o v L) : w.heap.size < wr.heap.size := (Array.getElem?_eq_some_iff.1 h.box).1
theorem WL.below {w wr w' : World} {o : Op7} {v : Value} {L : List Op7} (h : WL w wr o v L) (hb : Below wr.heap.size wr w') : WL w w' o v L :=
  ⟨h.row.kept (row := none) ⟨hb.os, hb.tape, hb.output, hb.size, fun i hi _ => hb.block i hi⟩ (by cases v.ownBlock <;> simp), (hb.block _ h.lt).trans h.box, Bstep h.bel hb⟩
theorem WL.app {w wr w' : World} {o : Op7} {v v' : Value} {L M : List Op7} (h : WL w wr o v L) (hg : wr.grownBy w' v.ownBlock) (hown : w'.ownsRow (w.heap.size + 1) 71 7 v' (L.length + M.length) (opCells L ++ opCells M)) : WL w w' o v' (L ++ M) :=
  ⟨by rw [opCells_app, List.length_append]; exact hown, (hg.block _ h.lt (fun e => by have := (h.row.lt _ e.symm).1; omega)).trans h.box, below_grown h.bel hg h.bel.size (fun j e => by have := (h.row.lt j e).1; omega)⟩
/-- The two cells of the thing's id. -/
theorem WL.id {w wr : World} {o : Op7} {v : Value} {L : List Op7} (h : WL w wr o v L) : wr.cell? ⟨w.heap.size, 0, none⟩ = some (.int .i64 o.a) ∧ wr.cell? ⟨w.heap.size, 1, none⟩ = some (.int .i64 o.b) ∧ wr.cell? ⟨w.heap.size, 2, none⟩ = some (.int .i64 o.k) ∧ wr.cell? ⟨w.heap.size, 3, none⟩ = some (.int .i64 o.c) ∧ wr.cell? ⟨w.heap.size, 4, none⟩ = some (.int .i64 o.d) ∧ wr.cell? ⟨w.heap.size, 5, none⟩ = some (.int .i64 o.s) ∧ wr.cell? ⟨w.heap.size, 6, none⟩ = some (.int .i64 o.g) :=
  ⟨(blkCell h.box 0).trans rfl, (blkCell h.box 1).trans rfl, (blkCell h.box 2).trans rfl, (blkCell h.box 3).trans rfl, (blkCell h.box 4).trans rfl, (blkCell h.box 5).trans rfl, (blkCell h.box 6).trans rfl⟩
/-- Of the first k those that are ahead; and those that are behind. -/
def fstL (l : List Op7) (o : Op7) (k : Nat) : List Op7 := (l.take k).filter fun p => lessB p o
def sndL (l : List Op7) (o : Op7) (k : Nat) : List Op7 := (l.take k).filter fun p => lessB o p
theorem fst_yes {l : List Op7} {o : Op7} {k : Nat} (hk : k < l.length) (h : lessB l[k] o = true) : fstL l o (k + 1) = fstL l o k ++ [l[k]] := by unfold fstL; rw [List.take_succ_eq_append_getElem hk, List.filter_append]; simp [h]
theorem fst_no {l : List Op7} {o : Op7} {k : Nat} (hk : k < l.length) (h : lessB l[k] o = false) : fstL l o (k + 1) = fstL l o k := by unfold fstL; rw [List.take_succ_eq_append_getElem hk, List.filter_append]; simp [h]
theorem snd_yes {l : List Op7} {o : Op7} {k : Nat} (hk : k < l.length) (h : lessB o l[k] = true) : sndL l o (k + 1) = sndL l o k ++ [l[k]] := by unfold sndL; rw [List.take_succ_eq_append_getElem hk, List.filter_append]; simp [h]
theorem snd_no {l : List Op7} {o : Op7} {k : Nat} (hk : k < l.length) (h : lessB o l[k] = false) : sndL l o (k + 1) = sndL l o k := by unfold sndL; rw [List.take_succ_eq_append_getElem hk, List.filter_append]; simp [h]
/-- All so far: those ahead, the thing, those behind. -/
def bothL (l : List Op7) (o : Op7) (k : Nat) : List Op7 := fstL l o l.length ++ [o] ++ sndL l o k
theorem both_yes {l : List Op7} {o : Op7} {k : Nat} (hk : k < l.length) (h : lessB o l[k] = true) : bothL l o (k + 1) = bothL l o k ++ [l[k]] := by unfold bothL; rw [snd_yes hk h, ← List.append_assoc]
theorem both_no {l : List Op7} {o : Op7} {k : Nat} (hk : k < l.length) (h : lessB o l[k] = false) : bothL l o (k + 1) = bothL l o k := by unfold bothL; rw [snd_no hk h]
theorem both_zero (l : List Op7) (o : Op7) : bothL l o 0 = fstL l o l.length ++ [o] := by simp [bothL, sndL]
theorem both_all (l : List Op7) (o : Op7) : bothL l o l.length = withL l o := by simp [bothL, fstL, sndL, withL]
theorem fst_len (l : List Op7) (o : Op7) (k : Nat) : (fstL l o k).length ≤ l.length := Nat.le_trans (List.length_filter_le _ _) (List.length_take_le' _ _)
theorem snd_len (l : List Op7) (o : Op7) (k : Nat) : (sndL l o k).length ≤ l.length := Nat.le_trans (List.length_filter_le _ _) (List.length_take_le' _ _)
theorem both_len (l : List Op7) (o : Op7) (k : Nat) : (bothL l o k).length ≤ 2 * l.length + 1 := by
  have h1 := fst_len l o l.length
  have h2 := snd_len l o k
  unfold bothL
  rw [List.length_append, List.length_append]
  simp only [List.length_cons, List.length_nil]
  omega

set_option maxRecDepth 100000 in
set_option maxHeartbeats 4000000 in
theorem l3With_any (l : List Op7) (g cap : Nat) (o : Op7) (w : World) (hl : OpsAt w g l) (hn : l.length ≤ 1048576) (hcap : l.length ≤ cap) :
    Calls Tryd.prog 56 #[.slice (some ⟨g, 0, none⟩) l.length cap, .agg #[.int .i64 o.a, .int .i64 o.b, .int .i64 o.k, .int .i64 o.c, .int .i64 o.d, .int .i64 o.s, .int .i64 o.g]] w fun e w' => ∃ G c, e = .returned (.slice (some ⟨G, 0, none⟩) (withL l o).length c) ∧ OwnOps w' w.heap.size G c (withL l o) ∧ Below w.heap.size w w' := by
  have HL := hideIt hl
  have hgw := hl.1
  clear hl
  obtain ⟨i0, hi, hz0', hz1', hz2⟩ := info_parts infoOp
  have HI1 := hideIt hi
  have HZ0 := hideIt hz0'
  have HZ1 := hideIt hz1'
  have HZ2 := hideIt hz2
  clear hi hz0' hz1' hz2
  go_enter Tryd.func56, Tryd.ntmps56
  go_wp2
  have HST : Hid (WL w ((w.alloc (.cells #[.int .i64 o.a, .int .i64 o.b, .int .i64 o.k, .int .i64 o.c, .int .i64 o.d, .int .i64 o.s, .int .i64 o.g] 71)).alloc (.cells #[] 71)) o (.slice (some ⟨w.heap.size + 1, 0, none⟩) 0 0) []) := by
    refine ⟨?_, ?_, ((Below.refl _ _).alloc (Nat.le_refl _) _).alloc (by simp) _⟩
    · have h := World.ownsRow_made (base := w.heap.size + 1) (e := 71) (size := 7) (w.alloc (.cells #[.int .i64 o.a, .int .i64 o.b, .int .i64 o.k, .int .i64 o.c, .int .i64 o.d, .int .i64 o.s, .int .i64 o.g] 71)) #[] 0 (by simp) (Nat.zero_le _) rfl
      simp only [World.size_alloc] at h
      exact h
    · exact (Below.heap_alloc _ _ _ (by simp)).trans (World.alloc_heap_new w _)
  go_loopw [5, 6] (fun v i wr => ∃ k G c : Nat, k ≤ l.length ∧ i = .int .i64 k ∧ v = .slice (some ⟨G, 0, none⟩) (fstL l o k).length c ∧ WL w wr o v (fstL l o k))
    (fun _ i _ => l.length - (intOf i).toNat)
  case atStart => exact ⟨0, _, _, Nat.zero_le _, rfl, rfl, HST.out⟩
  case round =>
    obtain ⟨k, Gb, cb, hk, rfl, rfl, hS⟩ := hrel
    have HS := hideIt hS
    have hgr : g < wr.heap.size := Nat.lt_of_lt_of_le hgw hS.bel.size
    have hwr := hS.lt
    have hfl := fst_len l o k
    clear hS
    by_cases hlt : k < l.length
    · obtain ⟨y0, y1, y2, y3, y4, y5, y6⟩ := (HL.out.below HS.out.bel hgw).2 k l[k] (by simp [hlt])
      obtain ⟨b0, b1, b2, b3, b4, b5, b6⟩ := HS.out.id
      have hpk : l[k]? = some l[k] := by simp [hlt]
      have hyes : Hid (lessB l[k] o = true → fstL l o (k + 1) = fstL l o k ++ [l[k]]) := fst_yes hlt
      have hno : Hid (lessB l[k] o = false → fstL l o (k + 1) = fstL l o k) := fst_no hlt
      generalize l[k] = p at *
      have hlt' : (k : Int) < (l.length : Int) := by omega
      have hk0 : (0 : Int) ≤ (k : Int) := by omega
      cases hz : lessB p o
      all_goals
        have HZ := hideIt hz
        clear hz
        go_wp2
        go_region_held3 (fun w' => w'.cell? ⟨g, k * 7, none⟩ = some (.int .i64 p.a) ∧ w'.cell? ⟨g, k * 7 + 1, none⟩ = some (.int .i64 p.b) ∧ w'.cell? ⟨w.heap.size, 0, none⟩ = some (.int .i64 o.a) ∧ w'.cell? ⟨w.heap.size, 1, none⟩ = some (.int .i64 o.b))
          (first | exact ⟨y0, y1, b0, b1⟩ | exact ⟨((bcell hb2).1 g _ hgr).trans y0, ((bcell hb2).1 g _ hgr).trans y1, ((bcell hb2).1 _ _ hwr).trans b0, ((bcell hb2).1 _ _ hwr).trans b1⟩)
          (first | (go_at_call 79; refine (specLess_any _ _ _ _ _).mono ?_; rintro e w2 ⟨rfl, hb2⟩; have HS2 : Hid (WL w w2 o (.slice (some ⟨Gb, 0, none⟩) (fstL l o k).length cb) (fstL l o k)) := (HS.out.below ((Below.refl _ _).drew)).below hb2; rw [show decide (p.a < o.a ∨ p.a = o.a ∧ p.b < o.b) = _ from HZ.out]))
        rename_i hHH
        clear hHH hb2 y0 y1 y2 y3 y4 y5 y6 b0 b1 b2 b3 b4 b5 b6
      · have HE := hideIt (hno.out HZ.out)
        go_wp2
        exact ⟨⟨k + 1, Gb, cb, by omega, by go_num, by rw [HE.out], by rw [HE.out]; exact HS2.out⟩, by simp [intOf]; omega⟩
      · have HE := hideIt (hyes.out HZ.out)
        obtain ⟨y0, y1, y2, y3, y4, y5, y6⟩ := (HL.out.below HS2.out.bel hgw).2 k p hpk
        have hgr2 : g < w2.heap.size := Nat.lt_of_lt_of_le hgw HS2.out.bel.size
        have hwr2 := HS2.out.lt
        go_wp2_with (first
          | (at_builtin; refine wpList_append_own_at _ rfl _ _ 24 rfl (w.heap.size + 1) 71 i0 _ 7 56 Tryd.underlying24 HI1.out HZ0.out HZ1.out HZ2.out rfl (by decide) _ _ _ rfl (HS2.out.row.alloc _) ⟨w2.heap.size, 0, none⟩ 1 1 (opCells [p]) rfl rfl (cells_new w2 (opCells [p]) 71) (opCells_one _) (by (try simp only [List.length_append, List.length_cons, List.length_nil]); unfold maxLen; omega) (by (try simp only [List.length_append, List.length_cons, List.length_nil]); omega) (by simp; omega) ?_; intro v' w3 hown3 hg3 _ _;
              obtain ⟨g', cap', hv'⟩ := ownsRow_succ hown3; subst hv';
              have HS3 := hideIt (WL.app (M := [p]) (HS2.out.below ((Below.refl _ _).alloc (Nat.le_refl _) _)) hg3 hown3); clear hown3 hg3))
        exact ⟨⟨k + 1, g', cap', by omega, by go_num, by rw [HE.out, List.length_append]; rfl, by rw [HE.out]; exact HS3.out⟩, by simp [intOf]; omega⟩
    · obtain rfl : k = l.length := by omega
      obtain ⟨b0, b1, b2, b3, b4, b5, b6⟩ := HS.out.id
      go_wp2_with (first
        | (at_builtin; refine wpList_append_own_at _ rfl _ _ 24 rfl (w.heap.size + 1) 71 i0 _ 7 56 Tryd.underlying24 HI1.out HZ0.out HZ1.out HZ2.out rfl (by decide) _ _ _ rfl (HS.out.row.alloc _) ⟨wr.heap.size, 0, none⟩ 1 1 (opCells [o]) rfl rfl (cells_new wr (opCells [o]) 71) (opCells_one _) (by unfold maxLen; omega) (by omega) (by simp; omega) ?_; intro v' w3 hown3 hg3 _ _;
            obtain ⟨g', cap', hv'⟩ := ownsRow_succ hown3; subst hv';
            have HS3 := hideIt (WL.app (M := [o]) (HS.out.below ((Below.refl _ _).alloc (Nat.le_refl _) _)) hg3 hown3); clear hown3 hg3))
      clear b0 b1 b2 b3 b4 b5 b6 hwr hgr
      have hfl' := fst_len l o l.length
      go_loopw [5, 7] (fun v i wr => ∃ k G c : Nat, k ≤ l.length ∧ i = .int .i64 k ∧ v = .slice (some ⟨G, 0, none⟩) (bothL l o k).length c ∧ WL w wr o v (bothL l o k))
        (fun _ i _ => l.length - (intOf i).toNat)
      case atStart => exact ⟨0, g', cap', Nat.zero_le _, rfl, by rw [both_zero, List.length_append]; rfl, by rw [both_zero]; exact HS3.out⟩
      case round =>
        clear HS HS3
        obtain ⟨k, Gb, cb, hk, rfl, rfl, hS⟩ := hrel
        have HS := hideIt hS
        have hgr : g < wr.heap.size := Nat.lt_of_lt_of_le hgw hS.bel.size
        have hwr := hS.lt
        have hsl := both_len l o k
        clear hS
        by_cases hlt : k < l.length
        · obtain ⟨y0, y1, y2, y3, y4, y5, y6⟩ := (HL.out.below HS.out.bel hgw).2 k l[k] (by simp [hlt])
          obtain ⟨b0, b1, b2, b3, b4, b5, b6⟩ := HS.out.id
          have hpk : l[k]? = some l[k] := by simp [hlt]
          have hyes : Hid (lessB o l[k] = true → bothL l o (k + 1) = bothL l o k ++ [l[k]]) := both_yes hlt
          have hno : Hid (lessB o l[k] = false → bothL l o (k + 1) = bothL l o k) := both_no hlt
          generalize l[k] = p at *
          have hlt' : (k : Int) < (l.length : Int) := by omega
          have hk0 : (0 : Int) ≤ (k : Int) := by omega
          cases hz : lessB o p
          all_goals
            have HZ := hideIt hz
            clear hz
            go_wp2
            go_region_held3 (fun w' => w'.cell? ⟨g, k * 7, none⟩ = some (.int .i64 p.a) ∧ w'.cell? ⟨g, k * 7 + 1, none⟩ = some (.int .i64 p.b) ∧ w'.cell? ⟨w.heap.size, 0, none⟩ = some (.int .i64 o.a) ∧ w'.cell? ⟨w.heap.size, 1, none⟩ = some (.int .i64 o.b))
              (first | exact ⟨y0, y1, b0, b1⟩ | exact ⟨((bcell hb2).1 g _ hgr).trans y0, ((bcell hb2).1 g _ hgr).trans y1, ((bcell hb2).1 _ _ hwr).trans b0, ((bcell hb2).1 _ _ hwr).trans b1⟩)
              (first | (go_at_call 79; refine (specLess_any _ _ _ _ _).mono ?_; rintro e w2 ⟨rfl, hb2⟩; have HS2 : Hid (WL w w2 o (.slice (some ⟨Gb, 0, none⟩) (bothL l o k).length cb) (bothL l o k)) := (HS.out.below ((Below.refl _ _).drew)).below hb2; rw [show decide (o.a < p.a ∨ o.a = p.a ∧ o.b < p.b) = _ from HZ.out]))
            rename_i hHH
            clear hHH hb2 y0 y1 y2 y3 y4 y5 y6 b0 b1 b2 b3 b4 b5 b6
          · have HE := hideIt (hno.out HZ.out)
            go_wp2
            exact ⟨⟨k + 1, Gb, cb, by omega, by go_num, by rw [HE.out], by rw [HE.out]; exact HS2.out⟩, by simp [intOf]; omega⟩
          · have HE := hideIt (hyes.out HZ.out)
            obtain ⟨y0, y1, y2, y3, y4, y5, y6⟩ := (HL.out.below HS2.out.bel hgw).2 k p hpk
            have hgr2 : g < w2.heap.size := Nat.lt_of_lt_of_le hgw HS2.out.bel.size
            have hwr2 := HS2.out.lt
            go_wp2_with (first
              | (at_builtin; refine wpList_append_own_at _ rfl _ _ 24 rfl (w.heap.size + 1) 71 i0 _ 7 56 Tryd.underlying24 HI1.out HZ0.out HZ1.out HZ2.out rfl (by decide) _ _ _ rfl (HS2.out.row.alloc _) ⟨w2.heap.size, 0, none⟩ 1 1 (opCells [p]) rfl rfl (cells_new w2 (opCells [p]) 71) (opCells_one _) (by (try simp only [List.length_append, List.length_cons, List.length_nil]); unfold maxLen; omega) (by (try simp only [List.length_append, List.length_cons, List.length_nil]); omega) (by simp; omega) ?_; intro v' w3 hown3 hg3 _ _;
                  obtain ⟨g', cap', hv'⟩ := ownsRow_succ hown3; subst hv';
                  have HS3 := hideIt (WL.app (M := [p]) (HS2.out.below ((Below.refl _ _).alloc (Nat.le_refl _) _)) hg3 hown3); clear hown3 hg3))
            exact ⟨⟨k + 1, g', cap', by omega, by go_num, by rw [HE.out, List.length_append]; rfl, by rw [HE.out]; exact HS3.out⟩, by simp [intOf]; omega⟩
        · obtain rfl : k = l.length := by omega
          go_wp2
          go_ret
          have hE := both_all l o
          have hR := HS.out.row
          rw [hE] at hR
          rw [hE]
          exact ⟨_, _, rfl, ownsRow_base (Nat.le_succ _) hR, HS.out.bel⟩
end Go.Proofs.YtficnhlkefpfnaaDoor

namespace Go.Proofs.YtficnhlkefpfnaaDoor
open Go.RowKit
set_option linter.unusedSimpArgs false
set_option linter.unusedVariables false

theorem add_plain (g j : Nat) : (⟨g, 0, none⟩ : Addr).add j = ⟨g, j, none⟩ := by
  unfold Addr.add
  split <;> simp_all
/-- What is copied from a block of things. -/
theorem OpsAt.cells {w : World} {g : Nat} {l : List Op7} (h : OpsAt w g l) : ∀ j u, (opCells l)[j]? = some u → w.cell? ((⟨g, 0, none⟩ : Addr).add j) = some u := by
  intro j u hj
  rw [add_plain]
  have hlt : j < l.length * 7 := by
    have := (List.getElem?_eq_some_iff.1 hj).1
    rwa [opCells_len] at this
  have hi : j / 7 < l.length := by omega
  have hx : l[j / 7]? = some l[j / 7] := by simp [hi]
  obtain ⟨h0, h1, h2, h3, h4, h5, h6⟩ := h.2 _ _ hx
  obtain ⟨o0, o1, o2, o3, o4, o5, o6⟩ := opCells_at l _ _ hx
  have hq : j % 7 = 0 ∨ j % 7 = 1 ∨ j % 7 = 2 ∨ j % 7 = 3 ∨ j % 7 = 4 ∨ j % 7 = 5 ∨ j % 7 = 6 := by omega
  have hd : j = j / 7 * 7 + j % 7 := by omega
  rcases hq with e | e | e | e | e | e | e <;> rw [e] at hd <;> (try simp only [Nat.add_zero] at hd) <;> rw [hd] at hj ⊢
  · rw [o0] at hj; rw [h0]; exact hj
  · rw [o1] at hj; rw [h1]; exact hj
  · rw [o2] at hj; rw [h2]; exact hj
  · rw [o3] at hj; rw [h3]; exact hj
  · rw [o4] at hj; rw [h4]; exact hj
  · rw [o5] at hj; rw [h5]; exact hj
  · rw [o6] at hj; rw [h6]; exact hj
end Go.Proofs.YtficnhlkefpfnaaDoor

namespace Go.Proofs.YtficnhlkefpfnaaDoor
open Go.RowKit
set_option linter.unusedSimpArgs false
set_option linter.unusedVariables false

theorem OpsAt.cellsTk {w : World} {g : Nat} {l : List Op7} (h : OpsAt w g l) (x : Nat) : ∀ j u, (opCells (l.take x))[j]? = some u → w.cell? ((⟨g, 0, none⟩ : Addr).add j) = some u := fun j u hj => by
  refine h.cells j u ?_
  have e : opCells l = opCells (l.take x) ++ opCells (l.drop x) := by rw [← opCells_app, List.take_append_drop]
  rw [e, List.getElem?_append_left (List.getElem?_eq_some_iff.1 hj).1]
  exact hj
theorem addOff (g o j : Nat) : (⟨g, o, none⟩ : Addr).add j = ⟨g, o + j, none⟩ := by
  unfold Addr.add
  split <;> simp_all
theorem OpsAt.cellsDr {w : World} {g : Nat} {l : List Op7} (h : OpsAt w g l) {x : Nat} (hx : x ≤ l.length) : ∀ j u, (opCells (l.drop x))[j]? = some u → w.cell? ((⟨g, x * 7, none⟩ : Addr).add j) = some u := fun j u hj => by
  have e : opCells l = opCells (l.take x) ++ opCells (l.drop x) := by rw [← opCells_app, List.take_append_drop]
  have h1 := h.cells (x * 7 + j) u (by
    rw [e, List.getElem?_append_right (by rw [opCells_len]; simp; omega)]
    rw [← hj]
    congr 1
    rw [opCells_len]
    simp
    omega)
  rw [add_plain] at h1
  rw [addOff]
  exact h1
end Go.Proofs.YtficnhlkefpfnaaDoor

namespace Go.Proofs.YtficnhlkefpfnaaDoor
open Go.RowKit
set_option linter.unusedSimpArgs false
set_option linter.unusedVariables false
attribute [local go_sem ↓] Go.wp_at_zero Go.wp_at_succ

set_option maxRecDepth 100000 in
set_option maxHeartbeats 2000000 in
theorem implLess_any (a b c d : Int) (w : World) :
    Calls Tryd.prog 81 #[.agg #[.int .i64 a, .int .i64 b], .agg #[.int .i64 c, .int .i64 d]] w fun e w' => e = .returned (.bool (decide (a < c ∨ (a = c ∧ b < d)))) ∧ Below w.heap.size w w' := by
  go_enter Tryd.func81, Tryd.ntmps81
  by_cases h2 : a = c
  · subst h2
    go_wp2
    go_ret
    exact ⟨by simp, by go_grown⟩
  · go_wp2
    go_ret
    exact ⟨by simp [h2], by go_grown⟩
/-- With one more, put in at the first that is not ahead of it. -/
def insL (l : List Op7) (o : Op7) : List Op7 := l.takeWhile (fun p => lessB p o) ++ o :: l.dropWhile (fun p => lessB p o)
theorem insL_at {l : List Op7} {o : Op7} {k : Nat} (hk : k ≤ l.length) (h1 : ∀ j (hj : j < l.length), j < k → lessB l[j] o = true) (h2 : k = l.length ∨ ∃ hk : k < l.length, lessB l[k] o = false) : insL l o = l.take k ++ o :: l.drop k := by
  have ht : l.takeWhile (fun p => lessB p o) = l.take k ∧ l.dropWhile (fun p => lessB p o) = l.drop k := by
    clear hk
    induction l generalizing k with
    | nil => simp
    | cons p r ih =>
      rcases k with _ | k
      · rcases h2 with h2 | ⟨_, h2⟩
        · simp at h2
        · simp only [List.getElem_cons_zero] at h2
          simp [List.takeWhile_cons, List.dropWhile_cons, h2]
      · have hp := h1 0 (by simp) (by omega)
        simp only [List.getElem_cons_zero] at hp
        obtain ⟨e1, e2⟩ := ih (k := k) (fun j hj hjk => by have := h1 (j + 1) (by simp; omega) (by omega); simpa using this) (by
          rcases h2 with h2 | ⟨hk, h2⟩
          · left; simpa using h2
          · right; exact ⟨by simpa using hk, by simpa using h2⟩)
        simp [List.takeWhile_cons, List.dropWhile_cons, hp, e1, e2]
  unfold insL
  rw [ht.1, ht.2]
theorem insL_len (l : List Op7) (o : Op7) : (insL l o).length = l.length + 1 := by
  unfold insL
  rw [List.length_append, List.length_cons]
  have := congrArg List.length (List.takeWhile_append_dropWhile (p := fun p => lessB p o) (l := l))
  rw [List.length_append] at this
  omega

theorem srcNil (l : List Op7) (w : World) (a : Addr) : ∀ j u, (opCells (l.drop l.length))[j]? = some u → w.cell? (a.add j) = some u := by
  intro j u hj
  rw [List.drop_length] at hj
  simp [opCells] at hj
theorem ins_row {w : World} {base : Nat} {l : List Op7} {o : Op7} {v : Value} (h : w.ownsRow base 71 7 v (insL l o).length (opCells (insL l o))) : ∃ g c, v = .slice (some ⟨g, 0, none⟩) (insL l o).length c := by
  have h' := h
  rw [insL_len] at h
  obtain ⟨g, c, hv⟩ := ownsRow_succ h
  exact ⟨g, c, by rw [hv, insL_len]⟩

set_option maxRecDepth 100000 in
set_option maxHeartbeats 4000000 in
theorem putIn_any (l : List Op7) (g cap : Nat) (o : Op7) (w : World) (hl : OpsAt w g l) (hn : l.length ≤ 1048576) (hcap : l.length ≤ cap) :
    Calls Tryd.prog 100 #[.slice (some ⟨g, 0, none⟩) l.length cap, .agg #[.int .i64 o.a, .int .i64 o.b, .int .i64 o.k, .int .i64 o.c, .int .i64 o.d, .int .i64 o.s, .int .i64 o.g]] w fun e w' => ∃ G c, e = .returned (.slice (some ⟨G, 0, none⟩) (insL l o).length c) ∧ OwnOps w' w.heap.size G c (insL l o) ∧ Below w.heap.size w w' := by
  have HL := hideIt hl
  have hgw := hl.1
  clear hl
  obtain ⟨i0, hi, hz0', hz1', hz2⟩ := info_parts infoOp
  have HI1 := hideIt hi
  have HZ0 := hideIt hz0'
  have HZ1 := hideIt hz1'
  have HZ2 := hideIt hz2
  clear hi hz0' hz1' hz2
  go_enter Tryd.func100, Tryd.ntmps100
  go_wp2
  have HST : Hid (WL w (w.alloc (.cells #[.int .i64 o.a, .int .i64 o.b, .int .i64 o.k, .int .i64 o.c, .int .i64 o.d, .int .i64 o.s, .int .i64 o.g] 71)) o (.slice none 0 0) []) :=
    ⟨World.ownsRow_nil _ _ _ _, World.alloc_heap_new w _, (Below.refl _ _).alloc (Nat.le_refl _) _⟩
  go_loopw [5] (fun i wr => ∃ k : Nat, k ≤ l.length ∧ i = .int .i64 k ∧ (∀ j (hj : j < l.length), j < k → lessB l[j] o = true) ∧ WL w wr o (.slice none 0 0) [])
    (fun i _ => l.length - (intOf i).toNat)
  case atStart => exact ⟨0, Nat.zero_le _, rfl, fun j hj h => by omega, HST.out⟩
  case round =>
    clear HST
    obtain ⟨k, hk, rfl, hall, hS⟩ := hrel
    have HS := hideIt hS
    have HA := hideIt hall
    have hgr : g < wr.heap.size := Nat.lt_of_lt_of_le hgw hS.bel.size
    have hwr := hS.lt
    clear hS hall
    by_cases hlt : k < l.length
    · obtain ⟨y0, y1, y2, y3, y4, y5, y6⟩ := (HL.out.below HS.out.bel hgw).2 k l[k] (by simp [hlt])
      obtain ⟨b0, b1, b2, b3, b4, b5, b6⟩ := HS.out.id
      have HE : Hid (lessB l[k] o = false → insL l o = l.take k ++ o :: l.drop k) := fun h => insL_at hk HA.out (.inr ⟨hlt, h⟩)
      have HM : Hid (lessB l[k] o = true → ∀ j (hj : j < l.length), j < k + 1 → lessB l[j] o = true) := fun h j hj hjk => by
        rcases Nat.lt_or_ge j k with hh | hh
        · exact HA.out j hj hh
        · obtain rfl : j = k := by omega
          exact h
      generalize l[k] = p at *
      have hlt' : (k : Int) < (l.length : Int) := by omega
      have hk0 : (0 : Int) ≤ (k : Int) := by omega
      cases hz : lessB p o
      all_goals
        have HZ := hideIt hz
        clear hz
        go_wp2
        go_region_held3 (fun w' => w'.cell? ⟨g, k * 7, none⟩ = some (.int .i64 p.a) ∧ w'.cell? ⟨g, k * 7 + 1, none⟩ = some (.int .i64 p.b) ∧ w'.cell? ⟨w.heap.size, 0, none⟩ = some (.int .i64 o.a) ∧ w'.cell? ⟨w.heap.size, 1, none⟩ = some (.int .i64 o.b))
          (first | exact ⟨y0, y1, b0, b1⟩ | exact ⟨((bcell hb2).1 g _ hgr).trans y0, ((bcell hb2).1 g _ hgr).trans y1, ((bcell hb2).1 _ _ hwr).trans b0, ((bcell hb2).1 _ _ hwr).trans b1⟩)
          (first | (go_at_call 81; refine (implLess_any _ _ _ _ _).mono ?_; rintro e w2 ⟨rfl, hb2⟩; have HS2 : Hid (WL w w2 o (.slice none 0 0) []) := (HS.out.below ((Below.refl _ _).drew)).below hb2; rw [show decide (p.a < o.a ∨ p.a = o.a ∧ p.b < o.b) = _ from HZ.out]))
        rename_i hHH
        clear hHH hb2 y0 y1 y2 y3 y4 y5 y6 b0 b1 b2 b3 b4 b5 b6
      · have HEE := hideIt (HE.out HZ.out)
        clear HE HM HA
        have hw1 : IntKind.i64.wrap ((l.length : Int) + 1) = ((l.length + 1 : Nat) : Int) := by rw [IntWalk.i64_in _ ⟨by omega, by omega⟩]; omega
        have hkk : (k : Int) ≤ (cap : Int) := by omega
        have hk0' : (0 : Int) ≤ (k : Int) := by omega
        have hkl : (k : Int) ≤ (l.length : Int) := by omega
        have HLd : Hid ((l.drop k).length = l.length - k) := List.length_drop
        have HLt : Hid ((l.take k).length = k) := (by show (l.take k).length = k; simp; try omega)
        have hkn : k ≤ l.length := by omega
        have haddr : (if cap = k then (some ⟨g, 0, none⟩ : Option Addr) else some ⟨g, k * 7, none⟩) = some ⟨g, if cap = k then 0 else k * 7, none⟩ := by split <;> rfl
        go_wp2_with (first
          | (at_make; refine wpList_make_own _ rfl _ _ 24 rfl (w.heap.size + 1) 71 i0 _ 7 Tryd.underlying24 HI1.out HZ0.out HZ1.out .i64 .i64 _ (l.length + 1) rfl rfl rfl (by rw [HZ2.out]; omega) (by unfold maxLen; omega) HS2.out.lt ?_; intro w3 hown3 hg3; have hb3 : Below w2.heap.size w2 w3 := (Below.refl _ _).grown hg3 (Nat.le_refl _) (fun k h => by cases h); have HS3 : Hid (WL w w3 o (.slice (some ⟨w2.heap.size, 0, none⟩) 0 (l.length + 1)) []) := ⟨hown3, (hb3.block _ HS2.out.lt).trans HS2.out.box, Bstep HS2.out.bel hb3⟩; clear hown3 hg3 hb3)
          | (at_builtin; refine wpList_append_own_at _ rfl _ _ 24 rfl (w.heap.size + 1) 71 i0 _ 7 56 Tryd.underlying24 HI1.out HZ0.out HZ1.out HZ2.out rfl (by decide) _ _ _ rfl HS3.out.row ⟨g, 0, none⟩ k cap (opCells (l.take k)) rfl (by rw [opCells_len, HLt.out]) ((HL.out.below HS3.out.bel hgw).cellsTk k) (opCells_one _) (by (try simp only [List.length_nil]); unfold maxLen; omega) (by (try simp only [List.length_nil]); omega) HS3.out.lt ?_; intro v4 w4 hown4 hg4 _ _; have HS4 := hideIt (WL.app (M := l.take k) HS3.out hg4 (by rw [HLt.out]; exact hown4)); clear hown4 hg4 HS3; have hw4 := HS4.out.lt; obtain ⟨b0, b1, b2, b3, b4, b5, b6⟩ := HS4.out.id)
          | (at_builtin; refine wpList_append_own_at _ rfl _ _ 24 rfl (w.heap.size + 1) 71 i0 _ 7 56 Tryd.underlying24 HI1.out HZ0.out HZ1.out HZ2.out rfl (by decide) _ _ _ rfl (HS4.out.row.alloc _) ⟨w4.heap.size, 0, none⟩ 1 1 (opCells [o]) rfl rfl (cells_new w4 (opCells [o]) 71) (opCells_one _) (by (try simp only [List.length_append, List.length_nil]); rw [HLt.out]; unfold maxLen; omega) (by (try simp only [List.length_append, List.length_nil]); rw [HLt.out]; omega) (by simp; omega) ?_; intro v5 w5 hown5 hg5 _ _; have HS5 := hideIt (WL.app (M := [o]) (HS4.out.below ((Below.refl _ _).alloc (Nat.le_refl _) _)) hg5 hown5); clear hown5 hg5 HS4 hw4 b0 b1 b2 b3 b4 b5 b6; have hw5 := HS5.out.lt)
          | (at_builtin; refine wpList_append_own_at _ rfl _ _ 24 rfl (w.heap.size + 1) 71 i0 _ 7 56 Tryd.underlying24 HI1.out HZ0.out HZ1.out HZ2.out rfl (by decide) _ _ _ rfl HS5.out.row ⟨g, k * 7, none⟩ (l.length - k) (cap - k) (opCells (l.drop k)) rfl (by rw [opCells_len, HLd.out]) ((HL.out.below HS5.out.bel hgw).cellsDr hkn) (opCells_one _) (by (try simp only [List.length_append, List.length_nil, List.length_cons]); rw [HLt.out]; unfold maxLen; omega) (by (try simp only [List.length_append, List.length_nil, List.length_cons]); rw [HLt.out]; omega) (by omega) ?_; intro v6 w6 hown6 hg6 _ _; have HS6 := hideIt (WL.app (M := l.drop k) HS5.out hg6 (by rw [HLd.out]; exact hown6)); clear hown6 hg6 HS5 hw5))
        go_ret
        have hE : [] ++ l.take k ++ [o] ++ l.drop k = insL l o := by rw [HEE.out]; simp
        have hR := HS6.out.row
        rw [hE] at hR
        obtain ⟨gR, cR, rfl⟩ := ins_row hR
        exact ⟨_, _, rfl, ownsRow_base (Nat.le_succ _) hR, HS6.out.bel⟩
      · have HMM := hideIt (HM.out HZ.out)
        go_wp2
        exact ⟨⟨k + 1, by omega, by go_num, HMM.out, HS2.out⟩, by simp [intOf]; omega⟩
    · obtain rfl : k = l.length := by omega
      have HEE : Hid (insL l o = l.take l.length ++ o :: l.drop l.length) := insL_at hk HA.out (.inl rfl)
      go_wp2
      go_quiet (fail)
      generalize hD : World.drewN wr _ = w2
      have HS2 : Hid (WL w w2 o (.slice none 0 0) []) := by show WL w w2 o (.slice none 0 0) []; rw [← hD]; exact HS.out.below (below_drewN (Below.refl _ _) _)
      clear hD
      have hcc : cap = l.length ∨ l.length < cap := by omega
      rcases hcc with hcc | hcc
      · subst hcc
        have hw1 : IntKind.i64.wrap ((l.length : Int) + 1) = ((l.length + 1 : Nat) : Int) := by rw [IntWalk.i64_in _ ⟨by omega, by omega⟩]; omega
        have hkk : (l.length : Int) ≤ (l.length : Int) := by omega
        have hk0' : (0 : Int) ≤ (l.length : Int) := by omega
        have hkl : (l.length : Int) ≤ (l.length : Int) := by omega
        have HLd : Hid ((l.drop l.length).length = 0) := (by show (l.drop l.length).length = 0; simp)
        have HLt : Hid ((l.take l.length).length = l.length) := (by show (l.take l.length).length = l.length; simp; try omega)
        have hkn : l.length ≤ l.length := by omega
        go_wp2_with (first
          | (at_make; refine wpList_make_own _ rfl _ _ 24 rfl (w.heap.size + 1) 71 i0 _ 7 Tryd.underlying24 HI1.out HZ0.out HZ1.out .i64 .i64 _ (l.length + 1) rfl rfl rfl (by rw [HZ2.out]; omega) (by unfold maxLen; omega) HS2.out.lt ?_; intro w3 hown3 hg3; have hb3 : Below w2.heap.size w2 w3 := (Below.refl _ _).grown hg3 (Nat.le_refl _) (fun k h => by cases h); have HS3 : Hid (WL w w3 o (.slice (some ⟨w2.heap.size, 0, none⟩) 0 (l.length + 1)) []) := ⟨hown3, (hb3.block _ HS2.out.lt).trans HS2.out.box, Bstep HS2.out.bel hb3⟩; clear hown3 hg3 hb3)
          | (at_builtin; refine wpList_append_own_at _ rfl _ _ 24 rfl (w.heap.size + 1) 71 i0 _ 7 56 Tryd.underlying24 HI1.out HZ0.out HZ1.out HZ2.out rfl (by decide) _ _ _ rfl HS3.out.row ⟨g, 0, none⟩ l.length l.length (opCells (l.take l.length)) rfl (by rw [opCells_len, HLt.out]) ((HL.out.below HS3.out.bel hgw).cellsTk l.length) (opCells_one _) (by (try simp only [List.length_nil]); unfold maxLen; omega) (by (try simp only [List.length_nil]); omega) HS3.out.lt ?_; intro v4 w4 hown4 hg4 _ _; have HS4 := hideIt (WL.app (M := l.take l.length) HS3.out hg4 (by rw [HLt.out]; exact hown4)); clear hown4 hg4 HS3; have hw4 := HS4.out.lt; obtain ⟨b0, b1, b2, b3, b4, b5, b6⟩ := HS4.out.id)
          | (at_builtin; refine wpList_append_own_at _ rfl _ _ 24 rfl (w.heap.size + 1) 71 i0 _ 7 56 Tryd.underlying24 HI1.out HZ0.out HZ1.out HZ2.out rfl (by decide) _ _ _ rfl (HS4.out.row.alloc _) ⟨w4.heap.size, 0, none⟩ 1 1 (opCells [o]) rfl rfl (cells_new w4 (opCells [o]) 71) (opCells_one _) (by (try simp only [List.length_append, List.length_nil]); rw [HLt.out]; unfold maxLen; omega) (by (try simp only [List.length_append, List.length_nil]); rw [HLt.out]; omega) (by simp; omega) ?_; intro v5 w5 hown5 hg5 _ _; have HS5 := hideIt (WL.app (M := [o]) (HS4.out.below ((Below.refl _ _).alloc (Nat.le_refl _) _)) hg5 hown5); clear hown5 hg5 HS4 hw4 b0 b1 b2 b3 b4 b5 b6; have hw5 := HS5.out.lt)
          | (at_builtin; refine wpList_append_own_at _ rfl _ _ 24 rfl (w.heap.size + 1) 71 i0 _ 7 56 Tryd.underlying24 HI1.out HZ0.out HZ1.out HZ2.out rfl (by decide) _ _ _ rfl HS5.out.row ⟨g, 0, none⟩ 0 0 (opCells (l.drop l.length)) rfl (by rw [opCells_len, HLd.out]) (srcNil l w5 ⟨g, 0, none⟩) (opCells_one _) (by (try simp only [List.length_append, List.length_nil, List.length_cons]); rw [HLt.out]; unfold maxLen; omega) (by (try simp only [List.length_append, List.length_nil, List.length_cons]); rw [HLt.out]; omega) (by omega) ?_; intro v6 w6 hown6 hg6 _ _; have HS6 := hideIt (WL.app (M := l.drop l.length) HS5.out hg6 (by rw [HLd.out]; exact hown6)); clear hown6 hg6 HS5 hw5)
          | (at_builtin; refine wpList_append_own_at _ rfl _ _ 24 rfl (w.heap.size + 1) 71 i0 _ 7 56 Tryd.underlying24 HI1.out HZ0.out HZ1.out HZ2.out rfl (by decide) _ _ _ rfl HS5.out.row ⟨g, l.length * 7, none⟩ 0 (l.length - l.length) (opCells (l.drop l.length)) rfl (by rw [opCells_len, HLd.out]) (srcNil l w5 ⟨g, l.length * 7, none⟩) (opCells_one _) (by (try simp only [List.length_append, List.length_nil, List.length_cons]); rw [HLt.out]; unfold maxLen; omega) (by (try simp only [List.length_append, List.length_nil, List.length_cons]); rw [HLt.out]; omega) (by omega) ?_; intro v6 w6 hown6 hg6 _ _; have HS6 := hideIt (WL.app (M := l.drop l.length) HS5.out hg6 (by rw [HLd.out]; exact hown6)); clear hown6 hg6 HS5 hw5))
        go_ret
        have hE : [] ++ l.take l.length ++ [o] ++ l.drop l.length = insL l o := by rw [HEE.out]; simp
        have hR := HS6.out.row
        rw [hE] at hR
        obtain ⟨gR, cR, rfl⟩ := ins_row hR
        exact ⟨_, _, rfl, ownsRow_base (Nat.le_succ _) hR, HS6.out.bel⟩
      · have hw1 : IntKind.i64.wrap ((l.length : Int) + 1) = ((l.length + 1 : Nat) : Int) := by rw [IntWalk.i64_in _ ⟨by omega, by omega⟩]; omega
        have hkk : (l.length : Int) ≤ (cap : Int) := by omega
        have hk0' : (0 : Int) ≤ (l.length : Int) := by omega
        have hkl : (l.length : Int) ≤ (l.length : Int) := by omega
        have HLd : Hid ((l.drop l.length).length = 0) := (by show (l.drop l.length).length = 0; simp)
        have HLt : Hid ((l.take l.length).length = l.length) := (by show (l.take l.length).length = l.length; simp; try omega)
        have hkn : l.length ≤ l.length := by omega
        go_wp2_with (first
          | (at_make; refine wpList_make_own _ rfl _ _ 24 rfl (w.heap.size + 1) 71 i0 _ 7 Tryd.underlying24 HI1.out HZ0.out HZ1.out .i64 .i64 _ (l.length + 1) rfl rfl rfl (by rw [HZ2.out]; omega) (by unfold maxLen; omega) HS2.out.lt ?_; intro w3 hown3 hg3; have hb3 : Below w2.heap.size w2 w3 := (Below.refl _ _).grown hg3 (Nat.le_refl _) (fun k h => by cases h); have HS3 : Hid (WL w w3 o (.slice (some ⟨w2.heap.size, 0, none⟩) 0 (l.length + 1)) []) := ⟨hown3, (hb3.block _ HS2.out.lt).trans HS2.out.box, Bstep HS2.out.bel hb3⟩; clear hown3 hg3 hb3)
          | (at_builtin; refine wpList_append_own_at _ rfl _ _ 24 rfl (w.heap.size + 1) 71 i0 _ 7 56 Tryd.underlying24 HI1.out HZ0.out HZ1.out HZ2.out rfl (by decide) _ _ _ rfl HS3.out.row ⟨g, 0, none⟩ l.length cap (opCells (l.take l.length)) rfl (by rw [opCells_len, HLt.out]) ((HL.out.below HS3.out.bel hgw).cellsTk l.length) (opCells_one _) (by (try simp only [List.length_nil]); unfold maxLen; omega) (by (try simp only [List.length_nil]); omega) HS3.out.lt ?_; intro v4 w4 hown4 hg4 _ _; have HS4 := hideIt (WL.app (M := l.take l.length) HS3.out hg4 (by rw [HLt.out]; exact hown4)); clear hown4 hg4 HS3; have hw4 := HS4.out.lt; obtain ⟨b0, b1, b2, b3, b4, b5, b6⟩ := HS4.out.id)
          | (at_builtin; refine wpList_append_own_at _ rfl _ _ 24 rfl (w.heap.size + 1) 71 i0 _ 7 56 Tryd.underlying24 HI1.out HZ0.out HZ1.out HZ2.out rfl (by decide) _ _ _ rfl (HS4.out.row.alloc _) ⟨w4.heap.size, 0, none⟩ 1 1 (opCells [o]) rfl rfl (cells_new w4 (opCells [o]) 71) (opCells_one _) (by (try simp only [List.length_append, List.length_nil]); rw [HLt.out]; unfold maxLen; omega) (by (try simp only [List.length_append, List.length_nil]); rw [HLt.out]; omega) (by simp; omega) ?_; intro v5 w5 hown5 hg5 _ _; have HS5 := hideIt (WL.app (M := [o]) (HS4.out.below ((Below.refl _ _).alloc (Nat.le_refl _) _)) hg5 hown5); clear hown5 hg5 HS4 hw4 b0 b1 b2 b3 b4 b5 b6; have hw5 := HS5.out.lt)
          | (at_builtin; refine wpList_append_own_at _ rfl _ _ 24 rfl (w.heap.size + 1) 71 i0 _ 7 56 Tryd.underlying24 HI1.out HZ0.out HZ1.out HZ2.out rfl (by decide) _ _ _ rfl HS5.out.row ⟨g, 0, none⟩ 0 0 (opCells (l.drop l.length)) rfl (by rw [opCells_len, HLd.out]) (srcNil l w5 ⟨g, 0, none⟩) (opCells_one _) (by (try simp only [List.length_append, List.length_nil, List.length_cons]); rw [HLt.out]; unfold maxLen; omega) (by (try simp only [List.length_append, List.length_nil, List.length_cons]); rw [HLt.out]; omega) (by omega) ?_; intro v6 w6 hown6 hg6 _ _; have HS6 := hideIt (WL.app (M := l.drop l.length) HS5.out hg6 (by rw [HLd.out]; exact hown6)); clear hown6 hg6 HS5 hw5)
          | (at_builtin; refine wpList_append_own_at _ rfl _ _ 24 rfl (w.heap.size + 1) 71 i0 _ 7 56 Tryd.underlying24 HI1.out HZ0.out HZ1.out HZ2.out rfl (by decide) _ _ _ rfl HS5.out.row ⟨g, l.length * 7, none⟩ 0 (cap - l.length) (opCells (l.drop l.length)) rfl (by rw [opCells_len, HLd.out]) (srcNil l w5 ⟨g, l.length * 7, none⟩) (opCells_one _) (by (try simp only [List.length_append, List.length_nil, List.length_cons]); rw [HLt.out]; unfold maxLen; omega) (by (try simp only [List.length_append, List.length_nil, List.length_cons]); rw [HLt.out]; omega) (by omega) ?_; intro v6 w6 hown6 hg6 _ _; have HS6 := hideIt (WL.app (M := l.drop l.length) HS5.out hg6 (by rw [HLd.out]; exact hown6)); clear hown6 hg6 HS5 hw5))
        go_ret
        have hE : [] ++ l.take l.length ++ [o] ++ l.drop l.length = insL l o := by rw [HEE.out]; simp
        have hR := HS6.out.row
        rw [hE] at hR
        obtain ⟨gR, cR, rfl⟩ := ins_row hR
        exact ⟨_, _, rfl, ownsRow_base (Nat.le_succ _) hR, HS6.out.bel⟩
end Go.Proofs.YtficnhlkefpfnaaDoor

namespace Go.Proofs.YtficnhlkefpfnaaDoor
open Go.RowKit
set_option linter.unusedSimpArgs false
set_option linter.unusedVariables false
attribute [local go_sem ↓] Go.wp_at_zero Go.wp_at_succ

/-- Where the thing of an id stands, if what was done is ok. -/
def findB (l : List Op7) (r m : Int) : Int := if opsB l = true then findI l r m else -1
theorem opsB_parts {l : List Op7} (h : opsB l = true) : l.all okO = true ∧ ordB l = true := by
  unfold opsB at h
  simp only [Bool.and_eq_true] at h
  exact ⟨h.1, h.2.1⟩


theorem keepF {w w1 w2 : World} {u v : Value} (hb : Below w1.heap.size w1 w2)
    (h : w1.cell? ⟨w.heap.size, 0, none⟩ = some u ∧ w1.cell? ⟨w.heap.size, 1, none⟩ = some v ∧ w.heap.size < w1.heap.size ∧ Below w.heap.size w w1) :
    w2.cell? ⟨w.heap.size, 0, none⟩ = some u ∧ w2.cell? ⟨w.heap.size, 1, none⟩ = some v ∧ w.heap.size < w2.heap.size ∧ Below w.heap.size w w2 := by
  obtain ⟨h1, h2, h4, h5⟩ := h
  obtain ⟨hc, _⟩ := bcell hb
  exact ⟨(hc _ _ h4).trans h1, (hc _ _ h4).trans h2, Nat.lt_of_lt_of_le h4 hb.size, Bstep h5 hb⟩

set_option maxRecDepth 100000 in
set_option maxHeartbeats 1000000 in
theorem implFind_any (l : List Op7) (g cap : Nat) (r m : Int) (x : Addr) (w : World) (hl : OpsAt w g l) (hn : l.length ≤ 1048576) (hcap : l.length ≤ cap)
    (he : w.cell? ⟨0, 0, none⟩ = some (.iface 200 (.pointer (some x)))) (h0 : 0 < w.heap.size) :
    Calls Tryd.prog 111 #[.slice (some ⟨g, 0, none⟩) l.length cap, .agg #[.int .i64 r, .int .i64 m]] w fun e w' => e = .returned (.int .i64 (findB l r m)) ∧ Below w.heap.size w w' := by
  have HL := hideIt hl
  have hgw := hl.1
  clear hl
  go_enter Tryd.func111, Tryd.ntmps111
  go_wp2_with fail
  have HB0 : Hid (Below w.heap.size w (w.alloc (.cells #[.int .i64 r, .int .i64 m] 69))) := (Below.refl _ _).alloc (Nat.le_refl _) _
  refine (things_any l g cap x _ (HL.out.below HB0.out hgw) hn hcap (errB HB0.out h0 he) (posB HB0.out h0)).mono ?_
  rintro e w1 ⟨(⟨ht, M, hMM, rfl, hT⟩ | ⟨ht, rfl⟩), hb1⟩
  all_goals
    have HT := hideIt (ht.symm.trans (th_same l))
    have HB1 : Hid (Below w.heap.size w w1) := HB0.out.trans (hb1.mono (by simp))
    have herr1 : w1.cell? ⟨0, 0, none⟩ = some (.iface 200 (.pointer (some x))) := errB HB1.out h0 he
    have k0 : w1.cell? ⟨w.heap.size, 0, none⟩ = some (.int .i64 r) := by rw [(bcell hb1).1 _ _ (by simp)]; simp [go_sem]
    have k1 : w1.cell? ⟨w.heap.size, 1, none⟩ = some (.int .i64 m) := by rw [(bcell hb1).1 _ _ (by simp)]; simp [go_sem]
    have hz1 : w.heap.size < w1.heap.size := by have := hb1.size; simp at this; omega
    clear ht hb1
  · have HTT := hideIt hT
    have hM1 : M < w1.heap.size := hT.1
    obtain ⟨hok, hord⟩ := opsB_parts HT.out.symm
    have HOK := hideIt hok
    have HPL : Hid (placeI (cnt l 1) (cnt l 2) (cnt l 3) r m = findB l r m) := by
      show placeI _ _ _ _ _ = _
      rw [← find_place hok hord]; unfold findB; rw [← HT.out]; rfl
    have hlen := len_le hok hord
    have b1 : Hid ((0 ≤ cnt l 1 ∧ cnt l 1 ≤ 1048576) ∧ (0 ≤ cnt l 2 ∧ cnt l 2 ≤ 1048576)) := by
      have h1 := cnt_nonneg l 1
      have h2 := cnt_nonneg l 2
      have h3 := cnt_nonneg l 3
      have h4 := cnt_sum l
      exact ⟨⟨by omega, by omega⟩, ⟨by omega, by omega⟩⟩
    clear hT hok hord hMM
    go_wp2_with (first | (go_at_call 98; refine (is_nil x _).mono ?_; rintro e w'' ⟨rfl, rfl⟩))
    go_region_held3 (fun w' => w'.cell? ⟨w.heap.size, 0, none⟩ = some (.int .i64 r) ∧ w'.cell? ⟨w.heap.size, 1, none⟩ = some (.int .i64 m) ∧ w.heap.size < w'.heap.size ∧ Below w.heap.size w w')
      (first | exact keepF hb2 (by with_reducible assumption) | exact ⟨k0, k1, hz1, HB1.out.drew⟩)
      (first
        | (go_at_call 104; refine (count_any l M l.length _ (HTT.out.below ((Below.refl _ _).drew) hM1) hn (Nat.le_refl _) HOK.out).mono ?_; rintro e w2 ⟨rfl, hse, hfz2, hb2⟩; have HSE := hideIt hse; clear hse hfz2)
        | (go_at_call 129; refine (place_any _ _ _ _ _ _ _ HSE.out b1.out.1 b1.out.2).mono ?_; rintro e w3 ⟨rfl, hb2⟩; rw [HPL.out]))
    rename_i hS
    have HB3 := hideIt hS.2.2.2
    clear hS hb2
    go_wp2
    go_ret
    exact ⟨rfl, HB3.out⟩
  · go_wp2_with (first | (go_at_call 98; refine (is_same x _).mono ?_; rintro e w'' ⟨rfl, rfl⟩))
    go_ret
    exact ⟨ret_int (by unfold findB; rw [← HT.out]; rfl), HB1.out⟩
end Go.Proofs.YtficnhlkefpfnaaDoor

namespace Go.Proofs.YtficnhlkefpfnaaDoor
open Go.RowKit
set_option linter.unusedSimpArgs false
set_option linter.unusedVariables false

theorem opsB_all {l : List Op7} (h : opsB l = true) : l.all okO = true ∧ ordB l = true ∧ l.all (refsB l) = true ∧ l.all (deepF l (l.length + 1)) = true := by
  unfold opsB at h
  simp only [Bool.and_eq_true] at h
  exact ⟨h.1, h.2.1, h.2.2.1, h.2.2.2⟩
theorem next_mem {l : List Op7} {o p : Op7} (h : nextO l o = some p) : p ∈ l ∧ p.a = o.c ∧ p.b = o.d := by
  rw [nextO_find'] at h
  have h1 := List.mem_of_find?_eq_some h
  have h2 := List.find?_some h
  simp [hasId] at h2
  exact ⟨h1, h2.1, h2.2⟩
theorem deep_up {l : List Op7} (hr : l.all (refsB l) = true) : ∀ (n : Nat) (o : Op7), o ∈ l → deepF l n o = true → ∃ d, Up l d (o.c, o.d) := by
  intro n
  induction n with
  | zero => intro o _ h; simp [deepF] at h
  | succ n ih =>
    intro o ho h
    unfold deepF at h
    cases hb : noB o.c o.d
    · rw [hb] at h
      cases hx : nextO l o with
      | none => rw [hx] at h; simp at h
      | some p =>
        rw [hx] at h
        obtain ⟨hm, ha, hb'⟩ := next_mem hx
        have hk : p.k = 1 := by
          have := List.all_eq_true.1 hr o ho
          unfold refsB at this
          rw [hb, hx] at this
          simpa using this
        obtain ⟨d, hd⟩ := ih p hm (by simpa using h)
        have := Up.step hm hk hd
        rw [ha, hb'] at this
        exact ⟨d + 1, this⟩
    · unfold noB at hb
      have := of_decide_eq_true hb
      rw [this.1, this.2]
      exact ⟨0, Up.zero⟩
theorem put_up {l : List Op7} (h : opsB l = true) {o : Op7} (ho : o ∈ l) : ∃ d, Up l d (o.c, o.d) := by
  obtain ⟨_, _, h3, h4⟩ := opsB_all h
  exact deep_up h3 _ o ho (List.all_eq_true.1 h4 o ho)
theorem kid_of {l : List Op7} {o : Op7} (ho : o ∈ l) (hk : o.k = 1) : o ∈ kidsL l (o.c, o.d, o.s) := by
  unfold kidsL
  rw [List.mem_filter]
  exact ⟨ho, by simp [isKid, hk]⟩
theorem side_kid {l : List Op7} {n : Nat} {x : Int × Int × Int} {o : Op7} (ho : o ∈ kidsL l x) : o ∈ sideO l (n + 1) x ∧ ∀ s, s = 0 ∨ s = 1 → ∀ y ∈ sideO l n (o.a, o.b, s), y ∈ sideO l (n + 1) x := by
  rw [show sideO l (n + 1) x = (kidsL l x).flatMap fun o => sideO l n (o.a, o.b, 0) ++ o :: sideO l n (o.a, o.b, 1) from rfl]
  refine ⟨List.mem_flatMap.2 ⟨o, ho, by simp⟩, fun s hs y hy => List.mem_flatMap.2 ⟨o, ho, ?_⟩⟩
  rcases hs with rfl | rfl
  · exact List.mem_append.2 (.inl hy)
  · exact List.mem_append.2 (.inr (List.mem_cons_of_mem _ hy))
theorem put_side {l : List Op7} (h : opsB l = true) {o : Op7} (ho : o ∈ l) (hk : o.k = 1) : (o.c = 0 ∧ o.d = 0 ∧ o.s = 1) ∨ (1 ≤ o.c ∧ (o.s = 0 ∨ o.s = 1)) := by
  have := List.all_eq_true.1 (opsB_all h).1 o ho
  unfold okO at this
  rw [opB_true] at this
  omega
theorem up_all {l : List Op7} (h : opsB l = true) : ∀ (d : Nat) (o : Op7), o ∈ l → o.k = 1 → Up l d (o.c, o.d) → o ∈ allO l ∧ ∀ s, s = 0 ∨ s = 1 → ∀ y ∈ sideO l (l.length + 2 - (d + 1)) (o.a, o.b, s), y ∈ allO l := by
  intro d
  induction d with
  | zero =>
    intro o ho hk hu
    have e : o.c = 0 ∧ o.d = 0 := by
      rcases up_inv hu with ⟨_, hx⟩ | ⟨e, p, he, _⟩
      · exact ⟨congrArg Prod.fst hx, congrArg Prod.snd hx⟩
      · omega
    have hs : o.s = 1 := by
      rcases put_side h ho hk with ⟨_, _, h⟩ | ⟨h, _⟩
      · exact h
      · omega
    have hkid := kid_of ho hk
    rw [e.1, e.2, hs] at hkid
    exact side_kid (n := l.length + 1) hkid
  | succ d ih =>
    intro o ho hk hu
    have hle := up_le h (Up.step ho hk hu)
    rcases up_inv hu with ⟨h0, _⟩ | ⟨e, p, he, hm, hpk, hu', hx⟩
    · omega
    · obtain rfl : e = d := by omega
      have ha : o.c = p.a := congrArg Prod.fst hx
      have hb : o.d = p.b := congrArg Prod.snd hx
      have hpp := op_pos (opsB_all h).1 hm
      have hs : o.s = 0 ∨ o.s = 1 := by
        rcases put_side h ho hk with ⟨_, _, h⟩ | ⟨_, h⟩
        · exact .inr h
        · exact h
      obtain ⟨_, hsub⟩ := ih p hm hpk hu'
      have hkid := kid_of ho hk
      rw [ha, hb] at hkid
      have e1 : l.length + 2 - (e + 1) = (l.length + 2 - (e + 1 + 1)) + 1 := by omega
      rw [e1] at hsub
      obtain ⟨h1, h2⟩ := side_kid (n := l.length + 2 - (e + 1 + 1)) hkid
      exact ⟨hsub o.s hs o h1, fun s hs' y hy => hsub o.s hs y (h2 s hs' y hy)⟩
/-- What was put stands. -/
theorem all_mem {l : List Op7} (h : opsB l = true) {o : Op7} (ho : o ∈ l) (hk : o.k = 1) : o ∈ allO l := by
  obtain ⟨d, hd⟩ := put_up h ho
  exact (up_all h d o ho hk hd).1
theorem side_put {l : List Op7} (n : Nat) {x : Int × Int × Int} {p : Op7} (h : p ∈ sideO l n x) : p ∈ l ∧ p.k = 1 := by
  obtain ⟨j, hj⟩ := side_desc n h
  clear h
  induction j generalizing x with
  | zero =>
    simp only [Desc] at hj
    obtain ⟨h1, h2, _⟩ := mem_kids hj
    exact ⟨h1, h2⟩
  | succ j ih =>
    simp only [Desc] at hj
    obtain ⟨o, s, _, h⟩ := hj
    exact ih h
/-- Those that stand are those that were put. -/
theorem all_perm {l : List Op7} (h : opsB l = true) : (allO l).Perm (l.filter fun o => o.k == 1) := by
  have hl : l.Nodup := nodup_of_once (once_of (opsB_all h).1 (opsB_all h).2.1)
  refine (List.perm_ext_iff_of_nodup (nodup_all h) (hl.filter _)).2 fun o => ⟨fun ho => ?_, fun ho => ?_⟩
  · obtain ⟨h1, h2⟩ := side_put _ ho
    exact List.mem_filter.2 ⟨h1, by simp [h2]⟩
  · obtain ⟨h1, h2⟩ := List.mem_filter.1 ho
    exact all_mem h h1 (by simpa using h2)
end Go.Proofs.YtficnhlkefpfnaaDoor

namespace Go.Proofs.YtficnhlkefpfnaaDoor
open Go.RowKit
set_option linter.unusedSimpArgs false
set_option linter.unusedVariables false

theorem flatMap_sub {α β : Type} {f g : α → List β} : ∀ {A B : List α}, A.Sublist B → (∀ a, (f a).Sublist (g a)) → (A.flatMap f).Sublist (B.flatMap g) := by
  intro A B h hf
  induction h with
  | slnil => exact List.Sublist.refl _
  | cons a _ ih => rw [List.flatMap_cons]; exact ih.trans (List.sublist_append_right _ _)
  | cons_cons a _ ih => rw [List.flatMap_cons, List.flatMap_cons]; exact (hf a).append ih
theorem side_sub {l l' : List Op7} (h : l.Sublist l') : ∀ (n n' : Nat), n ≤ n' → ∀ x, (sideO l n x).Sublist (sideO l' n' x) := by
  intro n
  induction n with
  | zero => intro n' _ x; exact List.nil_sublist _
  | succ n ih =>
    intro n' hn x
    obtain ⟨m, rfl⟩ : ∃ m, n' = m + 1 := ⟨n' - 1, by omega⟩
    show ((kidsL l x).flatMap _).Sublist ((kidsL l' x).flatMap _)
    exact flatMap_sub (h.filter _) fun o => (ih m (by omega) _).append ((ih m (by omega) _).cons_cons o)
theorem all_sub {l l' : List Op7} (h : l.Sublist l') : (allO l).Sublist (allO l') := side_sub h _ _ (by have := h.length_le; omega) _
/-- In a row that stands once, what stands in a part of it in order stands so in it. -/
theorem sub_at {α : Type} {A B : List α} (h : A.Sublist B) (hn : B.Nodup) {i j a b : Nat} {p q : α} (hi : A[i]? = some p) (hj : A[j]? = some q) (ha : B[a]? = some p) (hb : B[b]? = some q) (hij : i < j) : a < b := by
  obtain ⟨is, rfl, hp⟩ := List.sublist_eq_map_getElem h
  rw [List.getElem?_map] at hi hj
  obtain ⟨u, hu, rfl⟩ := Option.map_eq_some_iff.1 hi
  obtain ⟨v, hv, rfl⟩ := Option.map_eq_some_iff.1 hj
  have hu' : a = u := (List.getElem?_inj (List.getElem?_eq_some_iff.1 ha).1 hn).1 (ha.trans (by simp))
  have hv' : b = v := (List.getElem?_inj (List.getElem?_eq_some_iff.1 hb).1 hn).1 (hb.trans (by simp))
  obtain ⟨h1, h1'⟩ := List.getElem?_eq_some_iff.1 hu
  obtain ⟨h2, h2'⟩ := List.getElem?_eq_some_iff.1 hv
  have := List.pairwise_iff_getElem.1 hp i j h1 h2 hij
  rw [h1', h2'] at this
  omega
theorem gone_sub {l l' : List Op7} (h : l.Sublist l') {x : Int × Int} (hg : goneB l x = true) : goneB l' x = true := by
  unfold goneB at *
  obtain ⟨o, ho, hb⟩ := List.any_eq_true.1 hg
  exact List.any_eq_true.2 ⟨o, h.mem ho, hb⟩
/-- They stand by their ids. -/
theorem ops_sorted {l : List Op7} (h : opsB l = true) : l.Pairwise fun p q => lessB p q = true := by
  obtain ⟨hok, hord⟩ := opsParts h
  have hnext : ∀ i (h1 : i + 1 < l.length), lessB l[i] l[i + 1] = true := fun i h1 => by
    have := ord_iff.1 hord (i + 1) h1
    rw [step_succ h1] at this
    unfold stepB at this
    have := of_decide_eq_true this
    unfold lessB
    exact decide_eq_true (by omega)
  have htr : ∀ p q r : Op7, lessB p q = true → lessB q r = true → lessB p r = true := fun p q r h1 h2 => by
    unfold lessB at *
    have := of_decide_eq_true h1
    have := of_decide_eq_true h2
    exact decide_eq_true (by omega)
  refine List.pairwise_iff_getElem.2 fun i j hi hj hij => ?_
  obtain ⟨e, rfl⟩ : ∃ e, j = i + 1 + e := ⟨j - i - 1, by omega⟩
  clear hij
  induction e with
  | zero => exact hnext i hj
  | succ e ih => exact htr _ _ _ (ih (by omega)) (hnext (i + 1 + e) (by omega))
theorem withL_split {l : List Op7} (hs : l.Pairwise fun p q => lessB p q = true) {o : Op7} (hno : ∀ p ∈ l, ¬ (p.a = o.a ∧ p.b = o.b)) : ∃ A B, l = A ++ B ∧ withL l o = A ++ o :: B := by
  induction l with
  | nil => exact ⟨[], [], rfl, rfl⟩
  | cons p r ih =>
    obtain ⟨h1, h2⟩ := List.pairwise_cons.1 hs
    obtain ⟨A, B, hr, hw⟩ := ih h2 (fun q hq => hno q (by simp [hq]))
    have hp := hno p (by simp)
    by_cases hl : lessB p o = true
    · refine ⟨p :: A, B, by rw [hr]; rfl, ?_⟩
      have hno' : lessB o p = false := by
        unfold lessB at *
        have := of_decide_eq_true hl
        exact decide_eq_false (by omega)
      have e : withL (p :: r) o = p :: withL r o := by
        unfold withL
        rw [List.filter_cons_of_pos (by simp [hl]), List.filter_cons_of_neg (by simp [hno'])]
        simp
      rw [e, hw]
      rfl
    · have hl' : lessB o p = true := by
        unfold lessB at *
        have := of_decide_eq_false (Bool.eq_false_iff.2 hl)
        exact decide_eq_true (by omega)
      have hall : ∀ q ∈ r, lessB o q = true ∧ lessB q o = false := fun q hq => by
        have := h1 q hq
        unfold lessB at *
        have h3 := of_decide_eq_true this
        have h4 := of_decide_eq_true hl'
        exact ⟨decide_eq_true (by omega), decide_eq_false (by omega)⟩
      refine ⟨[], p :: r, rfl, ?_⟩
      unfold withL
      rw [List.filter_cons_of_neg (by simpa using hl), List.filter_cons_of_pos (by simp [hl']), List.filter_eq_nil_iff.2 (fun q hq => by simp [(hall q hq).2]), List.filter_eq_self.2 (fun q hq => (hall q hq).1)]
      rfl
theorem withL_sub {l : List Op7} (h : opsB l = true) {o : Op7} (hno : ∀ p ∈ l, ¬ (p.a = o.a ∧ p.b = o.b)) : l.Sublist (withL l o) := by
  obtain ⟨A, B, h1, h2⟩ := withL_split (ops_sorted h) hno
  rw [h2]
  conv => lhs; rw [h1]
  exact (List.Sublist.refl A).append (List.sublist_cons_self o B)
end Go.Proofs.YtficnhlkefpfnaaDoor

namespace Go.Proofs.YtficnhlkefpfnaaDoor
open Go.RowKit
set_option linter.unusedSimpArgs false
set_option linter.unusedVariables false

/-- Each has the one ahead. -/
def Prev (l : List Op7) : Prop := ∀ p ∈ l, 1 < p.b → ∃ q ∈ l, q.a = p.a ∧ q.b = p.b - 1
theorem ord_prev {l : List Op7} (hok : l.all okO = true) (h : ordB l = true) : Prev l := by
  intro p hp hb
  obtain ⟨i, hi, rfl⟩ := List.getElem_of_mem hp
  have hs := ord_iff.1 h i hi
  have hid := okO_id (all_iff.1 hok i hi)
  rcases i with _ | i
  · rw [step_zero hi] at hs
    have := of_decide_eq_true hs
    omega
  · rw [step_succ hi] at hs
    have := of_decide_eq_true hs
    exact ⟨l[i], List.getElem_mem _, by omega, by omega⟩
theorem sorted_ord {l : List Op7} (hok : l.all okO = true) (hs : l.Pairwise fun p q => lessB p q = true) (hp : Prev l) : ordB l = true := by
  refine ord_iff.2 fun i hi => ?_
  have hid := okO_id (all_iff.1 hok i hi)
  have less : ∀ {j k : Nat} (hj : j < l.length) (hk : k < l.length), j < k → lessB l[j] l[k] = true := fun hj hk h => List.pairwise_iff_getElem.1 hs _ _ hj hk h
  have before : 1 < l[i].b → ∃ j, ∃ hj : j < l.length, j < i ∧ l[j].a = l[i].a ∧ l[j].b = l[i].b - 1 := fun hb => by
    obtain ⟨q, hq, ha, hb'⟩ := hp _ (List.getElem_mem hi) hb
    obtain ⟨j, hj, rfl⟩ := List.getElem_of_mem hq
    refine ⟨j, hj, ?_, ha, hb'⟩
    rcases Nat.lt_trichotomy j i with h | h | h
    · exact h
    · subst h; omega
    · have := less hi hj h
      unfold lessB at this
      have := of_decide_eq_true this
      omega
  rcases i with _ | i
  · rw [step_zero hi]
    by_cases hb : 1 < l[0].b
    · obtain ⟨j, _, h, _⟩ := before hb
      omega
    · exact stepB_true (by omega)
  · rw [step_succ hi]
    have h1 := less (by omega) hi (Nat.lt_succ_self i)
    unfold lessB at h1
    have h1 := of_decide_eq_true h1
    have hid0 := okO_id (all_iff.1 hok i (by omega))
    by_cases hb : 1 < l[i + 1].b
    · obtain ⟨j, hj, hji, ha, hb'⟩ := before hb
      have h2 : j = i ∨ lessB l[j] l[i] = true := by
        rcases Nat.lt_or_ge j i with h | h
        · exact .inr (less hj (by omega) h)
        · exact .inl (by omega)
      rcases h2 with rfl | h2
      · exact stepB_true (by omega)
      · unfold lessB at h2
        have h2 := of_decide_eq_true h2
        exact stepB_true (by omega)
    · exact stepB_true (by omega)
theorem Up.mono {l l' : List Op7} (h : ∀ o ∈ l, o ∈ l') {d : Nat} {x : Int × Int} (hu : Up l d x) : Up l' d x := by
  induction hu with
  | zero => exact .zero
  | step hm hk _ ih => exact .step (h _ hm) hk ih
/-- Those by which one comes from nothing. -/
theorem up_chain {l : List Op7} (hok : l.all okO = true) (h1 : OnceIds l) {d : Nat} {x : Int × Int} (hu : Up l d x) : ∃ c : List Op7, c.length = d ∧ c.Nodup ∧ ∀ o ∈ c, o ∈ l ∧ ∃ e, e ≤ d ∧ Up l e (o.a, o.b) := by
  induction hu with
  | zero => exact ⟨[], rfl, List.nodup_nil, fun o h => by cases h⟩
  | step hm hk hu ih =>
    rename_i d o
    obtain ⟨c, h2, h3, h4⟩ := ih
    refine ⟨o :: c, by simp [h2], List.nodup_cons.2 ⟨fun hc => ?_, h3⟩, fun p hp => ?_⟩
    · obtain ⟨_, e, he, hue⟩ := h4 o hc
      have := up_once hok h1 hue (Up.step hm hk hu)
      omega
    · rcases List.mem_cons.1 hp with rfl | hp
      · exact ⟨hm, d + 1, Nat.le_refl _, .step hm hk hu⟩
      · obtain ⟨h5, e, he, hue⟩ := h4 p hp
        exact ⟨h5, e, by omega, hue⟩
theorem up_len {l : List Op7} (hok : l.all okO = true) (h1 : OnceIds l) {d : Nat} {x : Int × Int} (hu : Up l d x) : d ≤ l.length := by
  obtain ⟨c, h2, h3, h4⟩ := up_chain hok h1 hu
  rw [← h2]
  exact nodup_le _ _ h3 fun o ho => (h4 o ho).1
theorem deep_eq (l : List Op7) (n : Nat) (o : Op7) : deepF l (n + 1) o = if noB o.c o.d = true then true else match nextO l o with | some p => deepF l n p | none => false := rfl
theorem deep_more {l : List Op7} : ∀ (n : Nat) {m : Nat} {o : Op7}, deepF l n o = true → n ≤ m → deepF l m o = true := by
  intro n
  induction n with
  | zero => intro m o h; simp [deepF] at h
  | succ n ih =>
    intro m o h hm
    obtain ⟨k, rfl⟩ : ∃ k, m = k + 1 := ⟨m - 1, by omega⟩
    rw [deep_eq] at h ⊢
    by_cases hno : noB o.c o.d = true
    · rw [if_pos hno]
    · rw [if_neg hno] at h ⊢
      cases hx : nextO l o with
      | none => rw [hx] at h; cases h
      | some p => rw [hx] at h; exact ih h (by omega)
theorem up_deepF {l : List Op7} (hok : l.all okO = true) (h1 : OnceIds l) {d : Nat} {x : Int × Int} (hu : Up l d x) : ∀ o : Op7, x = (o.c, o.d) → deepF l (d + 1) o = true := by
  induction hu with
  | zero =>
    intro o h
    have e1 : o.c = 0 := (congrArg Prod.fst h).symm
    have e2 : o.d = 0 := (congrArg Prod.snd h).symm
    unfold deepF
    rw [if_pos (by unfold noB; exact decide_eq_true ⟨e1, e2⟩)]
  | step hm hk hu ih =>
    rename_i d p
    intro o h
    have e1 : o.c = p.a := (congrArg Prod.fst h).symm
    have e2 : o.d = p.b := (congrArg Prod.snd h).symm
    have hp := op_pos hok hm
    unfold deepF
    rw [if_neg (by unfold noB; simp; omega), nextO_find', e1, e2, find_self h1 hm]
    exact ih p rfl
theorem sorted_once {l : List Op7} (hs : l.Pairwise fun p q => lessB p q = true) : OnceIds l := by
  intro i j o p hi hj ha hb
  obtain ⟨h1, rfl⟩ := List.getElem?_eq_some_iff.1 hi
  obtain ⟨h2, rfl⟩ := List.getElem?_eq_some_iff.1 hj
  rcases Nat.lt_trichotomy i j with h | h | h
  · have := List.pairwise_iff_getElem.1 hs i j h1 h2 h
    unfold lessB at this
    have := of_decide_eq_true this
    omega
  · exact h
  · have := List.pairwise_iff_getElem.1 hs j i h2 h1 h
    unfold lessB at this
    have := of_decide_eq_true this
    omega
/-- In form, in order, each with the one ahead, and each comes to nothing. -/
structure OkL (l : List Op7) : Prop where
  form : ∀ o ∈ l, okO o = true
  sorted : l.Pairwise fun p q => lessB p q = true
  prev : Prev l
  deep : ∀ o ∈ l, ∃ d, Up l d (o.c, o.d)
theorem OkL.of {l : List Op7} (h : opsB l = true) : OkL l :=
  ⟨List.all_eq_true.1 (opsB_all h).1, ops_sorted h, ord_prev (opsB_all h).1 (opsB_all h).2.1, fun o ho => put_up h ho⟩
theorem OkL.ops {l : List Op7} (h : OkL l) : opsB l = true := by
  have hok : l.all okO = true := List.all_eq_true.2 h.form
  have h1 := sorted_once h.sorted
  unfold opsB
  rw [hok, sorted_ord hok h.sorted h.prev]
  have hr : l.all (refsB l) = true := List.all_eq_true.2 fun o ho => by
    obtain ⟨d, hd⟩ := h.deep o ho
    unfold refsB
    rcases up_inv hd with ⟨_, hx⟩ | ⟨e, p, _, hm, hk, _, hx⟩
    · have e1 : o.c = 0 := congrArg Prod.fst hx
      have e2 : o.d = 0 := congrArg Prod.snd hx
      have : noB o.c o.d = true := by unfold noB; exact decide_eq_true ⟨e1, e2⟩
      rw [this]; rfl
    · have e1 : o.c = p.a := congrArg Prod.fst hx
      have e2 : o.d = p.b := congrArg Prod.snd hx
      rw [nextO_find', e1, e2, find_self h1 hm]
      simp [hk]
  have hd : l.all (deepF l (l.length + 1)) = true := List.all_eq_true.2 fun o ho => by
    obtain ⟨d, hd⟩ := h.deep o ho
    exact deep_more (d + 1) (up_deepF hok h1 hd o rfl) (by have := up_len hok h1 hd; omega)
  rw [hr, hd]; rfl
theorem OkL.once {l : List Op7} (h : OkL l) : OnceIds l := sorted_once h.sorted
theorem OkL.ok {l : List Op7} (h : OkL l) : l.all okO = true := List.all_eq_true.2 h.form
/-- What can be done behind what was done. -/
structure CanL (l : List Op7) (o : Op7) : Prop where
  form : okO o = true
  new : ∀ p ∈ l, ¬ (p.a = o.a ∧ p.b = o.b)
  next : 1 < o.b → ∃ q ∈ l, q.a = o.a ∧ q.b = o.b - 1
  ref : ∃ d, Up l d (o.c, o.d)
theorem withL_mem {l : List Op7} (hs : l.Pairwise fun p q => lessB p q = true) {o : Op7} (hno : ∀ p ∈ l, ¬ (p.a = o.a ∧ p.b = o.b)) (x : Op7) : x ∈ withL l o ↔ x = o ∨ x ∈ l := by
  obtain ⟨A, B, h1, h2⟩ := withL_split hs hno
  rw [h2, h1]
  simp only [List.mem_append, List.mem_cons]
  constructor
  · rintro (h | h | h)
    · exact .inr (.inl h)
    · exact .inl h
    · exact .inr (.inr h)
  · rintro (h | h | h)
    · exact .inr (.inl h)
    · exact .inl h
    · exact .inr (.inr h)
theorem withL_sorted {l : List Op7} (hs : l.Pairwise fun p q => lessB p q = true) (o : Op7) : (withL l o).Pairwise fun p q => lessB p q = true := by
  have htr : ∀ p q r : Op7, lessB p q = true → lessB q r = true → lessB p r = true := fun p q r h1 h2 => by
    unfold lessB at *
    have := of_decide_eq_true h1
    have := of_decide_eq_true h2
    exact decide_eq_true (by omega)
  unfold withL
  refine List.pairwise_append.2 ⟨List.pairwise_append.2 ⟨hs.filter _, List.pairwise_singleton _ _, fun p hp q hq => ?_⟩, hs.filter _, fun p hp q hq => ?_⟩
  · obtain rfl := List.mem_singleton.1 hq
    simpa using (List.mem_filter.1 hp).2
  · have hq' : lessB o q = true := by simpa using (List.mem_filter.1 hq).2
    rcases List.mem_append.1 hp with hp | hp
    · exact htr _ _ _ (by simpa using (List.mem_filter.1 hp).2) hq'
    · obtain rfl := List.mem_singleton.1 hp
      exact hq'
theorem CanL.ok {l : List Op7} {o : Op7} (h : OkL l) (hc : CanL l o) : OkL (withL l o) := by
  have hm := withL_mem h.sorted hc.new
  have hsub : ∀ x ∈ l, x ∈ withL l o := fun x hx => (hm x).2 (.inr hx)
  refine ⟨fun x hx => ?_, withL_sorted h.sorted o, fun p hp hb => ?_, fun x hx => ?_⟩
  · rcases (hm x).1 hx with rfl | hx
    · exact hc.form
    · exact h.form x hx
  · rcases (hm p).1 hp with rfl | hp
    · obtain ⟨q, hq, e⟩ := hc.next hb
      exact ⟨q, hsub q hq, e⟩
    · obtain ⟨q, hq, e⟩ := h.prev p hp hb
      exact ⟨q, hsub q hq, e⟩
  · rcases (hm x).1 hx with rfl | hx
    · obtain ⟨d, hd⟩ := hc.ref
      exact ⟨d, hd.mono hsub⟩
    · obtain ⟨d, hd⟩ := h.deep x hx
      exact ⟨d, hd.mono hsub⟩
/-- Just that can be done. -/
theorem can_iff {l : List Op7} {o : Op7} (h : opsB l = true) (hno : ∀ p ∈ l, ¬ (p.a = o.a ∧ p.b = o.b)) : opsB (withL l o) = true ↔ CanL l o := by
  have hL := OkL.of h
  refine ⟨fun hw => ?_, fun hc => (hc.ok hL).ops⟩
  have hW := OkL.of hw
  have hm := withL_mem hL.sorted hno
  have ho : o ∈ withL l o := (hm o).2 (.inl rfl)
  refine ⟨hW.form o ho, hno, fun hb => ?_, ?_⟩
  · obtain ⟨q, hq, e1, e2⟩ := hW.prev o ho hb
    rcases (hm q).1 hq with rfl | hq
    · omega
    · exact ⟨q, hq, e1, e2⟩
  · obtain ⟨d, hd⟩ := hW.deep o ho
    refine ⟨d, ?_⟩
    have key : ∀ {e : Nat} {x : Int × Int}, Up (withL l o) e x → e ≤ d → (∀ f, f < e → True) → Up l e x ∨ ∃ f, f ≤ e ∧ Up (withL l o) f (o.a, o.b) := by
      intro e x hu
      induction hu with
      | zero => intro _ _; exact .inl .zero
      | step hm' hk hu ih =>
        rename_i e p
        intro he _
        rcases (hm p).1 hm' with rfl | hp
        · exact .inr ⟨e + 1, Nat.le_refl _, .step hm' hk hu⟩
        · rcases ih (by omega) (fun _ _ => trivial) with h' | ⟨f, hf, hu'⟩
          · exact .inl (.step hp hk h')
          · exact .inr ⟨f, by omega, hu'⟩
    rcases key hd (Nat.le_refl _) (fun _ _ => trivial) with h' | ⟨f, hf, hu⟩
    · exact h'
    · by_cases hk : o.k = 1
      · have := up_once hW.ok hW.once hu (Up.step ho hk hd)
        omega
      · exfalso
        rcases up_inv hu with ⟨_, hx⟩ | ⟨e, p, _, hm', hk', _, hx⟩
        · have := op_pos hW.ok ho
          have := congrArg Prod.fst hx
          simp at this
          omega
        · have : o = p := once_eq hW.once ho hm' (congrArg Prod.fst hx) (congrArg Prod.snd hx)
          subst this
          exact hk hk'
theorem find_new {l : List Op7} {r m : Int} (h : findI l r m < 0) : ∀ p ∈ l, ¬ (p.a = r ∧ p.b = m) := by
  intro p hp ⟨h1, h2⟩
  unfold findI at h
  cases hf : l.findIdx? (hasId r m) with
  | none =>
    have := List.findIdx?_eq_none_iff.1 hf p hp
    simp [hasId, h1, h2] at this
  | some i => rw [hf] at h; simp only at h; omega
end Go.Proofs.YtficnhlkefpfnaaDoor

namespace Go.Proofs.YtficnhlkefpfnaaDoor
open Go.RowKit
set_option linter.unusedSimpArgs false
set_option linter.unusedVariables false

set_option maxHeartbeats 1000000 in
theorem implOps_any (l : List Op7) (g cap : Nat) (x : Addr) (w : World) (hl : OpsAt w g l) (hn : l.length ≤ 1048576) (hcap : l.length ≤ cap)
    (he : w.cell? ⟨0, 0, none⟩ = some (.iface 200 (.pointer (some x)))) (h0 : 0 < w.heap.size) :
    Calls Tryd.prog 57 #[.slice (some ⟨g, 0, none⟩) l.length cap] w fun e w' => e = .returned (.bool (thB l)) ∧ Below w.heap.size w w' := by
  have HL := hideIt hl
  clear hl
  go_enter Tryd.func57, Tryd.ntmps57
  go_wp2_with fail
  refine (things_any l g cap x _ HL.out hn hcap he h0).mono ?_
  rintro e w1 ⟨(⟨ht, M, _, rfl, hT⟩ | ⟨ht, rfl⟩), hb1⟩
  all_goals
    have HT := hideIt ht
    have HB1 := hideIt hb1
    have herr1 : w1.cell? ⟨0, 0, none⟩ = some (.iface 200 (.pointer (some x))) := by rw [(bcell hb1).1 _ _ h0]; exact he
    clear ht hb1
  · clear hT
    go_wp2_with (first | (go_at_call 98; refine (is_nil x _).mono ?_; rintro e w'' ⟨rfl, rfl⟩))
    go_ret
    exact ⟨ret_bool HT.out.symm, HB1.out⟩
  · go_wp2_with (first | (go_at_call 98; refine (is_same x _).mono ?_; rintro e w'' ⟨rfl, rfl⟩))
    go_ret
    exact ⟨ret_bool HT.out.symm, HB1.out⟩
end Go.Proofs.YtficnhlkefpfnaaDoor

namespace Go.Proofs.YtficnhlkefpfnaaDoor
open Go.RowKit
set_option linter.unusedSimpArgs false
set_option linter.unusedVariables false
attribute [local go_sem ↓] Go.wp_at_zero Go.wp_at_succ

/-- Something more can be done. -/
def okW (l : List Op7) (o : Op7) : Bool := opsB l && (decide (findI l o.a o.b < 0) && opsB (withL l o))
theorem insL_with {l : List Op7} (hs : l.Pairwise fun p q => lessB p q = true) {o : Op7} (hno : ∀ p ∈ l, ¬ (p.a = o.a ∧ p.b = o.b)) : insL l o = withL l o := by
  induction l with
  | nil => rfl
  | cons p r ih =>
    obtain ⟨h1, h2⟩ := List.pairwise_cons.1 hs
    have ih := ih h2 (fun q hq => hno q (by simp [hq]))
    have hp := hno p (by simp)
    by_cases hl : lessB p o = true
    · have hno' : lessB o p = false := by
        unfold lessB at *
        have := of_decide_eq_true hl
        exact decide_eq_false (by omega)
      have e : withL (p :: r) o = p :: withL r o := by
        unfold withL
        rw [List.filter_cons_of_pos (by simp [hl]), List.filter_cons_of_neg (by simp [hno'])]
        simp
      rw [e, ← ih]
      simp [insL, List.takeWhile_cons, List.dropWhile_cons, hl]
    · have hl' : lessB o p = true := by
        unfold lessB at *
        have := of_decide_eq_false (Bool.eq_false_iff.2 hl)
        exact decide_eq_true (by omega)
      have hall : ∀ q ∈ r, lessB o q = true ∧ lessB q o = false := fun q hq => by
        have := h1 q hq
        unfold lessB at *
        have h3 := of_decide_eq_true this
        have h4 := of_decide_eq_true hl'
        exact ⟨decide_eq_true (by omega), decide_eq_false (by omega)⟩
      have e : withL (p :: r) o = o :: p :: r := by
        unfold withL
        rw [List.filter_cons_of_neg (by simpa using hl), List.filter_cons_of_pos (by simp [hl']), List.filter_eq_nil_iff.2 (fun q hq => by simp [(hall q hq).2]), List.filter_eq_self.2 (fun q hq => (hall q hq).1)]
        rfl
      have hl0 : lessB p o = false := Bool.eq_false_iff.2 hl
      rw [e]
      simp [insL, List.takeWhile_cons, List.dropWhile_cons, hl0]
theorem insL_dup {l : List Op7} {o : Op7} (hf : ¬ findI l o.a o.b < 0) : opsB (insL l o) = false := by
  cases h : opsB (insL l o)
  · rfl
  · exfalso
    have hs := ops_sorted h
    have hp : ∃ p ∈ l, p.a = o.a ∧ p.b = o.b := by
      obtain ⟨k, hk, hkl⟩ : ∃ k : Nat, findI l o.a o.b = k ∧ ∃ hk : k < l.length, hasId o.a o.b l[k] = true := by
        unfold findI at hf ⊢
        cases hx : l.findIdx? (hasId o.a o.b) with
        | none => rw [hx] at hf; simp at hf
        | some i =>
          obtain ⟨h1, h2, _⟩ := List.findIdx?_eq_some_iff_getElem.1 hx
          exact ⟨i, rfl, h1, h2⟩
      obtain ⟨hk', hid⟩ := hkl
      exact ⟨l[k], List.getElem_mem _, by simpa [hasId] using hid⟩
    obtain ⟨p, hp, ha, hb⟩ := hp
    unfold insL at hs
    obtain ⟨_, h2, h3⟩ := List.pairwise_append.1 hs
    have hpm : p ∈ l.takeWhile (fun q => lessB q o) ∨ p ∈ l.dropWhile (fun q => lessB q o) := by
      rw [← List.takeWhile_append_dropWhile (p := fun q => lessB q o) (l := l)] at hp
      exact List.mem_append.1 hp
    have : lessB p o = true ∨ lessB o p = true := by
      rcases hpm with h | h
      · exact .inl (h3 p h o (by simp))
      · exact .inr ((List.pairwise_cons.1 h2).1 p h)
    unfold lessB at this
    rcases this with h | h <;> have := of_decide_eq_true h <;> omega

theorem withL_lenW (l : List Op7) (o : Op7) : (withL l o).length ≤ 2 * l.length + 1 := by
  unfold withL
  have h1 := List.length_filter_le (fun p => lessB p o) l
  have h2 := List.length_filter_le (fun p => lessB o p) l
  simp only [List.length_append, List.length_cons, List.length_nil]
  omega
theorem findI_w1 {l : List Op7} {r m : Int} (h : findI l r m < 0) : findI l r m = -1 := by
  unfold findI at *
  cases hx : l.findIdx? (hasId r m) with
  | none => rfl
  | some i => rw [hx] at h; simp only at h; omega
theorem findI_w0 {l : List Op7} {r m : Int} (h : ¬ findI l r m < 0) : ∃ k : Nat, findI l r m = k := ⟨(findI l r m).toNat, by omega⟩
/-- The answer. -/
def ansW (l : List Op7) (o : Op7) : List Op7 := if okW l o = true then withL l o else []
theorem ansW_yes {l : List Op7} {o : Op7} (h : okW l o = true) : ansW l o = withL l o := by unfold ansW; rw [if_pos h]
theorem ansW_no {l : List Op7} {o : Op7} (h : okW l o = false) : ansW l o = [] := by unfold ansW; rw [h]; rfl

set_option maxRecDepth 100000 in
set_option maxHeartbeats 1000000 in
theorem implWith_any (l : List Op7) (g cap : Nat) (o : Op7) (x : Addr) (w : World) (hl : OpsAt w g l) (hn : l.length ≤ 1048576) (hcap : l.length ≤ cap)
    (he : w.cell? ⟨0, 0, none⟩ = some (.iface 200 (.pointer (some x)))) (h0 : 0 < w.heap.size) :
    Calls Tryd.prog 59 #[.slice (some ⟨g, 0, none⟩) l.length cap, .agg #[.int .i64 o.a, .int .i64 o.b, .int .i64 o.k, .int .i64 o.c, .int .i64 o.d, .int .i64 o.s, .int .i64 o.g]] w fun e w' =>
      ∃ v, e = .returned (.tuple #[v, .bool (okW l o)]) ∧ w'.ownsRow w.heap.size 71 7 v (ansW l o).length (opCells (ansW l o)) ∧ Below w.heap.size w w' := by
  have HL := hideIt hl
  have hgw := hl.1
  clear hl
  have HW : Hid (WL w (w.alloc (.cells #[.int .i64 o.a, .int .i64 o.b, .int .i64 o.k, .int .i64 o.c, .int .i64 o.d, .int .i64 o.s, .int .i64 o.g] 71)) o (.slice none 0 0) []) :=
    ⟨World.ownsRow_nil _ _ _ _, World.alloc_heap_new w _, (Below.refl _ _).alloc (Nat.le_refl _) _⟩
  cases hops : opsB l
  · have hz : okW l o = false := by unfold okW; rw [hops]; rfl
    rw [ansW_no hz, hz]
    clear hz
    have HO := hideIt hops
    clear hops
    go_enter Tryd.func59, Tryd.ntmps59
    go_wp2_with (first
      | (go_at_call 57; refine (implOps_any l g cap x _ (HL.out.below HW.out.bel hgw) hn hcap (errB HW.out.bel h0 he) (posB HW.out.bel h0)).mono ?_; rintro e w1 ⟨rfl, hb1⟩; rw [th_same, HO.out]; have HB := hideIt (HW.out.below hb1).bel; clear hb1))
    exact bodyPost_ret (v := .tuple #[.slice none 0 0, .bool false]) (by simp [results, Tryd.results59, go_sem]) rfl ⟨_, rfl, World.ownsRow_nil _ _ _ _, HB.out⟩
  · have h36 := ops_36 hops
    have HINS : Hid (findI l o.a o.b < 0 → insL l o = withL l o) := fun h2 => insL_with (ops_sorted hops) (find_new h2)
    have HDUP : Hid (¬ findI l o.a o.b < 0 → opsB (insL l o) = false) := insL_dup
    have HOK : Hid (okW l o = (decide (findI l o.a o.b < 0) && opsB (withL l o))) := by show okW l o = _; unfold okW; rw [hops]; rfl
    have HO := hideIt hops
    clear hops
    cases hi : opsB (insL l o)
    · have hz : okW l o = false := by
        rw [HOK.out]
        by_cases hf : findI l o.a o.b < 0
        · rw [← HINS.out hf, hi, Bool.and_false]
        · simp [hf]
      rw [ansW_no hz, hz]
      have HI := hideIt hi
      clear hi hz HOK HINS HDUP
      go_enter Tryd.func59, Tryd.ntmps59
      go_wp2_with fail
      refine (implOps_any l g cap x _ (HL.out.below HW.out.bel hgw) hn hcap (errB HW.out.bel h0 he) (posB HW.out.bel h0)).mono ?_
      rintro e w1 ⟨rfl, hb1⟩
      rw [th_same, HO.out]
      have HW1 := hideIt (HW.out.below hb1)
      have HB := hideIt HW1.out.bel
      obtain ⟨b0, b1, b2, b3, b4, b5, b6⟩ := HW1.out.id
      clear hb1
      go_wp2_with fail
      refine (putIn_any l g cap o _ (HL.out.below HB.out hgw) hn hcap).mono ?_
      rintro e w2 ⟨G, c, rfl, hO2, hb2⟩
      have HO2 := hideIt hO2
      have HB := hideIt (Bstep HB.out hb2)
      clear hO2 hb2
      go_wp2_with fail
      refine (implOps_any (insL l o) G c x _ HO2.out.at (by rw [insL_len]; omega) HO2.out.cap (errB HB.out h0 he) (posB HB.out h0)).mono ?_
      rintro e w3 ⟨rfl, hb3⟩
      rw [th_same, HI.out]
      have HB := hideIt (Bstep HB.out hb3)
      clear hb3
      go_wp2
      exact bodyPost_ret (v := .tuple #[.slice none 0 0, .bool false]) (by simp [results, Tryd.results59, go_sem]) rfl ⟨_, rfl, World.ownsRow_nil _ _ _ _, HB.out⟩
    · have hf : findI l o.a o.b < 0 := by
        rcases Decidable.em (findI l o.a o.b < 0) with h | h
        · exact h
        · rw [HDUP.out h] at hi; cases hi
      have hz : okW l o = true := by rw [HOK.out, ← HINS.out hf, hi]; simp [hf]
      rw [ansW_yes hz, hz, ← HINS.out hf]
      have HI := hideIt hi
      clear hi hz HOK HINS HDUP hf
      go_enter Tryd.func59, Tryd.ntmps59
      go_wp2_with fail
      refine (implOps_any l g cap x _ (HL.out.below HW.out.bel hgw) hn hcap (errB HW.out.bel h0 he) (posB HW.out.bel h0)).mono ?_
      rintro e w1 ⟨rfl, hb1⟩
      rw [th_same, HO.out]
      have HW1 := hideIt (HW.out.below hb1)
      have HB := hideIt HW1.out.bel
      obtain ⟨b0, b1, b2, b3, b4, b5, b6⟩ := HW1.out.id
      clear hb1
      go_wp2_with fail
      refine (putIn_any l g cap o _ (HL.out.below HB.out hgw) hn hcap).mono ?_
      rintro e w2 ⟨G, c, rfl, hO2, hb2⟩
      have HO2 := hideIt (show OwnOps w2 w.heap.size G c (insL l o) from ownsRow_base HB.out.size hO2)
      have HB := hideIt (Bstep HB.out hb2)
      clear hO2 hb2
      go_wp2_with fail
      refine (implOps_any (insL l o) G c x _ HO2.out.at (by rw [insL_len]; omega) HO2.out.cap (errB HB.out h0 he) (posB HB.out h0)).mono ?_
      rintro e w3 ⟨rfl, hb3⟩
      rw [th_same, HI.out]
      have HO3 := hideIt (HO2.out.below hb3)
      have HB := hideIt (Bstep HB.out hb3)
      clear hb3
      go_wp2
      exact bodyPost_ret (v := .tuple #[.slice (some ⟨G, 0, none⟩) (insL l o).length c, .bool true]) (by simp [results, Tryd.results59, go_sem]) rfl ⟨_, rfl, HO3.out, HB.out⟩

set_option maxRecDepth 100000 in
set_option maxHeartbeats 1000000 in
theorem specWith_any (l : List Op7) (g cap : Nat) (o : Op7) (w : World) (hl : OpsAt w g l) (hn : l.length ≤ 1048576) (hcap : l.length ≤ cap) :
    Calls Tryd.prog 109 #[.slice (some ⟨g, 0, none⟩) l.length cap, .agg #[.int .i64 o.a, .int .i64 o.b, .int .i64 o.k, .int .i64 o.c, .int .i64 o.d, .int .i64 o.s, .int .i64 o.g]] w fun e w' =>
      ∃ v, e = .returned (.tuple #[v, .bool (okW l o)]) ∧ w'.ownsRow w.heap.size 71 7 v (ansW l o).length (opCells (ansW l o)) ∧ Below w.heap.size w w' := by
  have HL := hideIt hl
  have hgw := hl.1
  clear hl
  have HW : Hid (WL w (w.alloc (.cells #[.int .i64 o.a, .int .i64 o.b, .int .i64 o.k, .int .i64 o.c, .int .i64 o.d, .int .i64 o.s, .int .i64 o.g] 71)) o (.slice none 0 0) []) :=
    ⟨World.ownsRow_nil _ _ _ _, World.alloc_heap_new w _, (Below.refl _ _).alloc (Nat.le_refl _) _⟩
  cases hops : opsB l
  · have hz : okW l o = false := by unfold okW; rw [hops]; rfl
    rw [ansW_no hz, hz]
    clear hz
    have HO := hideIt hops
    clear hops
    go_enter Tryd.func109, Tryd.ntmps109
    go_wp2_with (first
      | (go_at_call 54; refine (specOps_any l g cap _ (HL.out.below HW.out.bel hgw) hn hcap).mono ?_; rintro e w1 ⟨rfl, hb1⟩; rw [HO.out]; have HB := hideIt (HW.out.below hb1).bel; clear hb1))
    exact bodyPost_ret (v := .tuple #[.slice (some ⟨w1.heap.size, 0, none⟩) 0 0, .bool false]) (by simp [results, Tryd.results109, go_sem]) rfl ⟨_, rfl, World.ownsRow_made (base := w.heap.size) (e := 71) (size := 7) _ #[] 0 HB.out.size (Nat.zero_le _) rfl, HB.out.alloc HB.out.size _⟩
  · have h36 := ops_36 hops
    have HOK : Hid (okW l o = (decide (findI l o.a o.b < 0) && opsB (withL l o))) := by show okW l o = _; unfold okW; rw [hops]; rfl
    have HO := hideIt hops
    clear hops
    by_cases hf : findI l o.a o.b < 0
    · have HF := hideIt (findI_w1 hf)
      cases hi : opsB (withL l o)
      · have hz : okW l o = false := by rw [HOK.out, hi, Bool.and_false]
        rw [ansW_no hz, hz]
        have HI := hideIt hi
        clear hi hz HOK hf
        go_enter Tryd.func109, Tryd.ntmps109
        go_wp2_with fail
        refine (specOps_any l g cap _ (HL.out.below HW.out.bel hgw) hn hcap).mono ?_
        rintro e w1 ⟨rfl, hb1⟩
        rw [HO.out]
        have HW1 := hideIt (HW.out.below hb1)
        obtain ⟨b0, b1, b2, b3, b4, b5, b6⟩ := HW1.out.id
        clear hb1
        go_wp2_with fail
        refine (l1Find_any l _ _ _ _ _ (HL.out.below HW1.out.bel hgw) hn hcap).mono ?_
        rintro e w2 ⟨rfl, hb2⟩
        rw [HF.out]
        have HW2 := hideIt (HW1.out.below hb2)
        clear hb2 b0 b1 b2 b3 b4 b5 b6
        obtain ⟨b0, b1, b2, b3, b4, b5, b6⟩ := HW2.out.id
        go_wp2_with fail
        refine (l3With_any l g cap o _ (HL.out.below HW2.out.bel hgw) hn hcap).mono ?_
        rintro e w3 ⟨G, c, rfl, hO3, hb3⟩
        have HO3 := hideIt (show OwnOps w3 w.heap.size G c (withL l o) from ownsRow_base HW2.out.bel.size hO3)
        have HB := hideIt (Bstep HW2.out.bel hb3)
        clear hO3 hb3
        go_wp2_with fail
        refine (specOps_any (withL l o) G c _ HO3.out.at (by have := withL_lenW l o; omega) HO3.out.cap).mono ?_
        rintro e w4 ⟨rfl, hb4⟩
        rw [HI.out]
        have HO4 := hideIt (HO3.out.below hb4)
        have HB := hideIt (Bstep HB.out hb4)
        clear hb4
        go_wp2
        exact bodyPost_ret (v := .tuple #[.slice (some ⟨w4.heap.size, 0, none⟩) 0 0, .bool false]) (by simp [results, Tryd.results109, go_sem]) rfl ⟨_, rfl, World.ownsRow_made (base := w.heap.size) (e := 71) (size := 7) _ #[] 0 HB.out.size (Nat.zero_le _) rfl, HB.out.alloc HB.out.size _⟩
      · have hz : okW l o = true := by rw [HOK.out, hi]; simp [hf]
        rw [ansW_yes hz, hz]
        have HI := hideIt hi
        clear hi hz HOK hf
        go_enter Tryd.func109, Tryd.ntmps109
        go_wp2_with fail
        refine (specOps_any l g cap _ (HL.out.below HW.out.bel hgw) hn hcap).mono ?_
        rintro e w1 ⟨rfl, hb1⟩
        rw [HO.out]
        have HW1 := hideIt (HW.out.below hb1)
        obtain ⟨b0, b1, b2, b3, b4, b5, b6⟩ := HW1.out.id
        clear hb1
        go_wp2_with fail
        refine (l1Find_any l _ _ _ _ _ (HL.out.below HW1.out.bel hgw) hn hcap).mono ?_
        rintro e w2 ⟨rfl, hb2⟩
        rw [HF.out]
        have HW2 := hideIt (HW1.out.below hb2)
        clear hb2 b0 b1 b2 b3 b4 b5 b6
        obtain ⟨b0, b1, b2, b3, b4, b5, b6⟩ := HW2.out.id
        go_wp2_with fail
        refine (l3With_any l g cap o _ (HL.out.below HW2.out.bel hgw) hn hcap).mono ?_
        rintro e w3 ⟨G, c, rfl, hO3, hb3⟩
        have HO3 := hideIt (show OwnOps w3 w.heap.size G c (withL l o) from ownsRow_base HW2.out.bel.size hO3)
        have HB := hideIt (Bstep HW2.out.bel hb3)
        clear hO3 hb3
        go_wp2_with fail
        refine (specOps_any (withL l o) G c _ HO3.out.at (by have := withL_lenW l o; omega) HO3.out.cap).mono ?_
        rintro e w4 ⟨rfl, hb4⟩
        rw [HI.out]
        have HO4 := hideIt (HO3.out.below hb4)
        have HB := hideIt (Bstep HB.out hb4)
        clear hb4
        go_wp2
        exact bodyPost_ret (v := .tuple #[.slice (some ⟨G, 0, none⟩) (withL l o).length c, .bool true]) (by simp [results, Tryd.results109, go_sem]) rfl ⟨_, rfl, HO4.out, HB.out⟩
    · have hz : okW l o = false := by rw [HOK.out]; simp [hf]
      rw [ansW_no hz, hz]
      obtain ⟨kf, hkf⟩ := findI_w0 hf
      have HF := hideIt hkf
      have hk0 : ¬ (kf : Int) < 0 := by omega
      clear hz HOK hf hkf
      go_enter Tryd.func109, Tryd.ntmps109
      go_wp2_with fail
      refine (specOps_any l g cap _ (HL.out.below HW.out.bel hgw) hn hcap).mono ?_
      rintro e w1 ⟨rfl, hb1⟩
      rw [HO.out]
      have HW1 := hideIt (HW.out.below hb1)
      obtain ⟨b0, b1, b2, b3, b4, b5, b6⟩ := HW1.out.id
      clear hb1
      go_wp2_with fail
      refine (l1Find_any l _ _ _ _ _ (HL.out.below HW1.out.bel hgw) hn hcap).mono ?_
      rintro e w2 ⟨rfl, hb2⟩
      rw [HF.out]
      have HW2 := hideIt (HW1.out.below hb2)
      clear hb2 b0 b1 b2 b3 b4 b5 b6
      obtain ⟨b0, b1, b2, b3, b4, b5, b6⟩ := HW2.out.id
      go_wp2
      have HB := hideIt HW2.out.bel
      exact bodyPost_ret (v := .tuple #[.slice (some ⟨w2.heap.size, 0, none⟩) 0 0, .bool false]) (by simp [results, Tryd.results109, go_sem]) rfl ⟨_, rfl, World.ownsRow_made (base := w.heap.size) (e := 71) (size := 7) _ #[] 0 HB.out.size (Nat.zero_le _) rfl, HB.out.alloc HB.out.size _⟩
end Go.Proofs.YtficnhlkefpfnaaDoor

namespace Go.Proofs.YtficnhlkefpfnaaDoor
open Go.RowKit
set_option linter.unusedSimpArgs false
set_option linter.unusedVariables false
attribute [local go_sem ↓] Go.wp_at_zero Go.wp_at_succ

/-- Places, as cells. -/
def natCells (L : List Nat) : List Value := L.map fun i => .int .i64 (Int.ofNat i)
theorem natCells_len (L : List Nat) : (natCells L).length = L.length := by simp [natCells]
theorem natCells_more (L : List Nat) (k : Nat) : natCells (L ++ [k]) = natCells L ++ [.int .i64 (k : Int)] := by simp [natCells]
theorem nat_one {k : Int} : ∀ u ∈ [Value.int .i64 k], u.oneCell' = true := by
  intro u hu
  simp at hu
  subst hu
  rfl

set_option maxRecDepth 100000 in
set_option maxHeartbeats 2000000 in
theorem l3Shown_any (L : List Lf) (G c base : Nat) (w : World) (h : w.ownsRow base 115 4 (.slice (some ⟨G, 0, none⟩) L.length c) L.length (lfCells L)) (hn : L.length ≤ 1048576) (hc : L.length ≤ c) :
    Calls Tryd.prog 95 #[.slice (some ⟨G, 0, none⟩) L.length c] w fun e w' => ∃ S c', e = .returned (.slice (some ⟨S, 0, none⟩) (shownI L).length c') ∧ w'.ownsRow w.heap.size 3 1 (.slice (some ⟨S, 0, none⟩) (shownI L).length c') (shownI L).length (natCells (shownI L)) ∧ Below w.heap.size w w' := by
  have hG := (h.lt G rfl).2
  have HC : Hid (∀ j, j < L.length * 4 → w.cell? ⟨G, j, none⟩ = (lfCells L)[j]?) := fun j hj => h.cellAt j hj
  clear h
  obtain ⟨i0, hi, hz0', hz1', hz2⟩ := info_parts infoInt
  have HI1 := hideIt hi
  have HZ0 := hideIt hz0'
  have HZ1 := hideIt hz1'
  have HZ2 := hideIt hz2
  clear hi hz0' hz1' hz2
  go_enter Tryd.func95, Tryd.ntmps95
  go_wp2
  have HST : Hid ((w.alloc (.cells #[] 3)).ownsRow w.heap.size 3 1 (.slice (some ⟨w.heap.size, 0, none⟩) 0 0) 0 []) :=
    World.ownsRow_made (base := w.heap.size) (e := 3) (size := 1) w #[] 0 (Nat.le_refl _) (Nat.zero_le _) rfl
  go_loopw [3, 4] (fun v i wr => ∃ (k S c' : Nat), k ≤ L.length ∧ i = .int .i64 k ∧ v = .slice (some ⟨S, 0, none⟩) (shownTo L k).length c' ∧ wr.ownsRow w.heap.size 3 1 v (shownTo L k).length (natCells (shownTo L k)) ∧ Below w.heap.size w wr)
    (fun _ i _ => L.length - (intOf i).toNat)
  case atStart => exact ⟨0, w.heap.size, 0, Nat.zero_le _, rfl, rfl, HST.out, (Below.refl _ _).alloc (Nat.le_refl _) _⟩
  case round =>
    obtain ⟨k, Sb, cs, hk, rfl, rfl, hrow, hB⟩ := hrel
    have HB := hideIt hB
    have HRW := hideIt hrow
    have hzr := hB.size
    by_cases hlt : k < L.length
    · obtain ⟨i0', i1, i2, i3⟩ := lfCells_at L k L[k] (by simp [hlt])
      have y3 := ((bcell hB).1 G _ hG).trans ((HC.out (k * 4 + 3) (by omega)).trans i3)
      have hGr := Nat.lt_of_lt_of_le hG hB.size
      have hgone : Hid (L[k].z = true → shownTo L (k + 1) = shownTo L k) := shownTo_gone hlt
      have hthere : Hid (L[k].z = false → shownTo L (k + 1) = shownTo L k ++ [k]) := shownTo_there hlt
      have hsl : (shownTo L k).length ≤ 1048576 := by have := shownTo_len L k; omega
      generalize L[k].z = xz at *
      have hlt' : (k : Int) < (L.length : Int) := by omega
      have hk0 : (0 : Int) ≤ (k : Int) := by omega
      clear hB hrow i0' i1 i2 i3
      cases xz
      · have hsame := hideIt (hthere.out rfl)
        go_wp2_with (first
          | (at_builtin; refine wpList_append_own_at _ rfl _ _ 33 rfl w.heap.size 3 i0 _ 1 8 Tryd.underlying33 HI1.out HZ0.out HZ1.out HZ2.out rfl (by decide) _ _ _ rfl (HRW.out.alloc _) ⟨wr.heap.size, 0, none⟩ 1 1 [.int .i64 (k : Int)] rfl rfl (cells_new wr [.int .i64 (k : Int)] 3) nat_one (by unfold maxLen; omega) (by omega) (by simp; omega) ?_; intro v' w2 hown2 hg2 _ _;
              obtain ⟨g', cap', hv'⟩ := ownsRow_succ hown2; subst hv';
              have HO2 := hideIt hown2; have HB2 := hideIt (below_grown (HB.out.alloc HB.out.size _) hg2 (by simp; omega) (fun j e => (HRW.out.lt j e).1)); clear hown2 hg2))
        exact ⟨⟨k + 1, _, _, by omega, by go_num, by rw [hsame.out, List.length_append]; rfl, by rw [hsame.out, natCells_more, List.length_append]; exact HO2.out, HB2.out⟩, by simp [intOf]; omega⟩
      · have hsame := hideIt (hgone.out rfl)
        go_wp2
        exact ⟨⟨k + 1, _, _, by omega, by go_num, by rw [hsame.out], by rw [hsame.out]; exact HRW.out, HB.out⟩, by simp [intOf]; omega⟩
    · obtain rfl : k = L.length := by omega
      go_wp2
      go_ret
      exact ⟨_, _, rfl, HRW.out, HB.out⟩
end Go.Proofs.YtficnhlkefpfnaaDoor

namespace Go.Proofs.YtficnhlkefpfnaaDoor
open Go.RowKit
set_option linter.unusedSimpArgs false
set_option linter.unusedVariables false
/-- A box with a thing in it, in memory that has grown. -/
structure OX (b : Nat) (o : Op7) (w W : World) : Prop where
  box : W.heap[b]? = some (.cells #[.int .i64 o.a, .int .i64 o.b, .int .i64 o.k, .int .i64 o.c, .int .i64 o.d, .int .i64 o.s, .int .i64 o.g] 71 (0, 0))
  bel : Below w.heap.size w W
theorem OX.below {b : Nat} {o : Op7} {w W W' : World} (h : OX b o w W) (hb : Below W.heap.size W W') : OX b o w W' := ⟨blk_below h.box hb, Bstep h.bel hb⟩
end Go.Proofs.YtficnhlkefpfnaaDoor

namespace Go.Proofs.YtficnhlkefpfnaaDoor
open Go.RowKit
set_option linter.unusedSimpArgs false
set_option linter.unusedVariables false
attribute [local go_sem ↓] Go.wp_at_zero Go.wp_at_succ

theorem canBe_any (l : List Op7) (g cap : Nat) (o : Op7) (x : Addr) (w : World) (hl : OpsAt w g l) (hn : l.length ≤ 1048576) (hcap : l.length ≤ cap)
    (he : w.cell? ⟨0, 0, none⟩ = some (.iface 200 (.pointer (some x)))) (h0 : 0 < w.heap.size) :
    Calls Tryd.prog 112 #[.slice (some ⟨g, 0, none⟩) l.length cap, .agg #[.int .i64 o.a, .int .i64 o.b, .int .i64 o.k, .int .i64 o.c, .int .i64 o.d, .int .i64 o.s, .int .i64 o.g]] w fun e w' => e = .returned (.bool (okW l o)) ∧ Below w.heap.size w w' := by
  have HL := hideIt hl
  have hgw := hl.1
  clear hl
  have HB0 : Hid (Below w.heap.size w (w.alloc (.cells #[.int .i64 o.a, .int .i64 o.b, .int .i64 o.k, .int .i64 o.c, .int .i64 o.d, .int .i64 o.s, .int .i64 o.g] 71))) := (Below.refl _ _).alloc (Nat.le_refl _) _
  go_enter Tryd.func112, Tryd.ntmps112
  go_wp2_with fail
  refine (implWith_any l g cap o x _ (HL.out.below HB0.out hgw) hn hcap (errB HB0.out h0 he) (posB HB0.out h0)).mono ?_
  rintro e w1 ⟨v, rfl, hr, hb1⟩
  have HB1 := hideIt (Bstep HB0.out hb1)
  clear hb1
  go_wp2
  go_ret
  exact ⟨rfl, HB1.out⟩

/-- A thing that rightly waits. -/
def waitsB (l : List Op7) (o : Op7) : Bool := okO o && (decide (findI l o.a o.b < 0) && !okW l o)

set_option maxRecDepth 100000 in
set_option maxHeartbeats 1000000 in
theorem waits_any (l : List Op7) (hO : opsB l = true) (g cap : Nat) (o : Op7) (x : Addr) (w : World) (hl : OpsAt w g l) (hn : l.length ≤ 1048576) (hcap : l.length ≤ cap)
    (he : w.cell? ⟨0, 0, none⟩ = some (.iface 200 (.pointer (some x)))) (h0 : 0 < w.heap.size) :
    Calls Tryd.prog 82 #[.slice (some ⟨g, 0, none⟩) l.length cap, .agg #[.int .i64 o.a, .int .i64 o.b, .int .i64 o.k, .int .i64 o.c, .int .i64 o.d, .int .i64 o.s, .int .i64 o.g]] w fun e w' => e = .returned (.bool (waitsB l o)) ∧ Below w.heap.size w w' := by
  have HL := hideIt hl
  have hgw := hl.1
  clear hl
  have HX0 : Hid (OX w.heap.size o w (w.alloc (.cells #[.int .i64 o.a, .int .i64 o.b, .int .i64 o.k, .int .i64 o.c, .int .i64 o.d, .int .i64 o.s, .int .i64 o.g] 71))) := ⟨World.alloc_heap_new _ _, (Below.refl _ _).alloc (Nat.le_refl _) _⟩
  have hfi : findB l o.a o.b = findI l o.a o.b := by unfold findB; rw [if_pos hO]
  have HFI := hideIt hfi
  clear hfi
  have hoo : okO o = opB o.a o.b o.k o.c o.d o.s o.g := rfl
  go_enter Tryd.func82, Tryd.ntmps82
  go_wp2_with fail
  refine (implOp_any _ _ _ _ _ _ _ x _ (errB HX0.out.bel h0 he) (posB HX0.out.bel h0)).mono ?_
  rintro e w1 ⟨rfl, hb1⟩
  rw [← hoo]
  clear hoo
  have HX1 := hideIt (HX0.out.below hb1)
  clear hb1 HX0
  have x0 := (blk_cell HX1.out.box 0).trans rfl
  have x1 := (blk_cell HX1.out.box 1).trans rfl
  have x2 := (blk_cell HX1.out.box 2).trans rfl
  have x3 := (blk_cell HX1.out.box 3).trans rfl
  have x4 := (blk_cell HX1.out.box 4).trans rfl
  have x5 := (blk_cell HX1.out.box 5).trans rfl
  have x6 := (blk_cell HX1.out.box 6).trans rfl
  have xl := (Array.getElem?_eq_some_iff.1 HX1.out.box).1
  cases ho : okO o
  · have HR : Hid (waitsB l o = false) := by show waitsB l o = false; unfold waitsB; rw [ho]; rfl
    clear ho
    go_wp2
    go_ret
    exact ⟨ret_bool HR.out.symm, HX1.out.bel⟩
  · by_cases hf : findI l o.a o.b < 0
    · have HR : Hid (waitsB l o = !okW l o) := by show waitsB l o = _; unfold waitsB; rw [ho, decide_eq_true hf]; simp
      clear ho
      go_wp2_with fail
      refine (implFind_any l g cap o.a o.b x _ (HL.out.below HX1.out.bel hgw) hn hcap (errB HX1.out.bel h0 he) (posB HX1.out.bel h0)).mono ?_
      rintro e w2 ⟨rfl, hb2⟩
      rw [HFI.out]
      have HX2 := hideIt (HX1.out.below hb2)
      clear hb2 x0 x1 x2 x3 x4 x5 x6 xl HX1
      have x0 := (blk_cell HX2.out.box 0).trans rfl
      have x1 := (blk_cell HX2.out.box 1).trans rfl
      have x2 := (blk_cell HX2.out.box 2).trans rfl
      have x3 := (blk_cell HX2.out.box 3).trans rfl
      have x4 := (blk_cell HX2.out.box 4).trans rfl
      have x5 := (blk_cell HX2.out.box 5).trans rfl
      have x6 := (blk_cell HX2.out.box 6).trans rfl
      have xl := (Array.getElem?_eq_some_iff.1 HX2.out.box).1
      go_wp2_with fail
      refine (canBe_any l g cap o x _ (HL.out.below HX2.out.bel hgw) hn hcap (errB HX2.out.bel h0 he) (posB HX2.out.bel h0)).mono ?_
      rintro e w3 ⟨rfl, hb3⟩
      have HX3 := hideIt (HX2.out.below hb3)
      go_wp2
      go_ret
      exact ⟨ret_bool HR.out.symm, HX3.out.bel⟩
    · have HR : Hid (waitsB l o = false) := by show waitsB l o = _; unfold waitsB; rw [ho, decide_eq_false hf]; rfl
      clear ho
      go_wp2_with fail
      refine (implFind_any l g cap o.a o.b x _ (HL.out.below HX1.out.bel hgw) hn hcap (errB HX1.out.bel h0 he) (posB HX1.out.bel h0)).mono ?_
      rintro e w2 ⟨rfl, hb2⟩
      rw [HFI.out]
      have HX2 := hideIt (HX1.out.below hb2)
      go_wp2
      go_ret
      exact ⟨ret_bool HR.out.symm, HX2.out.bel⟩
end Go.Proofs.YtficnhlkefpfnaaDoor
