/- Where those that were put stand among leaves. -/
import Derived.Test.YthhlhogknpgccaaDoorPackB
import Derived.Maps.OwnIn
import Derived.RangeFuncNested
import Derived.RangeFuncBound
import Derived.RangeFuncCalls
import Derived.RangeFuncLeaves
import Derived.Shelf.Abstract
import Derived.OwnWalkIn
import Derived.TacticsInMore
import Derived.LoopNIn
import Derived.LoopIn
import Derived.RangeFuncBox
import Derived.Test.YthhlhogknpgccaaDoorPackA
import Derived.Test.YthhlhogknpgccaaDoorPackC
import Derived.BigQuiet
import Derived.WalkSmall
namespace Go.Proofs.YthhlhogknpgccaaDoor
open Go.RowKit
set_option linter.unusedSimpArgs false
set_option linter.unusedVariables false
attribute [local go_sem ↓] Go.wp_at_zero Go.wp_at_succ

set_option maxRecDepth 100000 in
set_option maxHeartbeats 1000000 in
theorem leafOf_any (l : List Op7) (hops : opsB l = true) (hn : l.length ≤ 1048576) (b1 b2 b3 base : Nat) (o : Op7) (hok : okO o = true) (w : World) (hT : TreeAt w b1 b2 b3 base l) :
    Calls Tryd.prog 68 #[.agg #[.map (some b1), .map (some b2), .map (some b3)], .agg #[.int .i64 o.a, .int .i64 o.b, .int .i64 o.c, .int .i64 o.d, .int .i64 o.s, .int .i64 o.g]] w fun e w' => e = .returned (.agg #[.int .i64 o.a, .int .i64 o.b, .int .i64 o.g, .bool (goneB l (o.a, o.b))]) ∧ Below w.heap.size w w' := by
  have HT := hideIt hT
  have hnum := okO_num hok
  obtain ⟨kl, hkl⟩ := key_id (r := o.a) (m := o.b) (wf_small (by omega)) (wf_small (by omega))
  have HKL := hideIt hkl
  have HG : Hid (goneB l (o.a, o.b) = decide (0 < takesN l (o.a, o.b))) := gone_take (opsParts hops).1 _
  have HV : Hid ((takeF l (o.a, o.b)).getD (.int .i64 0) = .int .i64 (takesN l (o.a, o.b) : Nat)) := takeF_get l _
  have hle := takesN_le l (o.a, o.b)
  generalize takesN l (o.a, o.b) = nn at *
  clear hT hkl
  go_enter Tryd.func68, Tryd.ntmps68
  go_wp2_with fail
  have HBW : Hid (Below w.heap.size w (((w.alloc (.cells #[.map (some b1), .map (some b2), .map (some b3)] 50)).alloc (.cells #[.int .i64 o.a, .int .i64 o.b, .int .i64 o.c, .int .i64 o.d, .int .i64 o.s, .int .i64 o.g] 72)).alloc (.cells #[.int .i64 0, .int .i64 0, .int .i64 0, .bool false] 35))) := (((Below.refl _ _).alloc (Nat.le_refl _) _).alloc (by simp) _).alloc (by simp; omega) _
  have L0 : (Instr.lookup 48 (.map (some b3)) (.agg #[.int .i64 o.a, .int .i64 o.b]) false).run Tryd.prog (((w.alloc (.cells #[.map (some b1), .map (some b2), .map (some b3)] 50)).alloc (.cells #[.int .i64 o.a, .int .i64 o.b, .int .i64 o.c, .int .i64 o.d, .int .i64 o.s, .int .i64 o.g] 72)).alloc (.cells #[.int .i64 0, .int .i64 0, .int .i64 0, .bool false] 35)).drew = .ok (.int .i64 nn) (((w.alloc (.cells #[.map (some b1), .map (some b2), .map (some b3)] 50)).alloc (.cells #[.int .i64 o.a, .int .i64 o.b, .int .i64 o.c, .int .i64 o.d, .int .i64 o.s, .int .i64 o.g] 72)).alloc (.cells #[.int .i64 0, .int .i64 0, .int .i64 0, .bool false] 35)).drew := by
    have hM : MapFn Tryd.prog 31 (((w.alloc (.cells #[.map (some b1), .map (some b2), .map (some b3)] 50)).alloc (.cells #[.int .i64 o.a, .int .i64 o.b, .int .i64 o.c, .int .i64 o.d, .int .i64 o.s, .int .i64 o.g] 72)).alloc (.cells #[.int .i64 0, .int .i64 0, .int .i64 0, .bool false] 35)).drew b3 encId (takeF l) := HT.out.2.2.below HBW.out.drew HT.out.2.2.lt
    have h := hM.look false keyedId Tryd.underlying48 (zeroInt _) encId_inj (o.a, o.b) HKL.out
    rw [HV.out] at h
    exact h
  have n0 : (0 : Int) ≤ (nn : Int) := by omega
  have n1 : (nn : Int) ≤ 1048576 := by omega
  go_region_held3 (fun w' => w'.cell? ⟨w.heap.size, 2, none⟩ = some (.map (some b3)) ∧ w'.cell? ⟨w.heap.size + 1, 0, none⟩ = some (.int .i64 o.a) ∧ w'.cell? ⟨w.heap.size + 1, 1, none⟩ = some (.int .i64 o.b) ∧ w'.cell? ⟨w.heap.size + 1, 5, none⟩ = some (.int .i64 o.g))
    (first | exact ⟨by simp [go_sem], by simp [go_sem], by simp [go_sem], by simp [go_sem]⟩)
    (fail)
  rename_i hS
  clear hS
  go_wp2
  have hG : decide (0 < nn) = goneB l (o.a, o.b) := HG.out.symm
  exact bodyPost_ret (v := .agg #[.int .i64 o.a, .int .i64 o.b, .int .i64 o.g, .bool (goneB l (o.a, o.b))]) (by simp [results, Tryd.results68, go_sem, hG]) rfl ⟨rfl, by have := HBW.out; go_grown⟩

/-- The look-up without 'ok', at the operation, inside a fence. -/
theorem wpListIn_look0 {α : Type} {P : Program} {k t e : TypeId} {w : World} {b : Nat} {enc : α → Value} {f : α → Option Value} {F : Fence} {nF : Nat} {ops : Array Oper} {rest : List Oper} {o : Oper} {A : Act} {Q : Exit → Act → World → Prop}
    (hg : o.guard = none) (m x : Operand) (hop : o.op = Op.lookup t m x false) (K : Go.Maps.Keyed P k) (ht : P.underlying t = some (.map k e)) (z : Value) (hz : (zeroValue e).run P w = .ok z w)
    (hinj : ∀ a a', enc a = enc a' → a = a') (hm : A.eval m = .map (some b)) (hown : MapFn P k w b enc f) (a : α) (hx : A.eval x = enc a) (kl : Lit) (hkey : keyOf P k (enc a) = some kl) (v : Value) (hv : (f a).getD z = v)
    (hK : wpListIn F nF P ops Q rest (A.put o.dst v) w) :
    wpListIn F nF P ops Q (o :: rest) A w := by
  refine wpListIn_plain hg fun K' hK' => ?_
  have hrun := hown.look false K ht hz hinj a hkey
  rw [hv] at hrun
  unfold Oper.wpIn
  refine ⟨by simp [Oper.about, hop], ?_⟩
  rw [Oper.semAt_plain F _ _ (by rw [hop]; intro c hc'; cases hc')]
  simp [execOp, hop, hm, hx, hrun, Result.andThen]
  exact hK' _ _ hK
end Go.Proofs.YthhlhogknpgccaaDoor

namespace Go.Proofs.YthhlhogknpgccaaDoor
open Go.RowKit Go.Shelf
set_option linter.unusedSimpArgs false
set_option linter.unusedVariables false
attribute [local go_sem] Oper.semAt_some

theorem room_none {F : Fence} (hd : F.depth = none) (k : Nat) : F.room k := fun d h => by rw [hd] at h; cases h
theorem round_any {F : Fence} (hd : F.depth = none) {m m' : Nat} {P : Program} {l : Nat} {f : FuncId} {tmps : Array Value} {assign body : Code} {w : World} {R : Ending → World → Prop}
    (h : RoundIn F m P l f tmps assign body w R) : RoundIn F m' P l f tmps assign body w R := ⟨h.1, fun c cs _ => h.2 c cs (room_none hd _)⟩
theorem yield_any {F : Fence} (hd : F.depth = none) {m : Nat} (m' : Nat) {P : Program} {l : Nat} {args : Array Value} {W : World} {R : Ending → World → Prop} (h : YieldAt F m P l args W R) : YieldAt F m' P l args W R := by
  obtain ⟨fn, tmps, assign, body, hy, hR⟩ := h
  exact ⟨fn, tmps, assign, body, hy, round_any hd hR⟩

/-- What a round keeps: all that lay below n0, and the walk's own blocks. -/
def KpT (n0 : Nat) (W W' : World) : Prop := Below n0 W W' ∧ ∀ (b : Nat) (cur : Array Value) (T : TypeId) (fr : Nat × Nat), W.heap[b]? = some (.cells cur T fr) → (T = 50 ∨ T = 68 ∨ T = 72) → W'.heap[b]? = W.heap[b]?
theorem KpT.refl (n0 : Nat) (W : World) : KpT n0 W W := ⟨Below.refl _ _, fun _ _ _ _ _ _ => rfl⟩
theorem KpT.trans {n0 : Nat} {A B C : World} (h : KpT n0 A B) (k : KpT n0 B C) : KpT n0 A C :=
  ⟨h.1.trans k.1, fun b cur T fr hb hT => by have e := h.2 b cur T fr hb hT; exact (k.2 b cur T fr (e.trans hb) hT).trans e⟩
theorem KpT.of_below {n0 : Nat} {W W' : World} (hn : n0 ≤ W.heap.size) (h : Below W.heap.size W W') : KpT n0 W W' :=
  ⟨h.mono hn, fun b cur T fr hb _ => h.block b (Array.getElem?_eq_some_iff.1 hb).1⟩
theorem KpT.cell {n0 : Nat} {W W' : World} (h : KpT n0 W W') {b : Nat} {cur : Array Value} {T : TypeId} {fr : Nat × Nat} (hb : W.heap[b]? = some (.cells cur T fr)) (hT : T = 50 ∨ T = 68 ∨ T = 72) : W'.heap[b]? = some (.cells cur T fr) :=
  (h.2 b cur T fr hb hT).trans hb
/-- How a part of the walk ends: all of xs have come; or a round has said 'no more'. -/
def EPost (n0 : Nat) (J Jx : List Lf → World → Prop) (pre xs : List Lf) (W : World) (e : Ending) (W' : World) : Prop :=
  (e = .returned (.bool true) ∧ J (pre ++ xs) W' ∧ KpT n0 W W') ∨ (e = .returned (.bool false) ∧ ∃ q, Jx q W')
theorem abides_below {B : Nat} {J : List Lf → World → Prop} (hJ : AbidesFrom B J) {pre : List Lf} {W W' : World} (h : J pre W) (hb : Below W.heap.size W W') : J pre W' :=
  hJ pre W W' none h ⟨hb.os, hb.tape, hb.output, hb.size, fun i hi _ => hb.block i hi⟩ (fun r e => by cases e)
theorem blk_cell {W : World} {b : Nat} {cur : Array Value} {T : TypeId} (h : W.heap[b]? = some (.cells cur T (0, 0))) (j : Nat) : W.cell? ⟨b, j, none⟩ = cur[j]? := by simp [World.cell?, h]

set_option maxRecDepth 100000 in
set_option maxHeartbeats 4000000 in
theorem eachOf_in (l : List Op7) (hops : opsB l = true) (hn : l.length ≤ 1048576) (w0 : World) (b1 b2 b3 base : Nat) (hT : TreeAt w0 b1 b2 b3 base l) (lp B N : Nat) (J Jx : List Lf → World → Prop) (hJ : AbidesFrom B J)
    (hY : ∀ m pre (x : Lf) W, J pre W → pre.length < N → YieldAt Fence.wide m Tryd.prog lp #[.agg #[.int .i64 x.a, .int .i64 x.b, .int .i64 x.g, .bool x.z]] W fun e W' =>
      (e = .returned (.bool true) ∧ J (pre ++ [x]) W' ∧ KpT w0.heap.size W W') ∨ (e = .returned (.bool false) ∧ Jx (pre ++ [x]) W'))
    (o : Op7) (hok : okO o = true) (X0 X1 : List Lf)
    (ih0 : ∀ k pre W, Below w0.heap.size w0 W → J pre W → pre.length + X0.length ≤ N → CallsIn Fence.wide k Tryd.prog 41 #[.agg #[.map (some b1), .map (some b2), .map (some b3)], .agg #[.int .i64 o.a, .int .i64 o.b, .int .i64 0], .func (.yield lp) #[] #[]] W (EPost w0.heap.size J Jx pre X0 W))
    (ih1 : ∀ k pre W, Below w0.heap.size w0 W → J pre W → pre.length + X1.length ≤ N → CallsIn Fence.wide k Tryd.prog 41 #[.agg #[.map (some b1), .map (some b2), .map (some b3)], .agg #[.int .i64 o.a, .int .i64 o.b, .int .i64 1], .func (.yield lp) #[] #[]] W (EPost w0.heap.size J Jx pre X1 W))
    (k : Nat) (pre : List Lf) (W : World) (hW : Below w0.heap.size w0 W) (h0 : J pre W) (hN : pre.length + (X0.length + 1 + X1.length) ≤ N) :
    CallsIn Fence.wide k Tryd.prog 51 #[.agg #[.map (some b1), .map (some b2), .map (some b3)], .agg #[.int .i64 o.a, .int .i64 o.b, .int .i64 o.c, .int .i64 o.d, .int .i64 o.s, .int .i64 o.g], .func (.yield lp) #[] #[]] W (EPost w0.heap.size J Jx pre (X0 ++ ⟨o.a, o.b, o.g, goneB l (o.a, o.b)⟩ :: X1) W) := by
  refine callsIn_of_wp Tryd.func51 rfl trivial ?_ rfl
  simp only [Tryd.ntmps51, List.size_toArray, List.length_cons, List.length_nil, Nat.reduceAdd, Nat.reduceSub, Array.replicate_succ, Array.replicate_zero, List.push_toArray, List.append_toArray, List.nil_append, List.cons_append]
  have hn0 : w0.heap.size ≤ W.heap.size := hW.size
  have HBa : Hid (Below W.heap.size W ((W.alloc (.cells #[.map (some b1), .map (some b2), .map (some b3)] 50)).alloc (.cells #[.int .i64 o.a, .int .i64 o.b, .int .i64 o.c, .int .i64 o.d, .int .i64 o.s, .int .i64 o.g] 72))) := ((Below.refl _ _).alloc (Nat.le_refl _) _).alloc (by simp) _
  have HKa : Hid (KpT w0.heap.size W ((W.alloc (.cells #[.map (some b1), .map (some b2), .map (some b3)] 50)).alloc (.cells #[.int .i64 o.a, .int .i64 o.b, .int .i64 o.c, .int .i64 o.d, .int .i64 o.s, .int .i64 o.g] 72))) := KpT.of_below hn0 HBa.out
  have HWa : Hid (Below w0.heap.size w0 ((W.alloc (.cells #[.map (some b1), .map (some b2), .map (some b3)] 50)).alloc (.cells #[.int .i64 o.a, .int .i64 o.b, .int .i64 o.c, .int .i64 o.d, .int .i64 o.s, .int .i64 o.g] 72))) := hW.trans HKa.out.1
  have HTa : Hid (((W.alloc (.cells #[.map (some b1), .map (some b2), .map (some b3)] 50)).alloc (.cells #[.int .i64 o.a, .int .i64 o.b, .int .i64 o.c, .int .i64 o.d, .int .i64 o.s, .int .i64 o.g] 72)).heap[W.heap.size]? = some (.cells #[.map (some b1), .map (some b2), .map (some b3)] 50 (0, 0))) := (Below.heap_alloc _ _ _ (by simp)).trans (World.alloc_heap_new _ _)
  have HSa : Hid (((W.alloc (.cells #[.map (some b1), .map (some b2), .map (some b3)] 50)).alloc (.cells #[.int .i64 o.a, .int .i64 o.b, .int .i64 o.c, .int .i64 o.d, .int .i64 o.s, .int .i64 o.g] 72)).heap[W.heap.size + 1]? = some (.cells #[.int .i64 o.a, .int .i64 o.b, .int .i64 o.c, .int .i64 o.d, .int .i64 o.s, .int .i64 o.g] 72 (0, 0))) := by
    have h := World.alloc_heap_new (W.alloc (.cells #[.map (some b1), .map (some b2), .map (some b3)] 50)) (.cells #[.int .i64 o.a, .int .i64 o.b, .int .i64 o.c, .int .i64 o.d, .int .i64 o.s, .int .i64 o.g] 72)
    rw [World.size_alloc] at h
    exact h
  have IH0 := hideIt ih0
  have IH1 := hideIt ih1
  have HY := hideIt hY
  have HJ := hideIt hJ
  have HT := hideIt hT
  have HJa := hideIt (abides_below hJ h0 HBa.out)
  clear ih0 ih1 hY hJ hT h0 hW
  gi_wp2
  refine ⟨trivial, (fun h => by cases h), ?_⟩
  refine (IH0.out _ pre _ HWa.out HJa.out (by omega)).mono ?_
  rintro e W1 (⟨rfl, hJ1, hK1⟩ | ⟨rfl, q, hq⟩)
  · have t1 := hK1.cell HTa.out (.inl rfl)
    have s1 := hK1.cell HSa.out (.inr (.inr rfl))
    have HT1 := hideIt t1
    have HS1 := hideIt s1
    have HJ1 := hideIt hJ1
    have HK1 := hideIt (HKa.out.trans hK1)
    have HW1 := hideIt (HWa.out.trans hK1.1)
    have ct0 := (blk_cell t1 0).trans rfl
    have ct1 := (blk_cell t1 1).trans rfl
    have ct2 := (blk_cell t1 2).trans rfl
    have cs0 := (blk_cell s1 0).trans rfl
    have cs1 := (blk_cell s1 1).trans rfl
    have cs2 := (blk_cell s1 2).trans rfl
    have cs3 := (blk_cell s1 3).trans rfl
    have cs4 := (blk_cell s1 4).trans rfl
    have cs5 := (blk_cell s1 5).trans rfl
    clear t1 s1 hJ1 hK1 HJa HKa HWa HTa HSa HBa
    gi_wp2
    refine ⟨trivial, (fun h => by cases h), ?_⟩
    refine (callsIn_wide.2 (leafOf_any l hops hn b1 b2 b3 base o hok W1 (HT.out.below HW1.out))).mono ?_
    rintro e W2 ⟨rfl, hb2⟩
    have HK2 := hideIt (KpT.of_below (n0 := w0.heap.size) HW1.out.size hb2)
    have HJ2 := hideIt (abides_below HJ.out HJ1.out hb2)
    clear hb2 ct0 ct1 ct2 cs0 cs1 cs2 cs3 cs4 cs5 HJ1
    obtain ⟨fn, tmps, assign, body, hy, hR⟩ := HY.out (k - 1) (pre ++ X0) ⟨o.a, o.b, o.g, goneB l (o.a, o.b)⟩ W2 HJ2.out (by simp; omega)
    dsimp only at hy
    have HR := hideIt hR
    clear hR
    gi_wp2
    refine ⟨(fun h => by cases h), ?_⟩
    refine HR.out.mono ?_
    rintro e W3 (⟨rfl, hJ3, hK3⟩ | ⟨rfl, hx3⟩)
    · have hk13 := HK2.out.trans hK3
      have t3 := hk13.cell HT1.out (.inl rfl)
      have s3 := hk13.cell HS1.out (.inr (.inr rfl))
      have HJ3 := hideIt hJ3
      have HK3 := hideIt (HK1.out.trans hk13)
      have HW3 := hideIt (HW1.out.trans hk13.1)
      have ct0 := (blk_cell t3 0).trans rfl
      have ct1 := (blk_cell t3 1).trans rfl
      have ct2 := (blk_cell t3 2).trans rfl
      have cs0 := (blk_cell s3 0).trans rfl
      have cs1 := (blk_cell s3 1).trans rfl
      have cs2 := (blk_cell s3 2).trans rfl
      have cs3 := (blk_cell s3 3).trans rfl
      have cs4 := (blk_cell s3 4).trans rfl
      have cs5 := (blk_cell s3 5).trans rfl
      clear hk13 t3 s3 hJ3 hK3 HR hy HJ2 HK2 HT1 HS1 HK1 HW1
      gi_wp2
      refine ⟨trivial, (fun h => by cases h), ?_⟩
      refine (IH1.out _ (pre ++ X0 ++ [⟨o.a, o.b, o.g, goneB l (o.a, o.b)⟩]) _ HW3.out HJ3.out (by simp; omega)).mono ?_
      rintro e W4 (⟨rfl, hJ4, hK4⟩ | ⟨rfl, q, hq⟩)
      · gi_wp2
        go_ret
        exact .inl ⟨rfl, by simpa [List.append_assoc] using hJ4, HK3.out.trans hK4⟩
      · gi_wp2
        go_ret
        exact .inr ⟨rfl, q, hq⟩
    · gi_wp2
      refine ⟨trivial, ?_⟩
      gi_wp2
      go_ret
      exact .inr ⟨rfl, _, hx3⟩
  · gi_wp2
    refine ⟨trivial, ?_⟩
    gi_wp2
    refine ⟨fun _ h => (by cases h), ?_⟩
    gi_wp2
    refine ⟨trivial, ?_⟩
    gi_wp2
    go_ret
    exact .inr ⟨rfl, q, hq⟩

theorem up_num {l : List Op7} (hok : l.all okO = true) {d : Nat} {x : Int × Int} (h : Up l d x) : (0 ≤ x.1 ∧ x.1 ≤ 3) ∧ (0 ≤ x.2 ∧ x.2 ≤ 12) := by
  rcases up_inv h with ⟨_, rfl⟩ | ⟨e, o, _, hm, _, _, rfl⟩
  · simp
  · have := okO_num (List.all_eq_true.1 hok o hm)
    simp only
    omega
theorem lfs_app (l A B : List Op7) : lfs l (A ++ B) = lfs l A ++ lfs l B := by simp [lfs]
theorem lfs_step {l : List Op7} {n : Nat} {K : List Op7} {k : Nat} (h : k < K.length) : lfs l (sideK l n (K.take (k + 1))) = lfs l (sideK l n (K.take k)) ++ (lfs l (sideO l n (K[k].a, K[k].b, 0)) ++ ⟨K[k].a, K[k].b, K[k].g, goneB l (K[k].a, K[k].b)⟩ :: lfs l (sideO l n (K[k].a, K[k].b, 1))) := by
  rw [sideK_step h]
  simp [lfs]

set_option maxRecDepth 100000 in
set_option maxHeartbeats 4000000 in
theorem eachKid_in (l : List Op7) (hops : opsB l = true) (hn : l.length ≤ 1048576) (w0 : World) (b1 b2 b3 base : Nat) (hT : TreeAt w0 b1 b2 b3 base l) (lp B N : Nat) (J Jx : List Lf → World → Prop) (hJ : AbidesFrom B J)
    (hY : ∀ m pre (x : Lf) W, J pre W → pre.length < N → YieldAt Fence.wide m Tryd.prog lp #[.agg #[.int .i64 x.a, .int .i64 x.b, .int .i64 x.g, .bool x.z]] W fun e W' =>
      (e = .returned (.bool true) ∧ J (pre ++ [x]) W' ∧ KpT w0.heap.size W W') ∨ (e = .returned (.bool false) ∧ Jx (pre ++ [x]) W')) :
    ∀ (n d : Nat) (r m s : Int), Up l d (r, m) → (s = 0 ∨ s = 1) → d + n = l.length + 2 → ∀ k pre W, Below w0.heap.size w0 W → J pre W → pre.length + (lfs l (sideO l n (r, m, s))).length ≤ N →
      CallsIn Fence.wide k Tryd.prog 41 #[.agg #[.map (some b1), .map (some b2), .map (some b3)], .agg #[.int .i64 r, .int .i64 m, .int .i64 s], .func (.yield lp) #[] #[]] W (EPost w0.heap.size J Jx pre (lfs l (sideO l n (r, m, s))) W) := by
  intro n
  induction n with
  | zero =>
    intro d r m s hu _ hd
    have := up_le hops hu
    omega
  | succ n ih =>
    intro d r m s hu hs01 hd k pre W hW h0 hN
    have hnum := up_num (opsParts hops).1 hu
    simp only at hnum
    obtain ⟨ks, hks⟩ := key_spot (r := r) (m := m) (s := s) (wf_small (by omega)) (wf_small (by omega)) (wf_small (by omega))
    have OF : Hid (∀ o ∈ kidsL l (r, m, s), ∀ k pre W, Below w0.heap.size w0 W → J pre W → pre.length + ((lfs l (sideO l n (o.a, o.b, 0))).length + 1 + (lfs l (sideO l n (o.a, o.b, 1))).length) ≤ N →
        CallsIn Fence.wide k Tryd.prog 51 #[.agg #[.map (some b1), .map (some b2), .map (some b3)], .agg #[.int .i64 o.a, .int .i64 o.b, .int .i64 o.c, .int .i64 o.d, .int .i64 o.s, .int .i64 o.g], .func (.yield lp) #[] #[]] W (EPost w0.heap.size J Jx pre (lfs l (sideO l n (o.a, o.b, 0)) ++ ⟨o.a, o.b, o.g, goneB l (o.a, o.b)⟩ :: lfs l (sideO l n (o.a, o.b, 1))) W)) :=
      fun o ho k pre W hW h0 hN => eachOf_in l hops hn w0 b1 b2 b3 base hT lp B N J Jx hJ hY o (List.all_eq_true.1 (opsParts hops).1 o (mem_kids ho).1) _ _
        (fun k pre W hW h0 hN => ih (d + 1) o.a o.b 0 (up_kid ho hu) (.inl rfl) (by omega) k pre W hW h0 hN)
        (fun k pre W hW h0 hN => ih (d + 1) o.a o.b 1 (up_kid ho hu) (.inr rfl) (by omega) k pre W hW h0 hN) k pre W hW h0 hN
    rw [sideK_all] at hN ⊢
    obtain ⟨f, hf⟩ := hT.2.1
    have hrow := hf.at (r, m, s)
    have hM : Hid (MapFn Tryd.prog 68 w0 b2 encSpot f) := hf.1
    obtain ⟨v0, hv0⟩ : ∃ v0, (f (r, m, s)).getD (.slice none 0 0) = v0 := ⟨_, rfl⟩
    rw [hv0] at hrow
    have HV0 := hideIt hv0
    have HKS := hideIt hks
    have HJ := hideIt hJ
    have hn0 : w0.heap.size ≤ W.heap.size := hW.size
    have hKl : (kidsL l (r, m, s)).length ≤ 1048576 := Nat.le_trans (kids_le l _) hn
    clear ih hu hd hY hJ hT hf hv0 hks hops
    generalize kidsL l (r, m, s) = K at *
    have HBa : Hid (Below W.heap.size W ((W.alloc (.cells #[.map (some b1), .map (some b2), .map (some b3)] 50)).alloc (.cells #[.int .i64 r, .int .i64 m, .int .i64 s] 68))) := ((Below.refl _ _).alloc (Nat.le_refl _) _).alloc (by simp) _
    have HKa : Hid (KpT w0.heap.size W ((W.alloc (.cells #[.map (some b1), .map (some b2), .map (some b3)] 50)).alloc (.cells #[.int .i64 r, .int .i64 m, .int .i64 s] 68))) := KpT.of_below hn0 HBa.out
    have HWa := hideIt (hW.trans HKa.out.1)
    have HTa : Hid (((W.alloc (.cells #[.map (some b1), .map (some b2), .map (some b3)] 50)).alloc (.cells #[.int .i64 r, .int .i64 m, .int .i64 s] 68)).heap[W.heap.size]? = some (.cells #[.map (some b1), .map (some b2), .map (some b3)] 50 (0, 0))) := (Below.heap_alloc _ _ _ (by simp)).trans (World.alloc_heap_new _ _)
    have HJa := hideIt (abides_below HJ.out h0 HBa.out)
    clear h0 hW
    rcases row_cases hrow with ⟨hlen, p0, c0, rfl⟩ | ⟨hlen, G, cap0, rfl, hcap0, hGl, hcell⟩
    · obtain rfl : K = [] := List.length_eq_zero_iff.1 hlen
      refine callsIn_of_wp Tryd.func41 rfl trivial ?_ rfl
      simp only [Tryd.ntmps41, List.size_toArray, List.length_cons, List.length_nil, Nat.reduceAdd, Nat.reduceSub, Array.replicate_succ, Array.replicate_zero, List.push_toArray, List.append_toArray, List.nil_append, List.cons_append]
      gi_wp2_with (first
        | (gi_at_lookup; refine wpListIn_look0 (t := 47) (e := 66) rfl _ _ rfl keyedSpot Tryd.underlying47 (.slice none 0 0) (zeroSlice _) encSpot_inj rfl (hM.out.below HWa.out hM.out.lt) (r, m, s) rfl ks HKS.out _ HV0.out ?_)
        | gi_in)
      gi_loopw [14] (fun i wr => ∃ j : Nat, j = 0 ∧ i = .int .i64 j ∧ J pre wr ∧ KpT w0.heap.size W wr)
        (fun _ _ => 0)
      case atStart => exact ⟨0, rfl, rfl, HJa.out, HKa.out⟩
      case round =>
        obtain ⟨j, rfl, rfl, hj, hkp⟩ := hrel
        gi_wp2
        go_ret
        exact .inl ⟨rfl, by simpa [sideK, lfs] using hj, hkp⟩
    · have HCE := hideIt hcell
      clear hrow hcell
      refine callsIn_of_wp Tryd.func41 rfl trivial ?_ rfl
      simp only [Tryd.ntmps41, List.size_toArray, List.length_cons, List.length_nil, Nat.reduceAdd, Nat.reduceSub, Array.replicate_succ, Array.replicate_zero, List.push_toArray, List.append_toArray, List.nil_append, List.cons_append]
      gi_wp2_with (first
        | (gi_at_lookup; refine wpListIn_look0 (t := 47) (e := 66) rfl _ _ rfl keyedSpot Tryd.underlying47 (.slice none 0 0) (zeroSlice _) encSpot_inj rfl (hM.out.below HWa.out hM.out.lt) (r, m, s) rfl ks HKS.out _ HV0.out ?_)
        | gi_in)
      gi_loopw [14] (fun i wr => ∃ j : Nat, j ≤ K.length ∧ i = .int .i64 j ∧ J (pre ++ lfs l (sideK l n (K.take j))) wr ∧ KpT w0.heap.size W wr ∧ Below w0.heap.size w0 wr ∧ wr.heap[W.heap.size]? = some (.cells #[.map (some b1), .map (some b2), .map (some b3)] 50 (0, 0)))
        (fun i _ => K.length - (intOf i).toNat)
      case atStart => exact ⟨0, Nat.zero_le _, rfl, by simpa [sideK, lfs] using HJa.out, HKa.out, HWa.out, HTa.out⟩
      case round =>
        obtain ⟨j, hj, rfl, hJj, hKj, hWj, hTj⟩ := hrel
        have HJj := hideIt hJj
        have HKj := hideIt hKj
        have HWj := hideIt hWj
        have ct0 := (blk_cell hTj 0).trans rfl
        have ct1 := (blk_cell hTj 1).trans rfl
        have ct2 := (blk_cell hTj 2).trans rfl
        have HTj := hideIt hTj
        have hlw : W.heap.size < wr.heap.size := (Array.getElem?_eq_some_iff.1 hTj).1
        clear hJj hKj hTj HJa HKa HWa HTa HBa
        by_cases hlt : j < K.length
        · obtain ⟨i0', i1', i2', i3', i4', i5'⟩ := putCells_at K j K[j] (by simp [hlt])
          have cc : ∀ q, q < K.length * 6 → wr.cell? ⟨G, q, none⟩ = (putCells K)[q]? := fun q hq => (hWj.cell (p := ⟨G, q, none⟩) hGl).trans (HCE.out q hq)
          have y0 := (cc (j * 6) (by omega)).trans i0'
          have y1 := (cc (j * 6 + 1) (by omega)).trans i1'
          have y2 := (cc (j * 6 + 2) (by omega)).trans i2'
          have y3 := (cc (j * 6 + 3) (by omega)).trans i3'
          have y4 := (cc (j * 6 + 4) (by omega)).trans i4'
          have y5 := (cc (j * 6 + 5) (by omega)).trans i5'
          have HMK : Hid (K[j] ∈ K) := List.getElem_mem hlt
          have HST := hideIt (lfs_step (l := l) (n := n) hlt)
          have HLE : Hid (pre.length + (lfs l (sideK l n (K.take (j + 1)))).length ≤ N) := by
            have h := sideK_le (l := l) (n := n) (K := K) (j + 1)
            show pre.length + (lfs l (sideK l n (K.take (j + 1)))).length ≤ N
            rw [lfs_len] at hN ⊢
            omega
          have hGr : G < wr.heap.size := Nat.lt_of_lt_of_le hGl hWj.size
          generalize K[j] = o at *
          have hlt' : (j : Int) < (K.length : Int) := by omega
          have hj0 : (0 : Int) ≤ (j : Int) := by omega
          clear cc i0' i1' i2' i3' i4' i5' hWj
          have HBo : Hid (Below wr.heap.size wr (wr.alloc (.cells #[.int .i64 o.a, .int .i64 o.b, .int .i64 o.c, .int .i64 o.d, .int .i64 o.s, .int .i64 o.g] 72))) := (Below.refl _ _).alloc (Nat.le_refl _) _
          have HKo := hideIt (KpT.of_below (n0 := w0.heap.size) HWj.out.size HBo.out)
          have HJo := hideIt (abides_below HJ.out HJj.out HBo.out)
          have HWo := hideIt (HWj.out.trans HKo.out.1)
          have hll : pre.length + (lfs l (sideK l n (K.take j))).length + ((lfs l (sideO l n (o.a, o.b, 0))).length + 1 + (lfs l (sideO l n (o.a, o.b, 1))).length) ≤ N := by
            have h := HLE.out
            rw [HST.out] at h
            simp only [List.length_append, List.length_cons] at h
            omega
          gi_wp2
          refine ⟨trivial, (fun h => by cases h), ?_⟩
          refine (OF.out o HMK.out _ (pre ++ lfs l (sideK l n (K.take j))) _ HWo.out HJo.out (by rw [List.length_append]; exact hll)).mono ?_
          rintro e W5 (⟨rfl, hJ5, hK5⟩ | ⟨rfl, q, hq⟩)
          · have HJ5 := hideIt hJ5
            have HK5 := hideIt (HKo.out.trans hK5)
            clear hJ5 hK5
            gi_wp2
            exact ⟨⟨j + 1, by omega, by go_num, by rw [HST.out, ← List.append_assoc]; exact HJ5.out, HKj.out.trans HK5.out, HWj.out.trans HK5.out.1, HK5.out.cell HTj.out (.inl rfl)⟩, by simp [intOf]; omega⟩
          · gi_wp2
            go_ret
            exact .inr ⟨rfl, q, hq⟩
        · obtain rfl : j = K.length := by omega
          gi_wp2
          go_ret
          exact .inl ⟨rfl, by have h := HJj.out; rw [List.take_length] at h; exact h, HKj.out⟩
end Go.Proofs.YthhlhogknpgccaaDoor

namespace Go.Proofs.YthhlhogknpgccaaDoor
open Go.RowKit Go.Shelf
set_option linter.unusedSimpArgs false
set_option linter.unusedVariables false
attribute [local go_sem] Oper.semAt_some

theorem leaves_any (v1 v2 v3 : Value) (w : World) (h : v1.cells = #[v1] ∧ v2.cells = #[v2] ∧ v3.cells = #[v3]) (b1 b2 b3 : Nat) (hv : v1 = .map (some b1) ∧ v2 = .map (some b2) ∧ v3 = .map (some b3)) :
    Calls Tryd.prog 24 #[.agg #[v1, v2, v3]] w fun e w' => e = .returned (.func (.func 40) #[] #[.pointer (some ⟨w.heap.size, 0, none⟩)]) ∧ w' = w.alloc (.cells #[v1, v2, v3] 50) := by
  obtain ⟨rfl, rfl, rfl⟩ := hv
  go_enter Tryd.func24, Tryd.ntmps24
  go_wp2
  go_ret
  exact ⟨rfl, rfl⟩

/-- A leaf as a value. -/
def lfV (x : Lf) : Value := .agg #[.int .i64 x.a, .int .i64 x.b, .int .i64 x.g, .bool x.z]

set_option maxRecDepth 100000 in
set_option maxHeartbeats 2000000 in
theorem leaves1_in (l : List Op7) (hops : opsB l = true) (hn : l.length ≤ 1048576) (w0 : World) (b1 b2 b3 base : Nat) (hT : TreeAt w0 b1 b2 b3 base l) (lp B : Nat) (J Jx : List Lf → World → Prop) (hJ : AbidesFrom B J)
    (hY : ∀ m pre (x : Lf) W, J pre W → pre.length < (allO l).length → YieldAt Fence.wide m Tryd.prog lp #[lfV x] W fun e W' =>
      (e = .returned (.bool true) ∧ J (pre ++ [x]) W' ∧ KpT w0.heap.size W W') ∨ (e = .returned (.bool false) ∧ Jx (pre ++ [x]) W'))
    (k Bt : Nat) (W : World) (hW : Below w0.heap.size w0 W) (h0 : J [] W) (hB : W.heap[Bt]? = some (.cells #[.map (some b1), .map (some b2), .map (some b3)] 50 (0, 0))) :
    CallsIn Fence.wide k Tryd.prog 40 #[.func (.yield lp) #[] #[], .pointer (some ⟨Bt, 0, none⟩)] W fun e W' => (∃ v, e = .returned v) ∧ ((∃ xs, xs = lfs l (allO l) ∧ J xs W') ∨ (∃ pre, True ∧ Jx pre W')) := by
  have hK := eachKid_in l hops hn w0 b1 b2 b3 base hT lp B (allO l).length J Jx hJ hY (l.length + 2) 0 0 0 1 Up.zero (.inr rfl) (by omega)
  have HK := hideIt hK
  have ct0 := (blk_cell hB 0).trans rfl
  have ct1 := (blk_cell hB 1).trans rfl
  have ct2 := (blk_cell hB 2).trans rfl
  clear hK hY hT
  refine callsIn_of_wp Tryd.func40 rfl trivial ?_ rfl
  simp only [Tryd.ntmps40, List.size_toArray, List.length_cons, List.length_nil, Nat.reduceAdd, Nat.reduceSub, Array.replicate_succ, Array.replicate_zero, List.push_toArray, List.append_toArray, List.nil_append, List.cons_append]
  gi_wp2
  refine ⟨trivial, (fun h => by cases h), ?_⟩
  refine (HK.out _ [] _ hW h0 (by simp [lfs_len, allO])).mono ?_
  rintro e W5 (⟨rfl, hJ5, hK5⟩ | ⟨rfl, q, hq⟩)
  · gi_wp2
    go_end0
    exact ⟨⟨_, rfl⟩, .inl ⟨_, rfl, by have h := hJ5; rw [List.nil_append] at h; exact h⟩⟩
  · gi_wp2
    go_end0
    exact ⟨⟨_, rfl⟩, .inr ⟨q, trivial, hq⟩⟩

theorem leaves_stops (l : List Op7) (hops : opsB l = true) (hn : l.length ≤ 1048576) (w0 : World) (b1 b2 b3 base : Nat) (hT : TreeAt w0 b1 b2 b3 base l) (n Bt : Nat) (w : World) (hW : Below w0.heap.size w0 w)
    (hB : w.heap[Bt]? = some (.cells #[.map (some b1), .map (some b2), .map (some b3)] 50 (0, 0))) :
    SeqStopsK Fence.wide n Tryd.prog 40 #[.pointer (some ⟨Bt, 0, none⟩)] (fun x : Lf => #[lfV x]) (KpT w0.heap.size) (fun ys => ys = lfs l (allO l)) (fun _ => True) (allO l).length w := fun lp J Jx W hb hJ hJx hY h0 =>
  leaves1_in l hops hn w0 b1 b2 b3 base hT lp W.heap.size J Jx hJ (fun m pre x W1 h1 h2 => yield_any rfl m (hY pre x W1 h1 h2)) n Bt W (hW.trans (hb.mono hW.size)) h0
    ((hb.block Bt (Array.getElem?_eq_some_iff.1 hB).1).trans hB)

theorem kpT_b {n0 : Nat} {w : World} (hn : n0 ≤ w.heap.size) (W : World) (l : Nat) (o o' : Obj) (hl : w.heap.size ≤ l) (h : W.heap[l]? = some o) (hc : o.isCells = false) (hw : o.isWalk = false) : KpT n0 W (W.putObj l o') :=
  ⟨belowK_b hn W l o o' hl h hc hw, fun b cur T fr hb _ => World.putObj_heap_other (fun e => by subst e; rw [hb] at h; cases h; cases hc)⟩
/-- A row of leaves, and a box, are none of the walk's own blocks. -/
theorem kpT_row {n0 : Nat} {W W' : World} {row : Option Nat} (hn : n0 ≤ W.heap.size) (hg : W.grownBy W' row) (hr : ∀ j, row = some j → n0 ≤ j ∧ ∃ cur T fr, W.heap[j]? = some (.cells cur T fr) ∧ ¬ (T = 50 ∨ T = 68 ∨ T = 72)) : KpT n0 W W' :=
  ⟨(Below.refl n0 W).grown hg hn (fun k e => (hr k e).1), fun b cur T fr hb hT => hg.block b (Array.getElem?_eq_some_iff.1 hb).1 (fun e => by
    obtain ⟨_, cur', T', fr', h1, h2⟩ := hr b e.symm
    rw [hb] at h1
    cases h1
    exact h2 hT)⟩
theorem own_type {W : World} {b : Nat} {T : TypeId} {m : Nat} {v : Value} {n : Nat} {xs : List Value} (h : W.ownsRow b T m v n xs) {j : Nat} (e : v.ownBlock = some j) (hT : ¬ (T = 50 ∨ T = 68 ∨ T = 72)) : ∃ cur T fr, W.heap[j]? = some (.cells cur T fr) ∧ ¬ (T = 50 ∨ T = 68 ∨ T = 72) := by
  rcases h.2 with ⟨rfl, _⟩ | ⟨g, cap, cur, rfl, _, hg, _⟩
  · cases e
  · obtain rfl : g = j := by simpa [Value.ownBlock] using e
    exact ⟨cur, T, _, hg, hT⟩
theorem lf_one : ∀ {a b g : Int} {z : Bool}, ∀ u ∈ [Value.int .i64 a, .int .i64 b, .int .i64 g, .bool z], u.oneCell' = true := by
  intro a b g z u hu
  simp at hu
  rcases hu with rfl | rfl | rfl | rfl <;> rfl
theorem lfCells_more (L : List Lf) (x : Lf) : lfCells (L ++ [x]) = lfCells L ++ [.int .i64 x.a, .int .i64 x.b, .int .i64 x.g, .bool x.z] := by simp [lfCells]

set_option maxRecDepth 100000 in
set_option maxHeartbeats 2000000 in
theorem appendSeq_in (l : List Op7) (hops : opsB l = true) (hn : l.length ≤ 1048576) (w0 : World) (b1 b2 b3 base : Nat) (hT : TreeAt w0 b1 b2 b3 base l) (n Bt : Nat) (h2 : 2 ≤ n) (w : World) (hW : Below w0.heap.size w0 w)
    (hB : w.heap[Bt]? = some (.cells #[.map (some b1), .map (some b2), .map (some b3)] 50 (0, 0))) :
    CallsIn Fence.wide n Tryd.prog 39 #[.slice none 0 0, .func (.func 40) #[] #[.pointer (some ⟨Bt, 0, none⟩)]] w fun e w' => ∃ v, e = .returned v ∧ w'.ownsRow w.heap.size 35 4 v (lfs l (allO l)).length (lfCells (lfs l (allO l))) ∧ Below w.heap.size w w' := by
  have h1 : 1 ≤ n := by omega
  have hlen : (allO l).length ≤ 1048576 := Nat.le_trans (all_len hops) hn
  obtain ⟨i0, hi, hz0, hz1, hz2⟩ := info_parts infoLeaf
  have HI1 := hideIt hi
  have HZ0 := hideIt hz0
  have HZ1 := hideIt hz1
  have HZ2 := hideIt hz2
  clear hi hz0 hz1 hz2
  have hsz : (w.alloc (.cells #[.slice none 0 0] 25)).heap.size = w.heap.size + 1 := by simp
  have hBw : Below w.heap.size w (w.alloc (.cells #[.slice none 0 0] 25)) := (Below.refl _ _).alloc (Nat.le_refl _) _
  have hn0 : w0.heap.size ≤ w.heap.size := hW.size
  have HSQ := hideIt (leaves_stops l hops hn w0 b1 b2 b3 base hT (n - 1) Bt (w.alloc (.cells #[.slice none 0 0] 25)) (hW.trans (hBw.mono hn0)) ((hBw.block Bt (Array.getElem?_eq_some_iff.1 hB).1).trans hB))
  clear hT hW hB
  refine callsIn_of_wp_marks Tryd.func39 rfl trivial ?_ rfl
  simp only [Tryd.ntmps39, List.size_toArray, List.length_cons, List.length_nil, Nat.reduceAdd, Nat.reduceSub, Array.replicate_succ, Array.replicate_zero, List.push_toArray, List.append_toArray, List.nil_append, List.cons_append]
  gi_wp2
  refine wpIn_rangeFunc_ownH rfl h1 (gf := 40) (lb := #[.pointer (some ⟨Bt, 0, none⟩)]) rfl trivial (enters_of Tryd.func40 (by kernel_rfl) rfl) HSQ.out
    (fun h k => h.trans k) (kpT_b (by omega)) (Below.refl _ _) (fun _ => rfl)
    (fun pre W => (∃ v, Boxed W w.heap.size 25 v ∧ W.ownsRow w.heap.size 35 4 v pre.length (lfCells pre) ∧ True) ∧ Below w.heap.size w W)
    (fun _ _ _ => False)
    (OwnFrom.and (Own.from (holdsRow_own w.heap.size w.heap.size 25 35 4 (fun pre : List Lf => pre.length) (fun pre => lfCells pre) (fun _ _ => True)) _) (ownFrom_below (Nat.le_refl _) (by omega)))
    (fun _ _ _ _ _ hs _ _ => hs)
    ⟨⟨_, Boxed.new _ _ _, World.ownsRow_nil _ _ _ _, trivial⟩, hBw⟩
    (fun x a' W => ∃ Bx, w.heap.size + 1 ≤ Bx ∧ W.heap[Bx]? = some (.cells #[.int .i64 x.a, .int .i64 x.b, .int .i64 x.g, .bool x.z] 35 (0, 0)) ∧ a' = { tmps := #[.slice none 0 0, .func (.func 40) #[] #[.pointer (some ⟨Bt, 0, none⟩)], .pointer (some ⟨w.heap.size, 0, none⟩), undef, .slice none 0 0, .pointer (some ⟨Bx, 0, none⟩), .func (.func 40) #[] #[.pointer (some ⟨Bt, 0, none⟩)], lfV x, undef, undef, undef, undef, undef], defers := [] })
    ?hAx ?assign ?body ?done ?stop
  case hAx =>
    rintro x a' _ A B row ⟨Bx, hb, hx, ha⟩ hg hr
    exact ⟨Bx, hb, (hg.block Bx (Array.getElem?_eq_some_iff.1 hx).1 (fun e => by obtain ⟨_, o, ho, hc⟩ := hr Bx e.symm; rw [hx] at ho; cases ho; cases hc)).trans hx, ha⟩
  case assign =>
    rintro lp pre x W K ⟨⟨v, bv, hrow, _⟩, hBl⟩ hK
    unfold lfV
    gi_wp2
    exact hK _ _ ((KeepsOthers.alloc _ _).from _) (KpT.of_below (by have := hBl.size; omega) ((Below.refl _ _).alloc (Nat.le_refl _) _)) ⟨⟨v, bv.alloc _, hrow.alloc _, trivial⟩, hBl.alloc hBl.size _⟩ ⟨W.heap.size, by have := bv.lt; omega, World.alloc_heap_new _ _, rfl⟩
  case body =>
    rintro lp pre x a' W hl ⟨rr, hr⟩ ⟨⟨v, bv, hrow, _⟩, hBl⟩ ⟨Bx, hbx, hx, rfl⟩ hlt
    have hc := bv.cell
    have x0 := (blk_cell hx 0).trans rfl
    have x1 := (blk_cell hx 1).trans rfl
    have x2 := (blk_cell hx 2).trans rfl
    have x3 := (blk_cell hx 3).trans rfl
    have HRW := hideIt hrow
    have HBL := hideIt hBl
    have HBV := hideIt bv
    have hwl : w.heap.size ≤ W.heap.size := hBl.size
    clear hrow hBl hr
    gi_wp2_with (first
      | (gi_at_builtin; refine wpListIn_append_own _ rfl _ _ 25 rfl w.heap.size 35 i0 _ 4 32 Tryd.underlying25 HI1.out HZ0.out HZ1.out HZ2.out rfl (by decide) _ _ _ rfl (HRW.out.alloc _) ⟨W.heap.size, 0, none⟩ 1 1 [.int .i64 x.a, .int .i64 x.b, .int .i64 x.g, .bool x.z] rfl rfl (cells_new W [.int .i64 x.a, .int .i64 x.b, .int .i64 x.g, .bool x.z] 35) lf_one (by unfold maxLen; omega) (by omega) (by simp; omega) ?_; intro v' w1 hown' hgrow _; obtain ⟨g', cap', rfl⟩ := ownsRow_succ hown'; obtain ⟨hv1, hv2, hr2, hk2, hb2⟩ := HBV.out.appended (by decide) HRW.out hwl (Nat.le_refl _) hown' hgrow; have hc1 := hv1.cell; have hf1 := hv1.frozen;
          have HKP : Hid (KpT w0.heap.size W (w1.setCell ⟨w.heap.size, 0, none⟩ (.slice (some ⟨g', 0, none⟩) (pre.length + 1) cap'))) := (KpT.of_below (by omega) ((Below.refl _ _).alloc (Nat.le_refl _) _)).trans ((kpT_row (by simp; omega) hgrow (fun j e => ⟨Nat.le_trans hn0 ((HRW.out.lt j e).1), own_type (HRW.out.alloc _) e (by decide)⟩)).trans (kpT_row (by have := hgrow.size; simp at this; omega) (grownBy_setCell' _ _ _) (fun j e => by cases e; exact ⟨hn0, _, _, _, hv1, by decide⟩)));
          have HV2 := hideIt hv2; have HR2 := hideIt hr2; have HK2 := hideIt hk2; have HB2 := hideIt hb2; clear hv2 hr2 hk2 hb2 hv1 hown' hgrow)
      | gi_in)
    exact ⟨HK2.out.from _, HKP.out, ⟨_, HV2.out, by rw [lfCells_more, List.length_append]; exact HR2.out, trivial⟩, HBL.out.trans HB2.out⟩
  case done =>
    rintro D ys W hD rfl ⟨⟨v, bv, hrow, _⟩, hBl⟩ hK
    have hc := bv.cell
    have hrow' := hrow
    rw [hsz] at hD
    rcases hrow.2 with ⟨rfl, _⟩ | ⟨g', cap', cur', rfl, _⟩
    all_goals
      gi_wp2
      refine ⟨by simp, .inl ⟨_, _, rfl, run_takeDeferred hK, ?_⟩⟩
      exact ⟨_, results_tmp rfl _ _ _, _, rfl, ownsRow_putObj hrow' _ hK rfl, hBl.trans (belowK_b (w := w) (Nat.le_refl _) W D _ _ (by omega) hK rfl rfl)⟩
  case stop =>
    rintro D c pre W _ _ h _
    exact h.elim

set_option maxRecDepth 100000 in
set_option maxHeartbeats 2000000 in
theorem collect_any (l : List Op7) (hops : opsB l = true) (hn : l.length ≤ 1048576) (w0 : World) (b1 b2 b3 base : Nat) (hT : TreeAt w0 b1 b2 b3 base l) (Bt : Nat) (w : World) (hW : Below w0.heap.size w0 w)
    (hB : w.heap[Bt]? = some (.cells #[.map (some b1), .map (some b2), .map (some b3)] 50 (0, 0))) :
    Calls Tryd.prog 23 #[.func (.func 40) #[] #[.pointer (some ⟨Bt, 0, none⟩)]] w fun e w' => ∃ v, e = .returned v ∧ w'.ownsRow w.heap.size 35 4 v (lfs l (allO l)).length (lfCells (lfs l (allO l))) ∧ Below w.heap.size w w' := by
  have HA := hideIt (callsIn_wide.1 (appendSeq_in l hops hn w0 b1 b2 b3 base hT 2 Bt (Nat.le_refl _) w hW hB))
  clear hT hW hB
  go_enter Tryd.func23, Tryd.ntmps23
  go_wp2_with fail
  refine HA.out.mono ?_
  rintro e w1 ⟨v, rfl, hr, hb⟩
  go_wp2
  go_ret
  exact ⟨_, rfl, hr, hb⟩

set_option maxRecDepth 100000 in
set_option maxHeartbeats 1000000 in
theorem implLeaves_any (l : List Op7) (g cap : Nat) (x : Addr) (w : World) (hl : OpsAt w g l) (hn : l.length ≤ 1048576) (hcap : l.length ≤ cap)
    (he : w.cell? ⟨0, 0, none⟩ = some (.iface 138 (.pointer (some x)))) (h0 : 0 < w.heap.size) :
    Calls Tryd.prog 10 #[.slice (some ⟨g, 0, none⟩) l.length cap] w fun e w' => ∃ v, e = .returned v ∧ w'.ownsRow w.heap.size 35 4 v (lfs l (standL l)).length (lfCells (lfs l (standL l))) ∧ Below w.heap.size w w' := by
  have HL := hideIt hl
  have hgw := hl.1
  clear hl
  go_enter Tryd.func10, Tryd.ntmps10
  go_wp2_with fail
  refine (treeOf_any l g cap x _ HL.out hn hcap he h0).mono ?_
  rintro e w1 ⟨(⟨ht, b1, b2, b3, base, rfl, hT⟩ | ⟨ht, rfl⟩), hb1⟩
  all_goals
    have HO := hideIt ht
    have HB1 := hideIt hb1
    have herr1 : w1.cell? ⟨0, 0, none⟩ = some (.iface 138 (.pointer (some x))) := errB HB1.out h0 he
    have hp1 : 0 < w1.heap.size := posB HB1.out h0
    clear ht hb1
  · have HTT := hideIt hT
    have HE : Hid (standL l = allO l) := by show standL l = allO l; unfold standL; rw [HO.out]; rfl
    clear hT
    go_wp2_with (first | (go_at_call 22; refine (is_nil x _).mono ?_; rintro e w'' ⟨rfl, rfl⟩))
    refine (leaves_any _ _ _ _ ⟨rfl, rfl, rfl⟩ b1 b2 b3 ⟨rfl, rfl, rfl⟩).mono ?_
    rintro e w2 ⟨rfl, hw2⟩
    have HW2 := hideIt hw2
    have hbb : Below w1.heap.size w1 w2 := by rw [hw2]; exact ((Below.refl _ _).alloc (Nat.le_refl _) _).alloc (by simp) _
    have hblk : w2.heap[(w1.alloc (.cells #[.map (some b1), .map (some b2), .map (some b3)] 50)).heap.size]? = some (.cells #[.map (some b1), .map (some b2), .map (some b3)] 50 (0, 0)) := by rw [hw2]; exact World.alloc_heap_new _ _
    rw [World.size_alloc] at hblk
    have HBB := hideIt hbb
    have HBK := hideIt hblk
    clear hbb hblk hw2
    go_wp2_with fail
    refine (collect_any l HO.out hn w1 b1 b2 b3 base HTT.out _ _ HBB.out HBK.out).mono ?_
    rintro e w3 ⟨v, rfl, hr, hb3⟩
    have HR3 := hideIt (ownsRow_base (Nat.le_trans HB1.out.size HBB.out.size) hr)
    have HB3 := hideIt (Bstep (Bstep HB1.out HBB.out) hb3)
    clear hr hb3
    go_wp2
    go_ret
    rw [HE.out]
    exact ⟨_, rfl, HR3.out, HB3.out⟩
  · have HE : Hid (standL l = []) := by show standL l = []; unfold standL; rw [HO.out]; rfl
    go_wp2_with (first | (go_at_call 22; refine (is_same x _).mono ?_; rintro e w'' ⟨rfl, rfl⟩))
    go_ret
    rw [HE.out]
    exact ⟨_, rfl, World.ownsRow_nil _ _ _ _, HB1.out.alloc HB1.out.size _⟩
end Go.Proofs.YthhlhogknpgccaaDoor

namespace Go.Proofs.YthhlhogknpgccaaDoor
open Go.RowKit
set_option linter.unusedSimpArgs false
set_option linter.unusedVariables false
attribute [local go_sem ↓] Go.wp_at_zero Go.wp_at_succ

/-- Where the thing of an id stands, if what was done is ok. -/
def findB (l : List Op7) (r m : Int) : Int := if opsB l = true then findI l r m else -1
theorem opsB_parts {l : List Op7} (h : opsB l = true) : l.all okO = true ∧ ordB l = true := by
  unfold opsB at h
  simp only [Bool.and_eq_true] at h
  exact ⟨h.1, h.2.1⟩


theorem keepF {w w1 w2 : World} {u v : Value} (hb : Below w1.heap.size w1 w2)
    (h : w1.cell? ⟨w.heap.size, 0, none⟩ = some u ∧ w1.cell? ⟨w.heap.size, 1, none⟩ = some v ∧ w.heap.size < w1.heap.size ∧ Below w.heap.size w w1) :
    w2.cell? ⟨w.heap.size, 0, none⟩ = some u ∧ w2.cell? ⟨w.heap.size, 1, none⟩ = some v ∧ w.heap.size < w2.heap.size ∧ Below w.heap.size w w2 := by
  obtain ⟨h1, h2, h4, h5⟩ := h
  obtain ⟨hc, _⟩ := bcell hb
  exact ⟨(hc _ _ h4).trans h1, (hc _ _ h4).trans h2, Nat.lt_of_lt_of_le h4 hb.size, Bstep h5 hb⟩

end Go.Proofs.YthhlhogknpgccaaDoor

namespace Go.Proofs.YthhlhogknpgccaaDoor
open Go.RowKit
set_option linter.unusedSimpArgs false
set_option linter.unusedVariables false

theorem opsB_all {l : List Op7} (h : opsB l = true) : l.all okO = true ∧ ordB l = true ∧ l.all (refsB l) = true ∧ l.all (deepF l (l.length + 1)) = true := by
  unfold opsB at h
  simp only [Bool.and_eq_true] at h
  exact ⟨h.1, h.2.1, h.2.2.1, h.2.2.2⟩
theorem next_mem {l : List Op7} {o p : Op7} (h : nextO l o = some p) : p ∈ l ∧ p.a = o.c ∧ p.b = o.d := by
  rw [nextO_find'] at h
  have h1 := List.mem_of_find?_eq_some h
  have h2 := List.find?_some h
  simp [hasId] at h2
  exact ⟨h1, h2.1, h2.2⟩
theorem deep_up {l : List Op7} (hr : l.all (refsB l) = true) : ∀ (n : Nat) (o : Op7), o ∈ l → deepF l n o = true → ∃ d, Up l d (o.c, o.d) := by
  intro n
  induction n with
  | zero => intro o _ h; simp [deepF] at h
  | succ n ih =>
    intro o ho h
    unfold deepF at h
    cases hb : noB o.c o.d
    · rw [hb] at h
      cases hx : nextO l o with
      | none => rw [hx] at h; simp at h
      | some p =>
        rw [hx] at h
        obtain ⟨hm, ha, hb'⟩ := next_mem hx
        have hk : p.k = 1 := by
          have := List.all_eq_true.1 hr o ho
          unfold refsB at this
          rw [hb, hx] at this
          simpa using this
        obtain ⟨d, hd⟩ := ih p hm (by simpa using h)
        have := Up.step hm hk hd
        rw [ha, hb'] at this
        exact ⟨d + 1, this⟩
    · unfold noB at hb
      have := of_decide_eq_true hb
      rw [this.1, this.2]
      exact ⟨0, Up.zero⟩
theorem put_up {l : List Op7} (h : opsB l = true) {o : Op7} (ho : o ∈ l) : ∃ d, Up l d (o.c, o.d) := by
  obtain ⟨_, _, h3, h4⟩ := opsB_all h
  exact deep_up h3 _ o ho (List.all_eq_true.1 h4 o ho)
theorem kid_of {l : List Op7} {o : Op7} (ho : o ∈ l) (hk : o.k = 1) : o ∈ kidsL l (o.c, o.d, o.s) := by
  unfold kidsL
  rw [List.mem_filter]
  exact ⟨ho, by simp [isKid, hk]⟩
theorem side_kid {l : List Op7} {n : Nat} {x : Int × Int × Int} {o : Op7} (ho : o ∈ kidsL l x) : o ∈ sideO l (n + 1) x ∧ ∀ s, s = 0 ∨ s = 1 → ∀ y ∈ sideO l n (o.a, o.b, s), y ∈ sideO l (n + 1) x := by
  rw [show sideO l (n + 1) x = (kidsL l x).flatMap fun o => sideO l n (o.a, o.b, 0) ++ o :: sideO l n (o.a, o.b, 1) from rfl]
  refine ⟨List.mem_flatMap.2 ⟨o, ho, by simp⟩, fun s hs y hy => List.mem_flatMap.2 ⟨o, ho, ?_⟩⟩
  rcases hs with rfl | rfl
  · exact List.mem_append.2 (.inl hy)
  · exact List.mem_append.2 (.inr (List.mem_cons_of_mem _ hy))
theorem put_side {l : List Op7} (h : opsB l = true) {o : Op7} (ho : o ∈ l) (hk : o.k = 1) : (o.c = 0 ∧ o.d = 0 ∧ o.s = 1) ∨ (1 ≤ o.c ∧ (o.s = 0 ∨ o.s = 1)) := by
  have := List.all_eq_true.1 (opsB_all h).1 o ho
  unfold okO at this
  rw [opB_true] at this
  omega
theorem up_all {l : List Op7} (h : opsB l = true) : ∀ (d : Nat) (o : Op7), o ∈ l → o.k = 1 → Up l d (o.c, o.d) → o ∈ allO l ∧ ∀ s, s = 0 ∨ s = 1 → ∀ y ∈ sideO l (l.length + 2 - (d + 1)) (o.a, o.b, s), y ∈ allO l := by
  intro d
  induction d with
  | zero =>
    intro o ho hk hu
    have e : o.c = 0 ∧ o.d = 0 := by
      rcases up_inv hu with ⟨_, hx⟩ | ⟨e, p, he, _⟩
      · exact ⟨congrArg Prod.fst hx, congrArg Prod.snd hx⟩
      · omega
    have hs : o.s = 1 := by
      rcases put_side h ho hk with ⟨_, _, h⟩ | ⟨h, _⟩
      · exact h
      · omega
    have hkid := kid_of ho hk
    rw [e.1, e.2, hs] at hkid
    exact side_kid (n := l.length + 1) hkid
  | succ d ih =>
    intro o ho hk hu
    have hle := up_le h (Up.step ho hk hu)
    rcases up_inv hu with ⟨h0, _⟩ | ⟨e, p, he, hm, hpk, hu', hx⟩
    · omega
    · obtain rfl : e = d := by omega
      have ha : o.c = p.a := congrArg Prod.fst hx
      have hb : o.d = p.b := congrArg Prod.snd hx
      have hpp := op_pos (opsB_all h).1 hm
      have hs : o.s = 0 ∨ o.s = 1 := by
        rcases put_side h ho hk with ⟨_, _, h⟩ | ⟨_, h⟩
        · exact .inr h
        · exact h
      obtain ⟨_, hsub⟩ := ih p hm hpk hu'
      have hkid := kid_of ho hk
      rw [ha, hb] at hkid
      have e1 : l.length + 2 - (e + 1) = (l.length + 2 - (e + 1 + 1)) + 1 := by omega
      rw [e1] at hsub
      obtain ⟨h1, h2⟩ := side_kid (n := l.length + 2 - (e + 1 + 1)) hkid
      exact ⟨hsub o.s hs o h1, fun s hs' y hy => hsub o.s hs y (h2 s hs' y hy)⟩
/-- What was put stands. -/
theorem all_mem {l : List Op7} (h : opsB l = true) {o : Op7} (ho : o ∈ l) (hk : o.k = 1) : o ∈ allO l := by
  obtain ⟨d, hd⟩ := put_up h ho
  exact (up_all h d o ho hk hd).1
theorem side_put {l : List Op7} (n : Nat) {x : Int × Int × Int} {p : Op7} (h : p ∈ sideO l n x) : p ∈ l ∧ p.k = 1 := by
  obtain ⟨j, hj⟩ := side_desc n h
  clear h
  induction j generalizing x with
  | zero =>
    simp only [Desc] at hj
    obtain ⟨h1, h2, _⟩ := mem_kids hj
    exact ⟨h1, h2⟩
  | succ j ih =>
    simp only [Desc] at hj
    obtain ⟨o, s, _, h⟩ := hj
    exact ih h
/-- Those that stand are those that were put. -/
theorem all_perm {l : List Op7} (h : opsB l = true) : (allO l).Perm (l.filter fun o => o.k == 1) := by
  have hl : l.Nodup := nodup_of_once (once_of (opsB_all h).1 (opsB_all h).2.1)
  refine (List.perm_ext_iff_of_nodup (nodup_all h) (hl.filter _)).2 fun o => ⟨fun ho => ?_, fun ho => ?_⟩
  · obtain ⟨h1, h2⟩ := side_put _ ho
    exact List.mem_filter.2 ⟨h1, by simp [h2]⟩
  · obtain ⟨h1, h2⟩ := List.mem_filter.1 ho
    exact all_mem h h1 (by simpa using h2)
end Go.Proofs.YthhlhogknpgccaaDoor

namespace Go.Proofs.YthhlhogknpgccaaDoor
open Go.RowKit
set_option linter.unusedSimpArgs false
set_option linter.unusedVariables false
attribute [local go_sem ↓] Go.wp_at_zero Go.wp_at_succ

/-- A row of leaves, as a slice; where there are some, its cells. -/
theorem lf_cases {w : World} {base : Nat} {v : Value} {L : List Lf} (h : w.ownsRow base 35 4 v L.length (lfCells L)) : ∃ q c, v = .slice q L.length c ∧ (0 < L.length → ∃ g, q = some ⟨g, 0, none⟩ ∧ L.length ≤ c ∧ base ≤ g ∧ g < w.heap.size ∧ ∀ j, j < L.length * 4 → w.cell? ⟨g, j, none⟩ = (lfCells L)[j]?) := by
  rcases h.2 with ⟨e, e0⟩ | ⟨g', c', cur, e, hb, hg, h2, _⟩
  · exact ⟨none, 0, by rw [e, e0], fun h => by omega⟩
  · subst e
    exact ⟨some ⟨g', 0, none⟩, c', rfl, fun _ => ⟨g', rfl, h2, hb, (Array.getElem?_eq_some_iff.1 hg).1, fun j hj => World.ownsRow.cellAt h j hj⟩⟩

set_option maxRecDepth 100000 in
set_option maxHeartbeats 1000000 in
theorem ltLeaves_rows (L : List Lf) (v1 v2 : Value) (base1 base2 : Nat) (w : World) (h1 : w.ownsRow base1 35 4 v1 L.length (lfCells L)) (h2 : w.ownsRow base2 35 4 v2 L.length (lfCells L)) (hn : L.length ≤ 1048576) :
    Calls Tryd.prog 11 #[v1, v2] w fun e w' => e = .returned (.bool true) ∧ Below w.heap.size w w' := by
  obtain ⟨q1, c1, rfl, hq1⟩ := lf_cases h1
  obtain ⟨q2, c2, rfl, hq2⟩ := lf_cases h2
  have HQ1 := hideIt hq1
  have HQ2 := hideIt hq2
  clear h1 h2 hq1 hq2
  go_enter Tryd.func11, Tryd.ntmps11
  go_wp2
  go_loopw [5] (fun i wr => ∃ k : Nat, k ≤ L.length ∧ i = .int .i64 k ∧ Below w.heap.size w wr) (fun i _ => L.length - (intOf i).toNat)
  case atStart => exact ⟨0, Nat.zero_le _, rfl, by go_grown⟩
  case round =>
    obtain ⟨k, hk, rfl, hB⟩ := hrel
    have HB := hideIt hB
    by_cases hlt : k < L.length
    · obtain ⟨g1, rfl, hc1, hb1, hg1, hx1⟩ := HQ1.out (by omega)
      obtain ⟨g2, rfl, hc2, hb2, hg2, hx2⟩ := HQ2.out (by omega)
      obtain ⟨i0, i1, i2, i3⟩ := lfCells_at L k L[k] (by simp [hlt])
      have y0 := ((bcell hB).1 g1 _ hg1).trans ((hx1 (k * 4) (by omega)).trans i0)
      have y1 := ((bcell hB).1 g1 _ hg1).trans ((hx1 (k * 4 + 1) (by omega)).trans i1)
      have y2 := ((bcell hB).1 g1 _ hg1).trans ((hx1 (k * 4 + 2) (by omega)).trans i2)
      have y3 := ((bcell hB).1 g1 _ hg1).trans ((hx1 (k * 4 + 3) (by omega)).trans i3)
      have z0 := ((bcell hB).1 g2 _ hg2).trans ((hx2 (k * 4) (by omega)).trans i0)
      have z1 := ((bcell hB).1 g2 _ hg2).trans ((hx2 (k * 4 + 1) (by omega)).trans i1)
      have z2 := ((bcell hB).1 g2 _ hg2).trans ((hx2 (k * 4 + 2) (by omega)).trans i2)
      have z3 := ((bcell hB).1 g2 _ hg2).trans ((hx2 (k * 4 + 3) (by omega)).trans i3)
      have hlt' : (k : Int) < (L.length : Int) := by omega
      have hk0 : (0 : Int) ≤ (k : Int) := by omega
      generalize L[k] = y at *
      clear hB i0 i1 i2 i3 hx1 hx2
      go_wp2
      go_quiet (fail)
      go_wp2
      exact ⟨⟨k + 1, by omega, by go_num, below_drewN HB.out _⟩, by simp [intOf]; omega⟩
    · clear hB
      go_wp2
      go_ret
      exact ⟨rfl, HB.out⟩

/-- Where a sign stands first among leaves; -1, if it does not. -/
def atI (F : List Lf) (r m : Int) : Int := match F.findIdx? (fun y => y.a == r && y.b == m) with | some i => i | none => -1
theorem atI_none {F : List Lf} {r m : Int} (h : ∀ j (hj : j < F.length), ¬ (F[j].a = r ∧ F[j].b = m)) : atI F r m = -1 := by
  unfold atI
  rw [List.findIdx?_eq_none_iff.2 (fun y hy => by
    obtain ⟨j, hj, rfl⟩ := List.getElem_of_mem hy
    have := h j hj
    cases e : (F[j].a == r && F[j].b == m)
    · rfl
    · exact absurd (by simpa using e) this)]
theorem atI_some {F : List Lf} {r m : Int} {k : Nat} (hk : k < F.length) (h : F[k].a = r ∧ F[k].b = m) (hb : ∀ j (hj : j < F.length), j < k → ¬ (F[j].a = r ∧ F[j].b = m)) : atI F r m = k := by
  unfold atI
  rw [List.findIdx?_eq_some_iff_getElem.2 ⟨hk, by simp [h.1, h.2], fun j hj => by
    have := hb j (by omega) hj
    cases e : (F[j].a == r && F[j].b == m)
    · simp
    · exact absurd (by simpa using e) this⟩]
theorem atI_hit {F : List Lf} {r m : Int} {y : Lf} (hy : y ∈ F) (ha : y.a = r) (hb : y.b = m) : ∃ k, ∃ hk : k < F.length, atI F r m = (k : Nat) ∧ F[k].a = r ∧ F[k].b = m := by
  unfold atI
  cases e : F.findIdx? (fun y => y.a == r && y.b == m) with
  | none =>
    have := List.findIdx?_eq_none_iff.1 e y hy
    simp [ha, hb] at this
  | some k =>
    obtain ⟨h1, h2, _⟩ := List.findIdx?_eq_some_iff_getElem.1 e
    exact ⟨k, h1, rfl, by simpa using h2⟩
theorem atI_miss {F : List Lf} {r m : Int} (h : ∀ y ∈ F, ¬ (y.a = r ∧ y.b = m)) : atI F r m = -1 := atI_none fun j hj => h _ (List.getElem_mem hj)

theorem specLf_any (l : List Op7) (g cap : Nat) (w : World) (hl : OpsAt w g l) (hn : l.length ≤ 1048576) (hcap : l.length ≤ cap) :
    Calls Tryd.prog 12 #[.slice (some ⟨g, 0, none⟩) l.length cap] w fun e w' => ∃ v, e = .returned v ∧ w'.ownsRow w.heap.size 35 4 v (lfs l (standL l)).length (lfCells (lfs l (standL l))) ∧ Below w.heap.size w w' := by
  refine (specLeaves_any l g cap w hl hn hcap).mono ?_
  rintro e w' ⟨G, c, rfl, hr, hb⟩
  rw [lfs_cells, ← lfs_len l (standL l)] at hr
  exact ⟨_, by rw [← lfs_len l (standL l)], hr, hb⟩

set_option maxRecDepth 100000 in
set_option maxHeartbeats 1000000 in
theorem ltAt_any (F : List Lf) (v : Value) (base : Nat) (r m : Int) (w : World) (h : w.ownsRow base 35 4 v F.length (lfCells F)) (hn : F.length ≤ 1048576) :
    Calls Tryd.prog 14 #[v, .agg #[.int .i64 r, .int .i64 m]] w fun e w' => e = .returned (.int .i64 (atI F r m)) ∧ Below w.heap.size w w' := by
  obtain ⟨q1, c1, rfl, hq1⟩ := lf_cases h
  have HQ1 := hideIt hq1
  clear h hq1
  go_enter Tryd.func14, Tryd.ntmps14
  go_wp2
  go_loopw [5] (fun i wr => ∃ k : Nat, k ≤ F.length ∧ i = .int .i64 k ∧ (∀ j (hj : j < F.length), j < k → ¬ (F[j].a = r ∧ F[j].b = m)) ∧ wr.cell? ⟨w.heap.size, 0, none⟩ = some (.int .i64 r) ∧ wr.cell? ⟨w.heap.size, 1, none⟩ = some (.int .i64 m) ∧ Below w.heap.size w wr) (fun i _ => F.length - (intOf i).toNat)
  case atStart => exact ⟨0, Nat.zero_le _, rfl, fun j hj h => by omega, by simp [go_sem], by simp [go_sem], by go_grown⟩
  case round =>
    obtain ⟨k, hk, rfl, hno, hr, hm, hB⟩ := hrel
    have HN : Hid (∀ j (hj : j < F.length), j < k → ¬ (F[j].a = r ∧ F[j].b = m)) := hno
    have HB := hideIt hB
    by_cases hlt : k < F.length
    · obtain ⟨g1, rfl, hc1, hb1, hg1, hx1⟩ := HQ1.out (by omega)
      obtain ⟨i0, i1, i2, i3⟩ := lfCells_at F k F[k] (by simp [hlt])
      have y0 := ((bcell hB).1 g1 _ hg1).trans ((hx1 (k * 4) (by omega)).trans i0)
      have y1 := ((bcell hB).1 g1 _ hg1).trans ((hx1 (k * 4 + 1) (by omega)).trans i1)
      have hlt' : (k : Int) < (F.length : Int) := by omega
      have hk0 : (0 : Int) ≤ (k : Int) := by omega
      have HS : Hid (F[k].a = r ∧ F[k].b = m → atI F r m = k) := fun h => atI_some hlt h HN.out
      have HX : Hid (¬ (F[k].a = r ∧ F[k].b = m) → ∀ j (hj : j < F.length), j < k + 1 → ¬ (F[j].a = r ∧ F[j].b = m)) := fun hf j hj hj1 => by
        rcases Nat.lt_or_ge j k with h | h
        · exact HN.out j hj h
        · obtain rfl : j = k := by omega
          exact hf
      generalize F[k].a = xa at *
      generalize F[k].b = xb at *
      clear hno hB i0 i1 i2 i3 hx1
      by_cases ha : xa = r
      · by_cases hb : xb = m
        · have hfin := hideIt (HS.out ⟨ha, hb⟩)
          subst ha hb
          clear HS HX HN
          go_wp2
          go_quiet (fail)
          go_wp2
          go_ret
          exact ⟨ret_int hfin.out.symm, below_drewN HB.out _⟩
        · have HE := hideIt (HX.out (fun h => hb h.2))
          subst ha
          clear HS HX HN
          go_wp2
          go_quiet (fail)
          go_wp2
          exact ⟨⟨k + 1, by omega, by go_num, HE.out, by simpa using hr, by simpa using hm, below_drewN HB.out _⟩, by simp [intOf]; omega⟩
      · have HE := hideIt (HX.out (fun h => ha h.1))
        clear HS HX HN
        go_wp2
        go_quiet (fail)
        go_wp2
        exact ⟨⟨k + 1, by omega, by go_num, HE.out, by simpa using hr, by simpa using hm, below_drewN HB.out _⟩, by simp [intOf]; omega⟩
    · clear hno hB
      go_wp2
      go_ret
      exact ⟨ret_int (atI_none fun j hj => HN.out j hj (by omega)).symm, HB.out⟩
end Go.Proofs.YthhlhogknpgccaaDoor

namespace Go.Proofs.YthhlhogknpgccaaDoor
open Go.RowKit
set_option linter.unusedSimpArgs false
set_option linter.unusedVariables false

theorem once_ops {l : List Op7} (h : opsB l = true) : OnceIds l := once_of (opsB_all h).1 (opsB_all h).2.1
theorem lfs_at {l A : List Op7} {k : Nat} (hk : k < (lfs l A).length) : ∃ p ∈ A, (lfs l A)[k] = ⟨p.a, p.b, p.g, goneB l (p.a, p.b)⟩ := by
  unfold lfs at *
  rw [List.length_map] at hk
  exact ⟨A[k], List.getElem_mem hk, by simp⟩
theorem put_leaf {l : List Op7} (h : opsB l = true) {o : Op7} (ho : o ∈ l) (hk : o.k = 1) : ∃ k, ∃ hk : k < (lfs l (allO l)).length, atI (lfs l (allO l)) o.a o.b = (k : Nat) ∧ (lfs l (allO l))[k] = ⟨o.a, o.b, o.g, goneB l (o.a, o.b)⟩ := by
  have hy : (⟨o.a, o.b, o.g, goneB l (o.a, o.b)⟩ : Lf) ∈ lfs l (allO l) := List.mem_map.2 ⟨o, all_mem h ho hk, rfl⟩
  obtain ⟨k, hk', h1, h2, h3⟩ := atI_hit (r := o.a) (m := o.b) hy rfl rfl
  obtain ⟨p, hp, he⟩ := lfs_at hk'
  rw [he] at h2 h3
  have e : p = o := once_eq (once_ops h) (side_put _ hp).1 ho h2 h3
  subst e
  exact ⟨k, hk', h1, he⟩
theorem take_leaf {l : List Op7} (h : opsB l = true) {o : Op7} (ho : o ∈ l) (hk : o.k = 2) : atI (lfs l (allO l)) o.a o.b = -1 := by
  refine atI_miss fun y hy hab => ?_
  obtain ⟨p, hp, rfl⟩ := List.mem_map.1 hy
  obtain ⟨h1, h2⟩ := side_put _ hp
  have e : p = o := once_eq (once_ops h) h1 ho hab.1 hab.2
  subst e
  omega
theorem ref_leaf {l : List Op7} (h : opsB l = true) {o : Op7} (ho : o ∈ l) (hk : o.k = 2) : ∃ k, ∃ hk : k < (lfs l (allO l)).length, atI (lfs l (allO l)) o.c o.d = (k : Nat) ∧ (lfs l (allO l))[k].z = true := by
  have hok := List.all_eq_true.1 (opsB_all h).1 o ho
  unfold okO at hok
  rw [opB_true] at hok
  have hr := List.all_eq_true.1 (opsB_all h).2.2.1 o ho
  unfold refsB at hr
  have hno : noB o.c o.d = false := by unfold noB; exact decide_eq_false (by omega)
  rw [hno] at hr
  cases hx : nextO l o with
  | none => rw [hx] at hr; simp at hr
  | some p =>
    rw [hx] at hr
    have hpk : p.k = 1 := by simpa using hr
    obtain ⟨hm, ha, hb⟩ := next_mem hx
    obtain ⟨k, hk', h1, h2⟩ := put_leaf h hm hpk
    rw [ha, hb] at h1 h2
    refine ⟨k, hk', h1, ?_⟩
    rw [h2]
    obtain ⟨j, hj, rfl⟩ := List.getElem_of_mem ho
    exact gone_yes (x := (l[j].c, l[j].d)) (i := j) (by simp [hj]) hk rfl rfl
/-- How many of the first i take nothing away. -/
def stayTo (L : List Op7) (i : Nat) : Nat := (L.take i).countP fun o => !(o.k == 2)
theorem stayTo_le (L : List Op7) (i : Nat) : stayTo L i ≤ i := Nat.le_trans List.countP_le_length (List.length_take_le _ _)
theorem stayTo_yes {L : List Op7} {i : Nat} (hi : i < L.length) (h : ¬ L[i].k = 2) : stayTo L (i + 1) = stayTo L i + 1 := by
  unfold stayTo
  rw [List.take_succ_eq_append_getElem hi, List.countP_append]
  simp only [List.countP_singleton]
  rw [if_pos (by simp [h])]
theorem stayTo_no {L : List Op7} {i : Nat} (hi : i < L.length) (h : L[i].k = 2) : stayTo L (i + 1) = stayTo L i := by
  unfold stayTo
  rw [List.take_succ_eq_append_getElem hi, List.countP_append]
  simp only [List.countP_singleton]
  rw [if_neg (by simp [h])]
  rfl
theorem op_kind {l : List Op7} (h : opsB l = true) {o : Op7} (ho : o ∈ l) : o.k = 1 ∨ o.k = 2 := by
  have hok := List.all_eq_true.1 (opsB_all h).1 o ho
  unfold okO at hok
  rw [opB_true] at hok
  omega
theorem stayTo_all {l : List Op7} (h : opsB l = true) : stayTo l l.length = (lfs l (allO l)).length := by
  rw [lfs_len, (all_perm h).length_eq, ← List.countP_eq_length_filter]
  unfold stayTo
  rw [List.take_length]
  refine List.countP_congr fun o ho => ?_
  rcases op_kind h ho with e | e <;> simp [e]
end Go.Proofs.YthhlhogknpgccaaDoor
