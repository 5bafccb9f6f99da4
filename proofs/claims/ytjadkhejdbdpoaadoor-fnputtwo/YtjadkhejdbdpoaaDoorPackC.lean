/- The contract of the program's TreeText. -/
import Derived.Test.YtjadkhejdbdpoaaDoorPackB
import Derived.Maps.OwnIn
import Derived.RangeFuncNested
import Derived.RangeFuncBound
import Derived.RangeFuncCalls
import Derived.RangeFuncLeaves
import Derived.Shelf.Abstract
import Derived.OwnWalkIn
import Derived.TacticsInMore
import Derived.LoopNIn
import Derived.LoopIn
import Derived.RangeFuncBox
import Derived.Test.YtjadkhejdbdpoaaDoorPackH
import Derived.Test.YtjadkhejdbdpoaaDoorPackD
namespace Go.Proofs.YtjadkhejdbdpoaaDoor
open Go.RowKit
set_option linter.unusedSimpArgs false
set_option linter.unusedVariables false
attribute [local go_sem ↓] Go.wp_at_zero Go.wp_at_succ

set_option maxRecDepth 100000 in
set_option maxHeartbeats 1000000 in
theorem leafOf_any (l : List Op7) (hops : opsB l = true) (hn : l.length ≤ 1048576) (b1 b2 b3 base : Nat) (o : Op7) (hok : okO o = true) (w : World) (hT : TreeAt w b1 b2 b3 base l) :
    Calls Tryd.prog 108 #[.agg #[.map (some b1), .map (some b2), .map (some b3)], .agg #[.int .i64 o.a, .int .i64 o.b, .int .i64 o.c, .int .i64 o.d, .int .i64 o.s, .int .i64 o.g]] w fun e w' => e = .returned (.agg #[.int .i64 o.a, .int .i64 o.b, .int .i64 o.g, .bool (goneB l (o.a, o.b))]) ∧ Below w.heap.size w w' := by
  have HT := hideIt hT
  have hnum := okO_num hok
  obtain ⟨kl, hkl⟩ := key_id (r := o.a) (m := o.b) (wf_small (by omega)) (wf_small (by omega))
  have HKL := hideIt hkl
  have HG : Hid (goneB l (o.a, o.b) = decide (0 < takesN l (o.a, o.b))) := gone_take (opsParts hops).1 _
  have HV : Hid ((takeF l (o.a, o.b)).getD (.int .i64 0) = .int .i64 (takesN l (o.a, o.b) : Nat)) := takeF_get l _
  have hle := takesN_le l (o.a, o.b)
  generalize takesN l (o.a, o.b) = nn at *
  clear hT hkl
  go_enter Tryd.func108, Tryd.ntmps108
  go_wp2_with fail
  have HBW : Hid (Below w.heap.size w (((w.alloc (.cells #[.map (some b1), .map (some b2), .map (some b3)] 81)).alloc (.cells #[.int .i64 o.a, .int .i64 o.b, .int .i64 o.c, .int .i64 o.d, .int .i64 o.s, .int .i64 o.g] 102)).alloc (.cells #[.int .i64 0, .int .i64 0, .int .i64 0, .bool false] 44))) := (((Below.refl _ _).alloc (Nat.le_refl _) _).alloc (by simp) _).alloc (by simp; omega) _
  have L0 : (Instr.lookup 79 (.map (some b3)) (.agg #[.int .i64 o.a, .int .i64 o.b]) false).run Tryd.prog (((w.alloc (.cells #[.map (some b1), .map (some b2), .map (some b3)] 81)).alloc (.cells #[.int .i64 o.a, .int .i64 o.b, .int .i64 o.c, .int .i64 o.d, .int .i64 o.s, .int .i64 o.g] 102)).alloc (.cells #[.int .i64 0, .int .i64 0, .int .i64 0, .bool false] 44)).drew = .ok (.int .i64 nn) (((w.alloc (.cells #[.map (some b1), .map (some b2), .map (some b3)] 81)).alloc (.cells #[.int .i64 o.a, .int .i64 o.b, .int .i64 o.c, .int .i64 o.d, .int .i64 o.s, .int .i64 o.g] 102)).alloc (.cells #[.int .i64 0, .int .i64 0, .int .i64 0, .bool false] 44)).drew := by
    have hM : MapFn Tryd.prog 27 (((w.alloc (.cells #[.map (some b1), .map (some b2), .map (some b3)] 81)).alloc (.cells #[.int .i64 o.a, .int .i64 o.b, .int .i64 o.c, .int .i64 o.d, .int .i64 o.s, .int .i64 o.g] 102)).alloc (.cells #[.int .i64 0, .int .i64 0, .int .i64 0, .bool false] 44)).drew b3 encId (takeF l) := HT.out.2.2.below HBW.out.drew HT.out.2.2.lt
    have h := hM.look false keyedId Tryd.underlying79 (zeroInt _) encId_inj (o.a, o.b) HKL.out
    rw [HV.out] at h
    exact h
  have n0 : (0 : Int) ≤ (nn : Int) := by omega
  have n1 : (nn : Int) ≤ 1048576 := by omega
  go_region_held3 (fun w' => w'.cell? ⟨w.heap.size, 2, none⟩ = some (.map (some b3)) ∧ w'.cell? ⟨w.heap.size + 1, 0, none⟩ = some (.int .i64 o.a) ∧ w'.cell? ⟨w.heap.size + 1, 1, none⟩ = some (.int .i64 o.b) ∧ w'.cell? ⟨w.heap.size + 1, 5, none⟩ = some (.int .i64 o.g))
    (first | exact ⟨by simp [go_sem], by simp [go_sem], by simp [go_sem], by simp [go_sem]⟩)
    (fail)
  rename_i hS
  clear hS
  go_wp2
  have hG : decide (0 < nn) = goneB l (o.a, o.b) := HG.out.symm
  exact bodyPost_ret (v := .agg #[.int .i64 o.a, .int .i64 o.b, .int .i64 o.g, .bool (goneB l (o.a, o.b))]) (by simp [results, Tryd.results108, go_sem, hG]) rfl ⟨rfl, by have := HBW.out; go_grown⟩

/-- The look-up without 'ok', at the operation, inside a fence. -/
theorem wpListIn_look0 {α : Type} {P : Program} {k t e : TypeId} {w : World} {b : Nat} {enc : α → Value} {f : α → Option Value} {F : Fence} {nF : Nat} {ops : Array Oper} {rest : List Oper} {o : Oper} {A : Act} {Q : Exit → Act → World → Prop}
    (hg : o.guard = none) (m x : Operand) (hop : o.op = Op.lookup t m x false) (K : Go.Maps.Keyed P k) (ht : P.underlying t = some (.map k e)) (z : Value) (hz : (zeroValue e).run P w = .ok z w)
    (hinj : ∀ a a', enc a = enc a' → a = a') (hm : A.eval m = .map (some b)) (hown : MapFn P k w b enc f) (a : α) (hx : A.eval x = enc a) (kl : Lit) (hkey : keyOf P k (enc a) = some kl) (v : Value) (hv : (f a).getD z = v)
    (hK : wpListIn F nF P ops Q rest (A.put o.dst v) w) :
    wpListIn F nF P ops Q (o :: rest) A w := by
  refine wpListIn_plain hg fun K' hK' => ?_
  have hrun := hown.look false K ht hz hinj a hkey
  rw [hv] at hrun
  unfold Oper.wpIn
  refine ⟨by simp [Oper.about, hop], ?_⟩
  rw [Oper.semAt_plain F _ _ (by rw [hop]; intro c hc'; cases hc')]
  simp [execOp, hop, hm, hx, hrun, Result.andThen]
  exact hK' _ _ hK
end Go.Proofs.YtjadkhejdbdpoaaDoor

namespace Go.Proofs.YtjadkhejdbdpoaaDoor
open Go.RowKit Go.Shelf
set_option linter.unusedSimpArgs false
set_option linter.unusedVariables false
attribute [local go_sem] Oper.semAt_some

theorem room_none {F : Fence} (hd : F.depth = none) (k : Nat) : F.room k := fun d h => by rw [hd] at h; cases h
theorem round_any {F : Fence} (hd : F.depth = none) {m m' : Nat} {P : Program} {l : Nat} {f : FuncId} {tmps : Array Value} {assign body : Code} {w : World} {R : Ending → World → Prop}
    (h : RoundIn F m P l f tmps assign body w R) : RoundIn F m' P l f tmps assign body w R := ⟨h.1, fun c cs _ => h.2 c cs (room_none hd _)⟩
theorem yield_any {F : Fence} (hd : F.depth = none) {m : Nat} (m' : Nat) {P : Program} {l : Nat} {args : Array Value} {W : World} {R : Ending → World → Prop} (h : YieldAt F m P l args W R) : YieldAt F m' P l args W R := by
  obtain ⟨fn, tmps, assign, body, hy, hR⟩ := h
  exact ⟨fn, tmps, assign, body, hy, round_any hd hR⟩

/-- What a round keeps: all that lay below n0, and the walk's own blocks. -/
def KpT (n0 : Nat) (W W' : World) : Prop := Below n0 W W' ∧ ∀ (b : Nat) (cur : Array Value) (T : TypeId) (fr : Nat × Nat), W.heap[b]? = some (.cells cur T fr) → (T = 81 ∨ T = 98 ∨ T = 102) → W'.heap[b]? = W.heap[b]?
theorem KpT.refl (n0 : Nat) (W : World) : KpT n0 W W := ⟨Below.refl _ _, fun _ _ _ _ _ _ => rfl⟩
theorem KpT.trans {n0 : Nat} {A B C : World} (h : KpT n0 A B) (k : KpT n0 B C) : KpT n0 A C :=
  ⟨h.1.trans k.1, fun b cur T fr hb hT => by have e := h.2 b cur T fr hb hT; exact (k.2 b cur T fr (e.trans hb) hT).trans e⟩
theorem KpT.of_below {n0 : Nat} {W W' : World} (hn : n0 ≤ W.heap.size) (h : Below W.heap.size W W') : KpT n0 W W' :=
  ⟨h.mono hn, fun b cur T fr hb _ => h.block b (Array.getElem?_eq_some_iff.1 hb).1⟩
theorem KpT.cell {n0 : Nat} {W W' : World} (h : KpT n0 W W') {b : Nat} {cur : Array Value} {T : TypeId} {fr : Nat × Nat} (hb : W.heap[b]? = some (.cells cur T fr)) (hT : T = 81 ∨ T = 98 ∨ T = 102) : W'.heap[b]? = some (.cells cur T fr) :=
  (h.2 b cur T fr hb hT).trans hb
/-- How a part of the walk ends: all of xs have come; or a round has said 'no more', at a beginning of them. -/
def EPost (n0 : Nat) (J Jx : List Lf → World → Prop) (pre xs : List Lf) (W : World) (e : Ending) (W' : World) : Prop :=
  (e = .returned (.bool true) ∧ J (pre ++ xs) W' ∧ KpT n0 W W') ∨ (e = .returned (.bool false) ∧ ∃ q t, q ++ t = pre ++ xs ∧ Jx q W')
theorem abides_below {B : Nat} {J : List Lf → World → Prop} (hJ : AbidesFrom B J) {pre : List Lf} {W W' : World} (h : J pre W) (hb : Below W.heap.size W W') : J pre W' :=
  hJ pre W W' none h ⟨hb.os, hb.tape, hb.output, hb.size, fun i hi _ => hb.block i hi⟩ (fun r e => by cases e)
theorem blk_cell {W : World} {b : Nat} {cur : Array Value} {T : TypeId} (h : W.heap[b]? = some (.cells cur T (0, 0))) (j : Nat) : W.cell? ⟨b, j, none⟩ = cur[j]? := by simp [World.cell?, h]

set_option maxRecDepth 100000 in
set_option maxHeartbeats 4000000 in
theorem eachOf_in (l : List Op7) (hops : opsB l = true) (hn : l.length ≤ 1048576) (w0 : World) (b1 b2 b3 base : Nat) (hT : TreeAt w0 b1 b2 b3 base l) (lp B N : Nat) (J Jx : List Lf → World → Prop) (hJ : AbidesFrom B J)
    (hY : ∀ m pre (x : Lf) W, J pre W → pre.length < N → YieldAt Fence.wide m Tryd.prog lp #[.agg #[.int .i64 x.a, .int .i64 x.b, .int .i64 x.g, .bool x.z]] W fun e W' =>
      (e = .returned (.bool true) ∧ J (pre ++ [x]) W' ∧ KpT w0.heap.size W W') ∨ (e = .returned (.bool false) ∧ Jx (pre ++ [x]) W'))
    (o : Op7) (hok : okO o = true) (X0 X1 : List Lf)
    (ih0 : ∀ k pre W, Below w0.heap.size w0 W → J pre W → pre.length + X0.length ≤ N → CallsIn Fence.wide k Tryd.prog 85 #[.agg #[.map (some b1), .map (some b2), .map (some b3)], .agg #[.int .i64 o.a, .int .i64 o.b, .int .i64 0], .func (.yield lp) #[] #[]] W (EPost w0.heap.size J Jx pre X0 W))
    (ih1 : ∀ k pre W, Below w0.heap.size w0 W → J pre W → pre.length + X1.length ≤ N → CallsIn Fence.wide k Tryd.prog 85 #[.agg #[.map (some b1), .map (some b2), .map (some b3)], .agg #[.int .i64 o.a, .int .i64 o.b, .int .i64 1], .func (.yield lp) #[] #[]] W (EPost w0.heap.size J Jx pre X1 W))
    (k : Nat) (pre : List Lf) (W : World) (hW : Below w0.heap.size w0 W) (h0 : J pre W) (hN : pre.length + (X0.length + 1 + X1.length) ≤ N) :
    CallsIn Fence.wide k Tryd.prog 100 #[.agg #[.map (some b1), .map (some b2), .map (some b3)], .agg #[.int .i64 o.a, .int .i64 o.b, .int .i64 o.c, .int .i64 o.d, .int .i64 o.s, .int .i64 o.g], .func (.yield lp) #[] #[]] W (EPost w0.heap.size J Jx pre (X0 ++ ⟨o.a, o.b, o.g, goneB l (o.a, o.b)⟩ :: X1) W) := by
  refine callsIn_of_wp Tryd.func100 rfl trivial ?_ rfl
  simp only [Tryd.ntmps100, List.size_toArray, List.length_cons, List.length_nil, Nat.reduceAdd, Nat.reduceSub, Array.replicate_succ, Array.replicate_zero, List.push_toArray, List.append_toArray, List.nil_append, List.cons_append]
  have hn0 : w0.heap.size ≤ W.heap.size := hW.size
  have HBa : Hid (Below W.heap.size W ((W.alloc (.cells #[.map (some b1), .map (some b2), .map (some b3)] 81)).alloc (.cells #[.int .i64 o.a, .int .i64 o.b, .int .i64 o.c, .int .i64 o.d, .int .i64 o.s, .int .i64 o.g] 102))) := ((Below.refl _ _).alloc (Nat.le_refl _) _).alloc (by simp) _
  have HKa : Hid (KpT w0.heap.size W ((W.alloc (.cells #[.map (some b1), .map (some b2), .map (some b3)] 81)).alloc (.cells #[.int .i64 o.a, .int .i64 o.b, .int .i64 o.c, .int .i64 o.d, .int .i64 o.s, .int .i64 o.g] 102))) := KpT.of_below hn0 HBa.out
  have HWa : Hid (Below w0.heap.size w0 ((W.alloc (.cells #[.map (some b1), .map (some b2), .map (some b3)] 81)).alloc (.cells #[.int .i64 o.a, .int .i64 o.b, .int .i64 o.c, .int .i64 o.d, .int .i64 o.s, .int .i64 o.g] 102))) := hW.trans HKa.out.1
  have HTa : Hid (((W.alloc (.cells #[.map (some b1), .map (some b2), .map (some b3)] 81)).alloc (.cells #[.int .i64 o.a, .int .i64 o.b, .int .i64 o.c, .int .i64 o.d, .int .i64 o.s, .int .i64 o.g] 102)).heap[W.heap.size]? = some (.cells #[.map (some b1), .map (some b2), .map (some b3)] 81 (0, 0))) := (Below.heap_alloc _ _ _ (by simp)).trans (World.alloc_heap_new _ _)
  have HSa : Hid (((W.alloc (.cells #[.map (some b1), .map (some b2), .map (some b3)] 81)).alloc (.cells #[.int .i64 o.a, .int .i64 o.b, .int .i64 o.c, .int .i64 o.d, .int .i64 o.s, .int .i64 o.g] 102)).heap[W.heap.size + 1]? = some (.cells #[.int .i64 o.a, .int .i64 o.b, .int .i64 o.c, .int .i64 o.d, .int .i64 o.s, .int .i64 o.g] 102 (0, 0))) := by
    have h := World.alloc_heap_new (W.alloc (.cells #[.map (some b1), .map (some b2), .map (some b3)] 81)) (.cells #[.int .i64 o.a, .int .i64 o.b, .int .i64 o.c, .int .i64 o.d, .int .i64 o.s, .int .i64 o.g] 102)
    rw [World.size_alloc] at h
    exact h
  have IH0 := hideIt ih0
  have IH1 := hideIt ih1
  have HY := hideIt hY
  have HJ := hideIt hJ
  have HT := hideIt hT
  have HJa := hideIt (abides_below hJ h0 HBa.out)
  clear ih0 ih1 hY hJ hT h0 hW
  gi_wp2
  refine ⟨trivial, (fun h => by cases h), ?_⟩
  refine (IH0.out _ pre _ HWa.out HJa.out (by omega)).mono ?_
  rintro e W1 (⟨rfl, hJ1, hK1⟩ | ⟨rfl, q, t, hqt, hq⟩)
  · have t1 := hK1.cell HTa.out (.inl rfl)
    have s1 := hK1.cell HSa.out (.inr (.inr rfl))
    have HT1 := hideIt t1
    have HS1 := hideIt s1
    have HJ1 := hideIt hJ1
    have HK1 := hideIt (HKa.out.trans hK1)
    have HW1 := hideIt (HWa.out.trans hK1.1)
    have ct0 := (blk_cell t1 0).trans rfl
    have ct1 := (blk_cell t1 1).trans rfl
    have ct2 := (blk_cell t1 2).trans rfl
    have cs0 := (blk_cell s1 0).trans rfl
    have cs1 := (blk_cell s1 1).trans rfl
    have cs2 := (blk_cell s1 2).trans rfl
    have cs3 := (blk_cell s1 3).trans rfl
    have cs4 := (blk_cell s1 4).trans rfl
    have cs5 := (blk_cell s1 5).trans rfl
    clear t1 s1 hJ1 hK1 HJa HKa HWa HTa HSa HBa
    gi_wp2
    refine ⟨trivial, (fun h => by cases h), ?_⟩
    refine (callsIn_wide.2 (leafOf_any l hops hn b1 b2 b3 base o hok W1 (HT.out.below HW1.out))).mono ?_
    rintro e W2 ⟨rfl, hb2⟩
    have HK2 := hideIt (KpT.of_below (n0 := w0.heap.size) HW1.out.size hb2)
    have HJ2 := hideIt (abides_below HJ.out HJ1.out hb2)
    clear hb2 ct0 ct1 ct2 cs0 cs1 cs2 cs3 cs4 cs5 HJ1
    obtain ⟨fn, tmps, assign, body, hy, hR⟩ := HY.out (k - 1) (pre ++ X0) ⟨o.a, o.b, o.g, goneB l (o.a, o.b)⟩ W2 HJ2.out (by simp; omega)
    dsimp only at hy
    have HR := hideIt hR
    clear hR
    gi_wp2
    refine ⟨(fun h => by cases h), ?_⟩
    refine HR.out.mono ?_
    rintro e W3 (⟨rfl, hJ3, hK3⟩ | ⟨rfl, hx3⟩)
    · have hk13 := HK2.out.trans hK3
      have t3 := hk13.cell HT1.out (.inl rfl)
      have s3 := hk13.cell HS1.out (.inr (.inr rfl))
      have HJ3 := hideIt hJ3
      have HK3 := hideIt (HK1.out.trans hk13)
      have HW3 := hideIt (HW1.out.trans hk13.1)
      have ct0 := (blk_cell t3 0).trans rfl
      have ct1 := (blk_cell t3 1).trans rfl
      have ct2 := (blk_cell t3 2).trans rfl
      have cs0 := (blk_cell s3 0).trans rfl
      have cs1 := (blk_cell s3 1).trans rfl
      have cs2 := (blk_cell s3 2).trans rfl
      have cs3 := (blk_cell s3 3).trans rfl
      have cs4 := (blk_cell s3 4).trans rfl
      have cs5 := (blk_cell s3 5).trans rfl
      clear hk13 t3 s3 hJ3 hK3 HR hy HJ2 HK2 HT1 HS1 HK1 HW1
      gi_wp2
      refine ⟨trivial, (fun h => by cases h), ?_⟩
      refine (IH1.out _ (pre ++ X0 ++ [⟨o.a, o.b, o.g, goneB l (o.a, o.b)⟩]) _ HW3.out HJ3.out (by simp; omega)).mono ?_
      rintro e W4 (⟨rfl, hJ4, hK4⟩ | ⟨rfl, q, t, hqt, hq⟩)
      · gi_wp2
        go_ret
        exact .inl ⟨rfl, by simpa [List.append_assoc] using hJ4, HK3.out.trans hK4⟩
      · gi_wp2
        go_ret
        exact .inr ⟨rfl, q, t, by simpa [List.append_assoc] using hqt, hq⟩
    · gi_wp2
      refine ⟨trivial, ?_⟩
      gi_wp2
      go_ret
      exact .inr ⟨rfl, _, _, by simp [List.append_assoc]; rfl, hx3⟩
  · gi_wp2
    refine ⟨trivial, ?_⟩
    gi_wp2
    refine ⟨fun _ h => (by cases h), ?_⟩
    gi_wp2
    refine ⟨trivial, ?_⟩
    gi_wp2
    go_ret
    exact .inr ⟨rfl, q, t ++ _, by rw [← List.append_assoc, hqt, List.append_assoc], hq⟩

theorem up_num {l : List Op7} (hok : l.all okO = true) {d : Nat} {x : Int × Int} (h : Up l d x) : (0 ≤ x.1 ∧ x.1 ≤ 3) ∧ (0 ≤ x.2 ∧ x.2 ≤ 12) := by
  rcases up_inv h with ⟨_, rfl⟩ | ⟨e, o, _, hm, _, _, rfl⟩
  · simp
  · have := okO_num (List.all_eq_true.1 hok o hm)
    simp only
    omega
theorem lfs_app (l A B : List Op7) : lfs l (A ++ B) = lfs l A ++ lfs l B := by simp [lfs]
theorem lfs_step {l : List Op7} {n : Nat} {K : List Op7} {k : Nat} (h : k < K.length) : lfs l (sideK l n (K.take (k + 1))) = lfs l (sideK l n (K.take k)) ++ (lfs l (sideO l n (K[k].a, K[k].b, 0)) ++ ⟨K[k].a, K[k].b, K[k].g, goneB l (K[k].a, K[k].b)⟩ :: lfs l (sideO l n (K[k].a, K[k].b, 1))) := by
  rw [sideK_step h]
  simp [lfs]

theorem sideK_app (l : List Op7) (n : Nat) (A B : List Op7) : sideK l n (A ++ B) = sideK l n A ++ sideK l n B := by
  simp [sideK]
theorem lfs_rest {l : List Op7} {n : Nat} {K : List Op7} (k : Nat) : ∃ r, lfs l (sideK l n K) = lfs l (sideK l n (K.take k)) ++ r :=
  ⟨lfs l (sideK l n (K.drop k)), by rw [← lfs_app, ← sideK_app, List.take_append_drop]⟩

set_option maxRecDepth 100000 in
set_option maxHeartbeats 4000000 in
theorem eachKid_in (l : List Op7) (hops : opsB l = true) (hn : l.length ≤ 1048576) (w0 : World) (b1 b2 b3 base : Nat) (hT : TreeAt w0 b1 b2 b3 base l) (lp B N : Nat) (J Jx : List Lf → World → Prop) (hJ : AbidesFrom B J)
    (hY : ∀ m pre (x : Lf) W, J pre W → pre.length < N → YieldAt Fence.wide m Tryd.prog lp #[.agg #[.int .i64 x.a, .int .i64 x.b, .int .i64 x.g, .bool x.z]] W fun e W' =>
      (e = .returned (.bool true) ∧ J (pre ++ [x]) W' ∧ KpT w0.heap.size W W') ∨ (e = .returned (.bool false) ∧ Jx (pre ++ [x]) W')) :
    ∀ (n d : Nat) (r m s : Int), Up l d (r, m) → (s = 0 ∨ s = 1) → d + n = l.length + 2 → ∀ k pre W, Below w0.heap.size w0 W → J pre W → pre.length + (lfs l (sideO l n (r, m, s))).length ≤ N →
      CallsIn Fence.wide k Tryd.prog 85 #[.agg #[.map (some b1), .map (some b2), .map (some b3)], .agg #[.int .i64 r, .int .i64 m, .int .i64 s], .func (.yield lp) #[] #[]] W (EPost w0.heap.size J Jx pre (lfs l (sideO l n (r, m, s))) W) := by
  intro n
  induction n with
  | zero =>
    intro d r m s hu _ hd
    have := up_le hops hu
    omega
  | succ n ih =>
    intro d r m s hu hs01 hd k pre W hW h0 hN
    have hnum := up_num (opsParts hops).1 hu
    simp only at hnum
    obtain ⟨ks, hks⟩ := key_spot (r := r) (m := m) (s := s) (wf_small (by omega)) (wf_small (by omega)) (wf_small (by omega))
    have OF : Hid (∀ o ∈ kidsL l (r, m, s), ∀ k pre W, Below w0.heap.size w0 W → J pre W → pre.length + ((lfs l (sideO l n (o.a, o.b, 0))).length + 1 + (lfs l (sideO l n (o.a, o.b, 1))).length) ≤ N →
        CallsIn Fence.wide k Tryd.prog 100 #[.agg #[.map (some b1), .map (some b2), .map (some b3)], .agg #[.int .i64 o.a, .int .i64 o.b, .int .i64 o.c, .int .i64 o.d, .int .i64 o.s, .int .i64 o.g], .func (.yield lp) #[] #[]] W (EPost w0.heap.size J Jx pre (lfs l (sideO l n (o.a, o.b, 0)) ++ ⟨o.a, o.b, o.g, goneB l (o.a, o.b)⟩ :: lfs l (sideO l n (o.a, o.b, 1))) W)) :=
      fun o ho k pre W hW h0 hN => eachOf_in l hops hn w0 b1 b2 b3 base hT lp B N J Jx hJ hY o (List.all_eq_true.1 (opsParts hops).1 o (mem_kids ho).1) _ _
        (fun k pre W hW h0 hN => ih (d + 1) o.a o.b 0 (up_kid ho hu) (.inl rfl) (by omega) k pre W hW h0 hN)
        (fun k pre W hW h0 hN => ih (d + 1) o.a o.b 1 (up_kid ho hu) (.inr rfl) (by omega) k pre W hW h0 hN) k pre W hW h0 hN
    rw [sideK_all] at hN ⊢
    obtain ⟨f, hf⟩ := hT.2.1
    have hrow := hf.at (r, m, s)
    have hM : Hid (MapFn Tryd.prog 98 w0 b2 encSpot f) := hf.1
    obtain ⟨v0, hv0⟩ : ∃ v0, (f (r, m, s)).getD (.slice none 0 0) = v0 := ⟨_, rfl⟩
    rw [hv0] at hrow
    have HV0 := hideIt hv0
    have HKS := hideIt hks
    have HJ := hideIt hJ
    have hn0 : w0.heap.size ≤ W.heap.size := hW.size
    have hKl : (kidsL l (r, m, s)).length ≤ 1048576 := Nat.le_trans (kids_le l _) hn
    clear ih hu hd hY hJ hT hf hv0 hks hops
    generalize kidsL l (r, m, s) = K at *
    have HBa : Hid (Below W.heap.size W ((W.alloc (.cells #[.map (some b1), .map (some b2), .map (some b3)] 81)).alloc (.cells #[.int .i64 r, .int .i64 m, .int .i64 s] 98))) := ((Below.refl _ _).alloc (Nat.le_refl _) _).alloc (by simp) _
    have HKa : Hid (KpT w0.heap.size W ((W.alloc (.cells #[.map (some b1), .map (some b2), .map (some b3)] 81)).alloc (.cells #[.int .i64 r, .int .i64 m, .int .i64 s] 98))) := KpT.of_below hn0 HBa.out
    have HWa := hideIt (hW.trans HKa.out.1)
    have HTa : Hid (((W.alloc (.cells #[.map (some b1), .map (some b2), .map (some b3)] 81)).alloc (.cells #[.int .i64 r, .int .i64 m, .int .i64 s] 98)).heap[W.heap.size]? = some (.cells #[.map (some b1), .map (some b2), .map (some b3)] 81 (0, 0))) := (Below.heap_alloc _ _ _ (by simp)).trans (World.alloc_heap_new _ _)
    have HJa := hideIt (abides_below HJ.out h0 HBa.out)
    clear h0 hW
    rcases row_cases hrow with ⟨hlen, p0, c0, rfl⟩ | ⟨hlen, G, cap0, rfl, hcap0, hGl, hcell⟩
    · obtain rfl : K = [] := List.length_eq_zero_iff.1 hlen
      refine callsIn_of_wp Tryd.func85 rfl trivial ?_ rfl
      simp only [Tryd.ntmps85, List.size_toArray, List.length_cons, List.length_nil, Nat.reduceAdd, Nat.reduceSub, Array.replicate_succ, Array.replicate_zero, List.push_toArray, List.append_toArray, List.nil_append, List.cons_append]
      gi_wp2_with (first
        | (gi_at_lookup; refine wpListIn_look0 (t := 78) (e := 96) rfl _ _ rfl keyedSpot Tryd.underlying78 (.slice none 0 0) (zeroSlice _) encSpot_inj rfl (hM.out.below HWa.out hM.out.lt) (r, m, s) rfl ks HKS.out _ HV0.out ?_)
        | gi_in)
      gi_loopw [14] (fun i wr => ∃ j : Nat, j = 0 ∧ i = .int .i64 j ∧ J pre wr ∧ KpT w0.heap.size W wr)
        (fun _ _ => 0)
      case atStart => exact ⟨0, rfl, rfl, HJa.out, HKa.out⟩
      case round =>
        obtain ⟨j, rfl, rfl, hj, hkp⟩ := hrel
        gi_wp2
        go_ret
        exact .inl ⟨rfl, by simpa [sideK, lfs] using hj, hkp⟩
    · have HCE := hideIt hcell
      clear hrow hcell
      refine callsIn_of_wp Tryd.func85 rfl trivial ?_ rfl
      simp only [Tryd.ntmps85, List.size_toArray, List.length_cons, List.length_nil, Nat.reduceAdd, Nat.reduceSub, Array.replicate_succ, Array.replicate_zero, List.push_toArray, List.append_toArray, List.nil_append, List.cons_append]
      gi_wp2_with (first
        | (gi_at_lookup; refine wpListIn_look0 (t := 78) (e := 96) rfl _ _ rfl keyedSpot Tryd.underlying78 (.slice none 0 0) (zeroSlice _) encSpot_inj rfl (hM.out.below HWa.out hM.out.lt) (r, m, s) rfl ks HKS.out _ HV0.out ?_)
        | gi_in)
      gi_loopw [14] (fun i wr => ∃ j : Nat, j ≤ K.length ∧ i = .int .i64 j ∧ J (pre ++ lfs l (sideK l n (K.take j))) wr ∧ KpT w0.heap.size W wr ∧ Below w0.heap.size w0 wr ∧ wr.heap[W.heap.size]? = some (.cells #[.map (some b1), .map (some b2), .map (some b3)] 81 (0, 0)))
        (fun i _ => K.length - (intOf i).toNat)
      case atStart => exact ⟨0, Nat.zero_le _, rfl, by simpa [sideK, lfs] using HJa.out, HKa.out, HWa.out, HTa.out⟩
      case round =>
        obtain ⟨j, hj, rfl, hJj, hKj, hWj, hTj⟩ := hrel
        have HJj := hideIt hJj
        have HKj := hideIt hKj
        have HWj := hideIt hWj
        have ct0 := (blk_cell hTj 0).trans rfl
        have ct1 := (blk_cell hTj 1).trans rfl
        have ct2 := (blk_cell hTj 2).trans rfl
        have HTj := hideIt hTj
        have hlw : W.heap.size < wr.heap.size := (Array.getElem?_eq_some_iff.1 hTj).1
        clear hJj hKj hTj HJa HKa HWa HTa HBa
        by_cases hlt : j < K.length
        · obtain ⟨i0', i1', i2', i3', i4', i5'⟩ := putCells_at K j K[j] (by simp [hlt])
          have cc : ∀ q, q < K.length * 6 → wr.cell? ⟨G, q, none⟩ = (putCells K)[q]? := fun q hq => (hWj.cell (p := ⟨G, q, none⟩) hGl).trans (HCE.out q hq)
          have y0 := (cc (j * 6) (by omega)).trans i0'
          have y1 := (cc (j * 6 + 1) (by omega)).trans i1'
          have y2 := (cc (j * 6 + 2) (by omega)).trans i2'
          have y3 := (cc (j * 6 + 3) (by omega)).trans i3'
          have y4 := (cc (j * 6 + 4) (by omega)).trans i4'
          have y5 := (cc (j * 6 + 5) (by omega)).trans i5'
          have HMK : Hid (K[j] ∈ K) := List.getElem_mem hlt
          have HST := hideIt (lfs_step (l := l) (n := n) hlt)
          have HLE : Hid (pre.length + (lfs l (sideK l n (K.take (j + 1)))).length ≤ N) := by
            have h := sideK_le (l := l) (n := n) (K := K) (j + 1)
            show pre.length + (lfs l (sideK l n (K.take (j + 1)))).length ≤ N
            rw [lfs_len] at hN ⊢
            omega
          have hGr : G < wr.heap.size := Nat.lt_of_lt_of_le hGl hWj.size
          generalize K[j] = o at *
          have hlt' : (j : Int) < (K.length : Int) := by omega
          have hj0 : (0 : Int) ≤ (j : Int) := by omega
          clear cc i0' i1' i2' i3' i4' i5' hWj
          have HBo : Hid (Below wr.heap.size wr (wr.alloc (.cells #[.int .i64 o.a, .int .i64 o.b, .int .i64 o.c, .int .i64 o.d, .int .i64 o.s, .int .i64 o.g] 102))) := (Below.refl _ _).alloc (Nat.le_refl _) _
          have HKo := hideIt (KpT.of_below (n0 := w0.heap.size) HWj.out.size HBo.out)
          have HJo := hideIt (abides_below HJ.out HJj.out HBo.out)
          have HWo := hideIt (HWj.out.trans HKo.out.1)
          have hll : pre.length + (lfs l (sideK l n (K.take j))).length + ((lfs l (sideO l n (o.a, o.b, 0))).length + 1 + (lfs l (sideO l n (o.a, o.b, 1))).length) ≤ N := by
            have h := HLE.out
            rw [HST.out] at h
            simp only [List.length_append, List.length_cons] at h
            omega
          gi_wp2
          refine ⟨trivial, (fun h => by cases h), ?_⟩
          refine (OF.out o HMK.out _ (pre ++ lfs l (sideK l n (K.take j))) _ HWo.out HJo.out (by rw [List.length_append]; exact hll)).mono ?_
          rintro e W5 (⟨rfl, hJ5, hK5⟩ | ⟨rfl, q, t, hqt, hq⟩)
          · have HJ5 := hideIt hJ5
            have HK5 := hideIt (HKo.out.trans hK5)
            clear hJ5 hK5
            gi_wp2
            exact ⟨⟨j + 1, by omega, by go_num, by rw [HST.out, ← List.append_assoc]; exact HJ5.out, HKj.out.trans HK5.out, HWj.out.trans HK5.out.1, HK5.out.cell HTj.out (.inl rfl)⟩, by simp [intOf]; omega⟩
          · gi_wp2
            go_ret
            obtain ⟨r, hr⟩ := lfs_rest (l := l) (n := n) (K := K) (j + 1)
            exact .inr ⟨rfl, q, t ++ r, by rw [hr, HST.out, ← List.append_assoc, hqt]; simp [List.append_assoc], hq⟩
        · obtain rfl : j = K.length := by omega
          gi_wp2
          go_ret
          exact .inl ⟨rfl, by have h := HJj.out; rw [List.take_length] at h; exact h, HKj.out⟩
end Go.Proofs.YtjadkhejdbdpoaaDoor

namespace Go.Proofs.YtjadkhejdbdpoaaDoor
open Go.RowKit Go.Shelf
set_option linter.unusedSimpArgs false
set_option linter.unusedVariables false
attribute [local go_sem] Oper.semAt_some

theorem leaves_any (v1 v2 v3 : Value) (w : World) (h : v1.cells = #[v1] ∧ v2.cells = #[v2] ∧ v3.cells = #[v3]) (b1 b2 b3 : Nat) (hv : v1 = .map (some b1) ∧ v2 = .map (some b2) ∧ v3 = .map (some b3)) :
    Calls Tryd.prog 56 #[.agg #[v1, v2, v3]] w fun e w' => e = .returned (.func (.func 84) #[] #[.pointer (some ⟨w.heap.size, 0, none⟩)]) ∧ w' = w.alloc (.cells #[v1, v2, v3] 81) := by
  obtain ⟨rfl, rfl, rfl⟩ := hv
  go_enter Tryd.func56, Tryd.ntmps56
  go_wp2
  go_ret
  exact ⟨rfl, rfl⟩

/-- A leaf as a value. -/
def lfV (x : Lf) : Value := .agg #[.int .i64 x.a, .int .i64 x.b, .int .i64 x.g, .bool x.z]

set_option maxRecDepth 100000 in
set_option maxHeartbeats 2000000 in
theorem leaves1_in (l : List Op7) (hops : opsB l = true) (hn : l.length ≤ 1048576) (w0 : World) (b1 b2 b3 base : Nat) (hT : TreeAt w0 b1 b2 b3 base l) (lp B : Nat) (J Jx : List Lf → World → Prop) (hJ : AbidesFrom B J)
    (hY : ∀ m pre (x : Lf) W, J pre W → pre.length < (allO l).length → YieldAt Fence.wide m Tryd.prog lp #[lfV x] W fun e W' =>
      (e = .returned (.bool true) ∧ J (pre ++ [x]) W' ∧ KpT w0.heap.size W W') ∨ (e = .returned (.bool false) ∧ Jx (pre ++ [x]) W'))
    (k Bt : Nat) (W : World) (hW : Below w0.heap.size w0 W) (h0 : J [] W) (hB : W.heap[Bt]? = some (.cells #[.map (some b1), .map (some b2), .map (some b3)] 81 (0, 0))) :
    CallsIn Fence.wide k Tryd.prog 84 #[.func (.yield lp) #[] #[], .pointer (some ⟨Bt, 0, none⟩)] W fun e W' => (∃ v, e = .returned v) ∧ ((∃ xs, xs = lfs l (allO l) ∧ J xs W') ∨ (∃ pre, (∃ t, pre ++ t = lfs l (allO l)) ∧ Jx pre W')) := by
  have hK := eachKid_in l hops hn w0 b1 b2 b3 base hT lp B (allO l).length J Jx hJ hY (l.length + 2) 0 0 0 1 Up.zero (.inr rfl) (by omega)
  have HK := hideIt hK
  have ct0 := (blk_cell hB 0).trans rfl
  have ct1 := (blk_cell hB 1).trans rfl
  have ct2 := (blk_cell hB 2).trans rfl
  clear hK hY hT
  refine callsIn_of_wp Tryd.func84 rfl trivial ?_ rfl
  simp only [Tryd.ntmps84, List.size_toArray, List.length_cons, List.length_nil, Nat.reduceAdd, Nat.reduceSub, Array.replicate_succ, Array.replicate_zero, List.push_toArray, List.append_toArray, List.nil_append, List.cons_append]
  gi_wp2
  refine ⟨trivial, (fun h => by cases h), ?_⟩
  refine (HK.out _ [] _ hW h0 (by simp [lfs_len, allO])).mono ?_
  rintro e W5 (⟨rfl, hJ5, hK5⟩ | ⟨rfl, q, t, hqt, hq⟩)
  · gi_wp2
    go_end0
    exact ⟨⟨_, rfl⟩, .inl ⟨_, rfl, by have h := hJ5; rw [List.nil_append] at h; exact h⟩⟩
  · gi_wp2
    go_end0
    exact ⟨⟨_, rfl⟩, .inr ⟨q, ⟨t, by rw [List.nil_append] at hqt; exact hqt⟩, hq⟩⟩

theorem leaves_stops (l : List Op7) (hops : opsB l = true) (hn : l.length ≤ 1048576) (w0 : World) (b1 b2 b3 base : Nat) (hT : TreeAt w0 b1 b2 b3 base l) (n Bt : Nat) (w : World) (hW : Below w0.heap.size w0 w)
    (hB : w.heap[Bt]? = some (.cells #[.map (some b1), .map (some b2), .map (some b3)] 81 (0, 0))) :
    SeqStopsK Fence.wide n Tryd.prog 84 #[.pointer (some ⟨Bt, 0, none⟩)] (fun x : Lf => #[lfV x]) (KpT w0.heap.size) (fun ys => ys = lfs l (allO l)) (fun pre => ∃ t, pre ++ t = lfs l (allO l)) (allO l).length w := fun lp J Jx W hb hJ hJx hY h0 =>
  leaves1_in l hops hn w0 b1 b2 b3 base hT lp W.heap.size J Jx hJ (fun m pre x W1 h1 h2 => yield_any rfl m (hY pre x W1 h1 h2)) n Bt W (hW.trans (hb.mono hW.size)) h0
    ((hb.block Bt (Array.getElem?_eq_some_iff.1 hB).1).trans hB)

theorem kpT_b {n0 : Nat} {w : World} (hn : n0 ≤ w.heap.size) (W : World) (l : Nat) (o o' : Obj) (hl : w.heap.size ≤ l) (h : W.heap[l]? = some o) (hc : o.isCells = false) (hw : o.isWalk = false) : KpT n0 W (W.putObj l o') :=
  ⟨belowK_b hn W l o o' hl h hc hw, fun b cur T fr hb _ => World.putObj_heap_other (fun e => by subst e; rw [hb] at h; cases h; cases hc)⟩
/-- A row of leaves, and a box, are none of the walk's own blocks. -/
theorem kpT_row {n0 : Nat} {W W' : World} {row : Option Nat} (hn : n0 ≤ W.heap.size) (hg : W.grownBy W' row) (hr : ∀ j, row = some j → n0 ≤ j ∧ ∃ cur T fr, W.heap[j]? = some (.cells cur T fr) ∧ ¬ (T = 81 ∨ T = 98 ∨ T = 102)) : KpT n0 W W' :=
  ⟨(Below.refl n0 W).grown hg hn (fun k e => (hr k e).1), fun b cur T fr hb hT => hg.block b (Array.getElem?_eq_some_iff.1 hb).1 (fun e => by
    obtain ⟨_, cur', T', fr', h1, h2⟩ := hr b e.symm
    rw [hb] at h1
    cases h1
    exact h2 hT)⟩
theorem own_type {W : World} {b : Nat} {T : TypeId} {m : Nat} {v : Value} {n : Nat} {xs : List Value} (h : W.ownsRow b T m v n xs) {j : Nat} (e : v.ownBlock = some j) (hT : ¬ (T = 81 ∨ T = 98 ∨ T = 102)) : ∃ cur T fr, W.heap[j]? = some (.cells cur T fr) ∧ ¬ (T = 81 ∨ T = 98 ∨ T = 102) := by
  rcases h.2 with ⟨rfl, _⟩ | ⟨g, cap, cur, rfl, _, hg, _⟩
  · cases e
  · obtain rfl : g = j := by simpa [Value.ownBlock] using e
    exact ⟨cur, T, _, hg, hT⟩
theorem lf_one : ∀ {a b g : Int} {z : Bool}, ∀ u ∈ [Value.int .i64 a, .int .i64 b, .int .i64 g, .bool z], u.oneCell' = true := by
  intro a b g z u hu
  simp at hu
  rcases hu with rfl | rfl | rfl | rfl <;> rfl
theorem lfCells_more (L : List Lf) (x : Lf) : lfCells (L ++ [x]) = lfCells L ++ [.int .i64 x.a, .int .i64 x.b, .int .i64 x.g, .bool x.z] := by simp [lfCells]

set_option maxRecDepth 100000 in
set_option maxHeartbeats 2000000 in
theorem appendSeq_in (l : List Op7) (hops : opsB l = true) (hn : l.length ≤ 1048576) (w0 : World) (b1 b2 b3 base : Nat) (hT : TreeAt w0 b1 b2 b3 base l) (n Bt : Nat) (h2 : 2 ≤ n) (w : World) (hW : Below w0.heap.size w0 w)
    (hB : w.heap[Bt]? = some (.cells #[.map (some b1), .map (some b2), .map (some b3)] 81 (0, 0))) :
    CallsIn Fence.wide n Tryd.prog 91 #[.slice none 0 0, .func (.func 84) #[] #[.pointer (some ⟨Bt, 0, none⟩)]] w fun e w' => ∃ v, e = .returned v ∧ w'.ownsRow w.heap.size 44 4 v (lfs l (allO l)).length (lfCells (lfs l (allO l))) ∧ Below w.heap.size w w' := by
  have h1 : 1 ≤ n := by omega
  have hlen : (allO l).length ≤ 1048576 := Nat.le_trans (all_len hops) hn
  obtain ⟨i0, hi, hz0, hz1, hz2⟩ := info_parts infoLeaf
  have HI1 := hideIt hi
  have HZ0 := hideIt hz0
  have HZ1 := hideIt hz1
  have HZ2 := hideIt hz2
  clear hi hz0 hz1 hz2
  have hsz : (w.alloc (.cells #[.slice none 0 0] 40)).heap.size = w.heap.size + 1 := by simp
  have hBw : Below w.heap.size w (w.alloc (.cells #[.slice none 0 0] 40)) := (Below.refl _ _).alloc (Nat.le_refl _) _
  have hn0 : w0.heap.size ≤ w.heap.size := hW.size
  have HSQ := hideIt (leaves_stops l hops hn w0 b1 b2 b3 base hT (n - 1) Bt (w.alloc (.cells #[.slice none 0 0] 40)) (hW.trans (hBw.mono hn0)) ((hBw.block Bt (Array.getElem?_eq_some_iff.1 hB).1).trans hB))
  clear hT hW hB
  refine callsIn_of_wp_marks Tryd.func91 rfl trivial ?_ rfl
  simp only [Tryd.ntmps91, List.size_toArray, List.length_cons, List.length_nil, Nat.reduceAdd, Nat.reduceSub, Array.replicate_succ, Array.replicate_zero, List.push_toArray, List.append_toArray, List.nil_append, List.cons_append]
  gi_wp2
  refine wpIn_rangeFunc_ownH rfl h1 (gf := 84) (lb := #[.pointer (some ⟨Bt, 0, none⟩)]) rfl trivial (enters_of Tryd.func84 (by kernel_rfl) rfl) HSQ.out
    (fun h k => h.trans k) (kpT_b (by omega)) (Below.refl _ _) (fun _ => rfl)
    (fun pre W => (∃ v, Boxed W w.heap.size 40 v ∧ W.ownsRow w.heap.size 44 4 v pre.length (lfCells pre) ∧ True) ∧ Below w.heap.size w W)
    (fun _ _ _ => False)
    (OwnFrom.and (Own.from (holdsRow_own w.heap.size w.heap.size 40 44 4 (fun pre : List Lf => pre.length) (fun pre => lfCells pre) (fun _ _ => True)) _) (ownFrom_below (Nat.le_refl _) (by omega)))
    (fun _ _ _ _ _ hs _ _ => hs)
    ⟨⟨_, Boxed.new _ _ _, World.ownsRow_nil _ _ _ _, trivial⟩, hBw⟩
    (fun x a' W => ∃ Bx, w.heap.size + 1 ≤ Bx ∧ W.heap[Bx]? = some (.cells #[.int .i64 x.a, .int .i64 x.b, .int .i64 x.g, .bool x.z] 44 (0, 0)) ∧ a' = { tmps := #[.slice none 0 0, .func (.func 84) #[] #[.pointer (some ⟨Bt, 0, none⟩)], .pointer (some ⟨w.heap.size, 0, none⟩), undef, .slice none 0 0, .pointer (some ⟨Bx, 0, none⟩), .func (.func 84) #[] #[.pointer (some ⟨Bt, 0, none⟩)], lfV x, undef, undef, undef, undef, undef], defers := [] })
    ?hAx ?assign ?body ?done ?stop
  case hAx =>
    rintro x a' _ A B row ⟨Bx, hb, hx, ha⟩ hg hr
    exact ⟨Bx, hb, (hg.block Bx (Array.getElem?_eq_some_iff.1 hx).1 (fun e => by obtain ⟨_, o, ho, hc⟩ := hr Bx e.symm; rw [hx] at ho; cases ho; cases hc)).trans hx, ha⟩
  case assign =>
    rintro lp pre x W K ⟨⟨v, bv, hrow, _⟩, hBl⟩ hK
    unfold lfV
    gi_wp2
    exact hK _ _ ((KeepsOthers.alloc _ _).from _) (KpT.of_below (by have := hBl.size; omega) ((Below.refl _ _).alloc (Nat.le_refl _) _)) ⟨⟨v, bv.alloc _, hrow.alloc _, trivial⟩, hBl.alloc hBl.size _⟩ ⟨W.heap.size, by have := bv.lt; omega, World.alloc_heap_new _ _, rfl⟩
  case body =>
    rintro lp pre x a' W hl ⟨rr, hr⟩ ⟨⟨v, bv, hrow, _⟩, hBl⟩ ⟨Bx, hbx, hx, rfl⟩ hlt
    have hc := bv.cell
    have x0 := (blk_cell hx 0).trans rfl
    have x1 := (blk_cell hx 1).trans rfl
    have x2 := (blk_cell hx 2).trans rfl
    have x3 := (blk_cell hx 3).trans rfl
    have HRW := hideIt hrow
    have HBL := hideIt hBl
    have HBV := hideIt bv
    have hwl : w.heap.size ≤ W.heap.size := hBl.size
    clear hrow hBl hr
    gi_wp2_with (first
      | (gi_at_builtin; refine wpListIn_append_own _ rfl _ _ 40 rfl w.heap.size 44 i0 _ 4 32 Tryd.underlying40 HI1.out HZ0.out HZ1.out HZ2.out rfl (by decide) _ _ _ rfl (HRW.out.alloc _) ⟨W.heap.size, 0, none⟩ 1 1 [.int .i64 x.a, .int .i64 x.b, .int .i64 x.g, .bool x.z] rfl rfl (cells_new W [.int .i64 x.a, .int .i64 x.b, .int .i64 x.g, .bool x.z] 44) lf_one (by unfold maxLen; omega) (by omega) (by simp; omega) ?_; intro v' w1 hown' hgrow _; obtain ⟨g', cap', rfl⟩ := ownsRow_succ hown'; obtain ⟨hv1, hv2, hr2, hk2, hb2⟩ := HBV.out.appended (by decide) HRW.out hwl (Nat.le_refl _) hown' hgrow; have hc1 := hv1.cell; have hf1 := hv1.frozen;
          have HKP : Hid (KpT w0.heap.size W (w1.setCell ⟨w.heap.size, 0, none⟩ (.slice (some ⟨g', 0, none⟩) (pre.length + 1) cap'))) := (KpT.of_below (by omega) ((Below.refl _ _).alloc (Nat.le_refl _) _)).trans ((kpT_row (by simp; omega) hgrow (fun j e => ⟨Nat.le_trans hn0 ((HRW.out.lt j e).1), own_type (HRW.out.alloc _) e (by decide)⟩)).trans (kpT_row (by have := hgrow.size; simp at this; omega) (grownBy_setCell' _ _ _) (fun j e => by cases e; exact ⟨hn0, _, _, _, hv1, by decide⟩)));
          have HV2 := hideIt hv2; have HR2 := hideIt hr2; have HK2 := hideIt hk2; have HB2 := hideIt hb2; clear hv2 hr2 hk2 hb2 hv1 hown' hgrow)
      | gi_in)
    exact ⟨HK2.out.from _, HKP.out, ⟨_, HV2.out, by rw [lfCells_more, List.length_append]; exact HR2.out, trivial⟩, HBL.out.trans HB2.out⟩
  case done =>
    rintro D ys W hD rfl ⟨⟨v, bv, hrow, _⟩, hBl⟩ hK
    have hc := bv.cell
    have hrow' := hrow
    rw [hsz] at hD
    rcases hrow.2 with ⟨rfl, _⟩ | ⟨g', cap', cur', rfl, _⟩
    all_goals
      gi_wp2
      refine ⟨by simp, .inl ⟨_, _, rfl, run_takeDeferred hK, ?_⟩⟩
      exact ⟨_, results_tmp rfl _ _ _, _, rfl, ownsRow_putObj hrow' _ hK rfl, hBl.trans (belowK_b (w := w) (Nat.le_refl _) W D _ _ (by omega) hK rfl rfl)⟩
  case stop =>
    rintro D c pre W _ _ h _
    exact h.elim

set_option maxRecDepth 100000 in
set_option maxHeartbeats 2000000 in
theorem collect_any (l : List Op7) (hops : opsB l = true) (hn : l.length ≤ 1048576) (w0 : World) (b1 b2 b3 base : Nat) (hT : TreeAt w0 b1 b2 b3 base l) (Bt : Nat) (w : World) (hW : Below w0.heap.size w0 w)
    (hB : w.heap[Bt]? = some (.cells #[.map (some b1), .map (some b2), .map (some b3)] 81 (0, 0))) :
    Calls Tryd.prog 60 #[.func (.func 84) #[] #[.pointer (some ⟨Bt, 0, none⟩)]] w fun e w' => ∃ v, e = .returned v ∧ w'.ownsRow w.heap.size 44 4 v (lfs l (allO l)).length (lfCells (lfs l (allO l))) ∧ Below w.heap.size w w' := by
  have HA := hideIt (callsIn_wide.1 (appendSeq_in l hops hn w0 b1 b2 b3 base hT 2 Bt (Nat.le_refl _) w hW hB))
  clear hT hW hB
  go_enter Tryd.func60, Tryd.ntmps60
  go_wp2_with fail
  refine HA.out.mono ?_
  rintro e w1 ⟨v, rfl, hr, hb⟩
  go_wp2
  go_ret
  exact ⟨_, rfl, hr, hb⟩

set_option maxRecDepth 100000 in
set_option maxHeartbeats 1000000 in
theorem implLeaves_any (l : List Op7) (g cap : Nat) (x : Addr) (w : World) (hl : OpsAt w g l) (hn : l.length ≤ 1048576) (hcap : l.length ≤ cap)
    (he : w.cell? ⟨0, 0, none⟩ = some (.iface 164 (.pointer (some x)))) (h0 : 0 < w.heap.size) :
    Calls Tryd.prog 24 #[.slice (some ⟨g, 0, none⟩) l.length cap] w fun e w' => ∃ v, e = .returned v ∧ w'.ownsRow w.heap.size 44 4 v (lfs l (standL l)).length (lfCells (lfs l (standL l))) ∧ Below w.heap.size w w' := by
  have HL := hideIt hl
  have hgw := hl.1
  clear hl
  go_enter Tryd.func24, Tryd.ntmps24
  go_wp2_with fail
  refine (treeOf_any l g cap x _ HL.out hn hcap he h0).mono ?_
  rintro e w1 ⟨(⟨ht, b1, b2, b3, base, rfl, hT⟩ | ⟨ht, rfl⟩), hb1⟩
  all_goals
    have HO := hideIt ht
    have HB1 := hideIt hb1
    have herr1 : w1.cell? ⟨0, 0, none⟩ = some (.iface 164 (.pointer (some x))) := errB HB1.out h0 he
    have hp1 : 0 < w1.heap.size := posB HB1.out h0
    clear ht hb1
  · have HTT := hideIt hT
    have HE : Hid (standL l = allO l) := by show standL l = allO l; unfold standL; rw [HO.out]; rfl
    clear hT
    go_wp2_with (first | (go_at_call 50; refine (is_nil x _).mono ?_; rintro e w'' ⟨rfl, rfl⟩))
    refine (leaves_any _ _ _ _ ⟨rfl, rfl, rfl⟩ b1 b2 b3 ⟨rfl, rfl, rfl⟩).mono ?_
    rintro e w2 ⟨rfl, hw2⟩
    have HW2 := hideIt hw2
    have hbb : Below w1.heap.size w1 w2 := by rw [hw2]; exact ((Below.refl _ _).alloc (Nat.le_refl _) _).alloc (by simp) _
    have hblk : w2.heap[(w1.alloc (.cells #[.map (some b1), .map (some b2), .map (some b3)] 81)).heap.size]? = some (.cells #[.map (some b1), .map (some b2), .map (some b3)] 81 (0, 0)) := by rw [hw2]; exact World.alloc_heap_new _ _
    rw [World.size_alloc] at hblk
    have HBB := hideIt hbb
    have HBK := hideIt hblk
    clear hbb hblk hw2
    go_wp2_with fail
    refine (collect_any l HO.out hn w1 b1 b2 b3 base HTT.out _ _ HBB.out HBK.out).mono ?_
    rintro e w3 ⟨v, rfl, hr, hb3⟩
    have HR3 := hideIt (ownsRow_base (Nat.le_trans HB1.out.size HBB.out.size) hr)
    have HB3 := hideIt (Bstep (Bstep HB1.out HBB.out) hb3)
    clear hr hb3
    go_wp2
    go_ret
    rw [HE.out]
    exact ⟨_, rfl, HR3.out, HB3.out⟩
  · have HE : Hid (standL l = []) := by show standL l = []; unfold standL; rw [HO.out]; rfl
    go_wp2_with (first | (go_at_call 50; refine (is_same x _).mono ?_; rintro e w'' ⟨rfl, rfl⟩))
    go_ret
    rw [HE.out]
    exact ⟨_, rfl, World.ownsRow_nil _ _ _ _, HB1.out.alloc HB1.out.size _⟩
end Go.Proofs.YtjadkhejdbdpoaaDoor

namespace Go.Proofs.YtjadkhejdbdpoaaDoor
open Go.RowKit
set_option linter.unusedSimpArgs false
set_option linter.unusedVariables false

/-- How many of them are not gone. -/
def nShown (L : List Lf) : Nat := (L.filter fun x => !x.z).length
theorem nShown_nil : nShown [] = 0 := rfl
theorem nShown_gone {L : List Lf} {x : Lf} (h : x.z = true) : nShown (L ++ [x]) = nShown L := by simp [nShown, h]
theorem nShown_there {L : List Lf} {x : Lf} (h : x.z = false) : nShown (L ++ [x]) = nShown L + 1 := by simp [nShown, h]
theorem nShown_le (L : List Lf) : nShown L ≤ L.length := List.length_filter_le _ _
theorem nShown_app (A B : List Lf) : nShown (A ++ B) = nShown A + nShown B := by simp [nShown]
/-- A list that has no leaf of that id. -/
def freeOf (L : List Lf) (a b : Int) : Prop := ∀ x ∈ L, ¬ (x.a = a ∧ x.b = b)
theorem freeOf_nil (a b : Int) : freeOf [] a b := fun _ h => by cases h
theorem freeOf_more {L : List Lf} {a b : Int} {x : Lf} (h : freeOf L a b) (hx : ¬ (x.a = a ∧ x.b = b)) : freeOf (L ++ [x]) a b := by
  intro y hy
  rcases List.mem_append.1 hy with h1 | h1
  · exact h y h1
  · simp at h1; subst h1; exact hx
/-- How many that are not gone stand up to the first one of that id. -/
def upTo (a b : Int) : List Lf → Nat → Option Nat
  | [], _ => none
  | x :: t, n => if x.a = a ∧ x.b = b then some (if x.z then n else n + 1) else upTo a b t (if x.z then n else n + 1)
theorem upTo_free {a b : Int} : ∀ {L : List Lf} {n : Nat}, freeOf L a b → upTo a b L n = none
  | [], _, _ => rfl
  | x :: t, n, h => by
    simp only [upTo]
    rw [if_neg (h x List.mem_cons_self)]
    exact upTo_free fun y hy => h y (List.mem_cons_of_mem _ hy)
theorem upTo_at {a b : Int} : ∀ {p : List Lf} {x : Lf} {t : List Lf} {n : Nat}, freeOf p a b → x.a = a → x.b = b → upTo a b (p ++ x :: t) n = some (n + nShown (p ++ [x]))
  | [], x, t, n, _, ha, hb => by
    simp only [List.nil_append, upTo]
    rw [if_pos ⟨ha, hb⟩]
    cases hz : x.z <;> simp [nShown, hz]
  | y :: p, x, t, n, h, ha, hb => by
    simp only [List.cons_append, upTo]
    rw [if_neg (h y List.mem_cons_self), upTo_at (fun u hu => h u (List.mem_cons_of_mem _ hu)) ha hb]
    cases hz : y.z <;> simp [nShown, hz] <;> omega
/-- The place of a mark: none, if there is no such sign. -/
def placeM (l : List Op7) (a b : Int) : Option Nat := if a = 0 ∧ b = 0 then some 0 else upTo a b (lfs l (allO l)) 0
/-- What MarkPlace answers. -/
def markP (l : List Op7) (a b : Int) : Option Nat := if opsB l = true then placeM l a b else none
def pN (p : Option Nat) : Int := match p with | some n => n | none => 0
def pB (p : Option Nat) : Bool := match p with | some _ => true | none => false
theorem upTo_le {a b : Int} : ∀ {L : List Lf} {n k : Nat}, upTo a b L n = some k → k ≤ n + nShown L
  | [], _, _, h => by cases h
  | x :: t, n, k, h => by
    simp only [upTo] at h
    cases hz : x.z <;> simp only [hz] at h <;> split at h <;> (try cases h) <;> (try simp [nShown, hz]) <;> (try (have h1 := upTo_le h; simp [nShown] at h1; omega))
theorem markP_le {l : List Op7} {a b : Int} {k : Nat} (h : markP l a b = some k) : k ≤ nShown (lfs l (standL l)) := by
  unfold markP at h
  split at h
  · rename_i ho
    unfold placeM at h
    split at h
    · cases h; omega
    · have h1 := upTo_le h
      have h2 : standL l = allO l := by unfold standL; rw [ho]; rfl
      rw [h2]; omega
  · cases h
end Go.Proofs.YtjadkhejdbdpoaaDoor

namespace Go.Proofs.YtjadkhejdbdpoaaDoor
open Go.RowKit Go.Shelf
set_option linter.unusedSimpArgs false
set_option linter.unusedVariables false
attribute [local go_sem] Oper.semAt_some

/-- A block of one's own stays, whatever the walk does with its records. -/
theorem own_blk {β : Type} (B b : Nat) (f : β → Array Value) (T : TypeId) : OwnFrom B (fun s W => W.heap[b]? = some (.cells (f s) T (0, 0))) := by
  intro s A B' row hx hg hr
  exact (hg.block b (Array.getElem?_eq_some_iff.1 hx).1 (fun e => by obtain ⟨_, o, ho, hc⟩ := hr b e.symm; rw [hx] at ho; cases ho; cases hc)).trans hx
theorem blk_below {W W' : World} {b : Nat} {o : Obj} (h : W.heap[b]? = some o) (hb : Below W.heap.size W W') : W'.heap[b]? = some o := (hb.block b (Array.getElem?_eq_some_iff.1 h).1).trans h
theorem blk_set {W : World} {b c : Nat} {o : Obj} {u : Value} (h : W.heap[b]? = some o) (hne : b ≠ c) : (W.setCell ⟨c, 0, none⟩ u).heap[b]? = some o :=
  ((grownBy_setCell' W c u).block b (Array.getElem?_eq_some_iff.1 h).1 (fun e => hne (by cases e; rfl))).trans h

theorem cell_put {W : World} {b c i : Nat} (o : Obj) (h : b ≠ c) : (W.putObj c o).cell? ⟨b, i, none⟩ = W.cell? ⟨b, i, none⟩ := by
  simp [World.cell?, World.putObj_heap_other h]
/-- Five blocks that were laid one behind the other. -/
theorem all5 (w : World) (o0 o1 o2 o3 o4 : Obj) (k : Nat) (hk : k < 5) : (((((w.alloc o0).alloc o1).alloc o2).alloc o3).alloc o4).heap[w.heap.size + k]? = [o0, o1, o2, o3, o4][k]? := by
  have e : (((((w.alloc o0).alloc o1).alloc o2).alloc o3).alloc o4).heap = ((((w.heap.push o0).push o1).push o2).push o3).push o4 := rfl
  rw [e]
  have : k = 0 ∨ k = 1 ∨ k = 2 ∨ k = 3 ∨ k = 4 := by omega
  rcases this with rfl | rfl | rfl | rfl | rfl <;> simp [Array.getElem?_push, Array.getElem_push, Nat.add_assoc]

set_option maxHeartbeats 1000000 in
theorem shows_any (a b g : Int) (z : Bool) (w : World) :
    Calls Tryd.prog 67 #[.agg #[.int .i64 a, .int .i64 b, .int .i64 g, .bool z]] w fun e w' => e = .returned (.bool !z) ∧ Below w.heap.size w w' := by
  go_enter Tryd.func67, Tryd.ntmps67
  go_wp2
  go_ret
  exact ⟨rfl, by go_grown⟩

/-- The boxes of countUpTo: the mark, what counts, what was counted, and what is to be answered. -/
structure CI (S S1 S2 S3 S4 Qm : Nat) (a b k r : Int) (w W : World) : Prop where
  q : W.heap[Qm]? = some (.cells #[.int .i64 k] 3 (0, 0))
  mrk : W.heap[S1]? = some (.cells #[.int .i64 a, .int .i64 b] 27 (0, 0))
  fn : W.heap[S2]? = some (.cells #[.func (.func 67) #[] #[]] 106 (0, 0))
  r3 : W.heap[S3]? = some (.cells #[.int .i64 r] 3 (0, 0))
  r4 : W.heap[S4]? = some (.cells #[.nilIface] 71 (0, 0))
  bel : Below S w W
theorem CI.below {S S1 S2 S3 S4 Qm : Nat} {a b k r : Int} {w W W' : World} (h : CI S S1 S2 S3 S4 Qm a b k r w W) (hS : S ≤ S1) (hb : Below W.heap.size W W') : CI S S1 S2 S3 S4 Qm a b k r w W' :=
  ⟨blk_below h.q hb, blk_below h.mrk hb, blk_below h.fn hb, blk_below h.r3 hb, blk_below h.r4 hb, h.bel.trans (hb.mono (by have := (Array.getElem?_eq_some_iff.1 h.mrk).1; omega))⟩
theorem CI.own {β : Type} {S S1 S2 S3 S4 Qm B : Nat} {a b : Int} (k r : β → Int) {w : World} (hS : S ≤ w.heap.size) (hB : S ≤ B) : OwnFrom B (fun (s : β) W => CI S S1 S2 S3 S4 Qm a b (k s) (r s) w W) := by
  intro s A B' row hx hg hr
  exact ⟨own_blk B Qm (fun s : β => #[.int .i64 (k s)]) _ s A B' row hx.q hg hr, own_blk B S1 (fun _ : β => #[.int .i64 a, .int .i64 b]) _ s A B' row hx.mrk hg hr, own_blk B S2 (fun _ : β => #[.func (.func 67) #[] #[]]) _ s A B' row hx.fn hg hr,
    own_blk B S3 (fun s : β => #[.int .i64 (r s)]) _ s A B' row hx.r3 hg hr, own_blk B S4 (fun _ : β => #[.nilIface]) _ s A B' row hx.r4 hg hr, ownFrom_below (β := β) hS hB s A B' row hx.bel hg hr⟩
theorem CI.setQ {S S1 S2 S3 S4 Qm : Nat} {a b k r : Int} {w W : World} (h : CI S S1 S2 S3 S4 Qm a b k r w W) (h1 : S ≤ Qm) (h2 : S1 < Qm) (h3 : S2 < Qm) (h4 : S3 < Qm) (h5 : S4 < Qm) (k' : Int) : CI S S1 S2 S3 S4 Qm a b k' r w (W.setCell ⟨Qm, 0, none⟩ (.int .i64 k')) :=
  ⟨Boxed.set _ h.q, blk_set h.mrk (by omega), blk_set h.fn (by omega), blk_set h.r3 (by omega), blk_set h.r4 (by omega), h.bel.setCell (p := ⟨Qm, 0, none⟩) h1 _⟩
theorem CI.setR {S S1 S2 S3 S4 Qm : Nat} {a b k r : Int} {w W : World} (h : CI S S1 S2 S3 S4 Qm a b k r w W) (h1 : S ≤ S3) (h2 : S1 < S3) (h3 : S2 < S3) (h4 : S3 < Qm) (h5 : S3 < S4) (r' : Int) : CI S S1 S2 S3 S4 Qm a b k r' w (W.setCell ⟨S3, 0, none⟩ (.int .i64 r')) :=
  ⟨blk_set h.q (by omega), blk_set h.mrk (by omega), blk_set h.fn (by omega), Boxed.set _ h.r3, blk_set h.r4 (by omega), h.bel.setCell (p := ⟨S3, 0, none⟩) h1 _⟩
theorem CI.setE {S S1 S2 S3 S4 Qm : Nat} {a b k r : Int} {w W : World} (h : CI S S1 S2 S3 S4 Qm a b k r w W) (h1 : S ≤ S4) (h2 : S1 < S4) (h3 : S2 < S4) (h4 : S4 < Qm) (h5 : S3 < S4) : CI S S1 S2 S3 S4 Qm a b k r w (W.setCell ⟨S4, 0, none⟩ .nilIface) :=
  ⟨blk_set h.q (by omega), blk_set h.mrk (by omega), blk_set h.fn (by omega), blk_set h.r3 (by omega), Boxed.set _ h.r4, h.bel.setCell (p := ⟨S4, 0, none⟩) h1 _⟩

set_option maxRecDepth 100000 in
set_option maxHeartbeats 2000000 in
theorem countUp_in (l : List Op7) (hops : opsB l = true) (hn : l.length ≤ 1048576) (w0 : World) (b1 b2 b3 base : Nat) (hT : TreeAt w0 b1 b2 b3 base l) (n : Nat) (h3 : 3 ≤ n) (a b : Int) (x : Addr) (w : World) (hW : Below w0.heap.size w0 w)
    (he : w.cell? ⟨0, 0, none⟩ = some (.iface 164 (.pointer (some x)))) (h0 : 0 < w.heap.size) :
    CallsIn Fence.wide n Tryd.prog 66 #[.agg #[.map (some b1), .map (some b2), .map (some b3)], .agg #[.int .i64 a, .int .i64 b], .func (.func 67) #[] #[]] w fun e w' =>
      ((∃ k, placeM l a b = some k ∧ e = .returned (.tuple #[.int .i64 (k : Nat), .nilIface])) ∨ (placeM l a b = none ∧ e = .returned (.tuple #[.int .i64 0, .iface 164 (.pointer (some x))]))) ∧ Below w.heap.size w w' := by
  have h1 : 1 ≤ n := by omega
  have HW := hideIt hW
  have HTT := hideIt hT
  have HO := hideIt hops
  clear hW hT hops
  refine callsIn_of_wp_marks Tryd.func66 rfl trivial ?_ rfl
  simp only [Tryd.ntmps66, List.size_toArray, List.length_cons, List.length_nil, Nat.reduceAdd, Nat.reduceSub, Array.replicate_succ, Array.replicate_zero, List.push_toArray, List.append_toArray, List.nil_append, List.cons_append]
  gi_wp2
  refine ⟨trivial, ?_⟩
  have A5 : Hid (∃ W5, (((((w.alloc (.cells #[.map (some b1), .map (some b2), .map (some b3)] 81)).alloc (.cells #[.int .i64 a, .int .i64 b] 27)).alloc (.cells #[.func (.func 67) #[] #[]] 106)).alloc (.cells #[.int .i64 0] 3)).alloc (.cells #[.nilIface] 71)) = W5 ∧
      W5.heap[w.heap.size]? = some (.cells #[.map (some b1), .map (some b2), .map (some b3)] 81 (0, 0)) ∧ (W5.heap[w.heap.size + 1]? = some (.cells #[.int .i64 a, .int .i64 b] 27 (0, 0)) ∧ W5.heap[w.heap.size + 2]? = some (.cells #[.func (.func 67) #[] #[]] 106 (0, 0)) ∧ Below w.heap.size w W5) ∧ W5.heap[w.heap.size + 3]? = some (.cells #[.int .i64 0] 3 (0, 0)) ∧ W5.heap[w.heap.size + 4]? = some (.cells #[.nilIface] 71 (0, 0)) ∧ W5.heap.size = w.heap.size + 5) := by
    refine ⟨_, rfl, ?_, ⟨?_, ?_, ?_⟩, ?_, ?_, by simp⟩
    · exact all5 w _ _ _ _ _ 0 (by omega)
    · exact all5 w _ _ _ _ _ 1 (by omega)
    · exact all5 w _ _ _ _ _ 2 (by omega)
    · exact (((((Below.refl _ _).alloc (Nat.le_refl _) _).alloc (by simp) _).alloc (by simp; omega) _).alloc (by simp; omega) _).alloc (by simp; omega) _
    · exact all5 w _ _ _ _ _ 3 (by omega)
    · exact all5 w _ _ _ _ _ 4 (by omega)
  obtain ⟨W5, hW5, ht5, ⟨hm5, hf5, hb5⟩, hr5, hs5, hz5⟩ := A5.out
  rw [hW5]
  refine (callsIn_wide.2 (isNothing_any a b _)).mono ?_
  rintro e w1 ⟨rfl, hb1⟩
  have HM1 := hideIt (blk_below hm5 hb1)
  have HF1 := hideIt (blk_below hf5 hb1)
  have hB1 := Bstep hb5 hb1
  have ht1 := blk_below ht5 hb1
  have hr1 := blk_below hr5 hb1
  have hs1 := blk_below hs5 hb1
  have HS1 := hideIt hs1
  have HR1 := hideIt hr1
  have HT1 := hideIt ht1
  have hsz : w.heap.size + 5 ≤ w1.heap.size := by rw [← hz5]; exact hb1.size
  have ct0 := (blk_cell ht1 0).trans rfl
  have ct1 := (blk_cell ht1 1).trans rfl
  have ct2 := (blk_cell ht1 2).trans rfl
  have cr0 := (blk_cell hr1 0).trans rfl
  have cs0 := (blk_cell hs1 0).trans rfl
  have fr0 : w1.frozen? ⟨w.heap.size + 3, 0, none⟩ = false := by simp [World.frozen?, hr1]
  have fs0 : w1.frozen? ⟨w.heap.size + 4, 0, none⟩ = false := by simp [World.frozen?, hs1]
  have HBW := hideIt hB1
  have herr1 : w1.cell? ⟨0, 0, none⟩ = some (.iface 164 (.pointer (some x))) := errB hB1 h0 he
  have HN0 : Hid (w0.heap.size ≤ w.heap.size) := HW.out.size
  have HWB := hideIt (HW.out.trans (hB1.mono HW.out.size))
  have HERR := hideIt he
  clear hb1 ht5 hm5 hf5 hb5 hr5 hs5 hz5 A5 hW5 ht1 hr1 hs1 hB1 he
  have g0 : w.heap.size < w1.heap.size := by omega
  have g1 : w.heap.size + 1 < w1.heap.size := by omega
  have g2 : w.heap.size + 1 + 1 < w1.heap.size := by omega
  have g3 : w.heap.size + 1 + 1 + 1 < w1.heap.size := by omega
  have g4 : w.heap.size + 1 + 1 + 1 + 1 < w1.heap.size := by omega
  have n34 : w.heap.size + 1 + 1 + 1 ≠ w.heap.size + 1 + 1 + 1 + 1 := by omega
  by_cases hz : a = 0 ∧ b = 0
  · have HP : Hid (placeM l a b = some 0) := by show placeM l a b = _; unfold placeM; rw [if_pos hz]
    rw [decide_eq_true hz]
    clear hz
    gi_wp2
    exact ⟨.tuple #[.int .i64 0, .nilIface], by simp [results, Tryd.results66, go_sem, cr0, cs0, n34], .inl ⟨0, HP.out, rfl⟩, (HBW.out.setCell (p := ⟨w.heap.size + 1 + 1 + 1, 0, none⟩) (by show w.heap.size ≤ w.heap.size + 1 + 1 + 1; omega) _).setCell (p := ⟨w.heap.size + 1 + 1 + 1 + 1, 0, none⟩) (by show w.heap.size ≤ w.heap.size + 1 + 1 + 1 + 1; omega) _⟩
  · have HP : Hid (placeM l a b = upTo a b (lfs l (allO l)) 0) := by show placeM l a b = _; unfold placeM; rw [if_neg hz]
    rw [decide_eq_false hz]
    clear hz
    gi_wp2
    refine ⟨trivial, ?_⟩
    refine (callsIn_wide.2 (leaves_any _ _ _ _ ⟨rfl, rfl, rfl⟩ b1 b2 b3 ⟨rfl, rfl, rfl⟩)).mono ?_
    rintro e w2 ⟨rfl, rfl⟩
    gi_wp2
    obtain ⟨Wb, hWb⟩ : ∃ Wb, ((w1.alloc (.cells #[.int .i64 0] 3)).alloc (.cells #[.map (some b1), .map (some b2), .map (some b3)] 81)) = Wb := ⟨_, rfl⟩
    have hsb : Wb.heap.size = w1.heap.size + 1 + 1 := by rw [← hWb]; simp
    have hBw : Below w1.heap.size w1 Wb := by rw [← hWb]; exact ((Below.refl _ _).alloc (Nat.le_refl _) _).alloc (by simp) _
    have hbox : Wb.heap[w1.heap.size]? = some (.cells #[.int .i64 0] 3 (0, 0)) := by rw [← hWb]; exact (Below.heap_alloc _ _ _ (by simp)).trans (World.alloc_heap_new _ _)
    have hblk : Wb.heap[w1.heap.size + 1]? = some (.cells #[.map (some b1), .map (some b2), .map (some b3)] 81 (0, 0)) := by
      rw [← hWb]
      have h := World.alloc_heap_new (w1.alloc (.cells #[.int .i64 0] 3)) (.cells #[.map (some b1), .map (some b2), .map (some b3)] 81)
      rw [World.size_alloc] at h
      exact h
    rw [hWb]
    have HCI : Hid (CI w.heap.size (w.heap.size + 1) (w.heap.size + 1 + 1) (w.heap.size + 1 + 1 + 1) (w.heap.size + 1 + 1 + 1 + 1) w1.heap.size a b 0 0 w Wb) := ⟨hbox, blk_below HM1.out hBw, blk_below HF1.out hBw, blk_below HR1.out hBw, blk_below HS1.out hBw, Bstep HBW.out hBw⟩
    have HSQ := hideIt (leaves_stops l HO.out hn w0 b1 b2 b3 base HTT.out (n - 1) (w1.heap.size + 1) Wb (HWB.out.trans (hBw.mono HWB.out.size)) hblk)
    have hlen : (allO l).length ≤ 1048576 := Nat.le_trans (all_len HO.out) hn
    have hn0 := HN0.out
    have HE0 : Hid (∀ W, Below w.heap.size w W → W.cell? ⟨0, 0, none⟩ = some (.iface 164 (.pointer (some x)))) := fun W h => errB h h0 HERR.out
    clear HTT HT1 HS1 HR1 HM1 HF1 HBW HWB hbox hblk hWb ct0 ct1 ct2 cr0 cs0 fr0 fs0 herr1 hBw g0 g1 g2 g3 g4 n34 HW
    generalize hBt : w1.heap.size + 1 = Bt at *
    generalize hQm : w1.heap.size = Qm at *
    generalize hS1 : w.heap.size + 1 = S1 at *
    generalize hS2 : S1 + 1 = S2 at *
    generalize hS3 : S2 + 1 = S3 at *
    generalize hS4 : S3 + 1 = S4 at *
    generalize hS : w.heap.size = S at *
    refine wpIn_rangeFunc_ownH rfl h1 (gf := 84) (lb := #[.pointer (some ⟨Bt, 0, none⟩)]) rfl trivial (enters_of Tryd.func84 (by kernel_rfl) rfl) HSQ.out
      (fun h k => h.trans k) (kpT_b (by omega)) (Below.refl _ _) (fun _ => rfl)
      (fun pre W => CI S S1 S2 S3 S4 Qm a b (nShown pre : Nat) 0 w W ∧ freeOf pre a b)
      (fun c pre W => CI S S1 S2 S3 S4 Qm a b (nShown pre : Nat) (nShown pre : Nat) w W ∧ (c = .ret ∧ ∃ p y, pre = p ++ [y] ∧ freeOf p a b ∧ y.a = a ∧ y.b = b))
      (OwnFrom.and (CI.own (fun pre : List Lf => ((nShown pre : Nat) : Int)) (fun _ => 0) (by omega) (by omega)) (ownFrom_pure _ _))
      (fun c => OwnFrom.and (CI.own (fun pre : List Lf => ((nShown pre : Nat) : Int)) (fun pre : List Lf => ((nShown pre : Nat) : Int)) (by omega) (by omega)) (ownFrom_pure _ (fun pre : List Lf => c = .ret ∧ ∃ p y, pre = p ++ [y] ∧ freeOf p a b ∧ y.a = a ∧ y.b = b)))
      ⟨HCI.out, freeOf_nil _ _⟩
      (fun x' a' W => ∃ Bx, Qm + 1 ≤ Bx ∧ W.heap[Bx]? = some (.cells #[.int .i64 x'.a, .int .i64 x'.b, .int .i64 x'.g, .bool x'.z] 44 (0, 0)) ∧ a' =
        { tmps := #[Value.agg #[Value.map (some b1), Value.map (some b2), Value.map (some b3)],
          Value.agg #[Value.int IntKind.i64 a, Value.int IntKind.i64 b], Value.func (Fn.func 67) #[] #[],
          Value.pointer (some { block := S, off := 0 }),
          Value.pointer (some { block := S1, off := 0 }),
          Value.pointer (some { block := S2, off := 0 }),
          Value.pointer (some { block := S3, off := 0 }),
          Value.pointer (some { block := S4, off := 0 }),
          Value.pointer (some { block := Qm, off := 0 }), Value.pointer (some { block := Bx, off := 0 }),
          Value.agg #[Value.int IntKind.i64 a, Value.int IntKind.i64 b], Value.bool false,
          Value.agg #[Value.map (some b1), Value.map (some b2), Value.map (some b3)],
          Value.func (Fn.func 84) #[] #[Value.pointer (some { block := Bt, off := 0 })], lfV x', undef,
          undef, undef, undef, undef, undef, undef, undef, undef, undef, undef], defers := [] })
      ?hAx ?assign ?body ?done ?stop
    case hAx =>
      rintro x' a' _ A B row ⟨Bx, hb, hx, ha⟩ hg hr
      exact ⟨Bx, hb, (hg.block Bx (Array.getElem?_eq_some_iff.1 hx).1 (fun e => by obtain ⟨_, o, ho, hc⟩ := hr Bx e.symm; rw [hx] at ho; cases ho; cases hc)).trans hx, ha⟩
    case assign =>
      rintro lp pre x' W K ⟨hci, hfr⟩ hK
      have hsW : S ≤ W.heap.size := by have := hci.bel.size; omega
      have hQW := (Array.getElem?_eq_some_iff.1 hci.q).1
      unfold lfV
      gi_wp2
      exact hK _ _ ((KeepsOthers.alloc _ _).from _) (KpT.of_below (by omega) ((Below.refl _ _).alloc (Nat.le_refl _) _)) ⟨hci.below (by omega) ((Below.refl _ _).alloc (Nat.le_refl _) _), hfr⟩ ⟨W.heap.size, by omega, World.alloc_heap_new _ _, rfl⟩
    case body =>
      rintro lp pre x' a' W hl ⟨rr, hr⟩ ⟨hci, hfr⟩ ⟨Bx, hbx, hx, rfl⟩ hlt
      have HCW := hideIt hci
      have HX := hideIt hx
      have HFR := hideIt hfr
      have x0 := (blk_cell hx 0).trans rfl
      have x1 := (blk_cell hx 1).trans rfl
      have x2 := (blk_cell hx 2).trans rfl
      have x3 := (blk_cell hx 3).trans rfl
      have f2 := (blk_cell hci.fn 0).trans rfl
      have hgone : Hid (x'.z = true → nShown (pre ++ [x']) = nShown pre) := nShown_gone
      have hthere : Hid (x'.z = false → nShown (pre ++ [x']) = nShown pre + 1) := nShown_there
      have hyes : Hid (x'.a = a → x'.b = b → ∃ p y, pre ++ [x'] = p ++ [y] ∧ freeOf p a b ∧ y.a = a ∧ y.b = b) := fun h1 h2 => ⟨pre, x', rfl, hfr, h1, h2⟩
      have hno : Hid (¬ (x'.a = a ∧ x'.b = b) → freeOf (pre ++ [x']) a b) := fun h => freeOf_more hfr h
      have hsl : nShown pre ≤ 1048576 := Nat.le_trans (nShown_le _) (by omega)
      have hsW : S ≤ W.heap.size := by have := hci.bel.size; omega
      clear hr hx hci hfr
      generalize x'.a = xa at *
      generalize x'.b = xb at *
      generalize x'.g = xg at *
      generalize x'.z = xz at *
      generalize hns : nShown pre = ns at *
      have nbq : ¬ Bx = Qm := by omega
      have n1q : ¬ S1 = Qm := by omega
      have n3q : ¬ S3 = Qm := by omega
      have n4q : ¬ S4 = Qm := by omega
      have n34 : ¬ S4 = S3 := by omega
      have nq3 : ¬ Qm = S3 := by omega
      have hlen' : ns < 1048577 := by omega
      cases xz
      all_goals
        gi_wp2
        refine ⟨trivial, (fun h => by cases h), ?_⟩
        refine ((callsIn_wide.2 (shows_any xa xb xg _ W)).inRound lp).mono ?_
        rintro e W2 ⟨rfl, hb2⟩
        have hci2 := HCW.out.below (by omega) hb2
        have HC2 := hideIt hci2
        have hx2 := blk_below HX.out hb2
        have HK2 : Hid (KeepsOthers W W2) := ⟨hb2.size, fun k o h _ => blk_below h hb2⟩
        have HP2 := hideIt (KpT.of_below (n0 := w0.heap.size) (by omega) hb2)
        have hs2 : w0.heap.size ≤ W2.heap.size := Nat.le_trans (by omega) hb2.size
        have y0 := (blk_cell hx2 0).trans rfl
        have y1 := (blk_cell hx2 1).trans rfl
        have m0 := (blk_cell hci2.mrk 0).trans rfl
        have m1 := (blk_cell hci2.mrk 1).trans rfl
        have q0 := (blk_cell hci2.q 0).trans rfl
        have t0 := (blk_cell hci2.r3 0).trans rfl
        have u0 := (blk_cell hci2.r4 0).trans rfl
        have fq : W2.frozen? ⟨Qm, 0, none⟩ = false := by simp [World.frozen?, hci2.q]
        have f3 : W2.frozen? ⟨S3, 0, none⟩ = false := by simp [World.frozen?, hci2.r3]
        have f4 : W2.frozen? ⟨S4, 0, none⟩ = false := by simp [World.frozen?, hci2.r4]
        clear x0 x1 x2 x3 f2 hci2 hx2 hb2
      · have HT := hideIt (hthere.out (by first | rfl | trivial))
        have HQ := hideIt (HC2.out.setQ (by omega) (by omega) (by omega) (by omega) (by omega) ((ns : Int) + 1))
        have HPQ : Hid (KpT w0.heap.size W (W2.setCell ⟨Qm, 0, none⟩ (.int .i64 ((ns : Int) + 1)))) := HP2.out.trans (kpT_row hs2 (grownBy_setCell' _ _ _) (fun j e => by cases e; exact ⟨by omega, _, _, _, HC2.out.q, by decide⟩))
        have HKQ : Hid (KeepsOthers W (W2.setCell ⟨Qm, 0, none⟩ (.int .i64 ((ns : Int) + 1)))) := HK2.out.trans (KeepsOthers.setCell _ _ _)
        by_cases hab : xa = a ∧ xb = b
        · have HY := hideIt (hyes.out hab.1 hab.2)
          obtain ⟨rfl, rfl⟩ := hab
          clear hyes hno hthere hgone
          gi_wp2
          exact ⟨((HKQ.out.trans (KeepsOthers.setCell _ _ _)).trans (KeepsOthers.setCell _ _ _)).from _, by rw [HT.out]; push_cast; exact (HQ.out.setR (by omega) (by omega) (by omega) (by omega) (by omega) _).setE (by omega) (by omega) (by omega) (by omega) (by omega), rfl, HY.out⟩
        · have HN := hideIt (hno.out hab)
          clear hyes hno hthere hgone
          by_cases hxa : xa = a
          · subst hxa
            have hxb : ¬ xb = b := by omega
            clear hab
            gi_wp2
            exact ⟨HKQ.out.from _, HPQ.out, by rw [HT.out]; push_cast; exact HQ.out, HN.out⟩
          · clear hab
            gi_wp2
            exact ⟨HKQ.out.from _, HPQ.out, by rw [HT.out]; push_cast; exact HQ.out, HN.out⟩
      · have HT := hideIt (hgone.out (by first | rfl | trivial))
        by_cases hab : xa = a ∧ xb = b
        · have HY := hideIt (hyes.out hab.1 hab.2)
          obtain ⟨rfl, rfl⟩ := hab
          clear hyes hno hthere hgone
          gi_wp2
          exact ⟨((HK2.out.trans (KeepsOthers.setCell _ _ _)).trans (KeepsOthers.setCell _ _ _)).from _, by rw [HT.out]; exact (HC2.out.setR (by omega) (by omega) (by omega) (by omega) (by omega) _).setE (by omega) (by omega) (by omega) (by omega) (by omega), rfl, HY.out⟩
        · have HN := hideIt (hno.out hab)
          clear hyes hno hthere hgone
          by_cases hxa : xa = a
          · subst hxa
            have hxb : ¬ xb = b := by omega
            clear hab
            gi_wp2
            exact ⟨HK2.out.from _, HP2.out, by rw [HT.out]; exact HC2.out, HN.out⟩
          · clear hab
            gi_wp2
            exact ⟨HK2.out.from _, HP2.out, by rw [HT.out]; exact HC2.out, HN.out⟩
    case done =>
      rintro D ys W hD rfl ⟨hci, hfr⟩ hK
      have HNO : Hid (placeM l a b = none) := by show placeM l a b = none; rw [HP.out]; exact upTo_free hfr
      have he0 := HE0.out W hci.bel
      have HCI2 := hideIt hci
      have t0 := (blk_cell hci.r3 0).trans rfl
      have u0 := (blk_cell hci.r4 0).trans rfl
      have f3 : W.frozen? ⟨S3, 0, none⟩ = false := by simp [World.frozen?, hci.r3]
      have f4 : W.frozen? ⟨S4, 0, none⟩ = false := by simp [World.frozen?, hci.r4]
      have n34 : ¬ S4 = S3 := by omega
      have n43 : ¬ S3 = S4 := by omega
      have hDS : S4 < D := by omega
      have n0 : ¬ 0 = S3 := by omega
      have n0' : ¬ 0 = S4 := by omega
      have n03 : ¬ S3 = 0 := by omega
      have n04 : ¬ S4 = 0 := by omega
      clear hfr hci
      gi_wp2
      refine wpIn_wide.2 ?_
      go_region_held3 (fun w' => w'.cell? ⟨0, 0, none⟩ = some (.iface 164 (.pointer (some x)))) (first | exact he0 | (simp [go_sem, he0, n0, n0', n03, n04])) (fail)
      gi_wp2
      have HZ := HCI2.out.setR (by omega) (by omega) (by omega) (by omega) (by omega) 0
      obtain ⟨WZ, hWZ⟩ : ∃ WZ, ((W.setCell ⟨S3, 0, none⟩ (.int .i64 0)).setCell ⟨S4, 0, none⟩ (.iface 164 (.pointer (some x)))).drew = WZ := ⟨_, rfl⟩
      rw [hWZ]
      have z3 : WZ.heap[S3]? = some (.cells #[.int .i64 0] 3 (0, 0)) := by rw [← hWZ]; exact blk_set HZ.r3 n43
      have z4 : WZ.heap[S4]? = some (.cells #[.iface 164 (.pointer (some x))] 71 (0, 0)) := by rw [← hWZ]; exact Boxed.set _ HZ.r4
      have zK : WZ.heap[D]? = some (.deferred (some [])) := by rw [← hWZ]; exact blk_set (blk_set hK (by omega)) (by omega)
      have zB : Below S w WZ := by rw [← hWZ]; exact (HZ.bel.setCell (p := ⟨S4, 0, none⟩) (by show S ≤ S4; omega) _).drew
      clear hWZ
      refine ⟨by simp, .inl ⟨_, _, rfl, run_takeDeferred zK, ?_⟩⟩
      have v0 : (WZ.putObj D (.deferred none)).cell? ⟨S3, 0, none⟩ = some (.int .i64 0) := (cell_put _ (by omega)).trans ((blk_cell z3 0).trans rfl)
      have v1 : (WZ.putObj D (.deferred none)).cell? ⟨S4, 0, none⟩ = some (.iface 164 (.pointer (some x))) := (cell_put _ (by omega)).trans ((blk_cell z4 0).trans rfl)
      exact ⟨.tuple #[.int .i64 0, .iface 164 (.pointer (some x))], by simp [results, Tryd.results66, go_sem, v0, v1], .inr ⟨HNO.out, rfl⟩, hS.symm ▸ zB.trans (belowK_b (w := Wb) (by omega) WZ D _ _ (by omega) zK rfl rfl)⟩
    case stop =>
      rintro D c pre W hD ⟨t, ht⟩ ⟨hci, rfl, p, y, rfl, hfr, ha, hb⟩ hK
      have HYES : Hid (placeM l a b = some (nShown (p ++ [y]))) := by show placeM l a b = _; rw [HP.out, ← ht, List.append_assoc, List.singleton_append, upTo_at hfr ha hb, Nat.zero_add]
      have HCI2 := hideIt hci
      have t0 := (blk_cell hci.r3 0).trans rfl
      have u0 := (blk_cell hci.r4 0).trans rfl
      clear hfr hci ht
      gi_wp2
      refine ⟨by simp, .inl ⟨_, _, rfl, run_takeDeferred hK, ?_⟩⟩
      have v0 : (W.putObj D (.deferred none)).cell? ⟨S3, 0, none⟩ = some (.int .i64 (nShown (p ++ [y]) : Nat)) := (cell_put _ (by omega)).trans t0
      have v1 : (W.putObj D (.deferred none)).cell? ⟨S4, 0, none⟩ = some .nilIface := (cell_put _ (by omega)).trans u0
      exact ⟨.tuple #[.int .i64 (nShown (p ++ [y]) : Nat), .nilIface], by simp [results, Tryd.results66, go_sem, v0, v1], .inl ⟨_, HYES.out, rfl⟩, hS.symm ▸ HCI2.out.bel.trans (belowK_b (w := Wb) (by omega) W D _ _ (by omega) hK rfl rfl)⟩
end Go.Proofs.YtjadkhejdbdpoaaDoor

namespace Go.Proofs.YtjadkhejdbdpoaaDoor
open Go.RowKit Go.Shelf
set_option linter.unusedSimpArgs false
set_option linter.unusedVariables false
attribute [local go_sem] Oper.semAt_some

theorem infoU8 : (Tryd.prog.info? 5).map (fun i => (i.zero, i.size, i.bytes)) = some (some (.int .u8 0), 1, 1) := by kernel_rfl

/-- A row of bytes, as a text. -/
theorem conv_row {W : World} {base : Nat} {v : Value} {gs : List Int} (h : W.ownsRow base 5 1 v gs.length (gs.map (.int .u8))) : (convert 22 9 v).run Tryd.prog W = .ok (.string (txtB gs)) W := by
  have hat : ∀ j, j < gs.length * 1 → ∀ g c, v = .slice (some ⟨g, 0, none⟩) gs.length c → W.cell? ⟨g, j, none⟩ = (gs.map (Value.int .u8))[j]? := fun j hj g c e => by subst e; exact h.cellAt j hj
  rcases h.2 with ⟨rfl, h0⟩ | ⟨g, c, cur, rfl, _⟩
  · rw [run_convert_bytes_nil (P := Tryd.prog) W 22 5 Tryd.underlying22 Tryd.underlying5 0 0 9 Tryd.underlying9]
    cases gs with
    | nil => rfl
    | cons a t => simp at h0
  · rw [run_convert_bytes_arg (P := Tryd.prog) W 22 5 Tryd.underlying22 Tryd.underlying5 g 0 gs.length c gs rfl (fun i hi => by
      rw [Nat.zero_add, hat i (by omega) g c rfl]
      simp [List.getD, hi]) 9 Tryd.underlying9]
    rfl

set_option maxRecDepth 100000 in
set_option maxHeartbeats 2000000 in
theorem implTxt_in (l : List Op7) (g cap n : Nat) (h3 : 3 ≤ n) (x : Addr) (w : World) (hl : OpsAt w g l) (hn : l.length ≤ 1048576) (hcap : l.length ≤ cap)
    (he : w.cell? ⟨0, 0, none⟩ = some (.iface 164 (.pointer (some x)))) (h0 : 0 < w.heap.size) :
    CallsIn Fence.wide n Tryd.prog 19 #[.slice (some ⟨g, 0, none⟩) l.length cap] w fun e w' => e = .returned (.string (txtB (shown (lfs l (standL l))))) ∧ Below w.heap.size w w' := by
  have HL := hideIt hl
  have h1 : 1 ≤ n := by omega
  clear hl
  refine callsIn_of_wp_marks Tryd.func19 rfl trivial ?_ rfl
  simp only [Tryd.ntmps19, List.size_toArray, List.length_cons, List.length_nil, Nat.reduceAdd, Nat.reduceSub, Array.replicate_succ, Array.replicate_zero, List.push_toArray, List.append_toArray, List.nil_append, List.cons_append]
  gi_wp2
  refine ⟨trivial, ?_⟩
  refine (callsIn_wide.2 (treeOf_any l g cap x _ HL.out hn hcap he h0)).mono ?_
  rintro e w1 ⟨(⟨ht, b1, b2, b3, base, rfl, hT⟩ | ⟨ht, rfl⟩), hb1⟩
  all_goals
    have HO := hideIt ht
    have HB1 := hideIt hb1
    have herr1 : w1.cell? ⟨0, 0, none⟩ = some (.iface 164 (.pointer (some x))) := errB HB1.out h0 he
    have hp1 : 0 < w1.heap.size := posB HB1.out h0
    clear ht hb1
  · have HTT := hideIt hT
    have HE : Hid (standL l = allO l) := by show standL l = allO l; unfold standL; rw [HO.out]; rfl
    clear hT
    gi_wp2
    refine ⟨trivial, ?_⟩
    refine (callsIn_wide.2 (is_nil x _)).mono ?_
    rintro e w'' ⟨rfl, rfl⟩
    gi_wp2
    refine ⟨trivial, ?_⟩
    refine (callsIn_wide.2 (leaves_any _ _ _ _ ⟨rfl, rfl, rfl⟩ b1 b2 b3 ⟨rfl, rfl, rfl⟩)).mono ?_
    rintro e w2 ⟨rfl, rfl⟩
    gi_wp2
    obtain ⟨Wb, hWb⟩ : ∃ Wb, (((w1.alloc (.cells #[.map (some b1), .map (some b2), .map (some b3)] 81)).alloc (.cells #[.slice none 0 0] 22)).alloc (.cells #[.map (some b1), .map (some b2), .map (some b3)] 81)) = Wb := ⟨_, rfl⟩
    have hsz : Wb.heap.size = w1.heap.size + 1 + 1 + 1 := by rw [← hWb]; simp
    have hBw : Below w1.heap.size w1 Wb := by rw [← hWb]; exact (((Below.refl _ _).alloc (Nat.le_refl _) _).alloc (by simp) _).alloc (by simp; omega) _
    have hbox : Boxed Wb (w1.heap.size + 1) 22 (.slice none 0 0) := by
      rw [← hWb]
      have h := Boxed.new (w1.alloc (.cells #[.map (some b1), .map (some b2), .map (some b3)] 81)) 22 (.slice none 0 0)
      rw [World.size_alloc] at h
      exact h.alloc _
    have hblk : Wb.heap[w1.heap.size + 1 + 1]? = some (.cells #[.map (some b1), .map (some b2), .map (some b3)] 81 (0, 0)) := by
      rw [← hWb]
      have h := World.alloc_heap_new ((w1.alloc (.cells #[.map (some b1), .map (some b2), .map (some b3)] 81)).alloc (.cells #[.slice none 0 0] 22)) (.cells #[.map (some b1), .map (some b2), .map (some b3)] 81)
      rw [World.size_alloc, World.size_alloc] at h
      exact h
    rw [hWb]
    have HSQ := hideIt (leaves_stops l HO.out hn w1 b1 b2 b3 base HTT.out (n - 1) (w1.heap.size + 1 + 1) Wb hBw hblk)
    have hlen : (allO l).length ≤ 1048576 := Nat.le_trans (all_len HO.out) hn
    obtain ⟨i0, hi, hz0, hz1, hz2⟩ := info_parts infoU8
    have HI1 := hideIt hi
    have HZ0 := hideIt hz0
    have HZ1 := hideIt hz1
    have HZ2 := hideIt hz2
    clear hi hz0 hz1 hz2 HTT HL hWb hblk he herr1
    generalize hBt : w1.heap.size + 1 + 1 = Bt at *
    generalize hQ : w1.heap.size + 1 = Q1 at *
    generalize hn1 : w1.heap.size = n1 at *
    refine wpIn_rangeFunc_ownH rfl h1 (gf := 84) (lb := #[.pointer (some ⟨Bt, 0, none⟩)]) rfl trivial (enters_of Tryd.func84 (by kernel_rfl) rfl) HSQ.out
      (fun h k => h.trans k) (kpT_b (by omega)) (Below.refl _ _) (fun _ => rfl)
      (fun pre W => (∃ v, Boxed W Q1 22 v ∧ W.ownsRow n1 5 1 v (shown pre).length ((shown pre).map (.int .u8)) ∧ True) ∧ Below n1 w1 W)
      (fun _ _ _ => False)
      (OwnFrom.and (Own.from (holdsRow_own n1 Q1 22 5 1 (fun pre : List Lf => (shown pre).length) (fun pre => (shown pre).map (.int .u8)) (fun _ _ => True)) _) (ownFrom_below (by omega) (by omega)))
      (fun _ _ _ _ _ hs _ _ => hs)
      ⟨⟨_, hbox, World.ownsRow_nil _ _ _ _, trivial⟩, hBw⟩
      (fun x' a' W => ∃ Bx, Q1 + 1 ≤ Bx ∧ W.heap[Bx]? = some (.cells #[.int .i64 x'.a, .int .i64 x'.b, .int .i64 x'.g, .bool x'.z] 44 (0, 0)) ∧ a' =
        { tmps := #[Value.slice (some { block := g, off := 0 }) l.length cap, undef, Value.string { data := #[] },
          Value.pointer (some { block := n1, off := 0 }), Value.nilIface,
          Value.pointer (some { block := Q1, off := 0 }), Value.pointer (some { block := Bx, off := 0 }),
          Value.tuple #[Value.agg #[Value.map (some b1), Value.map (some b2), Value.map (some b3)], Value.nilIface],
          Value.slice (some { block := g, off := 0 }) l.length cap,
          Value.tuple #[Value.agg #[Value.map (some b1), Value.map (some b2), Value.map (some b3)], Value.nilIface],
          Value.agg #[Value.map (some b1), Value.map (some b2), Value.map (some b3)], Value.nilIface, Value.nilIface,
          Value.iface 164 (Value.pointer (some x)), Value.bool false,
          Value.agg #[Value.map (some b1), Value.map (some b2), Value.map (some b3)],
          Value.func (Fn.func 84) #[] #[Value.pointer (some { block := Bt, off := 0 })], lfV x', undef,
          undef, undef, undef, undef, undef, undef, undef, undef, undef, undef], defers := [] })
      ?hAx ?assign ?body ?done ?stop
    case hAx =>
      rintro x' a' _ A B row ⟨Bx, hb, hx, ha⟩ hg hr
      exact ⟨Bx, hb, (hg.block Bx (Array.getElem?_eq_some_iff.1 hx).1 (fun e => by obtain ⟨_, o, ho, hc⟩ := hr Bx e.symm; rw [hx] at ho; cases ho; cases hc)).trans hx, ha⟩
    case assign =>
      rintro lp pre x' W K ⟨⟨v, bv, hrow, _⟩, hBl⟩ hK
      unfold lfV
      gi_wp2
      exact hK _ _ ((KeepsOthers.alloc _ _).from _) (KpT.of_below (by have := hBl.size; omega) ((Below.refl _ _).alloc (Nat.le_refl _) _)) ⟨⟨v, bv.alloc _, hrow.alloc _, trivial⟩, hBl.alloc (by have := hBl.size; omega) _⟩ ⟨W.heap.size, by have := bv.lt; omega, World.alloc_heap_new _ _, rfl⟩
    case body =>
      rintro lp pre x' a' W hl ⟨rr, hr⟩ ⟨⟨v, bv, hrow, _⟩, hBl⟩ ⟨Bx, hbx, hx, rfl⟩ hlt
      have hc := bv.cell
      have x0 := (blk_cell hx 0).trans rfl
      have x1 := (blk_cell hx 1).trans rfl
      have x2 := (blk_cell hx 2).trans rfl
      have x3 := (blk_cell hx 3).trans rfl
      have HRW := hideIt hrow
      have HBL := hideIt hBl
      have HBV := hideIt bv
      have hwl : n1 ≤ W.heap.size := by have := hBl.size; omega
      have hsl : (shown pre).length ≤ 1048576 := Nat.le_trans (shown_len _) (by omega)
      have hgone : Hid (x'.z = true → shown (pre ++ [x']) = shown pre) := shown_gone
      have hthere : Hid (x'.z = false → shown (pre ++ [x']) = shown pre ++ [x'.g % 256]) := shown_there
      have HX := hideIt hx
      clear hrow hBl hr hx
      generalize x'.a = xa at *
      generalize x'.b = xb at *
      generalize hxg : x'.g = xg at *
      generalize hxz : x'.z = xz at *
      cases xz
      · have hth := hideIt (hthere.out rfl)
        clear hgone hthere
        gi_wp2_with (first
          | (gi_at_builtin; refine wpListIn_append_own _ rfl _ _ 22 rfl n1 5 i0 _ 1 1 Tryd.underlying22 HI1.out HZ0.out HZ1.out HZ2.out rfl (by decide) _ _ _ rfl (HRW.out.alloc _) ⟨W.heap.size, 0, none⟩ 1 1 [.int .u8 (xg % 256)] rfl rfl (cells_new W [.int .u8 (xg % 256)] 5) (by intro u hu; simp at hu; subst hu; rfl) (by unfold maxLen; omega) (by omega) (by simp; omega) ?_; intro v' w2 hown' hgrow _; obtain ⟨g', cap', rfl⟩ := ownsRow_succ hown'; obtain ⟨hv1, hv2, hr2, hk2, hb2⟩ := HBV.out.appended (by decide) HRW.out hwl (by omega) hown' hgrow; have hc1 := hv1.cell; have hf1 := hv1.frozen;
              have HKP : Hid (KpT n1 W (w2.setCell ⟨Q1, 0, none⟩ (.slice (some ⟨g', 0, none⟩) ((shown pre).length + 1) cap'))) := (KpT.of_below (by omega) ((Below.refl _ _).alloc (Nat.le_refl _) _)).trans ((kpT_row (by simp; omega) hgrow (fun j e => ⟨(HRW.out.lt j e).1, own_type (HRW.out.alloc _) e (by decide)⟩)).trans (kpT_row (by have := hgrow.size; simp at this; omega) (grownBy_setCell' _ _ _) (fun j e => by cases e; exact ⟨by omega, _, _, _, hv1, by decide⟩)));
              have HV2 := hideIt hv2; have HR2 := hideIt hr2; have HK2 := hideIt hk2; have HB2 := hideIt hb2; clear hv2 hr2 hk2 hb2 hv1 hown' hgrow)
          | gi_in)
        exact ⟨HK2.out.from _, HKP.out, ⟨_, HV2.out, by rw [hth.out, List.length_append, List.map_append]; exact HR2.out, trivial⟩, HBL.out.trans HB2.out⟩
      · have hgo := hideIt (hgone.out rfl)
        clear hgone hthere
        gi_wp2
        exact ⟨(KeepsOthers.refl _).from _, KpT.refl _ _, ⟨_, HBV.out, by rw [hgo.out]; exact HRW.out, trivial⟩, HBL.out⟩
    case done =>
      rintro D ys W hD rfl ⟨⟨v, bv, hrow, _⟩, hBl⟩ hK
      have hc := bv.cell
      have hrow' := hrow
      rw [hsz] at hD
      have hcv : Hid (∀ v', v' = v → (convert 22 9 v').run Tryd.prog W = .ok (.string (txtB (shown (lfs l (allO l))))) W) := by
        show ∀ v', v' = v → _
        rintro _ rfl
        exact conv_row hrow
      rcases hrow.2 with ⟨rfl, hz⟩ | ⟨g', cap', cur', rfl, hrest⟩
      all_goals
        have kc := hcv.out _ rfl
        generalize hTT : txtB (shown (lfs l (allO l))) = TT at *
        gi_wp2
        refine ⟨by simp, .inl ⟨_, _, rfl, run_takeDeferred hK, ?_⟩⟩
        exact ⟨_, results_tmp rfl _ _ _, by rw [HE.out, hTT]; rfl, Bstep HB1.out (hn1.symm ▸ hBl.trans (belowK_b (w := Wb) (by omega) W D _ _ (by omega) hK rfl rfl))⟩
    case stop =>
      rintro D c pre W _ _ h _
      exact h.elim
  · have HE : Hid (standL l = []) := by show standL l = []; unfold standL; rw [HO.out]; rfl
    gi_wp2
    refine ⟨trivial, ?_⟩
    refine (callsIn_wide.2 (is_same x _)).mono ?_
    rintro e w'' ⟨rfl, rfl⟩
    gi_wp2
    rw [HE.out]
    exact ⟨_, results_tmp rfl _ _ _, rfl, HB1.out.alloc HB1.out.size _⟩
theorem implTxt_any (l : List Op7) (g cap : Nat) (x : Addr) (w : World) (hl : OpsAt w g l) (hn : l.length ≤ 1048576) (hcap : l.length ≤ cap)
    (he : w.cell? ⟨0, 0, none⟩ = some (.iface 164 (.pointer (some x)))) (h0 : 0 < w.heap.size) :
    Calls Tryd.prog 19 #[.slice (some ⟨g, 0, none⟩) l.length cap] w fun e w' => e = .returned (.string (txtB (shown (lfs l (standL l))))) ∧ Below w.heap.size w w' :=
  callsIn_wide.1 (implTxt_in l g cap 3 (Nat.le_refl _) x w hl hn hcap he h0)
end Go.Proofs.YtjadkhejdbdpoaaDoor
