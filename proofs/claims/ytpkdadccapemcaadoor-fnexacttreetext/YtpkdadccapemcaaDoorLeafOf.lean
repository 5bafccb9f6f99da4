/- The contract of the tree's leafOf; a look-up inside a fence. -/
import Derived.Test.YtpkdadccapemcaaDoorTreeOf
import Derived.Test.YtpkdadccapemcaaDoorGone
import Derived.Maps.OwnIn
namespace Go.Proofs.YtpkdadccapemcaaDoor
open Go.RowKit
set_option linter.unusedSimpArgs false
set_option linter.unusedVariables false
attribute [local go_sem ↓] Go.wp_at_zero Go.wp_at_succ

set_option maxRecDepth 100000 in
set_option maxHeartbeats 1000000 in
theorem leafOf_any (l : List Op7) (hops : opsB l = true) (hn : l.length ≤ 1048576) (b1 b2 b3 base : Nat) (o : Op7) (hok : okO o = true) (w : World) (hT : TreeAt w b1 b2 b3 base l) :
    Calls Tryd.prog 67 #[.agg #[.map (some b1), .map (some b2), .map (some b3)], .agg #[.int .i64 o.a, .int .i64 o.b, .int .i64 o.c, .int .i64 o.d, .int .i64 o.s, .int .i64 o.g]] w fun e w' => e = .returned (.agg #[.int .i64 o.a, .int .i64 o.b, .int .i64 o.g, .bool (goneB l (o.a, o.b))]) ∧ Below w.heap.size w w' := by
  have HT := hideIt hT
  have hnum := okO_num hok
  obtain ⟨kl, hkl⟩ := key_id (r := o.a) (m := o.b) (wf_small (by omega)) (wf_small (by omega))
  have HKL := hideIt hkl
  have HG : Hid (goneB l (o.a, o.b) = decide (0 < takesN l (o.a, o.b))) := gone_take (opsParts hops).1 _
  have HV : Hid ((takeF l (o.a, o.b)).getD (.int .i64 0) = .int .i64 (takesN l (o.a, o.b) : Nat)) := takeF_get l _
  have hle := takesN_le l (o.a, o.b)
  generalize takesN l (o.a, o.b) = nn at *
  clear hT hkl
  go_enter Tryd.func67, Tryd.ntmps67
  go_wp2_with fail
  have HBW : Hid (Below w.heap.size w (((w.alloc (.cells #[.map (some b1), .map (some b2), .map (some b3)] 55)).alloc (.cells #[.int .i64 o.a, .int .i64 o.b, .int .i64 o.c, .int .i64 o.d, .int .i64 o.s, .int .i64 o.g] 77)).alloc (.cells #[.int .i64 0, .int .i64 0, .int .i64 0, .bool false] 63))) := (((Below.refl _ _).alloc (Nat.le_refl _) _).alloc (by simp) _).alloc (by simp; omega) _
  have L0 : (Instr.lookup 53 (.map (some b3)) (.agg #[.int .i64 o.a, .int .i64 o.b]) false).run Tryd.prog (((w.alloc (.cells #[.map (some b1), .map (some b2), .map (some b3)] 55)).alloc (.cells #[.int .i64 o.a, .int .i64 o.b, .int .i64 o.c, .int .i64 o.d, .int .i64 o.s, .int .i64 o.g] 77)).alloc (.cells #[.int .i64 0, .int .i64 0, .int .i64 0, .bool false] 63)).drew = .ok (.int .i64 nn) (((w.alloc (.cells #[.map (some b1), .map (some b2), .map (some b3)] 55)).alloc (.cells #[.int .i64 o.a, .int .i64 o.b, .int .i64 o.c, .int .i64 o.d, .int .i64 o.s, .int .i64 o.g] 77)).alloc (.cells #[.int .i64 0, .int .i64 0, .int .i64 0, .bool false] 63)).drew := by
    have hM : MapFn Tryd.prog 38 (((w.alloc (.cells #[.map (some b1), .map (some b2), .map (some b3)] 55)).alloc (.cells #[.int .i64 o.a, .int .i64 o.b, .int .i64 o.c, .int .i64 o.d, .int .i64 o.s, .int .i64 o.g] 77)).alloc (.cells #[.int .i64 0, .int .i64 0, .int .i64 0, .bool false] 63)).drew b3 encId (takeF l) := HT.out.2.2.below HBW.out.drew HT.out.2.2.lt
    have h := hM.look false keyedId Tryd.underlying53 (zeroInt _) encId_inj (o.a, o.b) HKL.out
    rw [HV.out] at h
    exact h
  have n0 : (0 : Int) ≤ (nn : Int) := by omega
  have n1 : (nn : Int) ≤ 1048576 := by omega
  go_region_held3 (fun w' => w'.cell? ⟨w.heap.size, 2, none⟩ = some (.map (some b3)) ∧ w'.cell? ⟨w.heap.size + 1, 0, none⟩ = some (.int .i64 o.a) ∧ w'.cell? ⟨w.heap.size + 1, 1, none⟩ = some (.int .i64 o.b) ∧ w'.cell? ⟨w.heap.size + 1, 5, none⟩ = some (.int .i64 o.g))
    (first | exact ⟨by simp [go_sem], by simp [go_sem], by simp [go_sem], by simp [go_sem]⟩)
    (fail)
  rename_i hS
  clear hS
  go_wp2
  have hG : decide (0 < nn) = goneB l (o.a, o.b) := HG.out.symm
  exact bodyPost_ret (v := .agg #[.int .i64 o.a, .int .i64 o.b, .int .i64 o.g, .bool (goneB l (o.a, o.b))]) (by simp [results, Tryd.results67, go_sem, hG]) rfl ⟨rfl, by have := HBW.out; go_grown⟩

/-- The look-up without 'ok', at the operation, inside a fence. -/
theorem wpListIn_look0 {α : Type} {P : Program} {k t e : TypeId} {w : World} {b : Nat} {enc : α → Value} {f : α → Option Value} {F : Fence} {nF : Nat} {ops : Array Oper} {rest : List Oper} {o : Oper} {A : Act} {Q : Exit → Act → World → Prop}
    (hg : o.guard = none) (m x : Operand) (hop : o.op = Op.lookup t m x false) (K : Go.Maps.Keyed P k) (ht : P.underlying t = some (.map k e)) (z : Value) (hz : (zeroValue e).run P w = .ok z w)
    (hinj : ∀ a a', enc a = enc a' → a = a') (hm : A.eval m = .map (some b)) (hown : MapFn P k w b enc f) (a : α) (hx : A.eval x = enc a) (kl : Lit) (hkey : keyOf P k (enc a) = some kl) (v : Value) (hv : (f a).getD z = v)
    (hK : wpListIn F nF P ops Q rest (A.put o.dst v) w) :
    wpListIn F nF P ops Q (o :: rest) A w := by
  refine wpListIn_plain hg fun K' hK' => ?_
  have hrun := hown.look false K ht hz hinj a hkey
  rw [hv] at hrun
  unfold Oper.wpIn
  refine ⟨by simp [Oper.about, hop], ?_⟩
  rw [Oper.semAt_plain F _ _ (by rw [hop]; intro c hc'; cases hc')]
  simp [execOp, hop, hm, hx, hrun, Result.andThen]
  exact hK' _ _ hK
end Go.Proofs.YtpkdadccapemcaaDoor
