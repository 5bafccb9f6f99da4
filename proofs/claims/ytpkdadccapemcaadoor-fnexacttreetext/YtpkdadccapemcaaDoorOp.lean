/- Contracts of toOp, of both OpOk and of thingOf, at every thing. -/
import Derived.Test.YtpkdadccapemcaaDoorBase
import Derived.BigQuiet
namespace Go.Proofs.YtpkdadccapemcaaDoor
open Go.RowKit
set_option linter.unusedSimpArgs false
set_option linter.unusedVariables false

set_option maxHeartbeats 1000000 in
theorem toOp_any (a b k c d s g : Int) (w : World) :
    Calls Tryd.prog 28 #[.agg #[.int .i64 a, .int .i64 b, .int .i64 k, .int .i64 c, .int .i64 d, .int .i64 s, .int .i64 g]] w fun e w' => e = .returned (.agg #[.int .i64 a, .int .i64 b, .int .i64 k, .int .i64 c, .int .i64 d, .int .i64 s, .int .i64 g]) ∧ Below w.heap.size w w' := by
  go_enter Tryd.func28, Tryd.ntmps28
  go_wp2
  exact bodyPost_ret (v := .agg #[.int .i64 a, .int .i64 b, .int .i64 k, .int .i64 c, .int .i64 d, .int .i64 s, .int .i64 g]) (by simp [results, Tryd.results28, go_sem]) rfl ⟨rfl, by go_grown⟩

set_option maxHeartbeats 1000000 in
theorem specOp_any (a b k c d s g : Int) (w : World) :
    Calls Tryd.prog 40 #[.agg #[.int .i64 a, .int .i64 b, .int .i64 k, .int .i64 c, .int .i64 d, .int .i64 s, .int .i64 g]] w fun e w' => e = .returned (.bool (opB a b k c d s g)) ∧ Below w.heap.size w w' := by
  go_enter Tryd.func40, Tryd.ntmps40
  go_wp2_with (first
    | (go_at_call 51; refine (l1Id_any _ _ _).mono ?_; rintro e w' ⟨rfl, hb⟩; have hB : Below w.heap.size w w' := Bstep (by go_grown) hb; have hlt : w.heap.size < w'.heap.size := (by have := hb.size; (try simp at this); omega); have hp0 : 0 < w'.heap.size := (by omega); obtain ⟨hc, hf⟩ := bcell hb; clear hb)
    | (go_at_call 52; refine (l6In_any _ _ _ _).mono ?_; rintro e w' ⟨rfl, rfl⟩))
  all_goals
    go_ret
    exact ⟨ret_bool (by (try simp only [idB, inB, opB, Bool.not_eq_true, decide_eq_true_eq, decide_eq_false_iff_not, bne_iff_ne, beq_iff_eq, beq_eq_false_iff_ne, ne_eq] at *); first | (apply decide_eq_decide.2; omega) | (symm; apply decide_eq_true; omega) | (symm; apply decide_eq_false; omega) | (rw [Bool.eq_iff_iff]; simp only [Bool.and_eq_true, Bool.or_eq_true, decide_eq_true_eq, beq_iff_eq, bne_iff_ne, Bool.not_eq_true, ne_eq]; omega)), by first | assumption | go_grown⟩


theorem ret_two {u v u' v' : Value} (h : u = u') (h2 : v = v') : Ending.returned (.tuple #[u, v]) = .returned (.tuple #[u', v']) := by rw [h, h2]

set_option maxHeartbeats 1000000 in
theorem thingOf_put (a b c d s g : Int) (w : World) (hid : idB a b = true) (hne : ¬ (c = a ∧ d = b)) (hp : putB c d s g = true) :
    Calls Tryd.prog 54 #[.agg #[.int .i64 a, .int .i64 b, .int .i64 1, .int .i64 c, .int .i64 d, .int .i64 s, .int .i64 g]] w fun e w' => e = .returned (.tuple #[.iface 77 (.agg #[.int .i64 a, .int .i64 b, .int .i64 c, .int .i64 d, .int .i64 s, .int .i64 g]), .nilIface]) ∧ Below w.heap.size w w' := by
  by_cases hca : c = a
  · subst hca
    have hdb : ¬ d = b := by omega
    clear hne
    go_enter Tryd.func54, Tryd.ntmps54
    go_wp2_with (first
      | (go_at_call 59; refine (idOk_any _ _ _).mono ?_; rintro e w' ⟨rfl, hb⟩; have hB : Below w.heap.size w w' := Bstep (by go_grown) hb; have hlt : w.heap.size < w'.heap.size := (by have := hb.size; (try simp at this); omega); have hp0 : 0 < w'.heap.size := (by omega); obtain ⟨hc, hf⟩ := bcell hb; clear hb)
      | (go_at_call 60; refine (putOk_any _ _ _ _ _ _ _ _).mono ?_; rintro e w' ⟨rfl, hb⟩; have hB : Below w.heap.size w w' := Bstep (by go_grown) hb; have hlt : w.heap.size < w'.heap.size := (by have := hb.size; (try simp at this); omega); have hp0 : 0 < w'.heap.size := (by omega); obtain ⟨hc, hf⟩ := bcell hb; clear hb))
    go_ret2
    exact ⟨rfl, by first | assumption | go_grown⟩
  · clear hne
    go_enter Tryd.func54, Tryd.ntmps54
    go_wp2_with (first
      | (go_at_call 59; refine (idOk_any _ _ _).mono ?_; rintro e w' ⟨rfl, hb⟩; have hB : Below w.heap.size w w' := Bstep (by go_grown) hb; have hlt : w.heap.size < w'.heap.size := (by have := hb.size; (try simp at this); omega); have hp0 : 0 < w'.heap.size := (by omega); obtain ⟨hc, hf⟩ := bcell hb; clear hb)
      | (go_at_call 60; refine (putOk_any _ _ _ _ _ _ _ _).mono ?_; rintro e w' ⟨rfl, hb⟩; have hB : Below w.heap.size w w' := Bstep (by go_grown) hb; have hlt : w.heap.size < w'.heap.size := (by have := hb.size; (try simp at this); omega); have hp0 : 0 < w'.heap.size := (by omega); obtain ⟨hc, hf⟩ := bcell hb; clear hb))
    go_ret2
    exact ⟨rfl, by first | assumption | go_grown⟩

set_option maxHeartbeats 1000000 in
theorem thingOf_take (a b c d s g : Int) (w : World) (hid : idB a b = true) (hne : ¬ (c = a ∧ d = b)) (hp : takeB c d s g = true) :
    Calls Tryd.prog 54 #[.agg #[.int .i64 a, .int .i64 b, .int .i64 2, .int .i64 c, .int .i64 d, .int .i64 s, .int .i64 g]] w fun e w' => e = .returned (.tuple #[.iface 89 (.agg #[.int .i64 a, .int .i64 b, .int .i64 c, .int .i64 d]), .nilIface]) ∧ Below w.heap.size w w' := by
  by_cases hca : c = a
  · subst hca
    have hdb : ¬ d = b := by omega
    clear hne
    go_enter Tryd.func54, Tryd.ntmps54
    go_wp2_with (first
      | (go_at_call 59; refine (idOk_any _ _ _).mono ?_; rintro e w' ⟨rfl, hb⟩; have hB : Below w.heap.size w w' := Bstep (by go_grown) hb; have hlt : w.heap.size < w'.heap.size := (by have := hb.size; (try simp at this); omega); have hp0 : 0 < w'.heap.size := (by omega); obtain ⟨hc, hf⟩ := bcell hb; clear hb)
      | (go_at_call 61; refine (takeOk_any _ _ _ _ _ _ _ _).mono ?_; rintro e w' ⟨rfl, hb⟩; have hB : Below w.heap.size w w' := Bstep (by go_grown) hb; have hlt : w.heap.size < w'.heap.size := (by have := hb.size; (try simp at this); omega); have hp0 : 0 < w'.heap.size := (by omega); obtain ⟨hc, hf⟩ := bcell hb; clear hb))
    go_ret2
    exact ⟨rfl, by first | assumption | go_grown⟩
  · clear hne
    go_enter Tryd.func54, Tryd.ntmps54
    go_wp2_with (first
      | (go_at_call 59; refine (idOk_any _ _ _).mono ?_; rintro e w' ⟨rfl, hb⟩; have hB : Below w.heap.size w w' := Bstep (by go_grown) hb; have hlt : w.heap.size < w'.heap.size := (by have := hb.size; (try simp at this); omega); have hp0 : 0 < w'.heap.size := (by omega); obtain ⟨hc, hf⟩ := bcell hb; clear hb)
      | (go_at_call 61; refine (takeOk_any _ _ _ _ _ _ _ _).mono ?_; rintro e w' ⟨rfl, hb⟩; have hB : Below w.heap.size w w' := Bstep (by go_grown) hb; have hlt : w.heap.size < w'.heap.size := (by have := hb.size; (try simp at this); omega); have hp0 : 0 < w'.heap.size := (by omega); obtain ⟨hc, hf⟩ := bcell hb; clear hb))
    go_ret2
    exact ⟨rfl, by first | assumption | go_grown⟩

end Go.Proofs.YtpkdadccapemcaaDoor
