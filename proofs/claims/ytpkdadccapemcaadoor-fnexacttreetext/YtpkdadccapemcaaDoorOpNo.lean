/- The contract of thingOf at a thing that is not in form: nothing, and the one error. -/
import Derived.Test.YtpkdadccapemcaaDoorBase
import Derived.BigQuiet
namespace Go.Proofs.YtpkdadccapemcaaDoor
open Go.RowKit
set_option linter.unusedSimpArgs false
set_option linter.unusedVariables false

set_option maxHeartbeats 1000000 in
theorem thingOf_no (a b k c d s g : Int) (x : Addr) (w : World) (he : w.cell? ⟨0, 0, none⟩ = some (.iface 127 (.pointer (some x)))) (h0 : 0 < w.heap.size) (hno : opB a b k c d s g = false) :
    Calls Tryd.prog 54 #[.agg #[.int .i64 a, .int .i64 b, .int .i64 k, .int .i64 c, .int .i64 d, .int .i64 s, .int .i64 g]] w fun e w' => e = .returned (.tuple #[.nilIface, .iface 127 (.pointer (some x))]) ∧ Below w.heap.size w w' := by
  have HN : Hid (opB a b k c d s g = false) := hno
  clear hno
  go_enter Tryd.func54, Tryd.ntmps54
  go_wp2_with (first
    | (go_at_call 59; refine (idOk_any _ _ _).mono ?_; rintro e w' ⟨rfl, hb⟩; have hB : Below w.heap.size w w' := Bstep (by go_grown) hb; have hlt : w.heap.size < w'.heap.size := (by have := hb.size; (try simp at this); omega); have hp0 : 0 < w'.heap.size := (by omega); obtain ⟨hc, hf⟩ := bcell hb; clear hb)
    | (go_at_call 60; refine (putOk_any _ _ _ _ _ _ _ _).mono ?_; rintro e w' ⟨rfl, hb⟩; have hB : Below w.heap.size w w' := Bstep (by go_grown) hb; have hlt : w.heap.size < w'.heap.size := (by have := hb.size; (try simp at this); omega); have hp0 : 0 < w'.heap.size := (by omega); obtain ⟨hc, hf⟩ := bcell hb; clear hb)
    | (go_at_call 61; refine (takeOk_any _ _ _ _ _ _ _ _).mono ?_; rintro e w' ⟨rfl, hb⟩; have hB : Below w.heap.size w w' := Bstep (by go_grown) hb; have hlt : w.heap.size < w'.heap.size := (by have := hb.size; (try simp at this); omega); have hp0 : 0 < w'.heap.size := (by omega); obtain ⟨hc, hf⟩ := bcell hb; clear hb))
  all_goals first
    | (go_region; go_wp2; go_ret2; exact ⟨rfl, by first | assumption | go_grown⟩)
    | (exfalso; have hno := HN.out; simp only [opB, idB, putB, takeB, Bool.not_eq_true, decide_eq_true_eq, decide_eq_false_iff_not] at *; omega)
end Go.Proofs.YtpkdadccapemcaaDoor
