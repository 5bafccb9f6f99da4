/- Contracts of the program's OpOk and of the law FnExactOpOk. -/
import Derived.Test.YtlkhmpobpekmpaaDoorOp
import Derived.Test.YtlkhmpobpekmpaaDoorOpNo
namespace Go.Proofs.YtlkhmpobpekmpaaDoor
open Go.RowKit
set_option linter.unusedSimpArgs false
set_option linter.unusedVariables false

theorem errB {w W : World} {v : Value} (h : Below w.heap.size w W) (h0 : 0 < w.heap.size) (he : w.cell? ⟨0, 0, none⟩ = some v) : W.cell? ⟨0, 0, none⟩ = some v := by
  rw [(bcell h).1 _ _ h0]; exact he
theorem posB {w W : World} (h : Below w.heap.size w W) (h0 : 0 < w.heap.size) : 0 < W.heap.size := Nat.lt_of_lt_of_le h0 h.size

set_option maxHeartbeats 1000000 in
theorem implOp_any (a b k c d s g : Int) (x : Addr) (w : World) (he : w.cell? ⟨0, 0, none⟩ = some (.iface 69 (.pointer (some x)))) (h0 : 0 < w.heap.size) :
    Calls Tryd.prog 5 #[.agg #[.int .i64 a, .int .i64 b, .int .i64 k, .int .i64 c, .int .i64 d, .int .i64 s, .int .i64 g]] w fun e w' => e = .returned (.bool (opB a b k c d s g)) ∧ Below w.heap.size w w' := by
  cases ho : opB a b k c d s g
  · have HO : Hid (opB a b k c d s g = false) := ho
    clear ho
    go_enter Tryd.func5, Tryd.ntmps5
    go_wp2_with (first
      | (go_at_call 10; refine (thingOf_no _ _ _ _ _ _ _ x _ ?_ ?_ HO.out).mono ?_; (exact errB (by go_grown) h0 he); (exact posB (by go_grown) h0); rintro e w' ⟨rfl, hb⟩; have hB : Below w.heap.size w w' := Bstep (by go_grown) hb; have hlt : w.heap.size < w'.heap.size := (by have := hb.size; (try simp at this); omega); have hp0 : 0 < w'.heap.size := (by omega); obtain ⟨hc, hf⟩ := bcell hb; clear hb)
      | (go_at_call 11; refine (is_same x _).mono ?_; rintro e w'' ⟨rfl, rfl⟩))
    go_ret
    exact ⟨rfl, by first | assumption | go_grown⟩
  · rw [opB_true] at ho
    obtain ⟨h1, h2, h3⟩ := ho
    have hid : Hid (idB a b = true) := idB_true.2 h1
    have hne : Hid (¬ (c = a ∧ d = b)) := h2
    rcases h3 with ⟨rfl, h3⟩ | ⟨rfl, h3⟩
    · have hp : Hid (putB c d s g = true) := decide_eq_true h3
      clear h1 h2 h3
      go_enter Tryd.func5, Tryd.ntmps5
      go_wp2_with (first
        | (go_at_call 10; refine (thingOf_put _ _ _ _ _ _ _ hid.out hne.out hp.out).mono ?_; rintro e w' ⟨rfl, hb⟩; have hB : Below w.heap.size w w' := Bstep (by go_grown) hb; have hlt : w.heap.size < w'.heap.size := (by have := hb.size; (try simp at this); omega); have hp0 : 0 < w'.heap.size := (by omega); obtain ⟨hc, hf⟩ := bcell hb; clear hb)
        | (go_at_call 11; refine (is_nil x _).mono ?_; rintro e w'' ⟨rfl, rfl⟩))
      go_ret
      exact ⟨rfl, by first | assumption | go_grown⟩
    · have hp : Hid (takeB c d s g = true) := decide_eq_true h3
      clear h1 h2 h3
      go_enter Tryd.func5, Tryd.ntmps5
      go_wp2_with (first
        | (go_at_call 10; refine (thingOf_take _ _ _ _ _ _ _ hid.out hne.out hp.out).mono ?_; rintro e w' ⟨rfl, hb⟩; have hB : Below w.heap.size w w' := Bstep (by go_grown) hb; have hlt : w.heap.size < w'.heap.size := (by have := hb.size; (try simp at this); omega); have hp0 : 0 < w'.heap.size := (by omega); obtain ⟨hc, hf⟩ := bcell hb; clear hb)
        | (go_at_call 11; refine (is_nil x _).mono ?_; rintro e w'' ⟨rfl, rfl⟩))
      go_ret
      exact ⟨rfl, by first | assumption | go_grown⟩

end Go.Proofs.YtlkhmpobpekmpaaDoor
