/- The walk of the law FnExactTreeText. -/
import Derived.Test.YtpkdadccapemcaaDoorTreeTxt
import Derived.Test.YtpkdadccapemcaaDoorSame
import Derived.Test.YtpkdadccapemcaaDoorToOps
import Derived.Test.YtpkdadccapemcaaDoorEqOps
namespace Go.Proofs.YtpkdadccapemcaaDoor
open Go.RowKit
set_option linter.unusedSimpArgs false
set_option linter.unusedVariables false

set_option maxHeartbeats 1000000 in
theorem walkTreeText (l : List Op7) (p : Option Addr) (cap : Nat) (x : Addr) (w : World) (hl : ArgOps w p l) (hcap : l.length ≤ cap) (hmax : cap ≤ maxLen)
    (he : w.cell? ⟨0, 0, none⟩ = some (.iface 127 (.pointer (some x)))) (h0 : 0 < w.heap.size) :
    Calls Tryd.prog 4 #[.slice p l.length cap] w fun e w' => e = .returned (.bool true) ∧ Below w.heap.size w w' := by
  have HA := hideIt hl
  clear hl
  by_cases hn : l.length ≤ 1048576
  · go_enter Tryd.func4, Tryd.ntmps4
    go_wp2_with (first | (go_at_call 7; refine (sz_small _ _ _ _ hn).mono ?_; rintro e w' ⟨rfl, rfl⟩))
    refine (toOpS_any l p cap _ HA.out hn hcap).mono ?_
    rintro e w1 ⟨rfl, hA1, hB1⟩
    have HA1 := hideIt hA1
    have HB1 := hideIt hB1
    clear hA1 hB1
    go_wp2_with fail
    refine (specTxt_any l _ _ _ HA1.out hn (Nat.le_refl _)).mono ?_
    rintro e w2 ⟨rfl, hB2⟩
    have HB2 := hideIt (Bstep HB1.out hB2)
    clear hB2
    go_wp2_with fail
    refine (toOpS_any l p cap _ (HA.out.below HB2.out) hn hcap).mono ?_
    rintro e w3 ⟨rfl, hA3, hB3⟩
    have HA3 := hideIt hA3
    have HB3 := hideIt (Bstep HB2.out hB3)
    clear hA3 hB3
    go_wp2_with fail
    refine (implTxt_any l _ _ x _ HA3.out hn (Nat.le_refl _) (errB HB3.out h0 he) (posB HB3.out h0)).mono ?_
    rintro e w4 ⟨rfl, hB4⟩
    have HA4 := hideIt (HA3.out.below hB4 HA3.out.1)
    have HB4 := hideIt (Bstep HB3.out hB4)
    clear hB4
    generalize txtB (shown (lfs l (standL l))) = T
    go_wp2_with fail
    refine (toOpS_any l p cap _ (HA.out.below HB4.out) hn hcap).mono ?_
    rintro e w5 ⟨rfl, hA5, hB5⟩
    have HA45 := hideIt (HA4.out.below hB5 HA4.out.1)
    have HA5 := hideIt hA5
    have HB5 := hideIt (Bstep HB4.out hB5)
    clear hA5 hB5
    go_wp2_with fail
    refine (eqOpS_same l _ _ _ _ _ HA45.out HA5.out hn (Nat.le_refl _) (Nat.le_refl _)).mono ?_
    rintro e w6 ⟨rfl, hB6⟩
    have HB6 := hideIt (Bstep HB5.out hB6)
    clear hB6
    go_wp2
    go_ret
    exact ⟨rfl, HB6.out⟩
  · go_enter Tryd.func4, Tryd.ntmps4
    go_wp2_with (first | (go_at_call 7; refine (sz_big _ _ _ _ (by omega) (by omega)).mono ?_; rintro e w' ⟨rfl, rfl⟩))
    go_ret
    exact ⟨rfl, Below.refl _ _⟩
end Go.Proofs.YtpkdadccapemcaaDoor
