/-
  PROVED: each sign that was put, of drawn things, stands once among the leaves, gone just if something took it away, and nothing else stands there (the given card of FnLeavesAll), for every input; the one listed variable, the program's error, reads as its own initialiser lays it.
-/
import Derived.Test.YthhlhogknpgccaaDoorPackB
import Derived.Test.YthhlhogknpgccaaDoorPackD
import Derived.Test.YthhlhogknpgccaaDoorPackF
import Derived.Test.YthhlhogknpgccaaDoorRows
import Derived.WalkKit
import Derived.ProofKit
import Derived.OpenShut
import Derived.ChangeOld
import Derived.Below
import Derived.Lib.SmallJoins
import Derived.Stop.LaidErr
import Derived.LaidMore
import Derived.Stop.Joined
import Derived.ChangeSlices
import Derived.Test.YthhlhogknpgccaaDoorTie
import Derived.Test.YthhlhogknpgccaaDoorCards
import Derived.SevenTiedAt
namespace Go.Proofs.YthhlhogknpgccaaDoor
open Go.RowKit
set_option linter.unusedSimpArgs false
set_option linter.unusedVariables false

/-- Is a sign taken away by one of the first k? -/
def goneTo (L : List Op7) (k : Nat) (x : Int × Int) : Bool := (L.take k).any fun o => o.k == 2 && (o.c == x.1 && o.d == x.2)
theorem goneTo_zero (L : List Op7) (x : Int × Int) : goneTo L 0 x = false := by simp [goneTo]
theorem goneTo_all (L : List Op7) (x : Int × Int) : goneTo L L.length x = goneB L x := by simp [goneTo, goneB]
theorem goneTo_more {L : List Op7} {k : Nat} (hk : k < L.length) (x : Int × Int) : goneTo L (k + 1) x = (goneTo L k x || (L[k].k == 2 && (L[k].c == x.1 && L[k].d == x.2))) := by
  unfold goneTo
  rw [List.take_succ_eq_append_getElem hk, List.any_append]
  simp
end Go.Proofs.YthhlhogknpgccaaDoor

namespace Go.Proofs.YthhlhogknpgccaaDoor
open Go.RowKit
set_option linter.unusedSimpArgs false
set_option linter.unusedVariables false
attribute [local go_sem ↓] Go.wp_at_zero Go.wp_at_succ

set_option maxRecDepth 100000 in
set_option maxHeartbeats 4000000 in
theorem walkLeavesAll (w : World) (p : Option Addr) (n cap : Nat) (h : ArgBytes w p n) (hcap : n ≤ cap) (hmax : cap ≤ maxLen) (x : Addr)
    (he : w.cell? ⟨0, 0, none⟩ = some (.iface 138 (.pointer (some x)))) (h0 : 0 < w.heap.size) :
    Calls Tryd.prog 3 #[.slice p n cap] w fun e w' => e = .returned (.bool true) ∧ Below w.heap.size w w' := by
  have H := hideIt h
  clear h
  by_cases hn : n ≤ 1048576
  · go_enter Tryd.func3, Tryd.ntmps3
    go_wp2_with fail
    refine (drawLeaves_any _ p n cap H.out hcap hn).mono ?_
    rintro e w1 ⟨G, c, _, rfl, ⟨L, rfl, hL, hS⟩, hb1⟩
    have HS := hideIt hS
    have HB := hideIt hb1
    clear hS hb1
    go_wp2_with fail
    refine (implLeaves_any L G c x _ HS.out.at (by omega) HS.out.cap (errB HB.out h0 he) (posB HB.out h0)).mono ?_
    rintro e w2 ⟨v, rfl, hr2, hb2⟩
    have hF : (lfs L (standL L)).length ≤ 74 := by rw [lfs_len]; exact Nat.le_trans (stand_len L) hL
    have HR := hideIt (ownsRow_base HB.out.size hr2)
    have HS := hideIt (HS.out.below hb2)
    have HB := hideIt (Bstep HB.out hb2)
    clear hb2 hr2
    cases ho : opsB L
    · have HO := hideIt ho
      clear ho
      go_wp2_with (first
        | (go_at_call 12; refine (specLf_any L G c _ HS.out.at (by omega) HS.out.cap).mono ?_; rintro e w3 ⟨v3, rfl, hr3, hb3⟩; have HR3 := hideIt hr3; have HR := hideIt (rowKeep HR.out hb3); have HS := hideIt (HS.out.below hb3); have HB := hideIt (Bstep HB.out hb3); clear hb3 hr3)
        | (go_at_call 11; refine (ltLeaves_rows (lfs L (standL L)) _ _ _ _ _ HR.out HR3.out (by omega)).mono ?_; rintro e w4 ⟨rfl, hb4⟩; have HR := hideIt (rowKeep HR.out hb4); have HS := hideIt (HS.out.below hb4); have HB := hideIt (Bstep HB.out hb4); clear hb4)
        | (go_at_call 13; refine (specOps_any L G c _ HS.out.at (by omega) HS.out.cap).mono ?_; rintro e w5 ⟨rfl, hb5⟩; rw [HO.out]; have HR := hideIt (rowKeep HR.out hb5); have HS := hideIt (HS.out.below hb5); have HB := hideIt (Bstep HB.out hb5); clear hb5))
      go_ret
      exact ⟨rfl, HB.out⟩
    · have HO := hideIt ho
      have hst : standL L = allO L := by unfold standL; rw [if_pos ho]
      clear ho
      go_wp2_with (first
        | (go_at_call 12; refine (specLf_any L G c _ HS.out.at (by omega) HS.out.cap).mono ?_; rintro e w3 ⟨v3, rfl, hr3, hb3⟩; have HR3 := hideIt hr3; have HR := hideIt (rowKeep HR.out hb3); have HS := hideIt (HS.out.below hb3); have HB := hideIt (Bstep HB.out hb3); clear hb3 hr3)
        | (go_at_call 11; refine (ltLeaves_rows (lfs L (standL L)) _ _ _ _ _ HR.out HR3.out (by omega)).mono ?_; rintro e w4 ⟨rfl, hb4⟩; have HR := hideIt (rowKeep HR.out hb4); have HS := hideIt (HS.out.below hb4); have HB := hideIt (Bstep HB.out hb4); clear hb4)
        | (go_at_call 13; refine (specOps_any L G c _ HS.out.at (by omega) HS.out.cap).mono ?_; rintro e w5 ⟨rfl, hb5⟩; rw [HO.out]; have HR := hideIt (rowKeep HR.out hb5); have HS := hideIt (HS.out.below hb5); have HB := hideIt (Bstep HB.out hb5); clear hb5))
      rw [hst] at HR hF
      have HPL : Hid (∀ o ∈ L, o.k = 1 → ∃ k, ∃ hk : k < (lfs L (allO L)).length, atI (lfs L (allO L)) o.a o.b = (k : Nat) ∧ (lfs L (allO L))[k] = ⟨o.a, o.b, o.g, goneB L (o.a, o.b)⟩) := fun o ho hk => put_leaf HO.out ho hk
      have HTL : Hid (∀ o ∈ L, o.k = 2 → atI (lfs L (allO L)) o.a o.b = -1) := fun o ho hk => take_leaf HO.out ho hk
      have HRL : Hid (∀ o ∈ L, o.k = 2 → ∃ k, ∃ hk : k < (lfs L (allO L)).length, atI (lfs L (allO L)) o.c o.d = (k : Nat) ∧ (lfs L (allO L))[k].z = true) := fun o ho hk => ref_leaf HO.out ho hk
      have HSA := hideIt (stayTo_all HO.out)
      generalize lfs L (allO L) = F at *
      go_loopw [5, 6] (fun pv i wr => ∃ k : Nat, k ≤ L.length ∧ i = .int .i64 k ∧ pv = .int .i64 (stayTo L k : Nat) ∧ wr.ownsRow w.heap.size 35 4 v F.length (lfCells F) ∧ OwnOps wr w.heap.size G c L ∧ Below w.heap.size w wr) (fun _ i _ => L.length - (intOf i).toNat)
      case atStart => exact ⟨0, Nat.zero_le _, rfl, by simp [stayTo], HR.out, HS.out, HB.out⟩
      case round =>
        clear HR HS HB
        obtain ⟨k, hk, rfl, rfl, hR, hS, hB⟩ := hrel
        have HR := hideIt hR
        have HS := hideIt hS
        have HB := hideIt hB
        clear hR hS hB
        have hpl := stayTo_le L k
        by_cases hlt : k < L.length
        · have hlt' : (k : Int) < (L.length : Int) := by omega
          have hk0 : (0 : Int) ≤ (k : Int) := by omega
          have hpk : L[k]? = some L[k] := by simp [hlt]
          have hmem : L[k] ∈ L := List.getElem_mem hlt
          have HY : Hid (¬ L[k].k = 2 → stayTo L (k + 1) = stayTo L k + 1) := stayTo_yes hlt
          have HN : Hid (L[k].k = 2 → stayTo L (k + 1) = stayTo L k) := stayTo_no hlt
          have hkind := op_kind HO.out hmem
          generalize L[k] = o at *
          obtain ⟨y0, y1, y2, y3, y4, y5, y6⟩ := HS.out.at.2 k o hpk
          rcases hkind with hk1 | hk2
          · have hk2 : ¬ o.k = 2 := by omega
            have HE := hideIt (HY.out hk2)
            obtain ⟨m, hm, hat, hFm⟩ := HPL.out o hmem hk1
            obtain ⟨q4, c4, hv, hq4⟩ := lf_cases HR.out
            obtain ⟨g4, rfl, hc4, _, _, _⟩ := hq4 (by omega)
            clear hq4
            subst hv
            have hm' : (m : Int) < (F.length : Int) := by omega
            have hm0 : (0 : Int) ≤ (m : Int) := by omega
            have hmn : ¬ ((m : Int) < 0) := by omega
            clear HY HN
            go_wp2_with (first
              | (go_at_call 14; refine (ltAt_any F _ _ o.a o.b _ HR.out (by omega)).mono ?_; rintro e w6 ⟨rfl, hb6⟩; rw [hat]; have HR := hideIt (rowKeep HR.out hb6); have HS := hideIt (HS.out.below hb6); have HB := hideIt (Bstep HB.out hb6); clear hb6 y0 y1 y2 y3 y4 y5 y6; obtain ⟨y0, y1, y2, y3, y4, y5, y6⟩ := HS.out.at.2 k o hpk))
            clear y0 y1 y2 y3 y4 y5 y6
            go_loopw [9, 10] (fun gv i wr => ∃ j : Nat, j ≤ L.length ∧ i = .int .i64 j ∧ gv = .bool (goneTo L j (o.a, o.b)) ∧ wr.ownsRow w.heap.size 35 4 (.slice (some ⟨g4, 0, none⟩) F.length c4) F.length (lfCells F) ∧ OwnOps wr w.heap.size G c L ∧ Below w.heap.size w wr) (fun _ i _ => L.length - (intOf i).toNat)
            case atStart => exact ⟨0, Nat.zero_le _, rfl, by rw [goneTo_zero], HR.out, HS.out, HB.out⟩
            case round =>
              clear HR HS HB
              obtain ⟨j, hj, rfl, rfl, hR, hS, hB⟩ := hrel
              have HR := hideIt hR
              have HS := hideIt hS
              have HB := hideIt hB
              clear hR hS hB
              obtain ⟨y0, y1, y2, _⟩ := HS.out.at.2 k o hpk
              by_cases hjl : j < L.length
              · have hjl' : (j : Int) < (L.length : Int) := by omega
                have hj0 : (0 : Int) ≤ (j : Int) := by omega
                obtain ⟨z0, z1, z2, z3, z4, _⟩ := HS.out.at.2 j L[j] (by simp [hjl])
                have HM := hideIt (goneTo_more hjl (o.a, o.b))
                generalize L[j] = q at *
                cases hgt : goneTo L j (o.a, o.b)
                · by_cases hk2 : q.k = 2
                  · by_cases hc : q.c = o.a
                    · by_cases hd : q.d = o.b
                      · have HE : Hid (goneTo L (j + 1) (o.a, o.b) = true) := by show goneTo L (j + 1) (o.a, o.b) = true; rw [HM.out, hgt]; simp [hk2, hc, hd]
                        clear HM hgt
                        go_wp2
                        go_quiet (fail)
                        go_wp2
                        exact ⟨⟨j + 1, by omega, by go_num, by rw [HE.out], rowKeep HR.out (below_drewN (Below.refl _ _) _), HS.out.below (below_drewN (Below.refl _ _) _), below_drewN HB.out _⟩, by simp [intOf]; omega⟩
                      · have HE : Hid (goneTo L (j + 1) (o.a, o.b) = false) := by show goneTo L (j + 1) (o.a, o.b) = false; rw [HM.out, hgt]; simp [hk2, hc, hd]
                        clear HM hgt
                        go_wp2
                        go_quiet (fail)
                        go_wp2
                        exact ⟨⟨j + 1, by omega, by go_num, by rw [HE.out], rowKeep HR.out (below_drewN (Below.refl _ _) _), HS.out.below (below_drewN (Below.refl _ _) _), below_drewN HB.out _⟩, by simp [intOf]; omega⟩
                    · have HE : Hid (goneTo L (j + 1) (o.a, o.b) = false) := by show goneTo L (j + 1) (o.a, o.b) = false; rw [HM.out, hgt]; simp [hk2, hc]
                      clear HM hgt
                      go_wp2
                      go_quiet (fail)
                      go_wp2
                      exact ⟨⟨j + 1, by omega, by go_num, by rw [HE.out], rowKeep HR.out (below_drewN (Below.refl _ _) _), HS.out.below (below_drewN (Below.refl _ _) _), below_drewN HB.out _⟩, by simp [intOf]; omega⟩
                  · have HE : Hid (goneTo L (j + 1) (o.a, o.b) = false) := by show goneTo L (j + 1) (o.a, o.b) = false; rw [HM.out, hgt]; simp [hk2]
                    clear HM hgt
                    go_wp2
                    go_quiet (fail)
                    go_wp2
                    exact ⟨⟨j + 1, by omega, by go_num, by rw [HE.out], rowKeep HR.out (below_drewN (Below.refl _ _) _), HS.out.below (below_drewN (Below.refl _ _) _), below_drewN HB.out _⟩, by simp [intOf]; omega⟩
                · have HE : Hid (goneTo L (j + 1) (o.a, o.b) = true) := by show goneTo L (j + 1) (o.a, o.b) = true; rw [HM.out, hgt]; rfl
                  clear HM hgt
                  go_wp2
                  go_quiet (fail)
                  go_wp2
                  exact ⟨⟨j + 1, by omega, by go_num, by rw [HE.out], rowKeep HR.out (below_drewN (Below.refl _ _) _), HS.out.below (below_drewN (Below.refl _ _) _), below_drewN HB.out _⟩, by simp [intOf]; omega⟩
              · obtain rfl : j = L.length := by omega
                rw [goneTo_all]
                obtain ⟨z0, z1, z2, z3⟩ := lfCells_at F m F[m] (by simp [hm])
                have u2 := (World.ownsRow.cellAt HR.out (m * 4 + 2) (by omega)).trans z2
                have u3 := (World.ownsRow.cellAt HR.out (m * 4 + 3) (by omega)).trans z3
                rw [hFm] at u2 u3
                dsimp only at u2 u3
                clear z0 z1 z2 z3
                obtain ⟨y0, y1, y2, y3, y4, y5, y6⟩ := HS.out.at.2 k o hpk
                cases hgt : goneB L (o.a, o.b)
                all_goals
                  rw [hgt] at u3
                  clear hgt
                  go_wp2
                  go_quiet (fail)
                  go_wp2
                  exact ⟨⟨k + 1, by omega, by go_num, by rw [HE.out]; rfl, rowKeep HR.out (below_drewN (Below.refl _ _) _), HS.out.below (below_drewN (Below.refl _ _) _), below_drewN HB.out _⟩, by simp [intOf]; omega⟩
          · have HE := hideIt (HN.out hk2)
            have hat := HTL.out o hmem hk2
            obtain ⟨m, hm, hat2, hFz⟩ := HRL.out o hmem hk2
            obtain ⟨q4, c4, hv, hq4⟩ := lf_cases HR.out
            obtain ⟨g4, rfl, hc4, _, _, _⟩ := hq4 (by omega)
            clear hq4
            subst hv
            have hm' : (m : Int) < (F.length : Int) := by omega
            have hm0 : (0 : Int) ≤ (m : Int) := by omega
            have hmn : ¬ ((m : Int) < 0) := by omega
            clear HY HN
            go_wp2_with fail
            refine (ltAt_any F _ _ o.a o.b _ HR.out (by omega)).mono ?_
            rintro e w6 ⟨rfl, hb6⟩
            rw [hat]
            have HR := hideIt (rowKeep HR.out hb6)
            have HS := hideIt (HS.out.below hb6)
            have HB := hideIt (Bstep HB.out hb6)
            clear hb6 y0 y1 y2 y3 y4 y5 y6
            obtain ⟨y0, y1, y2, y3, y4, y5, y6⟩ := HS.out.at.2 k o hpk
            go_wp2_with fail
            refine (ltAt_any F _ _ o.c o.d _ HR.out (by omega)).mono ?_
            rintro e w7 ⟨rfl, hb7⟩
            rw [hat2]
            have HR := hideIt (rowKeep HR.out hb7)
            have HS := hideIt (HS.out.below hb7)
            have HB := hideIt (Bstep HB.out hb7)
            clear hb7 y0 y1 y2 y3 y4 y5 y6
            obtain ⟨z0, z1, z2, z3⟩ := lfCells_at F m F[m] (by simp [hm])
            have u3 := (World.ownsRow.cellAt HR.out (m * 4 + 3) (by omega)).trans z3
            rw [hFz] at u3
            clear z0 z1 z2 z3
            go_wp2
            exact ⟨⟨k + 1, by omega, by go_num, by rw [HE.out], HR.out, HS.out, HB.out⟩, by simp [intOf]; omega⟩
        · obtain rfl : k = L.length := by omega
          rw [HSA.out]
          obtain ⟨q4, c4, rfl, hq4⟩ := lf_cases HR.out
          go_wp2
          go_ret
          exact ⟨rfl, HB.out⟩
  · go_enter Tryd.func3, Tryd.ntmps3
    unfold maxLen at *
    have hn' : (1048576 : Int) < (n : Int) := by omega
    go_wp2
    go_ret
    exact ⟨rfl, Below.refl _ _⟩
end Go.Proofs.YthhlhogknpgccaaDoor

namespace Go.Proofs.YthhlhogknpgccaaDoor
open Go.ChangeShapes Go.WideShapes Go.ChangeAt Go.RowKit Go.Joins

theorem own : ownKnob Tryd.prog.godebug = none := by kernel_rfl
theorem laidOut : laidOutB Tryd.prog = true := by kernel_rfl
theorem cells_int : Tryd.prog.cellsOf 3 = 1 := by kernel_rfl

/-- The name of the one listed variable. -/
abbrev errName : String := Rows.fnLeavesAllSpec.vars.headD ""
/-- What the rows list. -/
abbrev laid1 : List (String × DataW Unit) := Rows.fnLeavesAllRow.laid
theorem gErr : Tryd.prog.globalNamed errName = some 0 := by kernel_rfl
theorem tErr : (Tryd.prog.globals[0]?).map (·.type) = some 52 := by kernel_rfl
def nmOf : DataW Unit → String
  | .iface n _ => n
  | _ => ""
theorem star : "*" ++ "errors.errorString" = nmOf Rows.laid_loop_example_tatting_impl_errNoThing := by decide
theorem nameErr (u : TypeId) (h : Tryd.prog.typeName? 3 u = some (nmOf Rows.laid_loop_example_tatting_impl_errNoThing)) : u = 138 :=
  typeName_ptr_named (nm := "errors.errorString") (by rw [star]; kernel_rfl) (by kernel_rfl) (by decide) u (by rw [star]; exact h)

theorem door_met (os : Os) (args : Array Value) : laidMetH Tryd.prog laid1 ((World.doorLaid Tryd.prog 28 os).forCall (fun _ _ => 0) ⟨#[], args, []⟩).memory :=
  laidMetH_of_parts3 (fuel := 8) (laidMet_of_run' 8 (by kernel_rfl) (by kernel_rfl)) (by kernel_rfl) (by kernel_rfl)

/-- WHAT THE CONDITION GIVES THE WALKS: the one error's cell. -/
theorem of_laid {W : World} (h : laidMetH Tryd.prog laid1 W) : ∃ x : Addr, W.var? Tryd.prog errName = some #[.iface 138 (.pointer (some x))] ∧ W.cell? ⟨0, 0, none⟩ = some (.iface 138 (.pointer (some x))) ∧ 0 < W.heap.size := by
  rw [MakeChecks.laidMetH_plain _ _ _ (by kernel_rfl)] at h
  obtain ⟨x, s, hv, hc, _, _⟩ := laid_sentinel h gErr tErr Tryd.underlying52 nameErr Tryd.underlying138 Tryd.underlying164 rfl rfl Tryd.underlying9 (by kernel_rfl) (by kernel_rfl)
  have hcell : W.cell? ⟨0, 0, none⟩ = some (.iface 138 (.pointer (some x))) := by simpa using World.var?_cell gErr hv 0
  refine ⟨x, hv, hcell, ?_⟩
  rcases Nat.eq_zero_or_pos W.heap.size with h0 | h0
  · exfalso
    simp [World.cell?, Array.eq_empty_of_size_eq_zero h0] at hcell
  · exact h0

/-- The variable holds what it held, where nothing that was there has turned. -/
theorem var_kept {W W' : World} {x : Value} (hb : Below W.heap.size W W') (h0 : 0 < W.heap.size) (hv : W.var? Tryd.prog errName = some #[x]) : W'.var? Tryd.prog errName = some #[x] := by
  unfold World.var? at hv ⊢
  rw [gErr] at hv ⊢
  simp only [Option.bind_some] at hv ⊢
  rw [hb.block 0 h0]
  exact hv
end Go.Proofs.YthhlhogknpgccaaDoor

namespace Go.Proofs.YthhlhogknpgccaaDoor
open Go.ChangeShapes Go.WideShapes Go.ChangeAt Go.RowKit Go.Joins

theorem cells_byte : Tryd.prog.cellsOf 5 = 1 := by kernel_rfl

set_option maxRecDepth 100000 in
theorem open_bytes {H : Type} {enc : TypeId × Value → H} {w : World} {r : Reach} {b0 : Nat} {spare : Nat → Bool} {held : Bool} {v : Value} {d : DataW H} {p : List MemPlace}
    (hv : Value.okWide Tryd.prog w r b0 22 v) (h : DataW.Trod enc Tryd.prog w 0 spare held 22 v d p) :
    ∃ (q : Option Addr) (n cap : Nat), v = .slice q n cap ∧ n ≤ cap ∧ cap ≤ maxLen ∧ ArgBytes w q n := by
  obtain ⟨q, len, cap, rfl⟩ := okWide_slice Tryd.underlying22 hv
  obtain ⟨fuel, hf⟩ := h
  rcases open_ints Tryd.underlying22 Tryd.underlying5 cells_byte hf with ⟨hcs, _⟩ | ⟨a, len', cap', zs, hcs, _, hl, hm, hz, _, hcell, hwz⟩
  · simp [Value.cells] at hcs
    obtain ⟨rfl, rfl, rfl⟩ := hcs
    exact ⟨none, 0, 0, rfl, Nat.le_refl _, Nat.zero_le _, .inl rfl⟩
  · simp [Value.cells] at hcs
    obtain ⟨rfl, rfl, rfl⟩ := hcs
    refine ⟨some a, len, cap, rfl, hl, hm, ?_⟩
    have hlz : len ≤ zs.length := by rw [hz]; split <;> omega
    rcases Nat.eq_zero_or_pos len with h0 | h0
    · exact .inl h0
    obtain ⟨b, off, spot⟩ := a
    have hspot : spot = none := by simpa [Addr.add] using World.cell?_spot (hcell 0 (by omega))
    subst hspot
    refine .inr ⟨b, off, rfl, ?_, fun i hi => ?_⟩
    · have := World.block_lt_of_cell? w _ (hcell 0 (by omega))
      simpa [Addr.add_lit] using this
    · have hc := hcell i (by omega)
      rw [Addr.add_lit] at hc
      have hb := range_u8 hwz i
      exact ⟨zs.getD i 0, by simpa [List.getD] using hb.1, by simpa [List.getD] using hb.2, hc⟩

end Go.Proofs.YthhlhogknpgccaaDoor

namespace Go.Proofs.YthhlhogknpgccaaDoor
open Go.ChangeShapes Go.WideShapes Go.ChangeAt Go.RowKit Go.Joins

set_option maxRecDepth 100000 in
theorem liftedFnLeavesAll (os : Os) (started : os.Started) (H : Type) (enc : TypeId × Value → H) :
    ReturnsInHanded {} Tryd.checked os 3 .any (fun w args => (Rows.fnLeavesAllSpec.pre enc Tryd.prog Tryd.f3 [] false w args ∧ laidMetH Tryd.prog laid1 w) ∧ sizedMet enc Tryd.prog Tryd.f3 (OpenSpec.ofChange Rows.fnLeavesAllSpec) false w args)
      (Rows.fnLeavesAllSpec.post enc Tryd.prog Tryd.f3 false true false false) := by
  refine returnsInHanded_of_change_and (C := Tryd.checked) (X := fun w _ => laidMetH Tryd.prog laid1 w) (fun _ _ _ hh h => h.of_heap hh) own started (by kernel_rfl) Tryd.func3
    (ChangeSpec.witness_shaped (enc := enc) (C := Tryd.checked) (os := os) (X := fun w _ => laidMetH Tryd.prog laid1 w) false (World.doorLaid Tryd.prog 28 os) #[.slice none 0 0] 8 rfl (World.shaped_of_RefB (by kernel_rfl) (by kernel_rfl)) (by kernel_rfl) (by kernel_rfl) (by kernel_rfl) (door_met os _)) ?_
  intro W base args ds gs before hval0 hW _ _ hL _
  have hval : ∀ (j : Nat) t v, Tryd.f3.params[j]? = some t → args[j]? = some v → Value.okWide Tryd.prog W .any base t v := hval0
  have hW' := hW
  obtain ⟨p, q, hA0, hV0, rfl, hfz, hnd⟩ := hW
  have hA : DataW.TrodAll enc Tryd.prog W 0 (fun _ => true) true Tryd.f3.params.toList args.toList ds p := hA0
  have hV : DataW.TrodVars enc Tryd.prog W (fun _ => true) [errName] gs q := hV0
  rw [Tryd.params3] at hA hval
  obtain ⟨v0, d0, rfl, rfl, h0⟩ := trodAll_one hA
  have k0 := h0
  have lt0 : ∀ x ∈ p, x.block < W.heap.size := by obtain ⟨m, hm⟩ := k0; exact DataW.trod_lt m _ _ _ hm
  obtain ⟨x, hv, hc, hpos⟩ := of_laid hL
  obtain ⟨rfl, rfl⟩ := hV.unique (vars_read1 enc gErr tErr Tryd.underlying52 hv trivial _)
  obtain ⟨q0, n0, c0, rfl, hc0, hm0, ha0⟩ := open_bytes (hval 0 22 v0 rfl rfl) h0
  clear hA0 hV0 hval0
  refine (walkLeavesAll W q0 n0 c0 ha0 hc0 hm0 x hc hpos).mono fun e W' ⟨he, bel⟩ => ?_
  subst he
  exact ⟨_, rfl, _, _, _, [], p, [.cell 0 0], hW', trodAll_mk1 (shut_bool Tryd.underlying4 _), trodAll_mk1 (Below.trod laidOut (by kernel_rfl) (of_decide_eq_true (by kernel_rfl)) k0 bel lt0), vars_read1 enc gErr tErr Tryd.underlying52 (var_kept bel hpos hv) trivial _, bel.frame _, fun h => by cases h⟩

theorem fnLeavesAll_row : Rows.FnLeavesAllSaid :=
  OpenClaim.holds_of_wide 3 Tryd.f3 rfl rfl rfl rfl rfl rfl rfl ⟨rfl, rfl, rfl, rfl, rfl⟩ rfl rfl rfl rfl rfl (by kernel_rfl) Tryd.func3 (by kernel_rfl)
    (of_decide_eq_true (by kernel_rfl)) (by unfold Func.isWrapper; first | (rw [if_pos (by decide +kernel)]; kernel_rfl) | (rw [if_neg (by decide +kernel)]; exact ⟨rfl, rfl⟩))
    (fun os started H enc _ => liftedFnLeavesAll os started H enc)

/-- THE STATEMENT. -/
theorem fnLeavesAll_holds : Rows.FnLeavesAllCardSaid :=
  Claim7.holds_tied_plain_at .later [] Rows.fnLeavesAllCard.laidKinds true Rows.fnLeavesAllCard.stood.harness true
    fnLeavesAll_row (fun _ h => by cases h) (by kernel_rfl) (fun _ h => by cases h) fnLeavesAll_row_tie rfl ⟨rfl, rfl⟩ (by kernel_rfl) rfl
    (fun f fn hf hfn => by
      obtain rfl : f = 3 := Option.some.inj ((show Tryd.prog.funcNamed Rows.fnLeavesAllRow.func = some 3 by kernel_rfl).symm.trans hf) |>.symm
      obtain rfl : fn = Tryd.f3 := (Option.some.inj (Tryd.func3.symm.trans hfn)).symm
      exact ⟨by kernel_rfl, fun j t ht => by
        rw [Tryd.params3] at ht
        have hm : t ∈ [22] := by simpa using Array.mem_of_getElem? ht
        have hall : ([22].all fun u => !Tryd.prog.wantsStandIn u) = true := by kernel_rfl
        exact (show Tryd.prog.wantsStandIn t = false by simpa using List.all_eq_true.1 hall t hm)⟩)
    (by kernel_rfl)
#print axioms fnLeavesAll_holds
end Go.Proofs.YthhlhogknpgccaaDoor
