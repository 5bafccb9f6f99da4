/-
  PROVED: the text of drawn things is as long as signs were put that nothing took away, all of them letters, and the program's TreeText answers as the specification's (the given card of FnTextLong), for every input; the one listed variable, the program's error, reads as its own initialiser lays it.
-/
import Derived.Test.YthlealhpjjbchaaDoorPackB
import Derived.Test.YthlealhpjjbchaaDoorPackE
import Derived.Test.YthlealhpjjbchaaDoorRows
import Derived.WalkKit
import Derived.ProofKit
import Derived.OpenShut
import Derived.ChangeOld
import Derived.Below
import Derived.Lib.SmallJoins
import Derived.Stop.LaidErr
import Derived.LaidMore
import Derived.Stop.Joined
import Derived.Test.YthlealhpjjbchaaDoorPackD
import Derived.ChangeSlices
import Derived.Test.YthlealhpjjbchaaDoorTie
import Derived.Test.YthlealhpjjbchaaDoorCards
import Derived.SevenTiedAt
namespace Go.Proofs.YthlealhpjjbchaaDoor
open Go.RowKit
set_option linter.unusedSimpArgs false
set_option linter.unusedVariables false

/-- Is a sign taken away by one of the first k? -/
def goneTo (L : List Op7) (k : Nat) (x : Int × Int) : Bool := (L.take k).any fun o => o.k == 2 && (o.c == x.1 && o.d == x.2)
theorem goneTo_zero (L : List Op7) (x : Int × Int) : goneTo L 0 x = false := by simp [goneTo]
theorem goneTo_all (L : List Op7) (x : Int × Int) : goneTo L L.length x = goneB L x := by simp [goneTo, goneB]
theorem goneTo_more {L : List Op7} {k : Nat} (hk : k < L.length) (x : Int × Int) : goneTo L (k + 1) x = (goneTo L k x || (L[k].k == 2 && (L[k].c == x.1 && L[k].d == x.2))) := by
  unfold goneTo
  rw [List.take_succ_eq_append_getElem hk, List.any_append]
  simp
end Go.Proofs.YthlealhpjjbchaaDoor

namespace Go.Proofs.YthlealhpjjbchaaDoor
open Go.RowKit
set_option linter.unusedSimpArgs false
set_option linter.unusedVariables false
attribute [local go_sem ↓] Go.wp_at_zero Go.wp_at_succ

/-- How many of the first i were put, and are not gone. -/
def putTo (L : List Op7) (i : Nat) : Nat := (L.take i).countP fun o => o.k == 1 && !goneB L (o.a, o.b)
theorem putTo_le (L : List Op7) (i : Nat) : putTo L i ≤ i := Nat.le_trans List.countP_le_length (List.length_take_le _ _)
theorem putTo_yes {L : List Op7} {i : Nat} (hi : i < L.length) (h : (L[i].k == 1 && !goneB L (L[i].a, L[i].b)) = true) : putTo L (i + 1) = putTo L i + 1 := by
  unfold putTo
  rw [List.take_succ_eq_append_getElem hi, List.countP_append]
  simp only [List.countP_singleton]
  rw [if_pos h]
theorem putTo_no {L : List Op7} {i : Nat} (hi : i < L.length) (h : (L[i].k == 1 && !goneB L (L[i].a, L[i].b)) = false) : putTo L (i + 1) = putTo L i := by
  unfold putTo
  rw [List.take_succ_eq_append_getElem hi, List.countP_append]
  simp only [List.countP_singleton]
  rw [if_neg (by rw [h]; decide)]
  rfl
theorem shown_count (l A : List Op7) : (shown (lfs l A)).length = A.countP fun o => !goneB l (o.a, o.b) := by
  unfold shown lfs
  rw [List.length_map, List.filter_map, List.length_map, List.countP_eq_length_filter]
  rfl
theorem putTo_all {l : List Op7} (h : opsB l = true) : putTo l l.length = (shown (lfs l (standL l))).length := by
  rw [shown_count]
  unfold standL
  rw [if_pos h, (all_perm h).countP_eq]
  unfold putTo
  rw [List.take_length, List.countP_filter]
  congr 1
  funext o
  cases o.k == 1 <;> simp

theorem shown_sign {F : List Lf} (h : ∀ x ∈ F, 97 ≤ x.g ∧ x.g ≤ 122) {j : Nat} (hj : j < (shown F).length) : ∃ g : Nat, (shown F)[j]? = some (g : Int) ∧ 97 ≤ g ∧ g ≤ 122 := by
  have hm : (shown F)[j] ∈ shown F := List.getElem_mem hj
  have he : (shown F)[j]? = some (shown F)[j] := by simp [hj]
  generalize (shown F)[j] = v at *
  unfold shown at hm
  obtain ⟨x, hx, rfl⟩ := List.mem_map.1 hm
  have := h x (List.mem_filter.1 hx).1
  exact ⟨x.g.toNat, by rw [he]; congr 1; omega, by omega, by omega⟩

set_option maxRecDepth 100000 in
set_option maxHeartbeats 4000000 in
theorem walkTextLong (w : World) (p : Option Addr) (n cap : Nat) (h : ArgBytes w p n) (hcap : n ≤ cap) (hmax : cap ≤ maxLen) (x : Addr)
    (he : w.cell? ⟨0, 0, none⟩ = some (.iface 134 (.pointer (some x)))) (h0 : 0 < w.heap.size) :
    Calls Tryd.prog 6 #[.slice p n cap] w fun e w' => e = .returned (.bool true) ∧ Below w.heap.size w w' := by
  have H := hideIt h
  clear h
  by_cases hn : n ≤ 1048576
  · go_enter Tryd.func6, Tryd.ntmps6
    go_wp2_with fail
    refine (drawTxt_any _ p n cap H.out hcap hn).mono ?_
    rintro e w1 ⟨G, c, _, rfl, ⟨L, rfl, hL, hS⟩, hb1⟩
    have HS := hideIt hS
    have HB := hideIt hb1
    clear hS hb1
    go_wp2_with fail
    refine (implTxt_any L G c x _ HS.out.at (by omega) HS.out.cap (errB HB.out h0 he) (posB HB.out h0)).mono ?_
    rintro e w2 ⟨rfl, hb2⟩
    have HS := hideIt (HS.out.below hb2)
    have HB := hideIt (Bstep HB.out hb2)
    clear hb2
    cases ho : opsB L
    · have HO := hideIt ho
      clear ho
      go_wp2_with (first
        | (go_at_call 18; refine (specTxt_any L G c _ HS.out.at (by omega) HS.out.cap).mono ?_; rintro e w3 ⟨rfl, hb3⟩; have HS := hideIt (HS.out.below hb3); have HB := hideIt (Bstep HB.out hb3); clear hb3)
        | (go_at_call 11; refine (specOps_any L G c _ HS.out.at (by omega) HS.out.cap).mono ?_; rintro e w3 ⟨rfl, hb3⟩; rw [HO.out]; have HS := hideIt (HS.out.below hb3); have HB := hideIt (Bstep HB.out hb3); clear hb3))
      go_ret
      exact ⟨rfl, HB.out⟩
    · have HO := hideIt ho
      have HPT := hideIt (putTo_all ho)
      clear ho
      have HSG : Hid (∀ x ∈ lfs L (standL L), 97 ≤ x.g ∧ x.g ≤ 122) := fun x hx => lfs_sign hx
      have hF : (lfs L (standL L)).length ≤ 74 := by rw [lfs_len]; exact Nat.le_trans (stand_len L) hL
      go_wp2_with (first
        | (go_at_call 18; refine (specTxt_any L G c _ HS.out.at (by omega) HS.out.cap).mono ?_; rintro e w3 ⟨rfl, hb3⟩; have HS := hideIt (HS.out.below hb3); have HB := hideIt (Bstep HB.out hb3); clear hb3)
        | (go_at_call 11; refine (specOps_any L G c _ HS.out.at (by omega) HS.out.cap).mono ?_; rintro e w3 ⟨rfl, hb3⟩; rw [HO.out]; have HS := hideIt (HS.out.below hb3); have HB := hideIt (Bstep HB.out hb3); clear hb3))
      generalize lfs L (standL L) = F at *
      have hsz : (txtB (shown F)).size = (shown F).length := txtB_size _
      have hsl := shown_len F
      go_loopw [5, 6] (fun v i wr => ∃ k : Nat, k ≤ L.length ∧ i = .int .i64 k ∧ v = .int .i64 (putTo L k : Nat) ∧ OwnOps wr w.heap.size G c L ∧ Below w.heap.size w wr) (fun _ i _ => L.length - (intOf i).toNat)
      case atStart => exact ⟨0, Nat.zero_le _, rfl, by simp [putTo], HS.out, HB.out⟩
      case round =>
        clear HS HB
        obtain ⟨k, hk, rfl, rfl, hS, hB⟩ := hrel
        have HS := hideIt hS
        have HB := hideIt hB
        clear hS hB
        have hpl := putTo_le L k
        by_cases hlt : k < L.length
        · have hlt' : (k : Int) < (L.length : Int) := by omega
          have hk0 : (0 : Int) ≤ (k : Int) := by omega
          have hpk : L[k]? = some L[k] := by simp [hlt]
          have HY : Hid ((L[k].k == 1 && !goneB L (L[k].a, L[k].b)) = true → putTo L (k + 1) = putTo L k + 1) := putTo_yes hlt
          have HN : Hid ((L[k].k == 1 && !goneB L (L[k].a, L[k].b)) = false → putTo L (k + 1) = putTo L k) := putTo_no hlt
          generalize L[k] = o at *
          go_wp2
          go_loopw [7, 8] (fun v i wr => ∃ j : Nat, j ≤ L.length ∧ i = .int .i64 j ∧ v = .bool (goneTo L j (o.a, o.b)) ∧ OwnOps wr w.heap.size G c L ∧ Below w.heap.size w wr) (fun _ i _ => L.length - (intOf i).toNat)
          case atStart => exact ⟨0, Nat.zero_le _, rfl, by rw [goneTo_zero], HS.out, HB.out⟩
          case round =>
            clear HS HB
            obtain ⟨j, hj, rfl, rfl, hS, hB⟩ := hrel
            have HS := hideIt hS
            have HB := hideIt hB
            clear hS hB
            obtain ⟨y0, y1, y2, _⟩ := HS.out.at.2 k o hpk
            by_cases hjl : j < L.length
            · have hjl' : (j : Int) < (L.length : Int) := by omega
              have hj0 : (0 : Int) ≤ (j : Int) := by omega
              obtain ⟨z0, z1, z2, z3, z4, _⟩ := HS.out.at.2 j L[j] (by simp [hjl])
              have HM := hideIt (goneTo_more hjl (o.a, o.b))
              generalize L[j] = q at *
              cases hgt : goneTo L j (o.a, o.b)
              · by_cases hk2 : q.k = 2
                · by_cases hc : q.c = o.a
                  · by_cases hd : q.d = o.b
                    · have HE : Hid (goneTo L (j + 1) (o.a, o.b) = true) := by show goneTo L (j + 1) (o.a, o.b) = true; rw [HM.out, hgt]; simp [hk2, hc, hd]
                      clear HM hgt
                      go_wp2
                      go_quiet (fail)
                      go_wp2
                      exact ⟨⟨j + 1, by omega, by go_num, by rw [HE.out], HS.out.below (below_drewN (Below.refl _ _) _), below_drewN HB.out _⟩, by simp [intOf]; omega⟩
                    · have HE : Hid (goneTo L (j + 1) (o.a, o.b) = false) := by show goneTo L (j + 1) (o.a, o.b) = false; rw [HM.out, hgt]; simp [hk2, hc, hd]
                      clear HM hgt
                      go_wp2
                      go_quiet (fail)
                      go_wp2
                      exact ⟨⟨j + 1, by omega, by go_num, by rw [HE.out], HS.out.below (below_drewN (Below.refl _ _) _), below_drewN HB.out _⟩, by simp [intOf]; omega⟩
                  · have HE : Hid (goneTo L (j + 1) (o.a, o.b) = false) := by show goneTo L (j + 1) (o.a, o.b) = false; rw [HM.out, hgt]; simp [hk2, hc]
                    clear HM hgt
                    go_wp2
                    go_quiet (fail)
                    go_wp2
                    exact ⟨⟨j + 1, by omega, by go_num, by rw [HE.out], HS.out.below (below_drewN (Below.refl _ _) _), below_drewN HB.out _⟩, by simp [intOf]; omega⟩
                · have HE : Hid (goneTo L (j + 1) (o.a, o.b) = false) := by show goneTo L (j + 1) (o.a, o.b) = false; rw [HM.out, hgt]; simp [hk2]
                  clear HM hgt
                  go_wp2
                  go_quiet (fail)
                  go_wp2
                  exact ⟨⟨j + 1, by omega, by go_num, by rw [HE.out], HS.out.below (below_drewN (Below.refl _ _) _), below_drewN HB.out _⟩, by simp [intOf]; omega⟩
              · have HE : Hid (goneTo L (j + 1) (o.a, o.b) = true) := by show goneTo L (j + 1) (o.a, o.b) = true; rw [HM.out, hgt]; rfl
                clear HM hgt
                go_wp2
                go_quiet (fail)
                go_wp2
                exact ⟨⟨j + 1, by omega, by go_num, by rw [HE.out], HS.out.below (below_drewN (Below.refl _ _) _), below_drewN HB.out _⟩, by simp [intOf]; omega⟩
            · obtain rfl : j = L.length := by omega
              rw [goneTo_all]
              cases hgt : goneB L (o.a, o.b)
              · by_cases hk1 : o.k = 1
                · have HE := hideIt (HY.out (by rw [hgt]; simp [hk1]))
                  clear hgt HY HN
                  go_wp2
                  exact ⟨⟨k + 1, by omega, by go_num, by rw [HE.out]; rfl, HS.out, HB.out⟩, by simp [intOf]; omega⟩
                · have HE := hideIt (HN.out (by simp [hk1]))
                  clear hgt HY HN
                  go_wp2
                  exact ⟨⟨k + 1, by omega, by go_num, by rw [HE.out], HS.out, HB.out⟩, by simp [intOf]; omega⟩
              · have HE := hideIt (HN.out (by rw [hgt]; simp))
                clear hgt HY HN
                by_cases hk1 : o.k = 1
                all_goals
                  go_wp2
                  exact ⟨⟨k + 1, by omega, by go_num, by rw [HE.out], HS.out, HB.out⟩, by simp [intOf]; omega⟩
        · obtain rfl : k = L.length := by omega
          rw [HPT.out]
          go_wp2
          go_loopw [9] (fun i wr => ∃ j : Nat, j ≤ (shown F).length ∧ i = .int .i64 j ∧ Below w.heap.size w wr) (fun i _ => (shown F).length - (intOf i).toNat)
          case atStart => exact ⟨0, Nat.zero_le _, rfl, HB.out⟩
          case round =>
            clear HB
            obtain ⟨j, hj, rfl, hB⟩ := hrel
            have HB := hideIt hB
            clear hB
            by_cases hjl : j < (shown F).length
            · have hjl' : (j : Int) < (((shown F).length : Nat) : Int) := by omega
              have hjs' : (j : Int) < ((txtB (shown F)).size : Int) := by rw [hsz]; omega
              have hj0 : (0 : Int) ≤ (j : Int) := by omega
              obtain ⟨gN, hg1, hg2, hg3⟩ := shown_sign HSG.out hjl
              have hval := txtB_get (gs := shown F) (i := j) (v := gN) (by rw [hsz]; exact hjl) hg1 (by omega)
              clear hg1
              go_wp2
              exact ⟨⟨j + 1, by omega, by go_num, HB.out⟩, by simp [intOf]; omega⟩
            · obtain rfl : j = (shown F).length := by omega
              go_wp2
              go_ret
              exact ⟨rfl, HB.out⟩
  · go_enter Tryd.func6, Tryd.ntmps6
    unfold maxLen at *
    have hn' : (1048576 : Int) < (n : Int) := by omega
    go_wp2
    go_ret
    exact ⟨rfl, Below.refl _ _⟩
end Go.Proofs.YthlealhpjjbchaaDoor

namespace Go.Proofs.YthlealhpjjbchaaDoor
open Go.ChangeShapes Go.WideShapes Go.ChangeAt Go.RowKit Go.Joins

theorem own : ownKnob Tryd.prog.godebug = none := by kernel_rfl
theorem laidOut : laidOutB Tryd.prog = true := by kernel_rfl
theorem cells_int : Tryd.prog.cellsOf 3 = 1 := by kernel_rfl

/-- The name of the one listed variable. -/
abbrev errName : String := Rows.fnOpsSeenSpec.vars.headD ""
/-- What the rows list. -/
abbrev laid1 : List (String × DataW Unit) := Rows.fnOpsSeenRow.laid
theorem gErr : Tryd.prog.globalNamed errName = some 0 := by kernel_rfl
theorem tErr : (Tryd.prog.globals[0]?).map (·.type) = some 48 := by kernel_rfl
def nmOf : DataW Unit → String
  | .iface n _ => n
  | _ => ""
theorem star : "*" ++ "errors.errorString" = nmOf Rows.laid_loop_example_tatting_impl_errNoThing := by decide
theorem nameErr (u : TypeId) (h : Tryd.prog.typeName? 3 u = some (nmOf Rows.laid_loop_example_tatting_impl_errNoThing)) : u = 134 :=
  typeName_ptr_named (nm := "errors.errorString") (by rw [star]; kernel_rfl) (by kernel_rfl) (by decide) u (by rw [star]; exact h)

theorem door_met (os : Os) (args : Array Value) : laidMetH Tryd.prog laid1 ((World.doorLaid Tryd.prog 28 os).forCall (fun _ _ => 0) ⟨#[], args, []⟩).memory :=
  laidMetH_of_parts3 (fuel := 8) (laidMet_of_run' 8 (by kernel_rfl) (by kernel_rfl)) (by kernel_rfl) (by kernel_rfl)

/-- WHAT THE CONDITION GIVES THE WALKS: the one error's cell. -/
theorem of_laid {W : World} (h : laidMetH Tryd.prog laid1 W) : ∃ x : Addr, W.var? Tryd.prog errName = some #[.iface 134 (.pointer (some x))] ∧ W.cell? ⟨0, 0, none⟩ = some (.iface 134 (.pointer (some x))) ∧ 0 < W.heap.size := by
  rw [MakeChecks.laidMetH_plain _ _ _ (by kernel_rfl)] at h
  obtain ⟨x, s, hv, hc, _, _⟩ := laid_sentinel h gErr tErr Tryd.underlying48 nameErr Tryd.underlying134 Tryd.underlying160 rfl rfl Tryd.underlying9 (by kernel_rfl) (by kernel_rfl)
  have hcell : W.cell? ⟨0, 0, none⟩ = some (.iface 134 (.pointer (some x))) := by simpa using World.var?_cell gErr hv 0
  refine ⟨x, hv, hcell, ?_⟩
  rcases Nat.eq_zero_or_pos W.heap.size with h0 | h0
  · exfalso
    simp [World.cell?, Array.eq_empty_of_size_eq_zero h0] at hcell
  · exact h0

/-- The variable holds what it held, where nothing that was there has turned. -/
theorem var_kept {W W' : World} {x : Value} (hb : Below W.heap.size W W') (h0 : 0 < W.heap.size) (hv : W.var? Tryd.prog errName = some #[x]) : W'.var? Tryd.prog errName = some #[x] := by
  unfold World.var? at hv ⊢
  rw [gErr] at hv ⊢
  simp only [Option.bind_some] at hv ⊢
  rw [hb.block 0 h0]
  exact hv
end Go.Proofs.YthlealhpjjbchaaDoor

namespace Go.Proofs.YthlealhpjjbchaaDoor
open Go.ChangeShapes Go.WideShapes Go.ChangeAt Go.RowKit Go.Joins

theorem cells_byte : Tryd.prog.cellsOf 5 = 1 := by kernel_rfl

set_option maxRecDepth 100000 in
theorem open_bytes {H : Type} {enc : TypeId × Value → H} {w : World} {r : Reach} {b0 : Nat} {spare : Nat → Bool} {held : Bool} {v : Value} {d : DataW H} {p : List MemPlace}
    (hv : Value.okWide Tryd.prog w r b0 22 v) (h : DataW.Trod enc Tryd.prog w 0 spare held 22 v d p) :
    ∃ (q : Option Addr) (n cap : Nat), v = .slice q n cap ∧ n ≤ cap ∧ cap ≤ maxLen ∧ ArgBytes w q n := by
  obtain ⟨q, len, cap, rfl⟩ := okWide_slice Tryd.underlying22 hv
  obtain ⟨fuel, hf⟩ := h
  rcases open_ints Tryd.underlying22 Tryd.underlying5 cells_byte hf with ⟨hcs, _⟩ | ⟨a, len', cap', zs, hcs, _, hl, hm, hz, _, hcell, hwz⟩
  · simp [Value.cells] at hcs
    obtain ⟨rfl, rfl, rfl⟩ := hcs
    exact ⟨none, 0, 0, rfl, Nat.le_refl _, Nat.zero_le _, .inl rfl⟩
  · simp [Value.cells] at hcs
    obtain ⟨rfl, rfl, rfl⟩ := hcs
    refine ⟨some a, len, cap, rfl, hl, hm, ?_⟩
    have hlz : len ≤ zs.length := by rw [hz]; split <;> omega
    rcases Nat.eq_zero_or_pos len with h0 | h0
    · exact .inl h0
    obtain ⟨b, off, spot⟩ := a
    have hspot : spot = none := by simpa [Addr.add] using World.cell?_spot (hcell 0 (by omega))
    subst hspot
    refine .inr ⟨b, off, rfl, ?_, fun i hi => ?_⟩
    · have := World.block_lt_of_cell? w _ (hcell 0 (by omega))
      simpa [Addr.add_lit] using this
    · have hc := hcell i (by omega)
      rw [Addr.add_lit] at hc
      have hb := range_u8 hwz i
      exact ⟨zs.getD i 0, by simpa [List.getD] using hb.1, by simpa [List.getD] using hb.2, hc⟩

end Go.Proofs.YthlealhpjjbchaaDoor

namespace Go.Proofs.YthlealhpjjbchaaDoor
open Go.ChangeShapes Go.WideShapes Go.ChangeAt Go.RowKit Go.Joins

set_option maxRecDepth 100000 in
theorem liftedFnTextLong (os : Os) (started : os.Started) (H : Type) (enc : TypeId × Value → H) :
    ReturnsInHanded {} Tryd.checked os 6 .any (fun w args => (Rows.fnTextLongSpec.pre enc Tryd.prog Tryd.f6 [] false w args ∧ laidMetH Tryd.prog laid1 w) ∧ sizedMet enc Tryd.prog Tryd.f6 (OpenSpec.ofChange Rows.fnTextLongSpec) false w args)
      (Rows.fnTextLongSpec.post enc Tryd.prog Tryd.f6 false true false false) := by
  refine returnsInHanded_of_change_and (C := Tryd.checked) (X := fun w _ => laidMetH Tryd.prog laid1 w) (fun _ _ _ hh h => h.of_heap hh) own started (by kernel_rfl) Tryd.func6
    (ChangeSpec.witness_shaped (enc := enc) (C := Tryd.checked) (os := os) (X := fun w _ => laidMetH Tryd.prog laid1 w) false (World.doorLaid Tryd.prog 28 os) #[.slice none 0 0] 8 rfl (World.shaped_of_RefB (by kernel_rfl) (by kernel_rfl)) (by kernel_rfl) (by kernel_rfl) (by kernel_rfl) (door_met os _)) ?_
  intro W base args ds gs before hval0 hW _ _ hL _
  have hval : ∀ (j : Nat) t v, Tryd.f6.params[j]? = some t → args[j]? = some v → Value.okWide Tryd.prog W .any base t v := hval0
  have hW' := hW
  obtain ⟨p, q, hA0, hV0, rfl, hfz, hnd⟩ := hW
  have hA : DataW.TrodAll enc Tryd.prog W 0 (fun _ => true) true Tryd.f6.params.toList args.toList ds p := hA0
  have hV : DataW.TrodVars enc Tryd.prog W (fun _ => true) [errName] gs q := hV0
  rw [Tryd.params6] at hA hval
  obtain ⟨v0, d0, rfl, rfl, h0⟩ := trodAll_one hA
  have k0 := h0
  have lt0 : ∀ x ∈ p, x.block < W.heap.size := by obtain ⟨m, hm⟩ := k0; exact DataW.trod_lt m _ _ _ hm
  obtain ⟨x, hv, hc, hpos⟩ := of_laid hL
  obtain ⟨rfl, rfl⟩ := hV.unique (vars_read1 enc gErr tErr Tryd.underlying48 hv trivial _)
  obtain ⟨q0, n0, c0, rfl, hc0, hm0, ha0⟩ := open_bytes (hval 0 22 v0 rfl rfl) h0
  clear hA0 hV0 hval0
  refine (walkTextLong W q0 n0 c0 ha0 hc0 hm0 x hc hpos).mono fun e W' ⟨he, bel⟩ => ?_
  subst he
  exact ⟨_, rfl, _, _, _, [], p, [.cell 0 0], hW', trodAll_mk1 (shut_bool Tryd.underlying4 _), trodAll_mk1 (Below.trod laidOut (by kernel_rfl) (of_decide_eq_true (by kernel_rfl)) k0 bel lt0), vars_read1 enc gErr tErr Tryd.underlying48 (var_kept bel hpos hv) trivial _, bel.frame _, fun h => by cases h⟩

theorem fnTextLong_row : Rows.FnTextLongSaid :=
  OpenClaim.holds_of_wide 6 Tryd.f6 rfl rfl rfl rfl rfl rfl rfl ⟨rfl, rfl, rfl, rfl, rfl⟩ rfl rfl rfl rfl rfl (by kernel_rfl) Tryd.func6 (by kernel_rfl)
    (of_decide_eq_true (by kernel_rfl)) (by unfold Func.isWrapper; first | (rw [if_pos (by decide +kernel)]; kernel_rfl) | (rw [if_neg (by decide +kernel)]; exact ⟨rfl, rfl⟩))
    (fun os started H enc _ => liftedFnTextLong os started H enc)

/-- THE STATEMENT. -/
theorem fnTextLong_holds : Rows.FnTextLongCardSaid :=
  Claim7.holds_tied_plain_at .later [] Rows.fnTextLongCard.laidKinds true Rows.fnTextLongCard.stood.harness true
    fnTextLong_row (fun _ h => by cases h) (by kernel_rfl) (fun _ h => by cases h) fnTextLong_row_tie rfl ⟨rfl, rfl⟩ (by kernel_rfl) rfl
    (fun f fn hf hfn => by
      obtain rfl : f = 6 := Option.some.inj ((show Tryd.prog.funcNamed Rows.fnTextLongRow.func = some 6 by kernel_rfl).symm.trans hf) |>.symm
      obtain rfl : fn = Tryd.f6 := (Option.some.inj (Tryd.func6.symm.trans hfn)).symm
      exact ⟨by kernel_rfl, fun j t ht => by
        rw [Tryd.params6] at ht
        have hm : t ∈ [22] := by simpa using Array.mem_of_getElem? ht
        have hall : ([22].all fun u => !Tryd.prog.wantsStandIn u) = true := by kernel_rfl
        exact (show Tryd.prog.wantsStandIn t = false by simpa using List.all_eq_true.1 hall t hm)⟩)
    (by kernel_rfl)
#print axioms fnTextLong_holds
end Go.Proofs.YthlealhpjjbchaaDoor
