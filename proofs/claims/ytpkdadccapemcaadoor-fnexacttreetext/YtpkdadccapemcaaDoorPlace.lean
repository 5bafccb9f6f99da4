/- Contracts of placeOf and isPutting. -/
import Derived.Test.YtpkdadccapemcaaDoorFind
import Derived.BigQuiet
import Derived.WalkSmall
import Derived.Deep.RegionHeld3
import Derived.Deep.RegionWith
import Derived.Deep.DrawnRows
namespace Go.Proofs.YtpkdadccapemcaaDoor
open Go.RowKit
set_option linter.unusedSimpArgs false
set_option linter.unusedVariables false
attribute [local go_sem ↓] Go.wp_at_zero Go.wp_at_succ

def seenAt (n1 n2 n3 r : Int) : Int := if r = 1 then n1 else if r = 2 then n2 else n3
/-- Where the thing of an id stands, by how much each did. -/
def placeI (n1 n2 n3 r m : Int) : Int := if idB r m = true ∧ m ≤ seenAt n1 n2 n3 r then m - 1 + (if r = 1 then 0 else if r = 2 then n1 else n1 + n2) else -1

theorem ints3 {w : World} {g : Nat} {n1 n2 n3 : Int} (h : IntsAt w g [n1, n2, n3]) : w.cell? ⟨g, 0, none⟩ = some (.int .i64 n1) ∧ w.cell? ⟨g, 1, none⟩ = some (.int .i64 n2) ∧ w.cell? ⟨g, 2, none⟩ = some (.int .i64 n3) :=
  ⟨h.2 0 _ rfl, h.2 1 _ rfl, h.2 2 _ rfl⟩

theorem wpAny_skipU {P : Program} {md : Region.Mode} {ops : Array Oper} {Q : Exit → Act → World → Prop} {i : Nat} {oi : Oper} {fuel : Nat} {listed : Array Bool} {a : Act} {w : World} (hi : ops[i]? = some oi)
    (hs : Region.noSelect ops = true) (hf : Region.free md ops listed i = true) (hr : (Region.ready md ops listed).contains i = true)
    (d : Tmp) (hd : oi.dst = some d) (hQ : ∀ c (a : Act) w, Q (.panic c) (a.put (some d) undef) w → Q (.panic c) a w) (hw : Region.wanted oi (yielded ops a.tmps) = false) (he : a.put (some d) undef = a)
    (h : wpAny P md ops Q fuel (listed.setIfInBounds i true) a w) : wpAny P md ops Q (fuel + 1) listed a w :=
  wpAny_take hi hs hf hr (v := undef) (by rw [hd]; exact hQ) (Or.inr ⟨hw, rfl⟩) (by rw [hd, he]; exact h)

theorem keepP {w w1 w2 : World} {g o : Nat} {u v x : Value} (hb : Below w1.heap.size w1 w2) (hg : g < w.heap.size)
    (h : w1.cell? ⟨w.heap.size, 0, none⟩ = some u ∧ w1.cell? ⟨w.heap.size, 1, none⟩ = some v ∧ w1.cell? ⟨g, o, none⟩ = some x ∧ w.heap.size < w1.heap.size ∧ Below w.heap.size w w1) :
    w2.cell? ⟨w.heap.size, 0, none⟩ = some u ∧ w2.cell? ⟨w.heap.size, 1, none⟩ = some v ∧ w2.cell? ⟨g, o, none⟩ = some x ∧ w.heap.size < w2.heap.size ∧ Below w.heap.size w w2 := by
  obtain ⟨h1, h2, h3, h4, h5⟩ := h
  obtain ⟨hc, _⟩ := bcell hb
  exact ⟨(hc _ _ h4).trans h1, (hc _ _ h4).trans h2, (hc _ _ (by omega)).trans h3, Nat.lt_of_lt_of_le h4 hb.size, Bstep h5 hb⟩
theorem keepP0 {w : World} {g o : Nat} {u v x : Value} {t : TypeId} (hg : g < w.heap.size) (hc : w.cell? ⟨g, o, none⟩ = some x) :
    (w.alloc (.cells #[u, v] t)).drew.cell? ⟨w.heap.size, 0, none⟩ = some u ∧ (w.alloc (.cells #[u, v] t)).drew.cell? ⟨w.heap.size, 1, none⟩ = some v ∧ (w.alloc (.cells #[u, v] t)).drew.cell? ⟨g, o, none⟩ = some x ∧ w.heap.size < (w.alloc (.cells #[u, v] t)).drew.heap.size ∧ Below w.heap.size w (w.alloc (.cells #[u, v] t)).drew := by
  have hb : Below w.heap.size w (w.alloc (.cells #[u, v] t)).drew := ((Below.refl _ _).alloc (Nat.le_refl _) _).drew
  exact ⟨by simp [go_sem], by simp [go_sem], ((bcell hb).1 _ _ hg).trans hc, by simp, hb⟩

set_option maxRecDepth 100000 in
set_option maxHeartbeats 2000000 in
theorem place_no (n1 n2 n3 r m : Int) (g : Nat) (w : World) (hl : IntsAt w g [n1, n2, n3]) (hid : idB r m = false) :
    Calls Tryd.prog 63 #[.slice (some ⟨g, 0, none⟩) 3 3, .agg #[.int .i64 r, .int .i64 m]] w fun e w' => e = .returned (.int .i64 (-1)) ∧ Below w.heap.size w w' := by
  obtain ⟨c0, c1, c2⟩ := ints3 hl
  have hgw := hl.1
  clear hl
  go_enter Tryd.func63, Tryd.ntmps63
  go_wp2
  refine wp_region_any (by kernel_rfl) ?_
  change wpAny _ _ _ _ _ _ _ (World.drew _)
  refine wpAny_ready (rs := [0]) (by kernel_rfl) (by simp) ?_
  refine AllReady.cons rfl (fun K hK => ?_) AllReady.nil
  go_simp
  refine hK _ _ ?_
  clear hK K
  refine wpAny_ready (rs := [1]) (by kernel_rfl) (by simp) ?_
  refine AllReady.cons rfl (fun K hK => ?_) AllReady.nil
  go_simp
  go_wp2_with (first | (go_at_call 59; refine (idOk_any _ _ _).mono ?_; rintro e w2 ⟨rfl, hb2⟩; rw [hid]; have HB2 : Hid (Below w.heap.size w w2) := Bstep (by go_grown) hb2; clear hb2))
  refine wpAny_ready (rs := [2]) (by kernel_rfl) (by simp) ?_
  refine AllReady.cons rfl (fun K hK => ?_) AllReady.nil
  go_simp
  refine hK _ _ ?_
  clear hK K
  refine wpAny_ready (rs := [3]) (by kernel_rfl) (by simp) ?_
  refine AllReady.cons rfl (fun K hK => ?_) AllReady.nil
  go_simp
  refine hK _ _ ?_
  clear hK K
  refine wpAny_skipU (i := 4) rfl (by kernel_rfl) (by kernel_rfl) (by kernel_rfl) 12 rfl (fun _ _ _ h => h) (by rfl) (by rfl) ?_
  refine wpAny_skipU (i := 5) rfl (by kernel_rfl) (by kernel_rfl) (by kernel_rfl) 13 rfl (fun _ _ _ h => h) (by rfl) (by rfl) ?_
  refine wpAny_skipU (i := 6) rfl (by kernel_rfl) (by kernel_rfl) (by kernel_rfl) 14 rfl (fun _ _ _ h => h) (by rfl) (by rfl) ?_
  refine wpAny_skipU (i := 7) rfl (by kernel_rfl) (by kernel_rfl) (by kernel_rfl) 15 rfl (fun _ _ _ h => h) (by rfl) (by rfl) ?_
  refine wpAny_skipU (i := 8) rfl (by kernel_rfl) (by kernel_rfl) (by kernel_rfl) 16 rfl (fun _ _ _ h => h) (by rfl) (by rfl) ?_
  refine wpAny_skipU (i := 9) rfl (by kernel_rfl) (by kernel_rfl) (by kernel_rfl) 17 rfl (fun _ _ _ h => h) (by rfl) (by rfl) ?_
  refine wpAny_skipU (i := 10) rfl (by kernel_rfl) (by kernel_rfl) (by kernel_rfl) 18 rfl (fun _ _ _ h => h) (by rfl) (by rfl) ?_
  refine wpAny_skipU (i := 11) rfl (by kernel_rfl) (by kernel_rfl) (by kernel_rfl) 19 rfl (fun _ _ _ h => h) (by rfl) (by rfl) ?_
  refine wpAny_skipU (i := 12) rfl (by kernel_rfl) (by kernel_rfl) (by kernel_rfl) 20 rfl (fun _ _ _ h => h) (by rfl) (by rfl) ?_
  refine wpAny_ready (rs := [13]) (by kernel_rfl) (by simp) ?_
  refine AllReady.cons rfl (fun K hK => ?_) AllReady.nil
  go_simp
  refine hK _ _ ?_
  clear hK K
  refine wpAny_done (by kernel_rfl) ?_ _
  go_wp2
  go_ret
  exact ⟨rfl, HB2.out⟩

set_option maxRecDepth 100000 in
set_option maxHeartbeats 2000000 in
theorem place_1 (n1 n2 n3 m : Int) (g : Nat) (w : World) (hl : IntsAt w g [n1, n2, n3]) (hid : idB 1 m = true) (hn1 : 0 ≤ n1 ∧ n1 ≤ 1048576) (hn2 : 0 ≤ n2 ∧ n2 ≤ 1048576) :
    Calls Tryd.prog 63 #[.slice (some ⟨g, 0, none⟩) 3 3, .agg #[.int .i64 1, .int .i64 m]] w fun e w' => e = .returned (.int .i64 (placeI n1 n2 n3 1 m)) ∧ Below w.heap.size w w' := by
  obtain ⟨c0, c1, c2⟩ := ints3 hl
  have hgw := hl.1
  have hm := (idB_true.1 hid).2.2
  have hw0 : IntKind.i64.wrap 0 = 0 := by decide
  have hw1 : IntKind.i64.wrap 1 = 1 := by decide
  have hw2 : IntKind.i64.wrap 2 = 2 := by decide
  have hpl : Hid (placeI n1 n2 n3 1 m = if m ≤ n1 then m - 1 + (0) else -1) := by
    show placeI n1 n2 n3 1 m = _
    unfold placeI seenAt
    by_cases h : m ≤ n1 <;> simp [hid, h]
  clear hl
  by_cases hle : m ≤ n1
  · go_enter Tryd.func63, Tryd.ntmps63
    go_wp2
    go_region_held3 (fun w' => w'.cell? ⟨w.heap.size, 0, none⟩ = some (.int .i64 1) ∧ w'.cell? ⟨w.heap.size, 1, none⟩ = some (.int .i64 m) ∧ w'.cell? ⟨g, 0, none⟩ = some (.int .i64 n1) ∧ w.heap.size < w'.heap.size ∧ Below w.heap.size w w')
      (first | assumption | exact keepP hb2 hgw (by assumption) | exact keepP0 hgw c0)
      (first | (go_at_call 59; refine (idOk_any _ _ _).mono ?_; rintro e w2 ⟨rfl, hb2⟩; rw [hid]))
    rename_i hS
    have HB2 := hideIt hS.2.2.2.2
    have k0 := hS.1
    have k1 := hS.2.1
    have hcb : ∀ o, w2.cell? ⟨g, o, none⟩ = w.cell? ⟨g, o, none⟩ := fun o => (bcell HB2.out).1 _ _ hgw
    clear hS hb2
    go_wp2
    go_rounds 1
    all_goals
      go_ret
      exact ⟨ret_int (by rw [hpl.out, if_pos (by omega)]; try omega), HB2.out⟩
  · go_enter Tryd.func63, Tryd.ntmps63
    go_wp2
    go_region_held3 (fun w' => w'.cell? ⟨w.heap.size, 0, none⟩ = some (.int .i64 1) ∧ w'.cell? ⟨w.heap.size, 1, none⟩ = some (.int .i64 m) ∧ w'.cell? ⟨g, 0, none⟩ = some (.int .i64 n1) ∧ w.heap.size < w'.heap.size ∧ Below w.heap.size w w')
      (first | assumption | exact keepP hb2 hgw (by assumption) | exact keepP0 hgw c0)
      (first | (go_at_call 59; refine (idOk_any _ _ _).mono ?_; rintro e w2 ⟨rfl, hb2⟩; rw [hid]))
    rename_i hS
    have HB2 := hideIt hS.2.2.2.2
    have k0 := hS.1
    have k1 := hS.2.1
    have hcb : ∀ o, w2.cell? ⟨g, o, none⟩ = w.cell? ⟨g, o, none⟩ := fun o => (bcell HB2.out).1 _ _ hgw
    clear hS hb2
    go_wp2
    go_ret
    exact ⟨ret_int (by rw [hpl.out, if_neg (by omega)]), HB2.out⟩

set_option maxRecDepth 100000 in
set_option maxHeartbeats 2000000 in
theorem place_2 (n1 n2 n3 m : Int) (g : Nat) (w : World) (hl : IntsAt w g [n1, n2, n3]) (hid : idB 2 m = true) (hn1 : 0 ≤ n1 ∧ n1 ≤ 1048576) (hn2 : 0 ≤ n2 ∧ n2 ≤ 1048576) :
    Calls Tryd.prog 63 #[.slice (some ⟨g, 0, none⟩) 3 3, .agg #[.int .i64 2, .int .i64 m]] w fun e w' => e = .returned (.int .i64 (placeI n1 n2 n3 2 m)) ∧ Below w.heap.size w w' := by
  obtain ⟨c0, c1, c2⟩ := ints3 hl
  have hgw := hl.1
  have hm := (idB_true.1 hid).2.2
  have hw0 : IntKind.i64.wrap 0 = 0 := by decide
  have hw1 : IntKind.i64.wrap 1 = 1 := by decide
  have hw2 : IntKind.i64.wrap 2 = 2 := by decide
  have hpl : Hid (placeI n1 n2 n3 2 m = if m ≤ n2 then m - 1 + (n1) else -1) := by
    show placeI n1 n2 n3 2 m = _
    unfold placeI seenAt
    by_cases h : m ≤ n2 <;> simp [hid, h]
  clear hl
  by_cases hle : m ≤ n2
  · go_enter Tryd.func63, Tryd.ntmps63
    go_wp2
    go_region_held3 (fun w' => w'.cell? ⟨w.heap.size, 0, none⟩ = some (.int .i64 2) ∧ w'.cell? ⟨w.heap.size, 1, none⟩ = some (.int .i64 m) ∧ w'.cell? ⟨g, 1, none⟩ = some (.int .i64 n2) ∧ w.heap.size < w'.heap.size ∧ Below w.heap.size w w')
      (first | assumption | exact keepP hb2 hgw (by assumption) | exact keepP0 hgw c1)
      (first | (go_at_call 59; refine (idOk_any _ _ _).mono ?_; rintro e w2 ⟨rfl, hb2⟩; rw [hid]))
    rename_i hS
    have HB2 := hideIt hS.2.2.2.2
    have k0 := hS.1
    have k1 := hS.2.1
    have hcb : ∀ o, w2.cell? ⟨g, o, none⟩ = w.cell? ⟨g, o, none⟩ := fun o => (bcell HB2.out).1 _ _ hgw
    clear hS hb2
    go_wp2
    go_rounds 2
    all_goals
      go_ret
      exact ⟨ret_int (by rw [hpl.out, if_pos (by omega)]; try omega), HB2.out⟩
  · go_enter Tryd.func63, Tryd.ntmps63
    go_wp2
    go_region_held3 (fun w' => w'.cell? ⟨w.heap.size, 0, none⟩ = some (.int .i64 2) ∧ w'.cell? ⟨w.heap.size, 1, none⟩ = some (.int .i64 m) ∧ w'.cell? ⟨g, 1, none⟩ = some (.int .i64 n2) ∧ w.heap.size < w'.heap.size ∧ Below w.heap.size w w')
      (first | assumption | exact keepP hb2 hgw (by assumption) | exact keepP0 hgw c1)
      (first | (go_at_call 59; refine (idOk_any _ _ _).mono ?_; rintro e w2 ⟨rfl, hb2⟩; rw [hid]))
    rename_i hS
    have HB2 := hideIt hS.2.2.2.2
    have k0 := hS.1
    have k1 := hS.2.1
    have hcb : ∀ o, w2.cell? ⟨g, o, none⟩ = w.cell? ⟨g, o, none⟩ := fun o => (bcell HB2.out).1 _ _ hgw
    clear hS hb2
    go_wp2
    go_ret
    exact ⟨ret_int (by rw [hpl.out, if_neg (by omega)]), HB2.out⟩

set_option maxRecDepth 100000 in
set_option maxHeartbeats 2000000 in
theorem place_3 (n1 n2 n3 m : Int) (g : Nat) (w : World) (hl : IntsAt w g [n1, n2, n3]) (hid : idB 3 m = true) (hn1 : 0 ≤ n1 ∧ n1 ≤ 1048576) (hn2 : 0 ≤ n2 ∧ n2 ≤ 1048576) :
    Calls Tryd.prog 63 #[.slice (some ⟨g, 0, none⟩) 3 3, .agg #[.int .i64 3, .int .i64 m]] w fun e w' => e = .returned (.int .i64 (placeI n1 n2 n3 3 m)) ∧ Below w.heap.size w w' := by
  obtain ⟨c0, c1, c2⟩ := ints3 hl
  have hgw := hl.1
  have hm := (idB_true.1 hid).2.2
  have hw0 : IntKind.i64.wrap 0 = 0 := by decide
  have hw1 : IntKind.i64.wrap 1 = 1 := by decide
  have hw2 : IntKind.i64.wrap 2 = 2 := by decide
  have hpl : Hid (placeI n1 n2 n3 3 m = if m ≤ n3 then m - 1 + (n1 + n2) else -1) := by
    show placeI n1 n2 n3 3 m = _
    unfold placeI seenAt
    by_cases h : m ≤ n3 <;> simp [hid, h]
  clear hl
  by_cases hle : m ≤ n3
  · go_enter Tryd.func63, Tryd.ntmps63
    go_wp2
    go_region_held3 (fun w' => w'.cell? ⟨w.heap.size, 0, none⟩ = some (.int .i64 3) ∧ w'.cell? ⟨w.heap.size, 1, none⟩ = some (.int .i64 m) ∧ w'.cell? ⟨g, 2, none⟩ = some (.int .i64 n3) ∧ w.heap.size < w'.heap.size ∧ Below w.heap.size w w')
      (first | assumption | exact keepP hb2 hgw (by assumption) | exact keepP0 hgw c2)
      (first | (go_at_call 59; refine (idOk_any _ _ _).mono ?_; rintro e w2 ⟨rfl, hb2⟩; rw [hid]))
    rename_i hS
    have HB2 := hideIt hS.2.2.2.2
    have k0 := hS.1
    have k1 := hS.2.1
    have hcb : ∀ o, w2.cell? ⟨g, o, none⟩ = w.cell? ⟨g, o, none⟩ := fun o => (bcell HB2.out).1 _ _ hgw
    clear hS hb2
    go_wp2
    go_rounds 3
    all_goals
      go_ret
      exact ⟨ret_int (by rw [hpl.out, if_pos (by omega)]; try omega), HB2.out⟩
  · go_enter Tryd.func63, Tryd.ntmps63
    go_wp2
    go_region_held3 (fun w' => w'.cell? ⟨w.heap.size, 0, none⟩ = some (.int .i64 3) ∧ w'.cell? ⟨w.heap.size, 1, none⟩ = some (.int .i64 m) ∧ w'.cell? ⟨g, 2, none⟩ = some (.int .i64 n3) ∧ w.heap.size < w'.heap.size ∧ Below w.heap.size w w')
      (first | assumption | exact keepP hb2 hgw (by assumption) | exact keepP0 hgw c2)
      (first | (go_at_call 59; refine (idOk_any _ _ _).mono ?_; rintro e w2 ⟨rfl, hb2⟩; rw [hid]))
    rename_i hS
    have HB2 := hideIt hS.2.2.2.2
    have k0 := hS.1
    have k1 := hS.2.1
    have hcb : ∀ o, w2.cell? ⟨g, o, none⟩ = w.cell? ⟨g, o, none⟩ := fun o => (bcell HB2.out).1 _ _ hgw
    clear hS hb2
    go_wp2
    go_ret
    exact ⟨ret_int (by rw [hpl.out, if_neg (by omega)]), HB2.out⟩

theorem place_any (n1 n2 n3 r m : Int) (g : Nat) (w : World) (hl : IntsAt w g [n1, n2, n3]) (hn1 : 0 ≤ n1 ∧ n1 ≤ 1048576) (hn2 : 0 ≤ n2 ∧ n2 ≤ 1048576) :
    Calls Tryd.prog 63 #[.slice (some ⟨g, 0, none⟩) 3 3, .agg #[.int .i64 r, .int .i64 m]] w fun e w' => e = .returned (.int .i64 (placeI n1 n2 n3 r m)) ∧ Below w.heap.size w w' := by
  cases hid : idB r m
  · have e : placeI n1 n2 n3 r m = -1 := by unfold placeI; rw [if_neg (by rw [hid]; simp)]
    rw [e]
    exact place_no n1 n2 n3 r m g w hl hid
  · have hr := idB_true.1 hid
    obtain rfl | rfl | rfl : r = 1 ∨ r = 2 ∨ r = 3 := by omega
    · exact place_1 n1 n2 n3 m g w hl hid hn1 hn2
    · exact place_2 n1 n2 n3 m g w hl hid hn1 hn2
    · exact place_3 n1 n2 n3 m g w hl hid hn1 hn2
end Go.Proofs.YtpkdadccapemcaaDoor
