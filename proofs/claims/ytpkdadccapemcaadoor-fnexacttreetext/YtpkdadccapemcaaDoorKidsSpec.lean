/- Contracts of the specification's l2Kids and TreeKids. -/
import Derived.Test.YtpkdadccapemcaaDoorKidsOps
import Derived.BigQuiet
import Derived.WalkSmall
import Derived.Deep.RegionHeld3
import Derived.Deep.DrawnRows
namespace Go.Proofs.YtpkdadccapemcaaDoor
open Go.RowKit
set_option linter.unusedSimpArgs false
set_option linter.unusedVariables false
attribute [local go_sem ↓] Go.wp_at_zero Go.wp_at_succ

theorem ownsRow_drewN {w : World} {b : Nat} {T : TypeId} {m : Nat} {v : Value} {n : Nat} {xs : List Value} (h : w.ownsRow b T m v n xs) (q : Nat) : (w.drewN q).ownsRow b T m v n xs := h

set_option maxRecDepth 100000 in
set_option maxHeartbeats 2000000 in
theorem l2Kids_any (l : List Op7) (g cap : Nat) (r m s : Int) (w : World) (hl : OpsAt w g l) (hn : l.length ≤ 1048576) (hcap : l.length ≤ cap) :
    Calls Tryd.prog 36 #[.slice (some ⟨g, 0, none⟩) l.length cap, .agg #[.int .i64 r, .int .i64 m], .int .i64 s] w fun e w' => ∃ v, e = .returned v ∧ w'.ownsRow w.heap.size 38 2 v (kidsL l (r, m, s)).length (idCells (idsOf (kidsL l (r, m, s)))) ∧ Below w.heap.size w w' := by
  have HL := hideIt hl
  have hgw := hl.1
  clear hl
  go_enter Tryd.func36, Tryd.ntmps36
  go_wp2
  obtain ⟨i0, hi, hz0', hz1', hz2⟩ := info_parts infoId
  have HI1 := hideIt hi
  have HZ0 := hideIt hz0'
  have HZ1 := hideIt hz1'
  have HZ2 := hideIt hz2
  clear hi hz0' hz1' hz2
  have HBW : Hid (Below w.heap.size w ((w.alloc (.cells #[.int .i64 r, .int .i64 m] 38)).alloc (.cells #[] 38))) := ((Below.refl _ _).alloc (Nat.le_refl _) _).alloc (by simp) _
  have HST : Hid (((w.alloc (.cells #[.int .i64 r, .int .i64 m] 38)).alloc (.cells #[] 38)).ownsRow (w.heap.size + 1) 38 2 (.slice (some ⟨w.heap.size + 1, 0, none⟩) 0 0) 0 []) := by
    have h := World.ownsRow_made (base := w.heap.size + 1) (e := 38) (size := 2) (w.alloc (.cells #[.int .i64 r, .int .i64 m] 38)) #[] 0 (by simp) (Nat.zero_le _) rfl
    simp only [World.size_alloc] at h
    exact h
  go_loopw [7, 8] (fun v i wr => ∃ k : Nat, k ≤ l.length ∧ i = .int .i64 k ∧ wr.ownsRow (w.heap.size + 1) 38 2 v (kidsL (l.take k) (r, m, s)).length (idCells (idsOf (kidsL (l.take k) (r, m, s)))) ∧ Below (w.heap.size + 1) ((w.alloc (.cells #[.int .i64 r, .int .i64 m] 38)).alloc (.cells #[] 38)) wr)
    (fun _ i _ => l.length - (intOf i).toNat)
  case atStart => exact ⟨0, Nat.zero_le _, rfl, HST.out, Below.refl _ _⟩
  case round =>
    obtain ⟨k, hk, rfl, hrow, hB⟩ := hrel
    have HRW := hideIt hrow
    have HB := hideIt hB
    have hzr : w.heap.size + 2 ≤ wr.heap.size := by have := hB.size; simpa using this
    have hid0 : wr.cell? ⟨w.heap.size, 0, none⟩ = some (.int .i64 r) := by rw [hB.cell (p := ⟨w.heap.size, 0, none⟩) (show w.heap.size < _ by omega)]; simp [go_sem]
    have hid1 : wr.cell? ⟨w.heap.size, 1, none⟩ = some (.int .i64 m) := by rw [hB.cell (p := ⟨w.heap.size, 1, none⟩) (show w.heap.size < _ by omega)]; simp [go_sem]
    have HLr := hideIt (HL.out.below (HBW.out.trans (hB.mono (by omega))) hgw)
    have hgr : g < wr.heap.size := HLr.out.1
    have hwr : w.heap.size < wr.heap.size := by omega
    by_cases hlt : k < l.length
    · obtain ⟨y0, y1, y2, y3, y4, y5, y6⟩ := HLr.out.2 k l[k] (by simp [hlt])
      have htk : l.take (k + 1) = l.take k ++ [l[k]] := List.take_succ_eq_append_getElem hlt
      have hno : Hid (isKid (r, m, s) l[k] = false → kidsL (l.take (k + 1)) (r, m, s) = kidsL (l.take k) (r, m, s)) := fun h => by rw [htk]; exact kids_same h
      have hyes : Hid (isKid (r, m, s) l[k] = true → kidsL (l.take (k + 1)) (r, m, s) = kidsL (l.take k) (r, m, s) ++ [l[k]]) := fun h => by rw [htk]; exact kids_more h
      have hkl := Nat.le_trans (kids_le (l.take k) (r, m, s)) (List.length_take_le k l)
      generalize l[k] = o at *
      have hlt' : (k : Int) < (l.length : Int) := by omega
      have hk0 : (0 : Int) ≤ (k : Int) := by omega
      clear hB hrow htk
      by_cases hk1 : o.k = 1
      · rw [hk1] at y2
        by_cases hc1 : o.c = r
        · rw [hc1] at y3
          by_cases hd1 : o.d = m
          · rw [hd1] at y4
            by_cases hs1 : o.s = s
            · have HKID : Hid (isKid (r, m, s) o = true) := by show isKid (r, m, s) o = true; simp [isKid, hk1, hc1, hd1, hs1]
              rw [hs1] at y5
              clear hk1 hc1 hd1 hs1
              go_wp2
              go_quiet (fail)
              have HNW : Hid (∀ nq j u, ([.int .i64 o.a, .int .i64 o.b] : List Value)[j]? = some u → ((wr.drewN nq).alloc (.cells #[.int .i64 o.a, .int .i64 o.b] 38)).cell? ((⟨wr.heap.size, 0, none⟩ : Addr).add j) = some u) := by
                intro nq j u hj
                exact cells_new (wr.drewN nq) [.int .i64 o.a, .int .i64 o.b] 38 j u hj
              go_wp2_with (first
                | (at_builtin; refine wpList_append_own_at _ rfl _ _ 36 rfl (w.heap.size + 1) 38 i0 _ 2 16 Tryd.underlying36 HI1.out HZ0.out HZ1.out HZ2.out rfl (by decide) _ _ _ rfl (World.ownsRow.alloc (ownsRow_drewN HRW.out _) _) ⟨wr.heap.size, 0, none⟩ 1 1 [.int .i64 o.a, .int .i64 o.b] rfl rfl (HNW.out _) ids_one (by unfold maxLen; omega) (by omega) (by simp; omega) ?_; intro v' w2 hown2 hg2 _ _;
                    have HO2 := hideIt hown2; have HB2 := hideIt (below_grown ((below_drewN HB.out _).alloc (by simp; omega) _) hg2 (by simp; omega) (fun j e => (HRW.out.lt j e).1)); clear hown2 hg2))
              exact ⟨⟨k + 1, by omega, by go_num, by rw [hyes.out HKID.out, idCells_more, List.length_append]; exact HO2.out, HB2.out⟩, by simp [intOf]; omega⟩
            · have HKID : Hid (isKid (r, m, s) o = false) := by show isKid (r, m, s) o = false; simp [isKid, hs1]
              go_wp2
              go_quiet (fail)
              go_wp2
              exact ⟨⟨k + 1, by omega, by go_num, by rw [hno.out HKID.out]; exact HRW.out, below_drewN HB.out _⟩, by simp [intOf]; omega⟩
          · have HKID : Hid (isKid (r, m, s) o = false) := by show isKid (r, m, s) o = false; simp [isKid, hd1]
            go_wp2
            go_quiet (fail)
            go_wp2
            exact ⟨⟨k + 1, by omega, by go_num, by rw [hno.out HKID.out]; exact HRW.out, below_drewN HB.out _⟩, by simp [intOf]; omega⟩
        · have HKID : Hid (isKid (r, m, s) o = false) := by show isKid (r, m, s) o = false; simp [isKid, hc1]
          go_wp2
          go_quiet (fail)
          go_wp2
          exact ⟨⟨k + 1, by omega, by go_num, by rw [hno.out HKID.out]; exact HRW.out, below_drewN HB.out _⟩, by simp [intOf]; omega⟩
      · have HKID : Hid (isKid (r, m, s) o = false) := by show isKid (r, m, s) o = false; simp [isKid, hk1]
        go_wp2
        go_quiet (fail)
        go_wp2
        exact ⟨⟨k + 1, by omega, by go_num, by rw [hno.out HKID.out]; exact HRW.out, below_drewN HB.out _⟩, by simp [intOf]; omega⟩
    · obtain rfl : k = l.length := by omega
      clear hB hrow
      go_wp2
      go_ret
      have h := HRW.out
      rw [List.take_length] at h
      exact ⟨_, rfl, ownsRow_base (Nat.le_succ _) h, HBW.out.trans (HB.out.mono (by omega))⟩
end Go.Proofs.YtpkdadccapemcaaDoor
