/- Contracts of the specification's l2Text and TreeText. -/
import Derived.Test.YtpkdadccapemcaaDoorLeavesSpec
import Derived.Lib.SmallJoins
import Derived.Laws.BytesArg
namespace Go.Proofs.YtpkdadccapemcaaDoor
open Go.RowKit
set_option linter.unusedSimpArgs false
set_option linter.unusedVariables false
attribute [local go_sem ↓] Go.wp_at_zero Go.wp_at_succ

/-- Bytes as a text. -/
def txtB (gs : List Int) : ByteArray := ⟨(gs.map fun n => UInt8.ofNat n.toNat).toArray⟩
theorem txtB_more (gs : List Int) (g : Int) : txtB gs ++ txtB [g] = txtB (gs ++ [g]) := by
  apply ByteArray.ext
  simp [txtB]
theorem txtB_size (gs : List Int) : (txtB gs).size = gs.length := by
  show (txtB gs).data.size = _
  simp [txtB]
/-- The signs of leaves that are not gone, as bytes. -/
def shown (L : List Lf) : List Int := (L.filter fun x => !x.z).map fun x => x.g % 256
theorem shown_len (L : List Lf) : (shown L).length ≤ L.length := by simp [shown]; exact List.length_filter_le _ _
theorem shown_gone {L : List Lf} {x : Lf} (h : x.z = true) : shown (L ++ [x]) = shown L := by simp [shown, List.filter_append, h]
theorem shown_there {L : List Lf} {x : Lf} (h : x.z = false) : shown (L ++ [x]) = shown L ++ [x.g % 256] := by simp [shown, List.filter_append, h]

theorem convT (W : World) (b : Nat) (c : Int) (h : W.cell? ⟨b, 0, none⟩ = some (.int .u8 c)) :
    (convert 70 9 (.slice (some ⟨b, 0, none⟩) 1 1)).run Tryd.prog W = .ok (.string (txtB [c])) W := by
  have h := run_convert_bytes_arg (P := Tryd.prog) W 70 5 Tryd.underlying70 Tryd.underlying5 b 0 1 1 [c] rfl (fun i hi => by
    obtain rfl : i = 0 := by omega
    exact h) 9 Tryd.underlying9
  rw [h]
  rfl

set_option maxRecDepth 100000 in
set_option maxHeartbeats 1000000 in
theorem l2Text_any (L : List Lf) (G c base : Nat) (w : World) (h : w.ownsRow base 63 4 (.slice (some ⟨G, 0, none⟩) L.length c) L.length (lfCells L)) (hn : L.length ≤ 1048576) (hc : L.length ≤ c) :
    Calls Tryd.prog 35 #[.slice (some ⟨G, 0, none⟩) L.length c] w fun e w' => e = .returned (.string (txtB (shown L))) ∧ Below w.heap.size w w' := by
  have hG := (h.lt G rfl).2
  have HC : Hid (∀ j, j < L.length * 4 → w.cell? ⟨G, j, none⟩ = (lfCells L)[j]?) := fun j hj => h.cellAt j hj
  clear h
  go_enter Tryd.func35, Tryd.ntmps35
  go_wp2
  go_loopw [3, 4] (fun v i wr => ∃ k : Nat, k ≤ L.length ∧ i = .int .i64 k ∧ v = .string (txtB (shown (L.take k))) ∧ Below w.heap.size w wr)
    (fun _ i _ => L.length - (intOf i).toNat)
  case atStart => exact ⟨0, Nat.zero_le _, rfl, rfl, Below.refl _ _⟩
  case round =>
    obtain ⟨k, hk, rfl, rfl, hB⟩ := hrel
    have HB := hideIt hB
    by_cases hlt : k < L.length
    · obtain ⟨i0, i1, i2, i3⟩ := lfCells_at L k L[k] (by simp [hlt])
      have y2 := ((bcell hB).1 G _ hG).trans ((HC.out (k * 4 + 2) (by omega)).trans i2)
      have y3 := ((bcell hB).1 G _ hG).trans ((HC.out (k * 4 + 3) (by omega)).trans i3)
      have hGr := Nat.lt_of_lt_of_le hG hB.size
      have htk : L.take (k + 1) = L.take k ++ [L[k]] := List.take_succ_eq_append_getElem hlt
      have hgone : Hid (L[k].z = true → shown (L.take (k + 1)) = shown (L.take k)) := fun h => by rw [htk, shown_gone h]
      have hthere : Hid (L[k].z = false → shown (L.take (k + 1)) = shown (L.take k) ++ [L[k].g % 256]) := fun h => by rw [htk, shown_there h]
      have hsz : (txtB (shown (L.take k))).size ≤ k := by rw [txtB_size]; exact Nat.le_trans (shown_len _) (List.length_take_le _ _)
      have ka := run_string_add_sum (P := Tryd.prog) (w := wr.alloc (.cells #[.int .u8 (L[k].g % 256)] 5)) (txtB (shown (L.take k))) (txtB [L[k].g % 256]) (by rw [txtB_size [_]]; simp; omega)
      have kc := convT (wr.alloc (.cells #[.int .u8 (L[k].g % 256)] 5)) wr.heap.size (L[k].g % 256) (by simp [go_sem])
      generalize L[k].g = xg at *
      generalize L[k].z = xz at *
      have hlt' : (k : Int) < (L.length : Int) := by omega
      have hk0 : (0 : Int) ≤ (k : Int) := by omega
      clear hB i0 i1 i2 i3 htk
      cases xz
      · have hsame := hideIt (hthere.out rfl)
        go_wp2
        exact ⟨⟨k + 1, by omega, by go_num, by rw [hsame.out, ← txtB_more], HB.out.alloc HB.out.size _⟩, by simp [intOf]; omega⟩
      · have hsame := hideIt (hgone.out rfl)
        go_wp2
        exact ⟨⟨k + 1, by omega, by go_num, by rw [hsame.out], HB.out⟩, by simp [intOf]; omega⟩
    · obtain rfl : k = L.length := by omega
      go_wp2
      go_ret
      exact ⟨by rw [List.take_length]; rfl, HB.out⟩

set_option maxRecDepth 100000 in
set_option maxHeartbeats 1000000 in
theorem specTxt_any (l : List Op7) (g cap : Nat) (w : World) (hl : OpsAt w g l) (hn : l.length ≤ 1048576) (hcap : l.length ≤ cap) :
    Calls Tryd.prog 16 #[.slice (some ⟨g, 0, none⟩) l.length cap] w fun e w' => e = .returned (.string (txtB (shown (lfs l (standL l))))) ∧ Below w.heap.size w w' := by
  have HL := hideIt hl
  clear hl
  go_enter Tryd.func16, Tryd.ntmps16
  go_wp2_with fail
  refine (specLeaves_any l _ _ _ HL.out hn hcap).mono ?_
  rintro e w1 ⟨G, c, rfl, hr, hb1⟩
  have hc : (lfs l (standL l)).length ≤ c := by
    rcases hr.2 with ⟨h, _⟩ | ⟨g', c', cur, h, _, _, h2, _⟩
    · cases h
    · cases h; rw [lfs_len]; exact h2
  rw [lfs_cells, ← lfs_len l (standL l)] at hr
  have HR := hideIt hr
  have HB1 := hideIt hb1
  have HN : Hid ((lfs l (standL l)).length ≤ 1048576) := by show (lfs l (standL l)).length ≤ 1048576; rw [lfs_len]; exact Nat.le_trans (stand_len l) hn
  rw [← lfs_len l (standL l)]
  clear hr hb1
  go_wp2_with fail
  refine (l2Text_any (lfs l (standL l)) G c _ _ HR.out HN.out hc).mono ?_
  rintro e w2 ⟨rfl, hb2⟩
  have HB2 := hideIt (Bstep HB1.out hb2)
  clear hb2
  go_wp2
  go_ret
  exact ⟨rfl, HB2.out⟩
end Go.Proofs.YtpkdadccapemcaaDoor
