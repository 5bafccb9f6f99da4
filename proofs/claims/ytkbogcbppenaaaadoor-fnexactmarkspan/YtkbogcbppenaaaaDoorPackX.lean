/- The contract of the program's TreeText. -/
import Derived.Test.YtkbogcbppenaaaaDoorPackB
import Derived.Lib.SmallJoins
import Derived.Laws.BytesArg
import Derived.Test.YtkbogcbppenaaaaDoorPackC
namespace Go.Proofs.YtkbogcbppenaaaaDoor
open Go.RowKit
set_option linter.unusedSimpArgs false
set_option linter.unusedVariables false
attribute [local go_sem ↓] Go.wp_at_zero Go.wp_at_succ

/-- Bytes as a text. -/
def txtB (gs : List Int) : ByteArray := ⟨(gs.map fun n => UInt8.ofNat n.toNat).toArray⟩
theorem txtB_more (gs : List Int) (g : Int) : txtB gs ++ txtB [g] = txtB (gs ++ [g]) := by
  apply ByteArray.ext
  simp [txtB]
theorem txtB_size (gs : List Int) : (txtB gs).size = gs.length := by
  show (txtB gs).data.size = _
  simp [txtB]
/-- The signs of leaves that are not gone, as bytes. -/
def shown (L : List Lf) : List Int := (L.filter fun x => !x.z).map fun x => x.g % 256
theorem shown_len (L : List Lf) : (shown L).length ≤ L.length := by simp [shown]; exact List.length_filter_le _ _
theorem shown_gone {L : List Lf} {x : Lf} (h : x.z = true) : shown (L ++ [x]) = shown L := by simp [shown, List.filter_append, h]
theorem shown_there {L : List Lf} {x : Lf} (h : x.z = false) : shown (L ++ [x]) = shown L ++ [x.g % 256] := by simp [shown, List.filter_append, h]

theorem convT (W : World) (b : Nat) (c : Int) (h : W.cell? ⟨b, 0, none⟩ = some (.int .u8 c)) :
    (convert 146 9 (.slice (some ⟨b, 0, none⟩) 1 1)).run Tryd.prog W = .ok (.string (txtB [c])) W := by
  have h := run_convert_bytes_arg (P := Tryd.prog) W 146 5 Tryd.underlying146 Tryd.underlying5 b 0 1 1 [c] rfl (fun i hi => by
    obtain rfl : i = 0 := by omega
    exact h) 9 Tryd.underlying9
  rw [h]
  rfl

set_option maxRecDepth 100000 in
set_option maxHeartbeats 1000000 in
theorem l2Text_any (L : List Lf) (G c base : Nat) (w : World) (h : w.ownsRow base 81 4 (.slice (some ⟨G, 0, none⟩) L.length c) L.length (lfCells L)) (hn : L.length ≤ 1048576) (hc : L.length ≤ c) :
    Calls Tryd.prog 101 #[.slice (some ⟨G, 0, none⟩) L.length c] w fun e w' => e = .returned (.string (txtB (shown L))) ∧ Below w.heap.size w w' := by
  have hG := (h.lt G rfl).2
  have HC : Hid (∀ j, j < L.length * 4 → w.cell? ⟨G, j, none⟩ = (lfCells L)[j]?) := fun j hj => h.cellAt j hj
  clear h
  go_enter Tryd.func101, Tryd.ntmps101
  go_wp2
  go_loopw [3, 4] (fun v i wr => ∃ k : Nat, k ≤ L.length ∧ i = .int .i64 k ∧ v = .string (txtB (shown (L.take k))) ∧ Below w.heap.size w wr)
    (fun _ i _ => L.length - (intOf i).toNat)
  case atStart => exact ⟨0, Nat.zero_le _, rfl, rfl, Below.refl _ _⟩
  case round =>
    obtain ⟨k, hk, rfl, rfl, hB⟩ := hrel
    have HB := hideIt hB
    by_cases hlt : k < L.length
    · obtain ⟨i0, i1, i2, i3⟩ := lfCells_at L k L[k] (by simp [hlt])
      have y2 := ((bcell hB).1 G _ hG).trans ((HC.out (k * 4 + 2) (by omega)).trans i2)
      have y3 := ((bcell hB).1 G _ hG).trans ((HC.out (k * 4 + 3) (by omega)).trans i3)
      have hGr := Nat.lt_of_lt_of_le hG hB.size
      have htk : L.take (k + 1) = L.take k ++ [L[k]] := List.take_succ_eq_append_getElem hlt
      have hgone : Hid (L[k].z = true → shown (L.take (k + 1)) = shown (L.take k)) := fun h => by rw [htk, shown_gone h]
      have hthere : Hid (L[k].z = false → shown (L.take (k + 1)) = shown (L.take k) ++ [L[k].g % 256]) := fun h => by rw [htk, shown_there h]
      have hsz : (txtB (shown (L.take k))).size ≤ k := by rw [txtB_size]; exact Nat.le_trans (shown_len _) (List.length_take_le _ _)
      have ka := run_string_add_sum (P := Tryd.prog) (w := wr.alloc (.cells #[.int .u8 (L[k].g % 256)] 5)) (txtB (shown (L.take k))) (txtB [L[k].g % 256]) (by rw [txtB_size [_]]; simp; omega)
      have kc := convT (wr.alloc (.cells #[.int .u8 (L[k].g % 256)] 5)) wr.heap.size (L[k].g % 256) (by simp [go_sem])
      generalize L[k].g = xg at *
      generalize L[k].z = xz at *
      have hlt' : (k : Int) < (L.length : Int) := by omega
      have hk0 : (0 : Int) ≤ (k : Int) := by omega
      clear hB i0 i1 i2 i3 htk
      cases xz
      · have hsame := hideIt (hthere.out rfl)
        go_wp2
        exact ⟨⟨k + 1, by omega, by go_num, by rw [hsame.out, ← txtB_more], HB.out.alloc HB.out.size _⟩, by simp [intOf]; omega⟩
      · have hsame := hideIt (hgone.out rfl)
        go_wp2
        exact ⟨⟨k + 1, by omega, by go_num, by rw [hsame.out], HB.out⟩, by simp [intOf]; omega⟩
    · obtain rfl : k = L.length := by omega
      go_wp2
      go_ret
      exact ⟨by rw [List.take_length]; rfl, HB.out⟩

set_option maxRecDepth 100000 in
set_option maxHeartbeats 1000000 in
theorem specTxt_any (l : List Op7) (g cap : Nat) (w : World) (hl : OpsAt w g l) (hn : l.length ≤ 1048576) (hcap : l.length ≤ cap) :
    Calls Tryd.prog 66 #[.slice (some ⟨g, 0, none⟩) l.length cap] w fun e w' => e = .returned (.string (txtB (shown (lfs l (standL l))))) ∧ Below w.heap.size w w' := by
  have HL := hideIt hl
  clear hl
  go_enter Tryd.func66, Tryd.ntmps66
  go_wp2_with fail
  refine (specLeaves_any l _ _ _ HL.out hn hcap).mono ?_
  rintro e w1 ⟨G, c, rfl, hr, hb1⟩
  have hc : (lfs l (standL l)).length ≤ c := by
    rcases hr.2 with ⟨h, _⟩ | ⟨g', c', cur, h, _, _, h2, _⟩
    · cases h
    · cases h; rw [lfs_len]; exact h2
  rw [lfs_cells, ← lfs_len l (standL l)] at hr
  have HR := hideIt hr
  have HB1 := hideIt hb1
  have HN : Hid ((lfs l (standL l)).length ≤ 1048576) := by show (lfs l (standL l)).length ≤ 1048576; rw [lfs_len]; exact Nat.le_trans (stand_len l) hn
  rw [← lfs_len l (standL l)]
  clear hr hb1
  go_wp2_with fail
  refine (l2Text_any (lfs l (standL l)) G c _ _ HR.out HN.out hc).mono ?_
  rintro e w2 ⟨rfl, hb2⟩
  have HB2 := hideIt (Bstep HB1.out hb2)
  clear hb2
  go_wp2
  go_ret
  exact ⟨rfl, HB2.out⟩
end Go.Proofs.YtkbogcbppenaaaaDoor

namespace Go.Proofs.YtkbogcbppenaaaaDoor
open Go.RowKit Go.Shelf
set_option linter.unusedSimpArgs false
set_option linter.unusedVariables false
attribute [local go_sem] Oper.semAt_some

theorem infoU8 : (Tryd.prog.info? 5).map (fun i => (i.zero, i.size, i.bytes)) = some (some (.int .u8 0), 1, 1) := by kernel_rfl

/-- A row of bytes, as a text. -/
theorem conv_row {W : World} {base : Nat} {v : Value} {gs : List Int} (h : W.ownsRow base 5 1 v gs.length (gs.map (.int .u8))) : (convert 146 9 v).run Tryd.prog W = .ok (.string (txtB gs)) W := by
  have hat : ∀ j, j < gs.length * 1 → ∀ g c, v = .slice (some ⟨g, 0, none⟩) gs.length c → W.cell? ⟨g, j, none⟩ = (gs.map (Value.int .u8))[j]? := fun j hj g c e => by subst e; exact h.cellAt j hj
  rcases h.2 with ⟨rfl, h0⟩ | ⟨g, c, cur, rfl, _⟩
  · rw [run_convert_bytes_nil (P := Tryd.prog) W 146 5 Tryd.underlying146 Tryd.underlying5 0 0 9 Tryd.underlying9]
    cases gs with
    | nil => rfl
    | cons a t => simp at h0
  · rw [run_convert_bytes_arg (P := Tryd.prog) W 146 5 Tryd.underlying146 Tryd.underlying5 g 0 gs.length c gs rfl (fun i hi => by
      rw [Nat.zero_add, hat i (by omega) g c rfl]
      simp [List.getD, hi]) 9 Tryd.underlying9]
    rfl

set_option maxRecDepth 100000 in
set_option maxHeartbeats 2000000 in
theorem implTxt_in (l : List Op7) (g cap n : Nat) (h3 : 3 ≤ n) (x : Addr) (w : World) (hl : OpsAt w g l) (hn : l.length ≤ 1048576) (hcap : l.length ≤ cap)
    (he : w.cell? ⟨0, 0, none⟩ = some (.iface 191 (.pointer (some x)))) (h0 : 0 < w.heap.size) :
    CallsIn Fence.wide n Tryd.prog 67 #[.slice (some ⟨g, 0, none⟩) l.length cap] w fun e w' => e = .returned (.string (txtB (shown (lfs l (standL l))))) ∧ Below w.heap.size w w' := by
  have HL := hideIt hl
  have h1 : 1 ≤ n := by omega
  clear hl
  refine callsIn_of_wp_marks Tryd.func67 rfl trivial ?_ rfl
  simp only [Tryd.ntmps67, List.size_toArray, List.length_cons, List.length_nil, Nat.reduceAdd, Nat.reduceSub, Array.replicate_succ, Array.replicate_zero, List.push_toArray, List.append_toArray, List.nil_append, List.cons_append]
  gi_wp2
  refine ⟨trivial, ?_⟩
  refine (callsIn_wide.2 (treeOf_any l g cap x _ HL.out hn hcap he h0)).mono ?_
  rintro e w1 ⟨(⟨ht, b1, b2, b3, base, rfl, hT⟩ | ⟨ht, rfl⟩), hb1⟩
  all_goals
    have HO := hideIt ht
    have HB1 := hideIt hb1
    have herr1 : w1.cell? ⟨0, 0, none⟩ = some (.iface 191 (.pointer (some x))) := errB HB1.out h0 he
    have hp1 : 0 < w1.heap.size := posB HB1.out h0
    clear ht hb1
  · have HTT := hideIt hT
    have HE : Hid (standL l = allO l) := by show standL l = allO l; unfold standL; rw [HO.out]; rfl
    clear hT
    gi_wp2
    refine ⟨trivial, ?_⟩
    refine (callsIn_wide.2 (is_nil x _)).mono ?_
    rintro e w'' ⟨rfl, rfl⟩
    gi_wp2
    refine ⟨trivial, ?_⟩
    refine (callsIn_wide.2 (leaves_any _ _ _ _ ⟨rfl, rfl, rfl⟩ b1 b2 b3 ⟨rfl, rfl, rfl⟩)).mono ?_
    rintro e w2 ⟨rfl, rfl⟩
    gi_wp2
    obtain ⟨Wb, hWb⟩ : ∃ Wb, (((w1.alloc (.cells #[.map (some b1), .map (some b2), .map (some b3)] 86)).alloc (.cells #[.slice none 0 0] 146)).alloc (.cells #[.map (some b1), .map (some b2), .map (some b3)] 86)) = Wb := ⟨_, rfl⟩
    have hsz : Wb.heap.size = w1.heap.size + 1 + 1 + 1 := by rw [← hWb]; simp
    have hBw : Below w1.heap.size w1 Wb := by rw [← hWb]; exact (((Below.refl _ _).alloc (Nat.le_refl _) _).alloc (by simp) _).alloc (by simp; omega) _
    have hbox : Boxed Wb (w1.heap.size + 1) 146 (.slice none 0 0) := by
      rw [← hWb]
      have h := Boxed.new (w1.alloc (.cells #[.map (some b1), .map (some b2), .map (some b3)] 86)) 146 (.slice none 0 0)
      rw [World.size_alloc] at h
      exact h.alloc _
    have hblk : Wb.heap[w1.heap.size + 1 + 1]? = some (.cells #[.map (some b1), .map (some b2), .map (some b3)] 86 (0, 0)) := by
      rw [← hWb]
      have h := World.alloc_heap_new ((w1.alloc (.cells #[.map (some b1), .map (some b2), .map (some b3)] 86)).alloc (.cells #[.slice none 0 0] 146)) (.cells #[.map (some b1), .map (some b2), .map (some b3)] 86)
      rw [World.size_alloc, World.size_alloc] at h
      exact h
    rw [hWb]
    have HSQ := hideIt (leaves_stops l HO.out hn w1 b1 b2 b3 base HTT.out (n - 1) (w1.heap.size + 1 + 1) Wb hBw hblk)
    have hlen : (allO l).length ≤ 1048576 := Nat.le_trans (all_len HO.out) hn
    obtain ⟨i0, hi, hz0, hz1, hz2⟩ := info_parts infoU8
    have HI1 := hideIt hi
    have HZ0 := hideIt hz0
    have HZ1 := hideIt hz1
    have HZ2 := hideIt hz2
    clear hi hz0 hz1 hz2 HTT HL hWb hblk he herr1
    generalize hBt : w1.heap.size + 1 + 1 = Bt at *
    generalize hQ : w1.heap.size + 1 = Q1 at *
    generalize hn1 : w1.heap.size = n1 at *
    refine wpIn_rangeFunc_ownH rfl h1 (gf := 124) (lb := #[.pointer (some ⟨Bt, 0, none⟩)]) rfl trivial (enters_of Tryd.func124 (by kernel_rfl) rfl) HSQ.out
      (fun h k => h.trans k) (kpT_b (by omega)) (Below.refl _ _) (fun _ => rfl)
      (fun pre W => (∃ v, Boxed W Q1 146 v ∧ W.ownsRow n1 5 1 v (shown pre).length ((shown pre).map (.int .u8)) ∧ True) ∧ Below n1 w1 W)
      (fun _ _ _ => False)
      (OwnFrom.and (Own.from (holdsRow_own n1 Q1 146 5 1 (fun pre : List Lf => (shown pre).length) (fun pre => (shown pre).map (.int .u8)) (fun _ _ => True)) _) (ownFrom_below (by omega) (by omega)))
      (fun _ _ _ _ _ hs _ _ => hs)
      ⟨⟨_, hbox, World.ownsRow_nil _ _ _ _, trivial⟩, hBw⟩
      (fun x' a' W => ∃ Bx, Q1 + 1 ≤ Bx ∧ W.heap[Bx]? = some (.cells #[.int .i64 x'.a, .int .i64 x'.b, .int .i64 x'.g, .bool x'.z] 81 (0, 0)) ∧ a' =
        { tmps := #[Value.slice (some { block := g, off := 0 }) l.length cap, undef, Value.string { data := #[] },
          Value.pointer (some { block := n1, off := 0 }), Value.nilIface,
          Value.pointer (some { block := Q1, off := 0 }), Value.pointer (some { block := Bx, off := 0 }),
          Value.tuple #[Value.agg #[Value.map (some b1), Value.map (some b2), Value.map (some b3)], Value.nilIface],
          Value.slice (some { block := g, off := 0 }) l.length cap,
          Value.tuple #[Value.agg #[Value.map (some b1), Value.map (some b2), Value.map (some b3)], Value.nilIface],
          Value.agg #[Value.map (some b1), Value.map (some b2), Value.map (some b3)], Value.nilIface, Value.nilIface,
          Value.iface 191 (Value.pointer (some x)), Value.bool false,
          Value.agg #[Value.map (some b1), Value.map (some b2), Value.map (some b3)],
          Value.func (Fn.func 124) #[] #[Value.pointer (some { block := Bt, off := 0 })], lfV x', undef,
          undef, undef, undef, undef, undef, undef, undef, undef, undef, undef], defers := [] })
      ?hAx ?assign ?body ?done ?stop
    case hAx =>
      rintro x' a' _ A B row ⟨Bx, hb, hx, ha⟩ hg hr
      exact ⟨Bx, hb, (hg.block Bx (Array.getElem?_eq_some_iff.1 hx).1 (fun e => by obtain ⟨_, o, ho, hc⟩ := hr Bx e.symm; rw [hx] at ho; cases ho; cases hc)).trans hx, ha⟩
    case assign =>
      rintro lp pre x' W K ⟨⟨v, bv, hrow, _⟩, hBl⟩ hK
      unfold lfV
      gi_wp2
      exact hK _ _ ((KeepsOthers.alloc _ _).from _) (KpT.of_below (by have := hBl.size; omega) ((Below.refl _ _).alloc (Nat.le_refl _) _)) ⟨⟨v, bv.alloc _, hrow.alloc _, trivial⟩, hBl.alloc (by have := hBl.size; omega) _⟩ ⟨W.heap.size, by have := bv.lt; omega, World.alloc_heap_new _ _, rfl⟩
    case body =>
      rintro lp pre x' a' W hl ⟨rr, hr⟩ ⟨⟨v, bv, hrow, _⟩, hBl⟩ ⟨Bx, hbx, hx, rfl⟩ hlt
      have hc := bv.cell
      have x0 := (blk_cell hx 0).trans rfl
      have x1 := (blk_cell hx 1).trans rfl
      have x2 := (blk_cell hx 2).trans rfl
      have x3 := (blk_cell hx 3).trans rfl
      have HRW := hideIt hrow
      have HBL := hideIt hBl
      have HBV := hideIt bv
      have hwl : n1 ≤ W.heap.size := by have := hBl.size; omega
      have hsl : (shown pre).length ≤ 1048576 := Nat.le_trans (shown_len _) (by omega)
      have hgone : Hid (x'.z = true → shown (pre ++ [x']) = shown pre) := shown_gone
      have hthere : Hid (x'.z = false → shown (pre ++ [x']) = shown pre ++ [x'.g % 256]) := shown_there
      have HX := hideIt hx
      clear hrow hBl hr hx
      generalize x'.a = xa at *
      generalize x'.b = xb at *
      generalize hxg : x'.g = xg at *
      generalize hxz : x'.z = xz at *
      cases xz
      · have hth := hideIt (hthere.out rfl)
        clear hgone hthere
        gi_wp2_with (first
          | (gi_at_builtin; refine wpListIn_append_own _ rfl _ _ 146 rfl n1 5 i0 _ 1 1 Tryd.underlying146 HI1.out HZ0.out HZ1.out HZ2.out rfl (by decide) _ _ _ rfl (HRW.out.alloc _) ⟨W.heap.size, 0, none⟩ 1 1 [.int .u8 (xg % 256)] rfl rfl (cells_new W [.int .u8 (xg % 256)] 5) (by intro u hu; simp at hu; subst hu; rfl) (by unfold maxLen; omega) (by omega) (by simp; omega) ?_; intro v' w2 hown' hgrow _; obtain ⟨g', cap', rfl⟩ := ownsRow_succ hown'; obtain ⟨hv1, hv2, hr2, hk2, hb2⟩ := HBV.out.appended (by decide) HRW.out hwl (by omega) hown' hgrow; have hc1 := hv1.cell; have hf1 := hv1.frozen;
              have HKP : Hid (KpT n1 W (w2.setCell ⟨Q1, 0, none⟩ (.slice (some ⟨g', 0, none⟩) ((shown pre).length + 1) cap'))) := (KpT.of_below (by omega) ((Below.refl _ _).alloc (Nat.le_refl _) _)).trans ((kpT_row (by simp; omega) hgrow (fun j e => ⟨(HRW.out.lt j e).1, own_type (HRW.out.alloc _) e (by decide)⟩)).trans (kpT_row (by have := hgrow.size; simp at this; omega) (grownBy_setCell' _ _ _) (fun j e => by cases e; exact ⟨by omega, _, _, _, hv1, by decide⟩)));
              have HV2 := hideIt hv2; have HR2 := hideIt hr2; have HK2 := hideIt hk2; have HB2 := hideIt hb2; clear hv2 hr2 hk2 hb2 hv1 hown' hgrow)
          | gi_in)
        exact ⟨HK2.out.from _, HKP.out, ⟨_, HV2.out, by rw [hth.out, List.length_append, List.map_append]; exact HR2.out, trivial⟩, HBL.out.trans HB2.out⟩
      · have hgo := hideIt (hgone.out rfl)
        clear hgone hthere
        gi_wp2
        exact ⟨(KeepsOthers.refl _).from _, KpT.refl _ _, ⟨_, HBV.out, by rw [hgo.out]; exact HRW.out, trivial⟩, HBL.out⟩
    case done =>
      rintro D ys W hD rfl ⟨⟨v, bv, hrow, _⟩, hBl⟩ hK
      have hc := bv.cell
      have hrow' := hrow
      rw [hsz] at hD
      have hcv : Hid (∀ v', v' = v → (convert 146 9 v').run Tryd.prog W = .ok (.string (txtB (shown (lfs l (allO l))))) W) := by
        show ∀ v', v' = v → _
        rintro _ rfl
        exact conv_row hrow
      rcases hrow.2 with ⟨rfl, hz⟩ | ⟨g', cap', cur', rfl, hrest⟩
      all_goals
        have kc := hcv.out _ rfl
        generalize hTT : txtB (shown (lfs l (allO l))) = TT at *
        gi_wp2
        refine ⟨by simp, .inl ⟨_, _, rfl, run_takeDeferred hK, ?_⟩⟩
        exact ⟨_, results_tmp rfl _ _ _, by rw [HE.out, hTT]; rfl, Bstep HB1.out (hn1.symm ▸ hBl.trans (belowK_b (w := Wb) (by omega) W D _ _ (by omega) hK rfl rfl))⟩
    case stop =>
      rintro D c pre W _ _ h _
      exact h.elim
  · have HE : Hid (standL l = []) := by show standL l = []; unfold standL; rw [HO.out]; rfl
    gi_wp2
    refine ⟨trivial, ?_⟩
    refine (callsIn_wide.2 (is_same x _)).mono ?_
    rintro e w'' ⟨rfl, rfl⟩
    gi_wp2
    rw [HE.out]
    exact ⟨_, results_tmp rfl _ _ _, rfl, HB1.out.alloc HB1.out.size _⟩
theorem implTxt_any (l : List Op7) (g cap : Nat) (x : Addr) (w : World) (hl : OpsAt w g l) (hn : l.length ≤ 1048576) (hcap : l.length ≤ cap)
    (he : w.cell? ⟨0, 0, none⟩ = some (.iface 191 (.pointer (some x)))) (h0 : 0 < w.heap.size) :
    Calls Tryd.prog 67 #[.slice (some ⟨g, 0, none⟩) l.length cap] w fun e w' => e = .returned (.string (txtB (shown (lfs l (standL l))))) ∧ Below w.heap.size w w' :=
  callsIn_wide.1 (implTxt_in l g cap 3 (Nat.le_refl _) x w hl hn hcap he h0)
end Go.Proofs.YtkbogcbppenaaaaDoor
