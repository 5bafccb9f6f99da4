/-
  PROVED: the last mark is at the end of the text, the first one at its beginning or behind the first sign, and there is no mark past the end nor below 0, whatever bytes what was done and the place are drawn from; and MarkAt answers as the specification's does (the given card of FnMarkEnd), for every input; the one listed variable, the program's error, reads as its own initialiser lays it.
-/
import Derived.Test.YtjgbickelgkljaaDoorPackC
import Derived.Test.YtjgbickelgkljaaDoorPackD
import Derived.Test.YtjgbickelgkljaaDoorPackF
import Derived.Test.YtjgbickelgkljaaDoorPackP
import Derived.Test.YtjgbickelgkljaaDoorPackO
import Derived.Test.YtjgbickelgkljaaDoorTie
import Derived.Test.YtjgbickelgkljaaDoorCards
import Derived.SevenTiedAt
namespace Go.Proofs.YtjgbickelgkljaaDoor
open Go.RowKit Go.Shelf
set_option linter.unusedSimpArgs false
set_option linter.unusedVariables false
attribute [local go_sem] Oper.semAt_some

theorem infoU8 : (Tryd.prog.info? 5).map (fun i => (i.zero, i.size, i.bytes)) = some (some (.int .u8 0), 1, 1) := by kernel_rfl

/-- A row of bytes, as a text. -/
theorem conv_row {W : World} {base : Nat} {v : Value} {gs : List Int} (h : W.ownsRow base 5 1 v gs.length (gs.map (.int .u8))) : (convert 22 9 v).run Tryd.prog W = .ok (.string (txtB gs)) W := by
  have hat : ∀ j, j < gs.length * 1 → ∀ g c, v = .slice (some ⟨g, 0, none⟩) gs.length c → W.cell? ⟨g, j, none⟩ = (gs.map (Value.int .u8))[j]? := fun j hj g c e => by subst e; exact h.cellAt j hj
  rcases h.2 with ⟨rfl, h0⟩ | ⟨g, c, cur, rfl, _⟩
  · rw [run_convert_bytes_nil (P := Tryd.prog) W 22 5 Tryd.underlying22 Tryd.underlying5 0 0 9 Tryd.underlying9]
    cases gs with
    | nil => rfl
    | cons a t => simp at h0
  · rw [run_convert_bytes_arg (P := Tryd.prog) W 22 5 Tryd.underlying22 Tryd.underlying5 g 0 gs.length c gs rfl (fun i hi => by
      rw [Nat.zero_add, hat i (by omega) g c rfl]
      simp [List.getD, hi]) 9 Tryd.underlying9]
    rfl

set_option maxRecDepth 100000 in
set_option maxHeartbeats 2000000 in
theorem implTxt_in (l : List Op7) (g cap n : Nat) (h3 : 3 ≤ n) (x : Addr) (w : World) (hl : OpsAt w g l) (hn : l.length ≤ 1048576) (hcap : l.length ≤ cap)
    (he : w.cell? ⟨0, 0, none⟩ = some (.iface 183 (.pointer (some x)))) (h0 : 0 < w.heap.size) :
    CallsIn Fence.wide n Tryd.prog 45 #[.slice (some ⟨g, 0, none⟩) l.length cap] w fun e w' => e = .returned (.string (txtB (shown (lfs l (standL l))))) ∧ Below w.heap.size w w' := by
  have HL := hideIt hl
  have h1 : 1 ≤ n := by omega
  clear hl
  refine callsIn_of_wp_marks Tryd.func45 rfl trivial ?_ rfl
  simp only [Tryd.ntmps45, List.size_toArray, List.length_cons, List.length_nil, Nat.reduceAdd, Nat.reduceSub, Array.replicate_succ, Array.replicate_zero, List.push_toArray, List.append_toArray, List.nil_append, List.cons_append]
  gi_wp2
  refine ⟨trivial, ?_⟩
  refine (callsIn_wide.2 (treeOf_any l g cap x _ HL.out hn hcap he h0)).mono ?_
  rintro e w1 ⟨(⟨ht, b1, b2, b3, base, rfl, hT⟩ | ⟨ht, rfl⟩), hb1⟩
  all_goals
    have HO := hideIt ht
    have HB1 := hideIt hb1
    have herr1 : w1.cell? ⟨0, 0, none⟩ = some (.iface 183 (.pointer (some x))) := errB HB1.out h0 he
    have hp1 : 0 < w1.heap.size := posB HB1.out h0
    clear ht hb1
  · have HTT := hideIt hT
    have HE : Hid (standL l = allO l) := by show standL l = allO l; unfold standL; rw [HO.out]; rfl
    clear hT
    gi_wp2
    refine ⟨trivial, ?_⟩
    refine (callsIn_wide.2 (is_nil x _)).mono ?_
    rintro e w'' ⟨rfl, rfl⟩
    gi_wp2
    refine ⟨trivial, ?_⟩
    refine (callsIn_wide.2 (leaves_any _ _ _ _ ⟨rfl, rfl, rfl⟩ b1 b2 b3 ⟨rfl, rfl, rfl⟩)).mono ?_
    rintro e w2 ⟨rfl, rfl⟩
    gi_wp2
    obtain ⟨Wb, hWb⟩ : ∃ Wb, (((w1.alloc (.cells #[.map (some b1), .map (some b2), .map (some b3)] 108)).alloc (.cells #[.slice none 0 0] 22)).alloc (.cells #[.map (some b1), .map (some b2), .map (some b3)] 108)) = Wb := ⟨_, rfl⟩
    have hsz : Wb.heap.size = w1.heap.size + 1 + 1 + 1 := by rw [← hWb]; simp
    have hBw : Below w1.heap.size w1 Wb := by rw [← hWb]; exact (((Below.refl _ _).alloc (Nat.le_refl _) _).alloc (by simp) _).alloc (by simp; omega) _
    have hbox : Boxed Wb (w1.heap.size + 1) 22 (.slice none 0 0) := by
      rw [← hWb]
      have h := Boxed.new (w1.alloc (.cells #[.map (some b1), .map (some b2), .map (some b3)] 108)) 22 (.slice none 0 0)
      rw [World.size_alloc] at h
      exact h.alloc _
    have hblk : Wb.heap[w1.heap.size + 1 + 1]? = some (.cells #[.map (some b1), .map (some b2), .map (some b3)] 108 (0, 0)) := by
      rw [← hWb]
      have h := World.alloc_heap_new ((w1.alloc (.cells #[.map (some b1), .map (some b2), .map (some b3)] 108)).alloc (.cells #[.slice none 0 0] 22)) (.cells #[.map (some b1), .map (some b2), .map (some b3)] 108)
      rw [World.size_alloc, World.size_alloc] at h
      exact h
    rw [hWb]
    have HSQ := hideIt (leaves_stops l HO.out hn w1 b1 b2 b3 base HTT.out (n - 1) (w1.heap.size + 1 + 1) Wb hBw hblk)
    have hlen : (allO l).length ≤ 1048576 := Nat.le_trans (all_len HO.out) hn
    obtain ⟨i0, hi, hz0, hz1, hz2⟩ := info_parts infoU8
    have HI1 := hideIt hi
    have HZ0 := hideIt hz0
    have HZ1 := hideIt hz1
    have HZ2 := hideIt hz2
    clear hi hz0 hz1 hz2 HTT HL hWb hblk he herr1
    generalize hBt : w1.heap.size + 1 + 1 = Bt at *
    generalize hQ : w1.heap.size + 1 = Q1 at *
    generalize hn1 : w1.heap.size = n1 at *
    refine wpIn_rangeFunc_ownH rfl h1 (gf := 114) (lb := #[.pointer (some ⟨Bt, 0, none⟩)]) rfl trivial (enters_of Tryd.func114 (by kernel_rfl) rfl) HSQ.out
      (fun h k => h.trans k) (kpT_b (by omega)) (Below.refl _ _) (fun _ => rfl)
      (fun pre W => (∃ v, Boxed W Q1 22 v ∧ W.ownsRow n1 5 1 v (shown pre).length ((shown pre).map (.int .u8)) ∧ True) ∧ Below n1 w1 W)
      (fun _ _ _ => False)
      (OwnFrom.and (Own.from (holdsRow_own n1 Q1 22 5 1 (fun pre : List Lf => (shown pre).length) (fun pre => (shown pre).map (.int .u8)) (fun _ _ => True)) _) (ownFrom_below (by omega) (by omega)))
      (fun _ _ _ _ _ hs _ _ => hs)
      ⟨⟨_, hbox, World.ownsRow_nil _ _ _ _, trivial⟩, hBw⟩
      (fun x' a' W => ∃ Bx, Q1 + 1 ≤ Bx ∧ W.heap[Bx]? = some (.cells #[.int .i64 x'.a, .int .i64 x'.b, .int .i64 x'.g, .bool x'.z] 72 (0, 0)) ∧ a' =
        { tmps := #[Value.slice (some { block := g, off := 0 }) l.length cap, undef, Value.string { data := #[] },
          Value.pointer (some { block := n1, off := 0 }), Value.nilIface,
          Value.pointer (some { block := Q1, off := 0 }), Value.pointer (some { block := Bx, off := 0 }),
          Value.tuple #[Value.agg #[Value.map (some b1), Value.map (some b2), Value.map (some b3)], Value.nilIface],
          Value.slice (some { block := g, off := 0 }) l.length cap,
          Value.tuple #[Value.agg #[Value.map (some b1), Value.map (some b2), Value.map (some b3)], Value.nilIface],
          Value.agg #[Value.map (some b1), Value.map (some b2), Value.map (some b3)], Value.nilIface, Value.nilIface,
          Value.iface 183 (Value.pointer (some x)), Value.bool false,
          Value.agg #[Value.map (some b1), Value.map (some b2), Value.map (some b3)],
          Value.func (Fn.func 114) #[] #[Value.pointer (some { block := Bt, off := 0 })], lfV x', undef,
          undef, undef, undef, undef, undef, undef, undef, undef, undef, undef], defers := [] })
      ?hAx ?assign ?body ?done ?stop
    case hAx =>
      rintro x' a' _ A B row ⟨Bx, hb, hx, ha⟩ hg hr
      exact ⟨Bx, hb, (hg.block Bx (Array.getElem?_eq_some_iff.1 hx).1 (fun e => by obtain ⟨_, o, ho, hc⟩ := hr Bx e.symm; rw [hx] at ho; cases ho; cases hc)).trans hx, ha⟩
    case assign =>
      rintro lp pre x' W K ⟨⟨v, bv, hrow, _⟩, hBl⟩ hK
      unfold lfV
      gi_wp2
      exact hK _ _ ((KeepsOthers.alloc _ _).from _) (KpT.of_below (by have := hBl.size; omega) ((Below.refl _ _).alloc (Nat.le_refl _) _)) ⟨⟨v, bv.alloc _, hrow.alloc _, trivial⟩, hBl.alloc (by have := hBl.size; omega) _⟩ ⟨W.heap.size, by have := bv.lt; omega, World.alloc_heap_new _ _, rfl⟩
    case body =>
      rintro lp pre x' a' W hl ⟨rr, hr⟩ ⟨⟨v, bv, hrow, _⟩, hBl⟩ ⟨Bx, hbx, hx, rfl⟩ hlt
      have hc := bv.cell
      have x0 := (blk_cell hx 0).trans rfl
      have x1 := (blk_cell hx 1).trans rfl
      have x2 := (blk_cell hx 2).trans rfl
      have x3 := (blk_cell hx 3).trans rfl
      have HRW := hideIt hrow
      have HBL := hideIt hBl
      have HBV := hideIt bv
      have hwl : n1 ≤ W.heap.size := by have := hBl.size; omega
      have hsl : (shown pre).length ≤ 1048576 := Nat.le_trans (shown_len _) (by omega)
      have hgone : Hid (x'.z = true → shown (pre ++ [x']) = shown pre) := shown_gone
      have hthere : Hid (x'.z = false → shown (pre ++ [x']) = shown pre ++ [x'.g % 256]) := shown_there
      have HX := hideIt hx
      clear hrow hBl hr hx
      generalize x'.a = xa at *
      generalize x'.b = xb at *
      generalize hxg : x'.g = xg at *
      generalize hxz : x'.z = xz at *
      cases xz
      · have hth := hideIt (hthere.out rfl)
        clear hgone hthere
        gi_wp2_with (first
          | (gi_at_builtin; refine wpListIn_append_own _ rfl _ _ 22 rfl n1 5 i0 _ 1 1 Tryd.underlying22 HI1.out HZ0.out HZ1.out HZ2.out rfl (by decide) _ _ _ rfl (HRW.out.alloc _) ⟨W.heap.size, 0, none⟩ 1 1 [.int .u8 (xg % 256)] rfl rfl (cells_new W [.int .u8 (xg % 256)] 5) (by intro u hu; simp at hu; subst hu; rfl) (by unfold maxLen; omega) (by omega) (by simp; omega) ?_; intro v' w2 hown' hgrow _; obtain ⟨g', cap', rfl⟩ := ownsRow_succ hown'; obtain ⟨hv1, hv2, hr2, hk2, hb2⟩ := HBV.out.appended (by decide) HRW.out hwl (by omega) hown' hgrow; have hc1 := hv1.cell; have hf1 := hv1.frozen;
              have HKP : Hid (KpT n1 W (w2.setCell ⟨Q1, 0, none⟩ (.slice (some ⟨g', 0, none⟩) ((shown pre).length + 1) cap'))) := (KpT.of_below (by omega) ((Below.refl _ _).alloc (Nat.le_refl _) _)).trans ((kpT_row (by simp; omega) hgrow (fun j e => ⟨(HRW.out.lt j e).1, own_type (HRW.out.alloc _) e (by decide)⟩)).trans (kpT_row (by have := hgrow.size; simp at this; omega) (grownBy_setCell' _ _ _) (fun j e => by cases e; exact ⟨by omega, _, _, _, hv1, by decide⟩)));
              have HV2 := hideIt hv2; have HR2 := hideIt hr2; have HK2 := hideIt hk2; have HB2 := hideIt hb2; clear hv2 hr2 hk2 hb2 hv1 hown' hgrow)
          | gi_in)
        exact ⟨HK2.out.from _, HKP.out, ⟨_, HV2.out, by rw [hth.out, List.length_append, List.map_append]; exact HR2.out, trivial⟩, HBL.out.trans HB2.out⟩
      · have hgo := hideIt (hgone.out rfl)
        clear hgone hthere
        gi_wp2
        exact ⟨(KeepsOthers.refl _).from _, KpT.refl _ _, ⟨_, HBV.out, by rw [hgo.out]; exact HRW.out, trivial⟩, HBL.out⟩
    case done =>
      rintro D ys W hD rfl ⟨⟨v, bv, hrow, _⟩, hBl⟩ hK
      have hc := bv.cell
      have hrow' := hrow
      rw [hsz] at hD
      have hcv : Hid (∀ v', v' = v → (convert 22 9 v').run Tryd.prog W = .ok (.string (txtB (shown (lfs l (allO l))))) W) := by
        show ∀ v', v' = v → _
        rintro _ rfl
        exact conv_row hrow
      rcases hrow.2 with ⟨rfl, hz⟩ | ⟨g', cap', cur', rfl, hrest⟩
      all_goals
        have kc := hcv.out _ rfl
        generalize hTT : txtB (shown (lfs l (allO l))) = TT at *
        gi_wp2
        refine ⟨by simp, .inl ⟨_, _, rfl, run_takeDeferred hK, ?_⟩⟩
        exact ⟨_, results_tmp rfl _ _ _, by rw [HE.out, hTT]; rfl, Bstep HB1.out (hn1.symm ▸ hBl.trans (belowK_b (w := Wb) (by omega) W D _ _ (by omega) hK rfl rfl))⟩
    case stop =>
      rintro D c pre W _ _ h _
      exact h.elim
  · have HE : Hid (standL l = []) := by show standL l = []; unfold standL; rw [HO.out]; rfl
    gi_wp2
    refine ⟨trivial, ?_⟩
    refine (callsIn_wide.2 (is_same x _)).mono ?_
    rintro e w'' ⟨rfl, rfl⟩
    gi_wp2
    rw [HE.out]
    exact ⟨_, results_tmp rfl _ _ _, rfl, HB1.out.alloc HB1.out.size _⟩
theorem implTxt_any (l : List Op7) (g cap : Nat) (x : Addr) (w : World) (hl : OpsAt w g l) (hn : l.length ≤ 1048576) (hcap : l.length ≤ cap)
    (he : w.cell? ⟨0, 0, none⟩ = some (.iface 183 (.pointer (some x)))) (h0 : 0 < w.heap.size) :
    Calls Tryd.prog 45 #[.slice (some ⟨g, 0, none⟩) l.length cap] w fun e w' => e = .returned (.string (txtB (shown (lfs l (standL l))))) ∧ Below w.heap.size w w' :=
  callsIn_wide.1 (implTxt_in l g cap 3 (Nat.le_refl _) x w hl hn hcap he h0)
end Go.Proofs.YtjgbickelgkljaaDoor

namespace Go.Proofs.YtjgbickelgkljaaDoor
open Go.RowKit
set_option linter.unusedSimpArgs false
set_option linter.unusedVariables false
attribute [local go_sem ↓] Go.wp_at_zero Go.wp_at_succ

/-- A box with an id in it, in memory that has grown. -/
structure IX (b : Nat) (u v : Int) (w W : World) : Prop where
  box : W.heap[b]? = some (.cells #[.int .i64 u, .int .i64 v] 31 (0, 0))
  bel : Below w.heap.size w W
theorem IX.below {b : Nat} {u v : Int} {w W W' : World} (h : IX b u v w W) (hb : Below W.heap.size W W') : IX b u v w W' := ⟨blk_below h.box hb, Bstep h.bel hb⟩

set_option maxRecDepth 100000 in
set_option maxHeartbeats 4000000 in
theorem walkMarkBack (w : World) (p : Option Addr) (n cap : Nat) (h : ArgBytes w p n) (hcap : n ≤ cap) (hmax : cap ≤ maxLen) (x : Addr)
    (he : w.cell? ⟨0, 0, none⟩ = some (.iface 183 (.pointer (some x)))) (h0 : 0 < w.heap.size) :
    Calls Tryd.prog 11 #[.slice p n cap] w fun e w' => e = .returned (.bool true) ∧ Below w.heap.size w w' := by
  have H := hideIt h
  clear h
  by_cases hn : n ≤ 1048576
  · go_enter Tryd.func11, Tryd.ntmps11
    go_wp2_with fail
    refine (drawMarkAt_any _ p n cap H.out hcap hn).mono ?_
    rintro e w1 ⟨G, c, _, t, rfl, ht, ⟨L, rfl, hL, hS⟩, hb1⟩
    have HS := hideIt hS
    have HB := hideIt hb1
    have hwf : wf64 t := wf_small (by omega)
    clear hS hb1
    go_wp2_with fail
    refine (specAt_any L G c t _ HS.out.at (by omega) HS.out.cap).mono ?_
    rintro e w2 ⟨rfl, hb2⟩
    have HS2 := hideIt (HS.out.below hb2)
    have HB2 := hideIt (Bstep HB.out hb2)
    clear hb2 HS HB
    cases hat : atB L t
    · have HN := hideIt (atV_no hat)
      clear hat
      rw [HN.out]
      go_wp2_with fail
      have HX2 : Hid (IX w2.heap.size 0 0 w (w2.alloc (.cells #[.int .i64 0, .int .i64 0] 31))) := ⟨World.alloc_heap_new _ _, HB2.out.alloc HB2.out.size _⟩
      have HS3 := hideIt (HS2.out.below ((Below.refl _ _).alloc (Nat.le_refl _) (.cells #[.int .i64 0, .int .i64 0] 31)))
      refine (implAt_any L G c t hwf x _ HS3.out.at (by omega) HS3.out.cap (errB HX2.out.bel h0 he) (posB HX2.out.bel h0)).mono ?_
      rintro e w4 ⟨rfl, hb4⟩
      rw [HN.out]
      have HX4 := hideIt (HX2.out.below hb4)
      have i0 := (blk_cell HX4.out.box 0).trans rfl
      have i1 := (blk_cell HX4.out.box 1).trans rfl
      have hlt := (Array.getElem?_eq_some_iff.1 HX4.out.box).1
      clear hb4 HX2 HS3
      go_wp2
      go_ret
      exact ⟨rfl, HX4.out.bel.alloc HX4.out.bel.size _⟩
    · obtain ⟨la, lb, lk, hlf⟩ : ∃ la lb lk, leftOf L t.toNat = (la, lb, lk) := ⟨_, _, _, rfl⟩
      have HN := hideIt (atV_yes hat hlf)
      have hpp : opsB L = true ∧ inB t 0 (shownI (lvs L)).length = true := by
        unfold atB at hat
        exact (Bool.and_eq_true _ _).mp hat
      have htn : 0 ≤ t ∧ t ≤ (shownI (lvs L)).length := by have h := hpp.2; simp [inB] at h; exact h
      have HMB : Hid (markP L la lb = some t.toNat) := by
        have h := mark_back hpp.1 (t := t.toNat) (by omega)
        rw [hlf] at h
        exact h
      have HTN : Hid (((t.toNat : Nat) : Int) = t) := Int.toNat_of_nonneg htn.1
      clear hat hlf hpp htn
      rw [HN.out]
      go_wp2_with fail
      have HX2 : Hid (IX w2.heap.size la lb w (w2.alloc (.cells #[.int .i64 la, .int .i64 lb] 31))) := ⟨World.alloc_heap_new _ _, HB2.out.alloc HB2.out.size _⟩
      have HS3 := hideIt (HS2.out.below ((Below.refl _ _).alloc (Nat.le_refl _) (.cells #[.int .i64 la, .int .i64 lb] 31)))
      refine (implAt_any L G c t hwf x _ HS3.out.at (by omega) HS3.out.cap (errB HX2.out.bel h0 he) (posB HX2.out.bel h0)).mono ?_
      rintro e w4 ⟨rfl, hb4⟩
      rw [HN.out]
      have HX4 := hideIt (HX2.out.below hb4)
      have HS4 := hideIt (HS3.out.below hb4)
      have i0 := (blk_cell HX4.out.box 0).trans rfl
      have i1 := (blk_cell HX4.out.box 1).trans rfl
      have hlt := (Array.getElem?_eq_some_iff.1 HX4.out.box).1
      clear hb4 HX2 HS3
      go_wp2_with fail
      have HBa : Hid (Below w4.heap.size w4 (w4.alloc (.cells #[.int .i64 la, .int .i64 lb] 31))) := (Below.refl _ _).alloc (Nat.le_refl _) _
      have HS5 := hideIt (HS4.out.below HBa.out)
      have HB5 := hideIt (Bstep HX4.out.bel HBa.out)
      clear i0 i1 hlt HX4 HS4 HBa
      refine (implPlace_any L G c la lb x _ HS5.out.at (by omega) HS5.out.cap (errB HB5.out h0 he) (posB HB5.out h0)).mono ?_
      rintro e w6 ⟨rfl, hb6⟩
      rw [HMB.out]
      unfold plV
      simp only [pN, pB]
      rw [HTN.out]
      have HB6 := hideIt (Bstep HB5.out hb6)
      clear hb6 HS5 HB5
      go_wp2
      go_ret
      exact ⟨rfl, HB6.out⟩
  · go_enter Tryd.func11, Tryd.ntmps11
    go_wp2
    go_ret
    exact ⟨rfl, Below.refl _ _⟩
end Go.Proofs.YtjgbickelgkljaaDoor

namespace Go.Proofs.YtjgbickelgkljaaDoor
open Go.RowKit
set_option linter.unusedSimpArgs false
set_option linter.unusedVariables false
attribute [local go_sem ↓] Go.wp_at_zero Go.wp_at_succ

theorem text_shown {l : List Op7} (h : opsB l = true) : (txtB (shown (lfs l (standL l)))).size = (shownI (lvs l)).length ∧ lfs l (standL l) = lvs l := by
  have h1 : lfs l (standL l) = lvs l := by unfold standL lvs; rw [h]; rfl
  refine ⟨?_, h1⟩
  rw [h1, txtB_size, shownI_len]
  simp [shown, nShown]
theorem last_place {l : List Op7} (h : opsB l = true) {x : Lf} (hl : 0 < (lvs l).length) (hx : (lvs l)[(lvs l).length - 1]? = some x) : markP l x.a x.b = some (shownI (lvs l)).length := by
  rw [place_leaf h hx, shownI_len, show (lvs l).length - 1 + 1 = (lvs l).length by omega, List.take_length]
theorem first_place {l : List Op7} (h : opsB l = true) {x : Lf} (hx : (lvs l)[0]? = some x) : markP l x.a x.b = some (if x.z then 0 else 1) := by
  obtain ⟨hlt, he⟩ := List.getElem?_eq_some_iff.1 hx
  rw [place_leaf h hx, List.take_succ_eq_append_getElem hlt, he]
  cases hz : x.z <;> simp [nShown, hz]

set_option maxRecDepth 100000 in
set_option maxHeartbeats 4000000 in
theorem walkMarkEnd (w : World) (p : Option Addr) (n cap : Nat) (h : ArgBytes w p n) (hcap : n ≤ cap) (hmax : cap ≤ maxLen) (x : Addr)
    (he : w.cell? ⟨0, 0, none⟩ = some (.iface 183 (.pointer (some x)))) (h0 : 0 < w.heap.size) :
    Calls Tryd.prog 12 #[.slice p n cap] w fun e w' => e = .returned (.bool true) ∧ Below w.heap.size w w' := by
  have H := hideIt h
  clear h
  by_cases hn : n ≤ 1048576
  · go_enter Tryd.func12, Tryd.ntmps12
    go_wp2_with fail
    refine (drawMarkAt_any _ p n cap H.out hcap hn).mono ?_
    rintro e w1 ⟨G, c, _, t, rfl, ht, ⟨L, rfl, hL, hS⟩, hb1⟩
    have HS := hideIt hS
    have HB := hideIt hb1
    have hwf : wf64 t := wf_small (by omega)
    clear hS hb1
    go_wp2_with fail
    refine (specAt_any L G c t _ HS.out.at (by omega) HS.out.cap).mono ?_
    rintro e w2 ⟨rfl, hb2⟩
    have HS2 := hideIt (HS.out.below hb2)
    have HB2 := hideIt (Bstep HB.out hb2)
    clear hb2 HS HB
    obtain ⟨la, lb, zz, hv⟩ : ∃ la lb zz, atV L t = .tuple #[.agg #[.int .i64 la, .int .i64 lb], .bool zz] := ⟨_, _, _, rfl⟩
    have HN := hideIt hv
    clear hv
    rw [HN.out]
    go_wp2_with fail
    have HX2 : Hid (IX w2.heap.size la lb w (w2.alloc (.cells #[.int .i64 la, .int .i64 lb] 31))) := ⟨World.alloc_heap_new _ _, HB2.out.alloc HB2.out.size _⟩
    have HS3 := hideIt (HS2.out.below ((Below.refl _ _).alloc (Nat.le_refl _) (.cells #[.int .i64 la, .int .i64 lb] 31)))
    refine (implAt_any L G c t hwf x _ HS3.out.at (by omega) HS3.out.cap (errB HX2.out.bel h0 he) (posB HX2.out.bel h0)).mono ?_
    rintro e w4 ⟨rfl, hb4⟩
    rw [HN.out]
    have HX4 := hideIt (HX2.out.below hb4)
    have HS4 := hideIt (HS3.out.below hb4)
    have i0 := (blk_cell HX4.out.box 0).trans rfl
    have i1 := (blk_cell HX4.out.box 1).trans rfl
    have hlt := (Array.getElem?_eq_some_iff.1 HX4.out.box).1
    clear hb4 HX2 HS3
    go_wp2_with fail
    have HBa : Hid (Below w4.heap.size w4 (w4.alloc (.cells #[.int .i64 la, .int .i64 lb] 31))) := (Below.refl _ _).alloc (Nat.le_refl _) _
    have HS5 := hideIt (HS4.out.below HBa.out)
    have HX5 := hideIt (HX4.out.below HBa.out)
    have HM5 : Hid ((w4.alloc (.cells #[.int .i64 la, .int .i64 lb] 31)).heap[w4.heap.size]? = some (.cells #[.int .i64 la, .int .i64 lb] 31 (0, 0))) := World.alloc_heap_new _ _
    refine (specOps_any L G c _ HS5.out.at (by omega) HS5.out.cap).mono ?_
    rintro e w5 ⟨rfl, hb5⟩
    have HS6 := hideIt (HS5.out.below hb5)
    have HX6 := hideIt (HX5.out.below hb5)
    have HM6 := hideIt (blk_below HM5.out hb5)
    have hltm := (Array.getElem?_eq_some_iff.1 HM6.out).1
    have hltx := (Array.getElem?_eq_some_iff.1 HX6.out.box).1
    have k0 := (blk_cell HX6.out.box 0).trans rfl
    have k1 := (blk_cell HX6.out.box 1).trans rfl
    have m0 := (blk_cell HM6.out 0).trans rfl
    have m1 := (blk_cell HM6.out 1).trans rfl
    clear hb5 HBa HS5 HX5 HM5 i0 i1 hlt
    cases ho : opsB L
    all_goals have HO := hideIt ho; clear ho
    · go_wp2
      go_ret
      exact ⟨rfl, HX6.out.bel⟩
    · clear k0 k1 m0 m1
      go_wp2_with fail
      refine (implTxt_any L G c x _ HS6.out.at (by omega) HS6.out.cap (errB HX6.out.bel h0 he) (posB HX6.out.bel h0)).mono ?_
      rintro e w6 ⟨rfl, hb6⟩
      have HS7 := hideIt (HS6.out.below hb6)
      have HB7 := hideIt (Bstep HX6.out.bel hb6)
      obtain ⟨hsz, hle⟩ := text_shown HO.out
      have HLE := hideIt hle
      generalize txtB (shown (lfs L (standL L))) = T at *
      have hN36 : (shownI (lvs L)).length ≤ 36 := Nat.le_trans (shownTo_len _ _) (lvs_len HO.out)
      have hT36 : T.size ≤ 36 := by omega
      have HSZ := hideIt hsz
      clear hb6 HS6 HX6 HM6 hltm hltx hle hsz
      go_wp2_with fail
      refine (implLeaves_any L G c x _ HS7.out.at (by omega) HS7.out.cap (errB HB7.out h0 he) (posB HB7.out h0)).mono ?_
      rintro e w7 ⟨v, rfl, hrow, hb7⟩
      rw [HLE.out] at hrow
      have HS8 := hideIt (HS7.out.below hb7)
      have HB8 := hideIt (Bstep HB7.out hb7)
      have HRW := hideIt hrow
      clear hb7 HS7 HB7
      have hwT : IntKind.i64.wrap ((T.size : Int) + 1) = (T.size : Int) + 1 := IntWalk.i64_in ((T.size : Int) + 1) ⟨by omega, by omega⟩
      have HFAR : Hid (atV L ((T.size : Int) + 1) = .tuple #[.agg #[.int .i64 0, .int .i64 0], .bool false]) := atV_no (by unfold atB; have h := HSZ.out; simp [inB]; intro _ _; omega)
      have HBEL : Hid (atV L (-1) = .tuple #[.agg #[.int .i64 0, .int .i64 0], .bool false]) := atV_no (by unfold atB; simp [inB])
      rcases row_cases hrow with ⟨hlen, q0, c0, rfl⟩ | ⟨hlen, G2, c2, rfl, hc2, hG2, hcell⟩
      all_goals
        clear hrow
        go_wp2_with fail
        refine (implAt_any L G c ((T.size : Int) + 1) (wf_small (by omega)) x _ HS8.out.at (by omega) HS8.out.cap (errB HB8.out h0 he) (posB HB8.out h0)).mono ?_
        rintro e w9 ⟨rfl, hb9⟩
        rw [HFAR.out]
        have HS9 := hideIt (HS8.out.below hb9)
        have HB9 := hideIt (Bstep HB8.out hb9)
      · clear hb9 HS8 HB8
        have HBz : Hid (Below w9.heap.size w9 (w9.alloc (.cells #[.int .i64 0, .int .i64 0] 31))) := (Below.refl _ _).alloc (Nat.le_refl _) _
        have HS9' := hideIt (HS9.out.below HBz.out)
        have HB9' := hideIt (Bstep HB9.out HBz.out)
        go_wp2_with fail
        refine (implAt_any L G c (-1) (wf_small (by omega)) x _ HS9'.out.at (by omega) HS9'.out.cap (errB HB9'.out h0 he) (posB HB9'.out h0)).mono ?_
        rintro e w10 ⟨rfl, hb10⟩
        rw [HBEL.out]
        have HB10 := hideIt (Bstep HB9'.out hb10)
        clear hb10 HS9 HB9 HS9' HB9'
        go_wp2
        go_ret
        exact ⟨rfl, HB10.out.alloc HB10.out.size _⟩
      · have HBz : Hid (Below w9.heap.size w9 (w9.alloc (.cells #[.int .i64 0, .int .i64 0] 31))) := (Below.refl _ _).alloc (Nat.le_refl _) _
        have HS9' := hideIt (HS9.out.below HBz.out)
        have HB9' := hideIt (Bstep HB9.out HBz.out)
        have hG9 : G2 < w9.heap.size := Nat.lt_of_lt_of_le hG2 hb9.size
        have HC9 : Hid (∀ j, j < (lvs L).length * 4 → (w9.alloc (.cells #[.int .i64 0, .int .i64 0] 31)).cell? ⟨G2, j, none⟩ = (lfCells (lvs L))[j]?) := fun j hj => ((bcell HBz.out).1 G2 j hG9).trans (((bcell hb9).1 G2 j hG2).trans (hcell j hj))
        have hG9' : G2 < (w9.alloc (.cells #[.int .i64 0, .int .i64 0] 31)).heap.size := Nat.lt_of_lt_of_le hG9 HBz.out.size
        clear hb9 HS8 HB8 hcell
        go_wp2_with fail
        refine (implAt_any L G c (-1) (wf_small (by omega)) x _ HS9'.out.at (by omega) HS9'.out.cap (errB HB9'.out h0 he) (posB HB9'.out h0)).mono ?_
        rintro e w10 ⟨rfl, hb10⟩
        rw [HBEL.out]
        have HBy : Hid (Below w10.heap.size w10 (w10.alloc (.cells #[.int .i64 0, .int .i64 0] 31))) := (Below.refl _ _).alloc (Nat.le_refl _) _
        have HS10 := hideIt ((HS9'.out.below hb10).below HBy.out)
        have HB10 := hideIt (Bstep (Bstep HB9'.out hb10) HBy.out)
        have HC10 : Hid (∀ j, j < (lvs L).length * 4 → w10.cell? ⟨G2, j, none⟩ = (lfCells (lvs L))[j]?) := fun j hj => ((bcell hb10).1 G2 j hG9').trans (HC9.out j hj)
        have hG10 : G2 < w10.heap.size := Nat.lt_of_lt_of_le hG9' hb10.size
        clear hb10 HS9 HB9 HS9' HB9' HC9 hG9 hG9' HBz
        have hL36 := lvs_len HO.out
        obtain ⟨M, hM⟩ : ∃ M, (lvs L).length = M + 1 := ⟨(lvs L).length - 1, by omega⟩
        obtain ⟨xl, hxl⟩ : ∃ xl, (lvs L)[M]? = some xl := ⟨(lvs L)[M]'(by omega), by simp⟩
        obtain ⟨xf, hxf⟩ : ∃ xf, (lvs L)[0]? = some xf := ⟨(lvs L)[0]'(by omega), by simp⟩
        have HLA : Hid (markP L xl.a xl.b = some T.size) := by
          show markP L xl.a xl.b = some T.size
          rw [HSZ.out]
          exact last_place HO.out (by omega) (by rw [hM]; exact hxl)
        have HFI : Hid (markP L xf.a xf.b = some (if xf.z then 0 else 1)) := first_place HO.out hxf
        obtain ⟨q0, q1, _, _⟩ := lfCells_at (lvs L) M xl hxl
        obtain ⟨f0, f1, _, f3⟩ := lfCells_at (lvs L) 0 xf hxf
        have z0 := (HC10.out (M * 4) (by omega)).trans q0
        have z1 := (HC10.out (M * 4 + 1) (by omega)).trans q1
        have hMi : (M : Int) < ((lvs L).length : Int) := by omega
        have hM0 : (0 : Int) ≤ (M : Int) := by omega
        have hNe : ¬ ((lvs L).length : Int) = 0 := by omega
        have hN0 : (0 : Int) < ((lvs L).length : Int) := by omega
        have hwi : IntKind.i64.wrap (((lvs L).length : Int) - 1) = (M : Int) := by rw [show ((lvs L).length : Int) - 1 = (M : Int) by omega]; exact IntWalk.i64_in (M : Int) ⟨by omega, by omega⟩
        clear q0 q1 hxl hxf hM
        generalize xl.a = xa at *
        generalize xl.b = xb at *
        generalize xf.a = ya at *
        generalize xf.b = yb at *
        generalize xf.z = yz at *
        go_wp2_with fail
        refine (implPlace_any L G c xa xb x _ HS10.out.at (by omega) HS10.out.cap (errB HB10.out h0 he) (posB HB10.out h0)).mono ?_
        rintro e w11 ⟨rfl, hb11⟩
        rw [HLA.out]
        unfold plV
        simp only [pN, pB]
        have hby := Bstep HBy.out hb11
        have HS11 := hideIt (HS10.out.below hb11)
        have HB11 := hideIt (Bstep HB10.out hb11)
        have HC11 : Hid (∀ j, j < (lvs L).length * 4 → w11.cell? ⟨G2, j, none⟩ = (lfCells (lvs L))[j]?) := fun j hj => ((bcell hby).1 G2 j hG10).trans (HC10.out j hj)
        have hG11 : G2 < w11.heap.size := Nat.lt_of_lt_of_le hG10 hby.size
        clear hb11 hby HS10 HB10 HBy HC10 hG10 z0 z1 hwi
        have y0 : w11.cell? ⟨G2, 0, none⟩ = some (.int .i64 ya) := (HC11.out 0 (by omega)).trans f0
        have y1 : w11.cell? ⟨G2, 1, none⟩ = some (.int .i64 yb) := (HC11.out 1 (by omega)).trans f1
        go_wp2_with fail
        refine (implPlace_any L G c ya yb x _ HS11.out.at (by omega) HS11.out.cap (errB HB11.out h0 he) (posB HB11.out h0)).mono ?_
        rintro e w12 ⟨rfl, hb12⟩
        rw [HFI.out]
        unfold plV
        simp only [pN, pB]
        have HB12 := hideIt (Bstep HB11.out hb12)
        have y3 : w12.cell? ⟨G2, 3, none⟩ = some (.bool yz) := ((bcell hb12).1 G2 3 hG11).trans ((HC11.out 3 (by omega)).trans f3)
        have hG12 : G2 < w12.heap.size := Nat.lt_of_lt_of_le hG11 hb12.size
        clear hb12 HS11 HB11 HC11 hG11 y0 y1 f0 f1 f3 HFI HLA
        cases yz
        all_goals
          simp only [if_true, if_false, Bool.false_eq_true]
          go_wp2
          go_ret
          exact ⟨rfl, HB12.out⟩
  · go_enter Tryd.func12, Tryd.ntmps12
    go_wp2
    go_ret
    exact ⟨rfl, Below.refl _ _⟩
end Go.Proofs.YtjgbickelgkljaaDoor

namespace Go.Proofs.YtjgbickelgkljaaDoor
open Go.ChangeShapes Go.WideShapes Go.ChangeAt Go.RowKit Go.Joins

set_option maxRecDepth 100000 in
theorem liftedFnMarkEnd (os : Os) (started : os.Started) (H : Type) (enc : TypeId × Value → H) :
    ReturnsInHanded {} Tryd.checked os 12 .any (fun w args => (Rows.fnMarkEndSpec.pre enc Tryd.prog Tryd.f12 [] false w args ∧ laidMetH Tryd.prog laid1 w) ∧ sizedMet enc Tryd.prog Tryd.f12 (OpenSpec.ofChange Rows.fnMarkEndSpec) false w args)
      (Rows.fnMarkEndSpec.post enc Tryd.prog Tryd.f12 false true false false) := by
  refine returnsInHanded_of_change_and (C := Tryd.checked) (X := fun w _ => laidMetH Tryd.prog laid1 w) (fun _ _ _ hh h => h.of_heap hh) own started (by kernel_rfl) Tryd.func12
    (ChangeSpec.witness_shaped (enc := enc) (C := Tryd.checked) (os := os) (X := fun w _ => laidMetH Tryd.prog laid1 w) false (World.doorLaid Tryd.prog 28 os) #[.slice none 0 0] 8 rfl (World.shaped_of_RefB (by kernel_rfl) (by kernel_rfl)) (by kernel_rfl) (by kernel_rfl) (by kernel_rfl) (door_met os _)) ?_
  intro W base args ds gs before hval0 hW _ _ hL _
  have hval : ∀ (j : Nat) t v, Tryd.f12.params[j]? = some t → args[j]? = some v → Value.okWide Tryd.prog W .any base t v := hval0
  have hW' := hW
  obtain ⟨p, q, hA0, hV0, rfl, hfz, hnd⟩ := hW
  have hA : DataW.TrodAll enc Tryd.prog W 0 (fun _ => true) true Tryd.f12.params.toList args.toList ds p := hA0
  have hV : DataW.TrodVars enc Tryd.prog W (fun _ => true) [errName] gs q := hV0
  rw [Tryd.params12] at hA hval
  obtain ⟨v0, d0, rfl, rfl, h0⟩ := trodAll_one hA
  have k0 := h0
  have lt0 : ∀ x ∈ p, x.block < W.heap.size := by obtain ⟨m, hm⟩ := k0; exact DataW.trod_lt m _ _ _ hm
  obtain ⟨x, hv, hc, hpos⟩ := of_laid hL
  obtain ⟨rfl, rfl⟩ := hV.unique (vars_read1 enc gErr tErr Tryd.underlying83 hv trivial _)
  obtain ⟨q0, n0, c0, rfl, hc0, hm0, ha0⟩ := open_bytes (hval 0 22 v0 rfl rfl) h0
  clear hA0 hV0 hval0
  refine (walkMarkEnd W q0 n0 c0 ha0 hc0 hm0 x hc hpos).mono fun e W' ⟨he, bel⟩ => ?_
  subst he
  exact ⟨_, rfl, _, _, _, [], p, [.cell 0 0], hW', trodAll_mk1 (shut_bool Tryd.underlying4 _), trodAll_mk1 (Below.trod laidOut (by kernel_rfl) (of_decide_eq_true (by kernel_rfl)) k0 bel lt0), vars_read1 enc gErr tErr Tryd.underlying83 (var_kept bel hpos hv) trivial _, bel.frame _, fun h => by cases h⟩

theorem fnMarkEnd_row : Rows.FnMarkEndSaid :=
  OpenClaim.holds_of_wide 12 Tryd.f12 rfl rfl rfl rfl rfl rfl rfl ⟨rfl, rfl, rfl, rfl, rfl⟩ rfl rfl rfl rfl rfl (by kernel_rfl) Tryd.func12 (by kernel_rfl)
    (of_decide_eq_true (by kernel_rfl)) (by unfold Func.isWrapper; first | (rw [if_pos (by decide +kernel)]; kernel_rfl) | (rw [if_neg (by decide +kernel)]; exact ⟨rfl, rfl⟩))
    (fun os started H enc _ => liftedFnMarkEnd os started H enc)

/-- THE STATEMENT. -/
theorem fnMarkEnd_holds : Rows.FnMarkEndCardSaid :=
  Claim7.holds_tied_plain_at .later [] Rows.fnMarkEndCard.laidKinds true Rows.fnMarkEndCard.stood.harness true
    fnMarkEnd_row (fun _ h => by cases h) (by kernel_rfl) (fun _ h => by cases h) fnMarkEnd_row_tie rfl ⟨rfl, rfl⟩ (by kernel_rfl) rfl
    (fun f fn hf hfn => by
      obtain rfl : f = 12 := Option.some.inj ((show Tryd.prog.funcNamed Rows.fnMarkEndRow.func = some 12 by kernel_rfl).symm.trans hf) |>.symm
      obtain rfl : fn = Tryd.f12 := (Option.some.inj (Tryd.func12.symm.trans hfn)).symm
      exact ⟨by kernel_rfl, fun j t ht => by
        rw [Tryd.params12] at ht
        have hm : t ∈ [22] := by simpa using Array.mem_of_getElem? ht
        have hall : ([22].all fun u => !Tryd.prog.wantsStandIn u) = true := by kernel_rfl
        exact (show Tryd.prog.wantsStandIn t = false by simpa using List.all_eq_true.1 hall t hm)⟩)
    (by kernel_rfl)
#print axioms fnMarkEnd_holds
end Go.Proofs.YtjgbickelgkljaaDoor
