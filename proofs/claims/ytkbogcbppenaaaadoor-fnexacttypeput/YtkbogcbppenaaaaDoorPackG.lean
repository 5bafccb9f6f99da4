/- The contract of the program's signAhead. -/
import Derived.Test.YtkbogcbppenaaaaDoorPackC
import Derived.Test.YtkbogcbppenaaaaDoorPackF
import Derived.Stop.RegionWithIn
namespace Go.Proofs.YtkbogcbppenaaaaDoor
open Go.RowKit Go.Shelf
set_option linter.unusedSimpArgs false
set_option linter.unusedVariables false
attribute [local go_sem] Oper.semAt_some

theorem store_fn {P : Program} {w : World} {a : Addr} {m : Mode} (fn : Fn) (first captured : Array Value) : (store a (.func fn first captured) m).run P w = stored P w a (.func fn first captured) m := run_store P w a _ m rfl
attribute [local go_sem] store_fn

set_option maxHeartbeats 1000000 in
theorem counter_any (w : World) :
    Calls Tryd.prog 126 #[] w fun e w' => e = .returned (.func (.func 142) #[] #[.pointer (some ⟨w.heap.size, 0, none⟩)]) ∧ w' = w.alloc (.cells #[.int .i64 0] 3) := by
  go_enter Tryd.func126, Tryd.ntmps126
  go_wp2
  go_ret
  exact ⟨rfl, rfl⟩
set_option maxHeartbeats 1000000 in
theorem count_gone (a b g : Int) (Q : Nat) (k : Int) (w : World) (hq : w.heap[Q]? = some (.cells #[.int .i64 k] 3 (0, 0))) :
    Calls Tryd.prog 142 #[.agg #[.int .i64 a, .int .i64 b, .int .i64 g, .bool true], .pointer (some ⟨Q, 0, none⟩)] w fun e w' => e = .returned (.int .i64 k) ∧ Below w.heap.size w w' := by
  have q0 := (blk_cell hq 0).trans rfl
  have hQ := (Array.getElem?_eq_some_iff.1 hq).1
  go_enter Tryd.func142, Tryd.ntmps142
  go_wp2
  go_ret
  exact ⟨rfl, by go_grown⟩
set_option maxHeartbeats 1000000 in
theorem count_there (a b g : Int) (Q : Nat) (k : Nat) (hk : k ≤ 1048576) (w : World) (hq : w.heap[Q]? = some (.cells #[.int .i64 (k : Int)] 3 (0, 0))) :
    Calls Tryd.prog 142 #[.agg #[.int .i64 a, .int .i64 b, .int .i64 g, .bool false], .pointer (some ⟨Q, 0, none⟩)] w fun e w' => e = .returned (.int .i64 ((k : Int) + 1)) ∧ w' = (w.setCell ⟨Q, 0, none⟩ (.int .i64 ((k : Int) + 1))).alloc (.cells #[.int .i64 a, .int .i64 b, .int .i64 g, .bool false] 81) := by
  have q0 := (blk_cell hq 0).trans rfl
  have fq : w.frozen? ⟨Q, 0, none⟩ = false := by simp [World.frozen?, hq]
  have hQ := (Array.getElem?_eq_some_iff.1 hq).1
  go_enter Tryd.func142, Tryd.ntmps142
  go_wp2
  go_ret
  exact ⟨rfl, rfl⟩

/-- Four blocks that were laid one behind the other. -/
theorem all4 (w : World) (o0 o1 o2 o3 : Obj) (k : Nat) (hk : k < 4) : ((((w.alloc o0).alloc o1).alloc o2).alloc o3).heap[w.heap.size + k]? = [o0, o1, o2, o3][k]? := by
  have e : ((((w.alloc o0).alloc o1).alloc o2).alloc o3).heap = (((w.heap.push o0).push o1).push o2).push o3 := rfl
  rw [e]
  have : k = 0 ∨ k = 1 ∨ k = 2 ∨ k = 3 := by omega
  rcases this with rfl | rfl | rfl | rfl <;> simp [Array.getElem?_push, Array.getElem_push, Nat.add_assoc]

/-- The boxes of signAt: the place, the counter and who counts, and what is to be answered. -/
structure SI (S S1 S2 S3 Qc Qf : Nat) (t k ra rb : Int) (w W : World) : Prop where
  q : W.heap[Qc]? = some (.cells #[.int .i64 k] 3 (0, 0))
  fn : W.heap[Qf]? = some (.cells #[.func (.func 142) #[] #[.pointer (some ⟨Qc, 0, none⟩)]] 177 (0, 0))
  pl : W.heap[S1]? = some (.cells #[.int .i64 t] 3 (0, 0))
  r2 : W.heap[S2]? = some (.cells #[.int .i64 ra, .int .i64 rb] 30 (0, 0))
  r3 : W.heap[S3]? = some (.cells #[.nilIface] 88 (0, 0))
  bel : Below S w W
theorem SI.below {S S1 S2 S3 Qc Qf : Nat} {t k ra rb : Int} {w W W' : World} (h : SI S S1 S2 S3 Qc Qf t k ra rb w W) (hS : S ≤ S1) (hb : Below W.heap.size W W') : SI S S1 S2 S3 Qc Qf t k ra rb w W' :=
  ⟨blk_below h.q hb, blk_below h.fn hb, blk_below h.pl hb, blk_below h.r2 hb, blk_below h.r3 hb, h.bel.trans (hb.mono (by have := (Array.getElem?_eq_some_iff.1 h.pl).1; omega))⟩
theorem SI.kept {S S1 S2 S3 Qc Qf B : Nat} {t k ra rb : Int} {w A B' : World} {row : Option Nat} (hx : SI S S1 S2 S3 Qc Qf t k ra rb w A) (hS : S ≤ w.heap.size) (hB : S ≤ B) (hg : A.grownBy B' row) (hr : ∀ r, row = some r → B ≤ r ∧ ∃ o : Obj, A.heap[r]? = some o ∧ o.isCells = false) : SI S S1 S2 S3 Qc Qf t k ra rb w B' :=
  ⟨own_blk B Qc (fun _ : Unit => #[.int .i64 k]) _ () A B' row hx.q hg hr, own_blk B Qf (fun _ : Unit => #[.func (.func 142) #[] #[.pointer (some ⟨Qc, 0, none⟩)]]) _ () A B' row hx.fn hg hr, own_blk B S1 (fun _ : Unit => #[.int .i64 t]) _ () A B' row hx.pl hg hr,
    own_blk B S2 (fun _ : Unit => #[.int .i64 ra, .int .i64 rb]) _ () A B' row hx.r2 hg hr, own_blk B S3 (fun _ : Unit => #[.nilIface]) _ () A B' row hx.r3 hg hr, ownFrom_below (β := Unit) hS hB () A B' row hx.bel hg hr⟩
theorem SI.setQ {S S1 S2 S3 Qc Qf : Nat} {t k ra rb : Int} {w W : World} (h : SI S S1 S2 S3 Qc Qf t k ra rb w W) (h1 : S ≤ Qc) (h2 : S1 < Qc) (h3 : S2 < Qc) (h4 : S3 < Qc) (h5 : Qc < Qf) (k' : Int) : SI S S1 S2 S3 Qc Qf t k' ra rb w (W.setCell ⟨Qc, 0, none⟩ (.int .i64 k')) :=
  ⟨Boxed.set _ h.q, blk_set h.fn (by omega), blk_set h.pl (by omega), blk_set h.r2 (by omega), blk_set h.r3 (by omega), h.bel.setCell (p := ⟨Qc, 0, none⟩) h1 _⟩
theorem set_two {W : World} {b : Nat} {T : TypeId} {u v u' v' : Value} (h : W.heap[b]? = some (.cells #[u, v] T (0, 0))) : ((W.setCell ⟨b, 0, none⟩ u').setCell ⟨b, 1, none⟩ v').heap[b]? = some (.cells #[u', v'] T (0, 0)) := by
  simp only [World.setCell, Array.getElem?_modify, if_true, h, Option.map_some]
  rfl
theorem blk_set1 {W : World} {b c i : Nat} {o : Obj} {u : Value} (h : W.heap[b]? = some o) (hne : b ≠ c) : (W.setCell ⟨c, i, none⟩ u).heap[b]? = some o :=
  (Below.heap_setCell W ⟨c, i, none⟩ u b hne).trans h
theorem SI.setR {S S1 S2 S3 Qc Qf : Nat} {t k ra rb : Int} {w W : World} (h : SI S S1 S2 S3 Qc Qf t k ra rb w W) (h1 : S ≤ S2) (h2 : S1 < S2) (h3 : S2 < S3) (h4 : S2 < Qc) (h5 : S2 < Qf) (a b : Int) : SI S S1 S2 S3 Qc Qf t k a b w ((W.setCell ⟨S2, 0, none⟩ (.int .i64 a)).setCell ⟨S2, 1, none⟩ (.int .i64 b)) :=
  ⟨blk_set1 (blk_set1 h.q (by omega)) (by omega), blk_set1 (blk_set1 h.fn (by omega)) (by omega), blk_set1 (blk_set1 h.pl (by omega)) (by omega), set_two h.r2, blk_set1 (blk_set1 h.r3 (by omega)) (by omega), (h.bel.setCell (p := ⟨S2, 0, none⟩) h1 _).setCell (p := ⟨S2, 1, none⟩) h1 _⟩
theorem SI.setE {S S1 S2 S3 Qc Qf : Nat} {t k ra rb : Int} {w W : World} (h : SI S S1 S2 S3 Qc Qf t k ra rb w W) (h1 : S ≤ S3) (h2 : S1 < S3) (h3 : S2 < S3) (h4 : S3 < Qc) (h5 : S3 < Qf) : SI S S1 S2 S3 Qc Qf t k ra rb w (W.setCell ⟨S3, 0, none⟩ .nilIface) :=
  ⟨blk_set h.q (by omega), blk_set h.fn (by omega), blk_set h.pl (by omega), blk_set h.r2 (by omega), Boxed.set _ h.r3, h.bel.setCell (p := ⟨S3, 0, none⟩) h1 _⟩

set_option maxRecDepth 100000 in
set_option maxHeartbeats 2000000 in
theorem signAt_in (l : List Op7) (hops : opsB l = true) (hn : l.length ≤ 1048576) (w0 : World) (b1 b2 b3 base : Nat) (hT : TreeAt w0 b1 b2 b3 base l) (n : Nat) (h3 : 3 ≤ n) (t : Int) (x : Addr) (w : World) (hW : Below w0.heap.size w0 w)
    (he : w.cell? ⟨0, 0, none⟩ = some (.iface 191 (.pointer (some x)))) (h0 : 0 < w.heap.size) :
    CallsIn Fence.wide n Tryd.prog 100 #[.agg #[.map (some b1), .map (some b2), .map (some b3)], .int .i64 t] w fun e w' =>
      ((∃ k j y, t = (k : Nat) ∧ (shownI (lvs l))[k]? = some j ∧ (lvs l)[j]? = some y ∧ e = .returned (.tuple #[.agg #[.int .i64 y.a, .int .i64 y.b], .nilIface])) ∨ (inB t 0 ((shownI (lvs l)).length - 1) = false ∧ e = .returned (.tuple #[.agg #[.int .i64 0, .int .i64 0], .iface 191 (.pointer (some x))]))) ∧ Below w.heap.size w w' := by
  have h1 : 1 ≤ n := by omega
  have HW := hideIt hW
  have HTT := hideIt hT
  have HO := hideIt hops
  clear hW hT hops
  refine callsIn_of_wp_marks Tryd.func100 rfl trivial ?_ rfl
  simp only [Tryd.ntmps100, List.size_toArray, List.length_cons, List.length_nil, Nat.reduceAdd, Nat.reduceSub, Array.replicate_succ, Array.replicate_zero, List.push_toArray, List.append_toArray, List.nil_append, List.cons_append]
  have A4 : Hid (∃ W4, ((((w.alloc (.cells #[.map (some b1), .map (some b2), .map (some b3)] 86)).alloc (.cells #[.int .i64 t] 3)).alloc (.cells #[.int .i64 0, .int .i64 0] 30)).alloc (.cells #[.nilIface] 88)) = W4 ∧
      W4.heap[w.heap.size]? = some (.cells #[.map (some b1), .map (some b2), .map (some b3)] 86 (0, 0)) ∧ W4.heap[w.heap.size + 1]? = some (.cells #[.int .i64 t] 3 (0, 0)) ∧ W4.heap[w.heap.size + 1 + 1]? = some (.cells #[.int .i64 0, .int .i64 0] 30 (0, 0)) ∧ W4.heap[w.heap.size + 1 + 1 + 1]? = some (.cells #[.nilIface] 88 (0, 0)) ∧ W4.heap.size = w.heap.size + 1 + 1 + 1 + 1 ∧ Below w.heap.size w W4) :=
    ⟨_, rfl, all4 w _ _ _ _ 0 (by omega), all4 w _ _ _ _ 1 (by omega), all4 w _ _ _ _ 2 (by omega), all4 w _ _ _ _ 3 (by omega), by simp, ((((Below.refl _ _).alloc (Nat.le_refl _) _).alloc (by simp) _).alloc (by simp; omega) _).alloc (by simp; omega) _⟩
  by_cases hneg : t < 0
  · gi_wp2
    obtain ⟨W4, hW4, ht4, ha4, hi4, he4, hz4, hb4⟩ := A4.out
    rw [hW4]
    clear hW4 A4 HTT HW HO
    have herr : W4.cell? ⟨0, 0, none⟩ = some (.iface 191 (.pointer (some x))) := errB hb4 h0 he
    have i0 := (blk_cell hi4 0).trans rfl
    have i1 := (blk_cell hi4 1).trans rfl
    have e0 := (blk_cell he4 0).trans rfl
    have fi : ∀ j, W4.frozen? ⟨w.heap.size + 1 + 1, j, none⟩ = false := fun j => by simp [World.frozen?, hi4]
    have fe : W4.frozen? ⟨w.heap.size + 1 + 1 + 1, 0, none⟩ = false := by simp [World.frozen?, he4]
    have HBW := hideIt hb4
    clear he hi4 he4 ht4 ha4 hb4
    generalize hS1 : w.heap.size + 1 = S1 at *
    generalize hS2 : S1 + 1 = S2 at *
    generalize hS3 : S2 + 1 = S3 at *
    generalize hS : w.heap.size = S at *
    have n02 : ¬ 0 = S2 := by omega
    have n20 : ¬ S2 = 0 := by omega
    have n03 : ¬ 0 = S3 := by omega
    have n30 : ¬ S3 = 0 := by omega
    have n23 : ¬ S2 = S3 := by omega
    have n32 : ¬ S3 = S2 := by omega
    refine wpIn_wide.2 ?_
    go_region_held3 (fun w' => w'.cell? ⟨0, 0, none⟩ = some (.iface 191 (.pointer (some x)))) (first | exact herr | (simp [go_sem, herr, n02, n20, n03, n30])) (fail)
    gi_wp2
    exact ⟨.tuple #[.agg #[.int .i64 0, .int .i64 0], .iface 191 (.pointer (some x))], by simp [results, Tryd.results100, go_sem, i0, i1, e0, n23, n32], .inr ⟨by simp [inB]; omega, rfl⟩, hS.symm ▸ (((HBW.out.setCell (p := ⟨S2, 0, none⟩) (by show S ≤ S2; omega) _).setCell (p := ⟨S2, 1, none⟩) (by show S ≤ S2; omega) _).setCell (p := ⟨S3, 0, none⟩) (by show S ≤ S3; omega) _).drew⟩
  · gi_wp2
    refine ⟨trivial, ?_⟩
    obtain ⟨W4, hW4, ht4, ha4, hi4, he4, hz4, hb4⟩ := A4.out
    rw [hW4]
    refine (callsIn_wide.2 (counter_any _)).mono ?_
    rintro e w1 ⟨rfl, hw1⟩
    have hb1 : Below W4.heap.size W4 w1 := by rw [hw1]; exact (Below.refl _ _).alloc (Nat.le_refl _) _
    have hc1 : w1.heap[W4.heap.size]? = some (.cells #[.int .i64 0] 3 (0, 0)) := by rw [hw1]; exact World.alloc_heap_new _ _
    have hz1 : w1.heap.size = W4.heap.size + 1 := by rw [hw1]; simp
    clear hw1 hW4 A4
    have ht1 := blk_below ht4 hb1
    have ct0 := (blk_cell ht1 0).trans rfl
    have ct1 := (blk_cell ht1 1).trans rfl
    have ct2 := (blk_cell ht1 2).trans rfl
    have g0 : w.heap.size < w1.heap.size := by omega
    have HZ1 := hideIt hz1
    have HZ4 := hideIt hz4
    clear hz1 hz4 ht4
    generalize hQc : W4.heap.size = Qc at *
    gi_wp2
    refine ⟨trivial, ?_⟩
    refine (callsIn_wide.2 (leaves_any _ _ _ _ ⟨rfl, rfl, rfl⟩ b1 b2 b3 ⟨rfl, rfl, rfl⟩)).mono ?_
    rintro e w2 ⟨rfl, rfl⟩
    gi_wp2
    obtain ⟨Wb, hWb⟩ : ∃ Wb, ((w1.alloc (.cells #[.func (.func 142) #[] #[.pointer (some ⟨Qc, 0, none⟩)]] 177)).alloc (.cells #[.map (some b1), .map (some b2), .map (some b3)] 86)) = Wb := ⟨_, rfl⟩
    have hsb : Wb.heap.size = w1.heap.size + 1 + 1 := by rw [← hWb]; simp
    have hBw : Below w1.heap.size w1 Wb := by rw [← hWb]; exact ((Below.refl _ _).alloc (Nat.le_refl _) _).alloc (by simp) _
    have hbox : Wb.heap[w1.heap.size]? = some (.cells #[.func (.func 142) #[] #[.pointer (some ⟨Qc, 0, none⟩)]] 177 (0, 0)) := by rw [← hWb]; exact (Below.heap_alloc _ _ _ (by simp)).trans (World.alloc_heap_new _ _)
    have hblk : Wb.heap[w1.heap.size + 1]? = some (.cells #[.map (some b1), .map (some b2), .map (some b3)] 86 (0, 0)) := by
      rw [← hWb]
      have h := World.alloc_heap_new (w1.alloc (.cells #[.func (.func 142) #[] #[.pointer (some ⟨Qc, 0, none⟩)]] 177)) (.cells #[.map (some b1), .map (some b2), .map (some b3)] 86)
      rw [World.size_alloc] at h
      exact h
    rw [hWb]
    have hb1' : Below W4.heap.size W4 w1 := hQc.symm ▸ hb1
    have HSI : Hid (SI w.heap.size (w.heap.size + 1) (w.heap.size + 1 + 1) (w.heap.size + 1 + 1 + 1) Qc w1.heap.size t 0 0 0 w Wb) := ⟨blk_below hc1 hBw, hbox, blk_below (blk_below ha4 hb1') hBw, blk_below (blk_below hi4 hb1') hBw, blk_below (blk_below he4 hb1') hBw, Bstep (Bstep hb4 hb1') hBw⟩
    have HSQ := hideIt (leaves_stops l HO.out hn w0 b1 b2 b3 base HTT.out (n - 1) (w1.heap.size + 1) Wb (HW.out.trans (HSI.out.bel.mono HW.out.size)) hblk)
    have hlen : (allO l).length ≤ 1048576 := Nat.le_trans (all_len HO.out) hn
    have hn0 : w0.heap.size ≤ w.heap.size := HW.out.size
    have hz1 := HZ1.out
    have hz4 := HZ4.out
    have HE0 : Hid (∀ W, Below w.heap.size w W → W.cell? ⟨0, 0, none⟩ = some (.iface 191 (.pointer (some x)))) := fun W h => errB h h0 he
    clear HTT HW hbox hblk hWb ct0 ct1 ct2 hBw hb1 hb1' hc1 ha4 hi4 he4 hb4 ht1 HZ1 HZ4 he
    generalize hBt : w1.heap.size + 1 = Bt at *
    generalize hQf : w1.heap.size = Qf at *
    generalize hS1 : w.heap.size + 1 = S1 at *
    generalize hS2 : S1 + 1 = S2 at *
    generalize hS3 : S2 + 1 = S3 at *
    generalize hS : w.heap.size = S at *
    obtain ⟨tk, rfl⟩ : ∃ tk : Nat, t = tk := ⟨t.toNat, by omega⟩
    have oc : S3 < Qc := by omega
    have oq : Qc < Qf := by omega
    have ob : Wb.heap.size = Bt + 1 := by omega
    clear hneg hz1 hz4
    refine wpIn_rangeFunc_ownH rfl h1 (gf := 124) (lb := #[.pointer (some ⟨Bt, 0, none⟩)]) rfl trivial (enters_of Tryd.func124 (by kernel_rfl) rfl) HSQ.out
      (fun h k => h.trans k) (kpT_b (by omega)) (Below.refl _ _) (fun _ => rfl)
      (fun pre W => SI S S1 S2 S3 Qc Qf tk (nShown pre : Nat) 0 0 w W ∧ nShown pre ≤ tk)
      (fun c pre W => c = .ret ∧ ∃ p y, pre = p ++ [y] ∧ y.z = false ∧ nShown p = tk ∧ SI S S1 S2 S3 Qc Qf tk (nShown pre : Nat) y.a y.b w W)
      (fun s A B' row hx hg hr => ⟨hx.1.kept (by omega) (by omega) hg hr, hx.2⟩)
      (fun c s A B' row hx hg hr => by obtain ⟨h1, p, y, h2, h3, h4, h5⟩ := hx; exact ⟨h1, p, y, h2, h3, h4, h5.kept (by omega) (by omega) hg hr⟩)
      ⟨HSI.out, Nat.zero_le _⟩
      (fun x' a' W => ∃ Bx, Qf + 1 ≤ Bx ∧ W.heap[Bx]? = some (.cells #[.int .i64 x'.a, .int .i64 x'.b, .int .i64 x'.g, .bool x'.z] 81 (0, 0)) ∧ a' =
        { tmps := #[Value.agg #[Value.map (some b1), Value.map (some b2), Value.map (some b3)], Value.int IntKind.i64 tk,
          Value.pointer (some { block := S, off := 0 }),
          Value.pointer (some { block := S1, off := 0 }),
          Value.pointer (some { block := S2, off := 0 }),
          Value.pointer (some { block := S3, off := 0 }),
          Value.pointer (some { block := Qf, off := 0 }), Value.pointer (some { block := Bx, off := 0 }), Value.int IntKind.i64 tk, Value.bool false,
          undef, undef, Value.func (Fn.func 142) #[] #[Value.pointer (some { block := Qc, off := 0 })],
          Value.agg #[Value.map (some b1), Value.map (some b2), Value.map (some b3)],
          Value.func (Fn.func 124) #[] #[Value.pointer (some { block := Bt, off := 0 })], lfV x', undef,
          undef, undef, undef, undef, undef, undef, undef, undef], defers := [] })
      ?hAx ?assign ?body ?done ?stop
    case hAx =>
      rintro x' a' _ A B row ⟨Bx, hb, hx, ha⟩ hg hr
      exact ⟨Bx, hb, (hg.block Bx (Array.getElem?_eq_some_iff.1 hx).1 (fun e => by obtain ⟨_, o, ho, hc⟩ := hr Bx e.symm; rw [hx] at ho; cases ho; cases hc)).trans hx, ha⟩
    case assign =>
      rintro lp pre x' W K ⟨hci, hfr⟩ hK
      have hsW : S ≤ W.heap.size := by have := hci.bel.size; omega
      have hQW := (Array.getElem?_eq_some_iff.1 hci.fn).1
      unfold lfV
      gi_wp2
      exact hK _ _ ((KeepsOthers.alloc _ _).from _) (KpT.of_below (by omega) ((Below.refl _ _).alloc (Nat.le_refl _) _)) ⟨hci.below (by omega) ((Below.refl _ _).alloc (Nat.le_refl _) _), hfr⟩ ⟨W.heap.size, by omega, World.alloc_heap_new _ _, rfl⟩
    case body =>
      rintro lp pre x' a' W hl ⟨rr, hr⟩ ⟨hci, hfr⟩ ⟨Bx, hbx, hx, rfl⟩ hlt
      have HCW := hideIt hci
      have HX := hideIt hx
      have x0 := (blk_cell hx 0).trans rfl
      have x1 := (blk_cell hx 1).trans rfl
      have x2 := (blk_cell hx 2).trans rfl
      have x3 := (blk_cell hx 3).trans rfl
      have f2 := (blk_cell hci.fn 0).trans rfl
      have p1 := (blk_cell hci.pl 0).trans rfl
      have hgone : Hid (x'.z = true → nShown (pre ++ [x']) = nShown pre) := nShown_gone
      have hthere : Hid (x'.z = false → nShown (pre ++ [x']) = nShown pre + 1) := nShown_there
      have hyes : Hid (x'.z = false → nShown pre = tk → ∀ W9, SI S S1 S2 S3 Qc Qf tk (nShown (pre ++ [x']) : Nat) x'.a x'.b w W9 → ∃ p y, pre ++ [x'] = p ++ [y] ∧ y.z = false ∧ nShown p = tk ∧ SI S S1 S2 S3 Qc Qf tk (nShown (pre ++ [x']) : Nat) y.a y.b w W9) := fun h1 h2 W9 h3 => ⟨pre, x', rfl, h1, h2, h3⟩
      have hsl : nShown pre ≤ 1048576 := Nat.le_trans (nShown_le _) (by omega)
      have hsW : S ≤ W.heap.size := by have := hci.bel.size; omega
      clear hr hx hci
      generalize x'.a = xa at *
      generalize x'.b = xb at *
      generalize x'.g = xg at *
      generalize x'.z = xz at *
      generalize hns : nShown pre = ns at *
      cases xz
      · have HT := hideIt (hthere.out (by first | rfl | trivial))
        have HYS := hideIt (hyes.out (by first | rfl | trivial))
        have HQd : Hid (W.drew.heap[Qc]? = some (.cells #[.int .i64 (ns : Int)] 3 (0, 0))) := HCW.out.q
        have HSd : Hid (SI S S1 S2 S3 Qc Qf tk ((ns : Int) + 1) 0 0 w (W.drew.setCell ⟨Qc, 0, none⟩ (.int .i64 ((ns : Int) + 1)))) := (HCW.out.below (by omega) ((Below.refl _ _).drew)).setQ (by omega) (by omega) (by omega) (by omega) (by omega) _
        have HPd : Hid (KpT w0.heap.size W (W.drew.setCell ⟨Qc, 0, none⟩ (.int .i64 ((ns : Int) + 1)))) := (KpT.of_below (by omega) ((Below.refl _ _).drew)).trans (kpT_row (W := W.drew) (by show w0.heap.size ≤ W.heap.size; omega) (grownBy_setCell' _ _ _) (fun j e => by cases e; exact ⟨by omega, _, _, _, HCW.out.q, by decide⟩))
        have hsz9 : w0.heap.size ≤ (W.drew.setCell ⟨Qc, 0, none⟩ (.int .i64 ((ns : Int) + 1))).heap.size := Nat.le_trans (by omega) HPd.out.1.size
        have n23 : ¬ S3 = S2 := by omega
        have nb2 : ¬ Bx = S2 := by omega
        clear hthere hgone hyes
        gi_wp2
        gi_region_with (first
          | (refine ⟨trivial, (fun h => by cases h), ?_⟩; refine ((callsIn_wide.2 (count_there xa xb xg Qc ns hsl _ HQd.out)).inRound lp).mono ?_; rintro e W2 ⟨rfl, hw2⟩;
              have HS2 : Hid (SI S S1 S2 S3 Qc Qf tk ((ns : Int) + 1) 0 0 w W2) := (by rw [hw2]; exact HSd.out.below (by omega) ((Below.refl _ _).alloc (Nat.le_refl _) _));
              have HX2 : Hid (W2.heap[Bx]? = some (.cells #[.int .i64 xa, .int .i64 xb, .int .i64 xg, .bool false] 81 (0, 0))) := (by rw [hw2]; exact blk_below (blk_set (W := W.drew) HX.out (by omega)) ((Below.refl _ _).alloc (Nat.le_refl _) _));
              have HK2 : Hid (KeepsOthers W W2) := (by rw [hw2]; exact ((KeepsOthers.drew W).trans (KeepsOthers.setCell _ _ _)).trans (KeepsOthers.alloc _ _));
              have HP2 : Hid (KpT w0.heap.size W W2) := (by rw [hw2]; exact HPd.out.trans (KpT.of_below hsz9 ((Below.refl _ _).alloc (Nat.le_refl _) _)));
              have p2 := (blk_cell HS2.out.pl 0).trans rfl; clear hw2)
          | gi_in)
        all_goals
          clear HSd HPd HQd p1 f2 x0 x1 x2 x3 p2
          have y0 := (blk_cell HX2.out 0).trans rfl
          have y1 := (blk_cell HX2.out 1).trans rfl
          have i0 := (blk_cell HS2.out.r2 0).trans rfl
          have i1 := (blk_cell HS2.out.r2 1).trans rfl
          have e0 := (blk_cell HS2.out.r3 0).trans rfl
          have f2 : ∀ j, W2.frozen? ⟨S2, j, none⟩ = false := fun j => by simp [World.frozen?, HS2.out.r2]
          have f3 : W2.frozen? ⟨S3, 0, none⟩ = false := by simp [World.frozen?, HS2.out.r3]
          by_cases htk : ns = tk
          · rw [decide_eq_true (show (tk : Int) < (ns : Int) + 1 by omega)]
            have HF := hideIt (HYS.out htk)
            clear HYS htk
            gi_wp2
            exact ⟨(((HK2.out.trans (KeepsOthers.setCell _ _ _)).trans (KeepsOthers.setCell _ _ _)).trans (KeepsOthers.setCell _ _ _)).from _, rfl, HF.out _ (by rw [HT.out]; push_cast; exact (HS2.out.setR (by omega) (by omega) (by omega) (by omega) (by omega) _ _).setE (by omega) (by omega) (by omega) (by omega) (by omega))⟩
          · rw [decide_eq_false (show ¬ (tk : Int) < (ns : Int) + 1 by omega)]
            clear HYS
            gi_wp2
            exact ⟨HK2.out.from _, HP2.out, by rw [HT.out]; push_cast; exact HS2.out, by rw [HT.out]; omega⟩
      · have HT := hideIt (hgone.out (by first | rfl | trivial))
        have HQd : Hid (W.drew.heap[Qc]? = some (.cells #[.int .i64 (ns : Int)] 3 (0, 0))) := HCW.out.q
        clear hthere hgone hyes
        gi_wp2
        gi_region_with (first
          | (refine ⟨trivial, (fun h => by cases h), ?_⟩; refine ((callsIn_wide.2 (count_gone xa xb xg Qc (ns : Int) _ HQd.out)).inRound lp).mono ?_; rintro e W2 ⟨rfl, hb2⟩;
              have HB2 : Hid (Below W.heap.size W W2) := ((Below.refl _ _).drew).trans hb2;
              have p2 := (blk_cell (blk_below HCW.out.pl HB2.out) 0).trans rfl; clear hb2)
          | gi_in)
        all_goals
          clear HQd p1 f2 x0 x1 x2 x3 p2
          rw [decide_eq_false (show ¬ tk < ns by omega)]
          gi_wp2
          exact ⟨(show KeepsOthers W W2 from ⟨HB2.out.size, fun k o h _ => blk_below h HB2.out⟩).from _, KpT.of_below (by omega) HB2.out, by rw [HT.out]; exact HCW.out.below (by omega) HB2.out, by rw [HT.out]; exact hfr⟩
    case done =>
      rintro D ys W hD rfl ⟨hci, hfr⟩ hK
      have HNO : Hid (inB (tk : Int) 0 ((shownI (lvs l)).length - 1) = false) := by
        show inB (tk : Int) 0 ((shownI (lvs l)).length - 1) = false
        rw [shownI_len]
        have : nShown (lvs l) ≤ tk := hfr
        simp [inB]
        omega
      have he0 := HE0.out W hci.bel
      have HCI2 := hideIt hci
      have i0 := (blk_cell hci.r2 0).trans rfl
      have i1 := (blk_cell hci.r2 1).trans rfl
      have e0 := (blk_cell hci.r3 0).trans rfl
      have f2 : ∀ j, W.frozen? ⟨S2, j, none⟩ = false := fun j => by simp [World.frozen?, hci.r2]
      have f3 : W.frozen? ⟨S3, 0, none⟩ = false := by simp [World.frozen?, hci.r3]
      have n02 : ¬ 0 = S2 := by omega
      have n20 : ¬ S2 = 0 := by omega
      have n03 : ¬ 0 = S3 := by omega
      have n30 : ¬ S3 = 0 := by omega
      have n23 : ¬ S2 = S3 := by omega
      have n32 : ¬ S3 = S2 := by omega
      clear hfr hci
      gi_wp2
      refine wpIn_wide.2 ?_
      go_region_held3 (fun w' => w'.cell? ⟨0, 0, none⟩ = some (.iface 191 (.pointer (some x)))) (first | exact he0 | (simp [go_sem, he0, n02, n20, n03, n30])) (fail)
      gi_wp2
      have HZ := HCI2.out.setR (by omega) (by omega) (by omega) (by omega) (by omega) 0 0
      obtain ⟨WZ, hWZ⟩ : ∃ WZ, (((W.setCell ⟨S2, 0, none⟩ (.int .i64 0)).setCell ⟨S2, 1, none⟩ (.int .i64 0)).setCell ⟨S3, 0, none⟩ (.iface 191 (.pointer (some x)))).drew = WZ := ⟨_, rfl⟩
      rw [hWZ]
      have z2 : WZ.heap[S2]? = some (.cells #[.int .i64 0, .int .i64 0] 30 (0, 0)) := by rw [← hWZ]; exact blk_set HZ.r2 n23
      have z3 : WZ.heap[S3]? = some (.cells #[.iface 191 (.pointer (some x))] 88 (0, 0)) := by rw [← hWZ]; exact Boxed.set _ HZ.r3
      have zK : WZ.heap[D]? = some (.deferred (some [])) := by rw [← hWZ]; exact blk_set (blk_set1 (blk_set1 hK (by omega)) (by omega)) (by omega)
      have zB : Below S w WZ := by rw [← hWZ]; exact (HZ.bel.setCell (p := ⟨S3, 0, none⟩) (by show S ≤ S3; omega) _).drew
      clear hWZ
      refine ⟨by simp, .inl ⟨_, _, rfl, run_takeDeferred zK, ?_⟩⟩
      have v0 : (WZ.putObj D (.deferred none)).cell? ⟨S2, 0, none⟩ = some (.int .i64 0) := (cell_put _ (by omega)).trans ((blk_cell z2 0).trans rfl)
      have v1 : (WZ.putObj D (.deferred none)).cell? ⟨S2, 1, none⟩ = some (.int .i64 0) := (cell_put _ (by omega)).trans ((blk_cell z2 1).trans rfl)
      have v2 : (WZ.putObj D (.deferred none)).cell? ⟨S3, 0, none⟩ = some (.iface 191 (.pointer (some x))) := (cell_put _ (by omega)).trans ((blk_cell z3 0).trans rfl)
      exact ⟨.tuple #[.agg #[.int .i64 0, .int .i64 0], .iface 191 (.pointer (some x))], by simp [results, Tryd.results100, go_sem, v0, v1, v2], .inr ⟨HNO.out, rfl⟩, hS.symm ▸ zB.trans (belowK_b (w := Wb) (by omega) WZ D _ _ (by omega) zK rfl rfl)⟩
    case stop =>
      rintro D c pre W hD ⟨t', ht⟩ ⟨rfl, p, y, rfl, hz, hk, hci⟩ hK
      have HYES : Hid ((shownI (lvs l))[tk]? = some p.length ∧ (lvs l)[p.length]? = some y) := by
        have ht' : p ++ y :: t' = lvs l := by rw [← show (p ++ [y]) ++ t' = lvs l from ht]; simp
        exact ⟨hk ▸ shownI_at ht' hz, at_mid ht'⟩
      have HCI2 := hideIt hci
      have i0 := (blk_cell hci.r2 0).trans rfl
      have i1 := (blk_cell hci.r2 1).trans rfl
      have e0 := (blk_cell hci.r3 0).trans rfl
      clear hci ht
      gi_wp2
      refine ⟨by simp, .inl ⟨_, _, rfl, run_takeDeferred hK, ?_⟩⟩
      have v0 : (W.putObj D (.deferred none)).cell? ⟨S2, 0, none⟩ = some (.int .i64 y.a) := (cell_put _ (by omega)).trans i0
      have v1 : (W.putObj D (.deferred none)).cell? ⟨S2, 1, none⟩ = some (.int .i64 y.b) := (cell_put _ (by omega)).trans i1
      have v2 : (W.putObj D (.deferred none)).cell? ⟨S3, 0, none⟩ = some .nilIface := (cell_put _ (by omega)).trans e0
      exact ⟨.tuple #[.agg #[.int .i64 y.a, .int .i64 y.b], .nilIface], by simp [results, Tryd.results100, go_sem, v0, v1, v2], .inl ⟨tk, _, y, rfl, HYES.out.1, HYES.out.2, rfl⟩, hS.symm ▸ HCI2.out.bel.trans (belowK_b (w := Wb) (by omega) W D _ _ (by omega) hK rfl rfl)⟩
end Go.Proofs.YtkbogcbppenaaaaDoor

namespace Go.Proofs.YtkbogcbppenaaaaDoor
open Go.RowKit Go.Shelf
set_option linter.unusedSimpArgs false
set_option linter.unusedVariables false
attribute [local go_sem ↓] Go.wp_at_zero Go.wp_at_succ

theorem wf64_iff {n : Int} : wf64 n ↔ -9223372036854775808 ≤ n ∧ n ≤ 9223372036854775807 := by
  constructor
  · intro h
    simp [wf64, Lit.wf, IntKind.min, IntKind.max, IntKind.signed, IntKind.bits] at h
    omega
  · exact wf_small
/-- A box that is to be answered, still nothing, in memory that has grown. -/
structure IB (w W : World) : Prop where
  box : W.heap[w.heap.size]? = some (.cells #[.int .i64 0, .int .i64 0] 30 (0, 0))
  bel : Below w.heap.size w W
theorem IB.start (w : World) : IB w (w.alloc (.cells #[.int .i64 0, .int .i64 0] 30)) := ⟨World.alloc_heap_new _ _, (Below.refl _ _).alloc (Nat.le_refl _) _⟩
theorem IB.below {w W W' : World} (h : IB w W) (hb : Below W.heap.size W W') : IB w W' := ⟨blk_below h.box hb, Bstep h.bel hb⟩
theorem IB.lt {w W : World} (h : IB w W) : w.heap.size < W.heap.size := (Array.getElem?_eq_some_iff.1 h.box).1
theorem IB.frozen {w W : World} (h : IB w W) (j : Nat) : W.frozen? ⟨w.heap.size, j, none⟩ = false := by simp [World.frozen?, h.box]

set_option maxRecDepth 100000 in
set_option maxHeartbeats 2000000 in
theorem signAhead_any (l : List Op7) (hops : opsB l = true) (hn : l.length ≤ 1048576) (w0 : World) (b1 b2 b3 base : Nat) (hT : TreeAt w0 b1 b2 b3 base l) (t : Int) (ht : wf64 t) (x : Addr) (w : World) (hW : Below w0.heap.size w0 w)
    (he : w.cell? ⟨0, 0, none⟩ = some (.iface 191 (.pointer (some x)))) (h0 : 0 < w.heap.size) :
    Calls Tryd.prog 65 #[.agg #[.map (some b1), .map (some b2), .map (some b3)], .int .i64 t] w fun e w' =>
      ((inB t 0 (shownI (lvs l)).length = true ∧ e = .returned (.tuple #[.agg #[.int .i64 (leftOf l t.toNat).1, .int .i64 (leftOf l t.toNat).2.1], .nilIface])) ∨ (inB t 0 (shownI (lvs l)).length = false ∧ e = .returned (.tuple #[.agg #[.int .i64 0, .int .i64 0], .iface 191 (.pointer (some x))]))) ∧ Below w.heap.size w w' := by
  have HW := hideIt hW
  have HTT := hideIt hT
  have HO := hideIt hops
  clear hW hT hops
  go_enter Tryd.func65, Tryd.ntmps65
  have A2 : Hid (∃ W2, ((w.alloc (.cells #[.map (some b1), .map (some b2), .map (some b3)] 86)).alloc (.cells #[.int .i64 0, .int .i64 0] 30)) = W2 ∧ W2.heap[w.heap.size + 1]? = some (.cells #[.int .i64 0, .int .i64 0] 30 (0, 0)) ∧ Below w.heap.size w W2) := by
    refine ⟨_, rfl, ?_, ((Below.refl _ _).alloc (Nat.le_refl _) _).alloc (by simp) _⟩
    have h := World.alloc_heap_new (w.alloc (.cells #[.map (some b1), .map (some b2), .map (some b3)] 86)) (.cells #[.int .i64 0, .int .i64 0] 30)
    rw [World.size_alloc] at h
    exact h
  by_cases hneg : t < 0
  · go_wp2
    obtain ⟨W2, hW2, hbx, hb2⟩ := A2.out
    rw [hW2]
    have herr := errB hb2 h0 he
    have i0 := (blk_cell hbx 0).trans rfl
    have i1 := (blk_cell hbx 1).trans rfl
    have fi : ∀ j, W2.frozen? ⟨w.heap.size + 1, j, none⟩ = false := fun j => by simp [World.frozen?, hbx]
    have HB := hideIt hb2
    clear hW2 A2 hbx hb2
    generalize hS1 : w.heap.size + 1 = S1 at *
    have n0 : ¬ 0 = S1 := by omega
    have n1 : ¬ S1 = 0 := by omega
    go_region_held3 (fun w' => w'.cell? ⟨0, 0, none⟩ = some (.iface 191 (.pointer (some x)))) (first | exact herr | (simp [go_sem, herr, n0, n1])) (fail)
    go_wp2
    exact bodyPost_ret (v := .tuple #[.agg #[.int .i64 0, .int .i64 0], .iface 191 (.pointer (some x))]) (by simp [results, Tryd.results65, go_sem, i0, i1]) rfl ⟨.inr ⟨by simp [inB]; omega, rfl⟩, ((HB.out.setCell (p := ⟨S1, 0, none⟩) (by show w.heap.size ≤ S1; omega) _).setCell (p := ⟨S1, 1, none⟩) (by show w.heap.size ≤ S1; omega) _).drew⟩
  · by_cases hz : t = 0
    · subst hz
      go_wp2
      obtain ⟨W2, hW2, hbx, hb2⟩ := A2.out
      rw [hW2]
      have i0 := (blk_cell hbx 0).trans rfl
      have i1 := (blk_cell hbx 1).trans rfl
      exact bodyPost_ret (v := .tuple #[.agg #[.int .i64 0, .int .i64 0], .nilIface]) (by simp [results, Tryd.results65, go_sem, i0, i1]) rfl ⟨.inl ⟨by simp [inB], rfl⟩, hb2⟩
    · have hwi : IntKind.i64.wrap (t - 1) = t - 1 := by
        obtain ⟨h1, h2⟩ := wf64_iff.1 ht
        exact IntWalk.i64_in (t - 1) ⟨by omega, by omega⟩
      go_wp2_with fail
      obtain ⟨W2, hW2, hbx, hb2⟩ := A2.out
      rw [hW2]
      have HBX := hideIt hbx
      have HB2 := hideIt hb2
      clear hW2 A2 hbx hb2
      refine (callsIn_wide.1 (signAt_in l HO.out hn w0 b1 b2 b3 base HTT.out 3 (Nat.le_refl _) (t - 1) x _ (HW.out.trans (HB2.out.mono HW.out.size)) (errB HB2.out h0 he) (posB HB2.out h0))).mono ?_
      rintro e w3 ⟨(⟨k, j, y, hk, hj, hy, rfl⟩ | ⟨hno, rfl⟩), hb3⟩
      all_goals
        have hbx3 := blk_below HBX.out hb3
        have HB3 := hideIt (Bstep HB2.out hb3)
        have i0 := (blk_cell hbx3 0).trans rfl
        have i1 := (blk_cell hbx3 1).trans rfl
        have fi : ∀ j, w3.frozen? ⟨w.heap.size + 1, j, none⟩ = false := fun j => by simp [World.frozen?, hbx3]
        clear hb3 hbx3 HBX HB2
        generalize hS1 : w.heap.size + 1 = S1 at *
      · have HTT' : Hid (inB t 0 (shownI (lvs l)).length = true ∧ leftOf l t.toNat = (y.a, y.b, j + 1)) := by
          have hlt := (List.getElem?_eq_some_iff.1 hj).1
          refine ⟨by simp [inB]; omega, ?_⟩
          rw [show t.toNat = k + 1 by omega]
          exact leftOf_succ hj hy
        clear hk hj hy hwi ht
        generalize y.a = ya at *
        generalize y.b = yb at *
        go_wp2
        exact bodyPost_ret (v := .tuple #[.agg #[.int .i64 ya, .int .i64 yb], .nilIface]) (by simp [results, Tryd.results65, go_sem, i0, i1]) rfl ⟨.inl ⟨HTT'.out.1, by rw [HTT'.out.2]⟩, (HB3.out.setCell (p := ⟨S1, 0, none⟩) (by show w.heap.size ≤ S1; omega) _).setCell (p := ⟨S1, 1, none⟩) (by show w.heap.size ≤ S1; omega) _⟩
      · have HNO : Hid (inB t 0 (shownI (lvs l)).length = false) := by
          have h := hno
          simp [inB] at h
          show inB t 0 (shownI (lvs l)).length = false
          simp [inB]
          omega
        clear hno hwi ht
        go_wp2
        exact bodyPost_ret (v := .tuple #[.agg #[.int .i64 0, .int .i64 0], .iface 191 (.pointer (some x))]) (by simp [results, Tryd.results65, go_sem, i0, i1]) rfl ⟨.inr ⟨HNO.out, rfl⟩, (HB3.out.setCell (p := ⟨S1, 0, none⟩) (by show w.heap.size ≤ S1; omega) _).setCell (p := ⟨S1, 1, none⟩) (by show w.heap.size ≤ S1; omega) _⟩
end Go.Proofs.YtkbogcbppenaaaaDoor
