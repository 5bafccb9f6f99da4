/- The contract of the program's treeAndNext. -/
import Derived.Test.YtjadkhejdbdpoaaDoorPackK
import Derived.Test.YtjadkhejdbdpoaaDoorPackH
import Derived.Test.YtjadkhejdbdpoaaDoorPackC
import Derived.Stop.RegionWithIn
import Derived.Test.YtjadkhejdbdpoaaDoorPackB
namespace Go.Proofs.YtjadkhejdbdpoaaDoor
open Go.RowKit
set_option linter.unusedSimpArgs false
set_option linter.unusedVariables false

set_option maxHeartbeats 1000000 in
theorem implSeen_any (l : List Op7) (g cap : Nat) (x : Addr) (w : World) (hl : OpsAt w g l) (hn : l.length ≤ 1048576) (hcap : l.length ≤ cap)
    (he : w.cell? ⟨0, 0, none⟩ = some (.iface 164 (.pointer (some x)))) (h0 : 0 < w.heap.size) :
    Calls Tryd.prog 20 #[.slice (some ⟨g, 0, none⟩) l.length cap] w fun e w' =>
      ((opsB l = true ∧ ∃ G, w.heap.size ≤ G ∧ e = .returned (.slice (some ⟨G, 0, none⟩) 3 3) ∧ IntsAt w' G [cnt l 1, cnt l 2, cnt l 3] ∧ ∀ j, w'.frozen? ⟨G, j, none⟩ = false) ∨ (opsB l = false ∧ e = .returned (.slice none 0 0))) ∧ Below w.heap.size w w' := by
  have HL := hideIt hl
  clear hl
  go_enter Tryd.func20, Tryd.ntmps20
  go_wp2_with fail
  refine (things_any l g cap x _ HL.out hn hcap he h0).mono ?_
  rintro e w1 ⟨(⟨ht, M, hMM, rfl, hT⟩ | ⟨ht, rfl⟩), hb1⟩
  all_goals
    have HT := hideIt ((th_same l).symm.trans ht)
    have HB1 := hideIt hb1
    have herr1 : w1.cell? ⟨0, 0, none⟩ = some (.iface 164 (.pointer (some x))) := errB hb1 h0 he
    clear ht hb1
  · have HTT := hideIt hT
    have HOK := hideIt (opsB_parts HT.out).1
    clear hT hMM
    go_wp2_with (first | (go_at_call 50; refine (is_nil x _).mono ?_; rintro e w'' ⟨rfl, rfl⟩))
    refine (count_any l M l.length _ HTT.out hn (Nat.le_refl _) HOK.out).mono ?_
    rintro e w2 ⟨rfl, hse, hfz, hb2⟩
    have HSE := hideIt hse
    have HF := hideIt hfz
    have HB2 := hideIt (Bstep HB1.out hb2)
    clear hse hfz hb2
    go_wp2
    go_ret
    exact ⟨.inl ⟨HT.out, _, HB1.out.size, rfl, HSE.out, HF.out⟩, HB2.out⟩
  · go_wp2_with (first | (go_at_call 50; refine (is_same x _).mono ?_; rintro e w'' ⟨rfl, rfl⟩))
    go_ret
    exact ⟨.inr ⟨HT.out, rfl⟩, HB1.out⟩
end Go.Proofs.YtjadkhejdbdpoaaDoor

namespace Go.Proofs.YtjadkhejdbdpoaaDoor
open Go.RowKit
set_option linter.unusedSimpArgs false
set_option linter.unusedVariables false
attribute [local go_sem ↓] Go.wp_at_zero Go.wp_at_succ

set_option maxRecDepth 100000 in
set_option maxHeartbeats 2000000 in
theorem implNext_any (l : List Op7) (hops : opsB l = true) (g cap : Nat) (r : Int) (x : Addr) (w : World) (hl : OpsAt w g l) (hn : l.length ≤ 1048576) (hcap : l.length ≤ cap)
    (he : w.cell? ⟨0, 0, none⟩ = some (.iface 164 (.pointer (some x)))) (h0 : 0 < w.heap.size) :
    Calls Tryd.prog 98 #[.slice (some ⟨g, 0, none⟩) l.length cap, .int .i64 r] w fun e w' =>
      ((mayMore l r = false ∧ e = .returned (.tuple #[.agg #[.int .i64 0, .int .i64 0], .iface 164 (.pointer (some x))])) ∨
       (mayMore l r = true ∧ e = .returned (.tuple #[.agg #[.int .i64 r, .int .i64 (cnt l r + 1)], .nilIface]))) ∧ Below w.heap.size w w' := by
  have HL := hideIt hl
  have hgw := hl.1
  have HO := hideIt hops
  have HMM : Hid (mayMore l r = (inB r 1 3 && decide (cnt l r + 1 ≤ 12))) := by show mayMore l r = _; unfold mayMore; rw [hops]; rfl
  clear hl hops
  have HB0 : Hid (Below w.heap.size w (w.alloc (.cells #[.int .i64 0, .int .i64 0] 27))) := (Below.refl _ _).alloc (Nat.le_refl _) _
  go_enter Tryd.func98, Tryd.ntmps98
  go_wp2_with fail
  refine (implSeen_any l g cap x _ (HL.out.below HB0.out hgw) hn hcap (errB HB0.out h0 he) (posB HB0.out h0)).mono ?_
  rintro e w1 ⟨(⟨_, G, hG, rfl, hI, _⟩ | ⟨hf, _⟩), hb1⟩
  rotate_left
  · rw [HO.out] at hf; cases hf
  have HB1 := hideIt (Bstep HB0.out hb1)
  have rc0 : w1.cell? ⟨w.heap.size, 0, none⟩ = some (.int .i64 0) := ((bcell hb1).1 _ _ (by simp)).trans (by simp [go_sem])
  have rc1 : w1.cell? ⟨w.heap.size, 1, none⟩ = some (.int .i64 0) := ((bcell hb1).1 _ _ (by simp)).trans (by simp [go_sem])
  have hwl : w.heap.size < w1.heap.size := by have := hb1.size; simp at this; omega
  have hfz : ∀ j, w1.frozen? ⟨w.heap.size, j, none⟩ = false := fun j => ((bcell hb1).2 _ _ (by simp)).trans (by simp [go_sem])
  have herr : w1.cell? ⟨0, 0, none⟩ = some (.iface 164 (.pointer (some x))) := errB HB1.out h0 he
  have hne0 : ¬ 0 = w.heap.size := by omega
  have hne1 : ¬ w.heap.size = 0 := by omega
  obtain ⟨c0, c1, c2⟩ := ints3 hI
  clear hb1 hI
  cases hi : inB r 1 3
  · have hr : r < 1 ∨ 3 < r := by simp [inB] at hi; omega
    have HM : Hid (mayMore l r = false) := by show mayMore l r = false; rw [HMM.out, hi]; rfl
    clear hi HMM
    rcases hr with hr | hr
    · go_wp2
      go_region_held3 (fun w' => w'.cell? ⟨0, 0, none⟩ = some (.iface 164 (.pointer (some x)))) (first | exact herr | (simp [go_sem, herr, hne0, hne1])) (fail)
      go_wp2
      exact bodyPost_ret (v := .tuple #[.agg #[.int .i64 0, .int .i64 0], .iface 164 (.pointer (some x))]) (by simp [results, Tryd.results98, go_sem, rc0, rc1]) rfl ⟨.inl ⟨HM.out, rfl⟩, ((HB1.out.setCell (p := ⟨w.heap.size, 0, none⟩) (Nat.le_refl _) _).setCell (p := ⟨w.heap.size, 1, none⟩) (Nat.le_refl _) _).drew⟩
    · have hr1 : ¬ r < 1 := by omega
      go_wp2
      go_region_held3 (fun w' => w'.cell? ⟨0, 0, none⟩ = some (.iface 164 (.pointer (some x)))) (first | exact herr | (simp [go_sem, herr, hne0, hne1])) (fail)
      go_wp2
      exact bodyPost_ret (v := .tuple #[.agg #[.int .i64 0, .int .i64 0], .iface 164 (.pointer (some x))]) (by simp [results, Tryd.results98, go_sem, rc0, rc1]) rfl ⟨.inl ⟨HM.out, rfl⟩, ((HB1.out.setCell (p := ⟨w.heap.size, 0, none⟩) (Nat.le_refl _) _).setCell (p := ⟨w.heap.size, 1, none⟩) (Nat.le_refl _) _).drew⟩
  · have h3 := in3 hi
    have HME : Hid (mayMore l r = idB r (cnt l r + 1)) := by
      show mayMore l r = idB r (cnt l r + 1)
      rw [HMM.out, hi]
      have := cntTo_le l l.length r
      rw [cntTo_len] at this
      unfold idB
      simp only [Bool.true_and]
      apply decide_eq_decide.2
      simp [inB] at hi
      omega
    have hcb : 0 ≤ cnt l r ∧ cnt l r ≤ 36 := by
      have := cntTo_le l l.length r
      rw [cntTo_len] at this
      have := ops_36 HO.out
      omega
    clear hi HMM
    have hwi : IntKind.i64.wrap (cnt l r + 1) = cnt l r + 1 := IntWalk.i64_in _ ⟨by omega, by omega⟩
    rcases h3 with rfl | rfl | rfl
    all_goals
      go_wp2_with fail
      refine (idOk_any _ _ _).mono ?_
      rintro e w2 ⟨rfl, hb2⟩
      rw [← HME.out]
      have HB2 : Hid (Below w.heap.size w w2) := Bstep (HB1.out.alloc HB1.out.size _) hb2
      have herr2 : w2.cell? ⟨0, 0, none⟩ = some (.iface 164 (.pointer (some x))) := errB HB2.out h0 he
      have s0 : w2.cell? ⟨w.heap.size, 0, none⟩ = some (.int .i64 0) := ((bcell hb2).1 w.heap.size 0 (by simp; omega)).trans ((World.cell?_alloc_lt _ _ _ hwl).trans rc0)
      have s1 : w2.cell? ⟨w.heap.size, 1, none⟩ = some (.int .i64 0) := ((bcell hb2).1 w.heap.size 1 (by simp; omega)).trans ((World.cell?_alloc_lt _ _ _ hwl).trans rc1)
      have sf : ∀ j, w2.frozen? ⟨w.heap.size, j, none⟩ = false := fun j => ((bcell hb2).2 w.heap.size j (by simp; omega)).trans ((World.frozen?_alloc_past _ _ _ hwl).trans (hfz j))
      have i0 := (bcell hb2).1 w1.heap.size 0 (by simp)
      have i1 := (bcell hb2).1 w1.heap.size 1 (by simp)
      simp [go_sem] at i0 i1
      have hiw : ¬ w1.heap.size = w.heap.size := by omega
      have hwi2 : ¬ w.heap.size = w1.heap.size := by omega
      clear hb2 herr rc0 rc1 hfz c0 c1 c2
      generalize w1.heap.size = I at *
      cases hm : mayMore l _
      · have HM := hideIt hm
        clear hm HME
        go_wp2
        go_region_held3 (fun w' => w'.cell? ⟨0, 0, none⟩ = some (.iface 164 (.pointer (some x)))) (first | exact herr2 | (simp [go_sem, herr2, hne0, hne1])) (fail)
        go_wp2
        exact bodyPost_ret (v := .tuple #[.agg #[.int .i64 0, .int .i64 0], .iface 164 (.pointer (some x))]) (by simp [results, Tryd.results98, go_sem, s0, s1]) rfl ⟨.inl ⟨HM.out, rfl⟩, ((HB2.out.setCell (p := ⟨w.heap.size, 0, none⟩) (Nat.le_refl _) _).setCell (p := ⟨w.heap.size, 1, none⟩) (Nat.le_refl _) _).drew⟩
      · have HM := hideIt hm
        clear hm HME
        go_wp2
        first
          | exact bodyPost_ret (v := .tuple #[.agg #[.int .i64 1, .int .i64 (cnt l 1 + 1)], .nilIface]) (by simp [results, Tryd.results98, go_sem, s0, s1, i0, i1]) rfl ⟨.inr ⟨HM.out, rfl⟩, (HB2.out.setCell (p := ⟨w.heap.size, 0, none⟩) (Nat.le_refl _) _).setCell (p := ⟨w.heap.size, 1, none⟩) (Nat.le_refl _) _⟩
          | exact bodyPost_ret (v := .tuple #[.agg #[.int .i64 2, .int .i64 (cnt l 2 + 1)], .nilIface]) (by simp [results, Tryd.results98, go_sem, s0, s1, i0, i1]) rfl ⟨.inr ⟨HM.out, rfl⟩, (HB2.out.setCell (p := ⟨w.heap.size, 0, none⟩) (Nat.le_refl _) _).setCell (p := ⟨w.heap.size, 1, none⟩) (Nat.le_refl _) _⟩
          | exact bodyPost_ret (v := .tuple #[.agg #[.int .i64 3, .int .i64 (cnt l 3 + 1)], .nilIface]) (by simp [results, Tryd.results98, go_sem, s0, s1, i0, i1]) rfl ⟨.inr ⟨HM.out, rfl⟩, (HB2.out.setCell (p := ⟨w.heap.size, 0, none⟩) (Nat.le_refl _) _).setCell (p := ⟨w.heap.size, 1, none⟩) (Nat.le_refl _) _⟩
end Go.Proofs.YtjadkhejdbdpoaaDoor

namespace Go.Proofs.YtjadkhejdbdpoaaDoor
open Go.RowKit Go.Shelf
set_option linter.unusedSimpArgs false
set_option linter.unusedVariables false
attribute [local go_sem] Oper.semAt_some

theorem store_fn {P : Program} {w : World} {a : Addr} {m : Mode} (fn : Fn) (first captured : Array Value) : (store a (.func fn first captured) m).run P w = stored P w a (.func fn first captured) m := run_store P w a _ m rfl
attribute [local go_sem] store_fn

set_option maxHeartbeats 1000000 in
theorem counter_any (w : World) :
    Calls Tryd.prog 107 #[] w fun e w' => e = .returned (.func (.func 109) #[] #[.pointer (some ⟨w.heap.size, 0, none⟩)]) ∧ w' = w.alloc (.cells #[.int .i64 0] 3) := by
  go_enter Tryd.func107, Tryd.ntmps107
  go_wp2
  go_ret
  exact ⟨rfl, rfl⟩
set_option maxHeartbeats 1000000 in
theorem count_gone (a b g : Int) (Q : Nat) (k : Int) (w : World) (hq : w.heap[Q]? = some (.cells #[.int .i64 k] 3 (0, 0))) :
    Calls Tryd.prog 109 #[.agg #[.int .i64 a, .int .i64 b, .int .i64 g, .bool true], .pointer (some ⟨Q, 0, none⟩)] w fun e w' => e = .returned (.int .i64 k) ∧ Below w.heap.size w w' := by
  have q0 := (blk_cell hq 0).trans rfl
  have hQ := (Array.getElem?_eq_some_iff.1 hq).1
  go_enter Tryd.func109, Tryd.ntmps109
  go_wp2
  go_ret
  exact ⟨rfl, by go_grown⟩
set_option maxHeartbeats 1000000 in
theorem count_there (a b g : Int) (Q : Nat) (k : Nat) (hk : k ≤ 1048576) (w : World) (hq : w.heap[Q]? = some (.cells #[.int .i64 (k : Int)] 3 (0, 0))) :
    Calls Tryd.prog 109 #[.agg #[.int .i64 a, .int .i64 b, .int .i64 g, .bool false], .pointer (some ⟨Q, 0, none⟩)] w fun e w' => e = .returned (.int .i64 ((k : Int) + 1)) ∧ w' = (w.setCell ⟨Q, 0, none⟩ (.int .i64 ((k : Int) + 1))).alloc (.cells #[.int .i64 a, .int .i64 b, .int .i64 g, .bool false] 44) := by
  have q0 := (blk_cell hq 0).trans rfl
  have fq : w.frozen? ⟨Q, 0, none⟩ = false := by simp [World.frozen?, hq]
  have hQ := (Array.getElem?_eq_some_iff.1 hq).1
  go_enter Tryd.func109, Tryd.ntmps109
  go_wp2
  go_ret
  exact ⟨rfl, rfl⟩

/-- Four blocks that were laid one behind the other. -/
theorem all4 (w : World) (o0 o1 o2 o3 : Obj) (k : Nat) (hk : k < 4) : ((((w.alloc o0).alloc o1).alloc o2).alloc o3).heap[w.heap.size + k]? = [o0, o1, o2, o3][k]? := by
  have e : ((((w.alloc o0).alloc o1).alloc o2).alloc o3).heap = (((w.heap.push o0).push o1).push o2).push o3 := rfl
  rw [e]
  have : k = 0 ∨ k = 1 ∨ k = 2 ∨ k = 3 := by omega
  rcases this with rfl | rfl | rfl | rfl <;> simp [Array.getElem?_push, Array.getElem_push, Nat.add_assoc]

/-- The boxes of signAt: the place, the counter and who counts, and what is to be answered. -/
structure SI (S S1 S2 S3 Qc Qf : Nat) (t k ra rb : Int) (w W : World) : Prop where
  q : W.heap[Qc]? = some (.cells #[.int .i64 k] 3 (0, 0))
  fn : W.heap[Qf]? = some (.cells #[.func (.func 109) #[] #[.pointer (some ⟨Qc, 0, none⟩)]] 161 (0, 0))
  pl : W.heap[S1]? = some (.cells #[.int .i64 t] 3 (0, 0))
  r2 : W.heap[S2]? = some (.cells #[.int .i64 ra, .int .i64 rb] 27 (0, 0))
  r3 : W.heap[S3]? = some (.cells #[.nilIface] 71 (0, 0))
  bel : Below S w W
theorem SI.below {S S1 S2 S3 Qc Qf : Nat} {t k ra rb : Int} {w W W' : World} (h : SI S S1 S2 S3 Qc Qf t k ra rb w W) (hS : S ≤ S1) (hb : Below W.heap.size W W') : SI S S1 S2 S3 Qc Qf t k ra rb w W' :=
  ⟨blk_below h.q hb, blk_below h.fn hb, blk_below h.pl hb, blk_below h.r2 hb, blk_below h.r3 hb, h.bel.trans (hb.mono (by have := (Array.getElem?_eq_some_iff.1 h.pl).1; omega))⟩
theorem SI.kept {S S1 S2 S3 Qc Qf B : Nat} {t k ra rb : Int} {w A B' : World} {row : Option Nat} (hx : SI S S1 S2 S3 Qc Qf t k ra rb w A) (hS : S ≤ w.heap.size) (hB : S ≤ B) (hg : A.grownBy B' row) (hr : ∀ r, row = some r → B ≤ r ∧ ∃ o : Obj, A.heap[r]? = some o ∧ o.isCells = false) : SI S S1 S2 S3 Qc Qf t k ra rb w B' :=
  ⟨own_blk B Qc (fun _ : Unit => #[.int .i64 k]) _ () A B' row hx.q hg hr, own_blk B Qf (fun _ : Unit => #[.func (.func 109) #[] #[.pointer (some ⟨Qc, 0, none⟩)]]) _ () A B' row hx.fn hg hr, own_blk B S1 (fun _ : Unit => #[.int .i64 t]) _ () A B' row hx.pl hg hr,
    own_blk B S2 (fun _ : Unit => #[.int .i64 ra, .int .i64 rb]) _ () A B' row hx.r2 hg hr, own_blk B S3 (fun _ : Unit => #[.nilIface]) _ () A B' row hx.r3 hg hr, ownFrom_below (β := Unit) hS hB () A B' row hx.bel hg hr⟩
theorem SI.setQ {S S1 S2 S3 Qc Qf : Nat} {t k ra rb : Int} {w W : World} (h : SI S S1 S2 S3 Qc Qf t k ra rb w W) (h1 : S ≤ Qc) (h2 : S1 < Qc) (h3 : S2 < Qc) (h4 : S3 < Qc) (h5 : Qc < Qf) (k' : Int) : SI S S1 S2 S3 Qc Qf t k' ra rb w (W.setCell ⟨Qc, 0, none⟩ (.int .i64 k')) :=
  ⟨Boxed.set _ h.q, blk_set h.fn (by omega), blk_set h.pl (by omega), blk_set h.r2 (by omega), blk_set h.r3 (by omega), h.bel.setCell (p := ⟨Qc, 0, none⟩) h1 _⟩
theorem set_two {W : World} {b : Nat} {T : TypeId} {u v u' v' : Value} (h : W.heap[b]? = some (.cells #[u, v] T (0, 0))) : ((W.setCell ⟨b, 0, none⟩ u').setCell ⟨b, 1, none⟩ v').heap[b]? = some (.cells #[u', v'] T (0, 0)) := by
  simp only [World.setCell, Array.getElem?_modify, if_true, h, Option.map_some]
  rfl
theorem blk_set1 {W : World} {b c i : Nat} {o : Obj} {u : Value} (h : W.heap[b]? = some o) (hne : b ≠ c) : (W.setCell ⟨c, i, none⟩ u).heap[b]? = some o :=
  (Below.heap_setCell W ⟨c, i, none⟩ u b hne).trans h
theorem SI.setR {S S1 S2 S3 Qc Qf : Nat} {t k ra rb : Int} {w W : World} (h : SI S S1 S2 S3 Qc Qf t k ra rb w W) (h1 : S ≤ S2) (h2 : S1 < S2) (h3 : S2 < S3) (h4 : S2 < Qc) (h5 : S2 < Qf) (a b : Int) : SI S S1 S2 S3 Qc Qf t k a b w ((W.setCell ⟨S2, 0, none⟩ (.int .i64 a)).setCell ⟨S2, 1, none⟩ (.int .i64 b)) :=
  ⟨blk_set1 (blk_set1 h.q (by omega)) (by omega), blk_set1 (blk_set1 h.fn (by omega)) (by omega), blk_set1 (blk_set1 h.pl (by omega)) (by omega), set_two h.r2, blk_set1 (blk_set1 h.r3 (by omega)) (by omega), (h.bel.setCell (p := ⟨S2, 0, none⟩) h1 _).setCell (p := ⟨S2, 1, none⟩) h1 _⟩
theorem SI.setE {S S1 S2 S3 Qc Qf : Nat} {t k ra rb : Int} {w W : World} (h : SI S S1 S2 S3 Qc Qf t k ra rb w W) (h1 : S ≤ S3) (h2 : S1 < S3) (h3 : S2 < S3) (h4 : S3 < Qc) (h5 : S3 < Qf) : SI S S1 S2 S3 Qc Qf t k ra rb w (W.setCell ⟨S3, 0, none⟩ .nilIface) :=
  ⟨blk_set h.q (by omega), blk_set h.fn (by omega), blk_set h.pl (by omega), blk_set h.r2 (by omega), Boxed.set _ h.r3, h.bel.setCell (p := ⟨S3, 0, none⟩) h1 _⟩

set_option maxRecDepth 100000 in
set_option maxHeartbeats 2000000 in
theorem signAt_in (l : List Op7) (hops : opsB l = true) (hn : l.length ≤ 1048576) (w0 : World) (b1 b2 b3 base : Nat) (hT : TreeAt w0 b1 b2 b3 base l) (n : Nat) (h3 : 3 ≤ n) (t : Int) (x : Addr) (w : World) (hW : Below w0.heap.size w0 w)
    (he : w.cell? ⟨0, 0, none⟩ = some (.iface 164 (.pointer (some x)))) (h0 : 0 < w.heap.size) :
    CallsIn Fence.wide n Tryd.prog 90 #[.agg #[.map (some b1), .map (some b2), .map (some b3)], .int .i64 t] w fun e w' =>
      ((∃ k j y, t = (k : Nat) ∧ (shownI (lvs l))[k]? = some j ∧ (lvs l)[j]? = some y ∧ e = .returned (.tuple #[.agg #[.int .i64 y.a, .int .i64 y.b], .nilIface])) ∨ (inB t 0 ((shownI (lvs l)).length - 1) = false ∧ e = .returned (.tuple #[.agg #[.int .i64 0, .int .i64 0], .iface 164 (.pointer (some x))]))) ∧ Below w.heap.size w w' := by
  have h1 : 1 ≤ n := by omega
  have HW := hideIt hW
  have HTT := hideIt hT
  have HO := hideIt hops
  clear hW hT hops
  refine callsIn_of_wp_marks Tryd.func90 rfl trivial ?_ rfl
  simp only [Tryd.ntmps90, List.size_toArray, List.length_cons, List.length_nil, Nat.reduceAdd, Nat.reduceSub, Array.replicate_succ, Array.replicate_zero, List.push_toArray, List.append_toArray, List.nil_append, List.cons_append]
  have A4 : Hid (∃ W4, ((((w.alloc (.cells #[.map (some b1), .map (some b2), .map (some b3)] 81)).alloc (.cells #[.int .i64 t] 3)).alloc (.cells #[.int .i64 0, .int .i64 0] 27)).alloc (.cells #[.nilIface] 71)) = W4 ∧
      W4.heap[w.heap.size]? = some (.cells #[.map (some b1), .map (some b2), .map (some b3)] 81 (0, 0)) ∧ W4.heap[w.heap.size + 1]? = some (.cells #[.int .i64 t] 3 (0, 0)) ∧ W4.heap[w.heap.size + 1 + 1]? = some (.cells #[.int .i64 0, .int .i64 0] 27 (0, 0)) ∧ W4.heap[w.heap.size + 1 + 1 + 1]? = some (.cells #[.nilIface] 71 (0, 0)) ∧ W4.heap.size = w.heap.size + 1 + 1 + 1 + 1 ∧ Below w.heap.size w W4) :=
    ⟨_, rfl, all4 w _ _ _ _ 0 (by omega), all4 w _ _ _ _ 1 (by omega), all4 w _ _ _ _ 2 (by omega), all4 w _ _ _ _ 3 (by omega), by simp, ((((Below.refl _ _).alloc (Nat.le_refl _) _).alloc (by simp) _).alloc (by simp; omega) _).alloc (by simp; omega) _⟩
  by_cases hneg : t < 0
  · gi_wp2
    obtain ⟨W4, hW4, ht4, ha4, hi4, he4, hz4, hb4⟩ := A4.out
    rw [hW4]
    clear hW4 A4 HTT HW HO
    have herr : W4.cell? ⟨0, 0, none⟩ = some (.iface 164 (.pointer (some x))) := errB hb4 h0 he
    have i0 := (blk_cell hi4 0).trans rfl
    have i1 := (blk_cell hi4 1).trans rfl
    have e0 := (blk_cell he4 0).trans rfl
    have fi : ∀ j, W4.frozen? ⟨w.heap.size + 1 + 1, j, none⟩ = false := fun j => by simp [World.frozen?, hi4]
    have fe : W4.frozen? ⟨w.heap.size + 1 + 1 + 1, 0, none⟩ = false := by simp [World.frozen?, he4]
    have HBW := hideIt hb4
    clear he hi4 he4 ht4 ha4 hb4
    generalize hS1 : w.heap.size + 1 = S1 at *
    generalize hS2 : S1 + 1 = S2 at *
    generalize hS3 : S2 + 1 = S3 at *
    generalize hS : w.heap.size = S at *
    have n02 : ¬ 0 = S2 := by omega
    have n20 : ¬ S2 = 0 := by omega
    have n03 : ¬ 0 = S3 := by omega
    have n30 : ¬ S3 = 0 := by omega
    have n23 : ¬ S2 = S3 := by omega
    have n32 : ¬ S3 = S2 := by omega
    refine wpIn_wide.2 ?_
    go_region_held3 (fun w' => w'.cell? ⟨0, 0, none⟩ = some (.iface 164 (.pointer (some x)))) (first | exact herr | (simp [go_sem, herr, n02, n20, n03, n30])) (fail)
    gi_wp2
    exact ⟨.tuple #[.agg #[.int .i64 0, .int .i64 0], .iface 164 (.pointer (some x))], by simp [results, Tryd.results90, go_sem, i0, i1, e0, n23, n32], .inr ⟨by simp [inB]; omega, rfl⟩, hS.symm ▸ (((HBW.out.setCell (p := ⟨S2, 0, none⟩) (by show S ≤ S2; omega) _).setCell (p := ⟨S2, 1, none⟩) (by show S ≤ S2; omega) _).setCell (p := ⟨S3, 0, none⟩) (by show S ≤ S3; omega) _).drew⟩
  · gi_wp2
    refine ⟨trivial, ?_⟩
    obtain ⟨W4, hW4, ht4, ha4, hi4, he4, hz4, hb4⟩ := A4.out
    rw [hW4]
    refine (callsIn_wide.2 (counter_any _)).mono ?_
    rintro e w1 ⟨rfl, hw1⟩
    have hb1 : Below W4.heap.size W4 w1 := by rw [hw1]; exact (Below.refl _ _).alloc (Nat.le_refl _) _
    have hc1 : w1.heap[W4.heap.size]? = some (.cells #[.int .i64 0] 3 (0, 0)) := by rw [hw1]; exact World.alloc_heap_new _ _
    have hz1 : w1.heap.size = W4.heap.size + 1 := by rw [hw1]; simp
    clear hw1 hW4 A4
    have ht1 := blk_below ht4 hb1
    have ct0 := (blk_cell ht1 0).trans rfl
    have ct1 := (blk_cell ht1 1).trans rfl
    have ct2 := (blk_cell ht1 2).trans rfl
    have g0 : w.heap.size < w1.heap.size := by omega
    have HZ1 := hideIt hz1
    have HZ4 := hideIt hz4
    clear hz1 hz4 ht4
    generalize hQc : W4.heap.size = Qc at *
    gi_wp2
    refine ⟨trivial, ?_⟩
    refine (callsIn_wide.2 (leaves_any _ _ _ _ ⟨rfl, rfl, rfl⟩ b1 b2 b3 ⟨rfl, rfl, rfl⟩)).mono ?_
    rintro e w2 ⟨rfl, rfl⟩
    gi_wp2
    obtain ⟨Wb, hWb⟩ : ∃ Wb, ((w1.alloc (.cells #[.func (.func 109) #[] #[.pointer (some ⟨Qc, 0, none⟩)]] 161)).alloc (.cells #[.map (some b1), .map (some b2), .map (some b3)] 81)) = Wb := ⟨_, rfl⟩
    have hsb : Wb.heap.size = w1.heap.size + 1 + 1 := by rw [← hWb]; simp
    have hBw : Below w1.heap.size w1 Wb := by rw [← hWb]; exact ((Below.refl _ _).alloc (Nat.le_refl _) _).alloc (by simp) _
    have hbox : Wb.heap[w1.heap.size]? = some (.cells #[.func (.func 109) #[] #[.pointer (some ⟨Qc, 0, none⟩)]] 161 (0, 0)) := by rw [← hWb]; exact (Below.heap_alloc _ _ _ (by simp)).trans (World.alloc_heap_new _ _)
    have hblk : Wb.heap[w1.heap.size + 1]? = some (.cells #[.map (some b1), .map (some b2), .map (some b3)] 81 (0, 0)) := by
      rw [← hWb]
      have h := World.alloc_heap_new (w1.alloc (.cells #[.func (.func 109) #[] #[.pointer (some ⟨Qc, 0, none⟩)]] 161)) (.cells #[.map (some b1), .map (some b2), .map (some b3)] 81)
      rw [World.size_alloc] at h
      exact h
    rw [hWb]
    have hb1' : Below W4.heap.size W4 w1 := hQc.symm ▸ hb1
    have HSI : Hid (SI w.heap.size (w.heap.size + 1) (w.heap.size + 1 + 1) (w.heap.size + 1 + 1 + 1) Qc w1.heap.size t 0 0 0 w Wb) := ⟨blk_below hc1 hBw, hbox, blk_below (blk_below ha4 hb1') hBw, blk_below (blk_below hi4 hb1') hBw, blk_below (blk_below he4 hb1') hBw, Bstep (Bstep hb4 hb1') hBw⟩
    have HSQ := hideIt (leaves_stops l HO.out hn w0 b1 b2 b3 base HTT.out (n - 1) (w1.heap.size + 1) Wb (HW.out.trans (HSI.out.bel.mono HW.out.size)) hblk)
    have hlen : (allO l).length ≤ 1048576 := Nat.le_trans (all_len HO.out) hn
    have hn0 : w0.heap.size ≤ w.heap.size := HW.out.size
    have hz1 := HZ1.out
    have hz4 := HZ4.out
    have HE0 : Hid (∀ W, Below w.heap.size w W → W.cell? ⟨0, 0, none⟩ = some (.iface 164 (.pointer (some x)))) := fun W h => errB h h0 he
    clear HTT HW hbox hblk hWb ct0 ct1 ct2 hBw hb1 hb1' hc1 ha4 hi4 he4 hb4 ht1 HZ1 HZ4 he
    generalize hBt : w1.heap.size + 1 = Bt at *
    generalize hQf : w1.heap.size = Qf at *
    generalize hS1 : w.heap.size + 1 = S1 at *
    generalize hS2 : S1 + 1 = S2 at *
    generalize hS3 : S2 + 1 = S3 at *
    generalize hS : w.heap.size = S at *
    obtain ⟨tk, rfl⟩ : ∃ tk : Nat, t = tk := ⟨t.toNat, by omega⟩
    have oc : S3 < Qc := by omega
    have oq : Qc < Qf := by omega
    have ob : Wb.heap.size = Bt + 1 := by omega
    clear hneg hz1 hz4
    refine wpIn_rangeFunc_ownH rfl h1 (gf := 84) (lb := #[.pointer (some ⟨Bt, 0, none⟩)]) rfl trivial (enters_of Tryd.func84 (by kernel_rfl) rfl) HSQ.out
      (fun h k => h.trans k) (kpT_b (by omega)) (Below.refl _ _) (fun _ => rfl)
      (fun pre W => SI S S1 S2 S3 Qc Qf tk (nShown pre : Nat) 0 0 w W ∧ nShown pre ≤ tk)
      (fun c pre W => c = .ret ∧ ∃ p y, pre = p ++ [y] ∧ y.z = false ∧ nShown p = tk ∧ SI S S1 S2 S3 Qc Qf tk (nShown pre : Nat) y.a y.b w W)
      (fun s A B' row hx hg hr => ⟨hx.1.kept (by omega) (by omega) hg hr, hx.2⟩)
      (fun c s A B' row hx hg hr => by obtain ⟨h1, p, y, h2, h3, h4, h5⟩ := hx; exact ⟨h1, p, y, h2, h3, h4, h5.kept (by omega) (by omega) hg hr⟩)
      ⟨HSI.out, Nat.zero_le _⟩
      (fun x' a' W => ∃ Bx, Qf + 1 ≤ Bx ∧ W.heap[Bx]? = some (.cells #[.int .i64 x'.a, .int .i64 x'.b, .int .i64 x'.g, .bool x'.z] 44 (0, 0)) ∧ a' =
        { tmps := #[Value.agg #[Value.map (some b1), Value.map (some b2), Value.map (some b3)], Value.int IntKind.i64 tk,
          Value.pointer (some { block := S, off := 0 }),
          Value.pointer (some { block := S1, off := 0 }),
          Value.pointer (some { block := S2, off := 0 }),
          Value.pointer (some { block := S3, off := 0 }),
          Value.pointer (some { block := Qf, off := 0 }), Value.pointer (some { block := Bx, off := 0 }), Value.int IntKind.i64 tk, Value.bool false,
          undef, undef, Value.func (Fn.func 109) #[] #[Value.pointer (some { block := Qc, off := 0 })],
          Value.agg #[Value.map (some b1), Value.map (some b2), Value.map (some b3)],
          Value.func (Fn.func 84) #[] #[Value.pointer (some { block := Bt, off := 0 })], lfV x', undef,
          undef, undef, undef, undef, undef, undef, undef, undef], defers := [] })
      ?hAx ?assign ?body ?done ?stop
    case hAx =>
      rintro x' a' _ A B row ⟨Bx, hb, hx, ha⟩ hg hr
      exact ⟨Bx, hb, (hg.block Bx (Array.getElem?_eq_some_iff.1 hx).1 (fun e => by obtain ⟨_, o, ho, hc⟩ := hr Bx e.symm; rw [hx] at ho; cases ho; cases hc)).trans hx, ha⟩
    case assign =>
      rintro lp pre x' W K ⟨hci, hfr⟩ hK
      have hsW : S ≤ W.heap.size := by have := hci.bel.size; omega
      have hQW := (Array.getElem?_eq_some_iff.1 hci.fn).1
      unfold lfV
      gi_wp2
      exact hK _ _ ((KeepsOthers.alloc _ _).from _) (KpT.of_below (by omega) ((Below.refl _ _).alloc (Nat.le_refl _) _)) ⟨hci.below (by omega) ((Below.refl _ _).alloc (Nat.le_refl _) _), hfr⟩ ⟨W.heap.size, by omega, World.alloc_heap_new _ _, rfl⟩
    case body =>
      rintro lp pre x' a' W hl ⟨rr, hr⟩ ⟨hci, hfr⟩ ⟨Bx, hbx, hx, rfl⟩ hlt
      have HCW := hideIt hci
      have HX := hideIt hx
      have x0 := (blk_cell hx 0).trans rfl
      have x1 := (blk_cell hx 1).trans rfl
      have x2 := (blk_cell hx 2).trans rfl
      have x3 := (blk_cell hx 3).trans rfl
      have f2 := (blk_cell hci.fn 0).trans rfl
      have p1 := (blk_cell hci.pl 0).trans rfl
      have hgone : Hid (x'.z = true → nShown (pre ++ [x']) = nShown pre) := nShown_gone
      have hthere : Hid (x'.z = false → nShown (pre ++ [x']) = nShown pre + 1) := nShown_there
      have hyes : Hid (x'.z = false → nShown pre = tk → ∀ W9, SI S S1 S2 S3 Qc Qf tk (nShown (pre ++ [x']) : Nat) x'.a x'.b w W9 → ∃ p y, pre ++ [x'] = p ++ [y] ∧ y.z = false ∧ nShown p = tk ∧ SI S S1 S2 S3 Qc Qf tk (nShown (pre ++ [x']) : Nat) y.a y.b w W9) := fun h1 h2 W9 h3 => ⟨pre, x', rfl, h1, h2, h3⟩
      have hsl : nShown pre ≤ 1048576 := Nat.le_trans (nShown_le _) (by omega)
      have hsW : S ≤ W.heap.size := by have := hci.bel.size; omega
      clear hr hx hci
      generalize x'.a = xa at *
      generalize x'.b = xb at *
      generalize x'.g = xg at *
      generalize x'.z = xz at *
      generalize hns : nShown pre = ns at *
      cases xz
      · have HT := hideIt (hthere.out (by first | rfl | trivial))
        have HYS := hideIt (hyes.out (by first | rfl | trivial))
        have HQd : Hid (W.drew.heap[Qc]? = some (.cells #[.int .i64 (ns : Int)] 3 (0, 0))) := HCW.out.q
        have HSd : Hid (SI S S1 S2 S3 Qc Qf tk ((ns : Int) + 1) 0 0 w (W.drew.setCell ⟨Qc, 0, none⟩ (.int .i64 ((ns : Int) + 1)))) := (HCW.out.below (by omega) ((Below.refl _ _).drew)).setQ (by omega) (by omega) (by omega) (by omega) (by omega) _
        have HPd : Hid (KpT w0.heap.size W (W.drew.setCell ⟨Qc, 0, none⟩ (.int .i64 ((ns : Int) + 1)))) := (KpT.of_below (by omega) ((Below.refl _ _).drew)).trans (kpT_row (W := W.drew) (by show w0.heap.size ≤ W.heap.size; omega) (grownBy_setCell' _ _ _) (fun j e => by cases e; exact ⟨by omega, _, _, _, HCW.out.q, by decide⟩))
        have hsz9 : w0.heap.size ≤ (W.drew.setCell ⟨Qc, 0, none⟩ (.int .i64 ((ns : Int) + 1))).heap.size := Nat.le_trans (by omega) HPd.out.1.size
        have n23 : ¬ S3 = S2 := by omega
        have nb2 : ¬ Bx = S2 := by omega
        clear hthere hgone hyes
        gi_wp2
        gi_region_with (first
          | (refine ⟨trivial, (fun h => by cases h), ?_⟩; refine ((callsIn_wide.2 (count_there xa xb xg Qc ns hsl _ HQd.out)).inRound lp).mono ?_; rintro e W2 ⟨rfl, hw2⟩;
              have HS2 : Hid (SI S S1 S2 S3 Qc Qf tk ((ns : Int) + 1) 0 0 w W2) := (by rw [hw2]; exact HSd.out.below (by omega) ((Below.refl _ _).alloc (Nat.le_refl _) _));
              have HX2 : Hid (W2.heap[Bx]? = some (.cells #[.int .i64 xa, .int .i64 xb, .int .i64 xg, .bool false] 44 (0, 0))) := (by rw [hw2]; exact blk_below (blk_set (W := W.drew) HX.out (by omega)) ((Below.refl _ _).alloc (Nat.le_refl _) _));
              have HK2 : Hid (KeepsOthers W W2) := (by rw [hw2]; exact ((KeepsOthers.drew W).trans (KeepsOthers.setCell _ _ _)).trans (KeepsOthers.alloc _ _));
              have HP2 : Hid (KpT w0.heap.size W W2) := (by rw [hw2]; exact HPd.out.trans (KpT.of_below hsz9 ((Below.refl _ _).alloc (Nat.le_refl _) _)));
              have p2 := (blk_cell HS2.out.pl 0).trans rfl; clear hw2)
          | gi_in)
        all_goals
          clear HSd HPd HQd p1 f2 x0 x1 x2 x3 p2
          have y0 := (blk_cell HX2.out 0).trans rfl
          have y1 := (blk_cell HX2.out 1).trans rfl
          have i0 := (blk_cell HS2.out.r2 0).trans rfl
          have i1 := (blk_cell HS2.out.r2 1).trans rfl
          have e0 := (blk_cell HS2.out.r3 0).trans rfl
          have f2 : ∀ j, W2.frozen? ⟨S2, j, none⟩ = false := fun j => by simp [World.frozen?, HS2.out.r2]
          have f3 : W2.frozen? ⟨S3, 0, none⟩ = false := by simp [World.frozen?, HS2.out.r3]
          by_cases htk : ns = tk
          · rw [decide_eq_true (show (tk : Int) < (ns : Int) + 1 by omega)]
            have HF := hideIt (HYS.out htk)
            clear HYS htk
            gi_wp2
            exact ⟨(((HK2.out.trans (KeepsOthers.setCell _ _ _)).trans (KeepsOthers.setCell _ _ _)).trans (KeepsOthers.setCell _ _ _)).from _, rfl, HF.out _ (by rw [HT.out]; push_cast; exact (HS2.out.setR (by omega) (by omega) (by omega) (by omega) (by omega) _ _).setE (by omega) (by omega) (by omega) (by omega) (by omega))⟩
          · rw [decide_eq_false (show ¬ (tk : Int) < (ns : Int) + 1 by omega)]
            clear HYS
            gi_wp2
            exact ⟨HK2.out.from _, HP2.out, by rw [HT.out]; push_cast; exact HS2.out, by rw [HT.out]; omega⟩
      · have HT := hideIt (hgone.out (by first | rfl | trivial))
        have HQd : Hid (W.drew.heap[Qc]? = some (.cells #[.int .i64 (ns : Int)] 3 (0, 0))) := HCW.out.q
        clear hthere hgone hyes
        gi_wp2
        gi_region_with (first
          | (refine ⟨trivial, (fun h => by cases h), ?_⟩; refine ((callsIn_wide.2 (count_gone xa xb xg Qc (ns : Int) _ HQd.out)).inRound lp).mono ?_; rintro e W2 ⟨rfl, hb2⟩;
              have HB2 : Hid (Below W.heap.size W W2) := ((Below.refl _ _).drew).trans hb2;
              have p2 := (blk_cell (blk_below HCW.out.pl HB2.out) 0).trans rfl; clear hb2)
          | gi_in)
        all_goals
          clear HQd p1 f2 x0 x1 x2 x3 p2
          rw [decide_eq_false (show ¬ tk < ns by omega)]
          gi_wp2
          exact ⟨(show KeepsOthers W W2 from ⟨HB2.out.size, fun k o h _ => blk_below h HB2.out⟩).from _, KpT.of_below (by omega) HB2.out, by rw [HT.out]; exact HCW.out.below (by omega) HB2.out, by rw [HT.out]; exact hfr⟩
    case done =>
      rintro D ys W hD rfl ⟨hci, hfr⟩ hK
      have HNO : Hid (inB (tk : Int) 0 ((shownI (lvs l)).length - 1) = false) := by
        show inB (tk : Int) 0 ((shownI (lvs l)).length - 1) = false
        rw [shownI_len]
        have : nShown (lvs l) ≤ tk := hfr
        simp [inB]
        omega
      have he0 := HE0.out W hci.bel
      have HCI2 := hideIt hci
      have i0 := (blk_cell hci.r2 0).trans rfl
      have i1 := (blk_cell hci.r2 1).trans rfl
      have e0 := (blk_cell hci.r3 0).trans rfl
      have f2 : ∀ j, W.frozen? ⟨S2, j, none⟩ = false := fun j => by simp [World.frozen?, hci.r2]
      have f3 : W.frozen? ⟨S3, 0, none⟩ = false := by simp [World.frozen?, hci.r3]
      have n02 : ¬ 0 = S2 := by omega
      have n20 : ¬ S2 = 0 := by omega
      have n03 : ¬ 0 = S3 := by omega
      have n30 : ¬ S3 = 0 := by omega
      have n23 : ¬ S2 = S3 := by omega
      have n32 : ¬ S3 = S2 := by omega
      clear hfr hci
      gi_wp2
      refine wpIn_wide.2 ?_
      go_region_held3 (fun w' => w'.cell? ⟨0, 0, none⟩ = some (.iface 164 (.pointer (some x)))) (first | exact he0 | (simp [go_sem, he0, n02, n20, n03, n30])) (fail)
      gi_wp2
      have HZ := HCI2.out.setR (by omega) (by omega) (by omega) (by omega) (by omega) 0 0
      obtain ⟨WZ, hWZ⟩ : ∃ WZ, (((W.setCell ⟨S2, 0, none⟩ (.int .i64 0)).setCell ⟨S2, 1, none⟩ (.int .i64 0)).setCell ⟨S3, 0, none⟩ (.iface 164 (.pointer (some x)))).drew = WZ := ⟨_, rfl⟩
      rw [hWZ]
      have z2 : WZ.heap[S2]? = some (.cells #[.int .i64 0, .int .i64 0] 27 (0, 0)) := by rw [← hWZ]; exact blk_set HZ.r2 n23
      have z3 : WZ.heap[S3]? = some (.cells #[.iface 164 (.pointer (some x))] 71 (0, 0)) := by rw [← hWZ]; exact Boxed.set _ HZ.r3
      have zK : WZ.heap[D]? = some (.deferred (some [])) := by rw [← hWZ]; exact blk_set (blk_set1 (blk_set1 hK (by omega)) (by omega)) (by omega)
      have zB : Below S w WZ := by rw [← hWZ]; exact (HZ.bel.setCell (p := ⟨S3, 0, none⟩) (by show S ≤ S3; omega) _).drew
      clear hWZ
      refine ⟨by simp, .inl ⟨_, _, rfl, run_takeDeferred zK, ?_⟩⟩
      have v0 : (WZ.putObj D (.deferred none)).cell? ⟨S2, 0, none⟩ = some (.int .i64 0) := (cell_put _ (by omega)).trans ((blk_cell z2 0).trans rfl)
      have v1 : (WZ.putObj D (.deferred none)).cell? ⟨S2, 1, none⟩ = some (.int .i64 0) := (cell_put _ (by omega)).trans ((blk_cell z2 1).trans rfl)
      have v2 : (WZ.putObj D (.deferred none)).cell? ⟨S3, 0, none⟩ = some (.iface 164 (.pointer (some x))) := (cell_put _ (by omega)).trans ((blk_cell z3 0).trans rfl)
      exact ⟨.tuple #[.agg #[.int .i64 0, .int .i64 0], .iface 164 (.pointer (some x))], by simp [results, Tryd.results90, go_sem, v0, v1, v2], .inr ⟨HNO.out, rfl⟩, hS.symm ▸ zB.trans (belowK_b (w := Wb) (by omega) WZ D _ _ (by omega) zK rfl rfl)⟩
    case stop =>
      rintro D c pre W hD ⟨t', ht⟩ ⟨rfl, p, y, rfl, hz, hk, hci⟩ hK
      have HYES : Hid ((shownI (lvs l))[tk]? = some p.length ∧ (lvs l)[p.length]? = some y) := by
        have ht' : p ++ y :: t' = lvs l := by rw [← show (p ++ [y]) ++ t' = lvs l from ht]; simp
        exact ⟨hk ▸ shownI_at ht' hz, at_mid ht'⟩
      have HCI2 := hideIt hci
      have i0 := (blk_cell hci.r2 0).trans rfl
      have i1 := (blk_cell hci.r2 1).trans rfl
      have e0 := (blk_cell hci.r3 0).trans rfl
      clear hci ht
      gi_wp2
      refine ⟨by simp, .inl ⟨_, _, rfl, run_takeDeferred hK, ?_⟩⟩
      have v0 : (W.putObj D (.deferred none)).cell? ⟨S2, 0, none⟩ = some (.int .i64 y.a) := (cell_put _ (by omega)).trans i0
      have v1 : (W.putObj D (.deferred none)).cell? ⟨S2, 1, none⟩ = some (.int .i64 y.b) := (cell_put _ (by omega)).trans i1
      have v2 : (W.putObj D (.deferred none)).cell? ⟨S3, 0, none⟩ = some .nilIface := (cell_put _ (by omega)).trans e0
      exact ⟨.tuple #[.agg #[.int .i64 y.a, .int .i64 y.b], .nilIface], by simp [results, Tryd.results90, go_sem, v0, v1, v2], .inl ⟨tk, _, y, rfl, HYES.out.1, HYES.out.2, rfl⟩, hS.symm ▸ HCI2.out.bel.trans (belowK_b (w := Wb) (by omega) W D _ _ (by omega) hK rfl rfl)⟩
end Go.Proofs.YtjadkhejdbdpoaaDoor

namespace Go.Proofs.YtjadkhejdbdpoaaDoor
open Go.RowKit Go.Shelf
set_option linter.unusedSimpArgs false
set_option linter.unusedVariables false
attribute [local go_sem] Oper.semAt_some

theorem grownBy_set (W : World) (b i : Nat) (v : Value) : W.grownBy (W.setCell ⟨b, i, none⟩ v) (some b) :=
  ⟨rfl, rfl, rfl, (KeepsWalks.setCell W _ v).size, fun k _ hk => Below.heap_setCell _ _ _ k (fun e => hk (by rw [e]))⟩
theorem size_set (W : World) (b i : Nat) (v : Value) : (W.setCell ⟨b, i, none⟩ v).heap.size = W.heap.size := by simp [World.setCell]
theorem set_one {W : World} {b : Nat} {T : TypeId} {u v u' : Value} (h : W.heap[b]? = some (.cells #[u, v] T (0, 0))) : (W.setCell ⟨b, 0, none⟩ u').heap[b]? = some (.cells #[u', v] T (0, 0)) := by
  simp only [World.setCell, Array.getElem?_modify, if_true, h, Option.map_some]
  rfl
/-- The boxes of leafBehind: the sign, what is to be answered, and the last one that was gone by. -/
structure LB (S S1 S2 Ql : Nat) (a b ra rb la lb : Int) (w W : World) : Prop where
  sg : W.heap[S1]? = some (.cells #[.int .i64 a, .int .i64 b] 27 (0, 0))
  r2 : W.heap[S2]? = some (.cells #[.int .i64 ra, .int .i64 rb] 27 (0, 0))
  lst : W.heap[Ql]? = some (.cells #[.int .i64 la, .int .i64 lb] 27 (0, 0))
  bel : Below S w W
theorem LB.below {S S1 S2 Ql : Nat} {a b ra rb la lb : Int} {w W W' : World} (h : LB S S1 S2 Ql a b ra rb la lb w W) (hS : S ≤ S1) (hb : Below W.heap.size W W') : LB S S1 S2 Ql a b ra rb la lb w W' :=
  ⟨blk_below h.sg hb, blk_below h.r2 hb, blk_below h.lst hb, h.bel.trans (hb.mono (by have := (Array.getElem?_eq_some_iff.1 h.sg).1; omega))⟩
theorem LB.kept {S S1 S2 Ql B : Nat} {a b ra rb la lb : Int} {w A B' : World} {row : Option Nat} (hx : LB S S1 S2 Ql a b ra rb la lb w A) (hS : S ≤ w.heap.size) (hB : S ≤ B) (hg : A.grownBy B' row) (hr : ∀ r, row = some r → B ≤ r ∧ ∃ o : Obj, A.heap[r]? = some o ∧ o.isCells = false) : LB S S1 S2 Ql a b ra rb la lb w B' :=
  ⟨own_blk B S1 (fun _ : Unit => #[.int .i64 a, .int .i64 b]) _ () A B' row hx.sg hg hr, own_blk B S2 (fun _ : Unit => #[.int .i64 ra, .int .i64 rb]) _ () A B' row hx.r2 hg hr, own_blk B Ql (fun _ : Unit => #[.int .i64 la, .int .i64 lb]) _ () A B' row hx.lst hg hr, ownFrom_below (β := Unit) hS hB () A B' row hx.bel hg hr⟩
theorem LB.setL {S S1 S2 Ql : Nat} {a b ra rb la lb : Int} {w W : World} (h : LB S S1 S2 Ql a b ra rb la lb w W) (h1 : S ≤ Ql) (h2 : S1 < Ql) (h3 : S2 < Ql) (c d : Int) : LB S S1 S2 Ql a b ra rb c d w ((W.setCell ⟨Ql, 0, none⟩ (.int .i64 c)).setCell ⟨Ql, 1, none⟩ (.int .i64 d)) :=
  ⟨blk_set1 (blk_set1 h.sg (by omega)) (by omega), blk_set1 (blk_set1 h.r2 (by omega)) (by omega), set_two h.lst, (h.bel.setCell (p := ⟨Ql, 0, none⟩) h1 _).setCell (p := ⟨Ql, 1, none⟩) h1 _⟩
theorem LB.setR {S S1 S2 Ql : Nat} {a b ra rb la lb : Int} {w W : World} (h : LB S S1 S2 Ql a b ra rb la lb w W) (h1 : S ≤ S2) (h2 : S1 < S2) (h3 : S2 < Ql) (c d : Int) : LB S S1 S2 Ql a b c d la lb w ((W.setCell ⟨S2, 0, none⟩ (.int .i64 c)).setCell ⟨S2, 1, none⟩ (.int .i64 d)) :=
  ⟨blk_set1 (blk_set1 h.sg (by omega)) (by omega), set_two h.r2, blk_set1 (blk_set1 h.lst (by omega)) (by omega), (h.bel.setCell (p := ⟨S2, 0, none⟩) h1 _).setCell (p := ⟨S2, 1, none⟩) h1 _⟩

set_option maxRecDepth 100000 in
set_option maxHeartbeats 2000000 in
theorem leafBehind_in (l : List Op7) (hops : opsB l = true) (hn : l.length ≤ 1048576) (w0 : World) (b1 b2 b3 base : Nat) (hT : TreeAt w0 b1 b2 b3 base l) (n : Nat) (h3 : 3 ≤ n) (a b : Int) (w : World) (hW : Below w0.heap.size w0 w) (h0 : 0 < w.heap.size) :
    CallsIn Fence.wide n Tryd.prog 99 #[.agg #[.map (some b1), .map (some b2), .map (some b3)], .agg #[.int .i64 a, .int .i64 b]] w fun e w' =>
      ((∃ p y q, p ++ y :: q = lvs l ∧ lastId p = (a, b) ∧ e = .returned (.agg #[.int .i64 y.a, .int .i64 y.b])) ∨ (noneBehind (lvs l) a b ∧ e = .returned (.agg #[.int .i64 0, .int .i64 0]))) ∧ Below w.heap.size w w' := by
  have h1 : 1 ≤ n := by omega
  have HW := hideIt hW
  have HTT := hideIt hT
  have HO := hideIt hops
  clear hW hT hops
  refine callsIn_of_wp_marks Tryd.func99 rfl trivial ?_ rfl
  simp only [Tryd.ntmps99, List.size_toArray, List.length_cons, List.length_nil, Nat.reduceAdd, Nat.reduceSub, Array.replicate_succ, Array.replicate_zero, List.push_toArray, List.append_toArray, List.nil_append, List.cons_append]
  have A4 : Hid (∃ W4, ((((w.alloc (.cells #[.map (some b1), .map (some b2), .map (some b3)] 81)).alloc (.cells #[.int .i64 a, .int .i64 b] 27)).alloc (.cells #[.int .i64 0, .int .i64 0] 27)).alloc (.cells #[.int .i64 0, .int .i64 0] 27)) = W4 ∧
      LB w.heap.size (w.heap.size + 1) (w.heap.size + 1 + 1) (w.heap.size + 1 + 1 + 1) a b 0 0 0 0 w W4 ∧ w.heap.size + 1 + 1 + 1 < W4.heap.size) :=
    ⟨_, rfl, ⟨all4 w _ _ _ _ 1 (by omega), all4 w _ _ _ _ 2 (by omega), all4 w _ _ _ _ 3 (by omega), ((((Below.refl _ _).alloc (Nat.le_refl _) _).alloc (by simp) _).alloc (by simp; omega) _).alloc (by simp; omega) _⟩, by simp⟩
  gi_wp2
  refine ⟨trivial, ?_⟩
  obtain ⟨W4, hW4, hlb4, hz4⟩ := A4.out
  rw [hW4]
  clear hW4 A4
  refine (callsIn_wide.2 (leaves_any _ _ _ _ ⟨rfl, rfl, rfl⟩ b1 b2 b3 ⟨rfl, rfl, rfl⟩)).mono ?_
  rintro e Wb ⟨rfl, hWb⟩
  have hsb : Wb.heap.size = W4.heap.size + 1 := by rw [hWb]; simp
  have hBw : Below W4.heap.size W4 Wb := by rw [hWb]; exact (Below.refl _ _).alloc (Nat.le_refl _) _
  have hblk : Wb.heap[W4.heap.size]? = some (.cells #[.map (some b1), .map (some b2), .map (some b3)] 81 (0, 0)) := by rw [hWb]; exact World.alloc_heap_new _ _
  have HLB := hideIt (hlb4.below (by omega) hBw)
  have HSQ := hideIt (leaves_stops l HO.out hn w0 b1 b2 b3 base HTT.out (n - 1) W4.heap.size Wb (HW.out.trans (HLB.out.bel.mono HW.out.size)) hblk)
  have hlen : (allO l).length ≤ 1048576 := Nat.le_trans (all_len HO.out) hn
  have hn0 : w0.heap.size ≤ w.heap.size := HW.out.size
  clear HTT HW hblk hWb hBw hlb4
  generalize hBt : W4.heap.size = Bt at *
  generalize hS1 : w.heap.size + 1 = S1 at *
  generalize hS2 : S1 + 1 = S2 at *
  generalize hQl : S2 + 1 = Ql at *
  generalize hS : w.heap.size = S at *
  gi_wp2
  refine wpIn_rangeFunc_ownH rfl h1 (gf := 84) (lb := #[.pointer (some ⟨Bt, 0, none⟩)]) rfl trivial (enters_of Tryd.func84 (by kernel_rfl) rfl) HSQ.out
    (fun h k => h.trans k) (kpT_b (by omega)) (Below.refl _ _) (fun _ => rfl)
    (fun pre W => LB S S1 S2 Ql a b 0 0 (lastId pre).1 (lastId pre).2 w W ∧ noneBehind pre a b)
    (fun c pre W => c = .ret ∧ ∃ p y, pre = p ++ [y] ∧ lastId p = (a, b) ∧ LB S S1 S2 Ql a b y.a y.b (lastId p).1 (lastId p).2 w W)
    (fun s A B' row hx hg hr => ⟨hx.1.kept (by omega) (by omega) hg hr, hx.2⟩)
    (fun c s A B' row hx hg hr => by obtain ⟨h1, p, y, h2, h3, h5⟩ := hx; exact ⟨h1, p, y, h2, h3, h5.kept (by omega) (by omega) hg hr⟩)
    ⟨HLB.out, noneBehind_nil _ _⟩
    (fun x' a' W => ∃ Bx, Ql + 1 ≤ Bx ∧ W.heap[Bx]? = some (.cells #[.int .i64 x'.a, .int .i64 x'.b, .int .i64 x'.g, .bool x'.z] 44 (0, 0)) ∧ a' =
      { tmps := #[Value.agg #[Value.map (some b1), Value.map (some b2), Value.map (some b3)],
        Value.agg #[Value.int IntKind.i64 a, Value.int IntKind.i64 b],
        Value.pointer (some { block := S, off := 0 }),
        Value.pointer (some { block := S1, off := 0 }),
        Value.pointer (some { block := S2, off := 0 }),
        Value.pointer (some { block := Ql, off := 0 }), Value.pointer (some { block := Bx, off := 0 }),
        Value.agg #[Value.int IntKind.i64 0, Value.int IntKind.i64 0],
        Value.agg #[Value.map (some b1), Value.map (some b2), Value.map (some b3)],
        Value.func (Fn.func 84) #[] #[Value.pointer (some { block := Bt, off := 0 })], lfV x', undef, undef,
        undef, undef, undef, undef, undef, undef], defers := [] })
    ?hAx ?assign ?body ?done ?stop
  case hAx =>
    rintro x' a' _ A B row ⟨Bx, hb, hx, ha⟩ hg hr
    exact ⟨Bx, hb, (hg.block Bx (Array.getElem?_eq_some_iff.1 hx).1 (fun e => by obtain ⟨_, o, ho, hc⟩ := hr Bx e.symm; rw [hx] at ho; cases ho; cases hc)).trans hx, ha⟩
  case assign =>
    rintro lp pre x' W K ⟨hci, hfr⟩ hK
    have hsW : S ≤ W.heap.size := by have := hci.bel.size; omega
    have hBW : Ql + 1 ≤ W.heap.size := (Array.getElem?_eq_some_iff.1 hci.lst).1
    unfold lfV
    gi_wp2
    exact hK _ _ ((KeepsOthers.alloc _ _).from _) (KpT.of_below (by omega) ((Below.refl _ _).alloc (Nat.le_refl _) _)) ⟨hci.below (by omega) ((Below.refl _ _).alloc (Nat.le_refl _) _), hfr⟩ ⟨W.heap.size, hBW, World.alloc_heap_new _ _, rfl⟩
  case body =>
    rintro lp pre x' a' W hl ⟨rr, hr⟩ ⟨hci, hfr⟩ ⟨Bx, hbx, hx, rfl⟩ hlt
    have HCW := hideIt hci
    have x0 := (blk_cell hx 0).trans rfl
    have x1 := (blk_cell hx 1).trans rfl
    have s0 := (blk_cell hci.sg 0).trans rfl
    have s1 := (blk_cell hci.sg 1).trans rfl
    have l0 := (blk_cell hci.lst 0).trans rfl
    have l1 := (blk_cell hci.lst 1).trans rfl
    have r0 := (blk_cell hci.r2 0).trans rfl
    have r1 := (blk_cell hci.r2 1).trans rfl
    have fl : ∀ j, W.frozen? ⟨Ql, j, none⟩ = false := fun j => by simp [World.frozen?, hci.lst]
    have fr : ∀ j, W.frozen? ⟨S2, j, none⟩ = false := fun j => by simp [World.frozen?, hci.r2]
    have hsW : S ≤ W.heap.size := by have := hci.bel.size; omega
    have hlm := lastId_more pre x'
    have HLM : Hid (lastId (pre ++ [x']) = (x'.a, x'.b)) := hlm
    have HN : Hid (¬ lastId pre = (a, b) → noneBehind (pre ++ [x']) a b) := fun h => noneBehind_more hfr h
    have HY : Hid (lastId pre = (a, b) → ∀ W9, LB S S1 S2 Ql a b x'.a x'.b (lastId pre).1 (lastId pre).2 w W9 → ∃ p y, pre ++ [x'] = p ++ [y] ∧ lastId p = (a, b) ∧ LB S S1 S2 Ql a b y.a y.b (lastId p).1 (lastId p).2 w W9) := fun h W9 h9 => ⟨pre, x', rfl, h, h9⟩
    have HKL : Hid (KpT w0.heap.size W ((W.setCell ⟨Ql, 0, none⟩ (.int .i64 x'.a)).setCell ⟨Ql, 1, none⟩ (.int .i64 x'.b))) := (kpT_row (by omega) (grownBy_set _ _ _ _) (fun j e => by cases e; exact ⟨by omega, _, _, _, hci.lst, by decide⟩)).trans (kpT_row (W := W.setCell ⟨Ql, 0, none⟩ (.int .i64 x'.a)) (by rw [size_set]; omega) (grownBy_set _ _ _ _) (fun j e => by cases e; exact ⟨by omega, _, _, _, set_one hci.lst, by decide⟩))
    clear hr hx hci hfr hlm
    generalize lastId pre = LP at *
    obtain ⟨u, v⟩ := LP
    dsimp only at l0 l1
    generalize x'.a = xa at *
    generalize x'.b = xb at *
    by_cases hab : u = a ∧ v = b
    · obtain ⟨rfl, rfl⟩ := hab
      have HF := hideIt (HY.out rfl)
      clear HN HY
      gi_wp2
      exact ⟨((KeepsOthers.setCell _ _ _).trans (KeepsOthers.setCell _ _ _)).from _, rfl, HF.out _ (HCW.out.setR (by omega) (by omega) (by omega) _ _)⟩
    · have HF := hideIt (HN.out (fun h => hab ⟨congrArg Prod.fst h, congrArg Prod.snd h⟩))
      clear HN HY
      by_cases hua : u = a
      · subst hua
        have hvb : ¬ v = b := by omega
        clear hab
        gi_wp2
        exact ⟨((KeepsOthers.setCell _ _ _).trans (KeepsOthers.setCell _ _ _)).from _, HKL.out, by rw [HLM.out]; exact HCW.out.setL (by omega) (by omega) (by omega) _ _, HF.out⟩
      · clear hab
        gi_wp2
        exact ⟨((KeepsOthers.setCell _ _ _).trans (KeepsOthers.setCell _ _ _)).from _, HKL.out, by rw [HLM.out]; exact HCW.out.setL (by omega) (by omega) (by omega) _ _, HF.out⟩
  case done =>
    rintro D ys W hD rfl ⟨hci, hfr⟩ hK
    have HNO : Hid (noneBehind (lvs l) a b) := hfr
    have HCI2 := hideIt hci
    have r0 := (blk_cell hci.r2 0).trans rfl
    have r1 := (blk_cell hci.r2 1).trans rfl
    have fr : ∀ j, W.frozen? ⟨S2, j, none⟩ = false := fun j => by simp [World.frozen?, hci.r2]
    clear hfr hci
    gi_wp2
    have HZ := HCI2.out.setR (by omega) (by omega) (by omega) 0 0
    obtain ⟨WZ, hWZ⟩ : ∃ WZ, ((W.setCell ⟨S2, 0, none⟩ (.int .i64 0)).setCell ⟨S2, 1, none⟩ (.int .i64 0)) = WZ := ⟨_, rfl⟩
    have zK : WZ.heap[D]? = some (.deferred (some [])) := by rw [← hWZ]; exact blk_set1 (blk_set1 hK (by omega)) (by omega)
    rw [hWZ] at HZ ⊢
    clear hWZ
    refine ⟨by simp, .inl ⟨_, _, rfl, run_takeDeferred zK, ?_⟩⟩
    have v0 : (WZ.putObj D (.deferred none)).cell? ⟨S2, 0, none⟩ = some (.int .i64 0) := (cell_put _ (by omega)).trans ((blk_cell HZ.r2 0).trans rfl)
    have v1 : (WZ.putObj D (.deferred none)).cell? ⟨S2, 1, none⟩ = some (.int .i64 0) := (cell_put _ (by omega)).trans ((blk_cell HZ.r2 1).trans rfl)
    exact ⟨.agg #[.int .i64 0, .int .i64 0], by simp [results, Tryd.results99, go_sem, v0, v1], .inr ⟨HNO.out, rfl⟩, hS.symm ▸ HZ.bel.trans (belowK_b (w := Wb) (by omega) WZ D _ _ (by omega) zK rfl rfl)⟩
  case stop =>
    rintro D c pre W hD ⟨t', ht⟩ ⟨rfl, p, y, rfl, hlp, hci⟩ hK
    have HYES : Hid (p ++ y :: t' = lvs l) := by show p ++ y :: t' = lvs l; rw [← show (p ++ [y]) ++ t' = lvs l from ht]; simp
    have HLP := hideIt hlp
    have HCI2 := hideIt hci
    have r0 := (blk_cell hci.r2 0).trans rfl
    have r1 := (blk_cell hci.r2 1).trans rfl
    clear hci ht hlp
    gi_wp2
    refine ⟨by simp, .inl ⟨_, _, rfl, run_takeDeferred hK, ?_⟩⟩
    have v0 : (W.putObj D (.deferred none)).cell? ⟨S2, 0, none⟩ = some (.int .i64 y.a) := (cell_put _ (by omega)).trans r0
    have v1 : (W.putObj D (.deferred none)).cell? ⟨S2, 1, none⟩ = some (.int .i64 y.b) := (cell_put _ (by omega)).trans r1
    exact ⟨.agg #[.int .i64 y.a, .int .i64 y.b], by simp [results, Tryd.results99, go_sem, v0, v1], .inl ⟨p, y, t', HYES.out, HLP.out, rfl⟩, hS.symm ▸ HCI2.out.bel.trans (belowK_b (w := Wb) (by omega) W D _ _ (by omega) hK rfl rfl)⟩
end Go.Proofs.YtjadkhejdbdpoaaDoor

namespace Go.Proofs.YtjadkhejdbdpoaaDoor
open Go.RowKit
set_option linter.unusedSimpArgs false
set_option linter.unusedVariables false
attribute [local go_sem ↓] Go.wp_at_zero Go.wp_at_succ

/-- The boxes of what is told: a tree, and an id. -/
structure TN (w W : World) : Prop where
  tb : W.heap[w.heap.size]? = some (.cells #[.map none, .map none, .map none] 81 (0, 0))
  ib : W.heap[w.heap.size + 1]? = some (.cells #[.int .i64 0, .int .i64 0] 27 (0, 0))
  bel : Below w.heap.size w W
theorem TN.below {w W W' : World} (h : TN w W) (hb : Below W.heap.size W W') : TN w W' := ⟨blk_below h.tb hb, blk_below h.ib hb, Bstep h.bel hb⟩
theorem TN.lt {w W : World} (h : TN w W) : w.heap.size + 1 < W.heap.size := (Array.getElem?_eq_some_iff.1 h.ib).1
theorem set_three {W : World} {b : Nat} {T : TypeId} {u v x u' v' x' : Value} (h : W.heap[b]? = some (.cells #[u, v, x] T (0, 0))) : (((W.setCell ⟨b, 0, none⟩ u').setCell ⟨b, 1, none⟩ v').setCell ⟨b, 2, none⟩ x').heap[b]? = some (.cells #[u', v', x'] T (0, 0)) := by
  simp only [World.setCell, Array.getElem?_modify, if_true, h, Option.map_some]
  rfl
/-- What is to be told, in its boxes. -/
def T5 (b1 b2 b3 : Nat) (r cn : Int) (Bt Bi : Nat) (W : World) : Prop := W.cell? ⟨Bt, 0, none⟩ = some (.map (some b1)) ∧ W.cell? ⟨Bt, 1, none⟩ = some (.map (some b2)) ∧ W.cell? ⟨Bt, 2, none⟩ = some (.map (some b3)) ∧ W.cell? ⟨Bi, 0, none⟩ = some (.int .i64 r) ∧ W.cell? ⟨Bi, 1, none⟩ = some (.int .i64 cn)
theorem cell_set1 {W : World} {b c i j : Nat} {u : Value} (h : ¬ b = c) : (W.setCell ⟨c, i, none⟩ u).cell? ⟨b, j, none⟩ = W.cell? ⟨b, j, none⟩ := by simp only [World.cell?, Below.heap_setCell W ⟨c, i, none⟩ u b h]
theorem T5.set {b1 b2 b3 : Nat} {r cn : Int} {Bt Bi : Nat} {W : World} (h : T5 b1 b2 b3 r cn Bt Bi W) {c i : Nat} {u : Value} (h1 : ¬ Bt = c) (h2 : ¬ Bi = c) : T5 b1 b2 b3 r cn Bt Bi (W.setCell ⟨c, i, none⟩ u) :=
  ⟨(cell_set1 h1).trans h.1, (cell_set1 h1).trans h.2.1, (cell_set1 h1).trans h.2.2.1, (cell_set1 h2).trans h.2.2.2.1, (cell_set1 h2).trans h.2.2.2.2⟩
theorem T5.drew {b1 b2 b3 : Nat} {r cn : Int} {Bt Bi : Nat} {W : World} (h : T5 b1 b2 b3 r cn Bt Bi W) : T5 b1 b2 b3 r cn Bt Bi W.drew := h
theorem treeAt_drew {W : World} {b1 b2 b3 base : Nat} {l : List Op7} (h : TreeAt W b1 b2 b3 base l) : TreeAt W.drew b1 b2 b3 base l := h.below ((Below.refl _ _).drew)
theorem T5.three {b1 b2 b3 : Nat} {r cn : Int} {Bt Bi : Nat} {W : World} (h : T5 b1 b2 b3 r cn Bt Bi W) {c : Nat} (h1 : ¬ Bt = c) (h2 : ¬ Bi = c) (u v x : Value) : T5 b1 b2 b3 r cn Bt Bi (((W.setCell ⟨c, 0, none⟩ u).setCell ⟨c, 1, none⟩ v).setCell ⟨c, 2, none⟩ x).drew :=
  T5.drew (((h.set (i := 0) (u := u) h1 h2).set (i := 1) (u := v) h1 h2).set (i := 2) (u := x) h1 h2)
theorem T5.five {b1 b2 b3 : Nat} {r cn : Int} {Bt Bi : Nat} {W : World} (h : T5 b1 b2 b3 r cn Bt Bi W) {c d : Nat} (h1 : ¬ Bt = c) (h2 : ¬ Bi = c) (h3 : ¬ Bt = d) (h4 : ¬ Bi = d) (u v x y z : Value) : T5 b1 b2 b3 r cn Bt Bi (((((W.setCell ⟨c, 0, none⟩ u).setCell ⟨c, 1, none⟩ v).setCell ⟨c, 2, none⟩ x).setCell ⟨d, 0, none⟩ y).setCell ⟨d, 1, none⟩ z).drew :=
  T5.drew (((((h.set (i := 0) (u := u) h1 h2).set (i := 1) (u := v) h1 h2).set (i := 2) (u := x) h1 h2).set (i := 0) (u := y) h3 h4).set (i := 1) (u := z) h3 h4)
/-- Both boxes, written. -/
theorem TN.set {w W : World} (h : TN w W) (m1 m2 m3 : Value) (a b : Int) :
    (((((W.setCell ⟨w.heap.size, 0, none⟩ m1).setCell ⟨w.heap.size, 1, none⟩ m2).setCell ⟨w.heap.size, 2, none⟩ m3).setCell ⟨w.heap.size + 1, 0, none⟩ (.int .i64 a)).setCell ⟨w.heap.size + 1, 1, none⟩ (.int .i64 b)).heap[w.heap.size]? = some (.cells #[m1, m2, m3] 81 (0, 0)) ∧
    (((((W.setCell ⟨w.heap.size, 0, none⟩ m1).setCell ⟨w.heap.size, 1, none⟩ m2).setCell ⟨w.heap.size, 2, none⟩ m3).setCell ⟨w.heap.size + 1, 0, none⟩ (.int .i64 a)).setCell ⟨w.heap.size + 1, 1, none⟩ (.int .i64 b)).heap[w.heap.size + 1]? = some (.cells #[.int .i64 a, .int .i64 b] 27 (0, 0)) ∧
    Below w.heap.size w (((((W.setCell ⟨w.heap.size, 0, none⟩ m1).setCell ⟨w.heap.size, 1, none⟩ m2).setCell ⟨w.heap.size, 2, none⟩ m3).setCell ⟨w.heap.size + 1, 0, none⟩ (.int .i64 a)).setCell ⟨w.heap.size + 1, 1, none⟩ (.int .i64 b)) :=
  ⟨blk_set1 (blk_set1 (set_three h.tb) (by omega)) (by omega), set_two (blk_set1 (blk_set1 (blk_set1 h.ib (by omega)) (by omega)) (by omega)),
    ((((h.bel.setCell (p := ⟨w.heap.size, 0, none⟩) (Nat.le_refl _) _).setCell (p := ⟨w.heap.size, 1, none⟩) (Nat.le_refl _) _).setCell (p := ⟨w.heap.size, 2, none⟩) (Nat.le_refl _) _).setCell (p := ⟨w.heap.size + 1, 0, none⟩) (by show w.heap.size ≤ w.heap.size + 1; omega) _).setCell (p := ⟨w.heap.size + 1, 1, none⟩) (by show w.heap.size ≤ w.heap.size + 1; omega) _⟩
theorem TN.tree {w W : World} {b1 b2 b3 base : Nat} {l : List Op7} (hT : TreeAt W b1 b2 b3 base l) (h1 : w.heap.size + 1 < b1) (h2 : w.heap.size + 1 < b2) (h3 : w.heap.size + 1 < b3) (h4 : w.heap.size + 1 < base) (m1 m2 m3 u v : Value) :
    TreeAt (((((W.setCell ⟨w.heap.size, 0, none⟩ m1).setCell ⟨w.heap.size, 1, none⟩ m2).setCell ⟨w.heap.size, 2, none⟩ m3).setCell ⟨w.heap.size + 1, 0, none⟩ u).setCell ⟨w.heap.size + 1, 1, none⟩ v) b1 b2 b3 base l :=
  ((((hT.low (grownBy_set _ _ _ _) (by omega) (by omega) (by omega) (by omega)).low (grownBy_set _ _ _ _) (by omega) (by omega) (by omega) (by omega)).low (grownBy_set _ _ _ _) (by omega) (by omega) (by omega) (by omega)).low (grownBy_set _ _ _ _) h1 h2 h3 h4).low (grownBy_set _ _ _ _) h1 h2 h3 h4

set_option maxRecDepth 100000 in
set_option maxHeartbeats 2000000 in
theorem treeNext_any (l : List Op7) (g cap : Nat) (r : Int) (x : Addr) (w : World) (hl : OpsAt w g l) (hn : l.length ≤ 1048576) (hcap : l.length ≤ cap)
    (he : w.cell? ⟨0, 0, none⟩ = some (.iface 164 (.pointer (some x)))) (h0 : 0 < w.heap.size) :
    Calls Tryd.prog 78 #[.slice (some ⟨g, 0, none⟩) l.length cap, .int .i64 r] w fun e w' =>
      ((mayMore l r = false ∧ e = .returned (.tuple #[.agg #[.map none, .map none, .map none], .agg #[.int .i64 0, .int .i64 0], .iface 164 (.pointer (some x))])) ∨
       (mayMore l r = true ∧ ∃ b1 b2 b3 base, e = .returned (.tuple #[.agg #[.map (some b1), .map (some b2), .map (some b3)], .agg #[.int .i64 r, .int .i64 (cnt l r + 1)], .nilIface]) ∧ TreeAt w' b1 b2 b3 base l)) ∧ Below w.heap.size w w' := by
  have HL := hideIt hl
  have hgw := hl.1
  clear hl
  have HT0 : Hid (TN w ((w.alloc (.cells #[.map none, .map none, .map none] 81)).alloc (.cells #[.int .i64 0, .int .i64 0] 27)) ∧ ((w.alloc (.cells #[.map none, .map none, .map none] 81)).alloc (.cells #[.int .i64 0, .int .i64 0] 27)).heap.size = w.heap.size + 1 + 1) := by
    refine ⟨⟨(Below.heap_alloc _ _ _ (by simp)).trans (World.alloc_heap_new _ _), ?_, ((Below.refl _ _).alloc (Nat.le_refl _) _).alloc (by simp) _⟩, by simp⟩
    have h := World.alloc_heap_new (w.alloc (.cells #[.map none, .map none, .map none] 81)) (.cells #[.int .i64 0, .int .i64 0] 27)
    rw [World.size_alloc] at h
    exact h
  go_enter Tryd.func78, Tryd.ntmps78
  go_wp2_with fail
  generalize (w.alloc (.cells #[.map none, .map none, .map none] 81)).alloc (.cells #[.int .i64 0, .int .i64 0] 27) = W0 at *
  refine (treeOf_low l g cap x _ (HL.out.below HT0.out.1.bel hgw) hn hcap (errB HT0.out.1.bel h0 he) (posB HT0.out.1.bel h0)).mono ?_
  rintro e w1 ⟨(⟨ht, b1, b2, b3, base, rfl, hT, hl1, hl2, hl3, hl4⟩ | ⟨ht, rfl⟩), hb1⟩
  all_goals
    have HO := hideIt ht
    have HT1 := hideIt (HT0.out.1.below hb1)
    have hlt := HT1.out.lt
    have hlt0 : w.heap.size < w1.heap.size := by omega
    have t0 := (blk_cell HT1.out.tb 0).trans rfl
    have t1 := (blk_cell HT1.out.tb 1).trans rfl
    have t2 := (blk_cell HT1.out.tb 2).trans rfl
    have i0 := (blk_cell HT1.out.ib 0).trans rfl
    have i1 := (blk_cell HT1.out.ib 1).trans rfl
    have tf : ∀ j, w1.frozen? ⟨w.heap.size, j, none⟩ = false := fun j => by simp [World.frozen?, HT1.out.tb]
    have jf : ∀ j, w1.frozen? ⟨w.heap.size + 1, j, none⟩ = false := fun j => by simp [World.frozen?, HT1.out.ib]
    clear ht hb1
  · have HTT := hideIt hT
    have HLO : Hid (w.heap.size + 1 < b1 ∧ w.heap.size + 1 < b2 ∧ w.heap.size + 1 < b3 ∧ w.heap.size + 1 < base) := by have := HT0.out.2; refine ⟨?_, ?_, ?_, ?_⟩ <;> omega
    clear hT hl1 hl2 hl3 hl4 HT0
    go_wp2_with fail
    have HBt : Hid (Below w1.heap.size w1 (w1.alloc (.cells #[.map (some b1), .map (some b2), .map (some b3)] 81))) := (Below.refl _ _).alloc (Nat.le_refl _) _
    have HKt : Hid ((w1.alloc (.cells #[.map (some b1), .map (some b2), .map (some b3)] 81)).heap[w1.heap.size]? = some (.cells #[.map (some b1), .map (some b2), .map (some b3)] 81 (0, 0))) := World.alloc_heap_new _ _
    have HB2 := hideIt (Bstep HT1.out.bel HBt.out)
    refine (implNext_any l HO.out g cap r x _ (HL.out.below HB2.out hgw) hn hcap (errB HB2.out h0 he) (posB HB2.out h0)).mono ?_
    rintro e w3 ⟨(⟨hm, rfl⟩ | ⟨hm, rfl⟩), hb3⟩
    all_goals
      have HM := hideIt hm
      have hb13 := Bstep HBt.out hb3
      have HT3 := hideIt (HT1.out.below hb13)
      have HTR := hideIt (HTT.out.below hb13)
      have hk3 := blk_below HKt.out hb3
      have hlt3 := HT3.out.lt
      have hlt4 : w.heap.size < w3.heap.size := by omega
      have hltk : w1.heap.size < w3.heap.size := (Array.getElem?_eq_some_iff.1 hk3).1
      have u0 := (blk_cell hk3 0).trans rfl
      have u1 := (blk_cell hk3 1).trans rfl
      have u2 := (blk_cell hk3 2).trans rfl
      have a0 := (blk_cell HT3.out.tb 0).trans rfl
      have a1 := (blk_cell HT3.out.tb 1).trans rfl
      have a2 := (blk_cell HT3.out.tb 2).trans rfl
      have c0 := (blk_cell HT3.out.ib 0).trans rfl
      have c1 := (blk_cell HT3.out.ib 1).trans rfl
      have af : ∀ j, w3.frozen? ⟨w.heap.size, j, none⟩ = false := fun j => by simp [World.frozen?, HT3.out.tb]
      have cf : ∀ j, w3.frozen? ⟨w.heap.size + 1, j, none⟩ = false := fun j => by simp [World.frozen?, HT3.out.ib]
      have nk0 : ¬ w1.heap.size = w.heap.size := by omega
      have nk1 : ¬ w1.heap.size = w.heap.size + 1 := by omega
      clear t0 t1 t2 i0 i1 tf jf hm hb3 hb13 hk3 HTT HT1 HBt HKt HB2
    · go_wp2
      obtain ⟨z1, z2, z3⟩ := HT3.out.set (.map none) (.map none) (.map none) 0 0
      generalize (((((w3.setCell ⟨w.heap.size, 0, none⟩ (.map none)).setCell ⟨w.heap.size, 1, none⟩ (.map none)).setCell ⟨w.heap.size, 2, none⟩ (.map none)).setCell ⟨w.heap.size + 1, 0, none⟩ (.int .i64 0)).setCell ⟨w.heap.size + 1, 1, none⟩ (.int .i64 0)) = WZ at *
      have HBZ := (Below.refl WZ.heap.size WZ).alloc (Nat.le_refl _) (.cells #[.int .i64 0, .int .i64 0] 27)
      have y1 := blk_below z1 HBZ
      have y2 := blk_below z2 HBZ
      have v0 := (blk_cell y1 0).trans rfl
      have v1 := (blk_cell y1 1).trans rfl
      have v2 := (blk_cell y1 2).trans rfl
      have v3 := (blk_cell y2 0).trans rfl
      have v4 := (blk_cell y2 1).trans rfl
      exact bodyPost_ret (v := .tuple #[.agg #[.map none, .map none, .map none], .agg #[.int .i64 0, .int .i64 0], .iface 164 (.pointer (some x))]) (by simp [results, Tryd.results78, go_sem, v0, v1, v2, v3, v4]) rfl ⟨.inl ⟨HM.out, rfl⟩, Bstep z3 HBZ⟩
    · generalize hcn : cnt l r + 1 = cn at *
      have HCN := hideIt hcn
      clear hcn
      go_wp2
      obtain ⟨Wm, hWm⟩ : ∃ Wm, w3.alloc (.cells #[.int .i64 r, .int .i64 cn] 27) = Wm := ⟨_, rfl⟩
      have hbm : Below w3.heap.size w3 Wm := by rw [← hWm]; exact (Below.refl _ _).alloc (Nat.le_refl _) _
      have hmk : Wm.heap[w3.heap.size]? = some (.cells #[.int .i64 r, .int .i64 cn] 27 (0, 0)) := by rw [← hWm]; exact World.alloc_heap_new _ _
      have HTM := hideIt (HT3.out.below hbm)
      have HTW := hideIt (HTR.out.below hbm)
      have u0' := ((bcell hbm).1 w1.heap.size 0 hltk).trans u0
      have u1' := ((bcell hbm).1 w1.heap.size 1 hltk).trans u1
      have u2' := ((bcell hbm).1 w1.heap.size 2 hltk).trans u2
      rw [hWm]
      clear hWm hbm u0 u1 u2 a0 a1 a2 c0 c1 af cf HTR HT3
      have a0 := (blk_cell HTM.out.tb 0).trans rfl
      have a1 := (blk_cell HTM.out.tb 1).trans rfl
      have a2 := (blk_cell HTM.out.tb 2).trans rfl
      have c0 := (blk_cell HTM.out.ib 0).trans rfl
      have c1 := (blk_cell HTM.out.ib 1).trans rfl
      have m0 := (blk_cell hmk 0).trans rfl
      have m1 := (blk_cell hmk 1).trans rfl
      have af : ∀ j, Wm.frozen? ⟨w.heap.size, j, none⟩ = false := fun j => by simp [World.frozen?, HTM.out.tb]
      have cf : ∀ j, Wm.frozen? ⟨w.heap.size + 1, j, none⟩ = false := fun j => by simp [World.frozen?, HTM.out.ib]
      clear hmk
      generalize w3.heap.size = Bi at *
      generalize w1.heap.size = Bt at *
      have nb0 : ¬ Bi = w.heap.size := by omega
      have nb1 : ¬ Bi = w.heap.size + 1 := by omega
      have K1 : Hid (T5 b1 b2 b3 r cn Bt Bi Wm) := ⟨u0', u1', u2', m0, m1⟩
      have K2 : Hid ((((Wm.setCell ⟨w.heap.size, 0, none⟩ (.map (some b1))).setCell ⟨w.heap.size, 1, none⟩ (.map (some b2))).setCell ⟨w.heap.size, 2, none⟩ (.map (some b3))).drew.cell? ⟨Bt, 0, none⟩ = some (.map (some b1)) ∧ (((Wm.setCell ⟨w.heap.size, 0, none⟩ (.map (some b1))).setCell ⟨w.heap.size, 1, none⟩ (.map (some b2))).setCell ⟨w.heap.size, 2, none⟩ (.map (some b3))).drew.cell? ⟨Bt, 1, none⟩ = some (.map (some b2)) ∧ (((Wm.setCell ⟨w.heap.size, 0, none⟩ (.map (some b1))).setCell ⟨w.heap.size, 1, none⟩ (.map (some b2))).setCell ⟨w.heap.size, 2, none⟩ (.map (some b3))).drew.cell? ⟨Bt, 2, none⟩ = some (.map (some b3)) ∧ (((Wm.setCell ⟨w.heap.size, 0, none⟩ (.map (some b1))).setCell ⟨w.heap.size, 1, none⟩ (.map (some b2))).setCell ⟨w.heap.size, 2, none⟩ (.map (some b3))).drew.cell? ⟨Bi, 0, none⟩ = some (.int .i64 r) ∧ (((Wm.setCell ⟨w.heap.size, 0, none⟩ (.map (some b1))).setCell ⟨w.heap.size, 1, none⟩ (.map (some b2))).setCell ⟨w.heap.size, 2, none⟩ (.map (some b3))).drew.cell? ⟨Bi, 1, none⟩ = some (.int .i64 cn)) := T5.three K1.out nk0 nb0 _ _ _
      have K3 : Hid ((((((Wm.setCell ⟨w.heap.size, 0, none⟩ (.map (some b1))).setCell ⟨w.heap.size, 1, none⟩ (.map (some b2))).setCell ⟨w.heap.size, 2, none⟩ (.map (some b3))).setCell ⟨w.heap.size + 1, 0, none⟩ (.int .i64 r)).setCell ⟨w.heap.size + 1, 1, none⟩ (.int .i64 cn)).drew.cell? ⟨Bt, 0, none⟩ = some (.map (some b1)) ∧ (((((Wm.setCell ⟨w.heap.size, 0, none⟩ (.map (some b1))).setCell ⟨w.heap.size, 1, none⟩ (.map (some b2))).setCell ⟨w.heap.size, 2, none⟩ (.map (some b3))).setCell ⟨w.heap.size + 1, 0, none⟩ (.int .i64 r)).setCell ⟨w.heap.size + 1, 1, none⟩ (.int .i64 cn)).drew.cell? ⟨Bt, 1, none⟩ = some (.map (some b2)) ∧ (((((Wm.setCell ⟨w.heap.size, 0, none⟩ (.map (some b1))).setCell ⟨w.heap.size, 1, none⟩ (.map (some b2))).setCell ⟨w.heap.size, 2, none⟩ (.map (some b3))).setCell ⟨w.heap.size + 1, 0, none⟩ (.int .i64 r)).setCell ⟨w.heap.size + 1, 1, none⟩ (.int .i64 cn)).drew.cell? ⟨Bt, 2, none⟩ = some (.map (some b3)) ∧ (((((Wm.setCell ⟨w.heap.size, 0, none⟩ (.map (some b1))).setCell ⟨w.heap.size, 1, none⟩ (.map (some b2))).setCell ⟨w.heap.size, 2, none⟩ (.map (some b3))).setCell ⟨w.heap.size + 1, 0, none⟩ (.int .i64 r)).setCell ⟨w.heap.size + 1, 1, none⟩ (.int .i64 cn)).drew.cell? ⟨Bi, 0, none⟩ = some (.int .i64 r) ∧ (((((Wm.setCell ⟨w.heap.size, 0, none⟩ (.map (some b1))).setCell ⟨w.heap.size, 1, none⟩ (.map (some b2))).setCell ⟨w.heap.size, 2, none⟩ (.map (some b3))).setCell ⟨w.heap.size + 1, 0, none⟩ (.int .i64 r)).setCell ⟨w.heap.size + 1, 1, none⟩ (.int .i64 cn)).drew.cell? ⟨Bi, 1, none⟩ = some (.int .i64 cn)) := T5.five K1.out nk0 nb0 nk1 nb1 _ _ _ _ _
      have K1' : Hid (Wm.drew.cell? ⟨Bt, 0, none⟩ = some (.map (some b1)) ∧ Wm.drew.cell? ⟨Bt, 1, none⟩ = some (.map (some b2)) ∧ Wm.drew.cell? ⟨Bt, 2, none⟩ = some (.map (some b3)) ∧ Wm.drew.cell? ⟨Bi, 0, none⟩ = some (.int .i64 r) ∧ Wm.drew.cell? ⟨Bi, 1, none⟩ = some (.int .i64 cn)) := K1.out
      go_region_held3 (fun w' => w'.cell? ⟨Bt, 0, none⟩ = some (.map (some b1)) ∧ w'.cell? ⟨Bt, 1, none⟩ = some (.map (some b2)) ∧ w'.cell? ⟨Bt, 2, none⟩ = some (.map (some b3)) ∧ w'.cell? ⟨Bi, 0, none⟩ = some (.int .i64 r) ∧ w'.cell? ⟨Bi, 1, none⟩ = some (.int .i64 cn))
        (first | with_reducible exact K1'.out | with_reducible exact K2.out | with_reducible exact K3.out)
        (fail)
      go_wp2
      rename_i hHH
      clear hHH K2 K3 K1' K1
      obtain ⟨z1, z2, z3⟩ := HTM.out.set (.map (some b1)) (.map (some b2)) (.map (some b3)) r cn
      have hTZ := TN.tree HTW.out HLO.out.1 HLO.out.2.1 HLO.out.2.2.1 HLO.out.2.2.2 (.map (some b1)) (.map (some b2)) (.map (some b3)) (.int .i64 r) (.int .i64 cn)
      generalize (((((Wm.setCell ⟨w.heap.size, 0, none⟩ (.map (some b1))).setCell ⟨w.heap.size, 1, none⟩ (.map (some b2))).setCell ⟨w.heap.size, 2, none⟩ (.map (some b3))).setCell ⟨w.heap.size + 1, 0, none⟩ (.int .i64 r)).setCell ⟨w.heap.size + 1, 1, none⟩ (.int .i64 cn)) = WZ at *
      have v0 := (blk_cell z1 0).trans rfl
      have v1 := (blk_cell z1 1).trans rfl
      have v2 := (blk_cell z1 2).trans rfl
      have v3 := (blk_cell z2 0).trans rfl
      have v4 := (blk_cell z2 1).trans rfl
      exact bodyPost_ret (v := .tuple #[.agg #[.map (some b1), .map (some b2), .map (some b3)], .agg #[.int .i64 r, .int .i64 cn], .nilIface]) (by simp [results, Tryd.results78, go_sem, v0, v1, v2, v3, v4]) rfl ⟨.inr ⟨HM.out, b1, b2, b3, base, by rw [HCN.out], treeAt_drew hTZ⟩, z3.drew⟩
  · have HM : Hid (mayMore l r = false) := by show mayMore l r = false; unfold mayMore; rw [HO.out]; rfl
    go_wp2
    obtain ⟨z1, z2, z3⟩ := HT1.out.set (.map none) (.map none) (.map none) 0 0
    have HBZ := (Below.refl (((((w1.setCell ⟨w.heap.size, 0, none⟩ (.map none)).setCell ⟨w.heap.size, 1, none⟩ (.map none)).setCell ⟨w.heap.size, 2, none⟩ (.map none)).setCell ⟨w.heap.size + 1, 0, none⟩ (.int .i64 0)).setCell ⟨w.heap.size + 1, 1, none⟩ (.int .i64 0)).heap.size (((((w1.setCell ⟨w.heap.size, 0, none⟩ (.map none)).setCell ⟨w.heap.size, 1, none⟩ (.map none)).setCell ⟨w.heap.size, 2, none⟩ (.map none)).setCell ⟨w.heap.size + 1, 0, none⟩ (.int .i64 0)).setCell ⟨w.heap.size + 1, 1, none⟩ (.int .i64 0))).alloc (Nat.le_refl _) (.cells #[.map none, .map none, .map none] 81)
    have y1 := blk_below z1 HBZ
    have y2 := blk_below z2 HBZ
    have v0 := (blk_cell y1 0).trans rfl
    have v1 := (blk_cell y1 1).trans rfl
    have v2 := (blk_cell y1 2).trans rfl
    have v3 := (blk_cell y2 0).trans rfl
    have v4 := (blk_cell y2 1).trans rfl
    exact bodyPost_ret (v := .tuple #[.agg #[.map none, .map none, .map none], .agg #[.int .i64 0, .int .i64 0], .iface 164 (.pointer (some x))]) (by simp [results, Tryd.results78, go_sem, v0, v1, v2, v3, v4]) rfl ⟨.inl ⟨HM.out, rfl⟩, Bstep z3 HBZ⟩
end Go.Proofs.YtjadkhejdbdpoaaDoor
