/- Contracts of l6Open, l71Id and DrawIdLess. -/
import Derived.Test.YtlkhmpobpekmpaaDoorPick
namespace Go.Proofs.YtlkhmpobpekmpaaDoor
open Go.RowKit
set_option linter.unusedSimpArgs false
set_option linter.unusedVariables false
attribute [local go_sem ↓] Go.wp_at_zero Go.wp_at_succ

/-- Bytes that came in, from an offset on. -/
def ArgBytes (w : World) (p : Option Addr) (n : Nat) : Prop := n = 0 ∨ ∃ b off, p = some ⟨b, off, none⟩ ∧ b < w.heap.size ∧ ∀ i, i < n → ∃ c : Int, 0 ≤ c ∧ c ≤ 255 ∧ w.cell? ⟨b, off + i, none⟩ = some (.int .u8 c)
theorem ArgBytes.below {w w' : World} {p : Option Addr} {n : Nat} (h : ArgBytes w p n) (hb : Below w.heap.size w w') : ArgBytes w' p n := by
  rcases h with h | ⟨b, off, hp, hlt, hc⟩
  · exact .inl h
  · exact .inr ⟨b, off, hp, Nat.lt_of_lt_of_le hlt hb.size, fun i hi => by
      obtain ⟨c, h0, h1, h2⟩ := hc i hi
      exact ⟨c, h0, h1, (hb.cell (p := ⟨b, _, none⟩) hlt).trans h2⟩⟩
theorem ArgBytes.at {w w' : World} {p : Option Addr} {n m q : Nat} (h : ArgBytes w p n) (hb : Below w.heap.size w w') (hq : w.heap.size ≤ q) (hm : m ≤ n) : BytesAt w' q p m := by
  rcases h with h | ⟨b, off, hp, hlt, hc⟩
  · exact .inl (by omega)
  · exact .inr ⟨b, off, hp, by omega, Nat.lt_of_lt_of_le hlt hb.size, fun i hi => by
      obtain ⟨c, h0, h1, h2⟩ := hc i (by omega)
      exact ⟨c, h0, h1, (hb.cell (p := ⟨b, _, none⟩) hlt).trans h2⟩⟩

set_option maxRecDepth 100000 in
theorem open_any (w : World) (p : Option Addr) (n cap : Nat) (h : ArgBytes w p n) (hcap : n ≤ cap) (hn : n ≤ 1048576) :
    Calls Tryd.prog 7 #[.slice p n cap] w fun e w' => ∃ n', e = .returned (.pointer (some ⟨w.heap.size, 0, none⟩)) ∧ RdAt w' w.heap.size p n' cap 0 ∧ Below w.heap.size w w' := by
  have H := hideIt h
  clear h
  by_cases hb : n ≤ 2000
  · go_enter Tryd.func7, Tryd.ntmps7
    go_wp2
    go_ret
    exact ⟨n, rfl, ⟨by simp [go_sem], by simp [go_sem], fun j => by simp [go_sem], by simp, hb, H.out.at ((Below.refl _ _).alloc (Nat.le_refl _) _) (Nat.le_refl _) (Nat.le_refl _)⟩, by go_grown⟩
  · go_enter Tryd.func7, Tryd.ntmps7
    go_wp2
    go_ret
    exact ⟨2000, rfl, ⟨by simp [go_sem], by simp [go_sem], fun j => by simp [go_sem], by simp, Nat.le_refl _, H.out.at ((Below.refl _ _).alloc (Nat.le_refl _) _) (Nat.le_refl _) (by omega)⟩, by go_grown⟩

theorem OnlyQ.alloc {q : Nat} {w w' : World} (h : OnlyQ q w w') (hq : q < w.heap.size) (o : Obj) : OnlyQ q w (w'.alloc o) :=
  ⟨Nat.le_trans h.size (by simp), fun b x hb hne => by rw [World.cell?_alloc_lt _ _ _ (show (Addr.mk b x none).block < _ from Nat.lt_of_lt_of_le hb h.size)]; exact h.cell b x hb hne,
    fun b x hb hne => by rw [World.frozen?_alloc_past _ _ _ (Nat.lt_of_lt_of_le hb h.size)]; exact h.frozen b x hb hne, h.below.alloc (by have := h.size; omega) _⟩
theorem RdAt.alloc {w : World} {q : Nat} {p : Option Addr} {n cap k : Nat} (h : RdAt w q p n cap k) (o : Obj) : RdAt (w.alloc o) q p n cap k :=
  ⟨by rw [World.cell?_alloc_lt _ _ _ (show (Addr.mk q _ none).block < _ from h.lt)]; exact h.b, by rw [World.cell?_alloc_lt _ _ _ (show (Addr.mk q _ none).block < _ from h.lt)]; exact h.k,
    fun j => by rw [World.frozen?_alloc_past _ _ _ h.lt]; exact h.fz j, Nat.lt_of_lt_of_le h.lt (by simp), h.few, h.bytes.only ((OnlyQ.refl q w).alloc h.lt o)⟩

theorem OnlyQ.set {q : Nat} {w w' : World} (h : OnlyQ q w w') (hq : q < w.heap.size) {g : Nat} (hg : w.heap.size ≤ g) (j : Nat) (v : Value) : OnlyQ q w (w'.setCell ⟨g, j, none⟩ v) :=
  ⟨by simpa using h.size, fun b o hb hne => by rw [World.cell?_setCell_other _ _ _ _ (by intro he; have := congrArg Addr.block he; simp at this; omega)]; exact h.cell b o hb hne,
    fun b o hb hne => by rw [World.frozen?_setCell]; exact h.frozen b o hb hne, h.below.setCell (p := ⟨g, j, none⟩) (show q ≤ g by omega) v⟩
theorem RdAt.fin {w w2 wf : World} {q : Nat} {p : Option Addr} {n cap k k2 : Nat} (H : RdAt w q p n cap k) (h2 : RdAt w2 q p n cap k2) (hO : OnlyQ q w wf) (hc : ∀ o, wf.cell? ⟨q, o, none⟩ = w2.cell? ⟨q, o, none⟩) (hf : ∀ o, wf.frozen? ⟨q, o, none⟩ = w2.frozen? ⟨q, o, none⟩) : RdAt wf q p n cap k2 :=
  ⟨(hc _).trans h2.b, (hc _).trans h2.k, fun j => (hf j).trans (h2.fz j), Nat.lt_of_lt_of_le H.lt hO.size, H.few, H.bytes.only hO⟩

set_option maxRecDepth 100000 in
set_option maxHeartbeats 1000000 in
theorem l71Id_any (w : World) (q : Nat) (p : Option Addr) (n cap k : Nat) (h : RdAt w q p n cap k) (hk : k ≤ 1073741800) :
    Calls Tryd.prog 8 #[.pointer (some ⟨q, 0, none⟩)] w fun e w' => (∃ r m : Int, e = .returned (.agg #[.int .i64 r, .int .i64 m])) ∧ (∃ k', k' ≤ k + 3 ∧ RdAt w' q p n cap k') ∧ OnlyQ q w w' := by
  have H := hideIt h
  clear h
  go_enter Tryd.func8, Tryd.ntmps8
  go_wp2_with fail
  refine (pick_any _ q p n cap k 12 (H.out.alloc _) (by omega) (by omega) (by omega)).mono ?_
  rintro e w1 ⟨⟨c, hc0, hc1, rfl⟩, hR, hO⟩
  have hqw := H.out.lt
  have r0 : w1.cell? ⟨w.heap.size, 0, none⟩ = some (.int .i64 0) := by rw [hO.cell _ _ (by simp) (by omega)]; simp [go_sem]
  have r1 : w1.cell? ⟨w.heap.size, 1, none⟩ = some (.int .i64 0) := by rw [hO.cell _ _ (by simp) (by omega)]; simp [go_sem]
  have rf : ∀ j, w1.frozen? ⟨w.heap.size, j, none⟩ = false := fun j => by rw [hO.frozen _ _ (by simp) (by omega)]; simp [go_sem]
  have hs1 : w.heap.size < w1.heap.size := by have := hO.size; simp at this; omega
  have HR := hideIt hR
  have HO := hideIt (((OnlyQ.refl q w).alloc H.out.lt _).trans hO)
  clear hR hO
  have hne : ¬ w.heap.size = q := by omega
  have hne' : ¬ q = w.heap.size := by omega
  by_cases hz : c = 0
  · subst hz
    go_wp2_with fail
    refine (pick_any _ q p n cap (k + 1) 5 (HR.out.alloc _) (by omega) (by omega) (by omega)).mono ?_
    rintro e w2 ⟨⟨d, hd0, hd1, rfl⟩, hR2, hO2⟩
    have s0 : w2.cell? ⟨w.heap.size, 0, none⟩ = some (.int .i64 0) := by rw [hO2.cell _ _ (by simp; omega) hne, World.cell?_alloc_lt _ _ _ hs1]; exact r0
    have s1 : w2.cell? ⟨w.heap.size, 1, none⟩ = some (.int .i64 0) := by rw [hO2.cell _ _ (by simp; omega) hne, World.cell?_alloc_lt _ _ _ hs1]; exact r1
    have sf : ∀ j, w2.frozen? ⟨w.heap.size, j, none⟩ = false := fun j => by rw [hO2.frozen _ _ (by simp; omega) hne, World.frozen?_alloc_past _ _ _ hs1]; exact rf j
    have sl : ∀ j, w2.cell? ⟨w1.heap.size, j, none⟩ = _ := fun j => hO2.cell w1.heap.size j (by simp) (by omega)
    have HO2 := hideIt ((HO.out.alloc hqw _).trans hO2)
    have HR2 := hideIt hR2
    clear hR2 hO2 r0 r1 rf
    obtain rfl | rfl | rfl | rfl | rfl : d = 0 ∨ d = 1 ∨ d = 2 ∨ d = 3 ∨ d = 4 := by omega
    all_goals
      go_wp2
      have hO3 : ∀ u v, OnlyQ q w ((w2.setCell ⟨w.heap.size, 0, none⟩ u).setCell ⟨w.heap.size, 1, none⟩ v) := fun u v => (HO2.out.set hqw (g := w.heap.size) (Nat.le_refl _) 0 u).set hqw (g := w.heap.size) (Nat.le_refl _) 1 v
      have hR3 : ∀ u v, RdAt ((w2.setCell ⟨w.heap.size, 0, none⟩ u).setCell ⟨w.heap.size, 1, none⟩ v) q p n cap (k + 2) := fun u v => H.out.fin HR2.out (hO3 u v) (fun o => by simp [go_sem, hne, hne']) (fun o => by simp)
    · exact bodyPost_ret (v := .agg #[.int .i64 0, .int .i64 0]) (by simp [results, Tryd.results8, go_sem, s0, s1]) rfl ⟨⟨_, _, rfl⟩, ⟨k + 2, by omega, hR3 _ _⟩, hO3 _ _⟩
    · exact bodyPost_ret (v := .agg #[.int .i64 4, .int .i64 1]) (by simp [results, Tryd.results8, go_sem, s0, s1]) rfl ⟨⟨_, _, rfl⟩, ⟨k + 2, by omega, hR3 _ _⟩, hO3 _ _⟩
    · exact bodyPost_ret (v := .agg #[.int .i64 1, .int .i64 0]) (by simp [results, Tryd.results8, go_sem, s0, s1]) rfl ⟨⟨_, _, rfl⟩, ⟨k + 2, by omega, hR3 _ _⟩, hO3 _ _⟩
    · exact bodyPost_ret (v := .agg #[.int .i64 1, .int .i64 13]) (by simp [results, Tryd.results8, go_sem, s0, s1]) rfl ⟨⟨_, _, rfl⟩, ⟨k + 2, by omega, hR3 _ _⟩, hO3 _ _⟩
    · exact bodyPost_ret (v := .agg #[.int .i64 (-1), .int .i64 2]) (by simp [results, Tryd.results8, go_sem, s0, s1]) rfl ⟨⟨_, _, rfl⟩, ⟨k + 2, by omega, hR3 _ _⟩, hO3 _ _⟩
  · go_wp2_with fail
    refine (pick_any _ q p n cap (k + 1) 3 HR.out (by omega) (by omega) (by omega)).mono ?_
    rintro e w2 ⟨⟨d, hd0, hd1, rfl⟩, hR2, hO2⟩
    have s0 : w2.cell? ⟨w.heap.size, 0, none⟩ = some (.int .i64 0) := by rw [hO2.cell _ _ hs1 hne]; exact r0
    have s1 : w2.cell? ⟨w.heap.size, 1, none⟩ = some (.int .i64 0) := by rw [hO2.cell _ _ hs1 hne]; exact r1
    have sf : ∀ j, w2.frozen? ⟨w.heap.size, j, none⟩ = false := fun j => by rw [hO2.frozen _ _ hs1 hne]; exact rf j
    have hs2 := Nat.lt_of_lt_of_le hs1 hO2.size
    have HO2 := hideIt (HO.out.trans hO2)
    have HR2 := hideIt hR2
    clear hR2 hO2 r0 r1 rf
    go_wp2_with fail
    refine (pick_any _ q p n cap (k + 2) 5 HR2.out (by omega) (by omega) (by omega)).mono ?_
    rintro e w3 ⟨⟨f, hf0, hf1, rfl⟩, hR3, hO3⟩
    have t0 : w3.cell? ⟨w.heap.size, 0, none⟩ = some (.int .i64 0) := by rw [hO3.cell _ _ hs2 hne]; exact s0
    have t1 : w3.cell? ⟨w.heap.size, 1, none⟩ = some (.int .i64 0) := by rw [hO3.cell _ _ hs2 hne]; exact s1
    have tf : ∀ j, w3.frozen? ⟨w.heap.size, j, none⟩ = false := fun j => by rw [hO3.frozen _ _ hs2 hne]; exact sf j
    have HO3 := hideIt (HO2.out.trans hO3)
    have HR3 := hideIt hR3
    clear hR3 hO3 s0 s1 sf
    go_wp2
    have hO4 := (HO3.out.set hqw (g := w.heap.size) (Nat.le_refl _) 0 (.int .i64 (1 + d))).set hqw (g := w.heap.size) (Nat.le_refl _) 1 (.int .i64 (1 + f))
    exact bodyPost_ret (v := .agg #[.int .i64 (1 + d), .int .i64 (1 + f)]) (by simp [results, Tryd.results8, go_sem, t0, t1]) rfl ⟨⟨_, _, rfl⟩, ⟨k + 3, by omega, H.out.fin HR3.out hO4 (fun o => by simp [go_sem, hne, hne']) (fun o => by simp)⟩, hO4⟩
end Go.Proofs.YtlkhmpobpekmpaaDoor
