/- Contracts of both texts of a thing. -/
import Derived.Test.YtfjhecoihkbjhaaDoorIdText
import Derived.Test.YtfjhecoihkbjhaaDoorPutting
namespace Go.Proofs.YtfjhecoihkbjhaaDoor
open Go.RowKit
set_option linter.unusedSimpArgs false
set_option linter.unusedVariables false
attribute [local go_sem ↓] Go.wp_at_zero Go.wp_at_succ

theorem keep7 {w w1 w2 : World} {v0 v1 v3 v4 v6 : Value} (hb : Below w1.heap.size w1 w2)
    (h : w1.cell? ⟨w.heap.size, 0, none⟩ = some v0 ∧ w1.cell? ⟨w.heap.size, 1, none⟩ = some v1 ∧ w1.cell? ⟨w.heap.size, 3, none⟩ = some v3 ∧ w1.cell? ⟨w.heap.size, 4, none⟩ = some v4 ∧ w1.cell? ⟨w.heap.size, 6, none⟩ = some v6 ∧ w.heap.size < w1.heap.size ∧ Below w.heap.size w w1) :
    w2.cell? ⟨w.heap.size, 0, none⟩ = some v0 ∧ w2.cell? ⟨w.heap.size, 1, none⟩ = some v1 ∧ w2.cell? ⟨w.heap.size, 3, none⟩ = some v3 ∧ w2.cell? ⟨w.heap.size, 4, none⟩ = some v4 ∧ w2.cell? ⟨w.heap.size, 6, none⟩ = some v6 ∧ w.heap.size < w2.heap.size ∧ Below w.heap.size w w2 := by
  obtain ⟨h0, h1, h3, h4, h6, hz, hB⟩ := h
  obtain ⟨hc, _⟩ := bcell hb
  exact ⟨(hc _ _ hz).trans h0, (hc _ _ hz).trans h1, (hc _ _ hz).trans h3, (hc _ _ hz).trans h4, (hc _ _ hz).trans h6, Nat.lt_of_lt_of_le hz hb.size, Bstep hB hb⟩

/-- The line of a taking. -/
def takeS (a b c d : Int) : ByteArray := idS a b ++ ⟨#[32, 116, 97, 107, 101, 32]⟩ ++ idS c d ++ ⟨#[10]⟩

set_option maxRecDepth 100000 in
set_option maxHeartbeats 1000000 in
theorem specText_take (a b c d s g : Int) (h1 : 0 ≤ a ∧ a ≤ 12) (h2 : 0 ≤ b ∧ b ≤ 12) (h3 : 0 ≤ c ∧ c ≤ 12) (h4 : 0 ≤ d ∧ d ≤ 12) (w : World) :
    Calls Tryd.prog 40 #[.agg #[.int .i64 a, .int .i64 b, .int .i64 2, .int .i64 c, .int .i64 d, .int .i64 s, .int .i64 g]] w fun e w' => e = .returned (.string (takeS a b c d)) ∧ Below w.heap.size w w' := by
  have z1 := idS_size a b
  have z2 := idS_size c d
  have e6 : (⟨#[32, 116, 97, 107, 101, 32]⟩ : ByteArray).size = 6 := rfl
  have k1 := add_str (idS a b) ⟨#[32, 116, 97, 107, 101, 32]⟩ 5 6 z1 (Nat.le_of_eq e6) (by omega)
  have k2 := add_str (idS a b ++ ⟨#[32, 116, 97, 107, 101, 32]⟩) (idS c d) 11 5 (by rw [ByteArray.size_append]; omega) z2 (by omega)
  have k3 := add_str (idS a b ++ ⟨#[32, 116, 97, 107, 101, 32]⟩ ++ idS c d) ⟨#[10]⟩ 16 1 (by rw [ByteArray.size_append, ByteArray.size_append]; omega) (Nat.le_refl _) (by omega)
  clear z1 z2 e6
  go_enter Tryd.func40, Tryd.ntmps40
  go_wp2
  go_region_held3 (fun w' => w'.cell? ⟨w.heap.size, 0, none⟩ = some (.int .i64 a) ∧ w'.cell? ⟨w.heap.size, 1, none⟩ = some (.int .i64 b) ∧ w'.cell? ⟨w.heap.size, 3, none⟩ = some (.int .i64 c) ∧ w'.cell? ⟨w.heap.size, 4, none⟩ = some (.int .i64 d) ∧ w'.cell? ⟨w.heap.size, 6, none⟩ = some (.int .i64 g) ∧ w.heap.size < w'.heap.size ∧ Below w.heap.size w w')
    (first | exact keep7 hb2 (by with_reducible assumption) | exact ⟨by simp [go_sem], by simp [go_sem], by simp [go_sem], by simp [go_sem], by simp [go_sem], by simp, ((Below.refl _ _).alloc (Nat.le_refl _) _).drew⟩)
    (first
      | (go_at_call_of 51 (Value.int IntKind.i64 a); refine (specIdText _ _ h1 h2 _).mono ?_; rintro e w1 ⟨rfl, hb2⟩)
      | (go_at_call_of 51 (Value.int IntKind.i64 c); refine (specIdText _ _ h3 h4 _).mono ?_; rintro e w1 ⟨rfl, hb2⟩))
  rename_i hS
  have HB3 := hideIt hS.2.2.2.2.2.2
  clear hS hb2
  go_wp2
  go_ret
  exact ⟨rfl, HB3.out⟩

/-- Left, or right. -/
def sideS (s : Int) : ByteArray := if s = 1 then ⟨#[114, 105, 103, 104, 116]⟩ else ⟨#[108, 101, 102, 116]⟩
/-- A letter. -/
def sgnS (g : Int) : ByteArray := ⟨#[UInt8.ofNat g.toNat]⟩
/-- The line of a putting. -/
def putS (a b c d s g : Int) : ByteArray := idS a b ++ ⟨#[32, 112, 117, 116, 32]⟩ ++ sgnS g ++ ⟨#[32]⟩ ++ sideS s ++ ⟨#[32]⟩ ++ idS c d ++ ⟨#[10]⟩

theorem cell_last {W0 w1 : World} {c : Int} {t : TypeId} (hb : Below (W0.alloc (.cells #[.int .u8 c] t)).heap.size (W0.alloc (.cells #[.int .u8 c] t)) w1) : w1.cell? ⟨W0.heap.size, 0, none⟩ = some (.int .u8 c) := by
  rw [(bcell hb).1 _ _ (by simp)]; simp [go_sem]
theorem cell_lastD {W0 w1 : World} {c : Int} {t : TypeId} (hb : Below (W0.alloc (.cells #[.int .u8 c] t)).drew.heap.size (W0.alloc (.cells #[.int .u8 c] t)).drew w1) : w1.cell? ⟨W0.heap.size, 0, none⟩ = some (.int .u8 c) := by
  rw [(bcell hb).1 _ _ (by simp)]; simp [go_sem]
theorem cell_more {W w1 : World} {a : Nat} {v : Value} (hb : Below W.heap.size W w1) (h : W.cell? ⟨a, 0, none⟩ = some v) : w1.cell? ⟨a, 0, none⟩ = some v :=
  ((bcell hb).1 _ _ (World.block_lt_of_cell? W _ h)).trans h
theorem keep7a {w w1 : World} {v0 v1 v3 v4 v6 : Value} {o : Obj}
    (h : w1.cell? ⟨w.heap.size, 0, none⟩ = some v0 ∧ w1.cell? ⟨w.heap.size, 1, none⟩ = some v1 ∧ w1.cell? ⟨w.heap.size, 3, none⟩ = some v3 ∧ w1.cell? ⟨w.heap.size, 4, none⟩ = some v4 ∧ w1.cell? ⟨w.heap.size, 6, none⟩ = some v6 ∧ w.heap.size < w1.heap.size ∧ Below w.heap.size w w1) :
    (w1.alloc o).cell? ⟨w.heap.size, 0, none⟩ = some v0 ∧ (w1.alloc o).cell? ⟨w.heap.size, 1, none⟩ = some v1 ∧ (w1.alloc o).cell? ⟨w.heap.size, 3, none⟩ = some v3 ∧ (w1.alloc o).cell? ⟨w.heap.size, 4, none⟩ = some v4 ∧ (w1.alloc o).cell? ⟨w.heap.size, 6, none⟩ = some v6 ∧ w.heap.size < (w1.alloc o).heap.size ∧ Below w.heap.size w (w1.alloc o) :=
  keep7 ((Below.refl _ _).alloc (Nat.le_refl _) _) h

set_option maxRecDepth 100000 in
set_option maxHeartbeats 4000000 in
theorem specText_put (a b c d s g : Int) (h1 : 0 ≤ a ∧ a ≤ 12) (h2 : 0 ≤ b ∧ b ≤ 12) (h3 : 0 ≤ c ∧ c ≤ 12) (h4 : 0 ≤ d ∧ d ≤ 12) (hs : s = 0 ∨ s = 1) (hg1 : 97 ≤ g) (hg2 : g ≤ 122) (w : World) :
    Calls Tryd.prog 40 #[.agg #[.int .i64 a, .int .i64 b, .int .i64 1, .int .i64 c, .int .i64 d, .int .i64 s, .int .i64 g]] w fun e w' => e = .returned (.string (putS a b c d s g)) ∧ Below w.heap.size w w' := by
  have z1 := idS_size a b
  have z2 := idS_size c d
  have kc := fun (W : World) (c : Int) (t : TypeId) => conv1 W c t W.heap.size rfl
  have ka := fun (W : World) (c : Int) (t : TypeId) => conv_at (W.alloc (.cells #[.int .u8 c] t)).drew W.heap.size c (by simp [go_sem])
  have ke := fun (W : World) (c : Int) (t : TypeId) (o : Obj) => conv_at ((W.alloc o).alloc (.cells #[.int .u8 c] t)).drew (W.heap.size + 1) c (by simp [go_sem])
  have hu : IntKind.u8.wrap g = g := IntWalk.u8_in _ ⟨by omega, by omega⟩
  obtain rfl | rfl := hs
  · have q5 : (⟨#[32, 112, 117, 116, 32]⟩ : ByteArray).size = 5 := rfl
    have q1 : (⟨#[32]⟩ : ByteArray).size = 1 := rfl
    have qs : (⟨#[108, 101, 102, 116]⟩ : ByteArray).size = 4 := rfl
    have qg : (⟨#[UInt8.ofNat g.toNat]⟩ : ByteArray).size = 1 := rfl
    have k1 := add_str (idS a b) ⟨#[32, 112, 117, 116, 32]⟩ 5 5 (by first | omega | (simp only [ByteArray.size_append, q5, q1, qs, qg]; omega)) (by decide) (by omega)
    have k2 := add_str (idS a b ++ ⟨#[32, 112, 117, 116, 32]⟩) ⟨#[UInt8.ofNat g.toNat]⟩ 10 1 (by first | omega | (simp only [ByteArray.size_append, q5, q1, qs, qg]; omega)) (Nat.le_refl _) (by omega)
    have k3 := add_str (idS a b ++ ⟨#[32, 112, 117, 116, 32]⟩ ++ ⟨#[UInt8.ofNat g.toNat]⟩) ⟨#[32]⟩ 11 1 (by first | omega | (simp only [ByteArray.size_append, q5, q1, qs, qg]; omega)) (by decide) (by omega)
    have k4 := add_str (idS a b ++ ⟨#[32, 112, 117, 116, 32]⟩ ++ ⟨#[UInt8.ofNat g.toNat]⟩ ++ ⟨#[32]⟩) ⟨#[108, 101, 102, 116]⟩ 12 5 (by first | omega | (simp only [ByteArray.size_append, q5, q1, qs, qg]; omega)) (by decide) (by omega)
    have k5 := add_str (idS a b ++ ⟨#[32, 112, 117, 116, 32]⟩ ++ ⟨#[UInt8.ofNat g.toNat]⟩ ++ ⟨#[32]⟩ ++ ⟨#[108, 101, 102, 116]⟩) ⟨#[32]⟩ 17 1 (by first | omega | (simp only [ByteArray.size_append, q5, q1, qs, qg]; omega)) (by decide) (by omega)
    have k6 := add_str (idS a b ++ ⟨#[32, 112, 117, 116, 32]⟩ ++ ⟨#[UInt8.ofNat g.toNat]⟩ ++ ⟨#[32]⟩ ++ ⟨#[108, 101, 102, 116]⟩ ++ ⟨#[32]⟩) (idS c d) 18 5 (by first | omega | (simp only [ByteArray.size_append, q5, q1, qs, qg]; omega)) z2 (by omega)
    have k7 := add_str (idS a b ++ ⟨#[32, 112, 117, 116, 32]⟩ ++ ⟨#[UInt8.ofNat g.toNat]⟩ ++ ⟨#[32]⟩ ++ ⟨#[108, 101, 102, 116]⟩ ++ ⟨#[32]⟩ ++ idS c d) ⟨#[10]⟩ 23 1 (by first | omega | (simp only [ByteArray.size_append, q5, q1, qs, qg]; omega)) (by decide) (by omega)
    clear z1 z2 q5 q1 qs qg
    go_enter Tryd.func40, Tryd.ntmps40
    go_wp2
    go_region_held (fun w' => w'.cell? ⟨w.heap.size, 0, none⟩ = some (.int .i64 a) ∧ w'.cell? ⟨w.heap.size, 1, none⟩ = some (.int .i64 b) ∧ w'.cell? ⟨w.heap.size, 3, none⟩ = some (.int .i64 c) ∧ w'.cell? ⟨w.heap.size, 4, none⟩ = some (.int .i64 d) ∧ w'.cell? ⟨w.heap.size, 6, none⟩ = some (.int .i64 g) ∧ w.heap.size < w'.heap.size ∧ Below w.heap.size w w')
      (first | with_reducible assumption | exact keep7 hb2 (by with_reducible assumption) | exact keep7a (by with_reducible assumption) | exact ⟨by simp [go_sem], by simp [go_sem], by simp [go_sem], by simp [go_sem], by simp [go_sem], by simp, ((Below.refl _ _).alloc (Nat.le_refl _) _).drew⟩)
      (first
        | (go_at_call_of 51 (Value.int IntKind.i64 a); refine (specIdText _ _ h1 h2 _).mono ?_; rintro e w1 ⟨rfl, hb2⟩; first | (have hx := cell_last hb2; (try simp only [World.size_alloc, World.size_drew] at hx); have kx := conv_at _ _ _ hx) | (have hx := cell_lastD hb2; (try simp only [World.size_alloc, World.size_drew] at hx); have kx := conv_at _ _ _ hx) | (have hx := cell_more hb2 hx; have kx := conv_at _ _ _ hx) | skip)
        | (go_at_call_of 51 (Value.int IntKind.i64 c); refine (specIdText _ _ h3 h4 _).mono ?_; rintro e w1 ⟨rfl, hb2⟩; first | (have hx := cell_last hb2; (try simp only [World.size_alloc, World.size_drew] at hx); have kx := conv_at _ _ _ hx) | (have hx := cell_lastD hb2; (try simp only [World.size_alloc, World.size_drew] at hx); have kx := conv_at _ _ _ hx) | (have hx := cell_more hb2 hx; have kx := conv_at _ _ _ hx) | skip))
    all_goals
      rename_i hS
      have HB3 := hideIt hS.2.2.2.2.2.2
      clear hS
      go_wp2
      go_ret
      exact ⟨rfl, HB3.out⟩
  · have q5 : (⟨#[32, 112, 117, 116, 32]⟩ : ByteArray).size = 5 := rfl
    have q1 : (⟨#[32]⟩ : ByteArray).size = 1 := rfl
    have qs : (⟨#[114, 105, 103, 104, 116]⟩ : ByteArray).size = 5 := rfl
    have qg : (⟨#[UInt8.ofNat g.toNat]⟩ : ByteArray).size = 1 := rfl
    have k1 := add_str (idS a b) ⟨#[32, 112, 117, 116, 32]⟩ 5 5 (by first | omega | (simp only [ByteArray.size_append, q5, q1, qs, qg]; omega)) (by decide) (by omega)
    have k2 := add_str (idS a b ++ ⟨#[32, 112, 117, 116, 32]⟩) ⟨#[UInt8.ofNat g.toNat]⟩ 10 1 (by first | omega | (simp only [ByteArray.size_append, q5, q1, qs, qg]; omega)) (Nat.le_refl _) (by omega)
    have k3 := add_str (idS a b ++ ⟨#[32, 112, 117, 116, 32]⟩ ++ ⟨#[UInt8.ofNat g.toNat]⟩) ⟨#[32]⟩ 11 1 (by first | omega | (simp only [ByteArray.size_append, q5, q1, qs, qg]; omega)) (by decide) (by omega)
    have k4 := add_str (idS a b ++ ⟨#[32, 112, 117, 116, 32]⟩ ++ ⟨#[UInt8.ofNat g.toNat]⟩ ++ ⟨#[32]⟩) ⟨#[114, 105, 103, 104, 116]⟩ 12 5 (by first | omega | (simp only [ByteArray.size_append, q5, q1, qs, qg]; omega)) (by decide) (by omega)
    have k5 := add_str (idS a b ++ ⟨#[32, 112, 117, 116, 32]⟩ ++ ⟨#[UInt8.ofNat g.toNat]⟩ ++ ⟨#[32]⟩ ++ ⟨#[114, 105, 103, 104, 116]⟩) ⟨#[32]⟩ 17 1 (by first | omega | (simp only [ByteArray.size_append, q5, q1, qs, qg]; omega)) (by decide) (by omega)
    have k6 := add_str (idS a b ++ ⟨#[32, 112, 117, 116, 32]⟩ ++ ⟨#[UInt8.ofNat g.toNat]⟩ ++ ⟨#[32]⟩ ++ ⟨#[114, 105, 103, 104, 116]⟩ ++ ⟨#[32]⟩) (idS c d) 18 5 (by first | omega | (simp only [ByteArray.size_append, q5, q1, qs, qg]; omega)) z2 (by omega)
    have k7 := add_str (idS a b ++ ⟨#[32, 112, 117, 116, 32]⟩ ++ ⟨#[UInt8.ofNat g.toNat]⟩ ++ ⟨#[32]⟩ ++ ⟨#[114, 105, 103, 104, 116]⟩ ++ ⟨#[32]⟩ ++ idS c d) ⟨#[10]⟩ 23 1 (by first | omega | (simp only [ByteArray.size_append, q5, q1, qs, qg]; omega)) (by decide) (by omega)
    clear z1 z2 q5 q1 qs qg
    go_enter Tryd.func40, Tryd.ntmps40
    go_wp2
    go_region_held (fun w' => w'.cell? ⟨w.heap.size, 0, none⟩ = some (.int .i64 a) ∧ w'.cell? ⟨w.heap.size, 1, none⟩ = some (.int .i64 b) ∧ w'.cell? ⟨w.heap.size, 3, none⟩ = some (.int .i64 c) ∧ w'.cell? ⟨w.heap.size, 4, none⟩ = some (.int .i64 d) ∧ w'.cell? ⟨w.heap.size, 6, none⟩ = some (.int .i64 g) ∧ w.heap.size < w'.heap.size ∧ Below w.heap.size w w')
      (first | with_reducible assumption | exact keep7 hb2 (by with_reducible assumption) | exact keep7a (by with_reducible assumption) | exact ⟨by simp [go_sem], by simp [go_sem], by simp [go_sem], by simp [go_sem], by simp [go_sem], by simp, ((Below.refl _ _).alloc (Nat.le_refl _) _).drew⟩)
      (first
        | (go_at_call_of 51 (Value.int IntKind.i64 a); refine (specIdText _ _ h1 h2 _).mono ?_; rintro e w1 ⟨rfl, hb2⟩; first | (have hx := cell_last hb2; (try simp only [World.size_alloc, World.size_drew] at hx); have kx := conv_at _ _ _ hx) | (have hx := cell_lastD hb2; (try simp only [World.size_alloc, World.size_drew] at hx); have kx := conv_at _ _ _ hx) | (have hx := cell_more hb2 hx; have kx := conv_at _ _ _ hx) | skip)
        | (go_at_call_of 51 (Value.int IntKind.i64 c); refine (specIdText _ _ h3 h4 _).mono ?_; rintro e w1 ⟨rfl, hb2⟩; first | (have hx := cell_last hb2; (try simp only [World.size_alloc, World.size_drew] at hx); have kx := conv_at _ _ _ hx) | (have hx := cell_lastD hb2; (try simp only [World.size_alloc, World.size_drew] at hx); have kx := conv_at _ _ _ hx) | (have hx := cell_more hb2 hx; have kx := conv_at _ _ _ hx) | skip))
    all_goals
      rename_i hS
      have HB3 := hideIt hS.2.2.2.2.2.2
      clear hS
      go_wp2
      go_ret
      exact ⟨rfl, HB3.out⟩
end Go.Proofs.YtfjhecoihkbjhaaDoor
