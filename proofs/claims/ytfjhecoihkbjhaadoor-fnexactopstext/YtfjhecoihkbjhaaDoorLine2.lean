/- The contract of the program's line of a thing. -/
import Derived.Test.YtfjhecoihkbjhaaDoorLines1
import Derived.Test.YtfjhecoihkbjhaaDoorMeth
import Derived.Laws.Runes
namespace Go.Proofs.YtfjhecoihkbjhaaDoor
open Go.RowKit
set_option linter.unusedSimpArgs false
set_option linter.unusedVariables false
attribute [local go_sem ↓] Go.wp_at_zero Go.wp_at_succ

theorem Tryd.asTake (a b c d : Int) (w : World) : (Instr.typeAssert (.iface 71 (.agg #[.int .i64 a, .int .i64 b, .int .i64 c, .int .i64 d])) 51 71 true).run Tryd.prog w = .ok (.tuple #[.agg #[.int .i64 a, .int .i64 b, .int .i64 c, .int .i64 d], .bool true]) w := by kernel_rfl
theorem sideText0 (w : World) :
    Calls Tryd.prog 52 #[.int .i64 0] w fun e w' => e = .returned (.string ⟨#[108, 101, 102, 116]⟩) ∧ Below w.heap.size w w' := by
  go_enter Tryd.func52, Tryd.ntmps52
  go_wp2
  go_ret
  exact ⟨rfl, Below.refl _ _⟩
theorem sideText1 (w : World) :
    Calls Tryd.prog 52 #[.int .i64 1] w fun e w' => e = .returned (.string ⟨#[114, 105, 103, 104, 116]⟩) ∧ Below w.heap.size w w' := by
  go_enter Tryd.func52, Tryd.ntmps52
  go_wp2
  go_ret
  exact ⟨rfl, Below.refl _ _⟩

set_option maxRecDepth 100000 in
set_option maxHeartbeats 1000000 in
theorem line_take (a b c d : Int) (h1 : 0 ≤ a ∧ a ≤ 12) (h2 : 0 ≤ b ∧ b ≤ 12) (h3 : 0 ≤ c ∧ c ≤ 12) (h4 : 0 ≤ d ∧ d ≤ 12) (w : World) :
    Calls Tryd.prog 41 #[.iface 71 (.agg #[.int .i64 a, .int .i64 b, .int .i64 c, .int .i64 d])] w fun e w' => e = .returned (.string (idS a b ++ ⟨#[32]⟩ ++ ⟨#[116, 97, 107, 101]⟩ ++ ⟨#[32]⟩ ++ idS c d ++ ⟨#[10]⟩)) ∧ Below w.heap.size w w' := by
  have z1 := idS_size a b
  have z2 := idS_size c d
  have q1 : (⟨#[32]⟩ : ByteArray).size = 1 := rfl
  have q4 : (⟨#[116, 97, 107, 101]⟩ : ByteArray).size = 4 := rfl
  have k1 := add_str (idS a b) ⟨#[32]⟩ 5 1 z1 (Nat.le_of_eq q1) (by omega)
  have k2 := add_str (idS a b ++ ⟨#[32]⟩) ⟨#[116, 97, 107, 101]⟩ 6 4 (by simp only [ByteArray.size_append, q1]; omega) (Nat.le_of_eq q4) (by omega)
  have k3 := add_str (idS a b ++ ⟨#[32]⟩ ++ ⟨#[116, 97, 107, 101]⟩) ⟨#[32]⟩ 10 1 (by simp only [ByteArray.size_append, q1, q4]; omega) (Nat.le_of_eq q1) (by omega)
  have k4 := add_str (idS a b ++ ⟨#[32]⟩ ++ ⟨#[116, 97, 107, 101]⟩ ++ ⟨#[32]⟩) (idS c d) 11 5 (by simp only [ByteArray.size_append, q1, q4]; omega) z2 (by omega)
  have k5 := add_str (idS a b ++ ⟨#[32]⟩ ++ ⟨#[116, 97, 107, 101]⟩ ++ ⟨#[32]⟩ ++ idS c d) ⟨#[10]⟩ 16 1 (by simp only [ByteArray.size_append, q1, q4]; omega) (by decide) (by omega)
  clear z1 z2 q1 q4
  have as1 := Tryd.asNoPut
  have as2 := Tryd.asTake
  have mO := Tryd.ownTake
  have mA := Tryd.aboutTake
  go_enter Tryd.func41, Tryd.ntmps41
  go_wp2_with (first
    | (go_at_call 88; refine (own_any _ _ _ _ _).mono ?_; rintro e w1 ⟨rfl, hb⟩; have HC : Hid (Below w.heap.size w w1) := Bstep (by go_grown) hb; clear hb)
    | (go_at_call 87; refine (about_any _ _ _ _ _).mono ?_; rintro e w1 ⟨rfl, hb⟩; have HC : Hid (Below w.heap.size w w1) := Bstep HC.out hb; clear hb)
    | (go_at_call_of 53 (Value.int IntKind.i64 a); refine (implIdText _ _ h1 h2 _).mono ?_; rintro e w1 ⟨rfl, hb⟩; have HC : Hid (Below w.heap.size w w1) := Bstep HC.out hb; clear hb)
    | (go_at_call_of 53 (Value.int IntKind.i64 c); refine (implIdText _ _ h3 h4 _).mono ?_; rintro e w1 ⟨rfl, hb⟩; have HC : Hid (Below w.heap.size w w1) := Bstep HC.out hb; clear hb))
  go_ret
  exact ⟨rfl, HC.out⟩

theorem keep2 {w w1 w2 : World} {v4 v5 : Value} (hb : Below w1.heap.size w1 w2)
    (h : w1.cell? ⟨w.heap.size, 4, none⟩ = some v4 ∧ w1.cell? ⟨w.heap.size, 5, none⟩ = some v5 ∧ Below w.heap.size w w1) :
    w2.cell? ⟨w.heap.size, 4, none⟩ = some v4 ∧ w2.cell? ⟨w.heap.size, 5, none⟩ = some v5 ∧ Below w.heap.size w w2 := by
  obtain ⟨h4, h5, hB⟩ := h
  have hz := World.block_lt_of_cell? _ _ h4
  obtain ⟨hc, _⟩ := bcell hb
  exact ⟨(hc _ _ hz).trans h4, (hc _ _ hz).trans h5, Bstep hB hb⟩

theorem encode_letter (g : Int) (h1 : 97 ≤ g) (h2 : g ≤ 122) : Utf8.encode g = ⟨#[UInt8.ofNat g.toNat]⟩ := by
  have hc : g.toNat < 128 := by omega
  have hv : Utf8.valid g = true := by unfold Utf8.valid; simp; omega
  unfold Utf8.encode
  simp only [hv, if_true, hc]

set_option maxRecDepth 100000 in
set_option maxHeartbeats 2000000 in
theorem line_put (a b c d s g : Int) (h1 : 0 ≤ a ∧ a ≤ 12) (h2 : 0 ≤ b ∧ b ≤ 12) (h3 : 0 ≤ c ∧ c ≤ 12) (h4 : 0 ≤ d ∧ d ≤ 12) (hs : s = 0 ∨ s = 1) (hg1 : 97 ≤ g) (hg2 : g ≤ 122) (w : World) :
    Calls Tryd.prog 41 #[.iface 69 (.agg #[.int .i64 a, .int .i64 b, .int .i64 c, .int .i64 d, .int .i64 s, .int .i64 g])] w fun e w' => e = .returned (.string (idS a b ++ ⟨#[32]⟩ ++ (⟨#[112, 117, 116, 32]⟩ ++ ⟨#[UInt8.ofNat g.toNat]⟩ ++ ⟨#[32]⟩ ++ sideS s) ++ ⟨#[32]⟩ ++ idS c d ++ ⟨#[10]⟩)) ∧ Below w.heap.size w w' := by
  have z1 := idS_size a b
  have z2 := idS_size c d
  have hen := encode_letter g hg1 hg2
  have hr : IntKind.i32.wrap g = g := IntWalk.i32_in _ ⟨by omega, by omega⟩
  have as1 := Tryd.asPut
  have mO := Tryd.ownPut
  have mA := Tryd.aboutPut
  obtain rfl | rfl := hs
  · have qp : (⟨#[112, 117, 116, 32]⟩ : ByteArray).size = 4 := rfl
    have q1 : (⟨#[32]⟩ : ByteArray).size = 1 := rfl
    have qs : (⟨#[108, 101, 102, 116]⟩ : ByteArray).size = 4 := rfl
    have qg : (⟨#[UInt8.ofNat g.toNat]⟩ : ByteArray).size = 1 := rfl
    have k1 := add_str ⟨#[112, 117, 116, 32]⟩ ⟨#[UInt8.ofNat g.toNat]⟩ 4 1 (by decide) (Nat.le_refl _) (by omega)
    have k2 := add_str (⟨#[112, 117, 116, 32]⟩ ++ ⟨#[UInt8.ofNat g.toNat]⟩) ⟨#[32]⟩ 5 1 (by simp only [ByteArray.size_append, qp, q1, qs, qg]; omega) (by decide) (by omega)
    have k3 := add_str (⟨#[112, 117, 116, 32]⟩ ++ ⟨#[UInt8.ofNat g.toNat]⟩ ++ ⟨#[32]⟩) ⟨#[108, 101, 102, 116]⟩ 6 5 (by simp only [ByteArray.size_append, qp, q1, qs, qg]; omega) (by decide) (by omega)
    have k4 := add_str (idS a b) ⟨#[32]⟩ 5 1 z1 (by decide) (by omega)
    have k5 := add_str (idS a b ++ ⟨#[32]⟩) (⟨#[112, 117, 116, 32]⟩ ++ ⟨#[UInt8.ofNat g.toNat]⟩ ++ ⟨#[32]⟩ ++ ⟨#[108, 101, 102, 116]⟩) 6 11 (by simp only [ByteArray.size_append, qp, q1, qs, qg]; omega) (by simp only [ByteArray.size_append, qp, q1, qs, qg]; omega) (by omega)
    have k6 := add_str (idS a b ++ ⟨#[32]⟩ ++ (⟨#[112, 117, 116, 32]⟩ ++ ⟨#[UInt8.ofNat g.toNat]⟩ ++ ⟨#[32]⟩ ++ ⟨#[108, 101, 102, 116]⟩)) ⟨#[32]⟩ 17 1 (by simp only [ByteArray.size_append, qp, q1, qs, qg]; omega) (by decide) (by omega)
    have k7 := add_str (idS a b ++ ⟨#[32]⟩ ++ (⟨#[112, 117, 116, 32]⟩ ++ ⟨#[UInt8.ofNat g.toNat]⟩ ++ ⟨#[32]⟩ ++ ⟨#[108, 101, 102, 116]⟩) ++ ⟨#[32]⟩) (idS c d) 18 5 (by simp only [ByteArray.size_append, qp, q1, qs, qg]; omega) z2 (by omega)
    have k8 := add_str (idS a b ++ ⟨#[32]⟩ ++ (⟨#[112, 117, 116, 32]⟩ ++ ⟨#[UInt8.ofNat g.toNat]⟩ ++ ⟨#[32]⟩ ++ ⟨#[108, 101, 102, 116]⟩) ++ ⟨#[32]⟩ ++ idS c d) ⟨#[10]⟩ 23 1 (by simp only [ByteArray.size_append, qp, q1, qs, qg]; omega) (by decide) (by omega)
    clear z1 z2 qp q1 qs qg
    have hss : sideS 0 = ⟨#[108, 101, 102, 116]⟩ := rfl
    go_enter Tryd.func41, Tryd.ntmps41
    go_wp2
    go_region_held (fun w' => w'.cell? ⟨w.heap.size, 4, none⟩ = some (.int .i64 0) ∧ w'.cell? ⟨w.heap.size, 5, none⟩ = some (.int .i64 g) ∧ Below w.heap.size w w')
      (first | with_reducible assumption | exact keep2 hb2 (by with_reducible assumption) | exact ⟨by simp [go_sem], by simp [go_sem], by go_grown⟩)
      (first | (go_at_call 52; refine (sideText0 _).mono ?_; rintro e w1 ⟨rfl, hb2⟩))
    rename_i hS
    have HC := hideIt hS.2.2
    clear hS
    go_wp2_with (first
      | (go_at_call 88; refine (own_any _ _ _ _ _).mono ?_; rintro e w1 ⟨rfl, hb⟩; have HC : Hid (Below w.heap.size w w1) := Bstep HC.out hb; clear hb)
      | (go_at_call 87; refine (about_any _ _ _ _ _).mono ?_; rintro e w1 ⟨rfl, hb⟩; have HC : Hid (Below w.heap.size w w1) := Bstep HC.out hb; clear hb)
      | (go_at_call_of 53 (Value.int IntKind.i64 a); refine (implIdText _ _ h1 h2 _).mono ?_; rintro e w1 ⟨rfl, hb⟩; have HC : Hid (Below w.heap.size w w1) := Bstep HC.out hb; clear hb)
      | (go_at_call_of 53 (Value.int IntKind.i64 c); refine (implIdText _ _ h3 h4 _).mono ?_; rintro e w1 ⟨rfl, hb⟩; have HC : Hid (Below w.heap.size w w1) := Bstep HC.out hb; clear hb))
    go_ret
    exact ⟨rfl, HC.out⟩
  · have qp : (⟨#[112, 117, 116, 32]⟩ : ByteArray).size = 4 := rfl
    have q1 : (⟨#[32]⟩ : ByteArray).size = 1 := rfl
    have qs : (⟨#[114, 105, 103, 104, 116]⟩ : ByteArray).size = 5 := rfl
    have qg : (⟨#[UInt8.ofNat g.toNat]⟩ : ByteArray).size = 1 := rfl
    have k1 := add_str ⟨#[112, 117, 116, 32]⟩ ⟨#[UInt8.ofNat g.toNat]⟩ 4 1 (by decide) (Nat.le_refl _) (by omega)
    have k2 := add_str (⟨#[112, 117, 116, 32]⟩ ++ ⟨#[UInt8.ofNat g.toNat]⟩) ⟨#[32]⟩ 5 1 (by simp only [ByteArray.size_append, qp, q1, qs, qg]; omega) (by decide) (by omega)
    have k3 := add_str (⟨#[112, 117, 116, 32]⟩ ++ ⟨#[UInt8.ofNat g.toNat]⟩ ++ ⟨#[32]⟩) ⟨#[114, 105, 103, 104, 116]⟩ 6 5 (by simp only [ByteArray.size_append, qp, q1, qs, qg]; omega) (by decide) (by omega)
    have k4 := add_str (idS a b) ⟨#[32]⟩ 5 1 z1 (by decide) (by omega)
    have k5 := add_str (idS a b ++ ⟨#[32]⟩) (⟨#[112, 117, 116, 32]⟩ ++ ⟨#[UInt8.ofNat g.toNat]⟩ ++ ⟨#[32]⟩ ++ ⟨#[114, 105, 103, 104, 116]⟩) 6 11 (by simp only [ByteArray.size_append, qp, q1, qs, qg]; omega) (by simp only [ByteArray.size_append, qp, q1, qs, qg]; omega) (by omega)
    have k6 := add_str (idS a b ++ ⟨#[32]⟩ ++ (⟨#[112, 117, 116, 32]⟩ ++ ⟨#[UInt8.ofNat g.toNat]⟩ ++ ⟨#[32]⟩ ++ ⟨#[114, 105, 103, 104, 116]⟩)) ⟨#[32]⟩ 17 1 (by simp only [ByteArray.size_append, qp, q1, qs, qg]; omega) (by decide) (by omega)
    have k7 := add_str (idS a b ++ ⟨#[32]⟩ ++ (⟨#[112, 117, 116, 32]⟩ ++ ⟨#[UInt8.ofNat g.toNat]⟩ ++ ⟨#[32]⟩ ++ ⟨#[114, 105, 103, 104, 116]⟩) ++ ⟨#[32]⟩) (idS c d) 18 5 (by simp only [ByteArray.size_append, qp, q1, qs, qg]; omega) z2 (by omega)
    have k8 := add_str (idS a b ++ ⟨#[32]⟩ ++ (⟨#[112, 117, 116, 32]⟩ ++ ⟨#[UInt8.ofNat g.toNat]⟩ ++ ⟨#[32]⟩ ++ ⟨#[114, 105, 103, 104, 116]⟩) ++ ⟨#[32]⟩ ++ idS c d) ⟨#[10]⟩ 23 1 (by simp only [ByteArray.size_append, qp, q1, qs, qg]; omega) (by decide) (by omega)
    clear z1 z2 qp q1 qs qg
    have hss : sideS 1 = ⟨#[114, 105, 103, 104, 116]⟩ := rfl
    go_enter Tryd.func41, Tryd.ntmps41
    go_wp2
    go_region_held (fun w' => w'.cell? ⟨w.heap.size, 4, none⟩ = some (.int .i64 1) ∧ w'.cell? ⟨w.heap.size, 5, none⟩ = some (.int .i64 g) ∧ Below w.heap.size w w')
      (first | with_reducible assumption | exact keep2 hb2 (by with_reducible assumption) | exact ⟨by simp [go_sem], by simp [go_sem], by go_grown⟩)
      (first | (go_at_call 52; refine (sideText1 _).mono ?_; rintro e w1 ⟨rfl, hb2⟩))
    rename_i hS
    have HC := hideIt hS.2.2
    clear hS
    go_wp2_with (first
      | (go_at_call 88; refine (own_any _ _ _ _ _).mono ?_; rintro e w1 ⟨rfl, hb⟩; have HC : Hid (Below w.heap.size w w1) := Bstep HC.out hb; clear hb)
      | (go_at_call 87; refine (about_any _ _ _ _ _).mono ?_; rintro e w1 ⟨rfl, hb⟩; have HC : Hid (Below w.heap.size w w1) := Bstep HC.out hb; clear hb)
      | (go_at_call_of 53 (Value.int IntKind.i64 a); refine (implIdText _ _ h1 h2 _).mono ?_; rintro e w1 ⟨rfl, hb⟩; have HC : Hid (Below w.heap.size w w1) := Bstep HC.out hb; clear hb)
      | (go_at_call_of 53 (Value.int IntKind.i64 c); refine (implIdText _ _ h3 h4 _).mono ?_; rintro e w1 ⟨rfl, hb⟩; have HC : Hid (Below w.heap.size w w1) := Bstep HC.out hb; clear hb))
    go_ret
    exact ⟨rfl, HC.out⟩
end Go.Proofs.YtfjhecoihkbjhaaDoor
