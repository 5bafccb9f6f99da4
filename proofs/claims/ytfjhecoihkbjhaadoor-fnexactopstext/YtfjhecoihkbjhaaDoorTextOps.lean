/- Contracts of both OpsText. -/
import Derived.Test.YtfjhecoihkbjhaaDoorLine2
namespace Go.Proofs.YtfjhecoihkbjhaaDoor
open Go.RowKit
set_option linter.unusedSimpArgs false
set_option linter.unusedVariables false
attribute [local go_sem ↓] Go.wp_at_zero Go.wp_at_succ

/-- The line of a thing. -/
def lineS (o : Op7) : ByteArray := if o.k = 1 then putS o.a o.b o.c o.d o.s o.g else takeS o.a o.b o.c o.d
theorem sideS_size (s : Int) : (sideS s).size ≤ 5 := by
  unfold sideS
  split <;> decide
theorem lineS_size (o : Op7) : (lineS o).size ≤ 24 := by
  have z1 := idS_size o.a o.b
  have z2 := idS_size o.c o.d
  have z3 := sideS_size o.s
  have q1 : (⟨#[32]⟩ : ByteArray).size = 1 := rfl
  have q2 : (⟨#[10]⟩ : ByteArray).size = 1 := rfl
  have q5 : (⟨#[32, 112, 117, 116, 32]⟩ : ByteArray).size = 5 := rfl
  have q6 : (⟨#[32, 116, 97, 107, 101, 32]⟩ : ByteArray).size = 6 := rfl
  have qg : (sgnS o.g).size = 1 := rfl
  unfold lineS
  split
  · unfold putS; simp only [ByteArray.size_append, q1, q2, q5, qg]; omega
  · unfold takeS; simp only [ByteArray.size_append, q2, q6]; omega
/-- The lines of the first k things. -/
def textTo (l : List Op7) (k : Nat) : ByteArray := (l.take k).foldl (fun s o => s ++ lineS o) ⟨#[]⟩
theorem textTo_zero (l : List Op7) : textTo l 0 = ⟨#[]⟩ := rfl
theorem textTo_succ {l : List Op7} {k : Nat} (hk : k < l.length) : textTo l (k + 1) = textTo l k ++ lineS l[k] := by
  unfold textTo
  rw [List.take_succ_eq_append_getElem hk, List.foldl_append]
  rfl
theorem textTo_size (l : List Op7) : ∀ k, k ≤ l.length → (textTo l k).size ≤ 24 * k
  | 0, _ => by rw [textTo_zero]; decide
  | k + 1, h => by
    rw [textTo_succ (by omega), ByteArray.size_append]
    have h1 := textTo_size l k (by omega)
    have h2 := lineS_size (l[k]'(by omega))
    omega
/-- The text of what was done, if it is ok. -/
def textS (l : List Op7) : ByteArray := if opsB l = true then textTo l l.length else ⟨#[]⟩

theorem okO_put {o : Op7} (h : okO o = true) (hk : o.k = 1) : (0 ≤ o.a ∧ o.a ≤ 12) ∧ (0 ≤ o.b ∧ o.b ≤ 12) ∧ (0 ≤ o.c ∧ o.c ≤ 12) ∧ (0 ≤ o.d ∧ o.d ≤ 12) ∧ (o.s = 0 ∨ o.s = 1) ∧ 97 ≤ o.g ∧ o.g ≤ 122 := by
  unfold okO at h; rw [opB_true] at h
  omega
theorem okO_take {o : Op7} (h : okO o = true) (hk : o.k = 2) : (0 ≤ o.a ∧ o.a ≤ 12) ∧ (0 ≤ o.b ∧ o.b ≤ 12) ∧ (0 ≤ o.c ∧ o.c ≤ 12) ∧ (0 ≤ o.d ∧ o.d ≤ 12) := by
  unfold okO at h; rw [opB_true] at h
  omega

theorem specLine (o : Op7) (h : okO o = true) (w : World) :
    Calls Tryd.prog 40 #[.agg #[.int .i64 o.a, .int .i64 o.b, .int .i64 o.k, .int .i64 o.c, .int .i64 o.d, .int .i64 o.s, .int .i64 o.g]] w fun e w' => e = .returned (.string (lineS o)) ∧ Below w.heap.size w w' := by
  rcases thV_cases h with ⟨-, h2⟩ | ⟨-, h2⟩
  · obtain ⟨ha, hb, hc, hd, hs, hg1, hg2⟩ := okO_put h h2
    unfold lineS
    rw [if_pos h2, h2]
    exact specText_put _ _ _ _ _ _ ha hb hc hd hs hg1 hg2 w
  · obtain ⟨ha, hb, hc, hd⟩ := okO_take h h2
    unfold lineS
    rw [if_neg (by omega), h2]
    exact specText_take _ _ _ _ _ _ ha hb hc hd w

theorem implLine (o : Op7) (h : okO o = true) (w : World) :
    Calls Tryd.prog 41 #[thV o] w fun e w' => e = .returned (.string (lineS o)) ∧ Below w.heap.size w w' := by
  rcases thV_cases h with ⟨h1, h2⟩ | ⟨h1, h2⟩
  · obtain ⟨ha, hb, hc, hd, hs, hg1, hg2⟩ := okO_put h h2
    unfold lineS
    rw [if_pos h2, h1]
    refine (line_put _ _ _ _ _ _ ha hb hc hd hs hg1 hg2 w).mono ?_
    rintro e w1 ⟨rfl, hb1⟩
    refine ⟨ret_str ?_, hb1⟩
    unfold putS sgnS
    simp only [← ByteArray.append_assoc]
    have : (⟨#[32, 112, 117, 116, 32]⟩ : ByteArray) = ⟨#[32]⟩ ++ ⟨#[112, 117, 116, 32]⟩ := by decide
    rw [this]
    simp only [← ByteArray.append_assoc]
  · obtain ⟨ha, hb, hc, hd⟩ := okO_take h h2
    unfold lineS
    rw [if_neg (by omega), h1]
    refine (line_take _ _ _ _ ha hb hc hd w).mono ?_
    rintro e w1 ⟨rfl, hb1⟩
    refine ⟨ret_str ?_, hb1⟩
    unfold takeS
    have : (⟨#[32, 116, 97, 107, 101, 32]⟩ : ByteArray) = ⟨#[32]⟩ ++ ⟨#[116, 97, 107, 101]⟩ ++ ⟨#[32]⟩ := by decide
    rw [this]
    simp only [← ByteArray.append_assoc]

set_option maxRecDepth 100000 in
set_option maxHeartbeats 2000000 in
theorem specText_any (l : List Op7) (g cap : Nat) (w : World) (hl : OpsAt w g l) (hn : l.length ≤ 1048576) (hcap : l.length ≤ cap) :
    Calls Tryd.prog 25 #[.slice (some ⟨g, 0, none⟩) l.length cap] w fun e w' => e = .returned (.string (textS l)) ∧ Below w.heap.size w w' := by
  have HL0 := hideIt hl
  have hgw := hl.1
  clear hl
  cases ho : opsB l
  all_goals
    have HO := hideIt ho
    clear ho
    go_enter Tryd.func25, Tryd.ntmps25
    go_wp2_with fail
    refine (specOps_any l _ _ _ HL0.out hn hcap).mono ?_
    rintro e w1 ⟨rfl, hb1⟩
    rw [HO.out]
    have HB1 := hideIt hb1
    clear hb1
  · go_wp2
    go_ret
    exact ⟨ret_str (by unfold textS; rw [HO.out]; rfl), HB1.out⟩
  · obtain ⟨hok, hord⟩ := opsB_parts HO.out
    have hlen := len_le hok hord
    have HOK := hideIt hok
    clear hok hord
    go_wp2
    go_loopw [3, 4] (fun s i wr => ∃ k : Nat, k ≤ l.length ∧ i = .int .i64 k ∧ s = .string (textTo l k) ∧ Below w.heap.size w wr)
      (fun _ i _ => l.length - (intOf i).toNat)
    case atStart => exact ⟨0, Nat.zero_le _, rfl, rfl, HB1.out⟩
    case round =>
      obtain ⟨k, hk, rfl, rfl, hB⟩ := hrel
      have HB := hideIt hB
      have HL := hideIt (HL0.out.below hB hgw)
      have hgr : g < wr.heap.size := HL.out.1
      clear hB
      by_cases hlt : k < l.length
      · obtain ⟨c0, c1, c2, c3, c4, c5, c6⟩ := HL.out.2 k l[k] (by simp [hlt])
        have hz := textTo_size l k hk
        have HS := hideIt (textTo_succ hlt)
        have HK := hideIt (all_iff.1 HOK.out k hlt)
        have ks := add_str (textTo l k) (lineS l[k]) (24 * k) 24 hz (lineS_size _) (by omega)
        generalize l[k] = o at *
        generalize hT : textTo l k = T at *
        clear hT hz
        have hlt' : (k : Int) < (l.length : Int) := by omega
        have hk0 : (0 : Int) ≤ (k : Int) := by omega
        go_wp2_with (first
          | (go_at_call 40; refine (specLine o HK.out _).mono ?_; rintro e w2 ⟨rfl, hb2⟩; have HB2 : Hid (Below w.heap.size w w2) := Bstep HB.out hb2; clear hb2))
        exact ⟨⟨k + 1, by omega, by go_num, by rw [HS.out], HB2.out⟩, by simp [intOf]; omega⟩
      · obtain rfl : k = l.length := by omega
        go_wp2
        go_ret
        exact ⟨ret_str (by unfold textS; rw [HO.out]; rfl), HB.out⟩

set_option maxRecDepth 100000 in
set_option maxHeartbeats 2000000 in
theorem implText_any (l : List Op7) (g cap : Nat) (x : Addr) (w : World) (hl : OpsAt w g l) (hn : l.length ≤ 1048576) (hcap : l.length ≤ cap)
    (he : w.cell? ⟨0, 0, none⟩ = some (.iface 117 (.pointer (some x)))) (h0 : 0 < w.heap.size) :
    Calls Tryd.prog 26 #[.slice (some ⟨g, 0, none⟩) l.length cap] w fun e w' => e = .returned (.string (textS l)) ∧ Below w.heap.size w w' := by
  have HL := hideIt hl
  clear hl
  go_enter Tryd.func26, Tryd.ntmps26
  go_wp2_with fail
  refine (things_any l g cap x _ HL.out hn hcap he h0).mono ?_
  rintro e w1 ⟨(⟨ht, M, hMM, rfl, hT⟩ | ⟨ht, rfl⟩), hb1⟩
  all_goals
    have HT := hideIt (ht.symm.trans (th_same l))
    have HB1 := hideIt hb1
    have herr1 : w1.cell? ⟨0, 0, none⟩ = some (.iface 117 (.pointer (some x))) := by rw [(bcell hb1).1 _ _ h0]; exact he
    clear ht hb1
  · have HTT := hideIt hT
    have hM1 : M < w1.heap.size := hT.1
    obtain ⟨hok, hord⟩ := opsB_parts HT.out.symm
    have hlen := len_le hok hord
    have HOK := hideIt hok
    clear hT hok hord
    go_wp2_with (first | (go_at_call 30; refine (is_nil x _).mono ?_; rintro e w'' ⟨rfl, rfl⟩))
    go_loopw [5, 18] (fun s i wr => ∃ k : Nat, k ≤ l.length ∧ i = .int .i64 k ∧ s = .string (textTo l k) ∧ Below w''.heap.size w'' wr)
      (fun _ i _ => l.length - (intOf i).toNat)
    case atStart => exact ⟨0, Nat.zero_le _, rfl, rfl, Below.refl _ _⟩
    case round =>
      obtain ⟨k, hk, rfl, rfl, hB⟩ := hrel
      have HB := hideIt hB
      have HTr := hideIt (HTT.out.below hB hM1)
      have hMr : M < wr.heap.size := HTr.out.1
      clear hB
      by_cases hlt : k < l.length
      · have c0 := HTr.out.2 k l[k] (by simp [hlt])
        have hz := textTo_size l k hk
        have HS := hideIt (textTo_succ hlt)
        have HK := hideIt (all_iff.1 HOK.out k hlt)
        have ks := add_str (textTo l k) (lineS l[k]) (24 * k) 24 hz (lineS_size _) (by omega)
        have HI := hideIt (implLine l[k] HK.out)
        have hcs := thV_cases HK.out
        generalize l[k] = o at *
        generalize hT : textTo l k = T at *
        clear hT hz
        have hlt' : (k : Int) < (l.length : Int) := by omega
        have hk0 : (0 : Int) ≤ (k : Int) := by omega
        rcases hcs with ⟨hth, -⟩ | ⟨hth, -⟩
        all_goals
          rw [hth] at c0 HI
          clear hth
          go_wp2_with (first
            | (go_at_call 41; refine (HI.out _).mono ?_; rintro e w2 ⟨rfl, hb2⟩; have HB2 : Hid (Below w''.heap.size w'' w2) := Bstep HB.out hb2; clear hb2))
          exact ⟨⟨k + 1, by omega, by go_num, by rw [HS.out], HB2.out⟩, by simp [intOf]; omega⟩
      · obtain rfl : k = l.length := by omega
        go_wp2
        go_ret
        exact ⟨ret_str (by unfold textS; rw [← HT.out]; rfl), Bstep HB1.out HB.out⟩
  · go_wp2_with (first | (go_at_call 30; refine (is_same x _).mono ?_; rintro e w'' ⟨rfl, rfl⟩))
    go_ret
    exact ⟨ret_str (by unfold textS; rw [← HT.out]; rfl), HB1.out⟩
end Go.Proofs.YtfjhecoihkbjhaaDoor
