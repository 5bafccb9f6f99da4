/- The contract of refPlaces. -/
import Derived.Test.YtpkdadccapemcaaDoorPlace
import Derived.Test.YtpkdadccapemcaaDoorPutting
import Derived.Test.YtpkdadccapemcaaDoorCount
import Derived.Test.YtpkdadccapemcaaDoorOpOk
namespace Go.Proofs.YtpkdadccapemcaaDoor
open Go.RowKit
set_option linter.unusedSimpArgs false
set_option linter.unusedVariables false

/-- Where what a thing refers to stands, by how much each did. -/
def plc (l : List Op7) (o : Op7) : Int := placeI (cnt l 1) (cnt l 2) (cnt l 3) o.c o.d
/-- What a thing refers to is nothing, or was put, by its place. -/
def refI (l : List Op7) (o : Op7) : Bool := if plc l o < 0 then noB o.c o.d else (match l[(plc l o).toNat]? with | some p => p.k == 1 | none => false)
theorem cnt_sum (l : List Op7) : cnt l 1 + cnt l 2 + cnt l 3 ≤ l.length := by
  unfold cnt
  induction l with
  | nil => simp
  | cons o t ih =>
    simp only [List.countP_cons, List.length_cons, isRep]
    by_cases h1 : o.a = 1
    · simp [h1]; omega
    · by_cases h2 : o.a = 2
      · simp [h2]; omega
      · by_cases h3 : o.a = 3
        · simp [h3]; omega
        · simp [h1, h2, h3]; omega
theorem cnt_nonneg (l : List Op7) (r : Int) : 0 ≤ cnt l r := by unfold cnt; omega
theorem plc_lt (l : List Op7) (o : Op7) : -1 ≤ plc l o ∧ plc l o < l.length := by
  have h := cnt_sum l
  have h1 := cnt_nonneg l 1
  have h2 := cnt_nonneg l 2
  have h3 := cnt_nonneg l 3
  unfold plc placeI seenAt
  by_cases hc : idB o.c o.d = true ∧ o.d ≤ (if o.c = 1 then cnt l 1 else if o.c = 2 then cnt l 2 else cnt l 3)
  · rw [if_pos hc]
    obtain ⟨hid, hle⟩ := hc
    have := idB_true.1 hid
    by_cases e1 : o.c = 1
    · rw [if_pos e1] at hle ⊢; omega
    · by_cases e2 : o.c = 2
      · rw [if_neg e1, if_pos e2] at hle ⊢; omega
      · rw [if_neg e1, if_neg e2] at hle ⊢; omega
  · rw [if_neg hc]; omega
theorem ownsRow_below {w w' : World} {B base : Nat} {e : TypeId} {size : Nat} {v : Value} {n : Nat} {xs : List Value} (h : w.ownsRow base e size v n xs) (hb : Below B w w') (hv : ∀ k, v.ownBlock = some k → k < B) : w'.ownsRow base e size v n xs := by
  obtain ⟨h1, h2⟩ := h
  refine ⟨h1, ?_⟩
  rcases h2 with h2 | ⟨g, cap, cur, rfl, h3, h4, h5, h6, h7, h8⟩
  · exact .inl h2
  · exact .inr ⟨g, cap, cur, rfl, h3, (hb.block g (hv g rfl)).trans h4, h5, h6, h7, h8⟩
theorem ints_of_owns {w : World} {base M n cap : Nat} {xs : List Int} (hn : n = xs.length) (h : w.ownsRow base 3 1 (.slice (some ⟨M, 0, none⟩) n cap) n (xs.map (Value.int .i64))) : IntsAt w M xs := by
  subst hn
  refine ⟨(h.lt M rfl).2, fun i x hx => ?_⟩
  have hi : i < xs.length := (List.getElem?_eq_some_iff.1 hx).1
  rw [h.cellAt i (by omega)]
  simp [hx]

/-- Where the block of a slice of the call's own lies. -/
theorem own_lt {M n cap B : Nat} (h : M < B) : ∀ k, (Value.slice (some ⟨M, 0, none⟩) n cap).ownBlock = some k → k < B := fun k hk => by
  simp [Value.ownBlock] at hk; omega

set_option maxRecDepth 100000 in
set_option maxHeartbeats 4000000 in
theorem refs_any (l : List Op7) (g cap : Nat) (x : Addr) (w : World) (hl : ThingsAt w g l) (hn : l.length ≤ 36) (hcap : l.length ≤ cap) (hok : l.all okO = true)
    (he : w.cell? ⟨0, 0, none⟩ = some (.iface 127 (.pointer (some x)))) (h0 : 0 < w.heap.size) :
    Calls Tryd.prog 56 #[.slice (some ⟨g, 0, none⟩) l.length cap] w fun e w' =>
      ((l.all (refI l) = true ∧ ∃ M, e = .returned (.tuple #[.slice (some ⟨M, 0, none⟩) l.length l.length, .nilIface]) ∧ IntsAt w' M (l.map (plc l))) ∨
       (l.all (refI l) = false ∧ e = .returned (.tuple #[.slice none 0 0, .iface 127 (.pointer (some x))]))) ∧ Below w.heap.size w w' := by
  have hgw : g < w.heap.size := hl.1
  have HL0 : Hid (ThingsAt w g l) := hl
  have HO : Hid (l.all okO = true) := hok
  have HS := hideIt (cnt_sum l)
  have HP1 := cnt_nonneg l 1
  have HP2 := cnt_nonneg l 2
  have HP3 := cnt_nonneg l 3
  have b1 : Hid ((0 ≤ cnt l 1 ∧ cnt l 1 ≤ 1048576) ∧ (0 ≤ cnt l 2 ∧ cnt l 2 ≤ 1048576)) := by
    have := HS.out
    exact ⟨⟨by omega, by omega⟩, ⟨by omega, by omega⟩⟩
  clear hl hok HP1 HP2 HP3
  obtain ⟨i0, hi, hz0, hz1, hz2⟩ := info_parts infoInt
  have HI := hideIt hi
  have HZ0 := hideIt hz0
  have HZ1 := hideIt hz1
  have HZ2 := hideIt hz2
  clear hi hz0 hz1 hz2
  go_enter Tryd.func56, Tryd.ntmps56
  go_wp2_with (first
    | (go_at_call 62; refine (count_any l g cap _ HL0.out (by omega) hcap HO.out).mono ?_; rintro e w1 ⟨rfl, hseen, hfz1, hb1⟩; have HSE := hideIt hseen; have HB1 := hideIt hb1; have hz1 : w.heap.size < w1.heap.size := hseen.1; clear hseen hfz1 hb1)
    | (at_make; refine wpList_make_own _ rfl _ _ 105 rfl w1.heap.size 3 i0 _ 1 Tryd.underlying105 HI.out HZ0.out HZ1.out .i64 .i64 _ l.length rfl rfl rfl (by rw [HZ2.out]; omega) (by unfold maxLen; omega) (Nat.le_refl _) ?_; intro w2 hown hgrow))
  have hB2 : Below w1.heap.size w1 w2 := (Below.refl _ _).grown hgrow (Nat.le_refl _) (fun k h => by cases h)
  have hM : w1.heap.size < w2.heap.size := (hown.lt _ rfl).2
  have HS2 := hideIt (HSE.out.below hB2 hz1)
  have HB2 := hideIt (Bstep HB1.out hB2)
  generalize hMM : w1.heap.size = M at *
  have hMw : w.heap.size < M := hz1
  clear hgrow HSE HB1 hB2 hMM hz1
  go_loopw [5, 16] (fun v i wr => ∃ k : Nat, k ≤ l.length ∧ i = .int .i64 k ∧ v = .slice (some ⟨M, 0, none⟩) k l.length ∧ (∀ j (hj : j < l.length), j < k → refI l l[j] = true) ∧ wr.ownsRow M 3 1 (.slice (some ⟨M, 0, none⟩) k l.length) k (((l.take k).map (plc l)).map (Value.int .i64)) ∧ IntsAt wr w.heap.size [cnt l 1, cnt l 2, cnt l 3] ∧ Below w.heap.size w wr)
    (fun _ i _ => l.length - (intOf i).toNat)
  case atStart => exact ⟨0, Nat.zero_le _, rfl, rfl, fun j hj h => by omega, by simpa using hown, HS2.out, HB2.out⟩
  case round =>
    obtain ⟨k, hk, rfl, rfl, hno, hown', hse, hB⟩ := hrel
    have HN := hideIt hno
    have HW := hideIt hown'
    have HSE := hideIt hse
    have HB := hideIt hB
    have hMr : M < wr.heap.size := (hown'.lt _ rfl).2
    have hsr : w.heap.size < wr.heap.size := hse.1
    have HL := hideIt (HL0.out.below hB hgw)
    have hgr : g < wr.heap.size := HL.out.1
    clear hno hown' hse hB hown HS2 HB2
    by_cases hlt : k < l.length
    · have hth := HL.out.2 k l[k] (by simp [hlt])
      have hp0 : 0 < wr.heap.size := by omega
      have herr : wr.cell? ⟨0, 0, none⟩ = some (.iface 127 (.pointer (some x))) := by rw [(bcell HB.out).1 _ _ h0]; exact he
      have HC : Hid (Below wr.heap.size wr wr) := Below.refl _ _
      have hmap : Hid (((l.take (k + 1)).map (plc l)).map (Value.int .i64) = ((l.take k).map (plc l)).map (Value.int .i64) ++ [.int .i64 (plc l l[k])]) := by
        show ((l.take (k + 1)).map (plc l)).map (Value.int .i64) = _
        rw [List.take_succ_eq_append_getElem hlt, List.map_append, List.map_append]; rfl
      have hnext : Hid (refI l l[k] = true → ∀ j (hj : j < l.length), j < k + 1 → refI l l[j] = true) := fun hf j hj hj1 => by
        rcases Nat.lt_or_ge j k with h | h
        · exact HN.out j hj h
        · obtain rfl : j = k := by omega
          exact hf
      have hbadr : Hid (refI l l[k] = false → l.all (refI l) = false) := fun h => all_false hlt h
      obtain ⟨pv0, pv1⟩ := plc_lt l l[k]
      have HPV : Hid (placeI (cnt l 1) (cnt l 2) (cnt l 3) l[k].c l[k].d = plc l l[k]) := rfl
      have HRF : Hid (refI l l[k] = if plc l l[k] < 0 then noB l[k].c l[k].d else (match l[(plc l l[k]).toNat]? with | some p => p.k == 1 | none => false)) := rfl
      have hcs := thV_cases (all_iff.1 HO.out k hlt)
      generalize plc l l[k] = pv at *
      generalize l[k] = o at *
      obtain ⟨xa, xb, xk, xc, xd, xs, xg⟩ := o
      simp only at *
      have hlt' : (k : Int) < (l.length : Int) := by omega
      have hk0 : (0 : Int) ≤ (k : Int) := by omega
      have mA := Tryd.aboutPut
      have mB := Tryd.aboutTake
      by_cases hpn : pv < 0
      · have hge : decide (pv < 0) = true := decide_eq_true hpn
        cases hnb : noB xc xd
        · have HNB := hideIt hnb
          have HRI : Hid (refI l ⟨xa, xb, xk, xc, xd, xs, xg⟩ = false) := by show refI l _ = false; rw [HRF.out, if_pos hpn, HNB.out]
          clear hnb HRF
          rcases hcs with ⟨hc1, _⟩ | ⟨hc1, _⟩
          all_goals
            rw [hc1] at hth
            clear hc1
            go_wp2_with (first
              | (go_at_call 83; refine (about_any _ _ _ _ _).mono ?_; rintro e w' ⟨rfl, hb⟩; have HC := hideIt (Bstep HC.out hb); have hcg : ∀ o, w'.cell? ⟨g, o, none⟩ = wr.cell? ⟨g, o, none⟩ := (fun o => (bcell HC.out).1 _ _ hgr); have hcE : ∀ o, w'.cell? ⟨0, o, none⟩ = wr.cell? ⟨0, o, none⟩ := (fun o => (bcell HC.out).1 _ _ hp0); clear hb)
              | (go_at_call 63; refine (place_any _ _ _ _ _ _ _ (HSE.out.below HC.out hsr) b1.out.1 b1.out.2).mono ?_; rintro e w' ⟨rfl, hb⟩; rw [HPV.out]; have HC := hideIt (Bstep HC.out hb); have hcg : ∀ o, w'.cell? ⟨g, o, none⟩ = wr.cell? ⟨g, o, none⟩ := (fun o => (bcell HC.out).1 _ _ hgr); have hcE : ∀ o, w'.cell? ⟨0, o, none⟩ = wr.cell? ⟨0, o, none⟩ := (fun o => (bcell HC.out).1 _ _ hp0); clear hb)
              | (go_at_call 64; refine (nothing_any _ _ _).mono ?_; rintro e w' ⟨rfl, hb⟩; rw [HNB.out]; have HC := hideIt (Bstep HC.out hb); have hcg : ∀ o, w'.cell? ⟨g, o, none⟩ = wr.cell? ⟨g, o, none⟩ := (fun o => (bcell HC.out).1 _ _ hgr); have hcE : ∀ o, w'.cell? ⟨0, o, none⟩ = wr.cell? ⟨0, o, none⟩ := (fun o => (bcell HC.out).1 _ _ hp0); clear hb)
              | (go_at_call 65; refine (isPut_any _ HOP.out _).mono ?_; rintro e w' ⟨rfl, rfl⟩; rw [HNB.out])
              | (at_builtin; refine wpList_append_fits _ rfl _ _ 105 rfl M 3 i0 1 Tryd.underlying105 HI.out HZ1.out M k l.length (((l.take k).map (plc l)).map (Value.int .i64)) rfl (ownsRow_below HW.out (HC.out.trans ((Below.refl _ _).alloc HC.out.size _)) (own_lt hMr)) _ 1 1 [.int .i64 pv] rfl rfl (by rintro (_ | j) u hu <;> simp at hu; subst hu; simp [Addr.add, go_sem]) (by simp [Value.oneCell']) (by omega) ?_; intro w4 hown4 hgrow4))
            go_region
            go_wp2
            go_ret2
            exact ⟨.inr ⟨hbadr.out HRI.out, rfl⟩, by have := Bstep HB.out HC.out; go_grown⟩
        · have HNB := hideIt hnb
          have HRI : Hid (refI l ⟨xa, xb, xk, xc, xd, xs, xg⟩ = true) := by show refI l _ = true; rw [HRF.out, if_pos hpn, HNB.out]
          clear hnb HRF
          rcases hcs with ⟨hc1, _⟩ | ⟨hc1, _⟩
          all_goals
            rw [hc1] at hth
            clear hc1
            go_wp2_with (first
              | (go_at_call 83; refine (about_any _ _ _ _ _).mono ?_; rintro e w' ⟨rfl, hb⟩; have HC := hideIt (Bstep HC.out hb); have hcg : ∀ o, w'.cell? ⟨g, o, none⟩ = wr.cell? ⟨g, o, none⟩ := (fun o => (bcell HC.out).1 _ _ hgr); have hcE : ∀ o, w'.cell? ⟨0, o, none⟩ = wr.cell? ⟨0, o, none⟩ := (fun o => (bcell HC.out).1 _ _ hp0); clear hb)
              | (go_at_call 63; refine (place_any _ _ _ _ _ _ _ (HSE.out.below HC.out hsr) b1.out.1 b1.out.2).mono ?_; rintro e w' ⟨rfl, hb⟩; rw [HPV.out]; have HC := hideIt (Bstep HC.out hb); have hcg : ∀ o, w'.cell? ⟨g, o, none⟩ = wr.cell? ⟨g, o, none⟩ := (fun o => (bcell HC.out).1 _ _ hgr); have hcE : ∀ o, w'.cell? ⟨0, o, none⟩ = wr.cell? ⟨0, o, none⟩ := (fun o => (bcell HC.out).1 _ _ hp0); clear hb)
              | (go_at_call 64; refine (nothing_any _ _ _).mono ?_; rintro e w' ⟨rfl, hb⟩; rw [HNB.out]; have HC := hideIt (Bstep HC.out hb); have hcg : ∀ o, w'.cell? ⟨g, o, none⟩ = wr.cell? ⟨g, o, none⟩ := (fun o => (bcell HC.out).1 _ _ hgr); have hcE : ∀ o, w'.cell? ⟨0, o, none⟩ = wr.cell? ⟨0, o, none⟩ := (fun o => (bcell HC.out).1 _ _ hp0); clear hb)
              | (go_at_call 65; refine (isPut_any _ HOP.out _).mono ?_; rintro e w' ⟨rfl, rfl⟩; rw [HNB.out])
              | (at_builtin; refine wpList_append_fits _ rfl _ _ 105 rfl M 3 i0 1 Tryd.underlying105 HI.out HZ1.out M k l.length (((l.take k).map (plc l)).map (Value.int .i64)) rfl (ownsRow_below HW.out (HC.out.trans ((Below.refl _ _).alloc HC.out.size _)) (own_lt hMr)) _ 1 1 [.int .i64 pv] rfl rfl (by rintro (_ | j) u hu <;> simp at hu; subst hu; simp [Addr.add, go_sem]) (by simp [Value.oneCell']) (by omega) ?_; intro w4 hown4 hgrow4))
            have hB4 : Below w.heap.size w w4 := ((Bstep HB.out HC.out).alloc (by have := HC.out.size; omega) _).grown hgrow4 (by have := HC.out.size; simp; omega) (fun k h => by cases h; omega)
            have hS4 : IntsAt w4 w.heap.size [cnt l 1, cnt l 2, cnt l 3] := by
              refine (HSE.out.below (B := M) ?_ hMw)
              exact ((HC.out.mono (by omega)).alloc (by have := HC.out.size; omega) _).grown hgrow4 (by have := HC.out.size; simp; omega) (fun k h => by cases h; omega)
            exact ⟨⟨k + 1, by omega, by go_num, rfl, hnext.out HRI.out, by rw [hmap.out]; exact hown4, hS4, hB4⟩, by simp [intOf]; omega⟩
      · obtain ⟨n, rfl⟩ := Int.eq_ofNat_of_zero_le (show 0 ≤ pv by omega)
        have hn1 : n < l.length := by omega
        have hn2 : (n : Int) < (l.length : Int) := by omega
        have hn0 : (0 : Int) ≤ (n : Int) := by omega
        have hpt := HL.out.2 n l[n] (by simp [hn1])
        have HOP := hideIt (all_iff.1 HO.out n hn1)
        have HRF2 : Hid (refI l ⟨xa, xb, xk, xc, xd, xs, xg⟩ = (l[n].k == 1)) := by show refI l _ = _; rw [HRF.out, if_neg hpn]; simp [hn1]
        generalize l[n] = p at *
        cases hnb : (p.k == 1)
        · have HNB := hideIt hnb
          have HRI : Hid (refI l ⟨xa, xb, xk, xc, xd, xs, xg⟩ = false) := by show refI l _ = false; rw [HRF2.out, HNB.out]
          clear hnb HRF HRF2
          rcases hcs with ⟨hc1, _⟩ | ⟨hc1, _⟩
          all_goals
            rw [hc1] at hth
            clear hc1
            go_wp2_with (first
              | (go_at_call 83; refine (about_any _ _ _ _ _).mono ?_; rintro e w' ⟨rfl, hb⟩; have HC := hideIt (Bstep HC.out hb); have hcg : ∀ o, w'.cell? ⟨g, o, none⟩ = wr.cell? ⟨g, o, none⟩ := (fun o => (bcell HC.out).1 _ _ hgr); have hcE : ∀ o, w'.cell? ⟨0, o, none⟩ = wr.cell? ⟨0, o, none⟩ := (fun o => (bcell HC.out).1 _ _ hp0); clear hb)
              | (go_at_call 63; refine (place_any _ _ _ _ _ _ _ (HSE.out.below HC.out hsr) b1.out.1 b1.out.2).mono ?_; rintro e w' ⟨rfl, hb⟩; rw [HPV.out]; have HC := hideIt (Bstep HC.out hb); have hcg : ∀ o, w'.cell? ⟨g, o, none⟩ = wr.cell? ⟨g, o, none⟩ := (fun o => (bcell HC.out).1 _ _ hgr); have hcE : ∀ o, w'.cell? ⟨0, o, none⟩ = wr.cell? ⟨0, o, none⟩ := (fun o => (bcell HC.out).1 _ _ hp0); clear hb)
              | (go_at_call 64; refine (nothing_any _ _ _).mono ?_; rintro e w' ⟨rfl, hb⟩; rw [HNB.out]; have HC := hideIt (Bstep HC.out hb); have hcg : ∀ o, w'.cell? ⟨g, o, none⟩ = wr.cell? ⟨g, o, none⟩ := (fun o => (bcell HC.out).1 _ _ hgr); have hcE : ∀ o, w'.cell? ⟨0, o, none⟩ = wr.cell? ⟨0, o, none⟩ := (fun o => (bcell HC.out).1 _ _ hp0); clear hb)
              | (go_at_call 65; refine (isPut_any _ HOP.out _).mono ?_; rintro e w' ⟨rfl, rfl⟩; rw [HNB.out])
              | (at_builtin; refine wpList_append_fits _ rfl _ _ 105 rfl M 3 i0 1 Tryd.underlying105 HI.out HZ1.out M k l.length (((l.take k).map (plc l)).map (Value.int .i64)) rfl (ownsRow_below HW.out (HC.out.trans ((Below.refl _ _).alloc HC.out.size _)) (own_lt hMr)) _ 1 1 [.int .i64 (n : Int)] rfl rfl (by rintro (_ | j) u hu <;> simp at hu; subst hu; simp [Addr.add, go_sem]) (by simp [Value.oneCell']) (by omega) ?_; intro w4 hown4 hgrow4))
            go_region
            go_wp2
            go_ret2
            exact ⟨.inr ⟨hbadr.out HRI.out, rfl⟩, by have := Bstep HB.out HC.out; go_grown⟩
        · have HNB := hideIt hnb
          have HRI : Hid (refI l ⟨xa, xb, xk, xc, xd, xs, xg⟩ = true) := by show refI l _ = true; rw [HRF2.out, HNB.out]
          clear hnb HRF HRF2
          rcases hcs with ⟨hc1, _⟩ | ⟨hc1, _⟩
          all_goals
            rw [hc1] at hth
            clear hc1
            go_wp2_with (first
              | (go_at_call 83; refine (about_any _ _ _ _ _).mono ?_; rintro e w' ⟨rfl, hb⟩; have HC := hideIt (Bstep HC.out hb); have hcg : ∀ o, w'.cell? ⟨g, o, none⟩ = wr.cell? ⟨g, o, none⟩ := (fun o => (bcell HC.out).1 _ _ hgr); have hcE : ∀ o, w'.cell? ⟨0, o, none⟩ = wr.cell? ⟨0, o, none⟩ := (fun o => (bcell HC.out).1 _ _ hp0); clear hb)
              | (go_at_call 63; refine (place_any _ _ _ _ _ _ _ (HSE.out.below HC.out hsr) b1.out.1 b1.out.2).mono ?_; rintro e w' ⟨rfl, hb⟩; rw [HPV.out]; have HC := hideIt (Bstep HC.out hb); have hcg : ∀ o, w'.cell? ⟨g, o, none⟩ = wr.cell? ⟨g, o, none⟩ := (fun o => (bcell HC.out).1 _ _ hgr); have hcE : ∀ o, w'.cell? ⟨0, o, none⟩ = wr.cell? ⟨0, o, none⟩ := (fun o => (bcell HC.out).1 _ _ hp0); clear hb)
              | (go_at_call 64; refine (nothing_any _ _ _).mono ?_; rintro e w' ⟨rfl, hb⟩; rw [HNB.out]; have HC := hideIt (Bstep HC.out hb); have hcg : ∀ o, w'.cell? ⟨g, o, none⟩ = wr.cell? ⟨g, o, none⟩ := (fun o => (bcell HC.out).1 _ _ hgr); have hcE : ∀ o, w'.cell? ⟨0, o, none⟩ = wr.cell? ⟨0, o, none⟩ := (fun o => (bcell HC.out).1 _ _ hp0); clear hb)
              | (go_at_call 65; refine (isPut_any _ HOP.out _).mono ?_; rintro e w' ⟨rfl, rfl⟩; rw [HNB.out])
              | (at_builtin; refine wpList_append_fits _ rfl _ _ 105 rfl M 3 i0 1 Tryd.underlying105 HI.out HZ1.out M k l.length (((l.take k).map (plc l)).map (Value.int .i64)) rfl (ownsRow_below HW.out (HC.out.trans ((Below.refl _ _).alloc HC.out.size _)) (own_lt hMr)) _ 1 1 [.int .i64 (n : Int)] rfl rfl (by rintro (_ | j) u hu <;> simp at hu; subst hu; simp [Addr.add, go_sem]) (by simp [Value.oneCell']) (by omega) ?_; intro w4 hown4 hgrow4))
            have hB4 : Below w.heap.size w w4 := ((Bstep HB.out HC.out).alloc (by have := HC.out.size; omega) _).grown hgrow4 (by have := HC.out.size; simp; omega) (fun k h => by cases h; omega)
            have hS4 : IntsAt w4 w.heap.size [cnt l 1, cnt l 2, cnt l 3] := by
              refine (HSE.out.below (B := M) ?_ hMw)
              exact ((HC.out.mono (by omega)).alloc (by have := HC.out.size; omega) _).grown hgrow4 (by have := HC.out.size; simp; omega) (fun k h => by cases h; omega)
            exact ⟨⟨k + 1, by omega, by go_num, rfl, hnext.out HRI.out, by rw [hmap.out]; exact hown4, hS4, hB4⟩, by simp [intOf]; omega⟩
    · obtain rfl : k = l.length := by omega
      go_wp2
      go_ret2
      exact ⟨.inl ⟨all_iff.2 fun j hj => HN.out j hj hj, M, rfl, ints_of_owns (base := M) (n := l.length) (cap := l.length) (by simp) (by have h := HW.out; rw [List.take_length] at h; exact h)⟩, HB.out⟩
end Go.Proofs.YtpkdadccapemcaaDoor
