/-
  PROVED: a run that is typed part by part is the run, cut anywhere, and of one letter it is that letter, put, whatever bytes what was done, who types, where and what are drawn from; and TypeRun answers as the specification's does (the given card of FnRunSplit), for every input; the one listed variable, the program's error, reads as its own initialiser lays it.
-/
import Derived.Test.YtedanlmippfojaaDoorP6
import Derived.Laws.AppendOwnNone
import Derived.Test.YtedanlmippfojaaDoorP3
import Derived.Test.YtedanlmippfojaaDoorP2
import Derived.Test.YtedanlmippfojaaDoorRows
import Derived.WalkKit
import Derived.ProofKit
import Derived.OpenShut
import Derived.ChangeOld
import Derived.Below
import Derived.Lib.SmallJoins
import Derived.Stop.LaidErr
import Derived.LaidMore
import Derived.Stop.Joined
import Derived.ChangeSlices
import Derived.Test.YtedanlmippfojaaDoorTie
import Derived.Test.YtedanlmippfojaaDoorCards
import Derived.SevenTiedAt
namespace Go.Proofs.YtedanlmippfojaaDoor
open Go.RowKit
set_option linter.unusedSimpArgs false
set_option linter.unusedVariables false
attribute [local go_sem ↓] Go.wp_at_zero Go.wp_at_succ store_op_new
attribute [-go_sem] Instr.storeAt

set_option maxRecDepth 100000 in
set_option maxHeartbeats 2000000 in
theorem implRun_nil (l : List Op7) (hL0 : l = []) (r t : Int) (s : ByteArray) (x : Addr) (w : World) (hs : s.size ≤ 1048576)
    (he : w.cell? ⟨0, 0, none⟩ = some (.iface 203 (.pointer (some x)))) (h0 : 0 < w.heap.size) :
    Calls Tryd.prog 29 #[.slice none 0 0, .int .i64 r, .int .i64 t, .string s] w fun e w' =>
      ∃ v, e = .returned (.tuple #[v, .bool (okR l r t s)]) ∧ w'.ownsRow w.heap.size 29 7 v (ansR l r t s).length (opCells (ansR l r t s)) ∧ Below w.heap.size w w' := by
  have HN := hideIt hL0
  have hn : l.length ≤ 1048576 := by rw [hL0]; simp
  clear hL0
  obtain ⟨i0, hi, hz0', hz1', hz2⟩ := info_parts infoOp
  have HI1 := hideIt hi
  have HZ0 := hideIt hz0'
  have HZ1 := hideIt hz1'
  have HZ2 := hideIt hz2
  clear hi hz0' hz1' hz2
  cases ho : opsB l
  all_goals
    have HO := hideIt ho
    clear ho
    go_enter Tryd.func29, Tryd.ntmps29
    go_wp2_with fail
    refine (implOps_nil l HN.out x _ he h0).mono ?_
    rintro e w1 ⟨rfl, hb1⟩
    rw [th_same, HO.out]
    have HB1 := hideIt hb1
    clear hb1
  · obtain ⟨e1, e2⟩ := run_no (run_nops (r := r) (t := t) (s := s) HO.out)
    have HE1 := hideIt e1
    have HE2 := hideIt e2
    clear e1 e2
    go_wp2
    refine bodyPost_ret (v := .tuple #[.slice none 0 0, .bool false]) (by simp [results, Tryd.results29, go_sem]) rfl ?_
    rw [HE1.out, HE2.out]
    exact ⟨_, rfl, World.ownsRow_nil _ _ _ _, HB1.out⟩
  · by_cases hbig : 12 < s.size
    · obtain ⟨e1, e2⟩ := run_no (run_big (l := l) (r := r) (t := t) hbig)
      have HE1 := hideIt e1
      have HE2 := hideIt e2
      clear e1 e2
      have hbig' : (12 : Int) < (s.size : Int) := by omega
      go_wp2
      refine bodyPost_ret (v := .tuple #[.slice none 0 0, .bool false]) (by simp [results, Tryd.results29, go_sem]) rfl ?_
      rw [HE1.out, HE2.out]
      exact ⟨_, rfl, World.ownsRow_nil _ _ _ _, HB1.out⟩
    · have h36 := ops_36 HO.out
      have hbig' : ¬ ((12 : Int) < (s.size : Int)) := by omega
      have hs12 : s.size ≤ 12 := by omega
      have HST : Hid (w1.ownsRow w.heap.size 29 7 (.slice none 0 0) 0 []) := World.ownsRow_nil _ _ _ _
      have hz1 := HB1.out.size
      go_wp2_with (first
        | (at_builtin; refine wpList_append_own_none rfl _ _ 23 rfl w.heap.size 29 i0 7 Tryd.underlying23 HI1.out (.slice none 0 0) 0 [] rfl HST.out rfl ?_))
      have HS0 : Hid (w1.ownsRow w.heap.size 29 7 (.slice none 0 0) l.length (opCells l)) := by
        show w1.ownsRow _ _ _ _ _ _
        rw [HN.out]
        exact HST.out
      have HB3 := hideIt HB1.out
      go_loopw [10, 26] (fun v i wr => ∃ (k : Nat) (L : List Op7), k ≤ s.size ∧ i = .int .i64 k ∧ wr.ownsRow w.heap.size 29 7 v L.length (opCells L) ∧ runTo l r t s k = some L ∧ Below w.heap.size w wr)
        (fun _ i _ => s.size - (intOf i).toNat)
      case atStart => exact ⟨0, l, Nat.zero_le _, rfl, HS0.out, rfl, HB3.out⟩
      case round =>
        obtain ⟨k, L, hk, rfl, hS, hrun, hB⟩ := hrel
        have HRUN := hideIt hrun
        have hL36 := ops_36 (runTo_ok HO.out hrun)
        have HS := hideIt hS
        have HB := hideIt hB
        clear hS hB HS0 HB3 hrun
        by_cases hlt : k < s.size
        · have hlt' : (k : Int) < (s.size : Int) := by omega
          have hk0 : (0 : Int) ≤ (k : Int) := by omega
          go_wp2_with fail
          rw [byteAt_in hlt]
          refine (implPut_q L _ r _ _ (RowKit.wrap64_wf _) x wr (OpsQ.own HS.out) (by omega) (errB HB.out h0 he) (posB HB.out h0)).mono ?_
          rintro e w4 ⟨(⟨hm, rfl⟩ | ⟨hm, rfl⟩), hb4⟩
          · have HB4 := hideIt (Bstep HB.out hb4)
            obtain ⟨e1, e2⟩ := run_no (run_fail (runTo_no HRUN.out hm) (by omega))
            have HE1 := hideIt e1
            have HE2 := hideIt e2
            clear hb4 hm e1 e2
            go_wp2
            refine bodyPost_ret (v := .tuple #[.slice none 0 0, .bool false]) (by simp [results, Tryd.results29, go_sem]) rfl ?_
            rw [HE1.out, HE2.out]
            exact ⟨_, rfl, World.ownsRow_nil _ _ _ _, HB4.out.alloc HB4.out.size _⟩
          · have h36L := ops_36 (mayPut_ok hm)
            have HB4 := hideIt (Bstep HB.out hb4)
            have HS4 := hideIt (OpsQ.below (OpsQ.own HS.out) hb4)
            have HNX := hideIt (runTo_yes HRUN.out hm)
            have HOW := hideIt (put_done hm).1
            clear hb4 hm
            generalize putO L r _ _ = o at *
            unfold opV
            go_wp2_with fail
            refine (implWith_q L _ o x _ (HS4.out.below ((Below.refl _ _).alloc (Nat.le_refl _) _)) (by omega) (errB (HB4.out.alloc HB4.out.size _) h0 he) (posB (HB4.out.alloc HB4.out.size _) h0)).mono ?_
            rintro e w5 ⟨v5, rfl, hS5, hb5⟩
            rw [HOW.out]
            rw [ansW_yes HOW.out] at hS5
            have HS5 : Hid (w5.ownsRow w.heap.size 29 7 v5 (withL L o).length (opCells (withL L o))) := ownsRow_base (by have := HB4.out.size; simp; omega) hS5
            have HB5 := hideIt (Bstep (HB4.out.alloc HB4.out.size _) hb5)
            clear hS5 hb5
            go_wp2
            exact ⟨⟨k + 1, withL L o, by omega, by go_num, HS5.out, HNX.out, HB5.out⟩, by simp [intOf]; omega⟩
        · obtain rfl : k = s.size := by omega
          obtain ⟨e1, e2⟩ := run_yes (run_some HO.out hs12 HRUN.out)
          have HE1 := hideIt e1
          have HE2 := hideIt e2
          clear e1 e2
          go_wp2
          refine bodyPost_ret (v := .tuple #[u10, .bool true]) (by simp [results, Tryd.results29, go_sem]) rfl ?_
          rw [HE1.out, HE2.out]
          exact ⟨_, rfl, HS.out, HB.out⟩
theorem implRun_q (l : List Op7) (v : Value) (r t : Int) (s : ByteArray) (x : Addr) (w : World) (hl : OpsQ w v l) (hn : l.length ≤ 1048576) (hs : s.size ≤ 1048576)
    (he : w.cell? ⟨0, 0, none⟩ = some (.iface 203 (.pointer (some x)))) (h0 : 0 < w.heap.size) :
    Calls Tryd.prog 29 #[v, .int .i64 r, .int .i64 t, .string s] w fun e w' =>
      ∃ v, e = .returned (.tuple #[v, .bool (okR l r t s)]) ∧ w'.ownsRow w.heap.size 29 7 v (ansR l r t s).length (opCells (ansR l r t s)) ∧ Below w.heap.size w w' := by
  rcases hl with ⟨rfl, h1⟩ | ⟨G, c, rfl, h2, h3⟩
  · exact implRun_nil l h1 r t s x w hs he h0
  · exact implRun_any l G c r t s x w h2 hn h3 hs he h0
end Go.Proofs.YtedanlmippfojaaDoor

namespace Go.Proofs.YtedanlmippfojaaDoor
open Go.RowKit
set_option linter.unusedVariables false

theorem cut_size (s : ByteArray) {i j : Nat} (hj : j ≤ s.size) : (s.extract i j).size = j - i := by rw [ByteArray.size_extract]; omega
theorem cut_byte (s : ByteArray) {i j k : Nat} (hk : i + k < j) (hj : j ≤ s.size) : byteAt (s.extract i j) k = byteAt s (i + k) := by
  have h1 : k < (s.extract i j).size := by rw [cut_size s hj]; omega
  have h2 : i + k < s.size := by omega
  have e1 := txt_byte h1
  have e2 := txt_byte h2
  rw [← byteAt_in h1, ← byteAt_in h2]
  have h : (s.extract i j)[k] = s[i + k] := by
    rw [ByteArray.getElem_extract]
  rw [h]
theorem run_pre {l : List Op7} {r t : Int} {s : ByteArray} {c : Nat} (hc : c ≤ s.size) : ∀ k, k ≤ c → runTo l r t (s.extract 0 c) k = runTo l r t s k
  | 0, _ => rfl
  | k + 1, hk => by
    have hb := cut_byte s (i := 0) (j := c) (k := k) (by omega) hc
    rw [Nat.zero_add] at hb
    simp only [runTo]
    rw [run_pre hc k (by omega), hb]
theorem run_post {l A : List Op7} {r t : Int} {s : ByteArray} {c : Nat} (ht0 : 0 ≤ t) (ht1 : t ≤ 1000) (hs : s.size ≤ 12) (hA : runTo l r t s c = some A) : ∀ k, c + k ≤ s.size → runTo A r (t + c) (s.extract c s.size) k = runTo l r t s (c + k)
  | 0, _ => by simp only [runTo]; exact hA.symm
  | k + 1, hk => by
    have hb := cut_byte s (i := c) (j := s.size) (k := k) (by omega) (Nat.le_refl _)
    rw [← Nat.add_assoc]
    simp only [runTo]
    rw [run_post ht0 ht1 hs hA k (by omega), hb]
    have e : t + (c : Int) + (k : Int) = t + ((c + k : Nat) : Int) := by push_cast; omega
    rw [e]
theorem run_some_at {l M : List Op7} {r t : Int} {s : ByteArray} {n : Nat} (h : runTo l r t s n = some M) {c : Nat} (hc : c ≤ n) : ∃ A, runTo l r t s c = some A := by
  cases hx : runTo l r t s c with
  | some A => exact ⟨A, rfl⟩
  | none =>
    have := runTo_none hx (n - c)
    rw [show c + (n - c) = n by omega, h] at this
    cases this
/-- What is told of a run that is typed in two parts. -/
theorem run_split {l M : List Op7} {r t : Int} {s : ByteArray} (ht0 : 0 ≤ t) (ht1 : t ≤ 1000) (h : runR l r t s = some M) {c : Nat} (hc : c ≤ s.size) :
    ∃ A, runR l r t (s.extract 0 c) = some A ∧ A.length ≤ 36 ∧ runR A r (t + c) (s.extract c s.size) = some M := by
  unfold runR at h
  split at h
  · rename_i hh
    obtain ⟨A, hA⟩ := run_some_at h hc
    have hAo := runTo_ok hh.1 hA
    refine ⟨A, ?_, ops_36 hAo, ?_⟩
    · refine run_some hh.1 (by rw [cut_size s hc]; omega) ?_
      rw [cut_size s hc, Nat.sub_zero, run_pre hc c (Nat.le_refl _)]
      exact hA
    · refine run_some hAo (by rw [cut_size s (Nat.le_refl _)]; omega) ?_
      rw [cut_size s (Nat.le_refl _), run_post ht0 ht1 hh.2 hA _ (by omega), show c + (s.size - c) = s.size by omega]
      exact h
  · cases h
/-- A run of one letter is that letter, put. -/
theorem run_one {l M : List Op7} {r t : Int} {s : ByteArray} (ht0 : 0 ≤ t) (ht1 : t ≤ 1000) (h : runR l r t s = some M) (hs : 0 < s.size) :
    mayPut l r t (byteAt s 0) = true ∧ runR l r t (s.extract 0 1) = some (withL l (putO l r t.toNat (byteAt s 0))) := by
  unfold runR at h
  split at h
  · rename_i hh
    obtain ⟨A, hA⟩ := run_some_at h (c := 1) (by omega)
    have hA1 := hA
    simp only [runTo] at hA
    have hw : wrap64 (t + ((0 : Nat) : Int)) = t := by rw [show t + ((0 : Nat) : Int) = t by simp]; exact IntWalk.wrap64_in _ ⟨by omega, by omega⟩
    rw [hw] at hA
    split at hA
    · rename_i hm
      refine ⟨hm, run_some hh.1 (by rw [cut_size s (by omega)]; omega) ?_⟩
      rw [cut_size s (by omega), Nat.sub_zero, run_pre (by omega) 1 (Nat.le_refl _), hA1, ← hA]
    · cases hA
  · cases h
end Go.Proofs.YtedanlmippfojaaDoor

namespace Go.Proofs.YtedanlmippfojaaDoor
open Go.RowKit
set_option linter.unusedSimpArgs false
set_option linter.unusedVariables false
attribute [local go_sem ↓] Go.wp_at_zero Go.wp_at_succ

/-- Things, and the program's answer. -/
structure RS (w W : World) (G c : Nat) (L M : List Op7) (vg : Value) : Prop where
  own : OwnOps W w.heap.size G c L
  rg : W.ownsRow w.heap.size 29 7 vg M.length (opCells M)
  bel : Below w.heap.size w W
theorem RS.below {w W W' : World} {G c : Nat} {L M : List Op7} {vg : Value} (h : RS w W G c L M vg) (hb : Below W.heap.size W W') : RS w W' G c L M vg :=
  ⟨h.own.below hb, rowKeep h.rg hb, Bstep h.bel hb⟩

set_option maxRecDepth 100000 in
set_option maxHeartbeats 8000000 in
theorem walkRunSplit (w : World) (p p' : Option Addr) (n cap n' cap' : Nat) (h : ArgBytes w p n) (hcap : n ≤ cap) (hmax : cap ≤ maxLen) (h' : ArgBytes w p' n') (hcap' : n' ≤ cap') (hmax' : cap' ≤ maxLen) (x : Addr)
    (he : w.cell? ⟨0, 0, none⟩ = some (.iface 203 (.pointer (some x)))) (h0 : 0 < w.heap.size) :
    Calls Tryd.prog 8 #[.slice p n cap, .slice p' n' cap'] w fun e w' => e = .returned (.bool true) ∧ Below w.heap.size w w' := by
  have H := hideIt h
  clear h h'
  unfold maxLen at *
  by_cases hn : n ≤ 1048576
  · by_cases hn' : n' ≤ 1048576
    · go_enter Tryd.func8, Tryd.ntmps8
      go_wp2_with fail
      refine (drawRun_any _ p n cap H.out hcap hn).mono ?_
      rintro e w1 ⟨G, c, _, r, t, s, rfl, hr, ht, hs, ⟨L, rfl, hL, hS⟩, hb1⟩
      have HS := hideIt hS
      have HB := hideIt hb1
      clear hS hb1
      go_wp2_with fail
      refine (specRun_any L G c r t s _ HS.out.at (by omega) HS.out.cap hs).mono ?_
      rintro e w2 ⟨vw, rfl, hrw, hb2⟩
      have HRW := hideIt (ownsRow_base HB.out.size hrw)
      have HS2 := hideIt (HS.out.below hb2)
      have HB2 := hideIt (Bstep HB.out hb2)
      clear hrw hb2 HS HB
      go_wp2_with fail
      refine (implRun_any L G c r t s x _ HS2.out.at (by omega) HS2.out.cap hs (errB HB2.out h0 he) (posB HB2.out h0)).mono ?_
      rintro e w3 ⟨vg, rfl, hrg, hb3⟩
      have hal := ansR_small L r t s
      have HR : Hid (RS w w3 G c L (ansR L r t s) vg) := ⟨HS2.out.below hb3, ownsRow_base HB2.out.size hrg, Bstep HB2.out hb3⟩
      have HRW := hideIt (rowKeep HRW.out hb3)
      clear hrg hb3 HS2 HB2
      cases hz : runR L r t s with
      | none =>
        obtain ⟨e1, e2⟩ := run_no hz
        rw [e1]
        go_wp2_with (first
          | (go_at_call 30; refine (ltOps_rows (ansR L r t s) _ _ _ _ _ HR.out.rg HRW.out (by omega)).mono ?_; rintro e w4 ⟨rfl, hb4⟩; have HR := hideIt (HR.out.below hb4); have HRW := hideIt (rowKeep HRW.out hb4); clear hb4))
        go_ret
        exact ⟨rfl, HR.out.bel⟩
      | some M =>
        obtain ⟨e1, e2⟩ := run_yes hz
        rw [e1]
        rw [e2] at HR HRW hal
        have HZ := hideIt hz
        have hs12 : s.size ≤ 12 := (run_there ht.1 ht.2 hz).2.2.1
        clear e1 e2 hz
        have hsw : IntKind.i64.wrap ((s.size : Int) + 1) = (s.size : Int) + 1 := IntWalk.i64_in _ ⟨by omega, by omega⟩
        have hsz : ¬ ((s.size : Int) + 1 = 0) := by omega
        obtain ⟨q, hq, hqs⟩ : ∃ q : Nat, (n' : Int).tmod ((s.size : Int) + 1) = (q : Int) ∧ q ≤ s.size := by
          have h1 : (n' : Int).tmod ((s.size : Int) + 1) = ((n' % (s.size + 1) : Nat) : Int) := by
            rw [Int.tmod_eq_emod_of_nonneg (by omega)]
            push_cast; rfl
          exact ⟨_, h1, by have := Nat.mod_lt n' (show 0 < s.size + 1 by omega); omega⟩
        go_wp2_with (first
          | (go_at_call 30; refine (ltOps_rows M _ _ _ _ _ HR.out.rg HRW.out (by omega)).mono ?_; rintro e w4 ⟨rfl, hb4⟩; have HR := hideIt (HR.out.below hb4); clear hb4 HRW))
        obtain ⟨A, hA, hA36, hB⟩ := run_split ht.1 ht.2 HZ.out hqs
        obtain ⟨a1, a2⟩ := run_yes hA
        obtain ⟨b1, b2⟩ := run_yes hB
        have HA1 := hideIt a1
        have HA2 := hideIt a2
        have HB1 := hideIt b1
        have HB2 := hideIt b2
        clear hA hB a1 a2 b1 b2
        have hs1 : (s.extract 0 q).size ≤ 1048576 := by rw [cut_size s hqs]; omega
        have hs2 : (s.extract q s.size).size ≤ 1048576 := by rw [cut_size s (Nat.le_refl _)]; omega
        refine (implRun_any L G c r t _ x _ HR.out.own.at (by omega) HR.out.own.cap hs1 (errB HR.out.bel h0 he) (posB HR.out.bel h0)).mono ?_
        rintro e w5 ⟨va, rfl, hra, hb5⟩
        rw [HA1.out]
        rw [HA2.out] at hra
        have HRA : Hid (OpsQ w5 va A) := OpsQ.own hra
        have HR := hideIt (HR.out.below hb5)
        clear hra hb5
        have hq0 : (0 : Int) ≤ (q : Int) := by omega
        have hq1 : (q : Int) ≤ (s.size : Int) := by omega
        have htq : IntKind.i64.wrap (t + (q : Int)) = t + (q : Int) := IntWalk.i64_in _ ⟨by omega, by omega⟩
        go_wp2_with fail
        refine (implRun_q A va r (t + (q : Int)) _ x _ HRA.out (by omega) hs2 (errB HR.out.bel h0 he) (posB HR.out.bel h0)).mono ?_
        rintro e w6 ⟨vb, rfl, hrb, hb6⟩
        rw [HB1.out]
        rw [HB2.out] at hrb
        have HRB := hideIt (ownsRow_base HR.out.bel.size hrb)
        have HR := hideIt (HR.out.below hb6)
        clear hrb hb6 HRA HA1 HA2 HB1 HB2
        by_cases hz : s.size = 0
        · have hz' : (s.size : Int) = 0 := by omega
          go_wp2_with (first
            | (go_at_call 30; refine (ltOps_rows M _ _ _ _ _ HRB.out HR.out.rg (by omega)).mono ?_; rintro e w7 ⟨rfl, hb7⟩; have HR := hideIt (HR.out.below hb7); clear hb7))
          go_ret
          exact ⟨rfl, HR.out.bel⟩
        · have hz' : ¬ ((s.size : Int) = 0) := by omega
          have hz2 : (0 : Int) < (s.size : Int) := by omega
          have hz1 : 0 < s.size := by omega
          have hz3 : (1 : Int) ≤ (s.size : Int) := by omega
          obtain ⟨hm, hD⟩ := run_one ht.1 ht.2 HZ.out hz1
          obtain ⟨d1, d2⟩ := run_yes hD
          have HD1 := hideIt d1
          have HD2 := hideIt d2
          have HM := hideIt hm
          have HOW := hideIt (put_done hm).1
          have hs3 : (s.extract 0 1).size ≤ 1048576 := by rw [cut_size s (by omega)]; omega
          have hwf : wf64 t := wf_small (by omega)
          clear hD d1 d2 hm
          go_wp2_with (first
            | (go_at_call 30; refine (ltOps_rows M _ _ _ _ _ HRB.out HR.out.rg (by omega)).mono ?_; rintro e w7 ⟨rfl, hb7⟩; have HR := hideIt (HR.out.below hb7); clear hb7 HRB))
          rw [byteAt_in hz1]
          refine (implPut_any L G c r t _ hwf x _ HR.out.own.at (by omega) HR.out.own.cap (errB HR.out.bel h0 he) (posB HR.out.bel h0)).mono ?_
          rintro e w8 ⟨(⟨hf, _⟩ | ⟨_, rfl⟩), hb8⟩
          · rw [HM.out] at hf; cases hf
          have HR := hideIt (HR.out.below hb8)
          have hwl := withL_lenW L (putO L r t.toNat (byteAt s 0))
          clear hb8
          generalize putO L r t.toNat (byteAt s 0) = o at *
          unfold opV
          go_wp2_with fail
          have hba : Below w8.heap.size w8 (w8.alloc (.cells #[.int .i64 o.a, .int .i64 o.b, .int .i64 o.k, .int .i64 o.c, .int .i64 o.d, .int .i64 o.s, .int .i64 o.g] 29)) := (Below.refl _ _).alloc (Nat.le_refl _) _
          have HR := hideIt (HR.out.below hba)
          clear hba
          refine (implWith_any L G c o x _ HR.out.own.at (by omega) HR.out.own.cap (errB HR.out.bel h0 he) (posB HR.out.bel h0)).mono ?_
          rintro e w9 ⟨vc, rfl, hrc, hb9⟩
          rw [HOW.out]
          rw [ansW_yes HOW.out] at hrc
          have HRC := hideIt (ownsRow_base HR.out.bel.size hrc)
          have HR := hideIt (HR.out.below hb9)
          clear hrc hb9
          go_wp2_with fail
          refine (implRun_any L G c r t _ x _ HR.out.own.at (by omega) HR.out.own.cap hs3 (errB HR.out.bel h0 he) (posB HR.out.bel h0)).mono ?_
          rintro e w10 ⟨vd, rfl, hrd, hb10⟩
          rw [HD1.out]
          rw [HD2.out] at hrd
          have HRD := hideIt (ownsRow_base HR.out.bel.size hrd)
          have HRC := hideIt (rowKeep HRC.out hb10)
          have HR := hideIt (HR.out.below hb10)
          clear hrd hb10
          go_wp2_with (first
            | (go_at_call 30; refine (ltOps_rows (withL L o) _ _ _ _ _ HRC.out HRD.out (by omega)).mono ?_; rintro e w11 ⟨rfl, hb11⟩; have HR := hideIt (HR.out.below hb11); clear hb11))
          go_ret
          exact ⟨rfl, HR.out.bel⟩
    · go_enter Tryd.func8, Tryd.ntmps8
      have hn'' : (1048576 : Int) < (n' : Int) := by omega
      go_wp2
      go_ret
      exact ⟨rfl, Below.refl _ _⟩
  · go_enter Tryd.func8, Tryd.ntmps8
    have hn' : (1048576 : Int) < (n : Int) := by omega
    go_wp2
    go_ret
    exact ⟨rfl, Below.refl _ _⟩
end Go.Proofs.YtedanlmippfojaaDoor

namespace Go.Proofs.YtedanlmippfojaaDoor
open Go.ChangeShapes Go.WideShapes Go.ChangeAt Go.RowKit Go.Joins

theorem own : ownKnob Tryd.prog.godebug = none := by kernel_rfl
theorem laidOut : laidOutB Tryd.prog = true := by kernel_rfl
theorem cells_int : Tryd.prog.cellsOf 3 = 1 := by kernel_rfl

/-- The name of the one listed variable. -/
abbrev errName : String := Rows.fnTypeAnyoneSpec.vars.headD ""
/-- What the rows list. -/
abbrev laid1 : List (String × DataW Unit) := Rows.fnTypeAnyoneRow.laid
theorem gErr : Tryd.prog.globalNamed errName = some 0 := by kernel_rfl
theorem tErr : (Tryd.prog.globals[0]?).map (·.type) = some 93 := by kernel_rfl
def nmOf : DataW Unit → String
  | .iface n _ => n
  | _ => ""
theorem star : "*" ++ "errors.errorString" = nmOf Rows.laid_loop_example_tatting_impl_errNoThing := by decide
theorem nameErr (u : TypeId) (h : Tryd.prog.typeName? 3 u = some (nmOf Rows.laid_loop_example_tatting_impl_errNoThing)) : u = 203 :=
  typeName_ptr_named (nm := "errors.errorString") (by rw [star]; kernel_rfl) (by kernel_rfl) (by decide) u (by rw [star]; exact h)

theorem door_met (os : Os) (args : Array Value) : laidMetH Tryd.prog laid1 ((World.doorLaid Tryd.prog 28 os).forCall (fun _ _ => 0) ⟨#[], args, []⟩).memory :=
  laidMetH_of_parts3 (fuel := 8) (laidMet_of_run' 8 (by kernel_rfl) (by kernel_rfl)) (by kernel_rfl) (by kernel_rfl)

/-- WHAT THE CONDITION GIVES THE WALKS: the one error's cell. -/
theorem of_laid {W : World} (h : laidMetH Tryd.prog laid1 W) : ∃ x : Addr, W.var? Tryd.prog errName = some #[.iface 203 (.pointer (some x))] ∧ W.cell? ⟨0, 0, none⟩ = some (.iface 203 (.pointer (some x))) ∧ 0 < W.heap.size := by
  rw [MakeChecks.laidMetH_plain _ _ _ (by kernel_rfl)] at h
  obtain ⟨x, s, hv, hc, _, _⟩ := laid_sentinel h gErr tErr Tryd.underlying93 nameErr Tryd.underlying203 Tryd.underlying230 rfl rfl Tryd.underlying9 (by kernel_rfl) (by kernel_rfl)
  have hcell : W.cell? ⟨0, 0, none⟩ = some (.iface 203 (.pointer (some x))) := by simpa using World.var?_cell gErr hv 0
  refine ⟨x, hv, hcell, ?_⟩
  rcases Nat.eq_zero_or_pos W.heap.size with h0 | h0
  · exfalso
    simp [World.cell?, Array.eq_empty_of_size_eq_zero h0] at hcell
  · exact h0

/-- The variable holds what it held, where nothing that was there has turned. -/
theorem var_kept {W W' : World} {x : Value} (hb : Below W.heap.size W W') (h0 : 0 < W.heap.size) (hv : W.var? Tryd.prog errName = some #[x]) : W'.var? Tryd.prog errName = some #[x] := by
  unfold World.var? at hv ⊢
  rw [gErr] at hv ⊢
  simp only [Option.bind_some] at hv ⊢
  rw [hb.block 0 h0]
  exact hv
end Go.Proofs.YtedanlmippfojaaDoor

namespace Go.Proofs.YtedanlmippfojaaDoor
open Go.ChangeShapes Go.WideShapes Go.ChangeAt Go.RowKit Go.Joins

theorem cells_byte : Tryd.prog.cellsOf 5 = 1 := by kernel_rfl

set_option maxRecDepth 100000 in
theorem open_bytes {H : Type} {enc : TypeId × Value → H} {w : World} {r : Reach} {b0 : Nat} {spare : Nat → Bool} {held : Bool} {v : Value} {d : DataW H} {p : List MemPlace}
    (hv : Value.okWide Tryd.prog w r b0 22 v) (h : DataW.Trod enc Tryd.prog w 0 spare held 22 v d p) :
    ∃ (q : Option Addr) (n cap : Nat), v = .slice q n cap ∧ n ≤ cap ∧ cap ≤ maxLen ∧ ArgBytes w q n := by
  obtain ⟨q, len, cap, rfl⟩ := okWide_slice Tryd.underlying22 hv
  obtain ⟨fuel, hf⟩ := h
  rcases open_ints Tryd.underlying22 Tryd.underlying5 cells_byte hf with ⟨hcs, _⟩ | ⟨a, len', cap', zs, hcs, _, hl, hm, hz, _, hcell, hwz⟩
  · simp [Value.cells] at hcs
    obtain ⟨rfl, rfl, rfl⟩ := hcs
    exact ⟨none, 0, 0, rfl, Nat.le_refl _, Nat.zero_le _, .inl rfl⟩
  · simp [Value.cells] at hcs
    obtain ⟨rfl, rfl, rfl⟩ := hcs
    refine ⟨some a, len, cap, rfl, hl, hm, ?_⟩
    have hlz : len ≤ zs.length := by rw [hz]; split <;> omega
    rcases Nat.eq_zero_or_pos len with h0 | h0
    · exact .inl h0
    obtain ⟨b, off, spot⟩ := a
    have hspot : spot = none := by simpa [Addr.add] using World.cell?_spot (hcell 0 (by omega))
    subst hspot
    refine .inr ⟨b, off, rfl, ?_, fun i hi => ?_⟩
    · have := World.block_lt_of_cell? w _ (hcell 0 (by omega))
      simpa [Addr.add_lit] using this
    · have hc := hcell i (by omega)
      rw [Addr.add_lit] at hc
      have hb := range_u8 hwz i
      exact ⟨zs.getD i 0, by simpa [List.getD] using hb.1, by simpa [List.getD] using hb.2, hc⟩

end Go.Proofs.YtedanlmippfojaaDoor

namespace Go.Proofs.YtedanlmippfojaaDoor
open Go.ChangeShapes Go.WideShapes Go.ChangeAt Go.RowKit Go.Joins

set_option maxRecDepth 100000 in
theorem liftedFnRunSplit (os : Os) (started : os.Started) (H : Type) (enc : TypeId × Value → H) :
    ReturnsInHanded {} Tryd.checked os 8 .any (fun w args => (Rows.fnRunSplitSpec.pre enc Tryd.prog Tryd.f8 [] false w args ∧ laidMetH Tryd.prog laid1 w) ∧ sizedMet enc Tryd.prog Tryd.f8 (OpenSpec.ofChange Rows.fnRunSplitSpec) false w args)
      (Rows.fnRunSplitSpec.post enc Tryd.prog Tryd.f8 false true false false) := by
  refine returnsInHanded_of_change_and (C := Tryd.checked) (X := fun w _ => laidMetH Tryd.prog laid1 w) (fun _ _ _ hh h => h.of_heap hh) own started (by kernel_rfl) Tryd.func8
    (ChangeSpec.witness_shaped (enc := enc) (C := Tryd.checked) (os := os) (X := fun w _ => laidMetH Tryd.prog laid1 w) false (World.doorLaid Tryd.prog 28 os) #[.slice none 0 0, .slice none 0 0] 8 rfl (World.shaped_of_RefB (by kernel_rfl) (by kernel_rfl)) (by kernel_rfl) (by kernel_rfl) (by kernel_rfl) (door_met os _)) ?_
  intro W base args ds gs before hval0 hW _ _ hL _
  have hval : ∀ (j : Nat) t v, Tryd.f8.params[j]? = some t → args[j]? = some v → Value.okWide Tryd.prog W .any base t v := hval0
  have hW' := hW
  obtain ⟨p, q, hA0, hV0, rfl, hfz, hnd⟩ := hW
  have hA : DataW.TrodAll enc Tryd.prog W 0 (fun _ => true) true Tryd.f8.params.toList args.toList ds p := hA0
  have hV : DataW.TrodVars enc Tryd.prog W (fun _ => true) [errName] gs q := hV0
  rw [Tryd.params8] at hA hval
  obtain ⟨v0, v1, d0, d1, p0, p1, rfl, rfl, rfl, h0, h1⟩ := trodAll_two hA
  have k0 := h0
  have k1 := h1
  have lt0 : ∀ x ∈ p0, x.block < W.heap.size := by obtain ⟨m, hm⟩ := k0; exact DataW.trod_lt m _ _ _ hm
  have lt1 : ∀ x ∈ p1, x.block < W.heap.size := by obtain ⟨m, hm⟩ := k1; exact DataW.trod_lt m _ _ _ hm
  obtain ⟨x, hv, hc, hpos⟩ := of_laid hL
  obtain ⟨rfl, rfl⟩ := hV.unique (vars_read1 enc gErr tErr Tryd.underlying93 hv trivial _)
  obtain ⟨q0, n0, c0, rfl, hc0, hm0, ha0⟩ := open_bytes (hval 0 22 v0 rfl rfl) h0
  obtain ⟨q1, n1, c1, rfl, hc1, hm1, ha1⟩ := open_bytes (hval 1 22 v1 rfl rfl) h1
  clear hA0 hV0 hval0
  refine (walkRunSplit W q0 q1 n0 c0 n1 c1 ha0 hc0 hm0 ha1 hc1 hm1 x hc hpos).mono fun e W' ⟨he, bel⟩ => ?_
  subst he
  exact ⟨_, rfl, _, _, _, [], _, [.cell 0 0], hW', trodAll_mk1 (shut_bool Tryd.underlying4 _), (trodAll_cons_mk (Below.trod laidOut (by kernel_rfl) (of_decide_eq_true (by kernel_rfl)) k0 bel lt0) (trodAll_cons_mk (Below.trod laidOut (by kernel_rfl) (of_decide_eq_true (by kernel_rfl)) k1 bel lt1) trodAll_mk0)), vars_read1 enc gErr tErr Tryd.underlying93 (var_kept bel hpos hv) trivial _, bel.frame _, fun h => by cases h⟩

theorem fnRunSplit_row : Rows.FnRunSplitSaid :=
  OpenClaim.holds_of_wide 8 Tryd.f8 rfl rfl rfl rfl rfl rfl rfl ⟨rfl, rfl, rfl, rfl, rfl⟩ rfl rfl rfl rfl rfl (by kernel_rfl) Tryd.func8 (by kernel_rfl)
    (of_decide_eq_true (by kernel_rfl)) (by unfold Func.isWrapper; first | (rw [if_pos (by decide +kernel)]; kernel_rfl) | (rw [if_neg (by decide +kernel)]; exact ⟨rfl, rfl⟩))
    (fun os started H enc _ => liftedFnRunSplit os started H enc)

/-- THE STATEMENT. -/
theorem fnRunSplit_holds : Rows.FnRunSplitCardSaid :=
  Claim7.holds_tied_plain_at .later [] Rows.fnRunSplitCard.laidKinds true Rows.fnRunSplitCard.stood.harness true
    fnRunSplit_row (fun _ h => by cases h) (by kernel_rfl) (fun _ h => by cases h) fnRunSplit_row_tie rfl ⟨rfl, rfl⟩ (by kernel_rfl) rfl
    (fun f fn hf hfn => by
      obtain rfl : f = 8 := Option.some.inj ((show Tryd.prog.funcNamed Rows.fnRunSplitRow.func = some 8 by kernel_rfl).symm.trans hf) |>.symm
      obtain rfl : fn = Tryd.f8 := (Option.some.inj (Tryd.func8.symm.trans hfn)).symm
      exact ⟨by kernel_rfl, fun j t ht => by
        rw [Tryd.params8] at ht
        have hm : t ∈ [22, 22] := by simpa using Array.mem_of_getElem? ht
        have hall : ([22, 22].all fun u => !Tryd.prog.wantsStandIn u) = true := by kernel_rfl
        exact (show Tryd.prog.wantsStandIn t = false by simpa using List.all_eq_true.1 hall t hm)⟩)
    (by kernel_rfl)
#print axioms fnRunSplit_holds
end Go.Proofs.YtedanlmippfojaaDoor
