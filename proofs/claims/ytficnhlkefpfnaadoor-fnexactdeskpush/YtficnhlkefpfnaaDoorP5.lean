/- What inStep gives, as a range goes by it. -/
import Derived.Test.YtficnhlkefpfnaaDoorP4
namespace Go.Proofs.YtficnhlkefpfnaaDoor
open Go.RowKit Go.Shelf
set_option linter.unusedSimpArgs false
set_option linter.unusedVariables false
attribute [local go_sem] Oper.semAt_some
set_option maxRecDepth 100000 in
set_option maxHeartbeats 8000000 in
set_option pp.deepTerms true in
set_option pp.maxSteps 10000000 in
theorem inStep1_in (a b : List Op7) (hna : a.length ≤ 1048576) (hnb : b.length ≤ 1048576) (pa pb : Option Addr) (ca cb Ba Bb Bl TL : Nat) (hca : a.length ≤ ca) (hcb : b.length ≤ cb) (w0 : World) (hA : OpsP w0 pa a) (hB : OpsP w0 pb b)
    (lp B : Nat) (J Jx : List Pr → World → Prop) (hJ : AbidesFrom B J)
    (hY : ∀ m pre (x : Pr) W, J pre W → pre.length < a.length + b.length → YieldAt Fence.wide m Tryd.prog lp #[prV x] W fun e W' =>
      (e = .returned (.bool true) ∧ J (pre ++ [x]) W' ∧ KpS w0.heap.size Ba Bb Bl W W') ∨ (e = .returned (.bool false) ∧ Jx (pre ++ [x]) W'))
    (k : Nat) (W : World) (hW : Below w0.heap.size w0 W) (h0 : J [] W)
    (xa : W.heap[Ba]? = some (.cells #[.slice pa a.length ca] 24 (0, 0))) (xb : W.heap[Bb]? = some (.cells #[.slice pb b.length cb] 24 (0, 0))) (xl : W.heap[Bl]? = some (.cells #[.func (.func 74) #[] #[]] TL (0, 0))) :
    CallsIn Fence.wide k Tryd.prog 105 #[.func (.yield lp) #[] #[], .pointer (some ⟨Ba, 0, none⟩), .pointer (some ⟨Bb, 0, none⟩), .pointer (some ⟨Bl, 0, none⟩)] W fun e W' => (∃ v, e = .returned v) ∧ ((∃ xs, Walk a b a.length b.length xs ∧ J xs W') ∨ (∃ pre, (∃ i j, Walk a b i j pre) ∧ Jx pre W')) := by
  have HJ := hideIt hJ
  have HY := hideIt hY
  have HA := hideIt hA
  have HB := hideIt hB
  have HXA := hideIt xa
  have HXB := hideIt xb
  have HXL := hideIt xl
  have HJ0 := hideIt h0
  have HW0 := hideIt hW
  clear hJ hY hA hB xa xb xl h0 hW
  refine callsIn_of_wp Tryd.func105 rfl trivial ?_ rfl
  simp only [Tryd.ntmps105, List.size_toArray, List.length_cons, List.length_nil, Nat.reduceAdd, Nat.reduceSub, Array.replicate_succ, Array.replicate_zero, List.push_toArray, List.append_toArray, List.nil_append, List.cons_append]
  gi_wp2
  gi_loopw [5, 6] (fun i j wr => ∃ I K : Nat, i = .int .i64 I ∧ j = .int .i64 K ∧ ∃ ps, Walk a b I K ps ∧ J ps wr ∧ KpS w0.heap.size Ba Bb Bl W wr)
    (fun i j _ => (a.length - (intOf i).toNat) + (b.length - (intOf j).toNat))
  case atStart => exact ⟨0, 0, rfl, rfl, [], .zero, HJ0.out, KpS.refl _ _ _ _ _⟩
  case round =>
    obtain ⟨I, K, rfl, rfl, ps, hP, hJ, hkp⟩ := hrel
    obtain ⟨hl, hI, hK⟩ := hP.len
    have HP := hideIt hP
    have HJP := hideIt hJ
    have HKP := hideIt hkp
    have HBW := hideIt (HW0.out.trans hkp.1)
    have HXAw := hideIt (hkp.2.1.trans HXA.out)
    have HXBw := hideIt (hkp.2.2.1.trans HXB.out)
    have HXLw := hideIt (hkp.2.2.2.trans HXL.out)
    have f1 := (blk_cell HXAw.out 0).trans rfl
    have f2 := (blk_cell HXBw.out 0).trans rfl
    have f3 := (blk_cell HXLw.out 0).trans rfl
    have lA := (Array.getElem?_eq_some_iff.1 HXAw.out).1
    have lB := (Array.getElem?_eq_some_iff.1 HXBw.out).1
    have lL := (Array.getElem?_eq_some_iff.1 HXLw.out).1
    have HLT : Hid (I < a.length ∨ K < b.length → ps.length < a.length + b.length) := fun h => by omega
    clear hP hJ hkp HJ0 HW0 HXA HXB HXL
    by_cases hIa : I < a.length
    · obtain ⟨ga, rfl, hAw⟩ : ∃ g, pa = some ⟨g, 0, none⟩ ∧ OpsAt w0 g a := by
        rcases HA.out with h | h
        · rw [h] at hIa; simp at hIa
        · exact h
      obtain ⟨a0, a1, a2, a3, a4, a5, a6⟩ := (hAw.below HBW.out hAw.1).2 I a[I] (by simp [hIa])
      have lga := (hAw.below HBW.out hAw.1).1
      have hIi : (I : Int) < (a.length : Int) := by omega
      have hI0 : (0 : Int) ≤ (I : Int) := by omega
      have hIe : ((I : Int) == (a.length : Int)) = false := by simp; omega
      by_cases hKb : K < b.length
      · obtain ⟨gb, rfl, hBw⟩ : ∃ g, pb = some ⟨g, 0, none⟩ ∧ OpsAt w0 g b := by
          rcases HB.out with h | h
          · rw [h] at hKb; simp at hKb
          · exact h
        obtain ⟨b0, b1, b2, b3, b4, b5, b6⟩ := (hBw.below HBW.out hBw.1).2 K b[K] (by simp [hKb])
        have lgb := (hBw.below HBW.out hBw.1).1
        have hKi : (K : Int) < (b.length : Int) := by omega
        have hK0 : (0 : Int) ≤ (K : Int) := by omega
        have hKe : ((K : Int) == (b.length : Int)) = false := by simp; omega
        have HE1 : Hid (lessB a[I] b[K] = true → Walk a b (I + 1) K (ps ++ [⟨a[I], noOp, true, false⟩])) := fun h => HP.out.one hIa (.inr ⟨hKb, h⟩)
        have HE2 : Hid (lessB b[K] a[I] = true → Walk a b I (K + 1) (ps ++ [⟨noOp, b[K], false, true⟩])) := fun h => HP.out.other hKb (.inr ⟨hIa, h⟩)
        have HE3 : Hid (lessB a[I] b[K] = false → lessB b[K] a[I] = false → Walk a b (I + 1) (K + 1) (ps ++ [⟨a[I], b[K], true, true⟩])) := fun h1 h2 => HP.out.both hIa hKb h1 h2
        have HAS : Hid (lessB a[I] b[K] = true → lessB b[K] a[I] = true → False) := by
          show lessB a[I] b[K] = true → lessB b[K] a[I] = true → False
          unfold lessB
          simp only [Bool.or_eq_true, Bool.and_eq_true, decide_eq_true_eq]
          omega
        clear HP
        generalize a[I] = x at *
        generalize b[K] = y at *
        obtain ⟨L1, HL1⟩ : ∃ L, Hid (lessB y x = L) := ⟨_, rfl⟩
        obtain ⟨L2, HL2⟩ : ∃ L, Hid (lessB x y = L) := ⟨_, rfl⟩
        gi_wp2
        refine wpIn_wide.2 ?_
        refine wp_mono (reg_both a b x y L1 L2 I K ga gb ca cb Ba Bb Bl lp _ _ _ _ _ _ _ _ _ _ _ _ _ _ _ _ _ _ _ _ _ _ _ _ _ _ _ _ _ _ _ _ _ _ _ _ _ _ _ _ _ _ _ _ _ _ _ _ _ _ _ _ _ _ _ _ _ _ _ _ _ _ _ _ _ _ _ _ _ _ _ _ _ _ _ _ _ _ _ _ wr hna hnb hca hcb HL1 HL2 f1 f2 f3 a0 a1 a2 a3 a4 a5 a6 b0 b1 b2 b3 b4 b5 b6 lA lB lL lga lgb hIi hI0 hIe hKi hK0 hKe) ?_
        intro e a' W1 h
        cases e <;> first | exact h.elim | skip
        obtain ⟨q, hq, ⟨v8, v9, v10, v11, v12, v13, v14, v15, v16, v17, v18, v19, v20, v21, v22, v23, v24, v25, v26, v27, v28, v29, v30, v31, v32, v33, v34, v35, v36, v37, v38, v39, v40, v41, v42, v43, v44, v45, v46, v47, v48, v49, v50, v51, v52, v53, v54, v55, v56, v57, v58, v59, v60, v61, v62, v63, v64, rfl⟩, hX1, hB1⟩ := h
        have HX1 := hideIt hX1
        have HB1 := hideIt hB1
        clear hX1 hB1 f3
        cases L1 <;> cases L2
        · skip
          as_aux_lemma =>
            have f2o := f2
            replace f1 := (HB1.out.cell (p := ⟨Ba, 0, none⟩) lA).trans f1
            replace f2 := (HB1.out.cell (p := ⟨Bb, 0, none⟩) lB).trans f2
            have g14 := (blk_cell HX1.out 14).trans rfl
            replace a0 := (HB1.out.cell (p := ⟨ga, I * 7, none⟩) lga).trans a0
            replace a1 := (HB1.out.cell (p := ⟨ga, I * 7 + 1, none⟩) lga).trans a1
            replace a2 := (HB1.out.cell (p := ⟨ga, I * 7 + 2, none⟩) lga).trans a2
            replace a3 := (HB1.out.cell (p := ⟨ga, I * 7 + 3, none⟩) lga).trans a3
            replace a4 := (HB1.out.cell (p := ⟨ga, I * 7 + 4, none⟩) lga).trans a4
            replace a5 := (HB1.out.cell (p := ⟨ga, I * 7 + 5, none⟩) lga).trans a5
            replace a6 := (HB1.out.cell (p := ⟨ga, I * 7 + 6, none⟩) lga).trans a6
            obtain ⟨W2, hk2, hX2, hb2⟩ := st_one W1 q _ _ _ _ _ _ _ _ _ _ _ _ _ _ _ _ x HX1.out
            have HX2 := hideIt hX2
            have HB2 := hideIt (HB1.out.trans (hb2.mono hq))
            clear hX2 hb2 HB1 HX1
            have g15 := (blk_cell HX2.out 15).trans rfl
            have f2b := (HB2.out.cell (p := ⟨Bb, 0, none⟩) lB).trans f2o
            replace b0 := (HB2.out.cell (p := ⟨gb, K * 7, none⟩) lgb).trans b0
            replace b1 := (HB2.out.cell (p := ⟨gb, K * 7 + 1, none⟩) lgb).trans b1
            replace b2 := (HB2.out.cell (p := ⟨gb, K * 7 + 2, none⟩) lgb).trans b2
            replace b3 := (HB2.out.cell (p := ⟨gb, K * 7 + 3, none⟩) lgb).trans b3
            replace b4 := (HB2.out.cell (p := ⟨gb, K * 7 + 4, none⟩) lgb).trans b4
            replace b5 := (HB2.out.cell (p := ⟨gb, K * 7 + 5, none⟩) lgb).trans b5
            replace b6 := (HB2.out.cell (p := ⟨gb, K * 7 + 6, none⟩) lgb).trans b6
            obtain ⟨W3, hk3, hX3, hb3⟩ := st_other W2 q _ _ _ _ _ _ _ _ _ _ _ _ _ _ _ _ y HX2.out
            have HX3 := hideIt hX3
            have HB3 := hideIt (HB2.out.trans (hb3.mono hq))
            clear hX3 hb3 HB2 HX2
            have p0 := (blk_cell HX3.out 0).trans rfl
            have p1 := (blk_cell HX3.out 1).trans rfl
            have p2 := (blk_cell HX3.out 2).trans rfl
            have p3 := (blk_cell HX3.out 3).trans rfl
            have p4 := (blk_cell HX3.out 4).trans rfl
            have p5 := (blk_cell HX3.out 5).trans rfl
            have p6 := (blk_cell HX3.out 6).trans rfl
            have p7 := (blk_cell HX3.out 7).trans rfl
            have p8 := (blk_cell HX3.out 8).trans rfl
            have p9 := (blk_cell HX3.out 9).trans rfl
            have p10 := (blk_cell HX3.out 10).trans rfl
            have p11 := (blk_cell HX3.out 11).trans rfl
            have p12 := (blk_cell HX3.out 12).trans rfl
            have p13 := (blk_cell HX3.out 13).trans rfl
            have p14 := (blk_cell HX3.out 14).trans rfl
            have p15 := (blk_cell HX3.out 15).trans rfl
            have HJ2 := hideIt (abides_pr HJ.out HJP.out HB3.out)
            obtain ⟨fn, tmps, assign, body, hy, hR⟩ := HY.out (k - 1) ps ⟨x, y, true, true⟩ W3 HJ2.out (HLT.out (by omega))
            dsimp only [prV, noOp] at hy
            have HR := hideIt hR
            clear hR
            gi_wp2_with (first | (refine wpListIn_st rfl 71 _ _ rfl _ _ rfl rfl _ hk2 ?_) | (refine wpListIn_st rfl 71 _ _ rfl _ _ rfl rfl _ hk3 ?_) | gi_in)
            refine ⟨(fun h => by cases h), ?_⟩
            refine HR.out.mono ?_
            rintro e W4 (⟨rfl, hJ4, hK4⟩ | ⟨rfl, hx4⟩)
            · have HK4 := hideIt (HKP.out.trans ((KpS.of_below HBW.out.size lA lB lL HB3.out).trans hK4))
              have HJ4 := hideIt hJ4
              clear hK4 hJ4
              gi_wp2
              exact ⟨⟨I + 1, K + 1, by go_num, by go_num, _, (HE3.out HL2.out HL1.out), HJ4.out, HK4.out⟩, by simp [intOf]; omega⟩
            · gi_wp2
              exact bodyPost_ret (results_none (by rfl) _ _ _) rfl ⟨⟨_, rfl⟩, .inr ⟨_, ⟨_, _, (HE3.out HL2.out HL1.out)⟩, hx4⟩⟩
        · skip
          as_aux_lemma =>
            replace f1 := (HB1.out.cell (p := ⟨Ba, 0, none⟩) lA).trans f1
            replace f2 := (HB1.out.cell (p := ⟨Bb, 0, none⟩) lB).trans f2
            have g14 := (blk_cell HX1.out 14).trans rfl
            replace a0 := (HB1.out.cell (p := ⟨ga, I * 7, none⟩) lga).trans a0
            replace a1 := (HB1.out.cell (p := ⟨ga, I * 7 + 1, none⟩) lga).trans a1
            replace a2 := (HB1.out.cell (p := ⟨ga, I * 7 + 2, none⟩) lga).trans a2
            replace a3 := (HB1.out.cell (p := ⟨ga, I * 7 + 3, none⟩) lga).trans a3
            replace a4 := (HB1.out.cell (p := ⟨ga, I * 7 + 4, none⟩) lga).trans a4
            replace a5 := (HB1.out.cell (p := ⟨ga, I * 7 + 5, none⟩) lga).trans a5
            replace a6 := (HB1.out.cell (p := ⟨ga, I * 7 + 6, none⟩) lga).trans a6
            obtain ⟨W2, hk2, hX2, hb2⟩ := st_one W1 q _ _ _ _ _ _ _ _ _ _ _ _ _ _ _ _ x HX1.out
            have HX2 := hideIt hX2
            have HB2 := hideIt (HB1.out.trans (hb2.mono hq))
            clear hX2 hb2 HB1 HX1
            have g15 := (blk_cell HX2.out 15).trans rfl
            have p0 := (blk_cell HX2.out 0).trans rfl
            have p1 := (blk_cell HX2.out 1).trans rfl
            have p2 := (blk_cell HX2.out 2).trans rfl
            have p3 := (blk_cell HX2.out 3).trans rfl
            have p4 := (blk_cell HX2.out 4).trans rfl
            have p5 := (blk_cell HX2.out 5).trans rfl
            have p6 := (blk_cell HX2.out 6).trans rfl
            have p7 := (blk_cell HX2.out 7).trans rfl
            have p8 := (blk_cell HX2.out 8).trans rfl
            have p9 := (blk_cell HX2.out 9).trans rfl
            have p10 := (blk_cell HX2.out 10).trans rfl
            have p11 := (blk_cell HX2.out 11).trans rfl
            have p12 := (blk_cell HX2.out 12).trans rfl
            have p13 := (blk_cell HX2.out 13).trans rfl
            have p14 := (blk_cell HX2.out 14).trans rfl
            have p15 := (blk_cell HX2.out 15).trans rfl
            have HJ2 := hideIt (abides_pr HJ.out HJP.out HB2.out)
            obtain ⟨fn, tmps, assign, body, hy, hR⟩ := HY.out (k - 1) ps ⟨x, noOp, true, false⟩ W2 HJ2.out (HLT.out (by omega))
            dsimp only [prV, noOp] at hy
            have HR := hideIt hR
            clear hR
            gi_wp2_with (first | (refine wpListIn_st rfl 71 _ _ rfl _ _ rfl rfl _ hk2 ?_) | gi_in)
            refine ⟨(fun h => by cases h), ?_⟩
            refine HR.out.mono ?_
            rintro e W4 (⟨rfl, hJ4, hK4⟩ | ⟨rfl, hx4⟩)
            · have HK4 := hideIt (HKP.out.trans ((KpS.of_below HBW.out.size lA lB lL HB2.out).trans hK4))
              have HJ4 := hideIt hJ4
              clear hK4 hJ4
              gi_wp2
              exact ⟨⟨I + 1, K, by go_num, rfl, _, (HE1.out HL2.out), HJ4.out, HK4.out⟩, by simp [intOf]; omega⟩
            · gi_wp2
              exact bodyPost_ret (results_none (by rfl) _ _ _) rfl ⟨⟨_, rfl⟩, .inr ⟨_, ⟨_, _, (HE1.out HL2.out)⟩, hx4⟩⟩
        · skip
          as_aux_lemma =>
            replace f1 := (HB1.out.cell (p := ⟨Ba, 0, none⟩) lA).trans f1
            replace f2 := (HB1.out.cell (p := ⟨Bb, 0, none⟩) lB).trans f2
            have g14 := (blk_cell HX1.out 14).trans rfl
            have g15 := (blk_cell HX1.out 15).trans rfl
            replace b0 := (HB1.out.cell (p := ⟨gb, K * 7, none⟩) lgb).trans b0
            replace b1 := (HB1.out.cell (p := ⟨gb, K * 7 + 1, none⟩) lgb).trans b1
            replace b2 := (HB1.out.cell (p := ⟨gb, K * 7 + 2, none⟩) lgb).trans b2
            replace b3 := (HB1.out.cell (p := ⟨gb, K * 7 + 3, none⟩) lgb).trans b3
            replace b4 := (HB1.out.cell (p := ⟨gb, K * 7 + 4, none⟩) lgb).trans b4
            replace b5 := (HB1.out.cell (p := ⟨gb, K * 7 + 5, none⟩) lgb).trans b5
            replace b6 := (HB1.out.cell (p := ⟨gb, K * 7 + 6, none⟩) lgb).trans b6
            obtain ⟨W3, hk3, hX3, hb3⟩ := st_other W1 q _ _ _ _ _ _ _ _ _ _ _ _ _ _ _ _ y HX1.out
            have HX3 := hideIt hX3
            have HB3 := hideIt (HB1.out.trans (hb3.mono hq))
            clear hX3 hb3 HB1 HX1
            have p0 := (blk_cell HX3.out 0).trans rfl
            have p1 := (blk_cell HX3.out 1).trans rfl
            have p2 := (blk_cell HX3.out 2).trans rfl
            have p3 := (blk_cell HX3.out 3).trans rfl
            have p4 := (blk_cell HX3.out 4).trans rfl
            have p5 := (blk_cell HX3.out 5).trans rfl
            have p6 := (blk_cell HX3.out 6).trans rfl
            have p7 := (blk_cell HX3.out 7).trans rfl
            have p8 := (blk_cell HX3.out 8).trans rfl
            have p9 := (blk_cell HX3.out 9).trans rfl
            have p10 := (blk_cell HX3.out 10).trans rfl
            have p11 := (blk_cell HX3.out 11).trans rfl
            have p12 := (blk_cell HX3.out 12).trans rfl
            have p13 := (blk_cell HX3.out 13).trans rfl
            have p14 := (blk_cell HX3.out 14).trans rfl
            have p15 := (blk_cell HX3.out 15).trans rfl
            have HJ2 := hideIt (abides_pr HJ.out HJP.out HB3.out)
            obtain ⟨fn, tmps, assign, body, hy, hR⟩ := HY.out (k - 1) ps ⟨noOp, y, false, true⟩ W3 HJ2.out (HLT.out (by omega))
            dsimp only [prV, noOp] at hy
            have HR := hideIt hR
            clear hR
            gi_wp2_with (first | (refine wpListIn_st rfl 71 _ _ rfl _ _ rfl rfl _ hk3 ?_) | gi_in)
            refine ⟨(fun h => by cases h), ?_⟩
            refine HR.out.mono ?_
            rintro e W4 (⟨rfl, hJ4, hK4⟩ | ⟨rfl, hx4⟩)
            · have HK4 := hideIt (HKP.out.trans ((KpS.of_below HBW.out.size lA lB lL HB3.out).trans hK4))
              have HJ4 := hideIt hJ4
              clear hK4 hJ4
              gi_wp2
              exact ⟨⟨I, K + 1, rfl, by go_num, _, (HE2.out HL1.out), HJ4.out, HK4.out⟩, by simp [intOf]; omega⟩
            · gi_wp2
              exact bodyPost_ret (results_none (by rfl) _ _ _) rfl ⟨⟨_, rfl⟩, .inr ⟨_, ⟨_, _, (HE2.out HL1.out)⟩, hx4⟩⟩
        · exact (HAS.out HL2.out HL1.out).elim
      · have e2 : K = b.length := by omega
        have HE : Hid (Walk a b (I + 1) K (ps ++ [⟨a[I], noOp, true, false⟩])) := HP.out.one hIa (.inl e2)
        subst e2
        clear HP
        generalize a[I] = x at *
        gi_wp2
        refine wpIn_wide.2 ?_
        refine wp_mono (reg_one a b I Ba Bb Bl lp ca cb (some ⟨ga, 0, none⟩) pb _ _ _ _ _ _ _ _ _ _ _ _ _ _ _ _ _ _ _ _ _ _ _ _ _ _ _ _ _ _ _ _ _ _ _ _ _ _ _ _ _ _ _ _ _ _ _ _ _ _ _ _ _ _ _ _ _ _ _ _ _ _ _ _ _ _ _ _ _ _ _ _ _ _ _ _ _ _ _ _ wr hna hnb hca hcb f1 f2 lA lB hIi hI0 hIe) ?_
        intro e a' W1 h
        cases e <;> first | exact h.elim | skip
        obtain ⟨q, hq, ⟨v8, v9, v10, v11, v12, v13, v14, v15, v16, v17, v18, v19, v20, v21, v22, v23, v24, v25, v26, v27, v28, v29, v30, v31, v32, v33, v34, v35, v36, v37, v38, v39, v40, v41, v42, v43, v44, v45, v46, v47, v48, v49, v50, v51, v52, v53, v54, v55, v56, v57, v58, v59, v60, v61, v62, v63, v64, rfl⟩, hX1, hB1⟩ := h
        have HX1 := hideIt hX1
        have HB1 := hideIt hB1
        clear hX1 hB1 f3
        as_aux_lemma =>
          replace f1 := (HB1.out.cell (p := ⟨Ba, 0, none⟩) lA).trans f1
          replace f2 := (HB1.out.cell (p := ⟨Bb, 0, none⟩) lB).trans f2
          have g14 := (blk_cell HX1.out 14).trans rfl
          replace a0 := (HB1.out.cell (p := ⟨ga, I * 7, none⟩) lga).trans a0
          replace a1 := (HB1.out.cell (p := ⟨ga, I * 7 + 1, none⟩) lga).trans a1
          replace a2 := (HB1.out.cell (p := ⟨ga, I * 7 + 2, none⟩) lga).trans a2
          replace a3 := (HB1.out.cell (p := ⟨ga, I * 7 + 3, none⟩) lga).trans a3
          replace a4 := (HB1.out.cell (p := ⟨ga, I * 7 + 4, none⟩) lga).trans a4
          replace a5 := (HB1.out.cell (p := ⟨ga, I * 7 + 5, none⟩) lga).trans a5
          replace a6 := (HB1.out.cell (p := ⟨ga, I * 7 + 6, none⟩) lga).trans a6
          obtain ⟨W2, hk2, hX2, hb2⟩ := st_one W1 q _ _ _ _ _ _ _ _ _ _ _ _ _ _ _ _ x HX1.out
          have HX2 := hideIt hX2
          have HB2 := hideIt (HB1.out.trans (hb2.mono hq))
          clear hX2 hb2 HB1 HX1
          have g15 := (blk_cell HX2.out 15).trans rfl
          have p0 := (blk_cell HX2.out 0).trans rfl
          have p1 := (blk_cell HX2.out 1).trans rfl
          have p2 := (blk_cell HX2.out 2).trans rfl
          have p3 := (blk_cell HX2.out 3).trans rfl
          have p4 := (blk_cell HX2.out 4).trans rfl
          have p5 := (blk_cell HX2.out 5).trans rfl
          have p6 := (blk_cell HX2.out 6).trans rfl
          have p7 := (blk_cell HX2.out 7).trans rfl
          have p8 := (blk_cell HX2.out 8).trans rfl
          have p9 := (blk_cell HX2.out 9).trans rfl
          have p10 := (blk_cell HX2.out 10).trans rfl
          have p11 := (blk_cell HX2.out 11).trans rfl
          have p12 := (blk_cell HX2.out 12).trans rfl
          have p13 := (blk_cell HX2.out 13).trans rfl
          have p14 := (blk_cell HX2.out 14).trans rfl
          have p15 := (blk_cell HX2.out 15).trans rfl
          have HJ2 := hideIt (abides_pr HJ.out HJP.out HB2.out)
          obtain ⟨fn, tmps, assign, body, hy, hR⟩ := HY.out (k - 1) ps ⟨x, noOp, true, false⟩ W2 HJ2.out (HLT.out (by omega))
          dsimp only [prV, noOp] at hy
          have HR := hideIt hR
          clear hR
          gi_wp2_with (first | (refine wpListIn_st rfl 71 _ _ rfl _ _ rfl rfl _ hk2 ?_) | gi_in)
          refine ⟨(fun h => by cases h), ?_⟩
          refine HR.out.mono ?_
          rintro e W4 (⟨rfl, hJ4, hK4⟩ | ⟨rfl, hx4⟩)
          · have HK4 := hideIt (HKP.out.trans ((KpS.of_below HBW.out.size lA lB lL HB2.out).trans hK4))
            have HJ4 := hideIt hJ4
            clear hK4 hJ4
            gi_wp2
            exact ⟨⟨I + 1, b.length, by go_num, rfl, _, HE.out, HJ4.out, HK4.out⟩, by simp [intOf]; omega⟩
          · gi_wp2
            exact bodyPost_ret (results_none (by rfl) _ _ _) rfl ⟨⟨_, rfl⟩, .inr ⟨_, ⟨_, _, HE.out⟩, hx4⟩⟩
    · by_cases hKb : K < b.length
      · obtain ⟨gb, rfl, hBw⟩ : ∃ g, pb = some ⟨g, 0, none⟩ ∧ OpsAt w0 g b := by
          rcases HB.out with h | h
          · rw [h] at hKb; simp at hKb
          · exact h
        obtain ⟨b0, b1, b2, b3, b4, b5, b6⟩ := (hBw.below HBW.out hBw.1).2 K b[K] (by simp [hKb])
        have lgb := (hBw.below HBW.out hBw.1).1
        have hKi : (K : Int) < (b.length : Int) := by omega
        have hK0 : (0 : Int) ≤ (K : Int) := by omega
        have hKe : ((K : Int) == (b.length : Int)) = false := by simp; omega
        have e1 : I = a.length := by omega
        have HE : Hid (Walk a b I (K + 1) (ps ++ [⟨noOp, b[K], false, true⟩])) := HP.out.other hKb (.inl e1)
        subst e1
        clear HP
        generalize b[K] = y at *
        gi_wp2
        refine wpIn_wide.2 ?_
        refine wp_mono (reg_other a b K Ba Bb Bl lp ca cb pa (some ⟨gb, 0, none⟩) _ _ _ _ _ _ _ _ _ _ _ _ _ _ _ _ _ _ _ _ _ _ _ _ _ _ _ _ _ _ _ _ _ _ _ _ _ _ _ _ _ _ _ _ _ _ _ _ _ _ _ _ _ _ _ _ _ _ _ _ _ _ _ _ _ _ _ _ _ _ _ _ _ _ _ _ _ _ _ _ wr hna hnb hca hcb f1 f2 lA lB hKi hK0 hKe) ?_
        intro e a' W1 h
        cases e <;> first | exact h.elim | skip
        obtain ⟨q, hq, ⟨v8, v9, v10, v11, v12, v13, v14, v15, v16, v17, v18, v19, v20, v21, v22, v23, v24, v25, v26, v27, v28, v29, v30, v31, v32, v33, v34, v35, v36, v37, v38, v39, v40, v41, v42, v43, v44, v45, v46, v47, v48, v49, v50, v51, v52, v53, v54, v55, v56, v57, v58, v59, v60, v61, v62, v63, v64, rfl⟩, hX1, hB1⟩ := h
        have HX1 := hideIt hX1
        have HB1 := hideIt hB1
        clear hX1 hB1 f3
        as_aux_lemma =>
          replace f1 := (HB1.out.cell (p := ⟨Ba, 0, none⟩) lA).trans f1
          replace f2 := (HB1.out.cell (p := ⟨Bb, 0, none⟩) lB).trans f2
          have g14 := (blk_cell HX1.out 14).trans rfl
          have g15 := (blk_cell HX1.out 15).trans rfl
          replace b0 := (HB1.out.cell (p := ⟨gb, K * 7, none⟩) lgb).trans b0
          replace b1 := (HB1.out.cell (p := ⟨gb, K * 7 + 1, none⟩) lgb).trans b1
          replace b2 := (HB1.out.cell (p := ⟨gb, K * 7 + 2, none⟩) lgb).trans b2
          replace b3 := (HB1.out.cell (p := ⟨gb, K * 7 + 3, none⟩) lgb).trans b3
          replace b4 := (HB1.out.cell (p := ⟨gb, K * 7 + 4, none⟩) lgb).trans b4
          replace b5 := (HB1.out.cell (p := ⟨gb, K * 7 + 5, none⟩) lgb).trans b5
          replace b6 := (HB1.out.cell (p := ⟨gb, K * 7 + 6, none⟩) lgb).trans b6
          obtain ⟨W3, hk3, hX3, hb3⟩ := st_other W1 q _ _ _ _ _ _ _ _ _ _ _ _ _ _ _ _ y HX1.out
          have HX3 := hideIt hX3
          have HB3 := hideIt (HB1.out.trans (hb3.mono hq))
          clear hX3 hb3 HB1 HX1
          have p0 := (blk_cell HX3.out 0).trans rfl
          have p1 := (blk_cell HX3.out 1).trans rfl
          have p2 := (blk_cell HX3.out 2).trans rfl
          have p3 := (blk_cell HX3.out 3).trans rfl
          have p4 := (blk_cell HX3.out 4).trans rfl
          have p5 := (blk_cell HX3.out 5).trans rfl
          have p6 := (blk_cell HX3.out 6).trans rfl
          have p7 := (blk_cell HX3.out 7).trans rfl
          have p8 := (blk_cell HX3.out 8).trans rfl
          have p9 := (blk_cell HX3.out 9).trans rfl
          have p10 := (blk_cell HX3.out 10).trans rfl
          have p11 := (blk_cell HX3.out 11).trans rfl
          have p12 := (blk_cell HX3.out 12).trans rfl
          have p13 := (blk_cell HX3.out 13).trans rfl
          have p14 := (blk_cell HX3.out 14).trans rfl
          have p15 := (blk_cell HX3.out 15).trans rfl
          have HJ2 := hideIt (abides_pr HJ.out HJP.out HB3.out)
          obtain ⟨fn, tmps, assign, body, hy, hR⟩ := HY.out (k - 1) ps ⟨noOp, y, false, true⟩ W3 HJ2.out (HLT.out (by omega))
          dsimp only [prV, noOp] at hy
          have HR := hideIt hR
          clear hR
          gi_wp2_with (first | (refine wpListIn_st rfl 71 _ _ rfl _ _ rfl rfl _ hk3 ?_) | gi_in)
          refine ⟨(fun h => by cases h), ?_⟩
          refine HR.out.mono ?_
          rintro e W4 (⟨rfl, hJ4, hK4⟩ | ⟨rfl, hx4⟩)
          · have HK4 := hideIt (HKP.out.trans ((KpS.of_below HBW.out.size lA lB lL HB3.out).trans hK4))
            have HJ4 := hideIt hJ4
            clear hK4 hJ4
            gi_wp2
            exact ⟨⟨a.length, K + 1, rfl, by go_num, _, HE.out, HJ4.out, HK4.out⟩, by simp [intOf]; omega⟩
          · gi_wp2
            exact bodyPost_ret (results_none (by rfl) _ _ _) rfl ⟨⟨_, rfl⟩, .inr ⟨_, ⟨_, _, HE.out⟩, hx4⟩⟩
      · have e1 : I = a.length := by omega
        have e2 : K = b.length := by omega
        have HE : Hid (Walk a b a.length b.length ps) := by rw [e1, e2] at HP; exact HP
        clear HP
        subst e1
        subst e2
        gi_wp2
        go_end0
        exact ⟨⟨_, rfl⟩, .inl ⟨_, HE.out, HJP.out⟩⟩
end Go.Proofs.YtficnhlkefpfnaaDoor

namespace Go.Proofs.YtficnhlkefpfnaaDoor
open Go.RowKit Go.Shelf
set_option linter.unusedSimpArgs false
set_option linter.unusedVariables false

theorem OpsP.below {w W : World} {p : Option Addr} {l : List Op7} (h : OpsP w p l) (hb : Below w.heap.size w W) : OpsP W p l := by
  rcases h with h | ⟨g, h1, h2⟩
  · exact .inl h
  · exact .inr ⟨g, h1, h2.below hb h2.1⟩
theorem step_stops (a b : List Op7) (hna : a.length ≤ 1048576) (hnb : b.length ≤ 1048576) (pa pb : Option Addr) (ca cb Ba Bb Bl TL : Nat) (hca : a.length ≤ ca) (hcb : b.length ≤ cb) (w0 : World) (hA : OpsP w0 pa a) (hB : OpsP w0 pb b) (n : Nat) (w : World) (hW : Below w0.heap.size w0 w)
    (xa : w.heap[Ba]? = some (.cells #[.slice pa a.length ca] 24 (0, 0))) (xb : w.heap[Bb]? = some (.cells #[.slice pb b.length cb] 24 (0, 0))) (xl : w.heap[Bl]? = some (.cells #[.func (.func 74) #[] #[]] TL (0, 0))) :
    SeqStopsK Fence.wide n Tryd.prog 105 #[.pointer (some ⟨Ba, 0, none⟩), .pointer (some ⟨Bb, 0, none⟩), .pointer (some ⟨Bl, 0, none⟩)] (fun x : Pr => #[prV x]) (KpS w0.heap.size Ba Bb Bl) (fun xs => Walk a b a.length b.length xs) (fun pre => ∃ i j, Walk a b i j pre) (a.length + b.length) w := fun lp J Jx W hb hJ hJx hY h0 =>
  inStep1_in a b hna hnb pa pb ca cb Ba Bb Bl TL hca hcb w0 hA hB lp W.heap.size J Jx hJ (fun m pre x W1 h1 h2 => yield_any rfl m (hY pre x W1 h1 h2)) n W (hW.trans (hb.mono hW.size)) h0 (blk_bel7 xa hb) (blk_bel7 xb hb) (blk_bel7 xl hb)
theorem kpS_b {n0 Ba Bb Bl : Nat} {w : World} (hn : n0 ≤ w.heap.size) (h1 : Ba < w.heap.size) (h2 : Bb < w.heap.size) (h3 : Bl < w.heap.size) (W : World) (l : Nat) (o o' : Obj) (hl : w.heap.size ≤ l) (h : W.heap[l]? = some o) (hc : o.isCells = false) (hw : o.isWalk = false) : KpS n0 Ba Bb Bl W (W.putObj l o') :=
  ⟨belowK_b hn W l o o' hl h hc hw, World.putObj_heap_other (by omega), World.putObj_heap_other (by omega), World.putObj_heap_other (by omega)⟩
/-- The walk of what was put on the row of signs before: no pair has come. -/
theorem walk_all_ok {a b : List Op7} {i j : Nat} {ps : List Pr} (h : Walk a b i j ps) : i ≤ a.length ∧ j ≤ b.length := ⟨h.len.2.1, h.len.2.2⟩
end Go.Proofs.YtficnhlkefpfnaaDoor
