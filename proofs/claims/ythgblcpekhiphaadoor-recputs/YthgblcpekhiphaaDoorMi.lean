/- The reference's Put. -/
import Derived.Test.YthgblcpekhiphaaDoorMh
import Derived.Test.YthgblcpekhiphaaDoorMf
import Derived.Test.YthgblcpekhiphaaDoorRows
import Derived.Test.YthgblcpekhiphaaDoorMa
import Derived.Test.YthgblcpekhiphaaDoorMb
import Derived.ProofKit
import Derived.LaidMore
import Derived.OpenShut
import Derived.Stop.Joined
import Derived.Lib.LaidTab
import Derived.Stop.LaidErr
set_option linter.all false
namespace Go.Proofs.YthgblcpekhiphaaDoor
open Go Go.RowKit
set_option maxRecDepth 8000
set_option linter.all false
theorem comB_1 (x : Rc) (h : rightB x = true) (hk : x.kind = 1) : comB x = comC x := by unfold comB; rw [if_pos (by simp [hk, h])]
theorem put_1f (x : Rc) (h : rightB x = true) (hk : x.kind = 1) : numI x.kind ++ numI x.saga ++ numI (x.steps.length : Int) ++ stepsL x.steps ++ digL (comB x) = putB x false := by
  unfold putB
  rw [if_neg (by simp), ← sealed_1 x h hk, comB_1 x h hk]
  unfold hdL
  simp [digL_hL]
theorem put_1g (x : Rc) (h : rightB x = true) (hk : x.kind = 1) (hg : x.gone = true) : numI x.kind ++ numI x.saga ++ numI (x.steps.length : Int) ++ stepsL x.steps ++ [fB x.gone] ++ digL (comB x) = putB x true := by
  unfold putB
  rw [if_pos rfl, ← open_1 x h hk, comB_1 x h hk, show comC x = x.com by unfold comC comR; rw [hg, if_pos rfl]]
  unfold hdL payL
  rw [hg, if_pos rfl]
  simp [digL_hL]
theorem put_1o (x : Rc) (h : rightB x = true) (hk : x.kind = 1) (hg : x.gone = false) (hd : x.data.length ≤ 60) : numI x.kind ++ numI x.saga ++ numI (x.steps.length : Int) ++ stepsL x.steps ++ [fB x.gone] ++ digL x.salt ++ (numL x.data.length ++ x.data) = putB x true := by
  unfold putB
  rw [if_pos rfl, ← open_1 x h hk]
  unfold hdL payL
  rw [hg, if_neg (by simp), numI_nat x.data.length (by omega)]
  simp [digL_hL]
theorem RCEQ (x : Rc) : numI x.kind ++ (numI x.saga ++ (numI x.seq ++ (numI x.step ++ (numI x.tr ++ [fB x.back]))) ++ fB x.good :: (numI x.part ++ (numI x.epoch ++ hL x.tag))) = numI x.kind ++ numI x.saga ++ numI x.seq ++ numI x.step ++ numI x.tr ++ [fB x.back] ++ [fB x.good] ++ numI x.part ++ numI x.epoch ++ digL x.tag := by simp [digL_hL]
set_option maxHeartbeats 16000000 in
theorem RPut_cv (v : Value) (x : Rc) (q : Bool) (w : World) (h : RecV w v x) (hT : Tables w) : Cv 21 #[v, .bool q] w (svRd (putB x q)) := by
  obtain ⟨sv, dv, rfl, hs, hd⟩ := h
  unfold Cv
  have HX : Hid (RecV w (.agg (rowA 109 (recF x sv dv))) x) := Lib.hid ⟨sv, dv, rfl, hs, hd⟩
  have HS := Lib.hid hs
  have HD := Lib.hid hd
  clear hs hd
  have HS0 := HS
  have HD0 := HD
  have HX0 := HX
  have HT0 := Lib.hid hT
  clear hT
  go_enter Tryd.func21, Tryd.ntmps21
  go_upto_region 1 with fail
  have r1 := rowIs_box w 27 109 (recF x sv dv)
  have hN := NewT.alloc w (.cells (rowA 109 (recF x sv dv)) 27)
  change Code.wp _ _ _ _ (w.alloc (.cells (rowA 109 (recF x sv dv)) 27))
  generalize w.alloc (.cells (rowA 109 (recF x sv dv)) 27) = W0 at r1 hN ⊢
  have R1 := Lib.hid r1
  have HN := Lib.hid hN
  replace HX := Lib.hid (hN.recV HX.out)
  replace HS := Lib.hid (hN.pairs HS.out)
  replace HD := Lib.hid (hN.rd HD.out)
  clear r1 hN
  have HT := Lib.hid (HN.out.tables HT0.out)
  refine wp_region_steps0 NewT [SV.eq (.agg (rowA 109 (recF x sv dv))), SV.eq (.bool (rightB x)), SV.eq (.bool (!(rightB x)))] [([(2, none)], none), ([(8, some 0)], none), ([(9, some 1)], none)] 162 3 rfl rfl (by kernel_rfl) NewT.trans (NewT.refl _) (Nat.le_of_ble_eq_true rfl) ⟨?_, ?_, ?_, trivial⟩ ?_
  · intro a wx hT hF K hK
    obtain ⟨f2, _⟩ := hF
    have f2 : a.tmps.getD 2 undef = .pointer (some ⟨w.heap.size, 0, none⟩) := f2
    refine rely_wp rfl ?_
    exact opr_ldR (hT.row R1.out) rfl f2 (hK _ _ (NewT.refl _) rfl)
  · intro a wx hT hF K hK
    obtain ⟨f8, _⟩ := hF
    have f8 : a.tmps.getD 8 undef = .agg (rowA 109 (recF x sv dv)) := f8
    refine rely_wp rfl ?_
    exact opr_cv (RRight_cv _ x wx (hT.recV HX.out)) rfl Tryd.func12 (by kernel_rfl) (by kernel_rfl) (by simp only [List.map_toArray, List.map_cons, List.map_nil, eval_tmp, f8]) hK
  · intro a wx hT hF K hK
    obtain ⟨f9, _⟩ := hF
    have f9 : a.tmps.getD 9 undef = .bool (rightB x) := f9
    refine rely_wp rfl ?_
    exact opr_not rfl f9 (hK _ _ (NewT.refl _) rfl)
  · intro w1 k1
    intro u h; obtain rfl := Eq.symm (h (by simp)); clear h
    intro u h; obtain rfl := Eq.symm (h (by simp)); clear h
    intro u h; obtain rfl := Eq.symm (h (by simp)); clear h
    refine relyEnd_nil rfl ?_
    refine wpList_end rfl ?_
    simp only [Act.put, List.setIfInBounds_toArray, List.set_cons_zero, List.set_cons_succ]
    go_simp
    replace R1 := Lib.hid (k1.row R1.out)
    replace HX := Lib.hid (k1.recV HX.out)
    replace HS := Lib.hid (k1.pairs HS.out)
    replace HD := Lib.hid (k1.rd HD.out)
    replace HT := Lib.hid (k1.tables HT.out)
    replace HN := Lib.hid (NewT.trans _ _ _ HN.out k1)
    clear k1
    cases hr : rightB x
    · have HB : Hid (putB x q = []) := Lib.hid (put_none x q hr)
      clear hr
      go_wp2
      go_ret
      exact ⟨_, rfl, HN.out, by rw [HB.out]; exact rdV_nil _ _⟩
    have HR := Lib.hid hr
    have hk6 : 0 ≤ x.kind ∧ x.kind ≤ 2147483647 := by have := right_kind x hr; omega
    have hkk := right_kind x hr
    have hd60 := right_data x hr
    have hs6 := right_steps x hr
    clear hr
    go_upto_region 3 with fail
    refine wp_region_steps0 NewT [SV.eq (.pointer (some ⟨w.heap.size, 0, none⟩)), SV.eq (.int .i64 (x.kind)), svOwn w (numI x.kind), svOwn w (numI x.kind)] [([(2, none)], none), ([(11, some 0)], none), ([(12, some 1)], none), ([(13, some 2)], none)] 162 4 rfl rfl (by kernel_rfl) NewT.trans (NewT.refl _) (Nat.le_of_ble_eq_true rfl) ⟨?_, ?_, ?_, ?_, trivial⟩ ?_
    · intro a wx hT hF K hK
      obtain ⟨f2, _⟩ := hF
      have f2 : a.tmps.getD 2 undef = .pointer (some ⟨w.heap.size, 0, none⟩) := f2
      refine rely_wp rfl ?_
      exact opr_fldR (by decide) rfl f2 (hK _ _ (NewT.refl _) rfl)
    · intro a wx hT hF K hK
      obtain ⟨f11, _⟩ := hF
      have f11 : a.tmps.getD 11 undef = .pointer (some ⟨w.heap.size, 0, none⟩) := f11
      refine rely_wp rfl ?_
      exact opr_ldI (hT.row R1.out) (by decide) rfl rfl f11 (hK _ _ (NewT.refl _) rfl)
    · intro a wx hT hF K hK
      obtain ⟨f12, _⟩ := hF
      have f12 : a.tmps.getD 12 undef = .int .i64 (x.kind) := f12
      refine rely_wp rfl ?_
      exact opr_cv (RefNum_own x.kind wx w hk6 (Nat.le_trans HN.out.out.size hT.out.size)) rfl Tryd.func40 (by kernel_rfl) (by kernel_rfl) (by simp only [List.map_toArray, List.map_cons, List.map_nil, eval_tmp, f12]) hK
    · intro a wx hT hF K hK
      obtain ⟨f13, _⟩ := hF
      replace f13 := show (svOwn w (numI x.kind)).pred (a.tmps.getD 13 undef) wx from f13
      refine rely_wp rfl ?_
      exact opr_move (.inr rfl) (hK _ _ (NewT.refl _) f13)
    · intro w3 k3
      intro u h; obtain rfl := Eq.symm (h (by simp)); clear h
      intro u h; obtain rfl := Eq.symm (h (by simp)); clear h
      intro _ _
      intro u5 h; have g5 := h (by simp); clear h; replace g5 := show (svOwn w (numI x.kind)).pred u5 w3 from g5
      refine relyEnd_nil rfl ?_
      refine wpList_end rfl ?_
      simp only [Act.put, List.setIfInBounds_toArray, List.set_cons_zero, List.set_cons_succ]
      go_simp
      have HO := Lib.hid g5
      replace R1 := Lib.hid (k3.row R1.out)
      replace HX := Lib.hid (k3.recV HX.out)
      replace HS := Lib.hid (k3.pairs HS.out)
      replace HD := Lib.hid (k3.rd HD.out)
      replace HT := Lib.hid (k3.tables HT.out)
      replace HN := Lib.hid (NewT.trans _ _ _ HN.out k3)
      clear k3
      have l3 : (numI x.kind).length ≤ 5 := numI_length _
      obtain ⟨c3, E3⟩ : ∃ c, numI x.kind = c := ⟨_, rfl⟩
      have HE3 := Lib.hid E3
      rw [E3] at HO l3
      clear g5 E3 HX
      generalize u5 = v3 at *
      have c0 : w3.cell? ⟨w.heap.size, 0, none⟩ = some (.int .i64 x.kind) := R1.out.cell (by omega)
      by_cases hk : x.kind = 2
      · have HK := Lib.hid hk
        rw [hk] at c0
        clear hk
        go_upto_region 25 with fail
        refine wp_region_steps0 NewT [SV.eq (v3), SV.eq (.pointer (some ⟨w.heap.size, 1, none⟩)), SV.eq (.int .i64 (x.saga)), svRd (numI x.saga)] [([(5, none)], none), ([(2, none)], none), ([(96, some 1)], none), ([(97, some 2)], none)] 162 4 rfl rfl (by kernel_rfl) NewT.trans (NewT.refl _) (Nat.le_of_ble_eq_true rfl) ⟨?_, ?_, ?_, ?_, trivial⟩ ?_
        · intro a wx hT hF K hK
          obtain ⟨f5, _⟩ := hF
          have f5 : a.tmps.getD 5 undef = v3 := f5
          refine rely_wp rfl ?_
          exact opr_move (.inl rfl) (hK _ _ (NewT.refl _) f5)
        · intro a wx hT hF K hK
          obtain ⟨f2, _⟩ := hF
          have f2 : a.tmps.getD 2 undef = .pointer (some ⟨w.heap.size, 0, none⟩) := f2
          refine rely_wp rfl ?_
          exact opr_fldR (by decide) rfl f2 (hK _ _ (NewT.refl _) rfl)
        · intro a wx hT hF K hK
          obtain ⟨f96, _⟩ := hF
          have f96 : a.tmps.getD 96 undef = .pointer (some ⟨w.heap.size, 1, none⟩) := f96
          refine rely_wp rfl ?_
          exact opr_ldI (hT.row R1.out) (by decide) rfl rfl f96 (hK _ _ (NewT.refl _) rfl)
        · intro a wx hT hF K hK
          obtain ⟨f97, _⟩ := hF
          have f97 : a.tmps.getD 97 undef = .int .i64 (x.saga) := f97
          refine rely_wp rfl ?_
          exact opr_cv (RefNum_rd x.saga _ wx rfl) rfl Tryd.func40 (by kernel_rfl) (by kernel_rfl) (by simp only [List.map_toArray, List.map_cons, List.map_nil, eval_tmp, f97]) hK
        · intro e25 j25
          intro u h; obtain rfl := Eq.symm (h (by simp)); clear h
          intro u h; obtain rfl := Eq.symm (h (by simp)); clear h
          intro u h; obtain rfl := Eq.symm (h (by simp)); clear h
          intro u98 h; have g98 := h (by simp); clear h; replace g98 := show (svRd (numI x.saga)).pred u98 e25 from g98
          refine relyEnd_nil rfl ?_
          simp only [Act.put, List.setIfInBounds_toArray, List.set_cons_zero, List.set_cons_succ]
          have hp25 : (numI x.saga).length ≤ 5 := numI_length _
          obtain ⟨v25, w25, hr, ho, hB, hk⟩ := app_two (SV.stable _ _ _ _ HO.out j25) (Nat.le_trans HN.out.out.size j25.out.size) g98 (by have := hp25; have := l3; omega) 25
          replace R1 := Lib.hid (hk _ _ _ _ (by decide) (j25.row R1.out))
          replace HN := Lib.hid (NewT.of ((NewT.trans _ _ _ HN.out j25).out.trans hB))
          replace HS := Lib.hid (HN.out.pairs HS0.out)
          replace HD := Lib.hid (HN.out.rd HD0.out)
          replace HT := Lib.hid (HN.out.tables HT0.out)
          replace HO := Lib.hid ho
          clear ho hB hk
          refine wpList_plain rfl (fun K hK => ?_)
          refine opr_append rfl rfl rfl hr (hK _ _ ?_)
          clear hK K hr j25
          refine wpList_plain rfl (fun K hK => ?_)
          refine opr_move (.inr rfl) (hK _ _ ?_)
          clear hK K
          refine wpList_end rfl ?_
          go_simp
          obtain ⟨c25, E25⟩ : ∃ c, c3 ++ (numI x.saga) = c := ⟨_, rfl⟩
          rw [E25] at HO
          have HE25 := Lib.hid E25
          have l25 : c25.length ≤ 10 := by rw [← E25, List.length_append]; have := hp25; omega
          clear E25 hp25 l3
          clear c0
          go_upto_region 26 with fail
          refine wp_region_steps0 NewT [SV.eq (v25), SV.eq (.pointer (some ⟨w.heap.size, 2, none⟩)), SV.eq (.int .i64 (x.seq)), svRd (numI x.seq)] [([(5, none)], none), ([(2, none)], none), ([(101, some 1)], none), ([(102, some 2)], none)] 162 4 rfl rfl (by kernel_rfl) NewT.trans (NewT.refl _) (Nat.le_of_ble_eq_true rfl) ⟨?_, ?_, ?_, ?_, trivial⟩ ?_
          · intro a wx hT hF K hK
            obtain ⟨f5, _⟩ := hF
            have f5 : a.tmps.getD 5 undef = v25 := f5
            refine rely_wp rfl ?_
            exact opr_move (.inl rfl) (hK _ _ (NewT.refl _) f5)
          · intro a wx hT hF K hK
            obtain ⟨f2, _⟩ := hF
            have f2 : a.tmps.getD 2 undef = .pointer (some ⟨w.heap.size, 0, none⟩) := f2
            refine rely_wp rfl ?_
            exact opr_fldR (by decide) rfl f2 (hK _ _ (NewT.refl _) rfl)
          · intro a wx hT hF K hK
            obtain ⟨f101, _⟩ := hF
            have f101 : a.tmps.getD 101 undef = .pointer (some ⟨w.heap.size, 2, none⟩) := f101
            refine rely_wp rfl ?_
            exact opr_ldI (hT.row R1.out) (by decide) rfl rfl f101 (hK _ _ (NewT.refl _) rfl)
          · intro a wx hT hF K hK
            obtain ⟨f102, _⟩ := hF
            have f102 : a.tmps.getD 102 undef = .int .i64 (x.seq) := f102
            refine rely_wp rfl ?_
            exact opr_cv (RefNum_rd x.seq _ wx rfl) rfl Tryd.func40 (by kernel_rfl) (by kernel_rfl) (by simp only [List.map_toArray, List.map_cons, List.map_nil, eval_tmp, f102]) hK
          · intro e26 j26
            intro u h; obtain rfl := Eq.symm (h (by simp)); clear h
            intro u h; obtain rfl := Eq.symm (h (by simp)); clear h
            intro u h; obtain rfl := Eq.symm (h (by simp)); clear h
            intro u103 h; have g103 := h (by simp); clear h; replace g103 := show (svRd (numI x.seq)).pred u103 e26 from g103
            refine relyEnd_nil rfl ?_
            simp only [Act.put, List.setIfInBounds_toArray, List.set_cons_zero, List.set_cons_succ]
            have hp26 : (numI x.seq).length ≤ 5 := numI_length _
            obtain ⟨v26, w26, hr, ho, hB, hk⟩ := app_two (SV.stable _ _ _ _ HO.out j26) (Nat.le_trans HN.out.out.size j26.out.size) g103 (by have := hp26; have := l25; omega) 25
            replace R1 := Lib.hid (hk _ _ _ _ (by decide) (j26.row R1.out))
            replace HN := Lib.hid (NewT.of ((NewT.trans _ _ _ HN.out j26).out.trans hB))
            replace HS := Lib.hid (HN.out.pairs HS0.out)
            replace HD := Lib.hid (HN.out.rd HD0.out)
            replace HT := Lib.hid (HN.out.tables HT0.out)
            replace HO := Lib.hid ho
            clear ho hB hk
            refine wpList_plain rfl (fun K hK => ?_)
            refine opr_append rfl rfl rfl hr (hK _ _ ?_)
            clear hK K hr j26
            refine wpList_plain rfl (fun K hK => ?_)
            refine opr_move (.inr rfl) (hK _ _ ?_)
            clear hK K
            refine wpList_end rfl ?_
            go_simp
            obtain ⟨c26, E26⟩ : ∃ c, c25 ++ (numI x.seq) = c := ⟨_, rfl⟩
            rw [E26] at HO
            have HE26 := Lib.hid E26
            have l26 : c26.length ≤ 15 := by rw [← E26, List.length_append]; have := hp26; omega
            clear E26 hp26 l25
            go_upto_region 27 with fail
            refine wp_region_steps0 NewT [SV.eq (v26), SV.eq (.pointer (some ⟨w.heap.size, 3, none⟩)), SV.eq (.int .i64 (x.step)), svRd (numI x.step)] [([(5, none)], none), ([(2, none)], none), ([(106, some 1)], none), ([(107, some 2)], none)] 162 4 rfl rfl (by kernel_rfl) NewT.trans (NewT.refl _) (Nat.le_of_ble_eq_true rfl) ⟨?_, ?_, ?_, ?_, trivial⟩ ?_
            · intro a wx hT hF K hK
              obtain ⟨f5, _⟩ := hF
              have f5 : a.tmps.getD 5 undef = v26 := f5
              refine rely_wp rfl ?_
              exact opr_move (.inl rfl) (hK _ _ (NewT.refl _) f5)
            · intro a wx hT hF K hK
              obtain ⟨f2, _⟩ := hF
              have f2 : a.tmps.getD 2 undef = .pointer (some ⟨w.heap.size, 0, none⟩) := f2
              refine rely_wp rfl ?_
              exact opr_fldR (by decide) rfl f2 (hK _ _ (NewT.refl _) rfl)
            · intro a wx hT hF K hK
              obtain ⟨f106, _⟩ := hF
              have f106 : a.tmps.getD 106 undef = .pointer (some ⟨w.heap.size, 3, none⟩) := f106
              refine rely_wp rfl ?_
              exact opr_ldI (hT.row R1.out) (by decide) rfl rfl f106 (hK _ _ (NewT.refl _) rfl)
            · intro a wx hT hF K hK
              obtain ⟨f107, _⟩ := hF
              have f107 : a.tmps.getD 107 undef = .int .i64 (x.step) := f107
              refine rely_wp rfl ?_
              exact opr_cv (RefNum_rd x.step _ wx rfl) rfl Tryd.func40 (by kernel_rfl) (by kernel_rfl) (by simp only [List.map_toArray, List.map_cons, List.map_nil, eval_tmp, f107]) hK
            · intro e27 j27
              intro u h; obtain rfl := Eq.symm (h (by simp)); clear h
              intro u h; obtain rfl := Eq.symm (h (by simp)); clear h
              intro u h; obtain rfl := Eq.symm (h (by simp)); clear h
              intro u108 h; have g108 := h (by simp); clear h; replace g108 := show (svRd (numI x.step)).pred u108 e27 from g108
              refine relyEnd_nil rfl ?_
              simp only [Act.put, List.setIfInBounds_toArray, List.set_cons_zero, List.set_cons_succ]
              have hp27 : (numI x.step).length ≤ 5 := numI_length _
              obtain ⟨v27, w27, hr, ho, hB, hk⟩ := app_two (SV.stable _ _ _ _ HO.out j27) (Nat.le_trans HN.out.out.size j27.out.size) g108 (by have := hp27; have := l26; omega) 25
              replace R1 := Lib.hid (hk _ _ _ _ (by decide) (j27.row R1.out))
              replace HN := Lib.hid (NewT.of ((NewT.trans _ _ _ HN.out j27).out.trans hB))
              replace HS := Lib.hid (HN.out.pairs HS0.out)
              replace HD := Lib.hid (HN.out.rd HD0.out)
              replace HT := Lib.hid (HN.out.tables HT0.out)
              replace HO := Lib.hid ho
              clear ho hB hk
              refine wpList_plain rfl (fun K hK => ?_)
              refine opr_append rfl rfl rfl hr (hK _ _ ?_)
              clear hK K hr j27
              refine wpList_plain rfl (fun K hK => ?_)
              refine opr_move (.inr rfl) (hK _ _ ?_)
              clear hK K
              refine wpList_end rfl ?_
              go_simp
              obtain ⟨c27, E27⟩ : ∃ c, c26 ++ (numI x.step) = c := ⟨_, rfl⟩
              rw [E27] at HO
              have HE27 := Lib.hid E27
              have l27 : c27.length ≤ 20 := by rw [← E27, List.length_append]; have := hp27; omega
              clear E27 hp27 l26
              go_upto_region 28 with fail
              refine wp_region_steps0 NewT [SV.eq (v27), SV.eq (.pointer (some ⟨w.heap.size, 4, none⟩)), SV.eq (.int .i64 (x.tr)), svRd (numI x.tr)] [([(5, none)], none), ([(2, none)], none), ([(111, some 1)], none), ([(112, some 2)], none)] 162 4 rfl rfl (by kernel_rfl) NewT.trans (NewT.refl _) (Nat.le_of_ble_eq_true rfl) ⟨?_, ?_, ?_, ?_, trivial⟩ ?_
              · intro a wx hT hF K hK
                obtain ⟨f5, _⟩ := hF
                have f5 : a.tmps.getD 5 undef = v27 := f5
                refine rely_wp rfl ?_
                exact opr_move (.inl rfl) (hK _ _ (NewT.refl _) f5)
              · intro a wx hT hF K hK
                obtain ⟨f2, _⟩ := hF
                have f2 : a.tmps.getD 2 undef = .pointer (some ⟨w.heap.size, 0, none⟩) := f2
                refine rely_wp rfl ?_
                exact opr_fldR (by decide) rfl f2 (hK _ _ (NewT.refl _) rfl)
              · intro a wx hT hF K hK
                obtain ⟨f111, _⟩ := hF
                have f111 : a.tmps.getD 111 undef = .pointer (some ⟨w.heap.size, 4, none⟩) := f111
                refine rely_wp rfl ?_
                exact opr_ldI (hT.row R1.out) (by decide) rfl rfl f111 (hK _ _ (NewT.refl _) rfl)
              · intro a wx hT hF K hK
                obtain ⟨f112, _⟩ := hF
                have f112 : a.tmps.getD 112 undef = .int .i64 (x.tr) := f112
                refine rely_wp rfl ?_
                exact opr_cv (RefNum_rd x.tr _ wx rfl) rfl Tryd.func40 (by kernel_rfl) (by kernel_rfl) (by simp only [List.map_toArray, List.map_cons, List.map_nil, eval_tmp, f112]) hK
              · intro e28 j28
                intro u h; obtain rfl := Eq.symm (h (by simp)); clear h
                intro u h; obtain rfl := Eq.symm (h (by simp)); clear h
                intro u h; obtain rfl := Eq.symm (h (by simp)); clear h
                intro u113 h; have g113 := h (by simp); clear h; replace g113 := show (svRd (numI x.tr)).pred u113 e28 from g113
                refine relyEnd_nil rfl ?_
                simp only [Act.put, List.setIfInBounds_toArray, List.set_cons_zero, List.set_cons_succ]
                have hp28 : (numI x.tr).length ≤ 5 := numI_length _
                obtain ⟨v28, w28, hr, ho, hB, hk⟩ := app_two (SV.stable _ _ _ _ HO.out j28) (Nat.le_trans HN.out.out.size j28.out.size) g113 (by have := hp28; have := l27; omega) 25
                replace R1 := Lib.hid (hk _ _ _ _ (by decide) (j28.row R1.out))
                replace HN := Lib.hid (NewT.of ((NewT.trans _ _ _ HN.out j28).out.trans hB))
                replace HS := Lib.hid (HN.out.pairs HS0.out)
                replace HD := Lib.hid (HN.out.rd HD0.out)
                replace HT := Lib.hid (HN.out.tables HT0.out)
                replace HO := Lib.hid ho
                clear ho hB hk
                refine wpList_plain rfl (fun K hK => ?_)
                refine opr_append rfl rfl rfl hr (hK _ _ ?_)
                clear hK K hr j28
                refine wpList_plain rfl (fun K hK => ?_)
                refine opr_move (.inr rfl) (hK _ _ ?_)
                clear hK K
                refine wpList_end rfl ?_
                go_simp
                obtain ⟨c28, E28⟩ : ∃ c, c27 ++ (numI x.tr) = c := ⟨_, rfl⟩
                rw [E28] at HO
                have HE28 := Lib.hid E28
                have l28 : c28.length ≤ 25 := by rw [← E28, List.length_append]; have := hp28; omega
                clear E28 hp28 l27
                go_upto_region 29 with fail
                refine wp_region_steps0 NewT [SV.eq (v28), SV.eq (.pointer (some ⟨w.heap.size, 5, none⟩)), SV.eq (.bool (x.back)), SV.eq (.int .u8 (bN (fB x.back))), svRd ([fB x.back])] [([(5, none)], none), ([(2, none)], none), ([(116, some 1)], none), ([(117, some 2)], none), ([(118, some 3)], none)] 162 5 rfl rfl (by kernel_rfl) NewT.trans (NewT.refl _) (Nat.le_of_ble_eq_true rfl) ⟨?_, ?_, ?_, ?_, ?_, trivial⟩ ?_
                · intro a wx hT hF K hK
                  obtain ⟨f5, _⟩ := hF
                  have f5 : a.tmps.getD 5 undef = v28 := f5
                  refine rely_wp rfl ?_
                  exact opr_move (.inl rfl) (hK _ _ (NewT.refl _) f5)
                · intro a wx hT hF K hK
                  obtain ⟨f2, _⟩ := hF
                  have f2 : a.tmps.getD 2 undef = .pointer (some ⟨w.heap.size, 0, none⟩) := f2
                  refine rely_wp rfl ?_
                  exact opr_fldR (by decide) rfl f2 (hK _ _ (NewT.refl _) rfl)
                · intro a wx hT hF K hK
                  obtain ⟨f116, _⟩ := hF
                  have f116 : a.tmps.getD 116 undef = .pointer (some ⟨w.heap.size, 5, none⟩) := f116
                  refine rely_wp rfl ?_
                  exact opr_ldQ (hT.row R1.out) (by decide) rfl rfl f116 (hK _ _ (NewT.refl _) rfl)
                · intro a wx hT hF K hK
                  obtain ⟨f117, _⟩ := hF
                  have f117 : a.tmps.getD 117 undef = .bool (x.back) := f117
                  refine rely_wp rfl ?_
                  exact opr_cv (flag_cv x.back wx) rfl Tryd.func41 (by kernel_rfl) (by kernel_rfl) (by simp only [List.map_toArray, List.map_cons, List.map_nil, eval_tmp, f117]) hK
                · intro a wx hT hF K hK
                  obtain ⟨f118, _⟩ := hF
                  have f118 : a.tmps.getD 118 undef = .int .u8 (bN (fB x.back)) := f118
                  refine rely_wp rfl ?_
                  exact opr_bsb1 rfl f118 hK
                · intro e29 j29
                  intro u h; obtain rfl := Eq.symm (h (by simp)); clear h
                  intro u h; obtain rfl := Eq.symm (h (by simp)); clear h
                  intro u h; obtain rfl := Eq.symm (h (by simp)); clear h
                  intro u h; obtain rfl := Eq.symm (h (by simp)); clear h
                  intro u119 h; have g119 := h (by simp); clear h; replace g119 := show (svRd ([fB x.back])).pred u119 e29 from g119
                  refine relyEnd_nil rfl ?_
                  simp only [Act.put, List.setIfInBounds_toArray, List.set_cons_zero, List.set_cons_succ]
                  have hp29 : ([fB x.back]).length ≤ 1 := by simp
                  obtain ⟨v29, w29, hr, ho, hB, hk⟩ := app_two (SV.stable _ _ _ _ HO.out j29) (Nat.le_trans HN.out.out.size j29.out.size) g119 (by have := hp29; have := l28; omega) 25
                  replace R1 := Lib.hid (hk _ _ _ _ (by decide) (j29.row R1.out))
                  replace HN := Lib.hid (NewT.of ((NewT.trans _ _ _ HN.out j29).out.trans hB))
                  replace HS := Lib.hid (HN.out.pairs HS0.out)
                  replace HD := Lib.hid (HN.out.rd HD0.out)
                  replace HT := Lib.hid (HN.out.tables HT0.out)
                  replace HO := Lib.hid ho
                  clear ho hB hk
                  refine wpList_plain rfl (fun K hK => ?_)
                  refine opr_append rfl rfl rfl hr (hK _ _ ?_)
                  clear hK K hr j29
                  refine wpList_plain rfl (fun K hK => ?_)
                  refine opr_move (.inr rfl) (hK _ _ ?_)
                  clear hK K
                  refine wpList_end rfl ?_
                  go_simp
                  obtain ⟨c29, E29⟩ : ∃ c, c28 ++ ([fB x.back]) = c := ⟨_, rfl⟩
                  rw [E29] at HO
                  have HE29 := Lib.hid E29
                  have l29 : c29.length ≤ 26 := by rw [← E29, List.length_append]; have := hp29; omega
                  clear E29 hp29 l28
                  have c0 : w29.cell? ⟨w.heap.size, 0, none⟩ = some (.int .i64 2) := by rw [← HK.out]; exact R1.out.cell (by omega)
                  go_wp2
                  go_ret
                  exact ⟨_, rfl, HN.out, by rw [← putB_other x q (callL x) HR.out (fun c => tail_2 x c (.inl HK.out))]; unfold callL; rw [HE3.out, ← List.append_assoc, HE25.out, ← List.append_assoc, HE26.out, ← List.append_assoc, HE27.out, ← List.append_assoc, HE28.out, HE29.out]; exact rdV_own HO.out rfl (by simp)⟩
      have n2 := hk
      have q2 : (x.kind == 2) = false := by simpa using hk
      clear hk
      by_cases hk : x.kind = 4
      · have HK := Lib.hid hk
        rw [hk] at c0
        clear hk
        go_upto_region 25 with fail
        refine wp_region_steps0 NewT [SV.eq (v3), SV.eq (.pointer (some ⟨w.heap.size, 1, none⟩)), SV.eq (.int .i64 (x.saga)), svRd (numI x.saga)] [([(5, none)], none), ([(2, none)], none), ([(96, some 1)], none), ([(97, some 2)], none)] 162 4 rfl rfl (by kernel_rfl) NewT.trans (NewT.refl _) (Nat.le_of_ble_eq_true rfl) ⟨?_, ?_, ?_, ?_, trivial⟩ ?_
        · intro a wx hT hF K hK
          obtain ⟨f5, _⟩ := hF
          have f5 : a.tmps.getD 5 undef = v3 := f5
          refine rely_wp rfl ?_
          exact opr_move (.inl rfl) (hK _ _ (NewT.refl _) f5)
        · intro a wx hT hF K hK
          obtain ⟨f2, _⟩ := hF
          have f2 : a.tmps.getD 2 undef = .pointer (some ⟨w.heap.size, 0, none⟩) := f2
          refine rely_wp rfl ?_
          exact opr_fldR (by decide) rfl f2 (hK _ _ (NewT.refl _) rfl)
        · intro a wx hT hF K hK
          obtain ⟨f96, _⟩ := hF
          have f96 : a.tmps.getD 96 undef = .pointer (some ⟨w.heap.size, 1, none⟩) := f96
          refine rely_wp rfl ?_
          exact opr_ldI (hT.row R1.out) (by decide) rfl rfl f96 (hK _ _ (NewT.refl _) rfl)
        · intro a wx hT hF K hK
          obtain ⟨f97, _⟩ := hF
          have f97 : a.tmps.getD 97 undef = .int .i64 (x.saga) := f97
          refine rely_wp rfl ?_
          exact opr_cv (RefNum_rd x.saga _ wx rfl) rfl Tryd.func40 (by kernel_rfl) (by kernel_rfl) (by simp only [List.map_toArray, List.map_cons, List.map_nil, eval_tmp, f97]) hK
        · intro e25 j25
          intro u h; obtain rfl := Eq.symm (h (by simp)); clear h
          intro u h; obtain rfl := Eq.symm (h (by simp)); clear h
          intro u h; obtain rfl := Eq.symm (h (by simp)); clear h
          intro u98 h; have g98 := h (by simp); clear h; replace g98 := show (svRd (numI x.saga)).pred u98 e25 from g98
          refine relyEnd_nil rfl ?_
          simp only [Act.put, List.setIfInBounds_toArray, List.set_cons_zero, List.set_cons_succ]
          have hp25 : (numI x.saga).length ≤ 5 := numI_length _
          obtain ⟨v25, w25, hr, ho, hB, hk⟩ := app_two (SV.stable _ _ _ _ HO.out j25) (Nat.le_trans HN.out.out.size j25.out.size) g98 (by have := hp25; have := l3; omega) 25
          replace R1 := Lib.hid (hk _ _ _ _ (by decide) (j25.row R1.out))
          replace HN := Lib.hid (NewT.of ((NewT.trans _ _ _ HN.out j25).out.trans hB))
          replace HS := Lib.hid (HN.out.pairs HS0.out)
          replace HD := Lib.hid (HN.out.rd HD0.out)
          replace HT := Lib.hid (HN.out.tables HT0.out)
          replace HO := Lib.hid ho
          clear ho hB hk
          refine wpList_plain rfl (fun K hK => ?_)
          refine opr_append rfl rfl rfl hr (hK _ _ ?_)
          clear hK K hr j25
          refine wpList_plain rfl (fun K hK => ?_)
          refine opr_move (.inr rfl) (hK _ _ ?_)
          clear hK K
          refine wpList_end rfl ?_
          go_simp
          obtain ⟨c25, E25⟩ : ∃ c, c3 ++ (numI x.saga) = c := ⟨_, rfl⟩
          rw [E25] at HO
          have HE25 := Lib.hid E25
          have l25 : c25.length ≤ 10 := by rw [← E25, List.length_append]; have := hp25; omega
          clear E25 hp25 l3
          clear c0
          go_upto_region 26 with fail
          refine wp_region_steps0 NewT [SV.eq (v25), SV.eq (.pointer (some ⟨w.heap.size, 2, none⟩)), SV.eq (.int .i64 (x.seq)), svRd (numI x.seq)] [([(5, none)], none), ([(2, none)], none), ([(101, some 1)], none), ([(102, some 2)], none)] 162 4 rfl rfl (by kernel_rfl) NewT.trans (NewT.refl _) (Nat.le_of_ble_eq_true rfl) ⟨?_, ?_, ?_, ?_, trivial⟩ ?_
          · intro a wx hT hF K hK
            obtain ⟨f5, _⟩ := hF
            have f5 : a.tmps.getD 5 undef = v25 := f5
            refine rely_wp rfl ?_
            exact opr_move (.inl rfl) (hK _ _ (NewT.refl _) f5)
          · intro a wx hT hF K hK
            obtain ⟨f2, _⟩ := hF
            have f2 : a.tmps.getD 2 undef = .pointer (some ⟨w.heap.size, 0, none⟩) := f2
            refine rely_wp rfl ?_
            exact opr_fldR (by decide) rfl f2 (hK _ _ (NewT.refl _) rfl)
          · intro a wx hT hF K hK
            obtain ⟨f101, _⟩ := hF
            have f101 : a.tmps.getD 101 undef = .pointer (some ⟨w.heap.size, 2, none⟩) := f101
            refine rely_wp rfl ?_
            exact opr_ldI (hT.row R1.out) (by decide) rfl rfl f101 (hK _ _ (NewT.refl _) rfl)
          · intro a wx hT hF K hK
            obtain ⟨f102, _⟩ := hF
            have f102 : a.tmps.getD 102 undef = .int .i64 (x.seq) := f102
            refine rely_wp rfl ?_
            exact opr_cv (RefNum_rd x.seq _ wx rfl) rfl Tryd.func40 (by kernel_rfl) (by kernel_rfl) (by simp only [List.map_toArray, List.map_cons, List.map_nil, eval_tmp, f102]) hK
          · intro e26 j26
            intro u h; obtain rfl := Eq.symm (h (by simp)); clear h
            intro u h; obtain rfl := Eq.symm (h (by simp)); clear h
            intro u h; obtain rfl := Eq.symm (h (by simp)); clear h
            intro u103 h; have g103 := h (by simp); clear h; replace g103 := show (svRd (numI x.seq)).pred u103 e26 from g103
            refine relyEnd_nil rfl ?_
            simp only [Act.put, List.setIfInBounds_toArray, List.set_cons_zero, List.set_cons_succ]
            have hp26 : (numI x.seq).length ≤ 5 := numI_length _
            obtain ⟨v26, w26, hr, ho, hB, hk⟩ := app_two (SV.stable _ _ _ _ HO.out j26) (Nat.le_trans HN.out.out.size j26.out.size) g103 (by have := hp26; have := l25; omega) 25
            replace R1 := Lib.hid (hk _ _ _ _ (by decide) (j26.row R1.out))
            replace HN := Lib.hid (NewT.of ((NewT.trans _ _ _ HN.out j26).out.trans hB))
            replace HS := Lib.hid (HN.out.pairs HS0.out)
            replace HD := Lib.hid (HN.out.rd HD0.out)
            replace HT := Lib.hid (HN.out.tables HT0.out)
            replace HO := Lib.hid ho
            clear ho hB hk
            refine wpList_plain rfl (fun K hK => ?_)
            refine opr_append rfl rfl rfl hr (hK _ _ ?_)
            clear hK K hr j26
            refine wpList_plain rfl (fun K hK => ?_)
            refine opr_move (.inr rfl) (hK _ _ ?_)
            clear hK K
            refine wpList_end rfl ?_
            go_simp
            obtain ⟨c26, E26⟩ : ∃ c, c25 ++ (numI x.seq) = c := ⟨_, rfl⟩
            rw [E26] at HO
            have HE26 := Lib.hid E26
            have l26 : c26.length ≤ 15 := by rw [← E26, List.length_append]; have := hp26; omega
            clear E26 hp26 l25
            go_upto_region 27 with fail
            refine wp_region_steps0 NewT [SV.eq (v26), SV.eq (.pointer (some ⟨w.heap.size, 3, none⟩)), SV.eq (.int .i64 (x.step)), svRd (numI x.step)] [([(5, none)], none), ([(2, none)], none), ([(106, some 1)], none), ([(107, some 2)], none)] 162 4 rfl rfl (by kernel_rfl) NewT.trans (NewT.refl _) (Nat.le_of_ble_eq_true rfl) ⟨?_, ?_, ?_, ?_, trivial⟩ ?_
            · intro a wx hT hF K hK
              obtain ⟨f5, _⟩ := hF
              have f5 : a.tmps.getD 5 undef = v26 := f5
              refine rely_wp rfl ?_
              exact opr_move (.inl rfl) (hK _ _ (NewT.refl _) f5)
            · intro a wx hT hF K hK
              obtain ⟨f2, _⟩ := hF
              have f2 : a.tmps.getD 2 undef = .pointer (some ⟨w.heap.size, 0, none⟩) := f2
              refine rely_wp rfl ?_
              exact opr_fldR (by decide) rfl f2 (hK _ _ (NewT.refl _) rfl)
            · intro a wx hT hF K hK
              obtain ⟨f106, _⟩ := hF
              have f106 : a.tmps.getD 106 undef = .pointer (some ⟨w.heap.size, 3, none⟩) := f106
              refine rely_wp rfl ?_
              exact opr_ldI (hT.row R1.out) (by decide) rfl rfl f106 (hK _ _ (NewT.refl _) rfl)
            · intro a wx hT hF K hK
              obtain ⟨f107, _⟩ := hF
              have f107 : a.tmps.getD 107 undef = .int .i64 (x.step) := f107
              refine rely_wp rfl ?_
              exact opr_cv (RefNum_rd x.step _ wx rfl) rfl Tryd.func40 (by kernel_rfl) (by kernel_rfl) (by simp only [List.map_toArray, List.map_cons, List.map_nil, eval_tmp, f107]) hK
            · intro e27 j27
              intro u h; obtain rfl := Eq.symm (h (by simp)); clear h
              intro u h; obtain rfl := Eq.symm (h (by simp)); clear h
              intro u h; obtain rfl := Eq.symm (h (by simp)); clear h
              intro u108 h; have g108 := h (by simp); clear h; replace g108 := show (svRd (numI x.step)).pred u108 e27 from g108
              refine relyEnd_nil rfl ?_
              simp only [Act.put, List.setIfInBounds_toArray, List.set_cons_zero, List.set_cons_succ]
              have hp27 : (numI x.step).length ≤ 5 := numI_length _
              obtain ⟨v27, w27, hr, ho, hB, hk⟩ := app_two (SV.stable _ _ _ _ HO.out j27) (Nat.le_trans HN.out.out.size j27.out.size) g108 (by have := hp27; have := l26; omega) 25
              replace R1 := Lib.hid (hk _ _ _ _ (by decide) (j27.row R1.out))
              replace HN := Lib.hid (NewT.of ((NewT.trans _ _ _ HN.out j27).out.trans hB))
              replace HS := Lib.hid (HN.out.pairs HS0.out)
              replace HD := Lib.hid (HN.out.rd HD0.out)
              replace HT := Lib.hid (HN.out.tables HT0.out)
              replace HO := Lib.hid ho
              clear ho hB hk
              refine wpList_plain rfl (fun K hK => ?_)
              refine opr_append rfl rfl rfl hr (hK _ _ ?_)
              clear hK K hr j27
              refine wpList_plain rfl (fun K hK => ?_)
              refine opr_move (.inr rfl) (hK _ _ ?_)
              clear hK K
              refine wpList_end rfl ?_
              go_simp
              obtain ⟨c27, E27⟩ : ∃ c, c26 ++ (numI x.step) = c := ⟨_, rfl⟩
              rw [E27] at HO
              have HE27 := Lib.hid E27
              have l27 : c27.length ≤ 20 := by rw [← E27, List.length_append]; have := hp27; omega
              clear E27 hp27 l26
              go_upto_region 28 with fail
              refine wp_region_steps0 NewT [SV.eq (v27), SV.eq (.pointer (some ⟨w.heap.size, 4, none⟩)), SV.eq (.int .i64 (x.tr)), svRd (numI x.tr)] [([(5, none)], none), ([(2, none)], none), ([(111, some 1)], none), ([(112, some 2)], none)] 162 4 rfl rfl (by kernel_rfl) NewT.trans (NewT.refl _) (Nat.le_of_ble_eq_true rfl) ⟨?_, ?_, ?_, ?_, trivial⟩ ?_
              · intro a wx hT hF K hK
                obtain ⟨f5, _⟩ := hF
                have f5 : a.tmps.getD 5 undef = v27 := f5
                refine rely_wp rfl ?_
                exact opr_move (.inl rfl) (hK _ _ (NewT.refl _) f5)
              · intro a wx hT hF K hK
                obtain ⟨f2, _⟩ := hF
                have f2 : a.tmps.getD 2 undef = .pointer (some ⟨w.heap.size, 0, none⟩) := f2
                refine rely_wp rfl ?_
                exact opr_fldR (by decide) rfl f2 (hK _ _ (NewT.refl _) rfl)
              · intro a wx hT hF K hK
                obtain ⟨f111, _⟩ := hF
                have f111 : a.tmps.getD 111 undef = .pointer (some ⟨w.heap.size, 4, none⟩) := f111
                refine rely_wp rfl ?_
                exact opr_ldI (hT.row R1.out) (by decide) rfl rfl f111 (hK _ _ (NewT.refl _) rfl)
              · intro a wx hT hF K hK
                obtain ⟨f112, _⟩ := hF
                have f112 : a.tmps.getD 112 undef = .int .i64 (x.tr) := f112
                refine rely_wp rfl ?_
                exact opr_cv (RefNum_rd x.tr _ wx rfl) rfl Tryd.func40 (by kernel_rfl) (by kernel_rfl) (by simp only [List.map_toArray, List.map_cons, List.map_nil, eval_tmp, f112]) hK
              · intro e28 j28
                intro u h; obtain rfl := Eq.symm (h (by simp)); clear h
                intro u h; obtain rfl := Eq.symm (h (by simp)); clear h
                intro u h; obtain rfl := Eq.symm (h (by simp)); clear h
                intro u113 h; have g113 := h (by simp); clear h; replace g113 := show (svRd (numI x.tr)).pred u113 e28 from g113
                refine relyEnd_nil rfl ?_
                simp only [Act.put, List.setIfInBounds_toArray, List.set_cons_zero, List.set_cons_succ]
                have hp28 : (numI x.tr).length ≤ 5 := numI_length _
                obtain ⟨v28, w28, hr, ho, hB, hk⟩ := app_two (SV.stable _ _ _ _ HO.out j28) (Nat.le_trans HN.out.out.size j28.out.size) g113 (by have := hp28; have := l27; omega) 25
                replace R1 := Lib.hid (hk _ _ _ _ (by decide) (j28.row R1.out))
                replace HN := Lib.hid (NewT.of ((NewT.trans _ _ _ HN.out j28).out.trans hB))
                replace HS := Lib.hid (HN.out.pairs HS0.out)
                replace HD := Lib.hid (HN.out.rd HD0.out)
                replace HT := Lib.hid (HN.out.tables HT0.out)
                replace HO := Lib.hid ho
                clear ho hB hk
                refine wpList_plain rfl (fun K hK => ?_)
                refine opr_append rfl rfl rfl hr (hK _ _ ?_)
                clear hK K hr j28
                refine wpList_plain rfl (fun K hK => ?_)
                refine opr_move (.inr rfl) (hK _ _ ?_)
                clear hK K
                refine wpList_end rfl ?_
                go_simp
                obtain ⟨c28, E28⟩ : ∃ c, c27 ++ (numI x.tr) = c := ⟨_, rfl⟩
                rw [E28] at HO
                have HE28 := Lib.hid E28
                have l28 : c28.length ≤ 25 := by rw [← E28, List.length_append]; have := hp28; omega
                clear E28 hp28 l27
                go_upto_region 29 with fail
                refine wp_region_steps0 NewT [SV.eq (v28), SV.eq (.pointer (some ⟨w.heap.size, 5, none⟩)), SV.eq (.bool (x.back)), SV.eq (.int .u8 (bN (fB x.back))), svRd ([fB x.back])] [([(5, none)], none), ([(2, none)], none), ([(116, some 1)], none), ([(117, some 2)], none), ([(118, some 3)], none)] 162 5 rfl rfl (by kernel_rfl) NewT.trans (NewT.refl _) (Nat.le_of_ble_eq_true rfl) ⟨?_, ?_, ?_, ?_, ?_, trivial⟩ ?_
                · intro a wx hT hF K hK
                  obtain ⟨f5, _⟩ := hF
                  have f5 : a.tmps.getD 5 undef = v28 := f5
                  refine rely_wp rfl ?_
                  exact opr_move (.inl rfl) (hK _ _ (NewT.refl _) f5)
                · intro a wx hT hF K hK
                  obtain ⟨f2, _⟩ := hF
                  have f2 : a.tmps.getD 2 undef = .pointer (some ⟨w.heap.size, 0, none⟩) := f2
                  refine rely_wp rfl ?_
                  exact opr_fldR (by decide) rfl f2 (hK _ _ (NewT.refl _) rfl)
                · intro a wx hT hF K hK
                  obtain ⟨f116, _⟩ := hF
                  have f116 : a.tmps.getD 116 undef = .pointer (some ⟨w.heap.size, 5, none⟩) := f116
                  refine rely_wp rfl ?_
                  exact opr_ldQ (hT.row R1.out) (by decide) rfl rfl f116 (hK _ _ (NewT.refl _) rfl)
                · intro a wx hT hF K hK
                  obtain ⟨f117, _⟩ := hF
                  have f117 : a.tmps.getD 117 undef = .bool (x.back) := f117
                  refine rely_wp rfl ?_
                  exact opr_cv (flag_cv x.back wx) rfl Tryd.func41 (by kernel_rfl) (by kernel_rfl) (by simp only [List.map_toArray, List.map_cons, List.map_nil, eval_tmp, f117]) hK
                · intro a wx hT hF K hK
                  obtain ⟨f118, _⟩ := hF
                  have f118 : a.tmps.getD 118 undef = .int .u8 (bN (fB x.back)) := f118
                  refine rely_wp rfl ?_
                  exact opr_bsb1 rfl f118 hK
                · intro e29 j29
                  intro u h; obtain rfl := Eq.symm (h (by simp)); clear h
                  intro u h; obtain rfl := Eq.symm (h (by simp)); clear h
                  intro u h; obtain rfl := Eq.symm (h (by simp)); clear h
                  intro u h; obtain rfl := Eq.symm (h (by simp)); clear h
                  intro u119 h; have g119 := h (by simp); clear h; replace g119 := show (svRd ([fB x.back])).pred u119 e29 from g119
                  refine relyEnd_nil rfl ?_
                  simp only [Act.put, List.setIfInBounds_toArray, List.set_cons_zero, List.set_cons_succ]
                  have hp29 : ([fB x.back]).length ≤ 1 := by simp
                  obtain ⟨v29, w29, hr, ho, hB, hk⟩ := app_two (SV.stable _ _ _ _ HO.out j29) (Nat.le_trans HN.out.out.size j29.out.size) g119 (by have := hp29; have := l28; omega) 25
                  replace R1 := Lib.hid (hk _ _ _ _ (by decide) (j29.row R1.out))
                  replace HN := Lib.hid (NewT.of ((NewT.trans _ _ _ HN.out j29).out.trans hB))
                  replace HS := Lib.hid (HN.out.pairs HS0.out)
                  replace HD := Lib.hid (HN.out.rd HD0.out)
                  replace HT := Lib.hid (HN.out.tables HT0.out)
                  replace HO := Lib.hid ho
                  clear ho hB hk
                  refine wpList_plain rfl (fun K hK => ?_)
                  refine opr_append rfl rfl rfl hr (hK _ _ ?_)
                  clear hK K hr j29
                  refine wpList_plain rfl (fun K hK => ?_)
                  refine opr_move (.inr rfl) (hK _ _ ?_)
                  clear hK K
                  refine wpList_end rfl ?_
                  go_simp
                  obtain ⟨c29, E29⟩ : ∃ c, c28 ++ ([fB x.back]) = c := ⟨_, rfl⟩
                  rw [E29] at HO
                  have HE29 := Lib.hid E29
                  have l29 : c29.length ≤ 26 := by rw [← E29, List.length_append]; have := hp29; omega
                  clear E29 hp29 l28
                  have c0 : w29.cell? ⟨w.heap.size, 0, none⟩ = some (.int .i64 4) := by rw [← HK.out]; exact R1.out.cell (by omega)
                  go_wp2
                  go_ret
                  exact ⟨_, rfl, HN.out, by rw [← putB_other x q (callL x) HR.out (fun c => tail_2 x c (.inr HK.out))]; unfold callL; rw [HE3.out, ← List.append_assoc, HE25.out, ← List.append_assoc, HE26.out, ← List.append_assoc, HE27.out, ← List.append_assoc, HE28.out, HE29.out]; exact rdV_own HO.out rfl (by simp)⟩
      have n4 := hk
      have q4 : (x.kind == 4) = false := by simpa using hk
      clear hk
      by_cases hk : x.kind = 3
      · have HK := Lib.hid hk
        rw [hk] at c0
        clear hk
        go_upto_region 25 with fail
        refine wp_region_steps0 NewT [SV.eq (v3), SV.eq (.pointer (some ⟨w.heap.size, 1, none⟩)), SV.eq (.int .i64 (x.saga)), svRd (numI x.saga)] [([(5, none)], none), ([(2, none)], none), ([(96, some 1)], none), ([(97, some 2)], none)] 162 4 rfl rfl (by kernel_rfl) NewT.trans (NewT.refl _) (Nat.le_of_ble_eq_true rfl) ⟨?_, ?_, ?_, ?_, trivial⟩ ?_
        · intro a wx hT hF K hK
          obtain ⟨f5, _⟩ := hF
          have f5 : a.tmps.getD 5 undef = v3 := f5
          refine rely_wp rfl ?_
          exact opr_move (.inl rfl) (hK _ _ (NewT.refl _) f5)
        · intro a wx hT hF K hK
          obtain ⟨f2, _⟩ := hF
          have f2 : a.tmps.getD 2 undef = .pointer (some ⟨w.heap.size, 0, none⟩) := f2
          refine rely_wp rfl ?_
          exact opr_fldR (by decide) rfl f2 (hK _ _ (NewT.refl _) rfl)
        · intro a wx hT hF K hK
          obtain ⟨f96, _⟩ := hF
          have f96 : a.tmps.getD 96 undef = .pointer (some ⟨w.heap.size, 1, none⟩) := f96
          refine rely_wp rfl ?_
          exact opr_ldI (hT.row R1.out) (by decide) rfl rfl f96 (hK _ _ (NewT.refl _) rfl)
        · intro a wx hT hF K hK
          obtain ⟨f97, _⟩ := hF
          have f97 : a.tmps.getD 97 undef = .int .i64 (x.saga) := f97
          refine rely_wp rfl ?_
          exact opr_cv (RefNum_rd x.saga _ wx rfl) rfl Tryd.func40 (by kernel_rfl) (by kernel_rfl) (by simp only [List.map_toArray, List.map_cons, List.map_nil, eval_tmp, f97]) hK
        · intro e25 j25
          intro u h; obtain rfl := Eq.symm (h (by simp)); clear h
          intro u h; obtain rfl := Eq.symm (h (by simp)); clear h
          intro u h; obtain rfl := Eq.symm (h (by simp)); clear h
          intro u98 h; have g98 := h (by simp); clear h; replace g98 := show (svRd (numI x.saga)).pred u98 e25 from g98
          refine relyEnd_nil rfl ?_
          simp only [Act.put, List.setIfInBounds_toArray, List.set_cons_zero, List.set_cons_succ]
          have hp25 : (numI x.saga).length ≤ 5 := numI_length _
          obtain ⟨v25, w25, hr, ho, hB, hk⟩ := app_two (SV.stable _ _ _ _ HO.out j25) (Nat.le_trans HN.out.out.size j25.out.size) g98 (by have := hp25; have := l3; omega) 25
          replace R1 := Lib.hid (hk _ _ _ _ (by decide) (j25.row R1.out))
          replace HN := Lib.hid (NewT.of ((NewT.trans _ _ _ HN.out j25).out.trans hB))
          replace HS := Lib.hid (HN.out.pairs HS0.out)
          replace HD := Lib.hid (HN.out.rd HD0.out)
          replace HT := Lib.hid (HN.out.tables HT0.out)
          replace HO := Lib.hid ho
          clear ho hB hk
          refine wpList_plain rfl (fun K hK => ?_)
          refine opr_append rfl rfl rfl hr (hK _ _ ?_)
          clear hK K hr j25
          refine wpList_plain rfl (fun K hK => ?_)
          refine opr_move (.inr rfl) (hK _ _ ?_)
          clear hK K
          refine wpList_end rfl ?_
          go_simp
          obtain ⟨c25, E25⟩ : ∃ c, c3 ++ (numI x.saga) = c := ⟨_, rfl⟩
          rw [E25] at HO
          have HE25 := Lib.hid E25
          have l25 : c25.length ≤ 10 := by rw [← E25, List.length_append]; have := hp25; omega
          clear E25 hp25 l3
          clear c0
          go_upto_region 26 with fail
          refine wp_region_steps0 NewT [SV.eq (v25), SV.eq (.pointer (some ⟨w.heap.size, 2, none⟩)), SV.eq (.int .i64 (x.seq)), svRd (numI x.seq)] [([(5, none)], none), ([(2, none)], none), ([(101, some 1)], none), ([(102, some 2)], none)] 162 4 rfl rfl (by kernel_rfl) NewT.trans (NewT.refl _) (Nat.le_of_ble_eq_true rfl) ⟨?_, ?_, ?_, ?_, trivial⟩ ?_
          · intro a wx hT hF K hK
            obtain ⟨f5, _⟩ := hF
            have f5 : a.tmps.getD 5 undef = v25 := f5
            refine rely_wp rfl ?_
            exact opr_move (.inl rfl) (hK _ _ (NewT.refl _) f5)
          · intro a wx hT hF K hK
            obtain ⟨f2, _⟩ := hF
            have f2 : a.tmps.getD 2 undef = .pointer (some ⟨w.heap.size, 0, none⟩) := f2
            refine rely_wp rfl ?_
            exact opr_fldR (by decide) rfl f2 (hK _ _ (NewT.refl _) rfl)
          · intro a wx hT hF K hK
            obtain ⟨f101, _⟩ := hF
            have f101 : a.tmps.getD 101 undef = .pointer (some ⟨w.heap.size, 2, none⟩) := f101
            refine rely_wp rfl ?_
            exact opr_ldI (hT.row R1.out) (by decide) rfl rfl f101 (hK _ _ (NewT.refl _) rfl)
          · intro a wx hT hF K hK
            obtain ⟨f102, _⟩ := hF
            have f102 : a.tmps.getD 102 undef = .int .i64 (x.seq) := f102
            refine rely_wp rfl ?_
            exact opr_cv (RefNum_rd x.seq _ wx rfl) rfl Tryd.func40 (by kernel_rfl) (by kernel_rfl) (by simp only [List.map_toArray, List.map_cons, List.map_nil, eval_tmp, f102]) hK
          · intro e26 j26
            intro u h; obtain rfl := Eq.symm (h (by simp)); clear h
            intro u h; obtain rfl := Eq.symm (h (by simp)); clear h
            intro u h; obtain rfl := Eq.symm (h (by simp)); clear h
            intro u103 h; have g103 := h (by simp); clear h; replace g103 := show (svRd (numI x.seq)).pred u103 e26 from g103
            refine relyEnd_nil rfl ?_
            simp only [Act.put, List.setIfInBounds_toArray, List.set_cons_zero, List.set_cons_succ]
            have hp26 : (numI x.seq).length ≤ 5 := numI_length _
            obtain ⟨v26, w26, hr, ho, hB, hk⟩ := app_two (SV.stable _ _ _ _ HO.out j26) (Nat.le_trans HN.out.out.size j26.out.size) g103 (by have := hp26; have := l25; omega) 25
            replace R1 := Lib.hid (hk _ _ _ _ (by decide) (j26.row R1.out))
            replace HN := Lib.hid (NewT.of ((NewT.trans _ _ _ HN.out j26).out.trans hB))
            replace HS := Lib.hid (HN.out.pairs HS0.out)
            replace HD := Lib.hid (HN.out.rd HD0.out)
            replace HT := Lib.hid (HN.out.tables HT0.out)
            replace HO := Lib.hid ho
            clear ho hB hk
            refine wpList_plain rfl (fun K hK => ?_)
            refine opr_append rfl rfl rfl hr (hK _ _ ?_)
            clear hK K hr j26
            refine wpList_plain rfl (fun K hK => ?_)
            refine opr_move (.inr rfl) (hK _ _ ?_)
            clear hK K
            refine wpList_end rfl ?_
            go_simp
            obtain ⟨c26, E26⟩ : ∃ c, c25 ++ (numI x.seq) = c := ⟨_, rfl⟩
            rw [E26] at HO
            have HE26 := Lib.hid E26
            have l26 : c26.length ≤ 15 := by rw [← E26, List.length_append]; have := hp26; omega
            clear E26 hp26 l25
            go_upto_region 27 with fail
            refine wp_region_steps0 NewT [SV.eq (v26), SV.eq (.pointer (some ⟨w.heap.size, 3, none⟩)), SV.eq (.int .i64 (x.step)), svRd (numI x.step)] [([(5, none)], none), ([(2, none)], none), ([(106, some 1)], none), ([(107, some 2)], none)] 162 4 rfl rfl (by kernel_rfl) NewT.trans (NewT.refl _) (Nat.le_of_ble_eq_true rfl) ⟨?_, ?_, ?_, ?_, trivial⟩ ?_
            · intro a wx hT hF K hK
              obtain ⟨f5, _⟩ := hF
              have f5 : a.tmps.getD 5 undef = v26 := f5
              refine rely_wp rfl ?_
              exact opr_move (.inl rfl) (hK _ _ (NewT.refl _) f5)
            · intro a wx hT hF K hK
              obtain ⟨f2, _⟩ := hF
              have f2 : a.tmps.getD 2 undef = .pointer (some ⟨w.heap.size, 0, none⟩) := f2
              refine rely_wp rfl ?_
              exact opr_fldR (by decide) rfl f2 (hK _ _ (NewT.refl _) rfl)
            · intro a wx hT hF K hK
              obtain ⟨f106, _⟩ := hF
              have f106 : a.tmps.getD 106 undef = .pointer (some ⟨w.heap.size, 3, none⟩) := f106
              refine rely_wp rfl ?_
              exact opr_ldI (hT.row R1.out) (by decide) rfl rfl f106 (hK _ _ (NewT.refl _) rfl)
            · intro a wx hT hF K hK
              obtain ⟨f107, _⟩ := hF
              have f107 : a.tmps.getD 107 undef = .int .i64 (x.step) := f107
              refine rely_wp rfl ?_
              exact opr_cv (RefNum_rd x.step _ wx rfl) rfl Tryd.func40 (by kernel_rfl) (by kernel_rfl) (by simp only [List.map_toArray, List.map_cons, List.map_nil, eval_tmp, f107]) hK
            · intro e27 j27
              intro u h; obtain rfl := Eq.symm (h (by simp)); clear h
              intro u h; obtain rfl := Eq.symm (h (by simp)); clear h
              intro u h; obtain rfl := Eq.symm (h (by simp)); clear h
              intro u108 h; have g108 := h (by simp); clear h; replace g108 := show (svRd (numI x.step)).pred u108 e27 from g108
              refine relyEnd_nil rfl ?_
              simp only [Act.put, List.setIfInBounds_toArray, List.set_cons_zero, List.set_cons_succ]
              have hp27 : (numI x.step).length ≤ 5 := numI_length _
              obtain ⟨v27, w27, hr, ho, hB, hk⟩ := app_two (SV.stable _ _ _ _ HO.out j27) (Nat.le_trans HN.out.out.size j27.out.size) g108 (by have := hp27; have := l26; omega) 25
              replace R1 := Lib.hid (hk _ _ _ _ (by decide) (j27.row R1.out))
              replace HN := Lib.hid (NewT.of ((NewT.trans _ _ _ HN.out j27).out.trans hB))
              replace HS := Lib.hid (HN.out.pairs HS0.out)
              replace HD := Lib.hid (HN.out.rd HD0.out)
              replace HT := Lib.hid (HN.out.tables HT0.out)
              replace HO := Lib.hid ho
              clear ho hB hk
              refine wpList_plain rfl (fun K hK => ?_)
              refine opr_append rfl rfl rfl hr (hK _ _ ?_)
              clear hK K hr j27
              refine wpList_plain rfl (fun K hK => ?_)
              refine opr_move (.inr rfl) (hK _ _ ?_)
              clear hK K
              refine wpList_end rfl ?_
              go_simp
              obtain ⟨c27, E27⟩ : ∃ c, c26 ++ (numI x.step) = c := ⟨_, rfl⟩
              rw [E27] at HO
              have HE27 := Lib.hid E27
              have l27 : c27.length ≤ 20 := by rw [← E27, List.length_append]; have := hp27; omega
              clear E27 hp27 l26
              go_upto_region 28 with fail
              refine wp_region_steps0 NewT [SV.eq (v27), SV.eq (.pointer (some ⟨w.heap.size, 4, none⟩)), SV.eq (.int .i64 (x.tr)), svRd (numI x.tr)] [([(5, none)], none), ([(2, none)], none), ([(111, some 1)], none), ([(112, some 2)], none)] 162 4 rfl rfl (by kernel_rfl) NewT.trans (NewT.refl _) (Nat.le_of_ble_eq_true rfl) ⟨?_, ?_, ?_, ?_, trivial⟩ ?_
              · intro a wx hT hF K hK
                obtain ⟨f5, _⟩ := hF
                have f5 : a.tmps.getD 5 undef = v27 := f5
                refine rely_wp rfl ?_
                exact opr_move (.inl rfl) (hK _ _ (NewT.refl _) f5)
              · intro a wx hT hF K hK
                obtain ⟨f2, _⟩ := hF
                have f2 : a.tmps.getD 2 undef = .pointer (some ⟨w.heap.size, 0, none⟩) := f2
                refine rely_wp rfl ?_
                exact opr_fldR (by decide) rfl f2 (hK _ _ (NewT.refl _) rfl)
              · intro a wx hT hF K hK
                obtain ⟨f111, _⟩ := hF
                have f111 : a.tmps.getD 111 undef = .pointer (some ⟨w.heap.size, 4, none⟩) := f111
                refine rely_wp rfl ?_
                exact opr_ldI (hT.row R1.out) (by decide) rfl rfl f111 (hK _ _ (NewT.refl _) rfl)
              · intro a wx hT hF K hK
                obtain ⟨f112, _⟩ := hF
                have f112 : a.tmps.getD 112 undef = .int .i64 (x.tr) := f112
                refine rely_wp rfl ?_
                exact opr_cv (RefNum_rd x.tr _ wx rfl) rfl Tryd.func40 (by kernel_rfl) (by kernel_rfl) (by simp only [List.map_toArray, List.map_cons, List.map_nil, eval_tmp, f112]) hK
              · intro e28 j28
                intro u h; obtain rfl := Eq.symm (h (by simp)); clear h
                intro u h; obtain rfl := Eq.symm (h (by simp)); clear h
                intro u h; obtain rfl := Eq.symm (h (by simp)); clear h
                intro u113 h; have g113 := h (by simp); clear h; replace g113 := show (svRd (numI x.tr)).pred u113 e28 from g113
                refine relyEnd_nil rfl ?_
                simp only [Act.put, List.setIfInBounds_toArray, List.set_cons_zero, List.set_cons_succ]
                have hp28 : (numI x.tr).length ≤ 5 := numI_length _
                obtain ⟨v28, w28, hr, ho, hB, hk⟩ := app_two (SV.stable _ _ _ _ HO.out j28) (Nat.le_trans HN.out.out.size j28.out.size) g113 (by have := hp28; have := l27; omega) 25
                replace R1 := Lib.hid (hk _ _ _ _ (by decide) (j28.row R1.out))
                replace HN := Lib.hid (NewT.of ((NewT.trans _ _ _ HN.out j28).out.trans hB))
                replace HS := Lib.hid (HN.out.pairs HS0.out)
                replace HD := Lib.hid (HN.out.rd HD0.out)
                replace HT := Lib.hid (HN.out.tables HT0.out)
                replace HO := Lib.hid ho
                clear ho hB hk
                refine wpList_plain rfl (fun K hK => ?_)
                refine opr_append rfl rfl rfl hr (hK _ _ ?_)
                clear hK K hr j28
                refine wpList_plain rfl (fun K hK => ?_)
                refine opr_move (.inr rfl) (hK _ _ ?_)
                clear hK K
                refine wpList_end rfl ?_
                go_simp
                obtain ⟨c28, E28⟩ : ∃ c, c27 ++ (numI x.tr) = c := ⟨_, rfl⟩
                rw [E28] at HO
                have HE28 := Lib.hid E28
                have l28 : c28.length ≤ 25 := by rw [← E28, List.length_append]; have := hp28; omega
                clear E28 hp28 l27
                go_upto_region 29 with fail
                refine wp_region_steps0 NewT [SV.eq (v28), SV.eq (.pointer (some ⟨w.heap.size, 5, none⟩)), SV.eq (.bool (x.back)), SV.eq (.int .u8 (bN (fB x.back))), svRd ([fB x.back])] [([(5, none)], none), ([(2, none)], none), ([(116, some 1)], none), ([(117, some 2)], none), ([(118, some 3)], none)] 162 5 rfl rfl (by kernel_rfl) NewT.trans (NewT.refl _) (Nat.le_of_ble_eq_true rfl) ⟨?_, ?_, ?_, ?_, ?_, trivial⟩ ?_
                · intro a wx hT hF K hK
                  obtain ⟨f5, _⟩ := hF
                  have f5 : a.tmps.getD 5 undef = v28 := f5
                  refine rely_wp rfl ?_
                  exact opr_move (.inl rfl) (hK _ _ (NewT.refl _) f5)
                · intro a wx hT hF K hK
                  obtain ⟨f2, _⟩ := hF
                  have f2 : a.tmps.getD 2 undef = .pointer (some ⟨w.heap.size, 0, none⟩) := f2
                  refine rely_wp rfl ?_
                  exact opr_fldR (by decide) rfl f2 (hK _ _ (NewT.refl _) rfl)
                · intro a wx hT hF K hK
                  obtain ⟨f116, _⟩ := hF
                  have f116 : a.tmps.getD 116 undef = .pointer (some ⟨w.heap.size, 5, none⟩) := f116
                  refine rely_wp rfl ?_
                  exact opr_ldQ (hT.row R1.out) (by decide) rfl rfl f116 (hK _ _ (NewT.refl _) rfl)
                · intro a wx hT hF K hK
                  obtain ⟨f117, _⟩ := hF
                  have f117 : a.tmps.getD 117 undef = .bool (x.back) := f117
                  refine rely_wp rfl ?_
                  exact opr_cv (flag_cv x.back wx) rfl Tryd.func41 (by kernel_rfl) (by kernel_rfl) (by simp only [List.map_toArray, List.map_cons, List.map_nil, eval_tmp, f117]) hK
                · intro a wx hT hF K hK
                  obtain ⟨f118, _⟩ := hF
                  have f118 : a.tmps.getD 118 undef = .int .u8 (bN (fB x.back)) := f118
                  refine rely_wp rfl ?_
                  exact opr_bsb1 rfl f118 hK
                · intro e29 j29
                  intro u h; obtain rfl := Eq.symm (h (by simp)); clear h
                  intro u h; obtain rfl := Eq.symm (h (by simp)); clear h
                  intro u h; obtain rfl := Eq.symm (h (by simp)); clear h
                  intro u h; obtain rfl := Eq.symm (h (by simp)); clear h
                  intro u119 h; have g119 := h (by simp); clear h; replace g119 := show (svRd ([fB x.back])).pred u119 e29 from g119
                  refine relyEnd_nil rfl ?_
                  simp only [Act.put, List.setIfInBounds_toArray, List.set_cons_zero, List.set_cons_succ]
                  have hp29 : ([fB x.back]).length ≤ 1 := by simp
                  obtain ⟨v29, w29, hr, ho, hB, hk⟩ := app_two (SV.stable _ _ _ _ HO.out j29) (Nat.le_trans HN.out.out.size j29.out.size) g119 (by have := hp29; have := l28; omega) 25
                  replace R1 := Lib.hid (hk _ _ _ _ (by decide) (j29.row R1.out))
                  replace HN := Lib.hid (NewT.of ((NewT.trans _ _ _ HN.out j29).out.trans hB))
                  replace HS := Lib.hid (HN.out.pairs HS0.out)
                  replace HD := Lib.hid (HN.out.rd HD0.out)
                  replace HT := Lib.hid (HN.out.tables HT0.out)
                  replace HO := Lib.hid ho
                  clear ho hB hk
                  refine wpList_plain rfl (fun K hK => ?_)
                  refine opr_append rfl rfl rfl hr (hK _ _ ?_)
                  clear hK K hr j29
                  refine wpList_plain rfl (fun K hK => ?_)
                  refine opr_move (.inr rfl) (hK _ _ ?_)
                  clear hK K
                  refine wpList_end rfl ?_
                  go_simp
                  obtain ⟨c29, E29⟩ : ∃ c, c28 ++ ([fB x.back]) = c := ⟨_, rfl⟩
                  rw [E29] at HO
                  have HE29 := Lib.hid E29
                  have l29 : c29.length ≤ 26 := by rw [← E29, List.length_append]; have := hp29; omega
                  clear E29 hp29 l28
                  have c0 : w29.cell? ⟨w.heap.size, 0, none⟩ = some (.int .i64 3) := by rw [← HK.out]; exact R1.out.cell (by omega)
                  go_upto_region 31 with fail
                  refine wp_region_steps0 NewT [SV.eq (v29), SV.eq (.pointer (some ⟨w.heap.size, 6, none⟩)), SV.eq (.bool (x.good)), SV.eq (.int .u8 (bN (fB x.good))), svRd ([fB x.good])] [([(5, none)], none), ([(2, none)], none), ([(125, some 1)], none), ([(126, some 2)], none), ([(127, some 3)], none)] 162 5 rfl rfl (by kernel_rfl) NewT.trans (NewT.refl _) (Nat.le_of_ble_eq_true rfl) ⟨?_, ?_, ?_, ?_, ?_, trivial⟩ ?_
                  · intro a wx hT hF K hK
                    obtain ⟨f5, _⟩ := hF
                    have f5 : a.tmps.getD 5 undef = v29 := f5
                    refine rely_wp rfl ?_
                    exact opr_move (.inl rfl) (hK _ _ (NewT.refl _) f5)
                  · intro a wx hT hF K hK
                    obtain ⟨f2, _⟩ := hF
                    have f2 : a.tmps.getD 2 undef = .pointer (some ⟨w.heap.size, 0, none⟩) := f2
                    refine rely_wp rfl ?_
                    exact opr_fldR (by decide) rfl f2 (hK _ _ (NewT.refl _) rfl)
                  · intro a wx hT hF K hK
                    obtain ⟨f125, _⟩ := hF
                    have f125 : a.tmps.getD 125 undef = .pointer (some ⟨w.heap.size, 6, none⟩) := f125
                    refine rely_wp rfl ?_
                    exact opr_ldQ (hT.row R1.out) (by decide) rfl rfl f125 (hK _ _ (NewT.refl _) rfl)
                  · intro a wx hT hF K hK
                    obtain ⟨f126, _⟩ := hF
                    have f126 : a.tmps.getD 126 undef = .bool (x.good) := f126
                    refine rely_wp rfl ?_
                    exact opr_cv (flag_cv x.good wx) rfl Tryd.func41 (by kernel_rfl) (by kernel_rfl) (by simp only [List.map_toArray, List.map_cons, List.map_nil, eval_tmp, f126]) hK
                  · intro a wx hT hF K hK
                    obtain ⟨f127, _⟩ := hF
                    have f127 : a.tmps.getD 127 undef = .int .u8 (bN (fB x.good)) := f127
                    refine rely_wp rfl ?_
                    exact opr_bsb1 rfl f127 hK
                  · intro e31 j31
                    intro u h; obtain rfl := Eq.symm (h (by simp)); clear h
                    intro u h; obtain rfl := Eq.symm (h (by simp)); clear h
                    intro u h; obtain rfl := Eq.symm (h (by simp)); clear h
                    intro u h; obtain rfl := Eq.symm (h (by simp)); clear h
                    intro u128 h; have g128 := h (by simp); clear h; replace g128 := show (svRd ([fB x.good])).pred u128 e31 from g128
                    refine relyEnd_nil rfl ?_
                    simp only [Act.put, List.setIfInBounds_toArray, List.set_cons_zero, List.set_cons_succ]
                    have hp31 : ([fB x.good]).length ≤ 1 := by simp
                    obtain ⟨v31, w31, hr, ho, hB, hk⟩ := app_two (SV.stable _ _ _ _ HO.out j31) (Nat.le_trans HN.out.out.size j31.out.size) g128 (by have := hp31; have := l29; omega) 25
                    replace R1 := Lib.hid (hk _ _ _ _ (by decide) (j31.row R1.out))
                    replace HN := Lib.hid (NewT.of ((NewT.trans _ _ _ HN.out j31).out.trans hB))
                    replace HS := Lib.hid (HN.out.pairs HS0.out)
                    replace HD := Lib.hid (HN.out.rd HD0.out)
                    replace HT := Lib.hid (HN.out.tables HT0.out)
                    replace HO := Lib.hid ho
                    clear ho hB hk
                    refine wpList_plain rfl (fun K hK => ?_)
                    refine opr_append rfl rfl rfl hr (hK _ _ ?_)
                    clear hK K hr j31
                    refine wpList_plain rfl (fun K hK => ?_)
                    refine opr_move (.inr rfl) (hK _ _ ?_)
                    clear hK K
                    refine wpList_end rfl ?_
                    go_simp
                    obtain ⟨c31, E31⟩ : ∃ c, c29 ++ ([fB x.good]) = c := ⟨_, rfl⟩
                    rw [E31] at HO
                    have HE31 := Lib.hid E31
                    have l31 : c31.length ≤ 27 := by rw [← E31, List.length_append]; have := hp31; omega
                    clear E31 hp31 l29
                    clear c0
                    go_upto_region 32 with fail
                    refine wp_region_steps0 NewT [SV.eq (v31), SV.eq (.pointer (some ⟨w.heap.size, 8, none⟩)), SV.eq (.int .i64 (x.part)), svRd (numI x.part)] [([(5, none)], none), ([(2, none)], none), ([(131, some 1)], none), ([(132, some 2)], none)] 162 4 rfl rfl (by kernel_rfl) NewT.trans (NewT.refl _) (Nat.le_of_ble_eq_true rfl) ⟨?_, ?_, ?_, ?_, trivial⟩ ?_
                    · intro a wx hT hF K hK
                      obtain ⟨f5, _⟩ := hF
                      have f5 : a.tmps.getD 5 undef = v31 := f5
                      refine rely_wp rfl ?_
                      exact opr_move (.inl rfl) (hK _ _ (NewT.refl _) f5)
                    · intro a wx hT hF K hK
                      obtain ⟨f2, _⟩ := hF
                      have f2 : a.tmps.getD 2 undef = .pointer (some ⟨w.heap.size, 0, none⟩) := f2
                      refine rely_wp rfl ?_
                      exact opr_fldR (by decide) rfl f2 (hK _ _ (NewT.refl _) rfl)
                    · intro a wx hT hF K hK
                      obtain ⟨f131, _⟩ := hF
                      have f131 : a.tmps.getD 131 undef = .pointer (some ⟨w.heap.size, 8, none⟩) := f131
                      refine rely_wp rfl ?_
                      exact opr_ldI (hT.row R1.out) (by decide) rfl rfl f131 (hK _ _ (NewT.refl _) rfl)
                    · intro a wx hT hF K hK
                      obtain ⟨f132, _⟩ := hF
                      have f132 : a.tmps.getD 132 undef = .int .i64 (x.part) := f132
                      refine rely_wp rfl ?_
                      exact opr_cv (RefNum_rd x.part _ wx rfl) rfl Tryd.func40 (by kernel_rfl) (by kernel_rfl) (by simp only [List.map_toArray, List.map_cons, List.map_nil, eval_tmp, f132]) hK
                    · intro e32 j32
                      intro u h; obtain rfl := Eq.symm (h (by simp)); clear h
                      intro u h; obtain rfl := Eq.symm (h (by simp)); clear h
                      intro u h; obtain rfl := Eq.symm (h (by simp)); clear h
                      intro u133 h; have g133 := h (by simp); clear h; replace g133 := show (svRd (numI x.part)).pred u133 e32 from g133
                      refine relyEnd_nil rfl ?_
                      simp only [Act.put, List.setIfInBounds_toArray, List.set_cons_zero, List.set_cons_succ]
                      have hp32 : (numI x.part).length ≤ 5 := numI_length _
                      obtain ⟨v32, w32, hr, ho, hB, hk⟩ := app_two (SV.stable _ _ _ _ HO.out j32) (Nat.le_trans HN.out.out.size j32.out.size) g133 (by have := hp32; have := l31; omega) 25
                      replace R1 := Lib.hid (hk _ _ _ _ (by decide) (j32.row R1.out))
                      replace HN := Lib.hid (NewT.of ((NewT.trans _ _ _ HN.out j32).out.trans hB))
                      replace HS := Lib.hid (HN.out.pairs HS0.out)
                      replace HD := Lib.hid (HN.out.rd HD0.out)
                      replace HT := Lib.hid (HN.out.tables HT0.out)
                      replace HO := Lib.hid ho
                      clear ho hB hk
                      refine wpList_plain rfl (fun K hK => ?_)
                      refine opr_append rfl rfl rfl hr (hK _ _ ?_)
                      clear hK K hr j32
                      refine wpList_plain rfl (fun K hK => ?_)
                      refine opr_move (.inr rfl) (hK _ _ ?_)
                      clear hK K
                      refine wpList_end rfl ?_
                      go_simp
                      obtain ⟨c32, E32⟩ : ∃ c, c31 ++ (numI x.part) = c := ⟨_, rfl⟩
                      rw [E32] at HO
                      have HE32 := Lib.hid E32
                      have l32 : c32.length ≤ 32 := by rw [← E32, List.length_append]; have := hp32; omega
                      clear E32 hp32 l31
                      go_upto_region 33 with fail
                      refine wp_region_steps0 NewT [SV.eq (v32), SV.eq (.pointer (some ⟨w.heap.size, 9, none⟩)), SV.eq (.int .i64 (x.epoch)), svRd (numI x.epoch)] [([(5, none)], none), ([(2, none)], none), ([(136, some 1)], none), ([(137, some 2)], none)] 162 4 rfl rfl (by kernel_rfl) NewT.trans (NewT.refl _) (Nat.le_of_ble_eq_true rfl) ⟨?_, ?_, ?_, ?_, trivial⟩ ?_
                      · intro a wx hT hF K hK
                        obtain ⟨f5, _⟩ := hF
                        have f5 : a.tmps.getD 5 undef = v32 := f5
                        refine rely_wp rfl ?_
                        exact opr_move (.inl rfl) (hK _ _ (NewT.refl _) f5)
                      · intro a wx hT hF K hK
                        obtain ⟨f2, _⟩ := hF
                        have f2 : a.tmps.getD 2 undef = .pointer (some ⟨w.heap.size, 0, none⟩) := f2
                        refine rely_wp rfl ?_
                        exact opr_fldR (by decide) rfl f2 (hK _ _ (NewT.refl _) rfl)
                      · intro a wx hT hF K hK
                        obtain ⟨f136, _⟩ := hF
                        have f136 : a.tmps.getD 136 undef = .pointer (some ⟨w.heap.size, 9, none⟩) := f136
                        refine rely_wp rfl ?_
                        exact opr_ldI (hT.row R1.out) (by decide) rfl rfl f136 (hK _ _ (NewT.refl _) rfl)
                      · intro a wx hT hF K hK
                        obtain ⟨f137, _⟩ := hF
                        have f137 : a.tmps.getD 137 undef = .int .i64 (x.epoch) := f137
                        refine rely_wp rfl ?_
                        exact opr_cv (RefNum_rd x.epoch _ wx rfl) rfl Tryd.func40 (by kernel_rfl) (by kernel_rfl) (by simp only [List.map_toArray, List.map_cons, List.map_nil, eval_tmp, f137]) hK
                      · intro e33 j33
                        intro u h; obtain rfl := Eq.symm (h (by simp)); clear h
                        intro u h; obtain rfl := Eq.symm (h (by simp)); clear h
                        intro u h; obtain rfl := Eq.symm (h (by simp)); clear h
                        intro u138 h; have g138 := h (by simp); clear h; replace g138 := show (svRd (numI x.epoch)).pred u138 e33 from g138
                        refine relyEnd_nil rfl ?_
                        simp only [Act.put, List.setIfInBounds_toArray, List.set_cons_zero, List.set_cons_succ]
                        have hp33 : (numI x.epoch).length ≤ 5 := numI_length _
                        obtain ⟨v33, w33, hr, ho, hB, hk⟩ := app_two (SV.stable _ _ _ _ HO.out j33) (Nat.le_trans HN.out.out.size j33.out.size) g138 (by have := hp33; have := l32; omega) 25
                        replace R1 := Lib.hid (hk _ _ _ _ (by decide) (j33.row R1.out))
                        replace HN := Lib.hid (NewT.of ((NewT.trans _ _ _ HN.out j33).out.trans hB))
                        replace HS := Lib.hid (HN.out.pairs HS0.out)
                        replace HD := Lib.hid (HN.out.rd HD0.out)
                        replace HT := Lib.hid (HN.out.tables HT0.out)
                        replace HO := Lib.hid ho
                        clear ho hB hk
                        refine wpList_plain rfl (fun K hK => ?_)
                        refine opr_append rfl rfl rfl hr (hK _ _ ?_)
                        clear hK K hr j33
                        refine wpList_plain rfl (fun K hK => ?_)
                        refine opr_move (.inr rfl) (hK _ _ ?_)
                        clear hK K
                        refine wpList_end rfl ?_
                        go_simp
                        obtain ⟨c33, E33⟩ : ∃ c, c32 ++ (numI x.epoch) = c := ⟨_, rfl⟩
                        rw [E33] at HO
                        have HE33 := Lib.hid E33
                        have l33 : c33.length ≤ 37 := by rw [← E33, List.length_append]; have := hp33; omega
                        clear E33 hp33 l32
                        go_upto_region 34 with fail
                        refine wp_region_steps0 NewT [SV.eq (v33), SV.eq (.pointer (some ⟨w.heap.size, 10, none⟩)), svRd (digL (x.tag))] [([(5, none)], none), ([(2, none)], none), ([(141, some 1)], none)] 162 3 rfl rfl (by kernel_rfl) NewT.trans (NewT.refl _) (Nat.le_of_ble_eq_true rfl) ⟨?_, ?_, ?_, trivial⟩ ?_
                        · intro a wx hT hF K hK
                          obtain ⟨f5, _⟩ := hF
                          have f5 : a.tmps.getD 5 undef = v33 := f5
                          refine rely_wp rfl ?_
                          exact opr_move (.inl rfl) (hK _ _ (NewT.refl _) f5)
                        · intro a wx hT hF K hK
                          obtain ⟨f2, _⟩ := hF
                          have f2 : a.tmps.getD 2 undef = .pointer (some ⟨w.heap.size, 0, none⟩) := f2
                          refine rely_wp rfl ?_
                          exact opr_fldR (by decide) rfl f2 (hK _ _ (NewT.refl _) rfl)
                        · intro a wx hT hF K hK
                          obtain ⟨f141, _⟩ := hF
                          have f141 : a.tmps.getD 141 undef = .pointer (some ⟨w.heap.size, 10, none⟩) := f141
                          refine rely_wp rfl ?_
                          exact opr_sliceH rfl f141 (hK _ _ (NewT.refl _) (rd_rowH (hT.row R1.out) (by decide) (recF_tag x _ _)))
                        · intro e34 j34
                          intro u h; obtain rfl := Eq.symm (h (by simp)); clear h
                          intro u h; obtain rfl := Eq.symm (h (by simp)); clear h
                          intro u142 h; have g142 := h (by simp); clear h; replace g142 := show (svRd (digL (x.tag))).pred u142 e34 from g142
                          refine relyEnd_nil rfl ?_
                          simp only [Act.put, List.setIfInBounds_toArray, List.set_cons_zero, List.set_cons_succ]
                          have hp34 : (digL x.tag).length ≤ 32 := by rw [digL_length]; omega
                          obtain ⟨v34, w34, hr, ho, hB, hk⟩ := app_two (SV.stable _ _ _ _ HO.out j34) (Nat.le_trans HN.out.out.size j34.out.size) g142 (by have := hp34; have := l33; omega) 25
                          replace R1 := Lib.hid (hk _ _ _ _ (by decide) (j34.row R1.out))
                          replace HN := Lib.hid (NewT.of ((NewT.trans _ _ _ HN.out j34).out.trans hB))
                          replace HS := Lib.hid (HN.out.pairs HS0.out)
                          replace HD := Lib.hid (HN.out.rd HD0.out)
                          replace HT := Lib.hid (HN.out.tables HT0.out)
                          replace HO := Lib.hid ho
                          clear ho hB hk
                          refine wpList_plain rfl (fun K hK => ?_)
                          refine opr_append rfl rfl rfl hr (hK _ _ ?_)
                          clear hK K hr j34
                          refine wpList_plain rfl (fun K hK => ?_)
                          refine opr_move (.inr rfl) (hK _ _ ?_)
                          clear hK K
                          refine wpList_end rfl ?_
                          go_simp
                          obtain ⟨c34, E34⟩ : ∃ c, c33 ++ (digL x.tag) = c := ⟨_, rfl⟩
                          rw [E34] at HO
                          have HE34 := Lib.hid E34
                          have l34 : c34.length ≤ 69 := by rw [← E34, List.length_append]; have := hp34; omega
                          clear E34 hp34 l33
                          go_wp2
                          go_ret
                          exact ⟨_, rfl, HN.out, by rw [← putB_other x q (rcL x) HR.out (fun c => tail_3 x c HK.out)]; unfold rcL callL; rw [← HE34.out, ← HE33.out, ← HE32.out, ← HE31.out, ← HE29.out, ← HE28.out, ← HE27.out, ← HE26.out, ← HE25.out, ← HE3.out] at HO; rw [show numI x.kind ++ (numI x.saga ++ (numI x.seq ++ (numI x.step ++ (numI x.tr ++ [fB x.back]))) ++ fB x.good :: (numI x.part ++ (numI x.epoch ++ hL x.tag))) = _ from RCEQ x]; exact rdV_own HO.out rfl (by simp)⟩
      have n3 := hk
      have q3 : (x.kind == 3) = false := by simpa using hk
      clear hk
      by_cases hk : x.kind = 5
      · have HK := Lib.hid hk
        rw [hk] at c0
        clear hk
        go_upto_region 36 with fail
        refine wp_region_steps0 NewT [SV.eq (v3), SV.eq (.pointer (some ⟨w.heap.size, 1, none⟩)), SV.eq (.int .i64 (x.saga)), svRd (numI x.saga)] [([(5, none)], none), ([(2, none)], none), ([(147, some 1)], none), ([(148, some 2)], none)] 162 4 rfl rfl (by kernel_rfl) NewT.trans (NewT.refl _) (Nat.le_of_ble_eq_true rfl) ⟨?_, ?_, ?_, ?_, trivial⟩ ?_
        · intro a wx hT hF K hK
          obtain ⟨f5, _⟩ := hF
          have f5 : a.tmps.getD 5 undef = v3 := f5
          refine rely_wp rfl ?_
          exact opr_move (.inl rfl) (hK _ _ (NewT.refl _) f5)
        · intro a wx hT hF K hK
          obtain ⟨f2, _⟩ := hF
          have f2 : a.tmps.getD 2 undef = .pointer (some ⟨w.heap.size, 0, none⟩) := f2
          refine rely_wp rfl ?_
          exact opr_fldR (by decide) rfl f2 (hK _ _ (NewT.refl _) rfl)
        · intro a wx hT hF K hK
          obtain ⟨f147, _⟩ := hF
          have f147 : a.tmps.getD 147 undef = .pointer (some ⟨w.heap.size, 1, none⟩) := f147
          refine rely_wp rfl ?_
          exact opr_ldI (hT.row R1.out) (by decide) rfl rfl f147 (hK _ _ (NewT.refl _) rfl)
        · intro a wx hT hF K hK
          obtain ⟨f148, _⟩ := hF
          have f148 : a.tmps.getD 148 undef = .int .i64 (x.saga) := f148
          refine rely_wp rfl ?_
          exact opr_cv (RefNum_rd x.saga _ wx rfl) rfl Tryd.func40 (by kernel_rfl) (by kernel_rfl) (by simp only [List.map_toArray, List.map_cons, List.map_nil, eval_tmp, f148]) hK
        · intro e36 j36
          intro u h; obtain rfl := Eq.symm (h (by simp)); clear h
          intro u h; obtain rfl := Eq.symm (h (by simp)); clear h
          intro u h; obtain rfl := Eq.symm (h (by simp)); clear h
          intro u149 h; have g149 := h (by simp); clear h; replace g149 := show (svRd (numI x.saga)).pred u149 e36 from g149
          refine relyEnd_nil rfl ?_
          simp only [Act.put, List.setIfInBounds_toArray, List.set_cons_zero, List.set_cons_succ]
          have hp36 : (numI x.saga).length ≤ 5 := numI_length _
          obtain ⟨v36, w36, hr, ho, hB, hk⟩ := app_two (SV.stable _ _ _ _ HO.out j36) (Nat.le_trans HN.out.out.size j36.out.size) g149 (by have := hp36; have := l3; omega) 25
          replace R1 := Lib.hid (hk _ _ _ _ (by decide) (j36.row R1.out))
          replace HN := Lib.hid (NewT.of ((NewT.trans _ _ _ HN.out j36).out.trans hB))
          replace HS := Lib.hid (HN.out.pairs HS0.out)
          replace HD := Lib.hid (HN.out.rd HD0.out)
          replace HT := Lib.hid (HN.out.tables HT0.out)
          replace HO := Lib.hid ho
          clear ho hB hk
          refine wpList_plain rfl (fun K hK => ?_)
          refine opr_append rfl rfl rfl hr (hK _ _ ?_)
          clear hK K hr j36
          refine wpList_plain rfl (fun K hK => ?_)
          refine opr_move (.inr rfl) (hK _ _ ?_)
          clear hK K
          refine wpList_end rfl ?_
          go_simp
          obtain ⟨c36, E36⟩ : ∃ c, c3 ++ (numI x.saga) = c := ⟨_, rfl⟩
          rw [E36] at HO
          have HE36 := Lib.hid E36
          have l36 : c36.length ≤ 10 := by rw [← E36, List.length_append]; have := hp36; omega
          clear E36 hp36 l3
          clear c0
          go_upto_region 37 with fail
          refine wp_region_steps0 NewT [SV.eq (v36), SV.eq (.pointer (some ⟨w.heap.size, 2, none⟩)), SV.eq (.int .i64 (x.seq)), svRd (numI x.seq)] [([(5, none)], none), ([(2, none)], none), ([(152, some 1)], none), ([(153, some 2)], none)] 162 4 rfl rfl (by kernel_rfl) NewT.trans (NewT.refl _) (Nat.le_of_ble_eq_true rfl) ⟨?_, ?_, ?_, ?_, trivial⟩ ?_
          · intro a wx hT hF K hK
            obtain ⟨f5, _⟩ := hF
            have f5 : a.tmps.getD 5 undef = v36 := f5
            refine rely_wp rfl ?_
            exact opr_move (.inl rfl) (hK _ _ (NewT.refl _) f5)
          · intro a wx hT hF K hK
            obtain ⟨f2, _⟩ := hF
            have f2 : a.tmps.getD 2 undef = .pointer (some ⟨w.heap.size, 0, none⟩) := f2
            refine rely_wp rfl ?_
            exact opr_fldR (by decide) rfl f2 (hK _ _ (NewT.refl _) rfl)
          · intro a wx hT hF K hK
            obtain ⟨f152, _⟩ := hF
            have f152 : a.tmps.getD 152 undef = .pointer (some ⟨w.heap.size, 2, none⟩) := f152
            refine rely_wp rfl ?_
            exact opr_ldI (hT.row R1.out) (by decide) rfl rfl f152 (hK _ _ (NewT.refl _) rfl)
          · intro a wx hT hF K hK
            obtain ⟨f153, _⟩ := hF
            have f153 : a.tmps.getD 153 undef = .int .i64 (x.seq) := f153
            refine rely_wp rfl ?_
            exact opr_cv (RefNum_rd x.seq _ wx rfl) rfl Tryd.func40 (by kernel_rfl) (by kernel_rfl) (by simp only [List.map_toArray, List.map_cons, List.map_nil, eval_tmp, f153]) hK
          · intro e37 j37
            intro u h; obtain rfl := Eq.symm (h (by simp)); clear h
            intro u h; obtain rfl := Eq.symm (h (by simp)); clear h
            intro u h; obtain rfl := Eq.symm (h (by simp)); clear h
            intro u154 h; have g154 := h (by simp); clear h; replace g154 := show (svRd (numI x.seq)).pred u154 e37 from g154
            refine relyEnd_nil rfl ?_
            simp only [Act.put, List.setIfInBounds_toArray, List.set_cons_zero, List.set_cons_succ]
            have hp37 : (numI x.seq).length ≤ 5 := numI_length _
            obtain ⟨v37, w37, hr, ho, hB, hk⟩ := app_two (SV.stable _ _ _ _ HO.out j37) (Nat.le_trans HN.out.out.size j37.out.size) g154 (by have := hp37; have := l36; omega) 25
            replace R1 := Lib.hid (hk _ _ _ _ (by decide) (j37.row R1.out))
            replace HN := Lib.hid (NewT.of ((NewT.trans _ _ _ HN.out j37).out.trans hB))
            replace HS := Lib.hid (HN.out.pairs HS0.out)
            replace HD := Lib.hid (HN.out.rd HD0.out)
            replace HT := Lib.hid (HN.out.tables HT0.out)
            replace HO := Lib.hid ho
            clear ho hB hk
            refine wpList_plain rfl (fun K hK => ?_)
            refine opr_append rfl rfl rfl hr (hK _ _ ?_)
            clear hK K hr j37
            refine wpList_plain rfl (fun K hK => ?_)
            refine opr_move (.inr rfl) (hK _ _ ?_)
            clear hK K
            refine wpList_end rfl ?_
            go_simp
            obtain ⟨c37, E37⟩ : ∃ c, c36 ++ (numI x.seq) = c := ⟨_, rfl⟩
            rw [E37] at HO
            have HE37 := Lib.hid E37
            have l37 : c37.length ≤ 15 := by rw [← E37, List.length_append]; have := hp37; omega
            clear E37 hp37 l36
            go_upto_region 38 with fail
            refine wp_region_steps0 NewT [SV.eq (v37), SV.eq (.pointer (some ⟨w.heap.size, 7, none⟩)), SV.eq (.int .i64 (x.nd)), svRd (numI x.nd)] [([(5, none)], none), ([(2, none)], none), ([(157, some 1)], none), ([(158, some 2)], none)] 162 4 rfl rfl (by kernel_rfl) NewT.trans (NewT.refl _) (Nat.le_of_ble_eq_true rfl) ⟨?_, ?_, ?_, ?_, trivial⟩ ?_
            · intro a wx hT hF K hK
              obtain ⟨f5, _⟩ := hF
              have f5 : a.tmps.getD 5 undef = v37 := f5
              refine rely_wp rfl ?_
              exact opr_move (.inl rfl) (hK _ _ (NewT.refl _) f5)
            · intro a wx hT hF K hK
              obtain ⟨f2, _⟩ := hF
              have f2 : a.tmps.getD 2 undef = .pointer (some ⟨w.heap.size, 0, none⟩) := f2
              refine rely_wp rfl ?_
              exact opr_fldR (by decide) rfl f2 (hK _ _ (NewT.refl _) rfl)
            · intro a wx hT hF K hK
              obtain ⟨f157, _⟩ := hF
              have f157 : a.tmps.getD 157 undef = .pointer (some ⟨w.heap.size, 7, none⟩) := f157
              refine rely_wp rfl ?_
              exact opr_ldI (hT.row R1.out) (by decide) rfl rfl f157 (hK _ _ (NewT.refl _) rfl)
            · intro a wx hT hF K hK
              obtain ⟨f158, _⟩ := hF
              have f158 : a.tmps.getD 158 undef = .int .i64 (x.nd) := f158
              refine rely_wp rfl ?_
              exact opr_cv (RefNum_rd x.nd _ wx rfl) rfl Tryd.func40 (by kernel_rfl) (by kernel_rfl) (by simp only [List.map_toArray, List.map_cons, List.map_nil, eval_tmp, f158]) hK
            · intro e38 j38
              intro u h; obtain rfl := Eq.symm (h (by simp)); clear h
              intro u h; obtain rfl := Eq.symm (h (by simp)); clear h
              intro u h; obtain rfl := Eq.symm (h (by simp)); clear h
              intro u159 h; have g159 := h (by simp); clear h; replace g159 := show (svRd (numI x.nd)).pred u159 e38 from g159
              refine relyEnd_nil rfl ?_
              simp only [Act.put, List.setIfInBounds_toArray, List.set_cons_zero, List.set_cons_succ]
              have hp38 : (numI x.nd).length ≤ 5 := numI_length _
              obtain ⟨v38, w38, hr, ho, hB, hk⟩ := app_two (SV.stable _ _ _ _ HO.out j38) (Nat.le_trans HN.out.out.size j38.out.size) g159 (by have := hp38; have := l37; omega) 25
              replace R1 := Lib.hid (hk _ _ _ _ (by decide) (j38.row R1.out))
              replace HN := Lib.hid (NewT.of ((NewT.trans _ _ _ HN.out j38).out.trans hB))
              replace HS := Lib.hid (HN.out.pairs HS0.out)
              replace HD := Lib.hid (HN.out.rd HD0.out)
              replace HT := Lib.hid (HN.out.tables HT0.out)
              replace HO := Lib.hid ho
              clear ho hB hk
              refine wpList_plain rfl (fun K hK => ?_)
              refine opr_append rfl rfl rfl hr (hK _ _ ?_)
              clear hK K hr j38
              refine wpList_plain rfl (fun K hK => ?_)
              refine opr_move (.inr rfl) (hK _ _ ?_)
              clear hK K
              refine wpList_end rfl ?_
              go_simp
              obtain ⟨c38, E38⟩ : ∃ c, c37 ++ (numI x.nd) = c := ⟨_, rfl⟩
              rw [E38] at HO
              have HE38 := Lib.hid E38
              have l38 : c38.length ≤ 20 := by rw [← E38, List.length_append]; have := hp38; omega
              clear E38 hp38 l37
              go_wp2
              go_ret
              exact ⟨_, rfl, HN.out, by rw [← putB_other x q (clL x) HR.out (fun c => tail_5 x c HK.out)]; unfold clL; rw [HE3.out, ← List.append_assoc, HE36.out, ← List.append_assoc, HE37.out, HE38.out]; exact rdV_own HO.out rfl (by simp)⟩
      have n5 := hk
      have q5 : (x.kind == 5) = false := by simpa using hk
      clear hk
      by_cases hk : x.kind = 6
      · have HK := Lib.hid hk
        rw [hk] at c0
        clear hk
        go_upto_region 5 with fail
        refine wp_region_steps0 NewT [SV.eq (v3), SV.eq (.pointer (some ⟨w.heap.size, 8, none⟩)), SV.eq (.int .i64 (x.part)), svRd (numI x.part)] [([(5, none)], none), ([(2, none)], none), ([(17, some 1)], none), ([(18, some 2)], none)] 162 4 rfl rfl (by kernel_rfl) NewT.trans (NewT.refl _) (Nat.le_of_ble_eq_true rfl) ⟨?_, ?_, ?_, ?_, trivial⟩ ?_
        · intro a wx hT hF K hK
          obtain ⟨f5, _⟩ := hF
          have f5 : a.tmps.getD 5 undef = v3 := f5
          refine rely_wp rfl ?_
          exact opr_move (.inl rfl) (hK _ _ (NewT.refl _) f5)
        · intro a wx hT hF K hK
          obtain ⟨f2, _⟩ := hF
          have f2 : a.tmps.getD 2 undef = .pointer (some ⟨w.heap.size, 0, none⟩) := f2
          refine rely_wp rfl ?_
          exact opr_fldR (by decide) rfl f2 (hK _ _ (NewT.refl _) rfl)
        · intro a wx hT hF K hK
          obtain ⟨f17, _⟩ := hF
          have f17 : a.tmps.getD 17 undef = .pointer (some ⟨w.heap.size, 8, none⟩) := f17
          refine rely_wp rfl ?_
          exact opr_ldI (hT.row R1.out) (by decide) rfl rfl f17 (hK _ _ (NewT.refl _) rfl)
        · intro a wx hT hF K hK
          obtain ⟨f18, _⟩ := hF
          have f18 : a.tmps.getD 18 undef = .int .i64 (x.part) := f18
          refine rely_wp rfl ?_
          exact opr_cv (RefNum_rd x.part _ wx rfl) rfl Tryd.func40 (by kernel_rfl) (by kernel_rfl) (by simp only [List.map_toArray, List.map_cons, List.map_nil, eval_tmp, f18]) hK
        · intro e5 j5
          intro u h; obtain rfl := Eq.symm (h (by simp)); clear h
          intro u h; obtain rfl := Eq.symm (h (by simp)); clear h
          intro u h; obtain rfl := Eq.symm (h (by simp)); clear h
          intro u19 h; have g19 := h (by simp); clear h; replace g19 := show (svRd (numI x.part)).pred u19 e5 from g19
          refine relyEnd_nil rfl ?_
          simp only [Act.put, List.setIfInBounds_toArray, List.set_cons_zero, List.set_cons_succ]
          have hp5 : (numI x.part).length ≤ 5 := numI_length _
          obtain ⟨v5, w5, hr, ho, hB, hk⟩ := app_two (SV.stable _ _ _ _ HO.out j5) (Nat.le_trans HN.out.out.size j5.out.size) g19 (by have := hp5; have := l3; omega) 25
          replace R1 := Lib.hid (hk _ _ _ _ (by decide) (j5.row R1.out))
          replace HN := Lib.hid (NewT.of ((NewT.trans _ _ _ HN.out j5).out.trans hB))
          replace HS := Lib.hid (HN.out.pairs HS0.out)
          replace HD := Lib.hid (HN.out.rd HD0.out)
          replace HT := Lib.hid (HN.out.tables HT0.out)
          replace HO := Lib.hid ho
          clear ho hB hk
          refine wpList_plain rfl (fun K hK => ?_)
          refine opr_append rfl rfl rfl hr (hK _ _ ?_)
          clear hK K hr j5
          refine wpList_plain rfl (fun K hK => ?_)
          refine opr_move (.inr rfl) (hK _ _ ?_)
          clear hK K
          refine wpList_end rfl ?_
          go_simp
          obtain ⟨c5, E5⟩ : ∃ c, c3 ++ (numI x.part) = c := ⟨_, rfl⟩
          rw [E5] at HO
          have HE5 := Lib.hid E5
          have l5 : c5.length ≤ 10 := by rw [← E5, List.length_append]; have := hp5; omega
          clear E5 hp5 l3
          clear c0
          go_upto_region 6 with fail
          refine wp_region_steps0 NewT [SV.eq (v5), SV.eq (.pointer (some ⟨w.heap.size, 9, none⟩)), SV.eq (.int .i64 (x.epoch)), svRd (numI x.epoch)] [([(5, none)], none), ([(2, none)], none), ([(22, some 1)], none), ([(23, some 2)], none)] 162 4 rfl rfl (by kernel_rfl) NewT.trans (NewT.refl _) (Nat.le_of_ble_eq_true rfl) ⟨?_, ?_, ?_, ?_, trivial⟩ ?_
          · intro a wx hT hF K hK
            obtain ⟨f5, _⟩ := hF
            have f5 : a.tmps.getD 5 undef = v5 := f5
            refine rely_wp rfl ?_
            exact opr_move (.inl rfl) (hK _ _ (NewT.refl _) f5)
          · intro a wx hT hF K hK
            obtain ⟨f2, _⟩ := hF
            have f2 : a.tmps.getD 2 undef = .pointer (some ⟨w.heap.size, 0, none⟩) := f2
            refine rely_wp rfl ?_
            exact opr_fldR (by decide) rfl f2 (hK _ _ (NewT.refl _) rfl)
          · intro a wx hT hF K hK
            obtain ⟨f22, _⟩ := hF
            have f22 : a.tmps.getD 22 undef = .pointer (some ⟨w.heap.size, 9, none⟩) := f22
            refine rely_wp rfl ?_
            exact opr_ldI (hT.row R1.out) (by decide) rfl rfl f22 (hK _ _ (NewT.refl _) rfl)
          · intro a wx hT hF K hK
            obtain ⟨f23, _⟩ := hF
            have f23 : a.tmps.getD 23 undef = .int .i64 (x.epoch) := f23
            refine rely_wp rfl ?_
            exact opr_cv (RefNum_rd x.epoch _ wx rfl) rfl Tryd.func40 (by kernel_rfl) (by kernel_rfl) (by simp only [List.map_toArray, List.map_cons, List.map_nil, eval_tmp, f23]) hK
          · intro e6 j6
            intro u h; obtain rfl := Eq.symm (h (by simp)); clear h
            intro u h; obtain rfl := Eq.symm (h (by simp)); clear h
            intro u h; obtain rfl := Eq.symm (h (by simp)); clear h
            intro u24 h; have g24 := h (by simp); clear h; replace g24 := show (svRd (numI x.epoch)).pred u24 e6 from g24
            refine relyEnd_nil rfl ?_
            simp only [Act.put, List.setIfInBounds_toArray, List.set_cons_zero, List.set_cons_succ]
            have hp6 : (numI x.epoch).length ≤ 5 := numI_length _
            obtain ⟨v6, w6, hr, ho, hB, hk⟩ := app_two (SV.stable _ _ _ _ HO.out j6) (Nat.le_trans HN.out.out.size j6.out.size) g24 (by have := hp6; have := l5; omega) 25
            replace R1 := Lib.hid (hk _ _ _ _ (by decide) (j6.row R1.out))
            replace HN := Lib.hid (NewT.of ((NewT.trans _ _ _ HN.out j6).out.trans hB))
            replace HS := Lib.hid (HN.out.pairs HS0.out)
            replace HD := Lib.hid (HN.out.rd HD0.out)
            replace HT := Lib.hid (HN.out.tables HT0.out)
            replace HO := Lib.hid ho
            clear ho hB hk
            refine wpList_plain rfl (fun K hK => ?_)
            refine opr_append rfl rfl rfl hr (hK _ _ ?_)
            clear hK K hr j6
            refine wpList_plain rfl (fun K hK => ?_)
            refine opr_move (.inr rfl) (hK _ _ ?_)
            clear hK K
            refine wpList_end rfl ?_
            go_simp
            obtain ⟨c6, E6⟩ : ∃ c, c5 ++ (numI x.epoch) = c := ⟨_, rfl⟩
            rw [E6] at HO
            have HE6 := Lib.hid E6
            have l6 : c6.length ≤ 15 := by rw [← E6, List.length_append]; have := hp6; omega
            clear E6 hp6 l5
            go_wp2
            go_ret
            exact ⟨_, rfl, HN.out, by rw [← putB_other x q (roL x) HR.out (fun c => tail_6 x c HK.out)]; unfold roL; rw [HE3.out, ← List.append_assoc, HE5.out, HE6.out]; exact rdV_own HO.out rfl (by simp)⟩
      have n6 := hk
      have q6 : (x.kind == 6) = false := by simpa using hk
      clear hk
      have hk1 : x.kind = 1 := by omega
      rw [hk1] at c0
      have HK := Lib.hid hk1
      clear hk1 n2 n3 n4 n5 n6 q2 q3 q4 q5 q6
      go_upto_region 8 with fail
      refine wp_region_steps0 NewT [SV.eq (v3), SV.eq (.pointer (some ⟨w.heap.size, 1, none⟩)), SV.eq (.int .i64 (x.saga)), svRd (numI x.saga)] [([(5, none)], none), ([(2, none)], none), ([(29, some 1)], none), ([(30, some 2)], none)] 162 4 rfl rfl (by kernel_rfl) NewT.trans (NewT.refl _) (Nat.le_of_ble_eq_true rfl) ⟨?_, ?_, ?_, ?_, trivial⟩ ?_
      · intro a wx hT hF K hK
        obtain ⟨f5, _⟩ := hF
        have f5 : a.tmps.getD 5 undef = v3 := f5
        refine rely_wp rfl ?_
        exact opr_move (.inl rfl) (hK _ _ (NewT.refl _) f5)
      · intro a wx hT hF K hK
        obtain ⟨f2, _⟩ := hF
        have f2 : a.tmps.getD 2 undef = .pointer (some ⟨w.heap.size, 0, none⟩) := f2
        refine rely_wp rfl ?_
        exact opr_fldR (by decide) rfl f2 (hK _ _ (NewT.refl _) rfl)
      · intro a wx hT hF K hK
        obtain ⟨f29, _⟩ := hF
        have f29 : a.tmps.getD 29 undef = .pointer (some ⟨w.heap.size, 1, none⟩) := f29
        refine rely_wp rfl ?_
        exact opr_ldI (hT.row R1.out) (by decide) rfl rfl f29 (hK _ _ (NewT.refl _) rfl)
      · intro a wx hT hF K hK
        obtain ⟨f30, _⟩ := hF
        have f30 : a.tmps.getD 30 undef = .int .i64 (x.saga) := f30
        refine rely_wp rfl ?_
        exact opr_cv (RefNum_rd x.saga _ wx rfl) rfl Tryd.func40 (by kernel_rfl) (by kernel_rfl) (by simp only [List.map_toArray, List.map_cons, List.map_nil, eval_tmp, f30]) hK
      · intro e8 j8
        intro u h; obtain rfl := Eq.symm (h (by simp)); clear h
        intro u h; obtain rfl := Eq.symm (h (by simp)); clear h
        intro u h; obtain rfl := Eq.symm (h (by simp)); clear h
        intro u31 h; have g31 := h (by simp); clear h; replace g31 := show (svRd (numI x.saga)).pred u31 e8 from g31
        refine relyEnd_nil rfl ?_
        simp only [Act.put, List.setIfInBounds_toArray, List.set_cons_zero, List.set_cons_succ]
        have hp8 : (numI x.saga).length ≤ 5 := numI_length _
        obtain ⟨v8, w8, hr, ho, hB, hk⟩ := app_two (SV.stable _ _ _ _ HO.out j8) (Nat.le_trans HN.out.out.size j8.out.size) g31 (by have := hp8; have := l3; omega) 25
        replace R1 := Lib.hid (hk _ _ _ _ (by decide) (j8.row R1.out))
        replace HN := Lib.hid (NewT.of ((NewT.trans _ _ _ HN.out j8).out.trans hB))
        replace HS := Lib.hid (HN.out.pairs HS0.out)
        replace HD := Lib.hid (HN.out.rd HD0.out)
        replace HT := Lib.hid (HN.out.tables HT0.out)
        replace HO := Lib.hid ho
        clear ho hB hk
        refine wpList_plain rfl (fun K hK => ?_)
        refine opr_append rfl rfl rfl hr (hK _ _ ?_)
        clear hK K hr j8
        refine wpList_plain rfl (fun K hK => ?_)
        refine opr_move (.inr rfl) (hK _ _ ?_)
        clear hK K
        refine wpList_end rfl ?_
        go_simp
        obtain ⟨c8, E8⟩ : ∃ c, c3 ++ (numI x.saga) = c := ⟨_, rfl⟩
        rw [E8] at HO
        have HE8 := Lib.hid E8
        have l8 : c8.length ≤ 10 := by rw [← E8, List.length_append]; have := hp8; omega
        clear E8 hp8 l3
        clear c0
        go_upto_region 9 with fail
        refine wp_region_steps0 NewT [SV.eq (v8), SV.eq (.pointer (some ⟨w.heap.size, 42, none⟩)), SV.eq (sv), SV.eq (.int .i64 ((List.length (x.steps) : Int))), svRd (numI ((List.length (x.steps) : Int)))] [([(5, none)], none), ([(2, none)], none), ([(34, some 1)], none), ([(35, some 2)], none), ([(36, some 3)], none)] 162 5 rfl rfl (by kernel_rfl) NewT.trans (NewT.refl _) (Nat.le_of_ble_eq_true rfl) ⟨?_, ?_, ?_, ?_, ?_, trivial⟩ ?_
        · intro a wx hT hF K hK
          obtain ⟨f5, _⟩ := hF
          have f5 : a.tmps.getD 5 undef = v8 := f5
          refine rely_wp rfl ?_
          exact opr_move (.inl rfl) (hK _ _ (NewT.refl _) f5)
        · intro a wx hT hF K hK
          obtain ⟨f2, _⟩ := hF
          have f2 : a.tmps.getD 2 undef = .pointer (some ⟨w.heap.size, 0, none⟩) := f2
          refine rely_wp rfl ?_
          exact opr_fldR (by decide) rfl f2 (hK _ _ (NewT.refl _) rfl)
        · intro a wx hT hF K hK
          obtain ⟨f34, _⟩ := hF
          have f34 : a.tmps.getD 34 undef = .pointer (some ⟨w.heap.size, 42, none⟩) := f34
          refine rely_wp rfl ?_
          exact opr_ldS (hT.row R1.out) (by decide) rfl rfl f34 (hK _ _ (NewT.refl _) rfl)
        · intro a wx hT hF K hK
          obtain ⟨f35, _⟩ := hF
          have f35 : a.tmps.getD 35 undef = sv := f35
          refine rely_wp rfl ?_
          exact opr_len_pairs rfl (by rw [eval_tmp, f35]; exact (hT.pairs HS.out)) (hK _ _ (NewT.refl _) rfl)
        · intro a wx hT hF K hK
          obtain ⟨f36, _⟩ := hF
          have f36 : a.tmps.getD 36 undef = .int .i64 ((List.length (x.steps) : Int)) := f36
          refine rely_wp rfl ?_
          exact opr_cv (RefNum_rd ((List.length (x.steps) : Int)) _ wx rfl) rfl Tryd.func40 (by kernel_rfl) (by kernel_rfl) (by simp only [List.map_toArray, List.map_cons, List.map_nil, eval_tmp, f36]) hK
        · intro e9 j9
          intro u h; obtain rfl := Eq.symm (h (by simp)); clear h
          intro u h; obtain rfl := Eq.symm (h (by simp)); clear h
          intro u h; obtain rfl := Eq.symm (h (by simp)); clear h
          intro u h; obtain rfl := Eq.symm (h (by simp)); clear h
          intro u37 h; have g37 := h (by simp); clear h; replace g37 := show (svRd (numI ((List.length (x.steps) : Int)))).pred u37 e9 from g37
          refine relyEnd_nil rfl ?_
          simp only [Act.put, List.setIfInBounds_toArray, List.set_cons_zero, List.set_cons_succ]
          have hp9 : (numI (x.steps.length : Int)).length ≤ 5 := numI_length _
          obtain ⟨v9, w9, hr, ho, hB, hk⟩ := app_two (SV.stable _ _ _ _ HO.out j9) (Nat.le_trans HN.out.out.size j9.out.size) g37 (by have := hp9; have := l8; omega) 25
          replace R1 := Lib.hid (hk _ _ _ _ (by decide) (j9.row R1.out))
          replace HN := Lib.hid (NewT.of ((NewT.trans _ _ _ HN.out j9).out.trans hB))
          replace HS := Lib.hid (HN.out.pairs HS0.out)
          replace HD := Lib.hid (HN.out.rd HD0.out)
          replace HT := Lib.hid (HN.out.tables HT0.out)
          replace HO := Lib.hid ho
          clear ho hB hk
          refine wpList_plain rfl (fun K hK => ?_)
          refine opr_append rfl rfl rfl hr (hK _ _ ?_)
          clear hK K hr j9
          refine wpList_plain rfl (fun K hK => ?_)
          refine opr_move (.inr rfl) (hK _ _ ?_)
          clear hK K
          refine wpList_end rfl ?_
          go_simp
          obtain ⟨c9, E9⟩ : ∃ c, c8 ++ (numI (x.steps.length : Int)) = c := ⟨_, rfl⟩
          rw [E9] at HO
          have HE9 := Lib.hid E9
          have l9 : c9.length ≤ 15 := by rw [← E9, List.length_append]; have := hp9; omega
          clear E9 hp9 l8
          have HP := HS0.out
          obtain ⟨A0, cap, hsv, p1, p2, p3⟩ := HP
          subst hsv
          have P3 := Lib.hid p3
          clear p3 p1 p2
          have c42 : w9.cell? ⟨w.heap.size, 42, none⟩ = some (.slice A0 x.steps.length cap) := R1.out.cell (i := 42) (by omega)
          go_wp2
          go_loopw [5, 6] (fun v i wr => ∃ k : Nat, k ≤ x.steps.length ∧ i = .int .i64 k ∧ (svOwn w (c9 ++ stepsL (x.steps.take k))).pred v wr ∧ NewT w wr ∧ wr.rowIs w.heap.size 27 109 (recF x (.slice A0 x.steps.length cap) dv)) (fun _ i _ => x.steps.length - (intOf i).toNat)
          case atStart => exact ⟨0, by omega, rfl, by rw [show c9 ++ stepsL (x.steps.take 0) = c9 by simp [stepsL]]; exact HO.out, HN.out, R1.out⟩
          case round =>
            clear c42
            obtain ⟨k, hk, rfl, ho, qN, qR⟩ := hrel
            replace HO := Lib.hid ho
            replace HN := Lib.hid qN
            replace R1 := Lib.hid qR
            clear ho qN qR
            replace HS := Lib.hid (HN.out.pairs HS0.out)
            replace HD := Lib.hid (HN.out.rd HD0.out)
            replace HT := Lib.hid (HN.out.tables HT0.out)
            have c42 : wr.cell? ⟨w.heap.size, 42, none⟩ = some (.slice A0 x.steps.length cap) := R1.out.cell (i := 42) (by omega)
            by_cases hlt : k < x.steps.length
            · obtain ⟨b, o, rfl, hcell⟩ := P3.out (by omega)
              obtain ⟨j0, j1⟩ := hcell k hlt
              have Hnx := Lib.hid (stepsL_next x.steps k hlt)
              have l10 : (c9 ++ stepsL (x.steps.take k)).length ≤ 75 := by have := stepsL_len (x.steps.take k); simp at this ⊢; omega
              obtain ⟨s, es⟩ : ∃ s, x.steps.getD k (0, 0) = s := ⟨_, rfl⟩
              rw [es] at j0 j1 Hnx
              clear es hcell
              have it : (k : Int) < (x.steps.length : Int) := by omega
              obtain ⟨c10, E10⟩ : ∃ c, c9 ++ stepsL (x.steps.take k) = c := ⟨_, rfl⟩
              rw [E10] at HO l10
              have HE10 := Lib.hid E10
              clear E10 l9
              go_upto_region 13 with fail
              refine wp_region_steps0 NewT [SV.eq (u5), SV.eq (.pointer (some ⟨w.heap.size, 42, none⟩)), SV.eq ((.slice (some ⟨b, o, none⟩) x.steps.length cap)), SV.eq (.int .i64 ((k : Int))), SV.eq (.pointer (some ⟨b, o + 2 * k, none⟩)), SV.eq (.pointer (some ⟨b, o + 2 * k + 0, none⟩)), SV.eq (.int .i64 (s.1)), svRd (numI s.1)] [([(5, none)], none), ([(2, none)], none), ([(47, some 1)], none), ([(6, none)], none), ([(48, some 2), (49, some 3)], none), ([(50, some 4)], none), ([(51, some 5)], none), ([(52, some 6)], none)] 162 8 rfl rfl (by kernel_rfl) NewT.trans (NewT.refl _) (Nat.le_of_ble_eq_true rfl) ⟨?_, ?_, ?_, ?_, ?_, ?_, ?_, ?_, trivial⟩ ?_
              · intro a wx hT hF K hK
                obtain ⟨f5, _⟩ := hF
                have f5 : a.tmps.getD 5 undef = u5 := f5
                refine rely_wp rfl ?_
                exact opr_move (.inl rfl) (hK _ _ (NewT.refl _) f5)
              · intro a wx hT hF K hK
                obtain ⟨f2, _⟩ := hF
                have f2 : a.tmps.getD 2 undef = .pointer (some ⟨w.heap.size, 0, none⟩) := f2
                refine rely_wp rfl ?_
                exact opr_fldR (by decide) rfl f2 (hK _ _ (NewT.refl _) rfl)
              · intro a wx hT hF K hK
                obtain ⟨f47, _⟩ := hF
                have f47 : a.tmps.getD 47 undef = .pointer (some ⟨w.heap.size, 42, none⟩) := f47
                refine rely_wp rfl ?_
                exact opr_ldS (hT.row R1.out) (by decide) rfl rfl f47 (hK _ _ (NewT.refl _) rfl)
              · intro a wx hT hF K hK
                obtain ⟨f6, _⟩ := hF
                have f6 : a.tmps.getD 6 undef = .int .i64 ((k : Int)) := f6
                refine rely_wp rfl ?_
                exact opr_move (.inl rfl) (hK _ _ (NewT.refl _) f6)
              · intro a wx hT hF K hK
                obtain ⟨f48, f49, _⟩ := hF
                have f48 : a.tmps.getD 48 undef = (.slice (some ⟨b, o, none⟩) x.steps.length cap) := f48
                have f49 : a.tmps.getD 49 undef = .int .i64 ((k : Int)) := f49
                refine rely_wp rfl ?_
                exact opr_idxS hlt rfl f48 f49 (hK _ _ (NewT.refl _) rfl)
              · intro a wx hT hF K hK
                obtain ⟨f50, _⟩ := hF
                have f50 : a.tmps.getD 50 undef = .pointer (some ⟨b, o + 2 * k, none⟩) := f50
                refine rely_wp rfl ?_
                exact opr_fldS (by decide) rfl f50 (hK _ _ (NewT.refl _) rfl)
              · intro a wx hT hF K hK
                obtain ⟨f51, _⟩ := hF
                have f51 : a.tmps.getD 51 undef = .pointer (some ⟨b, o + 2 * k + 0, none⟩) := f51
                refine rely_wp rfl ?_
                exact opr_ld1 Tryd.underlying3 rfl rfl f51 (((NewT.trans _ _ _ HN.out hT).out.cell (World.block_lt_of_cell? _ _ j0)).trans j0) (hK _ _ (NewT.refl _) rfl)
              · intro a wx hT hF K hK
                obtain ⟨f52, _⟩ := hF
                have f52 : a.tmps.getD 52 undef = .int .i64 (s.1) := f52
                refine rely_wp rfl ?_
                exact opr_cv (RefNum_rd s.1 _ wx rfl) rfl Tryd.func40 (by kernel_rfl) (by kernel_rfl) (by simp only [List.map_toArray, List.map_cons, List.map_nil, eval_tmp, f52]) hK
              · intro e13 j13
                intro u h; obtain rfl := Eq.symm (h (by simp)); clear h
                intro u h; obtain rfl := Eq.symm (h (by simp)); clear h
                intro u h; obtain rfl := Eq.symm (h (by simp)); clear h
                intro u h; obtain rfl := Eq.symm (h (by simp)); clear h
                intro u h; obtain rfl := Eq.symm (h (by simp)); clear h
                intro u h; obtain rfl := Eq.symm (h (by simp)); clear h
                intro u h; obtain rfl := Eq.symm (h (by simp)); clear h
                intro u53 h; have g53 := h (by simp); clear h; replace g53 := show (svRd (numI s.1)).pred u53 e13 from g53
                refine relyEnd_nil rfl ?_
                simp only [Act.put, List.setIfInBounds_toArray, List.set_cons_zero, List.set_cons_succ]
                have hp13 : (numI s.1).length ≤ 5 := numI_length _
                obtain ⟨v13, w13, hr, ho, hB, hk⟩ := app_two (SV.stable _ _ _ _ HO.out j13) (Nat.le_trans HN.out.out.size j13.out.size) g53 (by have := hp13; have := l10; omega) 25
                replace R1 := Lib.hid (hk _ _ _ _ (by decide) (j13.row R1.out))
                replace HN := Lib.hid (NewT.of ((NewT.trans _ _ _ HN.out j13).out.trans hB))
                replace HS := Lib.hid (HN.out.pairs HS0.out)
                replace HD := Lib.hid (HN.out.rd HD0.out)
                replace HT := Lib.hid (HN.out.tables HT0.out)
                replace HO := Lib.hid ho
                clear ho hB hk
                refine wpList_plain rfl (fun K hK => ?_)
                refine opr_append rfl rfl rfl hr (hK _ _ ?_)
                clear hK K hr j13
                refine wpList_plain rfl (fun K hK => ?_)
                refine opr_move (.inr rfl) (hK _ _ ?_)
                clear hK K
                refine wpList_end rfl ?_
                go_simp
                obtain ⟨c13, E13⟩ : ∃ c, c10 ++ (numI s.1) = c := ⟨_, rfl⟩
                rw [E13] at HO
                have HE13 := Lib.hid E13
                have l13 : c13.length ≤ 80 := by rw [← E13, List.length_append]; have := hp13; omega
                clear E13 hp13 l10
                clear c42
                go_upto_region 14 with fail
                refine wp_region_steps0 NewT [SV.eq (v13), SV.eq (.pointer (some ⟨w.heap.size, 42, none⟩)), SV.eq ((.slice (some ⟨b, o, none⟩) x.steps.length cap)), SV.eq (.int .i64 ((k : Int))), SV.eq (.pointer (some ⟨b, o + 2 * k, none⟩)), SV.eq (.pointer (some ⟨b, o + 2 * k + 1, none⟩)), SV.eq (.int .i64 (s.2)), svRd (numI s.2)] [([(5, none)], none), ([(2, none)], none), ([(56, some 1)], none), ([(6, none)], none), ([(57, some 2), (58, some 3)], none), ([(59, some 4)], none), ([(60, some 5)], none), ([(61, some 6)], none)] 162 8 rfl rfl (by kernel_rfl) NewT.trans (NewT.refl _) (Nat.le_of_ble_eq_true rfl) ⟨?_, ?_, ?_, ?_, ?_, ?_, ?_, ?_, trivial⟩ ?_
                · intro a wx hT hF K hK
                  obtain ⟨f5, _⟩ := hF
                  have f5 : a.tmps.getD 5 undef = v13 := f5
                  refine rely_wp rfl ?_
                  exact opr_move (.inl rfl) (hK _ _ (NewT.refl _) f5)
                · intro a wx hT hF K hK
                  obtain ⟨f2, _⟩ := hF
                  have f2 : a.tmps.getD 2 undef = .pointer (some ⟨w.heap.size, 0, none⟩) := f2
                  refine rely_wp rfl ?_
                  exact opr_fldR (by decide) rfl f2 (hK _ _ (NewT.refl _) rfl)
                · intro a wx hT hF K hK
                  obtain ⟨f56, _⟩ := hF
                  have f56 : a.tmps.getD 56 undef = .pointer (some ⟨w.heap.size, 42, none⟩) := f56
                  refine rely_wp rfl ?_
                  exact opr_ldS (hT.row R1.out) (by decide) rfl rfl f56 (hK _ _ (NewT.refl _) rfl)
                · intro a wx hT hF K hK
                  obtain ⟨f6, _⟩ := hF
                  have f6 : a.tmps.getD 6 undef = .int .i64 ((k : Int)) := f6
                  refine rely_wp rfl ?_
                  exact opr_move (.inl rfl) (hK _ _ (NewT.refl _) f6)
                · intro a wx hT hF K hK
                  obtain ⟨f57, f58, _⟩ := hF
                  have f57 : a.tmps.getD 57 undef = (.slice (some ⟨b, o, none⟩) x.steps.length cap) := f57
                  have f58 : a.tmps.getD 58 undef = .int .i64 ((k : Int)) := f58
                  refine rely_wp rfl ?_
                  exact opr_idxS hlt rfl f57 f58 (hK _ _ (NewT.refl _) rfl)
                · intro a wx hT hF K hK
                  obtain ⟨f59, _⟩ := hF
                  have f59 : a.tmps.getD 59 undef = .pointer (some ⟨b, o + 2 * k, none⟩) := f59
                  refine rely_wp rfl ?_
                  exact opr_fldS (by decide) rfl f59 (hK _ _ (NewT.refl _) rfl)
                · intro a wx hT hF K hK
                  obtain ⟨f60, _⟩ := hF
                  have f60 : a.tmps.getD 60 undef = .pointer (some ⟨b, o + 2 * k + 1, none⟩) := f60
                  refine rely_wp rfl ?_
                  exact opr_ld1 Tryd.underlying3 rfl rfl f60 (((NewT.trans _ _ _ HN.out hT).out.cell (World.block_lt_of_cell? _ _ j1)).trans j1) (hK _ _ (NewT.refl _) rfl)
                · intro a wx hT hF K hK
                  obtain ⟨f61, _⟩ := hF
                  have f61 : a.tmps.getD 61 undef = .int .i64 (s.2) := f61
                  refine rely_wp rfl ?_
                  exact opr_cv (RefNum_rd s.2 _ wx rfl) rfl Tryd.func40 (by kernel_rfl) (by kernel_rfl) (by simp only [List.map_toArray, List.map_cons, List.map_nil, eval_tmp, f61]) hK
                · intro e14 j14
                  intro u h; obtain rfl := Eq.symm (h (by simp)); clear h
                  intro u h; obtain rfl := Eq.symm (h (by simp)); clear h
                  intro u h; obtain rfl := Eq.symm (h (by simp)); clear h
                  intro u h; obtain rfl := Eq.symm (h (by simp)); clear h
                  intro u h; obtain rfl := Eq.symm (h (by simp)); clear h
                  intro u h; obtain rfl := Eq.symm (h (by simp)); clear h
                  intro u h; obtain rfl := Eq.symm (h (by simp)); clear h
                  intro u62 h; have g62 := h (by simp); clear h; replace g62 := show (svRd (numI s.2)).pred u62 e14 from g62
                  refine relyEnd_nil rfl ?_
                  simp only [Act.put, List.setIfInBounds_toArray, List.set_cons_zero, List.set_cons_succ]
                  have hp14 : (numI s.2).length ≤ 5 := numI_length _
                  obtain ⟨v14, w14, hr, ho, hB, hk⟩ := app_two (SV.stable _ _ _ _ HO.out j14) (Nat.le_trans HN.out.out.size j14.out.size) g62 (by have := hp14; have := l13; omega) 25
                  replace R1 := Lib.hid (hk _ _ _ _ (by decide) (j14.row R1.out))
                  replace HN := Lib.hid (NewT.of ((NewT.trans _ _ _ HN.out j14).out.trans hB))
                  replace HS := Lib.hid (HN.out.pairs HS0.out)
                  replace HD := Lib.hid (HN.out.rd HD0.out)
                  replace HT := Lib.hid (HN.out.tables HT0.out)
                  replace HO := Lib.hid ho
                  clear ho hB hk
                  refine wpList_plain rfl (fun K hK => ?_)
                  refine opr_append rfl rfl rfl hr (hK _ _ ?_)
                  clear hK K hr j14
                  refine wpList_plain rfl (fun K hK => ?_)
                  refine opr_move (.inr rfl) (hK _ _ ?_)
                  clear hK K
                  refine wpList_end rfl ?_
                  go_simp
                  obtain ⟨c14, E14⟩ : ∃ c, c13 ++ (numI s.2) = c := ⟨_, rfl⟩
                  rw [E14] at HO
                  have HE14 := Lib.hid E14
                  have l14 : c14.length ≤ 85 := by rw [← E14, List.length_append]; have := hp14; omega
                  clear E14 hp14 l13
                  go_wp2
                  go_roundw
                  case rel => exact ⟨k + 1, by omega, by go_num, by rw [Hnx.out, ← List.append_assoc, ← List.append_assoc, HE10.out, HE13.out, HE14.out]; exact HO.out, HN.out, R1.out⟩
                  case measure => simp [intOf]; omega
            · obtain rfl : k = x.steps.length := by omega
              rw [List.take_length] at HO
              have l10 : (c9 ++ stepsL x.steps).length ≤ 75 := by have := stepsL_len x.steps; simp; omega
              obtain ⟨c10, E10⟩ : ∃ c, c9 ++ stepsL x.steps = c := ⟨_, rfl⟩
              rw [E10] at HO l10
              have HE10 := Lib.hid E10
              have HX := Lib.hid (HN.out.recV HX0.out)
              clear E10 l9
              go_upto_region 15 with fail
              refine wp_region_steps0 NewT [SV.eq (.agg (rowA 109 (recF x (.slice A0 x.steps.length cap) dv))), SV.eq (.agg (rowA 32 (bF (comB x))))] [([(2, none)], none), ([(64, some 0)], none)] 162 2 rfl rfl (by kernel_rfl) NewT.trans (NewT.refl _) (Nat.le_of_ble_eq_true rfl) ⟨?_, ?_, trivial⟩ ?_
              · intro a wx hT hF K hK
                obtain ⟨f2, _⟩ := hF
                have f2 : a.tmps.getD 2 undef = .pointer (some ⟨w.heap.size, 0, none⟩) := f2
                refine rely_wp rfl ?_
                exact opr_ldR (hT.row R1.out) rfl f2 (hK _ _ (NewT.refl _) rfl)
              · intro a wx hT hF K hK
                obtain ⟨f64, _⟩ := hF
                have f64 : a.tmps.getD 64 undef = .agg (rowA 109 (recF x (.slice A0 x.steps.length cap) dv)) := f64
                refine rely_wp rfl ?_
                exact opr_cv (RCom_cv _ x wx (hT.recV HX.out) (hT.tables HT.out)) rfl Tryd.func14 (by kernel_rfl) (by kernel_rfl) (by simp only [List.map_toArray, List.map_cons, List.map_nil, eval_tmp, f64]) hK
              · intro e15 j15
                intro u h; obtain rfl := Eq.symm (h (by simp)); clear h
                intro u h; obtain rfl := Eq.symm (h (by simp)); clear h
                refine relyEnd_nil rfl ?_
                simp only [Act.put, List.setIfInBounds_toArray, List.set_cons_zero, List.set_cons_succ]
                refine wpList_new (n := 32) rfl rfl rfl rfl rfl rfl (by simp) run_alloc_hash info31 (fun _ => rfl) rfl ?_
                intro w15 N15 R7
                refine wpList_end rfl ?_
                simp only [Act.put, List.setIfInBounds_toArray, List.set_cons_zero, List.set_cons_succ]
                go_simp
                replace R1 := Lib.hid (N15.row (j15.row R1.out))
                replace HN := Lib.hid (NewT.trans _ _ _ (NewT.trans _ _ _ HN.out j15) N15)
                replace HO := Lib.hid (SV.stable _ _ _ _ (SV.stable _ _ _ _ HO.out j15) N15)
                replace HS := Lib.hid (HN.out.pairs HS0.out)
                replace HD := Lib.hid (HN.out.rd HD0.out)
                replace HT := Lib.hid (HN.out.tables HT0.out)
                have H7 := Lib.hid R7
                clear HX c42 R7 N15 j15
                cases q
                · go_upto_region 21 with fail
                  refine wp_region_steps0 NewT [SV.eq (u5), svRd (digL (comB x))] [([(5, none)], none), ([(7, none)], none)] 162 2 rfl rfl (by kernel_rfl) NewT.trans (NewT.refl _) (Nat.le_of_ble_eq_true rfl) ⟨?_, ?_, trivial⟩ ?_
                  · intro a wx hT hF K hK
                    obtain ⟨f5, _⟩ := hF
                    have f5 : a.tmps.getD 5 undef = u5 := f5
                    refine rely_wp rfl ?_
                    exact opr_move (.inl rfl) (hK _ _ (NewT.refl _) f5)
                  · intro a wx hT hF K hK
                    obtain ⟨f7, _⟩ := hF
                    have f7 : a.tmps.getD 7 undef = .pointer (some ⟨e15.heap.size, 0, none⟩) := f7
                    refine rely_wp rfl ?_
                    exact opr_sliceH rfl f7 (hK _ _ (NewT.refl _) (rd_rowH (hT.row H7.out) (by decide) (fun j _ => by rw [Nat.zero_add])))
                  · intro e21 j21
                    intro u h; obtain rfl := Eq.symm (h (by simp)); clear h
                    intro u89 h; have g89 := h (by simp); clear h; replace g89 := show (svRd (digL (comB x))).pred u89 e21 from g89
                    refine relyEnd_nil rfl ?_
                    simp only [Act.put, List.setIfInBounds_toArray, List.set_cons_zero, List.set_cons_succ]
                    have hp21 : (digL (comB x)).length ≤ 32 := by rw [digL_length]; omega
                    obtain ⟨v21, w21, hr, ho, hB, hk⟩ := app_two (SV.stable _ _ _ _ HO.out j21) (Nat.le_trans HN.out.out.size j21.out.size) g89 (by have := hp21; have := l10; omega) 25
                    replace R1 := Lib.hid (hk _ _ _ _ (by decide) (j21.row R1.out))
                    replace HN := Lib.hid (NewT.of ((NewT.trans _ _ _ HN.out j21).out.trans hB))
                    replace HS := Lib.hid (HN.out.pairs HS0.out)
                    replace HD := Lib.hid (HN.out.rd HD0.out)
                    replace HT := Lib.hid (HN.out.tables HT0.out)
                    replace HO := Lib.hid ho
                    clear ho hB hk
                    refine wpList_plain rfl (fun K hK => ?_)
                    refine opr_append rfl rfl rfl hr (hK _ _ ?_)
                    clear hK K hr j21
                    refine wpList_plain rfl (fun K hK => ?_)
                    refine opr_move (.inr rfl) (hK _ _ ?_)
                    clear hK K
                    refine wpList_end rfl ?_
                    go_simp
                    obtain ⟨c21, E21⟩ : ∃ c, c10 ++ (digL (comB x)) = c := ⟨_, rfl⟩
                    rw [E21] at HO
                    have HE21 := Lib.hid E21
                    have l21 : c21.length ≤ 107 := by rw [← E21, List.length_append]; have := hp21; omega
                    clear E21 hp21 l10
                    have e : c21 = putB x false := by rw [← HE21.out, ← HE10.out, ← HE9.out, ← HE8.out, ← HE3.out]; exact put_1f x HR.out HK.out
                    rw [e] at HO
                    go_wp2
                    go_ret
                    exact ⟨_, rfl, HN.out, rdV_own HO.out rfl (by simp)⟩
                · go_upto_region 17 with fail
                  refine wp_region_steps0 NewT [SV.eq (u5), SV.eq (.pointer (some ⟨w.heap.size, 76, none⟩)), SV.eq (.bool (x.gone)), SV.eq (.int .u8 (bN (fB x.gone))), svRd ([fB x.gone])] [([(5, none)], none), ([(2, none)], none), ([(68, some 1)], none), ([(69, some 2)], none), ([(70, some 3)], none)] 162 5 rfl rfl (by kernel_rfl) NewT.trans (NewT.refl _) (Nat.le_of_ble_eq_true rfl) ⟨?_, ?_, ?_, ?_, ?_, trivial⟩ ?_
                  · intro a wx hT hF K hK
                    obtain ⟨f5, _⟩ := hF
                    have f5 : a.tmps.getD 5 undef = u5 := f5
                    refine rely_wp rfl ?_
                    exact opr_move (.inl rfl) (hK _ _ (NewT.refl _) f5)
                  · intro a wx hT hF K hK
                    obtain ⟨f2, _⟩ := hF
                    have f2 : a.tmps.getD 2 undef = .pointer (some ⟨w.heap.size, 0, none⟩) := f2
                    refine rely_wp rfl ?_
                    exact opr_fldR (by decide) rfl f2 (hK _ _ (NewT.refl _) rfl)
                  · intro a wx hT hF K hK
                    obtain ⟨f68, _⟩ := hF
                    have f68 : a.tmps.getD 68 undef = .pointer (some ⟨w.heap.size, 76, none⟩) := f68
                    refine rely_wp rfl ?_
                    exact opr_ldQ (hT.row R1.out) (by decide) rfl rfl f68 (hK _ _ (NewT.refl _) rfl)
                  · intro a wx hT hF K hK
                    obtain ⟨f69, _⟩ := hF
                    have f69 : a.tmps.getD 69 undef = .bool (x.gone) := f69
                    refine rely_wp rfl ?_
                    exact opr_cv (flag_cv x.gone wx) rfl Tryd.func41 (by kernel_rfl) (by kernel_rfl) (by simp only [List.map_toArray, List.map_cons, List.map_nil, eval_tmp, f69]) hK
                  · intro a wx hT hF K hK
                    obtain ⟨f70, _⟩ := hF
                    have f70 : a.tmps.getD 70 undef = .int .u8 (bN (fB x.gone)) := f70
                    refine rely_wp rfl ?_
                    exact opr_bsb1 rfl f70 hK
                  · intro e17 j17
                    intro u h; obtain rfl := Eq.symm (h (by simp)); clear h
                    intro u h; obtain rfl := Eq.symm (h (by simp)); clear h
                    intro u h; obtain rfl := Eq.symm (h (by simp)); clear h
                    intro u h; obtain rfl := Eq.symm (h (by simp)); clear h
                    intro u71 h; have g71 := h (by simp); clear h; replace g71 := show (svRd ([fB x.gone])).pred u71 e17 from g71
                    refine relyEnd_nil rfl ?_
                    simp only [Act.put, List.setIfInBounds_toArray, List.set_cons_zero, List.set_cons_succ]
                    have hp17 : ([fB x.gone]).length ≤ 1 := by simp
                    obtain ⟨v17, w17, hr, ho, hB, hk⟩ := app_two (SV.stable _ _ _ _ HO.out j17) (Nat.le_trans HN.out.out.size j17.out.size) g71 (by have := hp17; have := l10; omega) 25
                    replace R1 := Lib.hid (hk _ _ _ _ (by decide) (j17.row R1.out))
                    replace HN := Lib.hid (NewT.of ((NewT.trans _ _ _ HN.out j17).out.trans hB))
                    replace HS := Lib.hid (HN.out.pairs HS0.out)
                    replace HD := Lib.hid (HN.out.rd HD0.out)
                    replace HT := Lib.hid (HN.out.tables HT0.out)
                    replace H7 := Lib.hid (hk _ _ _ _ (by decide) (j17.row H7.out))
                    replace HO := Lib.hid ho
                    clear ho hB hk
                    refine wpList_plain rfl (fun K hK => ?_)
                    refine opr_append rfl rfl rfl hr (hK _ _ ?_)
                    clear hK K hr j17
                    refine wpList_plain rfl (fun K hK => ?_)
                    refine opr_move (.inr rfl) (hK _ _ ?_)
                    clear hK K
                    refine wpList_end rfl ?_
                    go_simp
                    obtain ⟨c17, E17⟩ : ∃ c, c10 ++ ([fB x.gone]) = c := ⟨_, rfl⟩
                    rw [E17] at HO
                    have HE17 := Lib.hid E17
                    have l17 : c17.length ≤ 76 := by rw [← E17, List.length_append]; have := hp17; omega
                    clear E17 hp17 l10
                    have c76 : w17.cell? ⟨w.heap.size, 76, none⟩ = some (.bool x.gone) := R1.out.cell (i := 76) (by omega)
                    cases hg : x.gone
                    · rw [hg] at c76
                      go_upto_region 19 with fail
                      refine wp_region_steps0 NewT [SV.eq (v17), SV.eq (.pointer (some ⟨w.heap.size, 44, none⟩)), svRd (digL (x.salt))] [([(5, none)], none), ([(2, none)], none), ([(80, some 1)], none)] 162 3 rfl rfl (by kernel_rfl) NewT.trans (NewT.refl _) (Nat.le_of_ble_eq_true rfl) ⟨?_, ?_, ?_, trivial⟩ ?_
                      · intro a wx hT hF K hK
                        obtain ⟨f5, _⟩ := hF
                        have f5 : a.tmps.getD 5 undef = v17 := f5
                        refine rely_wp rfl ?_
                        exact opr_move (.inl rfl) (hK _ _ (NewT.refl _) f5)
                      · intro a wx hT hF K hK
                        obtain ⟨f2, _⟩ := hF
                        have f2 : a.tmps.getD 2 undef = .pointer (some ⟨w.heap.size, 0, none⟩) := f2
                        refine rely_wp rfl ?_
                        exact opr_fldR (by decide) rfl f2 (hK _ _ (NewT.refl _) rfl)
                      · intro a wx hT hF K hK
                        obtain ⟨f80, _⟩ := hF
                        have f80 : a.tmps.getD 80 undef = .pointer (some ⟨w.heap.size, 44, none⟩) := f80
                        refine rely_wp rfl ?_
                        exact opr_sliceH rfl f80 (hK _ _ (NewT.refl _) (rd_rowH (hT.row R1.out) (by decide) (recF_salt x _ _)))
                      · intro e19 j19
                        intro u h; obtain rfl := Eq.symm (h (by simp)); clear h
                        intro u h; obtain rfl := Eq.symm (h (by simp)); clear h
                        intro u81 h; have g81 := h (by simp); clear h; replace g81 := show (svRd (digL (x.salt))).pred u81 e19 from g81
                        refine relyEnd_nil rfl ?_
                        simp only [Act.put, List.setIfInBounds_toArray, List.set_cons_zero, List.set_cons_succ]
                        have hp19 : (digL x.salt).length ≤ 32 := by rw [digL_length]; omega
                        obtain ⟨v19, w19, hr, ho, hB, hk⟩ := app_two (SV.stable _ _ _ _ HO.out j19) (Nat.le_trans HN.out.out.size j19.out.size) g81 (by have := hp19; have := l17; omega) 25
                        replace R1 := Lib.hid (hk _ _ _ _ (by decide) (j19.row R1.out))
                        replace HN := Lib.hid (NewT.of ((NewT.trans _ _ _ HN.out j19).out.trans hB))
                        replace HS := Lib.hid (HN.out.pairs HS0.out)
                        replace HD := Lib.hid (HN.out.rd HD0.out)
                        replace HT := Lib.hid (HN.out.tables HT0.out)
                        replace HO := Lib.hid ho
                        clear ho hB hk
                        refine wpList_plain rfl (fun K hK => ?_)
                        refine opr_append rfl rfl rfl hr (hK _ _ ?_)
                        clear hK K hr j19
                        refine wpList_plain rfl (fun K hK => ?_)
                        refine opr_move (.inr rfl) (hK _ _ ?_)
                        clear hK K
                        refine wpList_end rfl ?_
                        go_simp
                        obtain ⟨c19, E19⟩ : ∃ c, c17 ++ (digL x.salt) = c := ⟨_, rfl⟩
                        rw [E19] at HO
                        have HE19 := Lib.hid E19
                        have l19 : c19.length ≤ 108 := by rw [← E19, List.length_append]; have := hp19; omega
                        clear E19 hp19 l17
                        clear c76
                        go_upto_region 20 with fail
                        refine wp_region_steps0 NewT [SV.eq (v19), SV.eq (.pointer (some ⟨w.heap.size, 43, none⟩)), SV.eq (dv), svRd (numL (List.length x.data) ++ x.data)] [([(5, none)], none), ([(2, none)], none), ([(84, some 1)], none), ([(85, some 2)], none)] 162 4 rfl rfl (by kernel_rfl) NewT.trans (NewT.refl _) (Nat.le_of_ble_eq_true rfl) ⟨?_, ?_, ?_, ?_, trivial⟩ ?_
                        · intro a wx hT hF K hK
                          obtain ⟨f5, _⟩ := hF
                          have f5 : a.tmps.getD 5 undef = v19 := f5
                          refine rely_wp rfl ?_
                          exact opr_move (.inl rfl) (hK _ _ (NewT.refl _) f5)
                        · intro a wx hT hF K hK
                          obtain ⟨f2, _⟩ := hF
                          have f2 : a.tmps.getD 2 undef = .pointer (some ⟨w.heap.size, 0, none⟩) := f2
                          refine rely_wp rfl ?_
                          exact opr_fldR (by decide) rfl f2 (hK _ _ (NewT.refl _) rfl)
                        · intro a wx hT hF K hK
                          obtain ⟨f84, _⟩ := hF
                          have f84 : a.tmps.getD 84 undef = .pointer (some ⟨w.heap.size, 43, none⟩) := f84
                          refine rely_wp rfl ?_
                          exact opr_ldB (hT.row R1.out) (by decide) rfl rfl f84 (hK _ _ (NewT.refl _) rfl)
                        · intro a wx hT hF K hK
                          obtain ⟨f85, _⟩ := hF
                          have f85 : a.tmps.getD 85 undef = dv := f85
                          refine rely_wp rfl ?_
                          exact opr_cv (RefBytes_cv _ x.data _ wx (hT.rd HD.out) (by omega) rfl) rfl Tryd.func42 (by kernel_rfl) (by kernel_rfl) (by simp only [List.map_toArray, List.map_cons, List.map_nil, eval_tmp, f85]) hK
                        · intro e20 j20
                          intro u h; obtain rfl := Eq.symm (h (by simp)); clear h
                          intro u h; obtain rfl := Eq.symm (h (by simp)); clear h
                          intro u h; obtain rfl := Eq.symm (h (by simp)); clear h
                          intro u86 h; have g86 := h (by simp); clear h; replace g86 := show (svRd (numL (List.length x.data) ++ x.data)).pred u86 e20 from g86
                          refine relyEnd_nil rfl ?_
                          simp only [Act.put, List.setIfInBounds_toArray, List.set_cons_zero, List.set_cons_succ]
                          have hp20 : (numL (List.length x.data) ++ x.data).length ≤ 70 := by have := numL_length x.data.length; have := sz_le x.data.length; simp; omega
                          obtain ⟨v20, w20, hr, ho, hB, hk⟩ := app_two (SV.stable _ _ _ _ HO.out j20) (Nat.le_trans HN.out.out.size j20.out.size) g86 (by have := hp20; have := l19; omega) 25
                          replace R1 := Lib.hid (hk _ _ _ _ (by decide) (j20.row R1.out))
                          replace HN := Lib.hid (NewT.of ((NewT.trans _ _ _ HN.out j20).out.trans hB))
                          replace HS := Lib.hid (HN.out.pairs HS0.out)
                          replace HD := Lib.hid (HN.out.rd HD0.out)
                          replace HT := Lib.hid (HN.out.tables HT0.out)
                          replace HO := Lib.hid ho
                          clear ho hB hk
                          refine wpList_plain rfl (fun K hK => ?_)
                          refine opr_append rfl rfl rfl hr (hK _ _ ?_)
                          clear hK K hr j20
                          refine wpList_plain rfl (fun K hK => ?_)
                          refine opr_move (.inr rfl) (hK _ _ ?_)
                          clear hK K
                          refine wpList_end rfl ?_
                          go_simp
                          obtain ⟨c20, E20⟩ : ∃ c, c19 ++ (numL (List.length x.data) ++ x.data) = c := ⟨_, rfl⟩
                          rw [E20] at HO
                          have HE20 := Lib.hid E20
                          have l20 : c20.length ≤ 178 := by rw [← E20, List.length_append]; have := hp20; omega
                          clear E20 hp20 l19
                          have e : c20 = putB x true := by rw [← HE20.out, ← HE19.out, ← HE17.out, ← HE10.out, ← HE9.out, ← HE8.out, ← HE3.out]; exact put_1o x HR.out HK.out hg hd60
                          rw [e] at HO
                          go_wp2
                          go_ret
                          exact ⟨_, rfl, HN.out, rdV_own HO.out rfl (by simp)⟩
                    · rw [hg] at c76
                      go_upto_region 21 with fail
                      refine wp_region_steps0 NewT [SV.eq (v17), svRd (digL (comB x))] [([(5, none)], none), ([(7, none)], none)] 162 2 rfl rfl (by kernel_rfl) NewT.trans (NewT.refl _) (Nat.le_of_ble_eq_true rfl) ⟨?_, ?_, trivial⟩ ?_
                      · intro a wx hT hF K hK
                        obtain ⟨f5, _⟩ := hF
                        have f5 : a.tmps.getD 5 undef = v17 := f5
                        refine rely_wp rfl ?_
                        exact opr_move (.inl rfl) (hK _ _ (NewT.refl _) f5)
                      · intro a wx hT hF K hK
                        obtain ⟨f7, _⟩ := hF
                        have f7 : a.tmps.getD 7 undef = .pointer (some ⟨e15.heap.size, 0, none⟩) := f7
                        refine rely_wp rfl ?_
                        exact opr_sliceH rfl f7 (hK _ _ (NewT.refl _) (rd_rowH (hT.row H7.out) (by decide) (fun j _ => by rw [Nat.zero_add])))
                      · intro e21 j21
                        intro u h; obtain rfl := Eq.symm (h (by simp)); clear h
                        intro u89 h; have g89 := h (by simp); clear h; replace g89 := show (svRd (digL (comB x))).pred u89 e21 from g89
                        refine relyEnd_nil rfl ?_
                        simp only [Act.put, List.setIfInBounds_toArray, List.set_cons_zero, List.set_cons_succ]
                        have hp21 : (digL (comB x)).length ≤ 32 := by rw [digL_length]; omega
                        obtain ⟨v21, w21, hr, ho, hB, hk⟩ := app_two (SV.stable _ _ _ _ HO.out j21) (Nat.le_trans HN.out.out.size j21.out.size) g89 (by have := hp21; have := l17; omega) 25
                        replace R1 := Lib.hid (hk _ _ _ _ (by decide) (j21.row R1.out))
                        replace HN := Lib.hid (NewT.of ((NewT.trans _ _ _ HN.out j21).out.trans hB))
                        replace HS := Lib.hid (HN.out.pairs HS0.out)
                        replace HD := Lib.hid (HN.out.rd HD0.out)
                        replace HT := Lib.hid (HN.out.tables HT0.out)
                        replace HO := Lib.hid ho
                        clear ho hB hk
                        refine wpList_plain rfl (fun K hK => ?_)
                        refine opr_append rfl rfl rfl hr (hK _ _ ?_)
                        clear hK K hr j21
                        refine wpList_plain rfl (fun K hK => ?_)
                        refine opr_move (.inr rfl) (hK _ _ ?_)
                        clear hK K
                        refine wpList_end rfl ?_
                        go_simp
                        obtain ⟨c21, E21⟩ : ∃ c, c17 ++ (digL (comB x)) = c := ⟨_, rfl⟩
                        rw [E21] at HO
                        have HE21 := Lib.hid E21
                        have l21 : c21.length ≤ 108 := by rw [← E21, List.length_append]; have := hp21; omega
                        clear E21 hp21 l17
                        have e : c21 = putB x true := by rw [← HE21.out, ← HE17.out, ← HE10.out, ← HE9.out, ← HE8.out, ← HE3.out]; exact put_1g x HR.out HK.out hg
                        rw [e] at HO
                        go_wp2
                        go_ret
                        exact ⟨_, rfl, HN.out, rdV_own HO.out rfl (by simp)⟩
end Go.Proofs.YthgblcpekhiphaaDoor
/- RecPuts, walked: every record's bytes, sealed and open, are the document's. -/
namespace Go.Proofs.YthgblcpekhiphaaDoor
open Go Go.RowKit
set_option maxRecDepth 8000
set_option linter.all false
theorem openB_len (x : Rc) : (openB x).length ≤ 1000000 := by
  unfold openB
  split
  · have := open_len x (by assumption); omega
  · simp
set_option maxHeartbeats 4000000 in
theorem RecPuts_walk (v : Value) (x : Rc) (w : World) (hT : Tables w) (h : RecV w v x) :
    Calls Tryd.prog 4 #[v] w fun e w' => e = .returned (.bool true) ∧ Below w.heap.size w w' := by
  obtain ⟨sv, dv, rfl, hs, hd⟩ := h
  have HX : Hid (RecV w (.agg (rowA 109 (recF x sv dv))) x) := Lib.hid ⟨sv, dv, rfl, hs, hd⟩
  have HS := Lib.hid hs
  have HD := Lib.hid hd
  clear hs hd
  go_enter Tryd.func4, Tryd.ntmps4
  go_upto_region 1 with fail
  have r1 := rowIs_box w 27 109 (recF x sv dv)
  have hN := NewT.alloc w (.cells (rowA 109 (recF x sv dv)) 27)
  change Code.wp _ _ _ _ (w.alloc (.cells (rowA 109 (recF x sv dv)) 27))
  generalize w.alloc (.cells (rowA 109 (recF x sv dv)) 27) = W0 at r1 hN ⊢
  have R1 := Lib.hid r1
  have HN := Lib.hid hN
  replace HX := Lib.hid (hN.recV HX.out)
  replace HS := Lib.hid (hN.pairs HS.out)
  replace HD := Lib.hid (hN.rd HD.out)
  clear r1 hN
  have HT := Lib.hid (HN.out.tables hT)
  clear hT HS HD
  refine wp_region_steps0 NewT [SV.eq (.bool true), SV.eq (.bool false)] [([], none), ([(3, some 0)], none)] 19 2 rfl rfl (by kernel_rfl) NewT.trans (NewT.refl _) (Nat.le_of_ble_eq_true rfl) ⟨?_, ?_, trivial⟩ ?_
  · intro a wx hT hF K hK
    refine rely_wp rfl ?_
    exact opr_cv (alive4_cv wx (hT.tables HT.out)) rfl Tryd.func9 (by kernel_rfl) (by kernel_rfl) (by simp only [List.map_toArray, List.map_nil]) hK
  · intro a wx hT hF K hK
    obtain ⟨f3, _⟩ := hF
    have f3 : a.tmps.getD 3 undef = .bool true := f3
    refine rely_wp rfl ?_
    exact opr_not rfl f3 (hK _ _ (NewT.refl _) rfl)
  · intro w1 k1
    intro u h; obtain rfl := Eq.symm (h (by simp)); clear h
    intro u h; obtain rfl := Eq.symm (h (by simp)); clear h
    refine relyEnd_nil rfl ?_
    refine wpList_end rfl ?_
    simp only [Act.put, List.setIfInBounds_toArray, List.set_cons_zero, List.set_cons_succ]
    go_simp
    replace R1 := Lib.hid (k1.row R1.out)
    replace HX := Lib.hid (k1.recV HX.out)
    replace HT := Lib.hid (k1.tables HT.out)
    replace HN := Lib.hid (NewT.trans _ _ _ HN.out k1)
    clear k1
    go_upto_region 3 with fail
    refine wp_region_steps0 NewT [SV.eq (.agg (rowA 109 (recF x sv dv))), SV.eq (.bool (greatB x))] [([(1, none)], none), ([(5, some 0)], none)] 19 2 rfl rfl (by kernel_rfl) NewT.trans (NewT.refl _) (Nat.le_of_ble_eq_true rfl) ⟨?_, ?_, trivial⟩ ?_
    · intro a wx hT hF K hK
      obtain ⟨f1, _⟩ := hF
      have f1 : a.tmps.getD 1 undef = .pointer (some ⟨w.heap.size, 0, none⟩) := f1
      refine rely_wp rfl ?_
      exact opr_ldR (hT.row R1.out) rfl f1 (hK _ _ (NewT.refl _) rfl)
    · intro a wx hT hF K hK
      obtain ⟨f5, _⟩ := hF
      have f5 : a.tmps.getD 5 undef = .agg (rowA 109 (recF x sv dv)) := f5
      refine rely_wp rfl ?_
      exact opr_cv (Great_cv _ x wx (hT.recV HX.out)) rfl Tryd.func10 (by kernel_rfl) (by kernel_rfl) (by simp only [List.map_toArray, List.map_cons, List.map_nil, eval_tmp, f5]) hK
    · intro w3 k3
      intro u h; obtain rfl := Eq.symm (h (by simp)); clear h
      intro u h; obtain rfl := Eq.symm (h (by simp)); clear h
      refine relyEnd_nil rfl ?_
      refine wpList_end rfl ?_
      simp only [Act.put, List.setIfInBounds_toArray, List.set_cons_zero, List.set_cons_succ]
      go_simp
      replace R1 := Lib.hid (k3.row R1.out)
      replace HX := Lib.hid (k3.recV HX.out)
      replace HT := Lib.hid (k3.tables HT.out)
      replace HN := Lib.hid (NewT.trans _ _ _ HN.out k3)
      clear k3
      cases hb : (greatB x)
      · have HL1 := Lib.hid (sealedB_len x)
        have HL2 := Lib.hid (openB_len x)
        have PF : Hid (putB x false = sealedB x) := Lib.hid rfl
        have PT : Hid (putB x true = openB x) := Lib.hid rfl
        clear hb
        go_upto_region 5 with fail
        refine wp_region_rely NewT [SV.eq (.agg (rowA 109 (recF x sv dv))), svRd (sealedB x), SV.eq (.agg (rowA 109 (recF x sv dv))), svRd (sealedB x), SV.eq (.bool true), SV.eq (.bool true), SV.eq (.agg (rowA 109 (recF x sv dv))), svRd (openB x), SV.eq (.agg (rowA 109 (recF x sv dv))), svRd (openB x), SV.eq (.bool true), SV.eq (.bool true)] [([(1, none)], none), ([(7, some 0)], none), ([(1, none)], none), ([(9, some 2)], none), ([(8, some 1), (10, some 3)], none), ([(11, some 4)], none), ([(1, none), (12, some 5)], some (12, true)), ([(13, some 6), (12, some 5)], some (12, true)), ([(1, none), (12, some 5)], some (12, true)), ([(15, some 8), (12, some 5)], some (12, true)), ([(14, some 7), (16, some 9), (12, some 5)], some (12, true)), ([(12, some 5), (17, some 10)], none)] 19 rfl (by kernel_rfl) rfl (by kernel_rfl) (by kernel_rfl) rfl NewT.trans (NewT.drew _) (Nat.le_of_ble_eq_true rfl) ⟨?_, ?_, ?_, ?_, ?_, ?_, ?_, ?_, ?_, ?_, ?_, ?_, trivial⟩ ?_
        · intro a wx hT hF K hK
          obtain ⟨f1, _⟩ := hF
          have f1 : a.tmps.getD 1 undef = .pointer (some ⟨w.heap.size, 0, none⟩) := f1
          refine rely_wp rfl ?_
          exact opr_ldR (hT.row R1.out) rfl f1 (hK _ _ (NewT.refl _) rfl)
        · intro a wx hT hF K hK
          obtain ⟨f7, _⟩ := hF
          have f7 : a.tmps.getD 7 undef = .agg (rowA 109 (recF x sv dv)) := f7
          refine rely_wp rfl ?_
          exact opr_cv (Sealed_cv _ x wx (hT.recV HX.out) (hT.tables HT.out)) rfl Tryd.func20 (by kernel_rfl) (by kernel_rfl) (by simp only [List.map_toArray, List.map_cons, List.map_nil, eval_tmp, f7]) hK
        · intro a wx hT hF K hK
          obtain ⟨f1, _⟩ := hF
          have f1 : a.tmps.getD 1 undef = .pointer (some ⟨w.heap.size, 0, none⟩) := f1
          refine rely_wp rfl ?_
          exact opr_ldR (hT.row R1.out) rfl f1 (hK _ _ (NewT.refl _) rfl)
        · intro a wx hT hF K hK
          obtain ⟨f9, _⟩ := hF
          have f9 : a.tmps.getD 9 undef = .agg (rowA 109 (recF x sv dv)) := f9
          refine rely_wp rfl ?_
          exact opr_cv ((show Cv _ _ _ (svRd (sealedB x)) from PF.out ▸ RPut_cv _ x false wx (hT.recV HX.out) (hT.tables HT.out))) rfl Tryd.func21 (by kernel_rfl) (by kernel_rfl) (by simp only [List.map_toArray, List.map_cons, List.map_nil, eval_tmp, eval_const, f9]) hK
        · intro a wx hT hF K hK
          obtain ⟨f8, f10, _⟩ := hF
          replace f8 := show (svRd (sealedB x)).pred (a.tmps.getD 8 undef) wx from f8
          replace f10 := show (svRd (sealedB x)).pred (a.tmps.getD 10 undef) wx from f10
          refine rely_wp rfl ?_
          exact opr_cv (Bytes_true _ _ (sealedB x) wx f8 f10 HL1.out) rfl Tryd.func19 (by kernel_rfl) (by kernel_rfl) (by simp only [List.map_toArray, List.map_cons, List.map_nil, eval_tmp]) hK
        · intro a wx hT hF K hK
          obtain ⟨f11, _⟩ := hF
          have f11 : a.tmps.getD 11 undef = .bool true := f11
          refine rely_wp rfl ?_
          exact opr_move (.inl rfl) (hK _ _ (NewT.refl _) f11)
        · intro a wx hT hF K hK
          obtain ⟨f1, f12, _⟩ := hF
          have f1 : a.tmps.getD 1 undef = .pointer (some ⟨w.heap.size, 0, none⟩) := f1
          have f12 : a.tmps.getD 12 undef = .bool true := f12
          refine rely_wp (rely_guard f12) ?_
          exact opr_ldR (hT.row R1.out) rfl f1 (hK _ _ (NewT.refl _) rfl)
        · intro a wx hT hF K hK
          obtain ⟨f13, f12, _⟩ := hF
          have f13 : a.tmps.getD 13 undef = .agg (rowA 109 (recF x sv dv)) := f13
          have f12 : a.tmps.getD 12 undef = .bool true := f12
          refine rely_wp (rely_guard f12) ?_
          exact opr_cv (Open_cv _ x wx (hT.recV HX.out)) rfl Tryd.func22 (by kernel_rfl) (by kernel_rfl) (by simp only [List.map_toArray, List.map_cons, List.map_nil, eval_tmp, f13]) hK
        · intro a wx hT hF K hK
          obtain ⟨f1, f12, _⟩ := hF
          have f1 : a.tmps.getD 1 undef = .pointer (some ⟨w.heap.size, 0, none⟩) := f1
          have f12 : a.tmps.getD 12 undef = .bool true := f12
          refine rely_wp (rely_guard f12) ?_
          exact opr_ldR (hT.row R1.out) rfl f1 (hK _ _ (NewT.refl _) rfl)
        · intro a wx hT hF K hK
          obtain ⟨f15, f12, _⟩ := hF
          have f15 : a.tmps.getD 15 undef = .agg (rowA 109 (recF x sv dv)) := f15
          have f12 : a.tmps.getD 12 undef = .bool true := f12
          refine rely_wp (rely_guard f12) ?_
          exact opr_cv ((show Cv _ _ _ (svRd (openB x)) from PT.out ▸ RPut_cv _ x true wx (hT.recV HX.out) (hT.tables HT.out))) rfl Tryd.func21 (by kernel_rfl) (by kernel_rfl) (by simp only [List.map_toArray, List.map_cons, List.map_nil, eval_tmp, eval_const, f15]) hK
        · intro a wx hT hF K hK
          obtain ⟨f14, f16, f12, _⟩ := hF
          replace f14 := show (svRd (openB x)).pred (a.tmps.getD 14 undef) wx from f14
          replace f16 := show (svRd (openB x)).pred (a.tmps.getD 16 undef) wx from f16
          have f12 : a.tmps.getD 12 undef = .bool true := f12
          refine rely_wp (rely_guard f12) ?_
          exact opr_cv (Bytes_true _ _ (openB x) wx f14 f16 HL2.out) rfl Tryd.func19 (by kernel_rfl) (by kernel_rfl) (by simp only [List.map_toArray, List.map_cons, List.map_nil, eval_tmp]) hK
        · intro a wx hT hF K hK
          obtain ⟨f12, f17, _⟩ := hF
          have f12 : a.tmps.getD 12 undef = .bool true := f12
          have f17 : a.tmps.getD 17 undef = .bool true := f17
          refine rely_wp rfl ?_
          exact opr_pick_true rfl f12 (hK _ _ (NewT.refl _) f17)
        · intro w5 k5
          intro u h; obtain rfl := Eq.symm (h (by simp)); clear h
          intro _ _
          intro u h; obtain rfl := Eq.symm (h (by simp)); clear h
          intro _ _
          intro u h; obtain rfl := Eq.symm (h (by simp)); clear h
          intro u h; obtain rfl := Eq.symm (h (by simp)); clear h
          intro u h; obtain rfl := Eq.symm (h (by simp)); clear h
          intro _ _
          intro u h; obtain rfl := Eq.symm (h (by simp)); clear h
          intro _ _
          intro u h; obtain rfl := Eq.symm (h (by simp)); clear h
          intro u h; obtain rfl := Eq.symm (h (by simp)); clear h
          refine relyEnd_nil rfl ?_
          simp only [Act.put, List.setIfInBounds_toArray, List.set_cons_zero, List.set_cons_succ]
          refine opr_move (.inr rfl) ?_
          go_simp
          go_wp2
          go_ret
          exact ⟨rfl, (NewT.trans _ _ _ HN.out k5).out⟩
      · go_wp2
        go_ret
        exact ⟨rfl, HN.out.out⟩
end Go.Proofs.YthgblcpekhiphaaDoor
/- The two tables, out of the rows' own condition; the row's last step where the world has new blocks alone; the shapes of the arguments. -/
namespace Go.Proofs.YthgblcpekhiphaaDoor
open Go.ChangeShapes Go.WideShapes Go.ChangeAt Go.WideMaps Go.WideElems Go.RowKit
set_option maxRecDepth 8000

theorem gK : Tryd.prog.globalNamed "inspeximus/api.K" = some 1 := by kernel_rfl
theorem gF : Tryd.prog.globalNamed "inspeximus/api.First" = some 0 := by kernel_rfl
theorem tK : (Tryd.prog.globals[1]?).map (·.type) = some 94 := by kernel_rfl
theorem tF : (Tryd.prog.globals[0]?).map (·.type) = some 76 := by kernel_rfl
def laid2 : List (String × DataW Unit) := [("inspeximus/api.K", Rows.laid_inspeximus_api_K), ("inspeximus/api.First", Rows.laid_inspeximus_api_First)]
def kInts : List Int := kTab.map fun (n : Nat) => (n : Int)
def fInts : List Int := fTab.map fun (n : Nat) => (n : Int)
theorem tables_of_laid {W : World} (h : laidMetH Tryd.prog laid2 W) : Tables W := by
  rw [MakeChecks.laidMetH_plain _ _ _ (by kernel_rfl)] at h
  have hK : Lib.TabIs Tryd.prog W "inspeximus/api.K" .u32 kInts := Lib.tabIs_of_head gK tK Tryd.underlying94 Tryd.underlying75 (by kernel_rfl) (by kernel_rfl) h
  have hF : Lib.TabIs Tryd.prog W "inspeximus/api.First" .u32 fInts := Lib.tabIs_of_head gF tF Tryd.underlying76 Tryd.underlying75 (by kernel_rfl) (by kernel_rfl) (laidMet.tail h)
  have hs : 1 < W.heap.size := World.block_lt_of_cell? _ _ (hK.cell gK 0 (by decide))
  refine ⟨hs, fun i hi => ?_, fun i hi => ?_⟩
  · rw [hK.cell gK i (by simpa [kInts, kTab] using hi)]
    have h : ∀ i : Fin 64, kInts.getD i.val 0 = uN (Kc i.val) := by decide +kernel
    rw [h ⟨i, hi⟩]
  · rw [hF.cell gF i (by simpa [fInts, fTab] using hi)]
    have h : ∀ i : Fin 8, fInts.getD i.val 0 = uN (Fc i.val) := by decide +kernel
    rw [h ⟨i, hi⟩]
/-- The door's own heap meets the condition. -/
theorem door_met (os : Os) (args : Array Value) : laidMetH Tryd.prog laid2 ((World.doorLaid Tryd.prog 400 os).forCall (fun _ _ => 0) ⟨#[], args, []⟩).memory :=
  laidMetH_of_parts3 (fuel := 8) (laidMet_of_run' 8 (by kernel_rfl) (by kernel_rfl)) (by kernel_rfl) (by kernel_rfl)
end Go.Proofs.YthgblcpekhiphaaDoor
/- (all of it lies in EP now) -/
/- The laws' arguments, opened: arrays of numbers by value, slices of bytes. -/
namespace Go.Proofs.YthgblcpekhiphaaDoor
open Go.ChangeShapes Go.WideShapes Go.ChangeAt Go.WideMaps Go.WideElems Go.RowKit
set_option maxRecDepth 8000

end Go.Proofs.YthgblcpekhiphaaDoor
