/- Package saga: the saga behind a Receipt, behind a Lapse. -/
import Derived.Test.YtilmeffmdgcblaaMb
import Derived.Test.YtilmeffmdgcblaaMa
import Derived.OrdersIn
import Derived.Sort.CutIn
set_option linter.all false
namespace Go.Proofs.Ytilmeffmdgcblaa
open Go Go.RowKit
set_option maxRecDepth 8000
set_option linter.all false
set_option maxHeartbeats 4000000 in
theorem wentWell_cv (sv : Value) (l : List (Int × Int)) (g : Sg) (x : Rc) (v : Value) (w : World) (hs : RdP w sv l) (hx : RecV w v x) (hk : 0 ≤ x.step ∧ x.step < 6) (ha : 0 ≤ g.at_ ∧ g.at_ ≤ 6) : Cv 53 #[.agg (rowA 10 (sgF sv g)), v] w (.eq (.agg (rowA 10 (sgF sv (wellG g x.back x.step))))) := by
  obtain ⟨su, dv, rfl, hsx, hdx⟩ := hx
  have HX : Hid (RecV w (.agg (rowA 109 (recF x su dv))) x) := Lib.hid ⟨su, dv, rfl, hsx, hdx⟩
  have HSX := Lib.hid hsx
  have HD := Lib.hid hdx
  clear hsx hdx
  unfold Cv
  have HS := Lib.hid hs
  have HK6 := Lib.hid hk
  have HAT := Lib.hid ha
  clear hs hk ha
  go_enter Try.func53, Try.ntmps53
  go_upto_region 1 with fail
  have r_g1 := ((rowIs_box w 48 10 (sgF sv g)).alloc (.cells (rowA 109 (recF x su dv)) 46)).alloc (.cells (rowA 10 (sgF (.slice none 0 0) zG)) 48)
  have r_g2 := (rowIs_box (w.alloc (.cells (rowA 10 (sgF sv g)) 48)) 46 109 (recF x su dv)).alloc (.cells (rowA 10 (sgF (.slice none 0 0) zG)) 48)
  rw [World.size_alloc] at r_g2
  have r_g3 := rowIs_box ((w.alloc (.cells (rowA 10 (sgF sv g)) 48)).alloc (.cells (rowA 109 (recF x su dv)) 46)) 48 10 (sgF (.slice none 0 0) zG)
  rw [World.size_alloc, World.size_alloc] at r_g3
  have hN : NewT w (((w.alloc (.cells (rowA 10 (sgF sv g)) 48)).alloc (.cells (rowA 109 (recF x su dv)) 46)).alloc (.cells (rowA 10 (sgF (.slice none 0 0) zG)) 48)) := (NewT.trans _ _ _ ((NewT.trans _ _ _ (NewT.alloc _ _) (NewT.alloc _ _))) (NewT.alloc _ _))
  change Code.wp _ _ _ _ (((w.alloc (.cells (rowA 10 (sgF sv g)) 48)).alloc (.cells (rowA 109 (recF x su dv)) 46)).alloc (.cells (rowA 10 (sgF (.slice none 0 0) zG)) 48))
  generalize (((w.alloc (.cells (rowA 10 (sgF sv g)) 48)).alloc (.cells (rowA 109 (recF x su dv)) 46)).alloc (.cells (rowA 10 (sgF (.slice none 0 0) zG)) 48)) = W0 at r_g1 r_g2 r_g3 hN ⊢
  obtain ⟨g1, h_g1⟩ : ∃ g_, w.heap.size = g_ := ⟨_, rfl⟩
  obtain ⟨g2, h_g2⟩ : ∃ g_, w.heap.size + 1 = g_ := ⟨_, rfl⟩
  obtain ⟨g3, h_g3⟩ : ∃ g_, w.heap.size + 1 + 1 = g_ := ⟨_, rfl⟩
  have HG : Hid (w.heap.size ≤ g1 ∧ g1 < g2 ∧ g2 < g3) := Lib.hid (by omega)
  rw [h_g1] at r_g1
  rw [h_g2] at r_g2
  rw [h_g3] at r_g3
  try rw [h_g3]
  try rw [h_g2]
  simp only [h_g1]
  have Rg1 := Lib.hid r_g1
  have Rg2 := Lib.hid r_g2
  have Rg3 := Lib.hid r_g3
  have HM := Lib.hid hN
  clear r_g1 r_g2 r_g3 hN h_g1 h_g2 h_g3
  go_upto_region 1 with fail
  refine wp_region_steps0 NewT [SV.eq (.pointer (some ⟨g1, 3, none⟩))] [([(2, none)], none)] 35 1 rfl rfl (by kernel_rfl) NewT.trans (NewT.refl _) (Nat.le_of_ble_eq_true rfl) ⟨?_, trivial⟩ ?_
  · exact fun a wx hT hF K hK => rely_wp rfl (opr_fldU3 rfl hF.1 (hK _ _ (NewT.refl _) rfl))
  · intro w1 k1
    intro u h; obtain rfl := Eq.symm (h (by simp)); clear h
    refine relyEnd_nil rfl ?_
    simp only [Act.put, List.setIfInBounds_toArray, List.set_cons_zero, List.set_cons_succ]
    refine wpList_plain rfl (fun K hK => ?_)
    refine opr_put1 (g := g1) (o0 := 3) (v := .int .i64 0) (F := sgF sv ({ g with tr := 0 })) rfl rfl rfl (k1.row Rg1.out) (by decide) info_i1 rfl (fun i hi => gs_tr sv g i hi 0) ?_
    intro W1 hR1 rr1
    refine hK _ _ ?_
    clear hK K
    refine wpList_end rfl ?_
    simp only [Act.put, List.setIfInBounds_toArray, List.set_cons_zero, List.set_cons_succ]
    go_simp
    replace Rg1 := Lib.hid rr1
    replace Rg2 := Lib.hid (hR1.row (by have h_0 := HG.out; omega) (k1.row Rg2.out))
    replace Rg3 := Lib.hid (hR1.row (by have h_0 := HG.out; omega) (k1.row Rg3.out))
    replace HM := Lib.hid (NewT.rt (NewT.trans _ _ _ HM.out k1) hR1 (by have h_0 := HG.out; omega))
    clear k1 hR1 rr1
    go_upto_region 2 with fail
    refine wp_region_steps0 NewT [SV.eq (.pointer (some ⟨g2, 5, none⟩)), SV.eq (.bool (x.back))] [([(3, none)], none), ([(6, some 0)], none)] 35 2 rfl rfl (by kernel_rfl) NewT.trans (NewT.refl _) (Nat.le_of_ble_eq_true rfl) ⟨?_, ?_, trivial⟩ ?_
    · exact fun a wx hT hF K hK => rely_wp rfl (opr_fldR (by decide) rfl hF.1 (hK _ _ (NewT.refl _) rfl))
    · exact fun a wx hT hF K hK => rely_wp rfl (opr_ldQ (hT.row Rg2.out) (by decide) rfl rfl hF.1 (hK _ _ (NewT.refl _) rfl))
    · intro w2 k2
      iterate 2 (intro u h; obtain rfl := Eq.symm (h (by simp)); clear h)
      refine relyEnd_nil rfl ?_
      refine wpList_end rfl ?_
      simp only [Act.put, List.setIfInBounds_toArray, List.set_cons_zero, List.set_cons_succ]
      go_simp
      replace Rg1 := Lib.hid (k2.row Rg1.out)
      replace Rg2 := Lib.hid (k2.row Rg2.out)
      replace Rg3 := Lib.hid (k2.row Rg3.out)
      replace HM := Lib.hid (NewT.trans _ _ _ HM.out k2)
      clear k2
      cases hb : x.back
      · have HE : Hid (wellG g x.back x.step = { g with tr := 0, dn := orI g.dn (bitI x.step), so := notI g.so (bitI x.step), at_ := g.at_ + 1 }) := Lib.hid (by unfold wellG; rw [hb]; rfl)
        clear hb
        go_upto_region 5 with fail
        refine wp_region_rely (NewT) [SV.eq (.pointer (some ⟨g1, 6, none⟩)), SV.eq (.int .i64 (g.dn)), SV.eq (.pointer (some ⟨g2, 3, none⟩)), SV.eq (.int .i64 (x.step)), SV.eq (.int .i64 (bitI x.step)), SV.eq (.int .i64 (orI g.dn (bitI x.step))), SV.eq (.pointer (some ⟨g1, 6, none⟩))] [([(2, none)], none), ([(16, some 0)], none), ([(3, none)], none), ([(18, some 2)], none), ([(19, some 3)], none), ([(17, some 1), (20, some 4)], none), ([(2, none)], none)] 35 rfl (by kernel_rfl) rfl (by kernel_rfl) (by kernel_rfl) rfl NewT.trans (NewT.drew _) (Nat.le_of_ble_eq_true rfl) ⟨?_, ?_, ?_, ?_, ?_, ?_, ?_, trivial⟩ ?_
        · exact fun a wx hT hF K hK => rely_wp rfl (opr_fldU6 rfl hF.1 (hK _ _ (NewT.refl _) rfl))
        · exact fun a wx hT hF K hK => rely_wp rfl (opr_ldI (hT.row Rg1.out) (by decide) rfl rfl hF.1 (hK _ _ (NewT.refl _) rfl))
        · exact fun a wx hT hF K hK => rely_wp rfl (opr_fldR (by decide) rfl hF.1 (hK _ _ (NewT.refl _) rfl))
        · exact fun a wx hT hF K hK => rely_wp rfl (opr_ldI (hT.row Rg2.out) (by decide) rfl rfl hF.1 (hK _ _ (NewT.refl _) rfl))
        · exact fun a wx hT hF K hK => rely_wp rfl (opr_cv (gBit_cv x.step wx (HK6.out)) rfl Try.func65 (by kernel_rfl) (by kernel_rfl) (evs1 hF.1) hK)
        · exact fun a wx hT hF K hK => rely_wp rfl (opr_orI rfl hF.1 hF.2.1 (hK _ _ (NewT.refl _) rfl))
        · exact fun a wx hT hF K hK => rely_wp rfl (opr_fldU6 rfl hF.1 (hK _ _ (NewT.refl _) rfl))
        · intro w3 k3
          iterate 7 (intro u h; obtain rfl := Eq.symm (h (by simp)); clear h)
          refine relyEnd_nil rfl ?_
          simp only [Act.put, List.setIfInBounds_toArray, List.set_cons_zero, List.set_cons_succ]
          refine opr_put1 (g := g1) (o0 := 6) (v := .int .i64 (orI g.dn (bitI x.step))) (F := sgF sv ({ g with tr := 0, dn := orI g.dn (bitI x.step) })) rfl rfl rfl (k3.row Rg1.out) (by decide) info_i1 rfl (fun i hi => gs_dn sv { g with tr := 0 } i hi _) ?_
          intro W3 hR3 rr3
          go_simp
          replace Rg1 := Lib.hid rr3
          replace Rg2 := Lib.hid (hR3.row (by have h_0 := HG.out; omega) (k3.row Rg2.out))
          replace Rg3 := Lib.hid (hR3.row (by have h_0 := HG.out; omega) (k3.row Rg3.out))
          replace HM := Lib.hid (NewT.rt (NewT.trans _ _ _ HM.out k3) hR3 (by have h_0 := HG.out; omega))
          clear k3 hR3 rr3
          go_upto_region 6 with fail
          refine wp_region_rely (NewT) [SV.eq (.pointer (some ⟨g1, 8, none⟩)), SV.eq (.int .i64 (g.so)), SV.eq (.pointer (some ⟨g2, 3, none⟩)), SV.eq (.int .i64 (x.step)), SV.eq (.int .i64 (bitI x.step)), SV.eq (.int .i64 (notI g.so (bitI x.step))), SV.eq (.pointer (some ⟨g1, 8, none⟩))] [([(2, none)], none), ([(23, some 0)], none), ([(3, none)], none), ([(25, some 2)], none), ([(26, some 3)], none), ([(24, some 1), (27, some 4)], none), ([(2, none)], none)] 35 rfl (by kernel_rfl) rfl (by kernel_rfl) (by kernel_rfl) rfl NewT.trans (NewT.drew _) (Nat.le_of_ble_eq_true rfl) ⟨?_, ?_, ?_, ?_, ?_, ?_, ?_, trivial⟩ ?_
          · exact fun a wx hT hF K hK => rely_wp rfl (opr_fldU8 rfl hF.1 (hK _ _ (NewT.refl _) rfl))
          · exact fun a wx hT hF K hK => rely_wp rfl (opr_ldI (hT.row Rg1.out) (by decide) rfl rfl hF.1 (hK _ _ (NewT.refl _) rfl))
          · exact fun a wx hT hF K hK => rely_wp rfl (opr_fldR (by decide) rfl hF.1 (hK _ _ (NewT.refl _) rfl))
          · exact fun a wx hT hF K hK => rely_wp rfl (opr_ldI (hT.row Rg2.out) (by decide) rfl rfl hF.1 (hK _ _ (NewT.refl _) rfl))
          · exact fun a wx hT hF K hK => rely_wp rfl (opr_cv (gBit_cv x.step wx (HK6.out)) rfl Try.func65 (by kernel_rfl) (by kernel_rfl) (evs1 hF.1) hK)
          · exact fun a wx hT hF K hK => rely_wp rfl (opr_notI rfl hF.1 hF.2.1 (hK _ _ (NewT.refl _) rfl))
          · exact fun a wx hT hF K hK => rely_wp rfl (opr_fldU8 rfl hF.1 (hK _ _ (NewT.refl _) rfl))
          · intro w4 k4
            iterate 7 (intro u h; obtain rfl := Eq.symm (h (by simp)); clear h)
            refine relyEnd_nil rfl ?_
            simp only [Act.put, List.setIfInBounds_toArray, List.set_cons_zero, List.set_cons_succ]
            refine opr_put1 (g := g1) (o0 := 8) (v := .int .i64 (notI g.so (bitI x.step))) (F := sgF sv ({ g with tr := 0, dn := orI g.dn (bitI x.step), so := notI g.so (bitI x.step) })) rfl rfl rfl (k4.row Rg1.out) (by decide) info_i1 rfl (fun i hi => gs_so sv { g with tr := 0, dn := orI g.dn (bitI x.step) } i hi _) ?_
            intro W4 hR4 rr4
            go_simp
            replace Rg1 := Lib.hid rr4
            replace Rg2 := Lib.hid (hR4.row (by have h_0 := HG.out; omega) (k4.row Rg2.out))
            replace Rg3 := Lib.hid (hR4.row (by have h_0 := HG.out; omega) (k4.row Rg3.out))
            replace HM := Lib.hid (NewT.rt (NewT.trans _ _ _ HM.out k4) hR4 (by have h_0 := HG.out; omega))
            clear k4 hR4 rr4
            go_upto_region 7 with fail
            refine wp_region_steps0 NewT [SV.eq (.pointer (some ⟨g1, 2, none⟩)), SV.eq (.int .i64 (g.at_)), SV.eq (.int .i64 (g.at_ + 1)), SV.eq (.pointer (some ⟨g1, 2, none⟩))] [([(2, none)], none), ([(30, some 0)], none), ([(31, some 1)], none), ([(2, none)], none)] 35 4 rfl rfl (by kernel_rfl) NewT.trans (NewT.refl _) (Nat.le_of_ble_eq_true rfl) ⟨?_, ?_, ?_, ?_, trivial⟩ ?_
            · exact fun a wx hT hF K hK => rely_wp rfl (opr_fldU2 rfl hF.1 (hK _ _ (NewT.refl _) rfl))
            · exact fun a wx hT hF K hK => rely_wp rfl (opr_ldI (hT.row Rg1.out) (by decide) rfl rfl hF.1 (hK _ _ (NewT.refl _) rfl))
            · exact fun a wx hT hF K hK => rely_wp rfl (opr_add (r := g.at_ + 1) Try.underlying3 (by have := HAT.out; show wrap64 (g.at_ + 1) = _; unfold wrap64; omega) rfl hF.1 rfl (hK _ _ (NewT.refl _) rfl))
            · exact fun a wx hT hF K hK => rely_wp rfl (opr_fldU2 rfl hF.1 (hK _ _ (NewT.refl _) rfl))
            · intro w5 k5
              iterate 4 (intro u h; obtain rfl := Eq.symm (h (by simp)); clear h)
              refine relyEnd_nil rfl ?_
              simp only [Act.put, List.setIfInBounds_toArray, List.set_cons_zero, List.set_cons_succ]
              refine wpList_plain rfl (fun K hK => ?_)
              refine opr_put1 (g := g1) (o0 := 2) (v := .int .i64 (g.at_ + 1)) (F := sgF sv ({ g with tr := 0, dn := orI g.dn (bitI x.step), so := notI g.so (bitI x.step), at_ := g.at_ + 1 })) rfl rfl rfl (k5.row Rg1.out) (by decide) info_i1 rfl (fun i hi => gs_at sv { g with tr := 0, dn := orI g.dn (bitI x.step), so := notI g.so (bitI x.step) } i hi _) ?_
              intro W5 hR5 rr5
              refine hK _ _ ?_
              clear hK K
              refine wpList_end rfl ?_
              simp only [Act.put, List.setIfInBounds_toArray, List.set_cons_zero, List.set_cons_succ]
              go_simp
              replace Rg1 := Lib.hid rr5
              replace Rg2 := Lib.hid (hR5.row (by have h_0 := HG.out; omega) (k5.row Rg2.out))
              replace Rg3 := Lib.hid (hR5.row (by have h_0 := HG.out; omega) (k5.row Rg3.out))
              replace HM := Lib.hid (NewT.rt (NewT.trans _ _ _ HM.out k5) hR5 (by have h_0 := HG.out; omega))
              clear k5 hR5 rr5
              go_upto_region 8 with fail
              refine wp_region_steps0 NewT [SV.eq (.agg (rowA 10 (sgF sv ({ g with tr := 0, dn := orI g.dn (bitI x.step), so := notI g.so (bitI x.step), at_ := g.at_ + 1 }))))] [([(2, none)], none)] 35 1 rfl rfl (by kernel_rfl) NewT.trans (NewT.refl _) (Nat.le_of_ble_eq_true rfl) ⟨?_, trivial⟩ ?_
              · exact fun a wx hT hF K hK => rely_wp rfl (opr_ldU (hT.row Rg1.out) rfl hF.1 (hK _ _ (NewT.refl _) rfl))
              · intro w6 k6
                intro u h; obtain rfl := Eq.symm (h (by simp)); clear h
                refine relyEnd_nil rfl ?_
                simp only [Act.put, List.setIfInBounds_toArray, List.set_cons_zero, List.set_cons_succ]
                refine wpList_plain rfl (fun K hK => ?_)
                refine opr_putm (g := g3) (o0 := 0) (m := 10) (f := sgF sv ({ g with tr := 0, dn := orI g.dn (bitI x.step), so := notI g.so (bitI x.step), at_ := g.at_ + 1 })) (F := sgF sv ({ g with tr := 0, dn := orI g.dn (bitI x.step), so := notI g.so (bitI x.step), at_ := g.at_ + 1 })) rfl rfl rfl (k6.row Rg3.out) (by decide) info_saga (sgF_one _ _ (oneP HS.out)) (put_allN _ _ _) ?_
                intro W6 hR6 rr6
                refine hK _ _ ?_
                clear hK K
                refine wpList_end rfl ?_
                simp only [Act.put, List.setIfInBounds_toArray, List.set_cons_zero, List.set_cons_succ]
                go_simp
                replace Rg3 := Lib.hid rr6
                replace Rg1 := Lib.hid (hR6.row (by have h_0 := HG.out; omega) (k6.row Rg1.out))
                replace Rg2 := Lib.hid (hR6.row (by have h_0 := HG.out; omega) (k6.row Rg2.out))
                replace HM := Lib.hid (NewT.rt (NewT.trans _ _ _ HM.out k6) hR6 (by have h_0 := HG.out; omega))
                clear k6 hR6 rr6
                go_wp2
                exact bodyPost_ret (results_agg rfl _ rfl Rg3.out Try.underlying48 rfl info_saga) rfl ⟨_, rfl, HM.out, by show _ = Value.agg _; rw [HE.out]⟩
      · have HE : Hid (wellG g x.back x.step = { g with tr := 0, un := orI g.un (bitI x.step) }) := Lib.hid (by unfold wellG; rw [hb]; rfl)
        clear hb
        go_upto_region 3 with fail
        refine wp_region_rely (NewT) [SV.eq (.pointer (some ⟨g1, 7, none⟩)), SV.eq (.int .i64 (g.un)), SV.eq (.pointer (some ⟨g2, 3, none⟩)), SV.eq (.int .i64 (x.step)), SV.eq (.int .i64 (bitI x.step)), SV.eq (.int .i64 (orI g.un (bitI x.step))), SV.eq (.pointer (some ⟨g1, 7, none⟩))] [([(2, none)], none), ([(8, some 0)], none), ([(3, none)], none), ([(10, some 2)], none), ([(11, some 3)], none), ([(9, some 1), (12, some 4)], none), ([(2, none)], none)] 35 rfl (by kernel_rfl) rfl (by kernel_rfl) (by kernel_rfl) rfl NewT.trans (NewT.drew _) (Nat.le_of_ble_eq_true rfl) ⟨?_, ?_, ?_, ?_, ?_, ?_, ?_, trivial⟩ ?_
        · exact fun a wx hT hF K hK => rely_wp rfl (opr_fldU7 rfl hF.1 (hK _ _ (NewT.refl _) rfl))
        · exact fun a wx hT hF K hK => rely_wp rfl (opr_ldI (hT.row Rg1.out) (by decide) rfl rfl hF.1 (hK _ _ (NewT.refl _) rfl))
        · exact fun a wx hT hF K hK => rely_wp rfl (opr_fldR (by decide) rfl hF.1 (hK _ _ (NewT.refl _) rfl))
        · exact fun a wx hT hF K hK => rely_wp rfl (opr_ldI (hT.row Rg2.out) (by decide) rfl rfl hF.1 (hK _ _ (NewT.refl _) rfl))
        · exact fun a wx hT hF K hK => rely_wp rfl (opr_cv (gBit_cv x.step wx (HK6.out)) rfl Try.func65 (by kernel_rfl) (by kernel_rfl) (evs1 hF.1) hK)
        · exact fun a wx hT hF K hK => rely_wp rfl (opr_orI rfl hF.1 hF.2.1 (hK _ _ (NewT.refl _) rfl))
        · exact fun a wx hT hF K hK => rely_wp rfl (opr_fldU7 rfl hF.1 (hK _ _ (NewT.refl _) rfl))
        · intro w7 k7
          iterate 7 (intro u h; obtain rfl := Eq.symm (h (by simp)); clear h)
          refine relyEnd_nil rfl ?_
          simp only [Act.put, List.setIfInBounds_toArray, List.set_cons_zero, List.set_cons_succ]
          refine opr_put1 (g := g1) (o0 := 7) (v := .int .i64 (orI g.un (bitI x.step))) (F := sgF sv ({ g with tr := 0, un := orI g.un (bitI x.step) })) rfl rfl rfl (k7.row Rg1.out) (by decide) info_i1 rfl (fun i hi => gs_un sv { g with tr := 0 } i hi _) ?_
          intro W7 hR7 rr7
          go_simp
          replace Rg1 := Lib.hid rr7
          replace Rg2 := Lib.hid (hR7.row (by have h_0 := HG.out; omega) (k7.row Rg2.out))
          replace Rg3 := Lib.hid (hR7.row (by have h_0 := HG.out; omega) (k7.row Rg3.out))
          replace HM := Lib.hid (NewT.rt (NewT.trans _ _ _ HM.out k7) hR7 (by have h_0 := HG.out; omega))
          clear k7 hR7 rr7
          go_upto_region 4 with fail
          refine wp_region_steps0 NewT [SV.eq (.agg (rowA 10 (sgF sv ({ g with tr := 0, un := orI g.un (bitI x.step) }))))] [([(2, none)], none)] 35 1 rfl rfl (by kernel_rfl) NewT.trans (NewT.refl _) (Nat.le_of_ble_eq_true rfl) ⟨?_, trivial⟩ ?_
          · exact fun a wx hT hF K hK => rely_wp rfl (opr_ldU (hT.row Rg1.out) rfl hF.1 (hK _ _ (NewT.refl _) rfl))
          · intro w8 k8
            intro u h; obtain rfl := Eq.symm (h (by simp)); clear h
            refine relyEnd_nil rfl ?_
            simp only [Act.put, List.setIfInBounds_toArray, List.set_cons_zero, List.set_cons_succ]
            refine wpList_plain rfl (fun K hK => ?_)
            refine opr_putm (g := g3) (o0 := 0) (m := 10) (f := sgF sv ({ g with tr := 0, un := orI g.un (bitI x.step) })) (F := sgF sv ({ g with tr := 0, un := orI g.un (bitI x.step) })) rfl rfl rfl (k8.row Rg3.out) (by decide) info_saga (sgF_one _ _ (oneP HS.out)) (put_allN _ _ _) ?_
            intro W8 hR8 rr8
            refine hK _ _ ?_
            clear hK K
            refine wpList_end rfl ?_
            simp only [Act.put, List.setIfInBounds_toArray, List.set_cons_zero, List.set_cons_succ]
            go_simp
            replace Rg3 := Lib.hid rr8
            replace Rg1 := Lib.hid (hR8.row (by have h_0 := HG.out; omega) (k8.row Rg1.out))
            replace Rg2 := Lib.hid (hR8.row (by have h_0 := HG.out; omega) (k8.row Rg2.out))
            replace HM := Lib.hid (NewT.rt (NewT.trans _ _ _ HM.out k8) hR8 (by have h_0 := HG.out; omega))
            clear k8 hR8 rr8
            go_wp2
            exact bodyPost_ret (results_agg rfl _ rfl Rg3.out Try.underlying48 rfl info_saga) rfl ⟨_, rfl, HM.out, by show _ = Value.agg _; rw [HE.out]⟩
set_option maxHeartbeats 4000000 in
theorem refused_n (sv : Value) (l : List (Int × Int)) (g : Sg) (k : Nat) (w : World) (hs : RdP w sv l) (hl : l.length ≤ 6) (hk : k < l.length) : Cv 54 #[.agg (rowA 10 (sgF sv g)), .int .i64 (k : Int)] w (.eq (.agg (rowA 10 (sgF sv (refG l g k))))) := by
  unfold Cv
  have HS := Lib.hid hs
  have HST := Lib.hid hk
  have HK6 : Hid (0 ≤ (k : Int) ∧ (k : Int) < 6) := Lib.hid (by omega)
  obtain ⟨d, HDD⟩ := hid_ex (l.getD k (0, 0))
  clear hs hl hk
  go_enter Try.func54, Try.ntmps54
  go_upto_region 1 with fail
  have r_g1 := (rowIs_box w 48 10 (sgF sv g)).alloc (.cells (rowA 10 (sgF (.slice none 0 0) zG)) 48)
  have r_g3 := rowIs_box (w.alloc (.cells (rowA 10 (sgF sv g)) 48)) 48 10 (sgF (.slice none 0 0) zG)
  rw [World.size_alloc] at r_g3
  have hN : NewT w ((w.alloc (.cells (rowA 10 (sgF sv g)) 48)).alloc (.cells (rowA 10 (sgF (.slice none 0 0) zG)) 48)) := (NewT.trans _ _ _ (NewT.alloc _ _) (NewT.alloc _ _))
  change Code.wp _ _ _ _ ((w.alloc (.cells (rowA 10 (sgF sv g)) 48)).alloc (.cells (rowA 10 (sgF (.slice none 0 0) zG)) 48))
  generalize ((w.alloc (.cells (rowA 10 (sgF sv g)) 48)).alloc (.cells (rowA 10 (sgF (.slice none 0 0) zG)) 48)) = W0 at r_g1 r_g3 hN ⊢
  obtain ⟨g1, h_g1⟩ : ∃ g_, w.heap.size = g_ := ⟨_, rfl⟩
  obtain ⟨g3, h_g3⟩ : ∃ g_, w.heap.size + 1 = g_ := ⟨_, rfl⟩
  have HG : Hid (w.heap.size ≤ g1 ∧ g1 < g3) := Lib.hid (by omega)
  rw [h_g1] at r_g1
  rw [h_g3] at r_g3
  try rw [h_g3]
  simp only [h_g1]
  have Rg1 := Lib.hid r_g1
  have Rg3 := Lib.hid r_g3
  have HM := Lib.hid hN
  clear r_g1 r_g3 hN h_g1 h_g3
  go_upto_region 1 with fail
  refine wp_region_steps0 NewT [SV.eq (.pointer (some ⟨g1, 0, none⟩)), SV.eq (sv), SV.eq (.int .i64 ((k : Int))), svStp (d), svIp (d).2, SV.eq (.int .i64 ((d).2)), SV.eq (.bool (((d).2) == 3))] [([(2, none)], none), ([(5, some 0)], none), ([(1, none)], none), ([(6, some 1), (7, some 2)], none), ([(8, some 3)], none), ([(9, some 4)], none), ([(10, some 5)], none)] 21 7 rfl rfl (by kernel_rfl) NewT.trans (NewT.refl _) (Nat.le_of_ble_eq_true rfl) ⟨?_, ?_, ?_, ?_, ?_, ?_, ?_, trivial⟩ ?_
  · exact fun a wx hT hF K hK => rely_wp rfl (opr_fldU0 rfl hF.1 (hK _ _ (NewT.refl _) rfl))
  · exact fun a wx hT hF K hK => rely_wp rfl (opr_ldS (hT.row Rg1.out) (by decide) rfl rfl hF.1 (hK _ _ (NewT.refl _) rfl))
  · exact fun a wx hT hF K hK => rely_wp rfl (opr_move (.inl rfl) (hK _ _ (NewT.refl _) hF.1))
  · intro a wx hT hF K hK
    obtain ⟨f6, f7, _⟩ := hF
    have f6 : a.tmps.getD 6 undef = sv := f6
    have f7 : a.tmps.getD 7 undef = .int .i64 ((k : Int)) := f7
    refine rely_wp rfl ?_
    exact opr_idxSt (k := k) (d := d) (⟨HST.out, HDD.out⟩) (rfl) rfl (by rw [eval_tmp, f6]; exact ((NewT.trans _ _ _ HM.out hT).pairs HS.out)) f7 (fun v hv => hK v _ (NewT.refl _) hv)
  · exact fun a wx hT hF K hK => rely_wp rfl (opr_fldSt1 rfl hF.1 (fun u hu => hK u _ (NewT.refl _) hu))
  · exact fun a wx hT hF K hK => rely_wp rfl (opr_ldIp rfl hF.1 (hK _ _ (NewT.refl _) rfl))
  · exact fun a wx hT hF K hK => rely_wp rfl (opr_cmp (b := ((d).2) == 3) (.inl ⟨rfl, rfl⟩) Try.underlying3 rfl hF.1 rfl (hK _ _ (NewT.refl _) rfl))
  · intro w1 k1
    iterate 3 (intro u h; obtain rfl := Eq.symm (h (by simp)); clear h)
    iterate 2 (intro _ _)
    iterate 2 (intro u h; obtain rfl := Eq.symm (h (by simp)); clear h)
    refine relyEnd_nil rfl ?_
    refine wpList_end rfl ?_
    simp only [Act.put, List.setIfInBounds_toArray, List.set_cons_zero, List.set_cons_succ]
    go_simp
    replace Rg1 := Lib.hid (k1.row Rg1.out)
    replace Rg3 := Lib.hid (k1.row Rg3.out)
    replace HM := Lib.hid (NewT.trans _ _ _ HM.out k1)
    clear k1
    cases hb : (d.2 == 3)
    · have HE : Hid (refG l g (k : Int) = turnG { g with so := notI g.so (bitI k) }) := Lib.hid (by unfold refG kdL; rw [Int.toNat_natCast, HDD.out, if_neg (by simpa using hb)])
      clear hb
      go_upto_region 3 with fail
      refine wp_region_rely (NewT) [SV.eq (.pointer (some ⟨g1, 8, none⟩)), SV.eq (.int .i64 (g.so)), SV.eq (.int .i64 ((k : Int))), SV.eq (.int .i64 (bitI ((k : Int)))), SV.eq (.int .i64 (notI g.so (bitI ((k : Int))))), SV.eq (.pointer (some ⟨g1, 8, none⟩))] [([(2, none)], none), ([(13, some 0)], none), ([(1, none)], none), ([(15, some 2)], none), ([(14, some 1), (16, some 3)], none), ([(2, none)], none)] 21 rfl (by kernel_rfl) rfl (by kernel_rfl) (by kernel_rfl) rfl NewT.trans (NewT.drew _) (Nat.le_of_ble_eq_true rfl) ⟨?_, ?_, ?_, ?_, ?_, ?_, trivial⟩ ?_
      · exact fun a wx hT hF K hK => rely_wp rfl (opr_fldU8 rfl hF.1 (hK _ _ (NewT.refl _) rfl))
      · exact fun a wx hT hF K hK => rely_wp rfl (opr_ldI (hT.row Rg1.out) (by decide) rfl rfl hF.1 (hK _ _ (NewT.refl _) rfl))
      · exact fun a wx hT hF K hK => rely_wp rfl (opr_move (.inl rfl) (hK _ _ (NewT.refl _) hF.1))
      · exact fun a wx hT hF K hK => rely_wp rfl (opr_cv (gBit_cv ((k : Int)) wx (HK6.out)) rfl Try.func65 (by kernel_rfl) (by kernel_rfl) (evs1 hF.1) hK)
      · exact fun a wx hT hF K hK => rely_wp rfl (opr_notI rfl hF.1 hF.2.1 (hK _ _ (NewT.refl _) rfl))
      · exact fun a wx hT hF K hK => rely_wp rfl (opr_fldU8 rfl hF.1 (hK _ _ (NewT.refl _) rfl))
      · intro w2 k2
        iterate 6 (intro u h; obtain rfl := Eq.symm (h (by simp)); clear h)
        refine relyEnd_nil rfl ?_
        simp only [Act.put, List.setIfInBounds_toArray, List.set_cons_zero, List.set_cons_succ]
        refine opr_put1 (g := g1) (o0 := 8) (v := .int .i64 (notI g.so (bitI k))) (F := sgF sv ({ g with so := notI g.so (bitI k) })) rfl rfl rfl (k2.row Rg1.out) (by decide) info_i1 rfl (fun i hi => gs_so sv g i hi _) ?_
        intro W2 hR2 rr2
        go_simp
        replace Rg1 := Lib.hid rr2
        replace Rg3 := Lib.hid (hR2.row (by have h_0 := HG.out; omega) (k2.row Rg3.out))
        replace HM := Lib.hid (NewT.rt (NewT.trans _ _ _ HM.out k2) hR2 (by have h_0 := HG.out; omega))
        clear k2 hR2 rr2
        go_upto_region 4 with fail
        refine wp_region_steps0 NewT [SV.eq (.agg (rowA 10 (sgF sv ({ g with so := notI g.so (bitI k) })))), SV.eq ((.agg (rowA 10 (sgF sv (turnG ({ g with so := notI g.so (bitI k) }))))))] [([(2, none)], none), ([(19, some 0)], none)] 21 2 rfl rfl (by kernel_rfl) NewT.trans (NewT.refl _) (Nat.le_of_ble_eq_true rfl) ⟨?_, ?_, trivial⟩ ?_
        · exact fun a wx hT hF K hK => rely_wp rfl (opr_ldU (hT.row Rg1.out) rfl hF.1 (hK _ _ (NewT.refl _) rfl))
        · exact fun a wx hT hF K hK => rely_wp rfl (opr_cv (turned_cv sv ({ g with so := notI g.so (bitI k) }) wx (oneP HS.out)) rfl Try.func66 (by kernel_rfl) (by kernel_rfl) (evs1 hF.1) hK)
        · intro w3 k3
          iterate 2 (intro u h; obtain rfl := Eq.symm (h (by simp)); clear h)
          refine relyEnd_nil rfl ?_
          simp only [Act.put, List.setIfInBounds_toArray, List.set_cons_zero, List.set_cons_succ]
          refine wpList_plain rfl (fun K hK => ?_)
          refine opr_putm (g := g3) (o0 := 0) (m := 10) (f := sgF sv (turnG { g with so := notI g.so (bitI k) })) (F := sgF sv (turnG { g with so := notI g.so (bitI k) })) rfl rfl rfl (k3.row Rg3.out) (by decide) info_saga (sgF_one _ _ (oneP HS.out)) (put_allN _ _ _) ?_
          intro W3 hR3 rr3
          refine hK _ _ ?_
          clear hK K
          refine wpList_end rfl ?_
          simp only [Act.put, List.setIfInBounds_toArray, List.set_cons_zero, List.set_cons_succ]
          go_simp
          replace Rg3 := Lib.hid rr3
          replace Rg1 := Lib.hid (hR3.row (by have h_0 := HG.out; omega) (k3.row Rg1.out))
          replace HM := Lib.hid (NewT.rt (NewT.trans _ _ _ HM.out k3) hR3 (by have h_0 := HG.out; omega))
          clear k3 hR3 rr3
          go_wp2
          exact bodyPost_ret (results_agg rfl _ rfl Rg3.out Try.underlying48 rfl info_saga) rfl ⟨_, rfl, HM.out, by show _ = Value.agg _; rw [HE.out]⟩
    · have HE : Hid (refG l g (k : Int) = g) := Lib.hid (by unfold refG kdL; rw [Int.toNat_natCast, HDD.out, if_pos (by simpa using hb)])
      clear hb
      go_upto_region 2 with fail
      refine wp_region_steps0 NewT [SV.eq (.agg (rowA 10 (sgF sv g)))] [([(2, none)], none)] 21 1 rfl rfl (by kernel_rfl) NewT.trans (NewT.refl _) (Nat.le_of_ble_eq_true rfl) ⟨?_, trivial⟩ ?_
      · exact fun a wx hT hF K hK => rely_wp rfl (opr_ldU (hT.row Rg1.out) rfl hF.1 (hK _ _ (NewT.refl _) rfl))
      · intro w4 k4
        intro u h; obtain rfl := Eq.symm (h (by simp)); clear h
        refine relyEnd_nil rfl ?_
        simp only [Act.put, List.setIfInBounds_toArray, List.set_cons_zero, List.set_cons_succ]
        refine wpList_plain rfl (fun K hK => ?_)
        refine opr_putm (g := g3) (o0 := 0) (m := 10) (f := sgF sv (g)) (F := sgF sv (g)) rfl rfl rfl (k4.row Rg3.out) (by decide) info_saga (sgF_one _ _ (oneP HS.out)) (put_allN _ _ _) ?_
        intro W4 hR4 rr4
        refine hK _ _ ?_
        clear hK K
        refine wpList_end rfl ?_
        simp only [Act.put, List.setIfInBounds_toArray, List.set_cons_zero, List.set_cons_succ]
        go_simp
        replace Rg3 := Lib.hid rr4
        replace Rg1 := Lib.hid (hR4.row (by have h_0 := HG.out; omega) (k4.row Rg1.out))
        replace HM := Lib.hid (NewT.rt (NewT.trans _ _ _ HM.out k4) hR4 (by have h_0 := HG.out; omega))
        clear k4 hR4 rr4
        go_wp2
        exact bodyPost_ret (results_agg rfl _ rfl Rg3.out Try.underlying48 rfl info_saga) rfl ⟨_, rfl, HM.out, by show _ = Value.agg _; rw [HE.out]⟩
theorem refused_cv (sv : Value) (l : List (Int × Int)) (g : Sg) (k : Int) (w : World) (hs : RdP w sv l) (hl : l.length ≤ 6) (hk : 0 ≤ k ∧ k < l.length) : Cv 54 #[.agg (rowA 10 (sgF sv g)), .int .i64 k] w (.eq (.agg (rowA 10 (sgF sv (refG l g k))))) := by
  obtain ⟨n, rfl⟩ : ∃ n : Nat, k = n := ⟨k.toNat, by omega⟩
  exact refused_n sv l g n w hs hl (by omega)
set_option maxHeartbeats 4000000 in
theorem lapsed_cv (sv : Value) (l : List (Int × Int)) (g : Sg) (x : Rc) (v : Value) (lim : Int) (w : World) (hs : RdP w sv l) (hx : RecV w v x) (hl : l.length ≤ 6) (hk : 0 ≤ x.step ∧ x.step < l.length) : Cv 55 #[.agg (rowA 10 (sgF sv g)), v, .int .i64 lim] w (.eq (.agg (rowA 10 (sgF sv (lapG l lim g x.back x.step))))) := by
  obtain ⟨su, dv, rfl, hsx, hdx⟩ := hx
  have HX : Hid (RecV w (.agg (rowA 109 (recF x su dv))) x) := Lib.hid ⟨su, dv, rfl, hsx, hdx⟩
  have HSX := Lib.hid hsx
  have HD := Lib.hid hdx
  clear hsx hdx
  unfold Cv
  have HS := Lib.hid hs
  have HK6 : Hid (0 ≤ x.step ∧ x.step < 6) := Lib.hid (by omega)
  obtain ⟨k, hkx⟩ : ∃ k : Nat, (k : Int) = x.step := ⟨x.step.toNat, by omega⟩
  have HKX := Lib.hid hkx
  obtain ⟨d, HDD⟩ := hid_ex (l.getD k (0, 0))
  have HKL : Hid (k < l.length) := Lib.hid (by omega)
  clear hs hk hl hkx
  go_enter Try.func55, Try.ntmps55
  go_upto_region 1 with fail
  have r_g1 := ((rowIs_box w 48 10 (sgF sv g)).alloc (.cells (rowA 109 (recF x su dv)) 46)).alloc (.cells (rowA 10 (sgF (.slice none 0 0) zG)) 48)
  have r_g2 := (rowIs_box (w.alloc (.cells (rowA 10 (sgF sv g)) 48)) 46 109 (recF x su dv)).alloc (.cells (rowA 10 (sgF (.slice none 0 0) zG)) 48)
  rw [World.size_alloc] at r_g2
  have r_g3 := rowIs_box ((w.alloc (.cells (rowA 10 (sgF sv g)) 48)).alloc (.cells (rowA 109 (recF x su dv)) 46)) 48 10 (sgF (.slice none 0 0) zG)
  rw [World.size_alloc, World.size_alloc] at r_g3
  have hN : NewT w (((w.alloc (.cells (rowA 10 (sgF sv g)) 48)).alloc (.cells (rowA 109 (recF x su dv)) 46)).alloc (.cells (rowA 10 (sgF (.slice none 0 0) zG)) 48)) := (NewT.trans _ _ _ ((NewT.trans _ _ _ (NewT.alloc _ _) (NewT.alloc _ _))) (NewT.alloc _ _))
  change Code.wp _ _ _ _ (((w.alloc (.cells (rowA 10 (sgF sv g)) 48)).alloc (.cells (rowA 109 (recF x su dv)) 46)).alloc (.cells (rowA 10 (sgF (.slice none 0 0) zG)) 48))
  generalize (((w.alloc (.cells (rowA 10 (sgF sv g)) 48)).alloc (.cells (rowA 109 (recF x su dv)) 46)).alloc (.cells (rowA 10 (sgF (.slice none 0 0) zG)) 48)) = W0 at r_g1 r_g2 r_g3 hN ⊢
  obtain ⟨g1, h_g1⟩ : ∃ g_, w.heap.size = g_ := ⟨_, rfl⟩
  obtain ⟨g2, h_g2⟩ : ∃ g_, w.heap.size + 1 = g_ := ⟨_, rfl⟩
  obtain ⟨g3, h_g3⟩ : ∃ g_, w.heap.size + 1 + 1 = g_ := ⟨_, rfl⟩
  have HG : Hid (w.heap.size ≤ g1 ∧ g1 < g2 ∧ g2 < g3) := Lib.hid (by omega)
  rw [h_g1] at r_g1
  rw [h_g2] at r_g2
  rw [h_g3] at r_g3
  try rw [h_g3]
  try rw [h_g2]
  simp only [h_g1]
  have Rg1 := Lib.hid r_g1
  have Rg2 := Lib.hid r_g2
  have Rg3 := Lib.hid r_g3
  have HM := Lib.hid hN
  clear r_g1 r_g2 r_g3 hN h_g1 h_g2 h_g3
  go_upto_region 1 with fail
  refine wp_region_steps0 NewT [SV.eq (.pointer (some ⟨g2, 5, none⟩)), SV.eq (.bool (x.back))] [([(4, none)], none), ([(7, some 0)], none)] 34 2 rfl rfl (by kernel_rfl) NewT.trans (NewT.refl _) (Nat.le_of_ble_eq_true rfl) ⟨?_, ?_, trivial⟩ ?_
  · exact fun a wx hT hF K hK => rely_wp rfl (opr_fldR (by decide) rfl hF.1 (hK _ _ (NewT.refl _) rfl))
  · exact fun a wx hT hF K hK => rely_wp rfl (opr_ldQ (hT.row Rg2.out) (by decide) rfl rfl hF.1 (hK _ _ (NewT.refl _) rfl))
  · intro w1 k1
    iterate 2 (intro u h; obtain rfl := Eq.symm (h (by simp)); clear h)
    refine relyEnd_nil rfl ?_
    refine wpList_end rfl ?_
    simp only [Act.put, List.setIfInBounds_toArray, List.set_cons_zero, List.set_cons_succ]
    go_simp
    replace Rg1 := Lib.hid (k1.row Rg1.out)
    replace Rg2 := Lib.hid (k1.row Rg2.out)
    replace Rg3 := Lib.hid (k1.row Rg3.out)
    replace HM := Lib.hid (NewT.trans _ _ _ HM.out k1)
    clear k1
    cases hb : x.back
    · skip
      go_upto_region 3 with fail
      refine wp_region_rely (NewT) [SV.eq (.pointer (some ⟨g1, 8, none⟩)), SV.eq (.int .i64 (g.so)), SV.eq (.pointer (some ⟨g2, 3, none⟩)), SV.eq (.int .i64 (x.step)), SV.eq (.int .i64 (bitI x.step)), SV.eq (.int .i64 (orI g.so (bitI x.step))), SV.eq (.pointer (some ⟨g1, 8, none⟩))] [([(3, none)], none), ([(10, some 0)], none), ([(4, none)], none), ([(12, some 2)], none), ([(13, some 3)], none), ([(11, some 1), (14, some 4)], none), ([(3, none)], none)] 34 rfl (by kernel_rfl) rfl (by kernel_rfl) (by kernel_rfl) rfl NewT.trans (NewT.drew _) (Nat.le_of_ble_eq_true rfl) ⟨?_, ?_, ?_, ?_, ?_, ?_, ?_, trivial⟩ ?_
      · exact fun a wx hT hF K hK => rely_wp rfl (opr_fldU8 rfl hF.1 (hK _ _ (NewT.refl _) rfl))
      · exact fun a wx hT hF K hK => rely_wp rfl (opr_ldI (hT.row Rg1.out) (by decide) rfl rfl hF.1 (hK _ _ (NewT.refl _) rfl))
      · exact fun a wx hT hF K hK => rely_wp rfl (opr_fldR (by decide) rfl hF.1 (hK _ _ (NewT.refl _) rfl))
      · exact fun a wx hT hF K hK => rely_wp rfl (opr_ldI (hT.row Rg2.out) (by decide) rfl rfl hF.1 (hK _ _ (NewT.refl _) rfl))
      · exact fun a wx hT hF K hK => rely_wp rfl (opr_cv (gBit_cv x.step wx (HK6.out)) rfl Try.func65 (by kernel_rfl) (by kernel_rfl) (evs1 hF.1) hK)
      · exact fun a wx hT hF K hK => rely_wp rfl (opr_orI rfl hF.1 hF.2.1 (hK _ _ (NewT.refl _) rfl))
      · exact fun a wx hT hF K hK => rely_wp rfl (opr_fldU8 rfl hF.1 (hK _ _ (NewT.refl _) rfl))
      · intro w2 k2
        iterate 7 (intro u h; obtain rfl := Eq.symm (h (by simp)); clear h)
        refine relyEnd_nil rfl ?_
        simp only [Act.put, List.setIfInBounds_toArray, List.set_cons_zero, List.set_cons_succ]
        refine opr_put1 (g := g1) (o0 := 8) (v := .int .i64 (orI g.so (bitI x.step))) (F := sgF sv ({ g with so := orI g.so (bitI x.step) })) rfl rfl rfl (k2.row Rg1.out) (by decide) info_i1 rfl (fun i hi => gs_so sv g i hi _) ?_
        intro W2 hR2 rr2
        go_simp
        replace Rg1 := Lib.hid rr2
        replace Rg2 := Lib.hid (hR2.row (by have h_0 := HG.out; omega) (k2.row Rg2.out))
        replace Rg3 := Lib.hid (hR2.row (by have h_0 := HG.out; omega) (k2.row Rg3.out))
        replace HM := Lib.hid (NewT.rt (NewT.trans _ _ _ HM.out k2) hR2 (by have h_0 := HG.out; omega))
        clear k2 hR2 rr2
        go_upto_region 4 with fail
        refine wp_region_steps0 NewT [SV.eq (.pointer (some ⟨g1, 0, none⟩)), SV.eq (sv), SV.eq (.pointer (some ⟨g2, 3, none⟩)), SV.eq (.int .i64 (x.step)), svStp (d), svIp (d).2, SV.eq (.int .i64 ((d).2)), SV.eq (.bool (((d).2) == 1)), SV.eq (.bool (((d).2) == 1)), svIf (((d).2) == 1) (SV.eq (.pointer (some ⟨g1, 3, none⟩))), svIf (((d).2) == 1) (SV.eq (.int .i64 (g.tr))), svIf (((d).2) == 1) (SV.eq (.int .i64 (lim))), svIf (((d).2) == 1) (SV.eq (.bool (g.tr == lim))), SV.eq (.bool ((((d).2) == 1) && (g.tr == lim)))] [([(3, none)], none), ([(17, some 0)], none), ([(4, none)], none), ([(19, some 2)], none), ([(18, some 1), (20, some 3)], none), ([(21, some 4)], none), ([(22, some 5)], none), ([(23, some 6)], none), ([(24, some 7)], none), ([(3, none), (25, some 8)], some (25, true)), ([(26, some 9), (25, some 8)], some (25, true)), ([(2, none), (25, some 8)], some (25, true)), ([(27, some 10), (28, some 11), (25, some 8)], some (25, true)), ([(25, some 8), (29, some 12)], none)] 34 14 rfl rfl (by kernel_rfl) NewT.trans (NewT.refl _) (Nat.le_of_ble_eq_true rfl) ⟨?_, ?_, ?_, ?_, ?_, ?_, ?_, ?_, ?_, ?_, ?_, ?_, ?_, ?_, trivial⟩ ?_
        · exact fun a wx hT hF K hK => rely_wp rfl (opr_fldU0 rfl hF.1 (hK _ _ (NewT.refl _) rfl))
        · exact fun a wx hT hF K hK => rely_wp rfl (opr_ldS (hT.row Rg1.out) (by decide) rfl rfl hF.1 (hK _ _ (NewT.refl _) rfl))
        · exact fun a wx hT hF K hK => rely_wp rfl (opr_fldR (by decide) rfl hF.1 (hK _ _ (NewT.refl _) rfl))
        · exact fun a wx hT hF K hK => rely_wp rfl (opr_ldI (hT.row Rg2.out) (by decide) rfl rfl hF.1 (hK _ _ (NewT.refl _) rfl))
        · intro a wx hT hF K hK
          obtain ⟨f18, f20, _⟩ := hF
          have f18 : a.tmps.getD 18 undef = sv := f18
          have f20 : a.tmps.getD 20 undef = .int .i64 (x.step) := f20
          refine rely_wp rfl ?_
          exact opr_idxSt (k := k) (d := d) (⟨HKL.out, HDD.out⟩) (HKX.out) rfl (by rw [eval_tmp, f18]; exact ((NewT.trans _ _ _ HM.out hT).pairs HS.out)) f20 (fun v hv => hK v _ (NewT.refl _) hv)
        · exact fun a wx hT hF K hK => rely_wp rfl (opr_fldSt1 rfl hF.1 (fun u hu => hK u _ (NewT.refl _) hu))
        · exact fun a wx hT hF K hK => rely_wp rfl (opr_ldIp rfl hF.1 (hK _ _ (NewT.refl _) rfl))
        · exact fun a wx hT hF K hK => rely_wp rfl (opr_cmp (b := ((d).2) == 1) (.inl ⟨rfl, rfl⟩) Try.underlying3 rfl hF.1 rfl (hK _ _ (NewT.refl _) rfl))
        · exact fun a wx hT hF K hK => rely_wp rfl (opr_move (.inl rfl) (hK _ _ (NewT.refl _) hF.1))
        · exact fun a wx hT hF K hK => rely_if (rely_gt hF.2.1) (NewT.refl _) hK fun hE hK => opr_fldU3 rfl hF.1 (hK _ _ (NewT.refl _) rfl)
        · exact fun a wx hT hF K hK => rely_if (rely_gt hF.2.1) (NewT.refl _) hK fun hE hK => opr_ldI (hT.row Rg1.out) (by decide) rfl rfl (hF.1 hE) (hK _ _ (NewT.refl _) rfl)
        · exact fun a wx hT hF K hK => rely_if (rely_gt hF.2.1) (NewT.refl _) hK fun hE hK => opr_move (.inl rfl) (hK _ _ (NewT.refl _) hF.1)
        · exact fun a wx hT hF K hK => rely_if (rely_gt hF.2.2.1) (NewT.refl _) hK fun hE hK => opr_cmp (b := g.tr == lim) (.inl ⟨rfl, rfl⟩) Try.underlying3 rfl (hF.1 hE) (hF.2.1 hE) (hK _ _ (NewT.refl _) rfl)
        · exact fun a wx hT hF K hK => rely_wp rfl (opr_pick_b rfl hF.1 (fun hb => hK _ _ (NewT.refl _) (pk_and1 (hF.2.1 hb) hb)) (fun hb => hK _ _ (NewT.refl _) (pk_and0 hb)))
        · intro w3 k3
          iterate 4 (intro u h; obtain rfl := Eq.symm (h (by simp)); clear h)
          iterate 2 (intro _ _)
          iterate 3 (intro u h; obtain rfl := Eq.symm (h (by simp)); clear h)
          iterate 4 (intro _ _)
          intro u h; obtain rfl := Eq.symm (h (by simp)); clear h
          refine relyEnd_nil rfl ?_
          refine wpList_end rfl ?_
          simp only [Act.put, List.setIfInBounds_toArray, List.set_cons_zero, List.set_cons_succ]
          go_simp
          replace Rg1 := Lib.hid (k3.row Rg1.out)
          replace Rg2 := Lib.hid (k3.row Rg2.out)
          replace Rg3 := Lib.hid (k3.row Rg3.out)
          replace HM := Lib.hid (NewT.trans _ _ _ HM.out k3)
          clear k3
          cases hq : ((((d).2) == 1) && (g.tr == lim))
          · have HE : Hid (lapG l lim g x.back x.step = { g with so := orI g.so (bitI x.step) }) := Lib.hid (by
              unfold lapG kdL
              rw [hb, if_neg (by simp), ← HKX.out, Int.toNat_natCast, HDD.out, if_neg (fun h => by
                rw [Bool.and_eq_false_iff] at hq
                rcases hq with hq | hq
                · simp [h.1] at hq
                · simp [h.2] at hq)])
            clear hb hq
            go_upto_region 6 with fail
            refine wp_region_steps0 NewT [SV.eq (.agg (rowA 10 (sgF sv ({ g with so := orI g.so (bitI x.step) }))))] [([(3, none)], none)] 34 1 rfl rfl (by kernel_rfl) NewT.trans (NewT.refl _) (Nat.le_of_ble_eq_true rfl) ⟨?_, trivial⟩ ?_
            · exact fun a wx hT hF K hK => rely_wp rfl (opr_ldU (hT.row Rg1.out) rfl hF.1 (hK _ _ (NewT.refl _) rfl))
            · intro w4 k4
              intro u h; obtain rfl := Eq.symm (h (by simp)); clear h
              refine relyEnd_nil rfl ?_
              simp only [Act.put, List.setIfInBounds_toArray, List.set_cons_zero, List.set_cons_succ]
              refine wpList_plain rfl (fun K hK => ?_)
              refine opr_putm (g := g3) (o0 := 0) (m := 10) (f := sgF sv ({ g with so := orI g.so (bitI x.step) })) (F := sgF sv ({ g with so := orI g.so (bitI x.step) })) rfl rfl rfl (k4.row Rg3.out) (by decide) info_saga (sgF_one _ _ (oneP HS.out)) (put_allN _ _ _) ?_
              intro W4 hR4 rr4
              refine hK _ _ ?_
              clear hK K
              refine wpList_end rfl ?_
              simp only [Act.put, List.setIfInBounds_toArray, List.set_cons_zero, List.set_cons_succ]
              go_simp
              replace Rg3 := Lib.hid rr4
              replace Rg1 := Lib.hid (hR4.row (by have h_0 := HG.out; omega) (k4.row Rg1.out))
              replace Rg2 := Lib.hid (hR4.row (by have h_0 := HG.out; omega) (k4.row Rg2.out))
              replace HM := Lib.hid (NewT.rt (NewT.trans _ _ _ HM.out k4) hR4 (by have h_0 := HG.out; omega))
              clear k4 hR4 rr4
              go_wp2
              exact bodyPost_ret (results_agg rfl _ rfl Rg3.out Try.underlying48 rfl info_saga) rfl ⟨_, rfl, HM.out, by show _ = Value.agg _; rw [HE.out]⟩
          · have HE : Hid (lapG l lim g x.back x.step = turnG { g with so := orI g.so (bitI x.step) }) := Lib.hid (by
              unfold lapG kdL
              rw [Bool.and_eq_true] at hq
              rw [hb, if_neg (by simp), ← HKX.out, Int.toNat_natCast, HDD.out, if_pos ⟨by simpa using hq.1, by simpa using hq.2⟩])
            clear hb hq
            go_upto_region 5 with fail
            refine wp_region_steps0 NewT [SV.eq (.agg (rowA 10 (sgF sv ({ g with so := orI g.so (bitI x.step) })))), SV.eq ((.agg (rowA 10 (sgF sv (turnG ({ g with so := orI g.so (bitI x.step) }))))))] [([(3, none)], none), ([(31, some 0)], none)] 34 2 rfl rfl (by kernel_rfl) NewT.trans (NewT.refl _) (Nat.le_of_ble_eq_true rfl) ⟨?_, ?_, trivial⟩ ?_
            · exact fun a wx hT hF K hK => rely_wp rfl (opr_ldU (hT.row Rg1.out) rfl hF.1 (hK _ _ (NewT.refl _) rfl))
            · exact fun a wx hT hF K hK => rely_wp rfl (opr_cv (turned_cv sv ({ g with so := orI g.so (bitI x.step) }) wx (oneP HS.out)) rfl Try.func66 (by kernel_rfl) (by kernel_rfl) (evs1 hF.1) hK)
            · intro w5 k5
              iterate 2 (intro u h; obtain rfl := Eq.symm (h (by simp)); clear h)
              refine relyEnd_nil rfl ?_
              simp only [Act.put, List.setIfInBounds_toArray, List.set_cons_zero, List.set_cons_succ]
              refine wpList_plain rfl (fun K hK => ?_)
              refine opr_putm (g := g3) (o0 := 0) (m := 10) (f := sgF sv (turnG { g with so := orI g.so (bitI x.step) })) (F := sgF sv (turnG { g with so := orI g.so (bitI x.step) })) rfl rfl rfl (k5.row Rg3.out) (by decide) info_saga (sgF_one _ _ (oneP HS.out)) (put_allN _ _ _) ?_
              intro W5 hR5 rr5
              refine hK _ _ ?_
              clear hK K
              refine wpList_end rfl ?_
              simp only [Act.put, List.setIfInBounds_toArray, List.set_cons_zero, List.set_cons_succ]
              go_simp
              replace Rg3 := Lib.hid rr5
              replace Rg1 := Lib.hid (hR5.row (by have h_0 := HG.out; omega) (k5.row Rg1.out))
              replace Rg2 := Lib.hid (hR5.row (by have h_0 := HG.out; omega) (k5.row Rg2.out))
              replace HM := Lib.hid (NewT.rt (NewT.trans _ _ _ HM.out k5) hR5 (by have h_0 := HG.out; omega))
              clear k5 hR5 rr5
              go_wp2
              exact bodyPost_ret (results_agg rfl _ rfl Rg3.out Try.underlying48 rfl info_saga) rfl ⟨_, rfl, HM.out, by show _ = Value.agg _; rw [HE.out]⟩
    · have HE : Hid (lapG l lim g x.back x.step = g) := Lib.hid (by unfold lapG; rw [hb, if_pos rfl])
      clear hb
      go_upto_region 2 with fail
      refine wp_region_steps0 NewT [SV.eq (.agg (rowA 10 (sgF sv g)))] [([(3, none)], none)] 34 1 rfl rfl (by kernel_rfl) NewT.trans (NewT.refl _) (Nat.le_of_ble_eq_true rfl) ⟨?_, trivial⟩ ?_
      · exact fun a wx hT hF K hK => rely_wp rfl (opr_ldU (hT.row Rg1.out) rfl hF.1 (hK _ _ (NewT.refl _) rfl))
      · intro w6 k6
        intro u h; obtain rfl := Eq.symm (h (by simp)); clear h
        refine relyEnd_nil rfl ?_
        simp only [Act.put, List.setIfInBounds_toArray, List.set_cons_zero, List.set_cons_succ]
        refine wpList_plain rfl (fun K hK => ?_)
        refine opr_putm (g := g3) (o0 := 0) (m := 10) (f := sgF sv (g)) (F := sgF sv (g)) rfl rfl rfl (k6.row Rg3.out) (by decide) info_saga (sgF_one _ _ (oneP HS.out)) (put_allN _ _ _) ?_
        intro W6 hR6 rr6
        refine hK _ _ ?_
        clear hK K
        refine wpList_end rfl ?_
        simp only [Act.put, List.setIfInBounds_toArray, List.set_cons_zero, List.set_cons_succ]
        go_simp
        replace Rg3 := Lib.hid rr6
        replace Rg1 := Lib.hid (hR6.row (by have h_0 := HG.out; omega) (k6.row Rg1.out))
        replace Rg2 := Lib.hid (hR6.row (by have h_0 := HG.out; omega) (k6.row Rg2.out))
        replace HM := Lib.hid (NewT.rt (NewT.trans _ _ _ HM.out k6) hR6 (by have h_0 := HG.out; omega))
        clear k6 hR6 rr6
        go_wp2
        exact bodyPost_ret (results_agg rfl _ rfl Rg3.out Try.underlying48 rfl info_saga) rfl ⟨_, rfl, HM.out, by show _ = Value.agg _; rw [HE.out]⟩
end Go.Proofs.Ytilmeffmdgcblaa
/- Package saga: the saga behind a record that goes. -/
namespace Go.Proofs.Ytilmeffmdgcblaa
open Go Go.RowKit
set_option maxRecDepth 8000
set_option linter.all false
set_option maxHeartbeats 4000000 in
theorem behind_cv (sv : Value) (l : List (Int × Int)) (g : Sg) (x : Rc) (v : Value) (lim : Int) (w : World) (hs : RdP w sv l) (hx : RecV w v x) (hl : l.length ≤ 6) (hst : 0 ≤ x.step ∧ x.step < l.length) (hkd : x.kind = 2 ∨ x.kind = 5 ∨ x.kind = 3 ∨ x.kind = 4) (ha : 0 ≤ g.at_ ∧ g.at_ ≤ 6) (hq : 0 ≤ g.sq ∧ g.sq ≤ 1000000) : Cv 39 #[.agg (rowA 10 (sgF sv g)), v, .int .i64 lim] w (.eq (.agg (rowA 10 (sgF sv (behG l lim g x))))) := by
  obtain ⟨su, dv, rfl, hsx, hdx⟩ := hx
  have HX : Hid (RecV w (.agg (rowA 109 (recF x su dv))) x) := Lib.hid ⟨su, dv, rfl, hsx, hdx⟩
  have HSX := Lib.hid hsx
  have HD := Lib.hid hdx
  clear hsx hdx
  unfold Cv
  have HS := Lib.hid hs
  have HK6 : Hid (0 ≤ x.step ∧ x.step < 6) := Lib.hid (by omega)
  have HL6 := Lib.hid hl
  have HST := Lib.hid hst
  have HKD := Lib.hid hkd
  have HAT := Lib.hid ha
  have HSQ := Lib.hid hq
  clear hs hl hst hkd ha hq
  go_enter Try.func39, Try.ntmps39
  go_upto_region 1 with fail
  have r_g1 := ((rowIs_box w 48 10 (sgF sv g)).alloc (.cells (rowA 109 (recF x su dv)) 46)).alloc (.cells (rowA 10 (sgF (.slice none 0 0) zG)) 48)
  have r_g2 := (rowIs_box (w.alloc (.cells (rowA 10 (sgF sv g)) 48)) 46 109 (recF x su dv)).alloc (.cells (rowA 10 (sgF (.slice none 0 0) zG)) 48)
  rw [World.size_alloc] at r_g2
  have r_g3 := rowIs_box ((w.alloc (.cells (rowA 10 (sgF sv g)) 48)).alloc (.cells (rowA 109 (recF x su dv)) 46)) 48 10 (sgF (.slice none 0 0) zG)
  rw [World.size_alloc, World.size_alloc] at r_g3
  have hN : NewT w (((w.alloc (.cells (rowA 10 (sgF sv g)) 48)).alloc (.cells (rowA 109 (recF x su dv)) 46)).alloc (.cells (rowA 10 (sgF (.slice none 0 0) zG)) 48)) := (NewT.trans _ _ _ ((NewT.trans _ _ _ (NewT.alloc _ _) (NewT.alloc _ _))) (NewT.alloc _ _))
  change Code.wp _ _ _ _ (((w.alloc (.cells (rowA 10 (sgF sv g)) 48)).alloc (.cells (rowA 109 (recF x su dv)) 46)).alloc (.cells (rowA 10 (sgF (.slice none 0 0) zG)) 48))
  generalize (((w.alloc (.cells (rowA 10 (sgF sv g)) 48)).alloc (.cells (rowA 109 (recF x su dv)) 46)).alloc (.cells (rowA 10 (sgF (.slice none 0 0) zG)) 48)) = W0 at r_g1 r_g2 r_g3 hN ⊢
  obtain ⟨g1, h_g1⟩ : ∃ g_, w.heap.size = g_ := ⟨_, rfl⟩
  obtain ⟨g2, h_g2⟩ : ∃ g_, w.heap.size + 1 = g_ := ⟨_, rfl⟩
  obtain ⟨g3, h_g3⟩ : ∃ g_, w.heap.size + 1 + 1 = g_ := ⟨_, rfl⟩
  have HG : Hid (w.heap.size ≤ g1 ∧ g1 < g2 ∧ g2 < g3) := Lib.hid (by omega)
  rw [h_g1] at r_g1
  rw [h_g2] at r_g2
  rw [h_g3] at r_g3
  try rw [h_g3]
  try rw [h_g2]
  simp only [h_g1]
  have Rg1 := Lib.hid r_g1
  have Rg2 := Lib.hid r_g2
  have Rg3 := Lib.hid r_g3
  have HM := Lib.hid hN
  clear r_g1 r_g2 r_g3 hN h_g1 h_g2 h_g3
  go_upto_region 1 with fail
  refine wp_region_steps0 NewT [SV.eq (.pointer (some ⟨g1, 9, none⟩)), SV.eq (.int .i64 (g.sq)), SV.eq (.int .i64 (g.sq + 1)), SV.eq (.pointer (some ⟨g1, 9, none⟩))] [([(3, none)], none), ([(7, some 0)], none), ([(8, some 1)], none), ([(3, none)], none)] 55 4 rfl rfl (by kernel_rfl) NewT.trans (NewT.refl _) (Nat.le_of_ble_eq_true rfl) ⟨?_, ?_, ?_, ?_, trivial⟩ ?_
  · exact fun a wx hT hF K hK => rely_wp rfl (opr_fldU9 rfl hF.1 (hK _ _ (NewT.refl _) rfl))
  · exact fun a wx hT hF K hK => rely_wp rfl (opr_ldI (hT.row Rg1.out) (by decide) rfl rfl hF.1 (hK _ _ (NewT.refl _) rfl))
  · exact fun a wx hT hF K hK => rely_wp rfl (opr_add (r := g.sq + 1) Try.underlying3 (by have := HSQ.out; unfold wrap64; omega) rfl hF.1 rfl (hK _ _ (NewT.refl _) rfl))
  · exact fun a wx hT hF K hK => rely_wp rfl (opr_fldU9 rfl hF.1 (hK _ _ (NewT.refl _) rfl))
  · intro w1 k1
    iterate 4 (intro u h; obtain rfl := Eq.symm (h (by simp)); clear h)
    refine relyEnd_nil rfl ?_
    simp only [Act.put, List.setIfInBounds_toArray, List.set_cons_zero, List.set_cons_succ]
    refine wpList_plain rfl (fun K hK => ?_)
    refine opr_put1 (g := g1) (o0 := 9) (v := .int .i64 (g.sq + 1)) (F := sgF sv ({ g with sq := g.sq + 1 })) rfl rfl rfl (k1.row Rg1.out) (by decide) info_i1 rfl (fun i hi => gs_sq sv g i hi _) ?_
    intro W1 hR1 rr1
    refine hK _ _ ?_
    clear hK K
    refine wpList_end rfl ?_
    simp only [Act.put, List.setIfInBounds_toArray, List.set_cons_zero, List.set_cons_succ]
    go_simp
    replace Rg1 := Lib.hid rr1
    replace Rg2 := Lib.hid (hR1.row (by have h_0 := HG.out; omega) (k1.row Rg2.out))
    replace Rg3 := Lib.hid (hR1.row (by have h_0 := HG.out; omega) (k1.row Rg3.out))
    replace HM := Lib.hid (NewT.rt (NewT.trans _ _ _ HM.out k1) hR1 (by have h_0 := HG.out; omega))
    clear k1 hR1 rr1
    go_upto_region 2 with fail
    refine wp_region_steps0 NewT [SV.eq (.pointer (some ⟨g2, 0, none⟩)), SV.eq (.int .i64 (x.kind)), SV.eq (.bool (x.kind == 2)), SV.eq (.pointer (some ⟨g1, 4, none⟩))] [([(4, none)], none), ([(11, some 0)], none), ([(12, some 1)], none), ([(3, none)], none)] 55 4 rfl rfl (by kernel_rfl) NewT.trans (NewT.refl _) (Nat.le_of_ble_eq_true rfl) ⟨?_, ?_, ?_, ?_, trivial⟩ ?_
    · exact fun a wx hT hF K hK => rely_wp rfl (opr_fldR (by decide) rfl hF.1 (hK _ _ (NewT.refl _) rfl))
    · exact fun a wx hT hF K hK => rely_wp rfl (opr_ldI (hT.row Rg2.out) (by decide) rfl rfl hF.1 (hK _ _ (NewT.refl _) rfl))
    · exact fun a wx hT hF K hK => rely_wp rfl (opr_cmp (b := x.kind == 2) (.inl ⟨rfl, rfl⟩) Try.underlying3 rfl hF.1 rfl (hK _ _ (NewT.refl _) rfl))
    · exact fun a wx hT hF K hK => rely_wp rfl (opr_fldU4 rfl hF.1 (hK _ _ (NewT.refl _) rfl))
    · intro w2 k2
      iterate 4 (intro u h; obtain rfl := Eq.symm (h (by simp)); clear h)
      refine relyEnd_nil rfl ?_
      simp only [Act.put, List.setIfInBounds_toArray, List.set_cons_zero, List.set_cons_succ]
      refine wpList_plain rfl (fun K hK => ?_)
      refine opr_put1 (g := g1) (o0 := 4) (v := .bool (x.kind == 2)) (F := sgF sv ({ g with sq := g.sq + 1, wt := x.kind == 2 })) rfl rfl rfl (k2.row Rg1.out) (by decide) info_b1 rfl (fun i hi => gs_wt sv { g with sq := g.sq + 1 } i hi _) ?_
      intro W2 hR2 rr2
      refine hK _ _ ?_
      clear hK K
      refine wpList_end rfl ?_
      simp only [Act.put, List.setIfInBounds_toArray, List.set_cons_zero, List.set_cons_succ]
      go_simp
      replace Rg1 := Lib.hid rr2
      replace Rg2 := Lib.hid (hR2.row (by have h_0 := HG.out; omega) (k2.row Rg2.out))
      replace Rg3 := Lib.hid (hR2.row (by have h_0 := HG.out; omega) (k2.row Rg3.out))
      replace HM := Lib.hid (NewT.rt (NewT.trans _ _ _ HM.out k2) hR2 (by have h_0 := HG.out; omega))
      clear k2 hR2 rr2
      go_upto_region 3 with fail
      refine wp_region_steps0 NewT [SV.eq (.pointer (some ⟨g1, 4, none⟩)), SV.eq (.bool (x.kind == 2)), SV.eq (.bool (x.kind == 2)), svIf (x.kind == 2) (SV.eq (.pointer (some ⟨g2, 5, none⟩))), svIf (x.kind == 2) (SV.eq (.bool (x.back))), SV.eq (.bool ((x.kind == 2) && x.back)), SV.eq (.pointer (some ⟨g1, 5, none⟩))] [([(3, none)], none), ([(15, some 0)], none), ([(16, some 1)], none), ([(4, none), (17, some 2)], some (17, true)), ([(18, some 3), (17, some 2)], some (17, true)), ([(17, some 2), (19, some 4)], none), ([(3, none)], none)] 55 7 rfl rfl (by kernel_rfl) NewT.trans (NewT.refl _) (Nat.le_of_ble_eq_true rfl) ⟨?_, ?_, ?_, ?_, ?_, ?_, ?_, trivial⟩ ?_
      · exact fun a wx hT hF K hK => rely_wp rfl (opr_fldU4 rfl hF.1 (hK _ _ (NewT.refl _) rfl))
      · exact fun a wx hT hF K hK => rely_wp rfl (opr_ldQ (hT.row Rg1.out) (by decide) rfl rfl hF.1 (hK _ _ (NewT.refl _) rfl))
      · exact fun a wx hT hF K hK => rely_wp rfl (opr_move (.inl rfl) (hK _ _ (NewT.refl _) hF.1))
      · exact fun a wx hT hF K hK => rely_if (rely_gt hF.2.1) (NewT.refl _) hK fun hE hK => opr_fldR (by decide) rfl hF.1 (hK _ _ (NewT.refl _) rfl)
      · exact fun a wx hT hF K hK => rely_if (rely_gt hF.2.1) (NewT.refl _) hK fun hE hK => opr_ldQ (hT.row Rg2.out) (by decide) rfl rfl (hF.1 hE) (hK _ _ (NewT.refl _) rfl)
      · exact fun a wx hT hF K hK => rely_wp rfl (opr_pick_b rfl hF.1 (fun hb => hK _ _ (NewT.refl _) (pk_and1 (hF.2.1 hb) hb)) (fun hb => hK _ _ (NewT.refl _) (pk_and0 hb)))
      · exact fun a wx hT hF K hK => rely_wp rfl (opr_fldU5 rfl hF.1 (hK _ _ (NewT.refl _) rfl))
      · intro w3 k3
        iterate 3 (intro u h; obtain rfl := Eq.symm (h (by simp)); clear h)
        iterate 2 (intro _ _)
        iterate 2 (intro u h; obtain rfl := Eq.symm (h (by simp)); clear h)
        refine relyEnd_nil rfl ?_
        simp only [Act.put, List.setIfInBounds_toArray, List.set_cons_zero, List.set_cons_succ]
        refine wpList_plain rfl (fun K hK => ?_)
        refine opr_put1 (g := g1) (o0 := 5) (v := .bool (x.kind == 2 && x.back)) (F := sgF sv ({ g with sq := g.sq + 1, wt := x.kind == 2, bk := x.kind == 2 && x.back })) rfl rfl rfl (k3.row Rg1.out) (by decide) info_b1 rfl (fun i hi => gs_bk sv { g with sq := g.sq + 1, wt := x.kind == 2 } i hi _) ?_
        intro W3 hR3 rr3
        refine hK _ _ ?_
        clear hK K
        refine wpList_end rfl ?_
        simp only [Act.put, List.setIfInBounds_toArray, List.set_cons_zero, List.set_cons_succ]
        go_simp
        replace Rg1 := Lib.hid rr3
        replace Rg2 := Lib.hid (hR3.row (by have h_0 := HG.out; omega) (k3.row Rg2.out))
        replace Rg3 := Lib.hid (hR3.row (by have h_0 := HG.out; omega) (k3.row Rg3.out))
        replace HM := Lib.hid (NewT.rt (NewT.trans _ _ _ HM.out k3) hR3 (by have h_0 := HG.out; omega))
        clear k3 hR3 rr3
        obtain ⟨g0, hg0⟩ := hid_ex (begG g x)
        replace Rg1 : Hid (W3.rowIs g1 48 10 (sgF sv g0)) := Lib.hid (by rw [← hg0.out]; exact Rg1.out)
        have HE0 : Hid (behG l lim g x = if x.kind = 2 then { g0 with tr := x.tr } else if x.kind = 5 then { g0 with ph := x.nd } else if x.kind = 3 then (if x.good = true then wellG g0 x.back x.step else if x.back = false then refG l g0 x.step else lapG l lim g0 x.back x.step) else if x.kind = 4 then lapG l lim g0 x.back x.step else g0) := Lib.hid (by rw [← hg0.out]; rfl)
        replace HAT : Hid (0 ≤ g0.at_ ∧ g0.at_ ≤ 6) := Lib.hid (by rw [← hg0.out]; exact HAT.out)
        clear hg0
        have c0 : W3.cell? ⟨g2, 0, none⟩ = some (.int .i64 x.kind) := Rg2.out.cell (i := 0) (by omega)
        by_cases hk : x.kind = 2
        · have HE : Hid (behG l lim g x = { g0 with tr := x.tr }) := Lib.hid (by rw [HE0.out, if_pos hk])
          rw [hk] at c0
          clear hk
          go_upto_region 9 with fail
          clear c0
          refine wp_region_steps0 NewT [SV.eq (.pointer (some ⟨g2, 4, none⟩)), SV.eq (.int .i64 (x.tr)), SV.eq (.pointer (some ⟨g1, 3, none⟩))] [([(4, none)], none), ([(32, some 0)], none), ([(3, none)], none)] 55 3 rfl rfl (by kernel_rfl) NewT.trans (NewT.refl _) (Nat.le_of_ble_eq_true rfl) ⟨?_, ?_, ?_, trivial⟩ ?_
          · exact fun a wx hT hF K hK => rely_wp rfl (opr_fldR (by decide) rfl hF.1 (hK _ _ (NewT.refl _) rfl))
          · exact fun a wx hT hF K hK => rely_wp rfl (opr_ldI (hT.row Rg2.out) (by decide) rfl rfl hF.1 (hK _ _ (NewT.refl _) rfl))
          · exact fun a wx hT hF K hK => rely_wp rfl (opr_fldU3 rfl hF.1 (hK _ _ (NewT.refl _) rfl))
          · intro w4 k4
            iterate 3 (intro u h; obtain rfl := Eq.symm (h (by simp)); clear h)
            refine relyEnd_nil rfl ?_
            simp only [Act.put, List.setIfInBounds_toArray, List.set_cons_zero, List.set_cons_succ]
            refine wpList_plain rfl (fun K hK => ?_)
            refine opr_put1 (g := g1) (o0 := 3) (v := .int .i64 x.tr) (F := sgF sv ({ g0 with tr := x.tr })) rfl rfl rfl (k4.row Rg1.out) (by decide) info_i1 rfl (fun i hi => gs_tr sv g0 i hi _) ?_
            intro W4 hR4 rr4
            refine hK _ _ ?_
            clear hK K
            refine wpList_end rfl ?_
            simp only [Act.put, List.setIfInBounds_toArray, List.set_cons_zero, List.set_cons_succ]
            go_simp
            replace Rg1 := Lib.hid rr4
            replace Rg2 := Lib.hid (hR4.row (by have h_0 := HG.out; omega) (k4.row Rg2.out))
            replace Rg3 := Lib.hid (hR4.row (by have h_0 := HG.out; omega) (k4.row Rg3.out))
            replace HM := Lib.hid (NewT.rt (NewT.trans _ _ _ HM.out k4) hR4 (by have h_0 := HG.out; omega))
            clear k4 hR4 rr4
            go_upto_region 16 with fail
            refine wp_region_steps0 NewT [SV.eq (.agg (rowA 10 (sgF sv ({ g0 with tr := x.tr }))))] [([(3, none)], none)] 55 1 rfl rfl (by kernel_rfl) NewT.trans (NewT.refl _) (Nat.le_of_ble_eq_true rfl) ⟨?_, trivial⟩ ?_
            · exact fun a wx hT hF K hK => rely_wp rfl (opr_ldU (hT.row Rg1.out) rfl hF.1 (hK _ _ (NewT.refl _) rfl))
            · intro w5 k5
              intro u h; obtain rfl := Eq.symm (h (by simp)); clear h
              refine relyEnd_nil rfl ?_
              simp only [Act.put, List.setIfInBounds_toArray, List.set_cons_zero, List.set_cons_succ]
              refine wpList_plain rfl (fun K hK => ?_)
              refine opr_putm (g := g3) (o0 := 0) (m := 10) (f := sgF sv ({ g0 with tr := x.tr })) (F := sgF sv ({ g0 with tr := x.tr })) rfl rfl rfl (k5.row Rg3.out) (by decide) info_saga (sgF_one _ _ (oneP HS.out)) (put_allN _ _ _) ?_
              intro W5 hR5 rr5
              refine hK _ _ ?_
              clear hK K
              refine wpList_end rfl ?_
              simp only [Act.put, List.setIfInBounds_toArray, List.set_cons_zero, List.set_cons_succ]
              go_simp
              replace Rg3 := Lib.hid rr5
              replace Rg1 := Lib.hid (hR5.row (by have h_0 := HG.out; omega) (k5.row Rg1.out))
              replace Rg2 := Lib.hid (hR5.row (by have h_0 := HG.out; omega) (k5.row Rg2.out))
              replace HM := Lib.hid (NewT.rt (NewT.trans _ _ _ HM.out k5) hR5 (by have h_0 := HG.out; omega))
              clear k5 hR5 rr5
              go_wp2
              exact bodyPost_ret (results_agg rfl _ rfl Rg3.out Try.underlying48 rfl info_saga) rfl ⟨_, rfl, HM.out, by show _ = Value.agg _; rw [HE.out]⟩
        have k2 := hk
        clear hk
        by_cases hk : x.kind = 5
        · have HE : Hid (behG l lim g x = { g0 with ph := x.nd }) := Lib.hid (by rw [HE0.out, if_neg k2, if_pos hk])
          rw [hk] at c0
          clear hk k2
          go_upto_region 10 with fail
          clear c0
          refine wp_region_steps0 NewT [SV.eq (.pointer (some ⟨g2, 7, none⟩)), SV.eq (.int .i64 (x.nd)), SV.eq (.pointer (some ⟨g1, 1, none⟩))] [([(4, none)], none), ([(35, some 0)], none), ([(3, none)], none)] 55 3 rfl rfl (by kernel_rfl) NewT.trans (NewT.refl _) (Nat.le_of_ble_eq_true rfl) ⟨?_, ?_, ?_, trivial⟩ ?_
          · exact fun a wx hT hF K hK => rely_wp rfl (opr_fldR (by decide) rfl hF.1 (hK _ _ (NewT.refl _) rfl))
          · exact fun a wx hT hF K hK => rely_wp rfl (opr_ldI (hT.row Rg2.out) (by decide) rfl rfl hF.1 (hK _ _ (NewT.refl _) rfl))
          · exact fun a wx hT hF K hK => rely_wp rfl (opr_fldU1 rfl hF.1 (hK _ _ (NewT.refl _) rfl))
          · intro w6 k6
            iterate 3 (intro u h; obtain rfl := Eq.symm (h (by simp)); clear h)
            refine relyEnd_nil rfl ?_
            simp only [Act.put, List.setIfInBounds_toArray, List.set_cons_zero, List.set_cons_succ]
            refine wpList_plain rfl (fun K hK => ?_)
            refine opr_put1 (g := g1) (o0 := 1) (v := .int .i64 x.nd) (F := sgF sv ({ g0 with ph := x.nd })) rfl rfl rfl (k6.row Rg1.out) (by decide) info_i1 rfl (fun i hi => gs_ph sv g0 i hi _) ?_
            intro W6 hR6 rr6
            refine hK _ _ ?_
            clear hK K
            refine wpList_end rfl ?_
            simp only [Act.put, List.setIfInBounds_toArray, List.set_cons_zero, List.set_cons_succ]
            go_simp
            replace Rg1 := Lib.hid rr6
            replace Rg2 := Lib.hid (hR6.row (by have h_0 := HG.out; omega) (k6.row Rg2.out))
            replace Rg3 := Lib.hid (hR6.row (by have h_0 := HG.out; omega) (k6.row Rg3.out))
            replace HM := Lib.hid (NewT.rt (NewT.trans _ _ _ HM.out k6) hR6 (by have h_0 := HG.out; omega))
            clear k6 hR6 rr6
            go_upto_region 16 with fail
            refine wp_region_steps0 NewT [SV.eq (.agg (rowA 10 (sgF sv ({ g0 with ph := x.nd }))))] [([(3, none)], none)] 55 1 rfl rfl (by kernel_rfl) NewT.trans (NewT.refl _) (Nat.le_of_ble_eq_true rfl) ⟨?_, trivial⟩ ?_
            · exact fun a wx hT hF K hK => rely_wp rfl (opr_ldU (hT.row Rg1.out) rfl hF.1 (hK _ _ (NewT.refl _) rfl))
            · intro w7 k7
              intro u h; obtain rfl := Eq.symm (h (by simp)); clear h
              refine relyEnd_nil rfl ?_
              simp only [Act.put, List.setIfInBounds_toArray, List.set_cons_zero, List.set_cons_succ]
              refine wpList_plain rfl (fun K hK => ?_)
              refine opr_putm (g := g3) (o0 := 0) (m := 10) (f := sgF sv ({ g0 with ph := x.nd })) (F := sgF sv ({ g0 with ph := x.nd })) rfl rfl rfl (k7.row Rg3.out) (by decide) info_saga (sgF_one _ _ (oneP HS.out)) (put_allN _ _ _) ?_
              intro W7 hR7 rr7
              refine hK _ _ ?_
              clear hK K
              refine wpList_end rfl ?_
              simp only [Act.put, List.setIfInBounds_toArray, List.set_cons_zero, List.set_cons_succ]
              go_simp
              replace Rg3 := Lib.hid rr7
              replace Rg1 := Lib.hid (hR7.row (by have h_0 := HG.out; omega) (k7.row Rg1.out))
              replace Rg2 := Lib.hid (hR7.row (by have h_0 := HG.out; omega) (k7.row Rg2.out))
              replace HM := Lib.hid (NewT.rt (NewT.trans _ _ _ HM.out k7) hR7 (by have h_0 := HG.out; omega))
              clear k7 hR7 rr7
              go_wp2
              exact bodyPost_ret (results_agg rfl _ rfl Rg3.out Try.underlying48 rfl info_saga) rfl ⟨_, rfl, HM.out, by show _ = Value.agg _; rw [HE.out]⟩
        have k5 := hk
        clear hk
        by_cases hk : x.kind = 3
        · have HE1 : Hid (behG l lim g x = if x.good = true then wellG g0 x.back x.step else if x.back = false then refG l g0 x.step else lapG l lim g0 x.back x.step) := Lib.hid (by rw [HE0.out, if_neg k2, if_neg k5, if_pos hk])
          rw [hk] at c0
          clear hk k2 k5
          go_upto_region 11 with fail
          clear c0
          refine wp_region_steps0 NewT [SV.eq (.pointer (some ⟨g2, 6, none⟩)), SV.eq (.bool (x.good))] [([(4, none)], none), ([(38, some 0)], none)] 55 2 rfl rfl (by kernel_rfl) NewT.trans (NewT.refl _) (Nat.le_of_ble_eq_true rfl) ⟨?_, ?_, trivial⟩ ?_
          · exact fun a wx hT hF K hK => rely_wp rfl (opr_fldR (by decide) rfl hF.1 (hK _ _ (NewT.refl _) rfl))
          · exact fun a wx hT hF K hK => rely_wp rfl (opr_ldQ (hT.row Rg2.out) (by decide) rfl rfl hF.1 (hK _ _ (NewT.refl _) rfl))
          · intro w8 k8
            iterate 2 (intro u h; obtain rfl := Eq.symm (h (by simp)); clear h)
            refine relyEnd_nil rfl ?_
            refine wpList_end rfl ?_
            simp only [Act.put, List.setIfInBounds_toArray, List.set_cons_zero, List.set_cons_succ]
            go_simp
            replace Rg1 := Lib.hid (k8.row Rg1.out)
            replace Rg2 := Lib.hid (k8.row Rg2.out)
            replace Rg3 := Lib.hid (k8.row Rg3.out)
            replace HM := Lib.hid (NewT.trans _ _ _ HM.out k8)
            clear k8
            cases hb : x.good
            · skip
              go_upto_region 13 with fail
              refine wp_region_steps0 NewT [SV.eq (.pointer (some ⟨g2, 5, none⟩)), SV.eq (.bool (x.back)), SV.eq (.bool (!x.back))] [([(4, none)], none), ([(43, some 0)], none), ([(44, some 1)], none)] 55 3 rfl rfl (by kernel_rfl) NewT.trans (NewT.refl _) (Nat.le_of_ble_eq_true rfl) ⟨?_, ?_, ?_, trivial⟩ ?_
              · exact fun a wx hT hF K hK => rely_wp rfl (opr_fldR (by decide) rfl hF.1 (hK _ _ (NewT.refl _) rfl))
              · exact fun a wx hT hF K hK => rely_wp rfl (opr_ldQ (hT.row Rg2.out) (by decide) rfl rfl hF.1 (hK _ _ (NewT.refl _) rfl))
              · exact fun a wx hT hF K hK => rely_wp rfl (opr_not rfl hF.1 (hK _ _ (NewT.refl _) rfl))
              · intro w9 k9
                iterate 3 (intro u h; obtain rfl := Eq.symm (h (by simp)); clear h)
                refine relyEnd_nil rfl ?_
                refine wpList_end rfl ?_
                simp only [Act.put, List.setIfInBounds_toArray, List.set_cons_zero, List.set_cons_succ]
                go_simp
                replace Rg1 := Lib.hid (k9.row Rg1.out)
                replace Rg2 := Lib.hid (k9.row Rg2.out)
                replace Rg3 := Lib.hid (k9.row Rg3.out)
                replace HM := Lib.hid (NewT.trans _ _ _ HM.out k9)
                clear k9
                cases hq : x.back
                · have HE : Hid (behG l lim g x = refG l g0 x.step) := Lib.hid (by rw [HE1.out, hb, hq, if_neg (by simp), if_pos rfl])
                  clear hb hq
                  go_upto_region 14 with fail
                  refine wp_region_steps0 NewT [SV.eq (.agg (rowA 10 (sgF sv g0))), SV.eq (.pointer (some ⟨g2, 3, none⟩)), SV.eq (.int .i64 (x.step)), SV.eq ((.agg (rowA 10 (sgF sv (refG l g0 x.step)))))] [([(3, none)], none), ([(4, none)], none), ([(47, some 1)], none), ([(46, some 0), (48, some 2)], none)] 55 4 rfl rfl (by kernel_rfl) NewT.trans (NewT.refl _) (Nat.le_of_ble_eq_true rfl) ⟨?_, ?_, ?_, ?_, trivial⟩ ?_
                  · exact fun a wx hT hF K hK => rely_wp rfl (opr_ldU (hT.row Rg1.out) rfl hF.1 (hK _ _ (NewT.refl _) rfl))
                  · exact fun a wx hT hF K hK => rely_wp rfl (opr_fldR (by decide) rfl hF.1 (hK _ _ (NewT.refl _) rfl))
                  · exact fun a wx hT hF K hK => rely_wp rfl (opr_ldI (hT.row Rg2.out) (by decide) rfl rfl hF.1 (hK _ _ (NewT.refl _) rfl))
                  · exact fun a wx hT hF K hK => rely_wp rfl (opr_cv (refused_cv sv l g0 x.step wx ((NewT.trans _ _ _ HM.out hT).pairs HS.out) HL6.out HST.out) rfl Try.func54 (by kernel_rfl) (by kernel_rfl) (evs2 hF.1 hF.2.1) hK)
                  · intro w10 k10
                    iterate 4 (intro u h; obtain rfl := Eq.symm (h (by simp)); clear h)
                    refine relyEnd_nil rfl ?_
                    simp only [Act.put, List.setIfInBounds_toArray, List.set_cons_zero, List.set_cons_succ]
                    refine wpList_plain rfl (fun K hK => ?_)
                    refine opr_putm (g := g3) (o0 := 0) (m := 10) (f := sgF sv (refG l g0 x.step)) (F := sgF sv (refG l g0 x.step)) rfl rfl rfl (k10.row Rg3.out) (by decide) info_saga (sgF_one _ _ (oneP HS.out)) (put_allN _ _ _) ?_
                    intro W10 hR10 rr10
                    refine hK _ _ ?_
                    clear hK K
                    refine wpList_end rfl ?_
                    simp only [Act.put, List.setIfInBounds_toArray, List.set_cons_zero, List.set_cons_succ]
                    go_simp
                    replace Rg3 := Lib.hid rr10
                    replace Rg1 := Lib.hid (hR10.row (by have h_0 := HG.out; omega) (k10.row Rg1.out))
                    replace Rg2 := Lib.hid (hR10.row (by have h_0 := HG.out; omega) (k10.row Rg2.out))
                    replace HM := Lib.hid (NewT.rt (NewT.trans _ _ _ HM.out k10) hR10 (by have h_0 := HG.out; omega))
                    clear k10 hR10 rr10
                    go_wp2
                    exact bodyPost_ret (results_agg rfl _ rfl Rg3.out Try.underlying48 rfl info_saga) rfl ⟨_, rfl, HM.out, by show _ = Value.agg _; rw [HE.out]⟩
                · have HE : Hid (behG l lim g x = lapG l lim g0 x.back x.step) := Lib.hid (by rw [HE1.out, if_neg (by rw [hb]; simp), if_neg (by rw [hq]; simp)])
                  clear hb hq
                  go_upto_region 15 with fail
                  refine wp_region_steps0 NewT [SV.eq (.agg (rowA 10 (sgF sv g0))), SV.eq (.agg (rowA 109 (recF x su dv))), SV.eq (.int .i64 (lim)), SV.eq ((.agg (rowA 10 (sgF sv (lapG l lim g0 x.back x.step)))))] [([(3, none)], none), ([(4, none)], none), ([(2, none)], none), ([(50, some 0), (51, some 1), (52, some 2)], none)] 55 4 rfl rfl (by kernel_rfl) NewT.trans (NewT.refl _) (Nat.le_of_ble_eq_true rfl) ⟨?_, ?_, ?_, ?_, trivial⟩ ?_
                  · exact fun a wx hT hF K hK => rely_wp rfl (opr_ldU (hT.row Rg1.out) rfl hF.1 (hK _ _ (NewT.refl _) rfl))
                  · exact fun a wx hT hF K hK => rely_wp rfl (opr_ldR (hT.row Rg2.out) rfl hF.1 (hK _ _ (NewT.refl _) rfl))
                  · exact fun a wx hT hF K hK => rely_wp rfl (opr_move (.inl rfl) (hK _ _ (NewT.refl _) hF.1))
                  · exact fun a wx hT hF K hK => rely_wp rfl (opr_cv (lapsed_cv sv l g0 x _ lim wx ((NewT.trans _ _ _ HM.out hT).pairs HS.out) ((NewT.trans _ _ _ HM.out hT).recV HX.out) HL6.out HST.out) rfl Try.func55 (by kernel_rfl) (by kernel_rfl) (evs3 hF.1 hF.2.1 hF.2.2.1) hK)
                  · intro w11 k11
                    iterate 4 (intro u h; obtain rfl := Eq.symm (h (by simp)); clear h)
                    refine relyEnd_nil rfl ?_
                    simp only [Act.put, List.setIfInBounds_toArray, List.set_cons_zero, List.set_cons_succ]
                    refine wpList_plain rfl (fun K hK => ?_)
                    refine opr_putm (g := g3) (o0 := 0) (m := 10) (f := sgF sv (lapG l lim g0 x.back x.step)) (F := sgF sv (lapG l lim g0 x.back x.step)) rfl rfl rfl (k11.row Rg3.out) (by decide) info_saga (sgF_one _ _ (oneP HS.out)) (put_allN _ _ _) ?_
                    intro W11 hR11 rr11
                    refine hK _ _ ?_
                    clear hK K
                    refine wpList_end rfl ?_
                    simp only [Act.put, List.setIfInBounds_toArray, List.set_cons_zero, List.set_cons_succ]
                    go_simp
                    replace Rg3 := Lib.hid rr11
                    replace Rg1 := Lib.hid (hR11.row (by have h_0 := HG.out; omega) (k11.row Rg1.out))
                    replace Rg2 := Lib.hid (hR11.row (by have h_0 := HG.out; omega) (k11.row Rg2.out))
                    replace HM := Lib.hid (NewT.rt (NewT.trans _ _ _ HM.out k11) hR11 (by have h_0 := HG.out; omega))
                    clear k11 hR11 rr11
                    go_wp2
                    exact bodyPost_ret (results_agg rfl _ rfl Rg3.out Try.underlying48 rfl info_saga) rfl ⟨_, rfl, HM.out, by show _ = Value.agg _; rw [HE.out]⟩
            · have HE : Hid (behG l lim g x = wellG g0 x.back x.step) := Lib.hid (by rw [HE1.out, if_pos hb])
              clear hb
              go_upto_region 12 with fail
              refine wp_region_steps0 NewT [SV.eq (.agg (rowA 10 (sgF sv g0))), SV.eq (.agg (rowA 109 (recF x su dv))), SV.eq ((.agg (rowA 10 (sgF sv (wellG g0 x.back x.step)))))] [([(3, none)], none), ([(4, none)], none), ([(40, some 0), (41, some 1)], none)] 55 3 rfl rfl (by kernel_rfl) NewT.trans (NewT.refl _) (Nat.le_of_ble_eq_true rfl) ⟨?_, ?_, ?_, trivial⟩ ?_
              · exact fun a wx hT hF K hK => rely_wp rfl (opr_ldU (hT.row Rg1.out) rfl hF.1 (hK _ _ (NewT.refl _) rfl))
              · exact fun a wx hT hF K hK => rely_wp rfl (opr_ldR (hT.row Rg2.out) rfl hF.1 (hK _ _ (NewT.refl _) rfl))
              · exact fun a wx hT hF K hK => rely_wp rfl (opr_cv (wentWell_cv sv l g0 x _ wx ((NewT.trans _ _ _ HM.out hT).pairs HS.out) ((NewT.trans _ _ _ HM.out hT).recV HX.out) HK6.out HAT.out) rfl Try.func53 (by kernel_rfl) (by kernel_rfl) (evs2 hF.1 hF.2.1) hK)
              · intro w12 k12
                iterate 3 (intro u h; obtain rfl := Eq.symm (h (by simp)); clear h)
                refine relyEnd_nil rfl ?_
                simp only [Act.put, List.setIfInBounds_toArray, List.set_cons_zero, List.set_cons_succ]
                refine wpList_plain rfl (fun K hK => ?_)
                refine opr_putm (g := g3) (o0 := 0) (m := 10) (f := sgF sv (wellG g0 x.back x.step)) (F := sgF sv (wellG g0 x.back x.step)) rfl rfl rfl (k12.row Rg3.out) (by decide) info_saga (sgF_one _ _ (oneP HS.out)) (put_allN _ _ _) ?_
                intro W12 hR12 rr12
                refine hK _ _ ?_
                clear hK K
                refine wpList_end rfl ?_
                simp only [Act.put, List.setIfInBounds_toArray, List.set_cons_zero, List.set_cons_succ]
                go_simp
                replace Rg3 := Lib.hid rr12
                replace Rg1 := Lib.hid (hR12.row (by have h_0 := HG.out; omega) (k12.row Rg1.out))
                replace Rg2 := Lib.hid (hR12.row (by have h_0 := HG.out; omega) (k12.row Rg2.out))
                replace HM := Lib.hid (NewT.rt (NewT.trans _ _ _ HM.out k12) hR12 (by have h_0 := HG.out; omega))
                clear k12 hR12 rr12
                go_wp2
                exact bodyPost_ret (results_agg rfl _ rfl Rg3.out Try.underlying48 rfl info_saga) rfl ⟨_, rfl, HM.out, by show _ = Value.agg _; rw [HE.out]⟩
        have k3 := hk
        clear hk
        have hk : x.kind = 4 := by have := HKD.out; omega
        have HE : Hid (behG l lim g x = lapG l lim g0 x.back x.step) := Lib.hid (by rw [HE0.out, if_neg k2, if_neg k5, if_neg k3, if_pos hk])
        rw [hk] at c0
        clear hk k2 k5 k3
        go_upto_region 15 with fail
        clear c0
        refine wp_region_steps0 NewT [SV.eq (.agg (rowA 10 (sgF sv g0))), SV.eq (.agg (rowA 109 (recF x su dv))), SV.eq (.int .i64 (lim)), SV.eq ((.agg (rowA 10 (sgF sv (lapG l lim g0 x.back x.step)))))] [([(3, none)], none), ([(4, none)], none), ([(2, none)], none), ([(50, some 0), (51, some 1), (52, some 2)], none)] 55 4 rfl rfl (by kernel_rfl) NewT.trans (NewT.refl _) (Nat.le_of_ble_eq_true rfl) ⟨?_, ?_, ?_, ?_, trivial⟩ ?_
        · exact fun a wx hT hF K hK => rely_wp rfl (opr_ldU (hT.row Rg1.out) rfl hF.1 (hK _ _ (NewT.refl _) rfl))
        · exact fun a wx hT hF K hK => rely_wp rfl (opr_ldR (hT.row Rg2.out) rfl hF.1 (hK _ _ (NewT.refl _) rfl))
        · exact fun a wx hT hF K hK => rely_wp rfl (opr_move (.inl rfl) (hK _ _ (NewT.refl _) hF.1))
        · exact fun a wx hT hF K hK => rely_wp rfl (opr_cv (lapsed_cv sv l g0 x _ lim wx ((NewT.trans _ _ _ HM.out hT).pairs HS.out) ((NewT.trans _ _ _ HM.out hT).recV HX.out) HL6.out HST.out) rfl Try.func55 (by kernel_rfl) (by kernel_rfl) (evs3 hF.1 hF.2.1 hF.2.2.1) hK)
        · intro w13 k13
          iterate 4 (intro u h; obtain rfl := Eq.symm (h (by simp)); clear h)
          refine relyEnd_nil rfl ?_
          simp only [Act.put, List.setIfInBounds_toArray, List.set_cons_zero, List.set_cons_succ]
          refine wpList_plain rfl (fun K hK => ?_)
          refine opr_putm (g := g3) (o0 := 0) (m := 10) (f := sgF sv (lapG l lim g0 x.back x.step)) (F := sgF sv (lapG l lim g0 x.back x.step)) rfl rfl rfl (k13.row Rg3.out) (by decide) info_saga (sgF_one _ _ (oneP HS.out)) (put_allN _ _ _) ?_
          intro W13 hR13 rr13
          refine hK _ _ ?_
          clear hK K
          refine wpList_end rfl ?_
          simp only [Act.put, List.setIfInBounds_toArray, List.set_cons_zero, List.set_cons_succ]
          go_simp
          replace Rg3 := Lib.hid rr13
          replace Rg1 := Lib.hid (hR13.row (by have h_0 := HG.out; omega) (k13.row Rg1.out))
          replace Rg2 := Lib.hid (hR13.row (by have h_0 := HG.out; omega) (k13.row Rg2.out))
          replace HM := Lib.hid (NewT.rt (NewT.trans _ _ _ HM.out k13) hR13 (by have h_0 := HG.out; omega))
          clear k13 hR13 rr13
          go_wp2
          exact bodyPost_ret (results_agg rfl _ rfl Rg3.out Try.underlying48 rfl info_saga) rfl ⟨_, rfl, HM.out, by show _ = Value.agg _; rw [HE.out]⟩
end Go.Proofs.Ytilmeffmdgcblaa
/- A region that draws its order, within a round of a range over a function: all operations but a forced tail read alone. No program is named here. -/
namespace Go.Proofs.Ytilmeffmdgcblaa
open Go.RowKit
set_option maxRecDepth 8000
set_option linter.all false
variable {P : Program} {ops : Array Oper} {md : Region.Mode} {w : World} {l₀ n : Nat}

def noDefer (ops : Array Oper) : Bool := ops.all fun o => match o.op with | .defer _ => false | _ => true
theorem noDefer_at (h : noDefer ops = true) {i : Nat} {o : Oper} (hi : ops[i]? = some o) : ∀ c, o.op ≠ .defer c := by
  intro c e
  have := Array.all_eq_true_iff_forall_mem.1 h o (Array.mem_of_getElem? hi)
  rw [e] at this
  cases this
theorem wpOpIn_of_stOp (hnd : noDefer ops = true) {i : Nat} {a : Act} {K : Act → Prop} {K' : Act → World → Prop} {Q' : Exit → Act → World → Prop} (h : ∀ a, K a → K' a w) (hh : stOp P ops w i K a) :
    wpOpIn (Fence.wide.inRound l₀) n P ops Q' i K' a w := by
  unfold stOp at hh
  unfold wpOpIn
  cases ho : ops[i]? with
  | none => simp only [ho] at hh ⊢; exact h _ hh
  | some o =>
    simp only [ho] at hh ⊢
    split
    · rename_i hw
      simp only [hw, if_true] at hh
      refine ⟨fun _ _ => trivial, ?_⟩
      rw [Oper.semAt_eq _ _ _ (noDefer_at hnd ho)]
      unfold Oper.still at hh
      generalize (execOp a.eval o).run P w = r at *
      cases r with
      | ok x w' =>
        cases x <;> simp only [Oper.stillUpon] at hh <;> simp only [Oper.uponIn]
        case enter f args =>
          obtain ⟨rfl, v, hc, hn⟩ := hh
          refine ⟨fun hd => by simp [Fence.wide] at hd, CallsIn.inRound l₀ ((callsIn_wide.2 hc).mono fun e w'' he => ?_)⟩
          obtain ⟨rfl, rfl⟩ := he
          exact h _ hn
        all_goals (obtain ⟨rfl, h2⟩ := hh; exact h _ h2)
      | halt x w' => simp only [Oper.stillUpon] at hh
    · rename_i hw
      simp only [hw] at hh
      exact ⟨fun _ _ => trivial, h _ hh⟩
theorem wpAnyIn_of_head (hnd : noDefer ops = true) {m g : Nat} {L : Array Bool → Act → Prop} {Q' : Exit → Act → World → Prop} (hL : ∀ listed a, L listed a → wpAnyIn (Fence.wide.inRound l₀) n P md ops Q' g listed a w) :
    ∀ (f : Nat) (listed : Array Bool) (a : Act), wpAnyL P md ops w m L f listed a → wpAnyIn (Fence.wide.inRound l₀) n P md ops Q' (f + g) listed a w
  | 0, listed, a, h => by rw [Nat.zero_add]; exact hL _ _ h
  | f + 1, listed, a, h => by
    rw [show f + 1 + g = (f + g) + 1 by omega]
    exact ⟨fun h0 => absurd h0 h.1, fun i hi => wpOpIn_of_stOp hnd (fun a' h' => wpAnyIn_of_head hnd hL f _ a' h') (h.2 i hi).2⟩
theorem wpAnyIn_of_seq {Q' : Exit → Act → World → Prop} : ∀ (l : List Oper) (k : Nat) (listed : Array Bool) (a : Act) (w : World), (∀ j, l[j]? = ops[k + j]?) →
    Region.seqB md ops l.length k listed = true → wpListIn (Fence.wide.inRound l₀) n P ops Q' l a w → wpAnyIn (Fence.wide.inRound l₀) n P md ops Q' l.length listed a w
  | [], _, _, _, _, _, hB, h => ⟨by simpa [Region.seqB] using hB, h⟩
  | o :: l, k, listed, a, w, hl, hB, h => by
    have h0 : ops[k]? = some o := by simpa using (hl 0).symm
    simp only [List.length_cons, Region.seqB, Bool.and_eq_true, decide_eq_true_eq] at hB
    refine ⟨fun h1 => (by rw [hB.1] at h1; cases h1), fun i hi => ?_⟩
    rw [hB.1] at hi
    have hik : i = k := by simpa using hi
    subst hik
    have hw : wpOpIn (Fence.wide.inRound l₀) n P ops Q' i (wpListIn (Fence.wide.inRound l₀) n P ops Q' l) a w := by unfold wpOpIn; simp only [h0]; exact h
    exact wpOpIn_mono (fun a' w' h' => wpAnyIn_of_seq l (i + 1) _ a' w' (fun j => by have := hl (j + 1); simpa [Nat.add_assoc, Nat.add_comm 1 j] using this) hB.2 h') hw

/-- All operations but a forced tail read alone: in the text's order, within a round. -/
theorem region_round_tail {id : Nat} {Q : Exit → Act → World → Prop} {a : Act} {w : World} {l : List Oper} (m : Nat) (hm : P.follows .mixedOrders = true) (hB : Region.lexTailB .any l.toArray m = true) (hnd : noDefer l.toArray = true)
    (h : wpStill P l.toArray w.drew (fun a' => wpListIn (Fence.wide.inRound l₀) n P l.toArray Q (l.drop m) a' w.drew) (l.take m) a) : (Code.region id l.toArray true).wpIn (Fence.wide.inRound l₀) n P Q a w := by
  simp only [Region.lexTailB, Bool.and_eq_true, decide_eq_true_eq] at hB
  obtain ⟨⟨⟨⟨hsel, hn⟩, hs⟩, hc⟩, hlex⟩ := hB
  have hn' : m < l.length := by simpa using hn
  have htl : (l.take m).length = m := by simp; omega
  have hdl : (l.drop m).length = l.toArray.size - m := by simp
  have inv0 : HeadInv .any l.toArray m (Array.replicate l.toArray.size false) :=
    ⟨by simp, fun j oj _ hl => (by rw [getD_replicate_false] at hl; cases hl), fun t _ ht => getD_in (by simpa using ht) (getD_replicate_false _ _)⟩
  have H := wpAnyL_lex (md := .any) (g := l.toArray.size - m) hsel hs hc hn (l.take m) 0 _ a (fun j hj => by
    have hj' : j < m := by rw [htl] at hj; exact hj
    simp [hj']) (by simpa using htl) inv0 (by rw [htl]; exact hlex) h
  refine wpIn_region_any hm ?_
  have := wpAnyIn_of_head (n := n) (l₀ := l₀) hnd (Q' := Q) (g := l.toArray.size - m) (fun listed a' hL => by
    have := wpAnyIn_of_seq (n := n) (l₀ := l₀) (md := .any) (Q' := Q) (l.drop m) m listed a' w.drew (fun j => by simp [List.getElem?_drop]) (by rw [hdl]; exact hL.1) hL.2
    rwa [hdl] at this) _ _ _ H
  rw [htl, show m + (l.toArray.size - m) = l.toArray.size by omega] at this
  exact this
end Go.Proofs.Ytilmeffmdgcblaa
/- A region in the text's order, within a round of a range over a function: each operation gone through once. No program is named here. -/
namespace Go.Proofs.Ytilmeffmdgcblaa
open Go
set_option maxRecDepth 8000
set_option linter.all false

theorem rowsIn_w {n : Nat} {P : Program} {row : String} {args : Array Value} {w : World} {R : Value → World → Prop} (h : Rows P row args w R) : RowsIn Fence.wide n P row args w R := fun c cs _ => let ⟨v, w', r, s⟩ := h c cs; ⟨v, w', r, stepsIn_wide.2 s⟩
theorem wpIn_of_wp {P : Program} {o : Oper} {a : Act} {w : World} {K : Act → World → Prop} {Q : Exit → Act → World → Prop} {l₀ nn : Nat} (hnd : ∀ c, o.op ≠ .defer c) (h : o.wp P a w K Q) : o.wpIn (Fence.wide.inRound l₀) nn P a w K Q := by
  refine ⟨fun _ _ => trivial, ?_⟩
  rw [Oper.semAt_eq _ _ _ hnd]
  unfold Oper.wp at h
  generalize (execOp a.eval o).run P w = r at *
  cases r with
  | ok x w' =>
    cases x <;> simp only [Oper.upon] at h <;> simp only [Oper.uponIn]
    case enter f args => exact ⟨fun hd => by simp [Fence.inRound, Fence.wide] at hd, CallsIn.inRound l₀ (callsIn_wide.2 h)⟩
    case row r args => exact ⟨fun hd => by simp [Fence.inRound, Fence.wide] at hd, rowsIn_w h⟩
    all_goals exact h
  | halt x w' =>
    cases x <;> simp only [Oper.upon] at h <;> simp only [Oper.uponIn]
    exact h
section
variable {P : Program} {ops : Array Oper} {Q : Exit → Act → World → Prop} {T : World → World → Prop} {V : List (SV T)} {J : Nat → World → Prop} {a0 : Act} {w0 : World} {n m : Nat} {D : Deps} {init tail : List Oper} {l₀ nn : Nat}
theorem seq_opI (hnd : noDefer ops = true) (hn : a0.tmps.size = n) (ht : ∀ a b c : World, T a b → T b c → T a c) {i : Nat} {o : Oper} {dp : List (Tmp × Option Nat)} {g : Option (Tmp × Bool)} {a : Act} {w : World}
    (him : i < m) (ho : ops[i]? = some o) (h1 : seqOne ops n m i o dp g = true) (hstep : seqStep P Q T V J a0 w0 i o dp g (V.getD i SV.any)) (inv : SeqInv ops T V J a0 w0 i a w) :
    wpOpIn (Fence.wide.inRound l₀) nn P ops Q i (fun a' w' => SeqInv ops T V J a0 w0 (i + 1) a' w') a w := by
  simp only [seqOne, Bool.and_eq_true] at h1
  obtain ⟨⟨hdst, hdp⟩, hg⟩ := h1
  have hfacts : relyFacts V a0 a w dp := by
    clear hstep
    induction dp with
    | nil => trivial
    | cons x r ih2 =>
      simp only [List.all_cons, Bool.and_eq_true] at hdp
      obtain ⟨hx, hr⟩ := hdp
      obtain ⟨d, j⟩ := x
      cases j with
      | some j =>
        simp only [Bool.and_eq_true, beq_iff_eq, decide_eq_true_eq] at hx
        exact ⟨inv.new j d hx.2 hx.1, ih2 hr⟩
      | none =>
        refine ⟨inv.old d fun j hj => ?_, ih2 hr⟩
        simpa using List.all_eq_true.1 hx j (List.mem_range.2 hj)
  have hguard : Region.wanted o (yielded ops a.tmps) = relyGuard g a := by
    unfold Region.wanted
    cases hgo : o.guard with
    | none =>
      rw [hgo] at hg
      cases g with
      | none => rfl
      | some x => cases hg
    | some kb =>
      obtain ⟨k, b⟩ := kb
      rw [hgo] at hg
      cases g with
      | none => cases hg
      | some x =>
        obtain ⟨d, b'⟩ := x
        simp only [Bool.and_eq_true, beq_iff_eq, decide_eq_true_eq] at hg
        obtain ⟨⟨rfl, hd⟩, hlt⟩ := hg
        have hlt' : d < a.tmps.size := by rw [inv.slots, hn]; exact hlt
        have hd' : (ops[k]?).bind (·.dst) = some d := hd
        simp only [yielded, hd', Option.bind_some, relyGuard, Array.getD_eq_getD_getElem?, Array.getElem?_eq_getElem hlt', Option.getD_some]
        cases a.tmps[d] <;> simp
        all_goals (rename_i x; cases x <;> cases b <;> rfl)
  have next : ∀ v w', T w w' → J (i + 1) w' → (V.getD i SV.any).pred v w' → SeqInv ops T V J a0 w0 (i + 1) (a.put o.dst v) w' := fun v w' hT hJ hv => by
    refine ⟨ht _ _ _ inv.now hT, hJ, by cases o.dst <;> simp [Act.put, inv.slots], by cases o.dst <;> simp [Act.put, inv.defers], fun j d hji hj => ?_, fun d hno => ?_⟩
    · by_cases hij : i = j
      · subst hij
        have hd : o.dst = some d := by simpa [relyDst, ho] using hj
        rw [hd] at hdst
        simp only [Bool.and_eq_true, decide_eq_true_eq] at hdst
        have hlt : d < a.tmps.size := by rw [inv.slots, hn]; exact hdst.1
        rw [hd]
        simpa [Act.put, hlt] using hv
      · have h3 := (V.getD j SV.any).stable _ _ _ (inv.new j d (by omega) hj) hT
        cases hod : o.dst with
        | none => exact h3
        | some d0 =>
          rw [hod] at hdst
          simp only [Bool.and_eq_true, decide_eq_true_eq] at hdst
          have h4 := List.all_eq_true.1 hdst.2 j (List.mem_range.2 (by omega))
          simp only [Bool.or_eq_true, decide_eq_true_eq, bne_iff_ne, ne_eq] at h4
          have hne : d0 ≠ d := fun e => by
            subst e
            rcases h4 with h4 | h4
            · exact hij h4.symm
            · exact h4 hj
          simpa [Act.put, Array.getElem?_setIfInBounds_ne hne] using h3
    · have hni : o.dst ≠ some d := fun hd => hno i (by omega) (by simp [relyDst, ho, hd])
      have hold := inv.old d fun j hj => hno j (by omega)
      cases hod : o.dst with
      | none => exact hold
      | some d0 =>
        have hne : d0 ≠ d := fun e => hni (by rw [hod, e])
        simpa [Act.put, Array.getElem?_setIfInBounds_ne hne] using hold
  have hs := hstep a w inv.now hfacts inv.at_ _ next
  unfold wpOpIn
  simp only [ho, hguard]
  split
  · rename_i hw; rw [if_pos hw] at hs; exact wpIn_of_wp (noDefer_at hnd ho) hs
  · rename_i hw; rw [if_neg hw] at hs; exact ⟨fun _ _ => trivial, hs⟩
theorem wpOpsIn_tail : ∀ (t : List Oper) (k : Nat) (a : Act) (w : World), (∀ i : Nat, ops[k + i]? = t[i]?) → wpListIn (Fence.wide.inRound l₀) nn P ops Q t a w → wpOpsIn (Fence.wide.inRound l₀) nn P ops Q (List.range' k t.length) a w
  | [], k, a, w, _, h => by simpa [wpOpsIn, wpListIn] using h
  | o :: t, k, a, w, hk, h => by
    have hi : ops[k]? = some o := by simpa using hk 0
    rw [List.length_cons, List.range'_succ, wpOpsIn_cons]
    refine wpOpIn_mono (fun a' w' h' => wpOpsIn_tail t (k + 1) a' w' (fun i => by have := hk (i + 1); rw [show k + 1 + i = k + (i + 1) by omega]; simpa using this) h') ?_
    unfold wpOpIn
    simp only [hi]
    simpa only [wpListIn] using h
theorem wpOpsIn_seq (hnd : noDefer ops = true) (hsplit : ops.toList = init ++ tail) (hn : a0.tmps.size = n) (hB : seqB ops n init.length 0 init D = true) (ht : ∀ a b c : World, T a b → T b c → T a c)
    (hl : init.length ≤ V.length) (hA : seqAll P Q T V J a0 w0 0 init D V) (hE : ∀ w, T w0 w → J init.length w → relyEnd (fun _ a w => wpListIn (Fence.wide.inRound l₀) nn P ops Q tail a w) T init V a0 w) :
    ∀ (f k : Nat) (a : Act) (w : World), k + f = init.length → SeqInv ops T V J a0 w0 k a w → wpOpsIn (Fence.wide.inRound l₀) nn P ops Q (List.range' k (f + tail.length)) a w := by
  obtain ⟨hsz, hpre, htl⟩ := split_at hsplit
  intro f
  induction f with
  | zero =>
    intro k a w hk inv
    obtain rfl : k = init.length := by omega
    rw [Nat.zero_add]
    refine wpOpsIn_tail tail init.length a w htl ?_
    refine relyEnd_of (Q := fun _ a w => wpListIn (Fence.wide.inRound l₀) nn P ops Q tail a w) init V a0 inv.slots.symm inv.defers.symm hl (fun d hnd => ?_) (fun k o d hk hd => ?_) (hE w inv.now inv.at_)
    · refine (inv.old d fun j hj hjd => ?_).symm
      have hj2 := hpre j init[j] (List.getElem?_eq_getElem hj)
      simp [relyDst, hj2] at hjd
      exact hnd init[j] (List.getElem_mem hj) hjd
    · exact inv.new k d (List.getElem?_eq_some_iff.1 hk).1 (by simp [relyDst, hpre k o hk, hd])
  | succ f ih =>
    intro k a w hk inv
    rw [show f + 1 + tail.length = (f + tail.length) + 1 by omega, List.range'_succ, wpOpsIn_cons]
    have hklt : k < init.length := by omega
    have hio : init[k]? = some init[k] := List.getElem?_eq_getElem hklt
    obtain ⟨dp, g, hD, h1⟩ := seqB_at init D 0 k _ hB hio
    have hstep := seqAll_at _ _ _ 0 k _ dp g hA hio hD
    rw [Nat.zero_add] at h1 hstep
    exact wpOpIn_mono (fun a' w' inv' => ih (k + 1) a' w' (by omega) inv') (seq_opI hnd hn ht hklt (hpre k _ hio) h1 hstep inv)
/-- **A region in the text's order; the operations from place m on are left as they stand.** -/
theorem wpIn_region_steps {id : Nat} (T : World → World → Prop) (J : Nat → World → Prop) (V : List (SV T)) (D : Deps) (n m : Nat) (hnd : noDefer ops = true) (hn : a0.tmps.size = n) (hlen : (ops.toList.take m).length = m) (hB : seqB ops n m 0 (ops.toList.take m) D = true)
    (ht : ∀ a b c : World, T a b → T b c → T a c) (hd : T w0 w0) (hJ : J 0 w0) (hl : m ≤ V.length)
    (hA : seqAll P Q T V J a0 w0 0 (ops.toList.take m) D V) (hE : ∀ w, T w0 w → J m w → relyEnd (fun _ a w => wpListIn (Fence.wide.inRound l₀) nn P ops Q (ops.toList.drop m) a w) T (ops.toList.take m) V a0 w) : (Code.region id ops false).wpIn (Fence.wide.inRound l₀) nn P Q a0 w0 := by
  refine wpIn_region ?_
  have hs := split_at (List.take_append_drop m ops.toList).symm
  rw [List.range_eq_range', hs.1]
  exact wpOpsIn_seq hnd (List.take_append_drop m ops.toList).symm hn (by rw [hlen]; exact hB) ht (by rw [hlen]; exact hl) hA (by rw [hlen]; exact hE) _ 0 a0 w0 (by omega) ⟨hd, hJ, rfl, rfl, fun j d hj => absurd hj (by omega), fun _ _ => rfl⟩
theorem wpIn_region_steps0 {id : Nat} (T : World → World → Prop) (V : List (SV T)) (D : Deps) (n m : Nat) (hnd : noDefer ops = true) (hn : a0.tmps.size = n) (hlen : (ops.toList.take m).length = m) (hB : seqB ops n m 0 (ops.toList.take m) D = true)
    (ht : ∀ a b c : World, T a b → T b c → T a c) (hd : T w0 w0) (hl : m ≤ V.length)
    (hA : relyAll P Q T V a0 w0 (ops.toList.take m) D V) (hE : ∀ w, T w0 w → relyEnd (fun _ a w => wpListIn (Fence.wide.inRound l₀) nn P ops Q (ops.toList.drop m) a w) T (ops.toList.take m) V a0 w) : (Code.region id ops false).wpIn (Fence.wide.inRound l₀) nn P Q a0 w0 :=
  wpIn_region_steps T (fun _ _ => True) V D n m hnd hn hlen hB ht hd trivial hl (seqAll_of 0 _ _ _ hA) fun w hT _ => hE w hT
theorem wpListIn_end {a : Act} {w : World} {l : List Oper} (hl : l = []) (h : Q .normal a w) : wpListIn (Fence.wide.inRound l₀) nn P ops Q l a w := by subst hl; exact h
theorem wpListIn_wp {a : Act} {w : World} {o : Oper} {l : List Oper} (hnd : noDefer ops = true) (hm : o ∈ ops) (hg : o.guard = none) (h : ∀ K : Act → World → Prop, (∀ a w, wpListIn (Fence.wide.inRound l₀) nn P ops Q l a w → K a w) → o.wp P a w K Q) : wpListIn (Fence.wide.inRound l₀) nn P ops Q (o :: l) a w :=
  wpListIn_plain hg fun K hK => wpIn_of_wp (fun c e => by
    have := Array.all_eq_true_iff_forall_mem.1 hnd o hm
    rw [e] at this; cases this) (h K hK)
end
end Go.Proofs.Ytilmeffmdgcblaa
/- A region that draws its order, within a round of a range over a function: each operation gone through once. No program is named here. -/
namespace Go.Proofs.Ytilmeffmdgcblaa
open Go
set_option maxRecDepth 8000
set_option linter.all false
section
variable {P : Program} {ops : Array Oper} {Q : Exit → Act → World → Prop} {T : World → World → Prop} {V : List (SV T)} {a0 : Act} {w0 : World} {n : Nat} {D : Deps} {l₀ nn : Nat}
theorem rely_opI (hnd : noDefer ops = true) (hn : a0.tmps.size = n) (ht : ∀ a b c : World, T a b → T b c → T a c) {i : Nat} {o : Oper} {dp : List (Tmp × Option Nat)} {g : Option (Tmp × Bool)} {listed : Array Bool} {a : Act} {w : World}
    (ho : ops[i]? = some o) (h1 : relyOne ops n i o dp g = true) (hstep : relyStep P Q T V a0 w0 o dp g (V.getD i SV.any)) (h0 : listed.getD i true = false)
    (hall : ∀ e ∈ o.after, Region.binds .any e = true → listed.getD e.on false = true) (inv : RelyInv ops T V a0 w0 listed a w) :
    wpOpIn (Fence.wide.inRound l₀) nn P ops Q i (fun a' w' => RelyInv ops T V a0 w0 (listed.setIfInBounds i true) a' w') a w := by
  simp only [relyOne, Bool.and_eq_true] at h1
  obtain ⟨⟨⟨hdst, hafter⟩, hdp⟩, hg⟩ := h1
  have waits : ∀ j, Region.waitsFor .any ops i j = true → listed.getD j false = true := fun j hj => by
    obtain ⟨oi, hoi, e, he, hb, hon⟩ := Region.waitsFor_spec hj
    have : oi = o := Option.some.inj (hoi.symm.trans ho)
    subst this
    rw [← hon]
    exact hall e he hb
  have i0 : listed.getD i false = false := getD_both h0
  have hfacts : relyFacts V a0 a w dp := by
    clear hstep
    induction dp with
    | nil => trivial
    | cons x r ih2 =>
      simp only [List.all_cons, Bool.and_eq_true] at hdp
      obtain ⟨hx, hr⟩ := hdp
      obtain ⟨d, j⟩ := x
      cases j with
      | some j =>
        simp only [Bool.and_eq_true, beq_iff_eq] at hx
        exact ⟨inv.new j d hx.1 (waits j hx.2), ih2 hr⟩
      | none =>
        refine ⟨inv.old d fun j hj => ?_, ih2 hr⟩
        have hjlt : j < ops.size := by
          unfold relyDst at hj
          cases hoj : ops[j]? with
          | none => simp [hoj] at hj
          | some oj => exact (Array.getElem?_eq_some_iff.1 hoj).1
        have h2 := List.all_eq_true.1 hx j (List.mem_range.2 hjlt)
        simp only [hj, bne_self_eq_false, Bool.false_or, Bool.or_eq_true, decide_eq_true_eq] at h2
        rcases h2 with rfl | h2
        · exact i0
        · cases hlj : listed.getD j false with
          | false => rfl
          | true =>
            obtain ⟨oj, hoj, e, he, hb, hon⟩ := Region.waitsFor_spec h2
            have := inv.closed j oj hoj hlj e he hb
            rw [hon, i0] at this
            cases this
  have hguard : Region.wanted o (yielded ops a.tmps) = relyGuard g a := by
    unfold Region.wanted
    cases hgo : o.guard with
    | none =>
      rw [hgo] at hg
      cases g with
      | none => rfl
      | some x => cases hg
    | some kb =>
      obtain ⟨k, b⟩ := kb
      rw [hgo] at hg
      cases g with
      | none => cases hg
      | some x =>
        obtain ⟨d, b'⟩ := x
        simp only [Bool.and_eq_true, beq_iff_eq, decide_eq_true_eq] at hg
        obtain ⟨⟨⟨rfl, hd⟩, _⟩, hlt⟩ := hg
        have hlt' : d < a.tmps.size := by rw [inv.slots, hn]; exact hlt
        have hd' : (ops[k]?).bind (·.dst) = some d := hd
        simp only [yielded, hd', Option.bind_some, relyGuard, Array.getD_eq_getD_getElem?, Array.getElem?_eq_getElem hlt', Option.getD_some]
        cases a.tmps[d] <;> simp
        all_goals (rename_i x; cases x <;> cases b <;> rfl)
  have next : ∀ v w', T w w' → (V.getD i SV.any).pred v w' → RelyInv ops T V a0 w0 (listed.setIfInBounds i true) (a.put o.dst v) w' := fun v w' hT hv => by
    have hilt : i < listed.size := by rw [inv.size]; exact (Array.getElem?_eq_some_iff.1 ho).1
    refine ⟨by simp [inv.size], fun j oj hj hlj e he hb => ?_, ht _ _ _ inv.now hT, by cases o.dst <;> simp [Act.put, inv.slots], by cases o.dst <;> simp [Act.put, inv.defers], fun j d hj hlj => ?_, fun d hno => ?_⟩
    · by_cases hij : i = j
      · subst hij
        have : oj = o := Option.some.inj (hj.symm.trans ho)
        subst this
        exact getD_set_true (hall e he hb)
      · rw [getD_set_ne false hij] at hlj
        exact getD_set_true (inv.closed j oj hj hlj e he hb)
    · by_cases hij : i = j
      · subst hij
        have hd : o.dst = some d := by simpa [relyDst, ho] using hj
        rw [hd] at hdst
        simp only [Bool.and_eq_true, decide_eq_true_eq] at hdst
        have hlt : d < a.tmps.size := by rw [inv.slots, hn]; exact hdst.1
        rw [hd]
        simpa [Act.put, hlt] using hv
      · rw [getD_set_ne false hij] at hlj
        have h3 := (V.getD j SV.any).stable _ _ _ (inv.new j d hj hlj) hT
        cases hod : o.dst with
        | none => exact h3
        | some d0 =>
          rw [hod] at hdst
          simp only [Bool.and_eq_true, decide_eq_true_eq] at hdst
          have hjlt : j < ops.size := by
            unfold relyDst at hj
            cases hoj : ops[j]? with
            | none => simp [hoj] at hj
            | some oj => exact (Array.getElem?_eq_some_iff.1 hoj).1
          have h4 := List.all_eq_true.1 hdst.2 j (List.mem_range.2 hjlt)
          simp only [Bool.or_eq_true, decide_eq_true_eq, bne_iff_ne, ne_eq] at h4
          have hne : d0 ≠ d := fun e => by
            subst e
            rcases h4 with h4 | h4
            · exact hij h4.symm
            · exact h4 hj
          simpa [Act.put, Array.getElem?_setIfInBounds_ne hne] using h3
    · have hni : o.dst ≠ some d := fun hd => by
        have := hno i (by simp [relyDst, ho, hd])
        simp [hilt] at this
      have hold := inv.old d fun j hj => by
        have hij : i ≠ j := fun e => by subst e; exact hni (by simpa [relyDst, ho] using hj)
        have := hno j hj
        rwa [getD_set_ne false hij] at this
      cases hod : o.dst with
      | none => exact hold
      | some d0 =>
        have hne : d0 ≠ d := fun e => hni (by rw [hod, e])
        simpa [Act.put, Array.getElem?_setIfInBounds_ne hne] using hold
  have hs := hstep a w inv.now hfacts _ next
  unfold wpOpIn
  simp only [ho, hguard]
  split
  · rename_i hw; rw [if_pos hw] at hs; exact wpIn_of_wp (noDefer_at hnd ho) hs
  · rename_i hw; rw [if_neg hw] at hs; exact ⟨fun _ _ => trivial, hs⟩

/-- At the end, from the canonical frame. -/
theorem wpAnyIn_done {listed : Array Bool} {a : Act} {w : World} (hr : Region.ready .any ops listed = []) (h : Q .normal a w) : ∀ fuel, wpAnyIn (Fence.wide.inRound l₀) nn P .any ops Q fuel listed a w
  | 0 => ⟨hr, h⟩
  | _ + 1 => ⟨fun _ => h, by rw [hr]; simp⟩
section
variable {init : List Oper} {last : Oper}
theorem last_opI (hnd : noDefer ops = true) (hsplit : ops.toList = init ++ [last]) (hg : last.guard = none) (hl : init.length ≤ V.length) {K : Act → World → Prop} {listed : Array Bool} {a : Act} {w : World}
    (hE : ∀ w, T w0 w → relyEnd (fun _ a w => last.wp P a w (fun a' w' => Q .normal a' w') Q) T init V a0 w)
    (inv : RelyInv ops T V a0 w0 listed a w) (hdone : ∀ j, j < init.length → listed.getD j false = true) (hun : listed.getD init.length true = false) (hK : ∀ a' w', Q .normal a' w' → K a' w') : wpOpIn (Fence.wide.inRound l₀) nn P ops Q init.length K a w := by
  obtain ⟨hlo, hsz, hpre⟩ := last_at hsplit
  have h1 : last.wp P a w (fun a' w' => Q .normal a' w') Q := rely_all (Q' := fun a w => last.wp P a w (fun a' w' => Q .normal a' w') Q) inv
    (fun k o hk => ⟨hpre k o hk, hdone k (List.getElem?_eq_some_iff.1 hk).1⟩) (fun j hj => by
      rcases Nat.lt_or_ge j init.length with h | h
      · exact h
      · rcases Nat.eq_or_lt_of_le h with h | h
        · subst h; rw [getD_both hun] at hj; cases hj
        · have : listed.getD j false = false := by simp [Array.getElem?_eq_none (show listed.size ≤ j by rw [inv.size]; omega)]
          rw [this] at hj; cases hj) hl (hE w inv.now)
  unfold wpOpIn
  simp only [hlo, Region.wanted, hg, if_true]
  exact wpIn_of_wp (noDefer_at hnd hlo) (Oper.wp_mono hK h1)

/-- **A region that draws its order, in the text's own order; the last operation waits for all others, and may do what it likes.** -/
theorem wpAnyIn_rely (hnd : noDefer ops = true) (hsplit : ops.toList = init ++ [last]) (hn : a0.tmps.size = n) (hB : relyB ops n 0 init D = true) (hlast : lastB ops last init.length = true) (hg : last.guard = none) (ht : ∀ a b c : World, T a b → T b c → T a c)
    (hl : init.length ≤ V.length) (hA : relyAll P Q T V a0 w0 init D V) (hE : ∀ w, T w0 w → relyEnd (fun _ a w => last.wp P a w (fun a' w' => Q .normal a' w') Q) T init V a0 w) :
    ∀ (fuel : Nat) (listed : Array Bool) (a : Act) (w : World), (unl ops listed).length = fuel → listed.getD init.length true = false → RelyInv ops T V a0 w0 listed a w → wpAnyIn (Fence.wide.inRound l₀) nn P .any ops Q fuel listed a w := by
  obtain ⟨hlo, hsz, hpre⟩ := last_at hsplit
  simp only [lastB, Bool.and_eq_true] at hlast
  have hat : ∀ i o, init[i]? = some o → ∃ dp g, relyOne ops n i o dp g = true ∧ relyStep P Q T V a0 w0 o dp g (V.getD i SV.any) := fun i o hi => by
    obtain ⟨dp, g, hD, h1⟩ := relyB_at init D 0 i o hB hi
    rw [Nat.zero_add] at h1
    exact ⟨dp, g, h1, relyAll_at _ _ _ i o dp g hA hi hD⟩
  intro fuel
  induction fuel with
  | zero =>
    intro listed a w hu hun inv
    have : init.length ∈ unl ops listed := by
      unfold unl; rw [List.mem_filter]; exact ⟨List.mem_range.2 (by omega), by rw [hun]; rfl⟩
    rw [List.eq_nil_of_length_eq_zero hu] at this
    cases this
  | succ fuel ih =>
    intro listed a w hu hun inv
    refine ⟨fun hr => ?_, fun i hi => ?_⟩
    · exfalso
      have all : ∀ i, i < init.length → listed.getD i false = true := fun i => by
        induction i using Nat.strongRecOn with
        | _ i ih =>
          intro hi
          cases hli : listed.getD i false with
          | true => rfl
          | false =>
            exfalso
            have hmem : i ∈ Region.ready .any ops listed := by
              rw [mem_ready]
              refine ⟨getD_in (by rw [inv.size]; omega) hli, init[i], hpre i _ (List.getElem?_eq_getElem hi), fun e he hb => ?_⟩
              obtain ⟨dp, g, h1, _⟩ := hat i init[i] (List.getElem?_eq_getElem hi)
              simp only [relyOne, Bool.and_eq_true] at h1
              have h2 := (Array.all_eq_true_iff_forall_mem.1 h1.1.1.2) e he
              simp only [hb, Bool.not_true, Bool.false_or, decide_eq_true_eq] at h2
              exact ih e.on h2 (by omega)
            rw [hr] at hmem
            cases hmem
      have hmem : init.length ∈ Region.ready .any ops listed := by
        rw [mem_ready]
        refine ⟨hun, last, hlo, fun e he hb => ?_⟩
        have h2 := (Array.all_eq_true_iff_forall_mem.1 hlast.2) e he
        simp only [hb, Bool.not_true, Bool.false_or, decide_eq_true_eq] at h2
        exact all e.on h2
      rw [hr] at hmem
      cases hmem
    · obtain ⟨h0, o, ho, hall⟩ := mem_ready.1 hi
      have hilt := (Array.getElem?_eq_some_iff.1 ho).1
      by_cases him : i = init.length
      · subst him
        have hol : o = last := Option.some.inj (ho.symm.trans hlo)
        subst hol
        have hdone : ∀ (d j : Nat), init.length - j = d → j < init.length → listed.getD j false = true := fun d => by
          induction d using Nat.strongRecOn with
          | _ d ihd =>
            intro j hd hj
            have h1 := List.all_eq_true.1 hlast.1 j (List.mem_range.2 hj)
            obtain ⟨t, ht1, ht2⟩ := List.any_eq_true.1 h1
            simp only [Bool.and_eq_true, decide_eq_true_eq] at ht2
            obtain ⟨ot, hot, e, he, hb, hon⟩ := Region.waitsFor_spec ht2.2
            have htle : t ≤ init.length := by have := List.mem_range.1 ht1; omega
            rw [← hon]
            by_cases htm : t = init.length
            · subst htm
              have : ot = o := Option.some.inj (hot.symm.trans ho)
              subst this
              exact hall e he hb
            · exact inv.closed t ot hot (ihd (init.length - t) (by omega) t rfl (by omega)) e he hb
        replace hdone : ∀ j, j < init.length → listed.getD j false = true := fun j hj => hdone _ j rfl hj
        refine last_opI hnd hsplit hg hl hE inv hdone hun fun a' w' h => wpAnyIn_done (ready_none fun j hj => ?_) h _
        by_cases hj2 : j = init.length
        · subst hj2; simp [show init.length < listed.size by rw [inv.size]; exact hj]
        · exact getD_set_true (hdone j (by omega))
      · have hi' : i < init.length := by omega
        have hio : init[i]? = some o := by
          have := hpre i init[i] (List.getElem?_eq_getElem hi')
          rw [ho] at this
          rw [List.getElem?_eq_getElem hi', Option.some.inj this]
        obtain ⟨dp, g, h1, hstep⟩ := hat i o hio
        refine wpOpIn_mono (fun a' w' inv' => ih _ a' w' (by have := unl_set inv.size h0; omega) (by rw [getD_set_ne true him]; exact hun) inv') (rely_opI hnd hn ht ho h1 hstep h0 hall inv)

end
section
variable {last : Oper}
/-- **A region that draws its order.** -/
theorem wpIn_region_rely {id : Nat} (T : World → World → Prop) (V : List (SV T)) (D : Deps) (n : Nat) (hnd : noDefer ops = true) (hla : ops.toList.getLast? = some last) (hm : P.follows .mixedOrders = true) (hn : a0.tmps.size = n) (hB : relyB ops n 0 ops.toList.dropLast D = true)
    (hlast : lastB ops last ops.toList.dropLast.length = true) (hg : last.guard = none) (ht : ∀ a b c : World, T a b → T b c → T a c) (hd : T w0 w0.drew) (hl : ops.toList.dropLast.length ≤ V.length)
    (hA : relyAll P Q T V a0 w0 ops.toList.dropLast D V) (hE : ∀ w, T w0 w → relyEnd (fun _ a w => last.wp P a w (fun a' w' => Q .normal a' w') Q) T ops.toList.dropLast V a0 w) : (Code.region id ops true).wpIn (Fence.wide.inRound l₀) nn P Q a0 w0 := by
  have hsplit := split_last hla
  obtain ⟨_, hsz, _⟩ := last_at hsplit
  refine wpIn_region_any hm ?_
  exact wpAnyIn_rely hnd hsplit hn hB hlast hg ht hl hA hE ops.size _ a0 w0.drew unl_start (by
    have hlt : ops.toList.dropLast.length < ops.size := by omega
    generalize ops.toList.dropLast.length = m at hlt
    simp [hlt]) (rely_start hd)
end
end
end Go.Proofs.Ytilmeffmdgcblaa
/- A range over a function whose variables are laid into new memory ahead of the body. No program is named here. -/
namespace Go.Proofs.Ytilmeffmdgcblaa
open Go.RowKit
set_option maxRecDepth 8000
set_option linter.all false

/-- **The statement 'for x := range g { .. }' by an iterator's promise; what is handed on may be laid into new memory ahead of the body.** -/
theorem range_law2 {P : Program} {α : Type} {g : Operand} {ps : Array Tmp} {assign body : Code} {Q : Exit → Act → World → Prop} {a : Act} {w : World} {n : Nat}
    {gf : Nat} {lb : Array Value} (hg : a.eval g = .func (.func gf) #[] lb) (eg : ∀ args w, (callFunc gf args).run P w = .ok (.enter gf args) w)
    {encs : α → Array Value} {Kp : World → World → Prop} {G : List α → α → World → Prop} {S Sp : List α → Prop} {w0 : World} (hseq : SeqG P gf lb encs Kp G S Sp w0) (hb0 : Below w0.heap.size w0 w)
    (hKt : ∀ {A B C : World}, Kp A B → Kp B C → Kp A C) (hKb : ∀ (W : World) (l : Nat) (o o' : Obj), w.heap.size ≤ l → W.heap[l]? = some o → o.isCells = false → Kp W (W.putObj l o'))
    (hGb : ∀ (pre : List α) (x : α) (W : World) (l : Nat) (o o' : Obj), w.heap.size ≤ l → W.heap[l]? = some o → o.isCells = false → G pre x W → G pre x (W.putObj l o'))
    (hps : ∀ x, (encs x).size = ps.size)
    (I : List α → World → Prop) (Ix : Code → List α → World → Prop) (hI : ∀ pre A B, I pre A → Below w.heap.size A B → I pre B) (hIx : ∀ c pre A B, Ix c pre A → Below w.heap.size A B → Ix c pre B) (h0 : I [] w) (As : α → Act → World → Prop)
    (hKn : ∀ A B : World, Below A.heap.size A B → Kp A B) (hGn : ∀ pre x A B, G pre x A → Below A.heap.size A B → G pre x B)
    (hAs : ∀ (x : α) (a1 : Act) (W : World) (l : Nat) (o o' : Obj), w.heap.size ≤ l → W.heap[l]? = some o → o.isCells = false → As x a1 W → As x a1 (W.putObj l o'))
    (hassign : ∀ (l : Nat) (x : α) (W : World) (K : Act → World → Prop), (∀ a1 W', Below W.heap.size W W' → As x a1 W' → K a1 W') →
      assign.wpIn (Fence.wide.inRound l) 0 P (Exit.then K (fun _ _ _ => False)) { tmps := (ps.zip (encs x)).foldl (fun t (p, v) => t.setIfInBounds p v) a.tmps, defers := [] } W)
    (hbody : ∀ (l : Nat) (pre : List α) (x : α) (a1 : Act) (W : World), w.heap.size ≤ l → I pre W → G pre x W → As x a1 W → body.wpIn (Fence.wide.inRound l) 0 P (ownPostG w.heap.size Kp I Ix (pre ++ [x]) W) a1 W)
    (hdone : ∀ (D : Nat) (xs : List α) (W : World), w.heap.size ≤ D → S xs → I xs W → W.heap[D]? = some (.deferred (some [])) → Q .normal { a with defers := { target := .collected D, args := #[] } :: a.defers } W)
    (hstop : ∀ (D : Nat) (c : Code) (pre : List α) (W : World), w.heap.size ≤ D → Sp pre → Ix c pre W → W.heap[D]? = some (.deferred (some [])) → c.wpIn Fence.wide n P Q { a with defers := { target := .collected D, args := #[] } :: a.defers } W) :
    (Code.rangeFunc g ps assign body).wpIn Fence.wide n P Q a w := by
  refine wpIn_rangeFunc ?_
  intro fn hfn
  obtain ⟨rec, hrec⟩ : ∃ rec : LoopState → Option Code → Loop, rec = fun st pe => { state := st, pending := pe, fn, tmps := a.tmps, params := ps, assign, body, defers := w.heap.size } := ⟨_, rfl⟩
  obtain ⟨W1, hW1⟩ : ∃ W1, (w.alloc (.deferred (some []))).alloc (.loop (rec .ready none)) = W1 := ⟨_, rfl⟩
  have hsz : W1.heap.size = w.heap.size + 2 := by rw [← hW1]; simp
  have hL1 : W1.heap[w.heap.size + 1]? = some (.loop (rec .ready none)) := by
    rw [← hW1]; have := World.alloc_heap_new (w.alloc (.deferred (some []))) (.loop (rec .ready none)); rwa [World.size_alloc] at this
  have hK1 : W1.heap[w.heap.size]? = some (.deferred (some [])) := by
    rw [← hW1]; exact (Below.heap_alloc _ _ _ (by simp)).trans (World.alloc_heap_new w _)
  have hbw : Below w.heap.size w W1 := by rw [← hW1]; exact ((Below.refl _ w).alloc (Nat.le_refl _) _).alloc (by simp) _
  have put : ∀ (W : World) (l : Nat) (o o' : Obj), w.heap.size ≤ l → W.heap[l]? = some o → Below w.heap.size W (W.putObj l o') := fun W l o o' hl h =>
    ⟨rfl, rfl, rfl, by simp, fun k hk => World.putObj_heap_other (by omega)⟩
  refine ⟨w.heap.size + 1, [{ target := .collected w.heap.size, args := #[] }], W1, { target := .fn (.func gf) lb, args := #[.func (.yield (w.heap.size + 1)) #[] #[]] }, W1, gf,
    #[.func (.yield (w.heap.size + 1)) #[] #[]] ++ lb, W1, ?_, ?_, fun _ _ => trivial, ?_, fun h => by simp [Fence.wide] at h, ?_⟩
  · rw [← hW1, hrec]; exact run_enterLoop_outer _ _ _ _ _
  · simp only [resolve, hg]
    simp [go_sem]
  · simp [invoke, go_sem, eg]
  · have hcall := hseq (w.heap.size + 1)
      (fun pre W => I pre W ∧ W.heap[w.heap.size + 1]? = some (.loop (rec .ready none)) ∧ W.heap[w.heap.size]? = some (.deferred (some [])))
      (fun pre W => ∃ c, Ix c pre W ∧ W.heap[w.heap.size + 1]? = some (.loop (rec .done (some c))) ∧ W.heap[w.heap.size]? = some (.deferred (some [])))
      W1 (hb0.trans (hbw.mono hb0.size))
      (fun pre A B hs hB => ⟨hI pre A B hs.1 (hB.mono (by omega)), (hB.block _ (by omega)).trans hs.2.1, (hB.block _ (by omega)).trans hs.2.2⟩)
      (fun pre A B hs hB => by
        obtain ⟨c, hc, hl, hk⟩ := hs
        exact ⟨c, hIx c pre A B hc (hB.mono (by omega)), (hB.block _ (by omega)).trans hl, (hB.block _ (by omega)).trans hk⟩)
      ?_ ⟨hI _ _ _ h0 hbw, hL1, hK1⟩
    · have hcall' : CallsIn Fence.wide (n - 1) P gf (#[.func (.yield (w.heap.size + 1)) #[] #[]] ++ lb) W1 _ := callsIn_wide.2 (callsIn_wide.1 hcall)
      refine hcall'.mono ?_
      rintro e W2 ⟨⟨v, rfl⟩, (⟨xs, hS, hi, hl, hk⟩ | ⟨pre, hSp, c, hi, hl, hk⟩)⟩
      · exact ⟨none, _, by have := run_endLoop (P := P) hl (by rw [hrec]; simp); rw [hrec] at this; exact this, hdone _ xs _ (Nat.le_refl _) hS (hI _ _ _ hi (put _ _ _ _ (by omega) hl)) ((World.putObj_heap_other (by omega)).trans hk)⟩
      · exact ⟨some c, _, by have := run_endLoop (P := P) hl (by rw [hrec]; simp); rw [hrec] at this; exact this, hstop _ c pre _ (Nat.le_refl _) hSp (hIx _ _ _ _ hi (put _ _ _ _ (by omega) hl)) ((World.putObj_heap_other (by omega)).trans hk)⟩
    · rintro pre x W0 ⟨hi, hl, hk⟩ hG
      have hlt : w.heap.size + 1 < W0.heap.size := (Array.getElem?_eq_some_iff.1 hl).1
      have hy := run_yield (P := P) (args := encs x) hl (by rw [hrec]; exact hps x)
      rw [hrec] at hy
      refine ⟨fn, _, assign, body, hy, roundIn_of_wpIn hfn (hassign _ x W0 _ ?_)⟩
      clear hy
      intro a1 W hB0 hA
      have kp0 := hKn _ _ hB0
      have kf0 : KeepsFrom W1.heap.size W0 W := (keepsOthers_below hB0).from _
      replace hi := hI _ _ _ hi (hB0.mono (by omega))
      replace hl := (hB0.block _ hlt).trans hl
      replace hk := (hB0.block _ (by omega)).trans hk
      replace hG := hGn _ _ _ _ hG hB0
      replace hlt : w.heap.size + 1 < W.heap.size := Nat.lt_of_lt_of_le hlt hB0.size
      clear hB0
      refine ⟨_, run_beginRound hl (by rw [hrec]), ?_⟩
      have hl2 : (W.putObj (w.heap.size + 1) (.loop { rec .ready none with state := .busy })).heap[w.heap.size + 1]? = some (.loop { rec .ready none with state := .busy }) := World.putObj_heap_same hlt
      have hk2 : (W.putObj (w.heap.size + 1) (.loop { rec .ready none with state := .busy })).heap[w.heap.size]? = some (.deferred (some [])) := (World.putObj_heap_other (by omega)).trans hk
      have hw2 : Kp W (W.putObj (w.heap.size + 1) (.loop { rec .ready none with state := .busy })) := hKb _ _ _ _ (by omega) hl rfl
      refine wpIn_mono (hbody _ pre x a1 _ (by omega) (hI _ _ _ hi (put _ _ _ _ (by omega) hl)) (hGb _ _ _ _ _ _ (by omega) hl rfl hG) (hAs _ _ _ _ _ _ (by omega) hl rfl hA)) ?_
      have fin : ∀ (jump : Option Code) (W3 : World), KeepsFrom w.heap.size (W.putObj (w.heap.size + 1) (.loop { rec .ready none with state := .busy })) W3 →
          (Instr.endRound (w.heap.size + 1) jump).run P W3 = .ok (.bool jump.isNone) (W3.putObj (w.heap.size + 1) (.loop (rec (if jump.isNone then .ready else .done) jump))) ∧
          W3.heap[w.heap.size + 1]? = some (.loop { rec .ready none with state := .busy }) ∧
          (W3.putObj (w.heap.size + 1) (.loop (rec (if jump.isNone then .ready else .done) jump))).heap[w.heap.size + 1]? = some (.loop (rec (if jump.isNone then .ready else .done) jump)) ∧
          (W3.putObj (w.heap.size + 1) (.loop (rec (if jump.isNone then .ready else .done) jump))).heap[w.heap.size]? = some (.deferred (some [])) := fun jump W3 hk3 => by
        have hl3 := hk3.same _ _ (by omega) hl2 rfl
        have := run_endRound (P := P) jump hl3
        rw [hrec] at this ⊢
        exact ⟨this, by rw [hrec] at hl3; exact hl3, World.putObj_heap_same (Array.getElem?_eq_some_iff.1 hl3).1, (World.putObj_heap_other (by omega)).trans (hk3.same _ _ (Nat.le_refl _) hk2 rfl)⟩
      have whole : ∀ (W3 : World) (o : Obj), KeepsFrom w.heap.size (W.putObj (w.heap.size + 1) (.loop { rec .ready none with state := .busy })) W3 → KeepsFrom W1.heap.size W (W3.putObj (w.heap.size + 1) o) := fun W3 o hk3 =>
        ((keepsFrom_low _ (by omega)).trans (keepsFrom_mono hk3 (by omega))).trans (keepsFrom_low _ (by omega))
      rintro e a3 W3 hp
      cases e with
      | normal =>
        obtain ⟨hk3, hkp3, hi3⟩ := hp
        obtain ⟨hr, hl3, hl4, hk4⟩ := fin none W3 hk3
        exact ⟨_, _, hr, .inl ⟨rfl, ⟨hI _ _ _ hi3 (put _ _ _ _ (by omega) hl3), hl4, hk4⟩, hKt kp0 (hKt (hKt hw2 hkp3) (hKb _ _ _ _ (by omega) hl3 rfl)), kf0.trans (whole _ _ hk3)⟩⟩
      | ret =>
        obtain ⟨hk3, hi3⟩ := hp
        obtain ⟨hr, hl3, hl4, hk4⟩ := fin (some .ret) W3 hk3
        exact ⟨_, _, hr, .inr ⟨rfl, ⟨.ret, hIx _ _ _ _ hi3 (put _ _ _ _ (by omega) hl3), hl4, hk4⟩, kf0.trans (whole _ _ hk3)⟩⟩
      | exit id =>
        obtain ⟨hk3, hi3⟩ := hp
        obtain ⟨hr, hl3, hl4, hk4⟩ := fin (some (.exit id)) W3 hk3
        exact ⟨_, _, hr, .inr ⟨rfl, ⟨.exit id, hIx _ _ _ _ hi3 (put _ _ _ _ (by omega) hl3), hl4, hk4⟩, kf0.trans (whole _ _ hk3)⟩⟩
      | goto t =>
        obtain ⟨hk3, hi3⟩ := hp
        obtain ⟨hr, hl3, hl4, hk4⟩ := fin (some (.goto t)) W3 hk3
        exact ⟨_, _, hr, .inr ⟨rfl, ⟨.goto t, hIx _ _ _ _ hi3 (put _ _ _ _ (by omega) hl3), hl4, hk4⟩, kf0.trans (whole _ _ hk3)⟩⟩
      | panic ch => exact hp.elim
      | outgrown => exact hp.elim
end Go.Proofs.Ytilmeffmdgcblaa
/- A law of our own for a range over a function whose rounds make memory that lasts: the iterator turns one variable of its own and makes new memory; rounds may write whatever stood when the iterator went on, but for the iterator's. No program is named here. -/
namespace Go.Proofs.Ytilmeffmdgcblaa
open Go.RowKit
set_option maxRecDepth 8000
set_option linter.all false

/-- An iterator's step: its variable (block g) and new memory alone. -/
structure ItS (g : Nat) (A B : World) : Prop where
  below : Below g A B
  keep : ∀ (k : Nat) (o : Obj), k ≠ g → A.heap[k]? = some o → B.heap[k]? = some o
theorem ItS.refl (g : Nat) (A : World) : ItS g A A := ⟨Below.refl _ _, fun _ _ _ h => h⟩
theorem ItS.trans {g : Nat} {A B C : World} (h : ItS g A B) (k : ItS g B C) : ItS g A C := ⟨h.below.trans k.below, fun i o hi ho => k.keep i o hi (h.keep i o hi ho)⟩
theorem ItS.new {g : Nat} {A B : World} (hg : g ≤ A.heap.size) (h : Below A.heap.size A B) : ItS g A B :=
  ⟨h.mono hg, fun k _ _ ho => (h.block k (Array.getElem?_eq_some_iff.1 ho).1).trans ho⟩
theorem ItS.but {g : Nat} {A B : World} (h : ItS g A B) : KeepBut [g] A B := ⟨h.below.size, fun k o hk ho _ => h.keep k o (by simpa using hk) ho⟩
theorem ItS.of {g : Nat} {A B : World} (hb : Below g A B) (h : KeepBut [g] A B) (hk : KeepsOthers A B) : ItS g A B :=
  ⟨hb, fun k o hkg ho => by
    cases hc : o.isCells with
    | true => exact h.2 k o (by simpa using hkg) ho hc
    | false => exact hk.same k o ho hc⟩
/-- What a round may write: blocks that stood when the iterator went on (in A), but for the iterator's variable and the blocks pb. -/
def KpM (pb : List Nat) (ga : Nat) (A W W' : World) : Prop := ∃ M : List Nat, (∀ k ∈ M, k < A.heap.size ∧ k ≠ ga ∧ k ∉ pb) ∧ KeepBut M W W'
theorem KpM.left {pb : List Nat} {ga : Nat} {A W V W' : World} (h : KpM pb ga A V W') (k : KeepBut [] W V) : KpM pb ga A W W' := by
  obtain ⟨M, h1, h2⟩ := h; exact ⟨M, h1, (k.more (by simp)).trans h2⟩
theorem KpM.right {pb : List Nat} {ga : Nat} {A W V W' : World} (h : KpM pb ga A W V) (k : KeepBut [] V W') : KpM pb ga A W W' := by
  obtain ⟨M, h1, h2⟩ := h; exact ⟨M, h1, h2.trans (k.more (by simp))⟩
/-- What such an iterator promises. 'G pre x A W': what it tells of x, that it hands on behind pre in the world W, having gone on in the world A. -/
def SeqK {α : Type} (P : Program) (g : Nat) (lb : Array Value) (encs : α → Array Value) (pb : List Nat) (G : List α → α → World → World → Prop) (S : List α → Prop) (w : World) : Prop :=
  ∀ (l : Nat) (J : List α → World → Prop) (W : World), Below w.heap.size w W →
    (∀ pre A B, J pre A → ItS W.heap.size A B → J pre B) →
    (∀ pre x A W1, J pre A → W.heap.size < A.heap.size → ItS W.heap.size A W1 → G pre x A W1 → YieldAt Fence.wide 0 P l (encs x) W1 fun e W' =>
      e = .returned (.bool true) ∧ J (pre ++ [x]) W' ∧ KpM pb W.heap.size A W1 W' ∧ KeepsFrom W.heap.size W1 W') →
    J [] W →
    CallsIn Fence.wide 0 P g (#[.func (.yield l) #[] #[]] ++ lb) W fun e W' => (∃ v, e = .returned v) ∧ ∃ xs, S xs ∧ J xs W'

/-- **The statement 'for x := range g { .. }' by such an iterator's promise; its variables are laid into new memory ahead of the body, and every round goes on.** -/
theorem range_law3 {P : Program} {α : Type} {g : Operand} {ps : Array Tmp} {assign body : Code} {Q : Exit → Act → World → Prop} {a : Act} {w : World} {n : Nat}
    {gf : Nat} {lb : Array Value} (hg : a.eval g = .func (.func gf) #[] lb) (eg : ∀ args w, (callFunc gf args).run P w = .ok (.enter gf args) w)
    {encs : α → Array Value} {pb : List Nat} {G : List α → α → World → World → Prop} {S : List α → Prop} {w0 : World} (hseq : SeqK P gf lb encs pb G S w0) (hb0 : Below w0.heap.size w0 w)
    (hGb : ∀ (pre : List α) (x : α) (A W W' : World), G pre x A W → KeepBut [] W W' → G pre x A W')
    (hps : ∀ x, (encs x).size = ps.size)
    (I : List α → World → Prop) (hI : ∀ pre A B, I pre A → ItS (w.heap.size + 2) A B → I pre B)
    (hIp : ∀ pre A l o o', w.heap.size ≤ l → A.heap[l]? = some o → o.isCells = false → I pre A → I pre (A.putObj l o'))
    (h0 : ∀ W1, Below w.heap.size w W1 → I [] W1) (As : α → Act → World → Prop)
    (hAs : ∀ (x : α) (a1 : Act) (W : World) (l : Nat) (o o' : Obj), w.heap.size ≤ l → W.heap[l]? = some o → o.isCells = false → As x a1 W → As x a1 (W.putObj l o'))
    (hassign : ∀ (l : Nat) (x : α) (W : World) (K : Act → World → Prop), (∀ a1 W', Below W.heap.size W W' → As x a1 W' → K a1 W') →
      assign.wpIn (Fence.wide.inRound l) 0 P (Exit.then K (fun _ _ _ => False)) { tmps := (ps.zip (encs x)).foldl (fun t (p, v) => t.setIfInBounds p v) a.tmps, defers := [] } W)
    (hbody : ∀ (l : Nat) (pre : List α) (x : α) (a1 : Act) (A W : World), w.heap.size ≤ l → w.heap.size + 2 < A.heap.size → I pre A → I pre W → KeepBut [w.heap.size + 2] A W → Below w.heap.size A W → G pre x A W → As x a1 W →
      body.wpIn (Fence.wide.inRound l) 0 P (fun e _ W' => e = .normal ∧ KeepsFrom w.heap.size W W' ∧ KpM pb (w.heap.size + 2) A W W' ∧ I (pre ++ [x]) W') a1 W)
    (hdone : ∀ (D : Nat) (xs : List α) (W : World), w.heap.size ≤ D → S xs → I xs W → W.heap[D]? = some (.deferred (some [])) → Q .normal { a with defers := { target := .collected D, args := #[] } :: a.defers } W) :
    (Code.rangeFunc g ps assign body).wpIn Fence.wide n P Q a w := by
  refine wpIn_rangeFunc ?_
  intro fn hfn
  obtain ⟨rec, hrec⟩ : ∃ rec : LoopState → Option Code → Loop, rec = fun st pe => { state := st, pending := pe, fn, tmps := a.tmps, params := ps, assign, body, defers := w.heap.size } := ⟨_, rfl⟩
  obtain ⟨W1, hW1⟩ : ∃ W1, (w.alloc (.deferred (some []))).alloc (.loop (rec .ready none)) = W1 := ⟨_, rfl⟩
  have hsz : W1.heap.size = w.heap.size + 2 := by rw [← hW1]; simp
  have hL1 : W1.heap[w.heap.size + 1]? = some (.loop (rec .ready none)) := by
    rw [← hW1]; have := World.alloc_heap_new (w.alloc (.deferred (some []))) (.loop (rec .ready none)); rwa [World.size_alloc] at this
  have hK1 : W1.heap[w.heap.size]? = some (.deferred (some [])) := by
    rw [← hW1]; exact (Below.heap_alloc _ _ _ (by simp)).trans (World.alloc_heap_new w _)
  have hbw : Below w.heap.size w W1 := by rw [← hW1]; exact ((Below.refl _ w).alloc (Nat.le_refl _) _).alloc (by simp) _
  refine ⟨w.heap.size + 1, [{ target := .collected w.heap.size, args := #[] }], W1, { target := .fn (.func gf) lb, args := #[.func (.yield (w.heap.size + 1)) #[] #[]] }, W1, gf,
    #[.func (.yield (w.heap.size + 1)) #[] #[]] ++ lb, W1, ?_, ?_, fun _ _ => trivial, ?_, fun h => by simp [Fence.wide] at h, ?_⟩
  · rw [← hW1, hrec]; exact run_enterLoop_outer _ _ _ _ _
  · simp only [resolve, hg]
    simp [go_sem]
  · simp [invoke, go_sem, eg]
  · have hcall := hseq (w.heap.size + 1)
      (fun pre W => I pre W ∧ W.heap[w.heap.size + 1]? = some (.loop (rec .ready none)) ∧ W.heap[w.heap.size]? = some (.deferred (some [])) ∧ w.heap.size + 2 ≤ W.heap.size)
      W1 (hb0.trans (hbw.mono hb0.size))
      (fun pre A B hs hB => by
        rw [hsz] at hB
        exact ⟨hI pre A B hs.1 hB, hB.keep _ _ (by omega) hs.2.1, hB.keep _ _ (by omega) hs.2.2.1, Nat.le_trans hs.2.2.2 hB.below.size⟩)
      ?_ ⟨h0 _ hbw, hL1, hK1, by omega⟩
    · have hcall' : CallsIn Fence.wide (n - 1) P gf (#[.func (.yield (w.heap.size + 1)) #[] #[]] ++ lb) W1 _ := callsIn_wide.2 (callsIn_wide.1 hcall)
      refine hcall'.mono ?_
      rintro e W2 ⟨⟨v, rfl⟩, xs, hS, hi, hl, hk, _⟩
      exact ⟨none, _, by have := run_endLoop (P := P) hl (by rw [hrec]; simp); rw [hrec] at this; exact this, hdone _ xs _ (Nat.le_refl _) hS (hIp _ _ _ _ _ (by omega) hl rfl hi) ((World.putObj_heap_other (by omega)).trans hk)⟩
    · rintro pre x A W0 ⟨hiA, hlA, hkA, hszA⟩ hszB hAW hG
      rw [hsz] at hAW hszB ⊢
      have hi : I pre W0 := hI _ _ _ hiA hAW
      have hl := hAW.keep _ _ (by omega) hlA
      have hk := hAW.keep _ _ (by omega) hkA
      have hlt : w.heap.size + 1 < W0.heap.size := (Array.getElem?_eq_some_iff.1 hl).1
      have hge : w.heap.size + 2 ≤ W0.heap.size := Nat.le_trans hszA hAW.below.size
      have hy := run_yield (P := P) (args := encs x) hl (by rw [hrec]; exact hps x)
      rw [hrec] at hy
      refine ⟨fn, _, assign, body, hy, roundIn_of_wpIn hfn (hassign _ x W0 _ ?_)⟩
      clear hy
      intro a1 W hB0 hA
      have kp0 : KeepBut [] W0 W := KeepBut.below hB0
      have kf0 : KeepsFrom (w.heap.size + 2) W0 W := (keepsOthers_below hB0).from _
      have hAW1 : ItS (w.heap.size + 2) A W := hAW.trans (ItS.new hge hB0)
      replace hi : I pre W := hI _ _ _ hiA hAW1
      replace hl := (hB0.block _ hlt).trans hl
      replace hk := (hB0.block _ (by omega)).trans hk
      replace hG := hGb _ _ _ _ _ hG kp0
      replace hlt : w.heap.size + 1 < W.heap.size := Nat.lt_of_lt_of_le hlt hB0.size
      clear hB0
      refine ⟨_, run_beginRound hl (by rw [hrec]), ?_⟩
      have hl2 : (W.putObj (w.heap.size + 1) (.loop { rec .ready none with state := .busy })).heap[w.heap.size + 1]? = some (.loop { rec .ready none with state := .busy }) := World.putObj_heap_same hlt
      have hk2 : (W.putObj (w.heap.size + 1) (.loop { rec .ready none with state := .busy })).heap[w.heap.size]? = some (.deferred (some [])) := (World.putObj_heap_other (by omega)).trans hk
      have hw2 : ∀ L, KeepBut L W (W.putObj (w.heap.size + 1) (.loop { rec .ready none with state := .busy })) := fun L => KeepBut.putObj hl rfl
      refine wpIn_mono (hbody _ pre x a1 A _ (by omega) hszB hiA (hIp _ _ _ _ _ (by omega) hl rfl hi) (hAW1.but.trans (hw2 _)) ((hAW1.below.mono (by omega)).trans (below_putObj (by omega) _)) (hGb _ _ _ _ _ hG (hw2 [])) (hAs _ _ _ _ _ _ (by omega) hl rfl hA)) ?_
      rintro e a3 W3 ⟨rfl, hk3, hkp3, hi3⟩
      have hl3 := hk3.same _ _ (by omega) hl2 rfl
      have hr : (Instr.endRound (w.heap.size + 1) none).run P W3 = .ok (.bool (none : Option Code).isNone) (W3.putObj (w.heap.size + 1) (.loop (rec .ready none))) := by
        have := run_endRound (P := P) none hl3
        rw [hrec] at this ⊢
        exact this
      have hk4 : (W3.putObj (w.heap.size + 1) (.loop (rec .ready none))).heap[w.heap.size]? = some (.deferred (some [])) := (World.putObj_heap_other (by omega)).trans (hk3.same _ _ (Nat.le_refl _) hk2 rfl)
      have hl4 : (W3.putObj (w.heap.size + 1) (.loop (rec .ready none))).heap[w.heap.size + 1]? = some (.loop (rec .ready none)) := World.putObj_heap_same (Array.getElem?_eq_some_iff.1 hl3).1
      refine ⟨_, _, hr, rfl, ⟨hIp _ _ _ _ _ (by omega) hl3 rfl hi3, hl4, hk4, ?_⟩, ((hkp3.left (hw2 [])).left kp0).right (KeepBut.putObj hl3 rfl), kf0.trans (((keepsFrom_low _ (by omega)).trans (keepsFrom_mono hk3 (by omega))).trans (keepsFrom_low _ (by omega)))⟩
      have := hk3.size
      simp at this ⊢
      have := hAW1.below.size
      omega
end Go.Proofs.Ytilmeffmdgcblaa
/- Operations of an iterator's own body, gone through one by one. No program is named here. -/
namespace Go.Proofs.Ytilmeffmdgcblaa
open Go Go.RowKit
set_option maxRecDepth 8000
set_option linter.all false
theorem wpIn_of_wpW {P : Program} {o : Oper} {a : Act} {w : World} {K : Act → World → Prop} {Q : Exit → Act → World → Prop} {nn : Nat} (hnd : ∀ c, o.op ≠ .defer c) (h : o.wp P a w K Q) : o.wpIn Fence.wide nn P a w K Q := by
  refine ⟨fun _ _ => trivial, ?_⟩
  rw [Oper.semAt_eq _ _ _ hnd]
  unfold Oper.wp at h
  generalize (execOp a.eval o).run P w = r at *
  cases r with
  | ok x w' =>
    cases x <;> simp only [Oper.upon] at h <;> simp only [Oper.uponIn]
    case enter f args => exact ⟨fun hd => by simp [Fence.wide] at hd, callsIn_wide.2 h⟩
    case row r args => exact ⟨fun hd => by simp [Fence.wide] at hd, rowsIn_w h⟩
    all_goals exact h
  | halt x w' =>
    cases x <;> simp only [Oper.upon] at h <;> simp only [Oper.uponIn]
    exact h
section
variable {P : Program} {ops : Array Oper} {Q : Exit → Act → World → Prop} {nn : Nat}
theorem wpListIn_wpW {a : Act} {w : World} {o : Oper} {l : List Oper} (hnd : noDefer ops = true) (hm : o ∈ ops) (hg : o.guard = none) (h : ∀ K : Act → World → Prop, (∀ a w, wpListIn Fence.wide nn P ops Q l a w → K a w) → o.wp P a w K Q) : wpListIn Fence.wide nn P ops Q (o :: l) a w :=
  wpListIn_plain hg fun K hK => wpIn_of_wpW (fun c e => by
    have := Array.all_eq_true_iff_forall_mem.1 hnd o hm
    rw [e] at this; cases this) (h K hK)
theorem wpListIn_gW {a : Act} {w : World} {o : Oper} {l : List Oper} (hnd : noDefer ops = true) (hm : o ∈ ops) (hw : Region.wanted o (yielded ops a.tmps) = true) (h : ∀ K : Act → World → Prop, (∀ a w, wpListIn Fence.wide nn P ops Q l a w → K a w) → o.wp P a w K Q) : wpListIn Fence.wide nn P ops Q (o :: l) a w :=
  wpListIn_step fun K hK => by
    rw [if_pos hw]
    exact wpIn_of_wpW (fun c e => by
      have := Array.all_eq_true_iff_forall_mem.1 hnd o hm
      rw [e] at this; cases this) (h K hK)
theorem wpListIn_endW {a : Act} {w : World} {l : List Oper} (hl : l = []) (h : Q .normal a w) : wpListIn Fence.wide nn P ops Q l a w := by subst hl; exact h
end
theorem opr_mvV {P : Program} {a : Act} {w : World} {o : Oper} {K : Act → World → Prop} {Q : Exit → Act → World → Prop} {x : Operand} {v : Value} (ho : o.op = .move x ∨ o.op = .assign x) (hv : a.eval x = v) (h : K (a.put o.dst v) w) : o.wp P a w K Q := by
  subst hv; exact opr_move ho h
theorem opr_putmW {P : Program} {a : Act} {w : World} {o : Oper} {K : Act → World → Prop} {Q : Exit → Act → World → Prop} {t t' : TypeId} {x y : Operand} {g o0 n m : Nat} {f f0 F : Nat → Value} (ho : o.op = .store t x y) (hx : a.eval x = .pointer (some ⟨g, o0, none⟩)) (hy : a.eval y = .agg (rowA m f)) (hr : w.rowIs g t' n f0) (hm : o0 + m ≤ n) (hi : (P.info? t).map (·.size) = some m) (hone : ∀ i, (f i).oneCell' = true)
    (hF : ∀ i, i < n → F i = if o0 ≤ i ∧ i < o0 + m then f (i - o0) else f0 i) (h : ∀ w', RT g w w' → KeepsOthers w w' → w'.rowIs g t' n F → K (a.put o.dst undef) w') : o.wp P a w K Q := by
  refine wp_store_mid t x y ho g o0 (rowA m f) hx hy (by rw [rowA_size]; exact fun j hj => ⟨by simp [hr.cell (i := o0 + j) (by omega)], by simpa using hr.frozen (o0 + j)⟩) (by rw [rowA_size]; exact hi) (rowA_one _ _ hone) ?_
  refine h _ (RT.setCells _ _ _) (keepsOthers_setCells _ _ _ _) ((rowIs_setCells_at hr (rowA m f).toList o0).congr fun i hi => ?_)
  rw [hF i hi, rowA_toList]
  simp only [List.length_map, List.length_range]
  by_cases h : o0 ≤ i ∧ i < o0 + m
  · rw [if_pos h, if_pos h]
    simp [show i - o0 < m by omega]
  · rw [if_neg h, if_neg h]
end Go.Proofs.Ytilmeffmdgcblaa
/- Package saga: steps from the last one on; which step is undone next; which one's call is due. -/
namespace Go.Proofs.Ytilmeffmdgcblaa
open Go Go.RowKit Go.Shelf
attribute [local go_sem] Oper.semAt_some
set_option maxRecDepth 8000
set_option linter.all false
theorem lastT_some {f : Nat → Bool} {i : Nat} (hi : f i = true) : ∀ {n : Nat}, i < n → (∀ j, i < j → j < n → f j = false) → lastT f n = some i
  | 0, h, _ => by omega
  | n + 1, h, hn => by
    unfold lastT
    by_cases e : i = n
    · subst e; rw [if_pos hi]
    · rw [if_neg (by rw [hn n (by omega) (by omega)]; simp)]
      exact lastT_some hi (by omega) fun j h1 h2 => hn j h1 (by omega)
theorem lastT_none {f : Nat → Bool} : ∀ {n : Nat}, (∀ j, j < n → f j = false) → lastT f n = none
  | 0, _ => rfl
  | n + 1, h => by
    unfold lastT
    rw [if_neg (by rw [h n (by omega)]; simp)]
    exact lastT_none fun j hj => h j (by omega)
/-- What the iterator hands on: each step with its place, the last one first. -/
def downL (l : List (Int × Int)) (k : Nat) : List (Nat × (Int × Int)) := (List.range k).map fun q => (l.length - 1 - q, l.getD (l.length - 1 - q) (0, 0))
theorem downL_len (l : List (Int × Int)) (k : Nat) : (downL l k).length = k := by simp [downL]
theorem downL_succ (l : List (Int × Int)) (k : Nat) : downL l (k + 1) = downL l k ++ [(l.length - 1 - k, l.getD (l.length - 1 - k) (0, 0))] := by
  unfold downL
  rw [List.range_succ, List.map_append]; rfl
set_option maxHeartbeats 400000 in
theorem fromLast_any (A0 : Option Addr) (n c : Nat) (w : World) : Calls Try.prog 78 #[.slice A0 n c] w fun e w' => e = .returned (.func (.func 79) #[] #[.pointer (some ⟨w.heap.size, 0, none⟩)]) ∧ w.alloc (.cells #[.slice A0 n c] 43) = w' := by
  go_enter Try.func78, Try.ntmps78
  go_wp2
  go_ret
  exact ⟨rfl, rfl⟩
set_option maxHeartbeats 2000000 in
theorem fromLast1_seq (pb : Nat) (sv : Value) (l : List (Int × Int)) (w : World) (hbox : w.cell? ⟨pb, 0, none⟩ = some sv) (hs : RdP w sv l) (hl : l.length ≤ 100000) :
    SeqG Try.prog 79 #[.pointer (some ⟨pb, 0, none⟩)] (fun x : Nat × (Int × Int) => #[.int .i64 (x.1 : Int), .agg (rowA 2 (stepF x.2))]) (KeepBut []) (fun pre x _ => pre = downL l (l.length - 1 - x.1) ∧ l.getD x.1 (0, 0) = x.2 ∧ x.1 < l.length) (fun xs => xs = downL l l.length) (fun _ => True) w := by
  intro lp J Jx W hW hJ hJx hY h0
  have HBX := Lib.hid (KeepBut.cell (KeepBut.below (L := []) hW) (by simp) hbox)
  have hs' := (NewT.of hW).pairs hs
  obtain ⟨A0, c, rfl, h1, h2, h3⟩ := hs'
  have H3 := Lib.hid h3
  have bx0 : W.cell? ⟨pb, 0, none⟩ = some (.slice A0 l.length c) := HBX.out
  have hl1 : l.length ≤ 100000 := hl
  clear hs hbox h3
  refine callsIn_of_wp Try.func79 rfl trivial ?_ rfl
  simp only [Try.ntmps79, List.size_toArray, List.length_cons, List.length_nil, Nat.reduceAdd, Nat.reduceSub, Array.replicate_succ, Array.replicate_zero, List.push_toArray, List.append_toArray, List.nil_append, List.cons_append]
  gi_wp2
  gi_loopw [3] (fun i wr => ∃ k : Nat, k ≤ l.length ∧ i = .int .i64 ((l.length : Int) - 1 - (k : Int)) ∧ J (downL l k) wr ∧ KeepBut [] W wr) (fun i _ => (intOf i + 1).toNat)
  case atStart => exact ⟨0, by omega, by rw [Int.natCast_zero, Int.sub_zero], h0, KeepBut.refl _ _⟩
  case round =>
    clear bx0
    obtain ⟨k, hk, rfl, hJs, hKs⟩ := hrel
    by_cases hlt : k < l.length
    · obtain ⟨j, hj⟩ : ∃ j, l.length - 1 - k = j := ⟨_, rfl⟩
      have hjj : (l.length : Int) - 1 - (k : Int) = (j : Int) := by omega
      have hjl : j < l.length := by omega
      rw [hjj]
      obtain ⟨b, o, rfl, hcell⟩ := H3.out (by omega)
      obtain ⟨d, hd⟩ : ∃ d, l.getD j (0, 0) = d := ⟨_, rfl⟩
      have HD := Lib.hid hd
      have hc := hcell j hjl
      rw [hd] at hc
      have C0 : Hid (wr.cell? ⟨b, o + 2 * j, none⟩ = some (.int .i64 d.1)) := Lib.hid (hKs.cell (a := ⟨b, o + 2 * j, none⟩) (by simp) hc.1)
      have C1 : Hid (wr.cell? ⟨b, o + 2 * j + 1, none⟩ = some (.int .i64 d.2)) := Lib.hid (hKs.cell (a := ⟨b, o + 2 * j + 1, none⟩) (by simp) hc.2)
      have CB : Hid (wr.cell? ⟨pb, 0, none⟩ = some (.slice (some ⟨b, o, none⟩) l.length c)) := Lib.hid (hKs.cell (a := ⟨pb, 0, none⟩) (by simp) HBX.out)
      have it : (0 : Int) ≤ (j : Int) := by omega
      have hy0 := hY (downL l k) (j, d) wr hJs ⟨by rw [show l.length - 1 - (j, d).1 = k by show l.length - 1 - j = k; omega], hd, hjl⟩
      obtain ⟨fn, tmps, assign, body, hy, hR⟩ := hy0
      have HR := Lib.hid hR
      clear hR hcell hc hd
      gi_upto_region 3 with fail
      refine wpIn_region_lit ?_
      refine wpListIn_wpW (by kernel_rfl) (by simp) rfl (fun K hK => ?_)
      refine opr_mvV (.inl rfl) rfl (hK _ _ ?_)
      clear hK K
      simp only [Act.put, List.setIfInBounds_toArray, List.set_cons_zero, List.set_cons_succ]
      refine wpListIn_wpW (by kernel_rfl) (by simp) rfl (fun K hK => ?_)
      refine opr_mvV (.inl rfl) rfl (hK _ _ ?_)
      clear hK K
      simp only [Act.put, List.setIfInBounds_toArray, List.set_cons_zero, List.set_cons_succ]
      refine wpListIn_wpW (by kernel_rfl) (by simp) rfl (fun K hK => ?_)
      refine opr_ld1 Try.underlying43 rfl rfl rfl CB.out (hK _ _ ?_)
      clear hK K
      simp only [Act.put, List.setIfInBounds_toArray, List.set_cons_zero, List.set_cons_succ]
      refine wpListIn_wpW (by kernel_rfl) (by simp) rfl (fun K hK => ?_)
      refine opr_mvV (.inl rfl) rfl (hK _ _ ?_)
      clear hK K
      simp only [Act.put, List.setIfInBounds_toArray, List.set_cons_zero, List.set_cons_succ]
      refine wpListIn_wpW (by kernel_rfl) (by simp) rfl (fun K hK => ?_)
      refine opr_idxS hjl rfl rfl rfl (hK _ _ ?_)
      clear hK K
      simp only [Act.put, List.setIfInBounds_toArray, List.set_cons_zero, List.set_cons_succ]
      refine wpListIn_wpW (by kernel_rfl) (by simp) rfl (fun K hK => ?_)
      refine opr_ld2 (s := d) C0.out C1.out rfl rfl (hK _ _ ?_)
      clear hK K
      simp only [Act.put, List.setIfInBounds_toArray, List.set_cons_zero, List.set_cons_succ]
      gi_wp2
      refine ⟨rfl, HR.out.mono ?_⟩
      rintro e W3 (⟨rfl, hJ3, hk3, _⟩ | ⟨rfl, hJx3, _⟩)
      · gi_wp2
        go_roundw
        case rel => exact ⟨k + 1, by omega, by first | go_num | (congr 1; omega), by rw [downL_succ, hj, HD.out]; exact hJ3, hKs.trans hk3⟩
        case measure => simp [intOf] <;> omega
      · gi_wp2
        refine bodyPost_ret (results_none rfl _ _ _) rfl ?_
        exact ⟨⟨_, rfl⟩, .inr ⟨_, trivial, hJx3⟩⟩
    · obtain rfl : k = l.length := by omega
      have it : ((l.length : Int) - 1 - (l.length : Int)) = -1 := by omega
      rw [it]
      gi_wp2
      refine bodyPost_end (results_none rfl _ _ _) rfl ?_
      exact ⟨⟨_, rfl⟩, .inl ⟨_, rfl, hJs⟩⟩
theorem results_vv {P : Program} {w : World} {fn : Func} {tmps : Array Value} {p q : Tmp} {tp tq t t' : TypeId} {d d' : TypeDesc} {b b' : Nat} {u v : Value} (hf : fn.results = #[.cell p tp, .cell q tq]) (hp : tmps.getD p undef = .pointer (some ⟨b, 0, none⟩)) (hq : tmps.getD q undef = .pointer (some ⟨b', 0, none⟩))
    (h : w.rowIs b t 1 (fun _ => u)) (h' : w.rowIs b' t' 1 (fun _ => v)) (hu : P.underlying tp = some d) (hd : d.isRow = false) (hu' : P.underlying tq = some d') (hd' : d'.isRow = false) : (results fn tmps).run P w = .ok (.tuple #[u, v]) w := by
  have e1 := run_ldV_one (P := P) h hu hd
  have e2 := run_ldV_one (P := P) h' hu' hd'
  have hp' : tmps[p]?.getD undef = .pointer (some ⟨b, 0, none⟩) := by simpa using hp
  have hq' : tmps[q]?.getD undef = .pointer (some ⟨b', 0, none⟩) := by simpa using hq
  simp [results, hf, hp', hq', asAddr, e1, e2]
theorem opr_put1O {P : Program} {a : Act} {w : World} {o : Oper} {K : Act → World → Prop} {Q : Exit → Act → World → Prop} {t t' : TypeId} {x y : Operand} {g o0 n : Nat} {v : Value} {f0 F : Nat → Value} (ho : o.op = .store t x y) (hx : a.eval x = .pointer (some ⟨g, o0, none⟩)) (hy : a.eval y = v) (hr : w.rowIs g t' n f0) (hm : o0 < n) (hi : (P.info? t).map (·.size) = some 1) (hone : v.oneCell' = true)
    (hF : ∀ i, i < n → F i = if i = o0 then v else f0 i) (h : ∀ w', RT g w w' → KeepsOthers w w' → w'.rowIs g t' n F → K (a.put o.dst undef) w') : o.wp P a w K Q := by
  obtain ⟨dst, op, type, pos, after, guard⟩ := o
  simp only at ho
  subst ho
  have hsz : (sizeOf t).run P w = .ok 1 w := by
    cases hq : P.info? t with
    | none => simp [hq] at hi
    | some i => simp [hq] at hi; simp [sizeOf, typeInfo, hq, hi]
  have hc := hr.cell hm
  have hf := hr.frozen o0
  have hcs : v.cells = #[v] := by cases v <;> first | rfl | simp [Value.oneCell'] at hone
  refine opr_unit (s := Instr.storeAt t (a.eval x) (a.eval y)) (w' := w.setCell ⟨g, o0, none⟩ v) rfl ?_ (h _ (RT.setCell w o0 v) (KeepsOthers.setCell w _ v) ((hr.set o0 v).congr fun i hi => by rw [hF i hi]))
  rw [hx, hy]
  simp [Instr.storeAt, Instr.sureAddr, storeVar, hsz, hcs, storeCells, run_store _ _ _ _ _ hone, hc, hf, Addr.add_zero']
theorem wpList_new1 {P : Program} {ops : Array Oper} {rest : List Oper} {a : Act} {w : World} {Q : Exit → Act → World → Prop} {o1 o2 : Oper} {t : TypeId} {d0 : Nat} {y : Operand} {v v0 : Value} (hg1 : o1.guard = none) (hg2 : o2.guard = none) (h1 : o1.op = .alloc t) (hd : o1.dst = some d0) (h2 : o2.op = .store t (.tmp d0) y) (hd2 : o2.dst = none) (hlt : d0 < a.tmps.size)
    (hal : ∀ w : World, (Instr.alloc t true (.tuple #[])).run P w = .ok (.pointer (some ⟨w.heap.size, 0, none⟩)) (w.alloc (.cells (rowA 1 (fun _ => v0)) t))) (hi : (P.info? t).map (·.size) = some 1) (hone : v.oneCell' = true)
    (hy : (a.put (some d0) (.pointer (some ⟨w.heap.size, 0, none⟩))).eval y = v) (h : ∀ w', NewT w w' → w'.rowIs w.heap.size t 1 (fun _ => v) → wpList P ops Q rest (a.put (some d0) (.pointer (some ⟨w.heap.size, 0, none⟩))) w') : wpList P ops Q (o1 :: o2 :: rest) a w := by
  refine wpList_plain hg1 fun K hK => ?_
  obtain ⟨dst, op, type, pos, after, guard⟩ := o1
  simp only at h1 hd
  subst h1 hd
  refine opr_val (s := Instr.alloc t true (.tuple #[])) rfl (hal w) (hK _ _ ?_)
  have hr := rowIs_box w t 1 (fun _ => v0)
  refine wpList_put1 (o0 := 0) (n := 1) (F := fun _ => v) hg2 h2 hd2 (by rw [eval_tmp]; simp [Act.put, hlt]) hy hr (by decide) hi hone (fun i hi => by rw [if_pos (by omega)]) ?_
  intro w' hB hr'
  exact h w' (NewT.of ((NewT.alloc w _).out.trans (hB _ (Nat.le_refl _)))) hr'
theorem row_putO {W : World} {b n l : Nat} {t : TypeId} {f : Nat → Value} (h : W.rowIs b t n f) (hne : b ≠ l) (o : Obj) : (W.putObj l o).rowIs b t n f := h.of_block (World.putObj_heap_other hne)
theorem run_alloc_int (w : World) : (Instr.alloc 3 true (.tuple #[])).run Try.prog w = .ok (.pointer (some ⟨w.heap.size, 0, none⟩)) (w.alloc (.cells (rowA 1 (fun _ => .int .i64 0)) 3)) := by kernel_rfl
def TInv (l : List (Int × Int)) (op : Int) (g2 g3 g4 : Nat) (w : World) (pre : List (Nat × (Int × Int))) (V : World) : Prop :=
  (∀ q, q < pre.length → isTg l op (l.length - 1 - q) = false) ∧ V.rowIs g2 3 1 (fun _ => .int .i64 0) ∧ V.rowIs g3 4 1 (fun _ => .bool false) ∧ V.rowIs g4 3 1 (fun _ => .int .i64 op) ∧ NewT w V
def TStop (l : List (Int × Int)) (op : Int) (g2 g3 : Nat) (w : World) (c : Code) (V : World) : Prop :=
  c = .ret ∧ ∃ i : Nat, lastT (isTg l op) l.length = some i ∧ V.rowIs g2 3 1 (fun _ => .int .i64 (i : Int)) ∧ V.rowIs g3 4 1 (fun _ => .bool true) ∧ NewT w V
set_option maxHeartbeats 4000000 in
theorem target_any (A0 : Option Addr) (c : Nat) (l : List (Int × Int)) (g : Sg) (w : World) (hs : RdP w (.slice A0 l.length c) l) (hl : l.length ≤ 6) : Calls Try.prog 76 #[.agg (rowA 10 (sgF (.slice A0 l.length c) g))] w fun e w' => e = .returned (.tuple #[.int .i64 (oI (tgtO l g)), .bool (tgtO l g).isSome]) ∧ Below w.heap.size w w' := by
  have HS := Lib.hid hs
  have HL6 := Lib.hid hl
  have HL : Hid (l.length ≤ 100000) := Lib.hid (by omega)
  clear hs hl
  refine (callsIn_wide (n := 0)).1 ?_
  refine callsIn_of_wp_marks Try.func76 rfl trivial ?_ rfl
  simp only [Try.ntmps76, List.size_toArray, List.length_cons, List.length_nil, Nat.reduceAdd, Nat.reduceSub, Array.replicate_succ, Array.replicate_zero, List.push_toArray, List.append_toArray, List.nil_append, List.cons_append]
  gi_upto_region 1 with fail
  have r_g1 := ((rowIs_box w 48 10 (sgF (.slice A0 l.length c) g)).alloc (.cells (rowA 1 (fun _ => .int .i64 0)) 3)).alloc (.cells (rowA 1 (fun _ => .bool false)) 4)
  have r_g2 := (rowIs_box (w.alloc (.cells (rowA 10 (sgF (.slice A0 l.length c) g)) 48)) 3 1 (fun _ => .int .i64 0)).alloc (.cells (rowA 1 (fun _ => .bool false)) 4)
  rw [World.size_alloc] at r_g2
  have r_g3 := rowIs_box ((w.alloc (.cells (rowA 10 (sgF (.slice A0 l.length c) g)) 48)).alloc (.cells (rowA 1 (fun _ => .int .i64 0)) 3)) 4 1 (fun _ => .bool false)
  rw [World.size_alloc, World.size_alloc] at r_g3
  have hN : NewT w (((w.alloc (.cells (rowA 10 (sgF (.slice A0 l.length c) g)) 48)).alloc (.cells (rowA 1 (fun _ => .int .i64 0)) 3)).alloc (.cells (rowA 1 (fun _ => .bool false)) 4)) := (NewT.trans _ _ _ ((NewT.trans _ _ _ (NewT.alloc _ _) (NewT.alloc _ _))) (NewT.alloc _ _))
  change Code.wpIn _ _ _ _ _ _ (((w.alloc (.cells (rowA 10 (sgF (.slice A0 l.length c) g)) 48)).alloc (.cells (rowA 1 (fun _ => .int .i64 0)) 3)).alloc (.cells (rowA 1 (fun _ => .bool false)) 4))
  generalize (((w.alloc (.cells (rowA 10 (sgF (.slice A0 l.length c) g)) 48)).alloc (.cells (rowA 1 (fun _ => .int .i64 0)) 3)).alloc (.cells (rowA 1 (fun _ => .bool false)) 4)) = W0 at r_g1 r_g2 r_g3 hN ⊢
  obtain ⟨g1, h_g1⟩ : ∃ g_, w.heap.size = g_ := ⟨_, rfl⟩
  obtain ⟨g2, h_g2⟩ : ∃ g_, w.heap.size + 1 = g_ := ⟨_, rfl⟩
  obtain ⟨g3, h_g3⟩ : ∃ g_, w.heap.size + 1 + 1 = g_ := ⟨_, rfl⟩
  have HG : Hid (w.heap.size ≤ g1 ∧ g1 < g2 ∧ g2 < g3) := Lib.hid (by omega)
  rw [h_g1] at r_g1
  rw [h_g2] at r_g2
  rw [h_g3] at r_g3
  try rw [h_g3]
  try rw [h_g2]
  simp only [h_g1]
  have Rg1 := Lib.hid r_g1
  have Rg2 := Lib.hid r_g2
  have Rg3 := Lib.hid r_g3
  have HM := Lib.hid hN
  clear r_g1 r_g2 r_g3 hN h_g1 h_g2 h_g3
  refine wpIn_wide.2 ?_
  refine wp_region_steps0 NewT [SV.eq (.pointer (some ⟨g1, 6, none⟩)), SV.eq (.int .i64 (g.dn)), SV.eq (.pointer (some ⟨g1, 8, none⟩)), SV.eq (.int .i64 (g.so)), SV.eq (.int .i64 (orI g.dn g.so)), SV.eq (.pointer (some ⟨g1, 7, none⟩)), SV.eq (.int .i64 (g.un)), SV.eq (.int .i64 (notI (orI g.dn g.so) g.un))] [([(1, none)], none), ([(7, some 0)], none), ([(1, none)], none), ([(9, some 2)], none), ([(8, some 1), (10, some 3)], none), ([(1, none)], none), ([(12, some 5)], none), ([(11, some 4), (13, some 6)], none)] 31 8 rfl rfl (by kernel_rfl) NewT.trans (NewT.refl _) (Nat.le_of_ble_eq_true rfl) ⟨?_, ?_, ?_, ?_, ?_, ?_, ?_, ?_, trivial⟩ ?_
  · exact fun a wx hT hF K hK => rely_wp rfl (opr_fldU6 rfl hF.1 (hK _ _ (NewT.refl _) rfl))
  · exact fun a wx hT hF K hK => rely_wp rfl (opr_ldI (hT.row Rg1.out) (by decide) rfl rfl hF.1 (hK _ _ (NewT.refl _) rfl))
  · exact fun a wx hT hF K hK => rely_wp rfl (opr_fldU8 rfl hF.1 (hK _ _ (NewT.refl _) rfl))
  · exact fun a wx hT hF K hK => rely_wp rfl (opr_ldI (hT.row Rg1.out) (by decide) rfl rfl hF.1 (hK _ _ (NewT.refl _) rfl))
  · exact fun a wx hT hF K hK => rely_wp rfl (opr_orI rfl hF.1 hF.2.1 (hK _ _ (NewT.refl _) rfl))
  · exact fun a wx hT hF K hK => rely_wp rfl (opr_fldU7 rfl hF.1 (hK _ _ (NewT.refl _) rfl))
  · exact fun a wx hT hF K hK => rely_wp rfl (opr_ldI (hT.row Rg1.out) (by decide) rfl rfl hF.1 (hK _ _ (NewT.refl _) rfl))
  · exact fun a wx hT hF K hK => rely_wp rfl (opr_notI rfl hF.1 hF.2.1 (hK _ _ (NewT.refl _) rfl))
  · intro w1 k1
    iterate 8 (intro u h; obtain rfl := Eq.symm (h (by simp)); clear h)
    refine relyEnd_nil rfl ?_
    simp only [Act.put, List.setIfInBounds_toArray, List.set_cons_zero, List.set_cons_succ]
    refine wpList_new1 (v := .int .i64 (notI (orI g.dn g.so) g.un)) rfl rfl rfl rfl rfl rfl (by first | (simp; done) | simp [Act.put]) run_alloc_int info_i1 rfl rfl ?_
    intro W1 hn1 rr1
    refine wpList_end rfl ?_
    simp only [Act.put, List.setIfInBounds_toArray, List.set_cons_zero, List.set_cons_succ]
    go_simp
    obtain ⟨g4, h_g4⟩ : ∃ g_, w1.heap.size = g_ := ⟨_, rfl⟩
    rw [h_g4] at rr1
    simp only [h_g4]
    have HGg4 : Hid (g1 < g4 ∧ g2 < g4 ∧ g3 < g4 ∧ w.heap.size ≤ g4) := Lib.hid (by rw [← h_g4]; exact ⟨(k1.row Rg1.out).lt, (k1.row Rg2.out).lt, (k1.row Rg3.out).lt, (NewT.trans _ _ _ HM.out k1).out.size⟩)
    have q1 := NewT.trans _ _ _ k1 hn1
    clear k1 hn1 h_g4
    replace Rg1 := Lib.hid (q1.row Rg1.out)
    replace Rg2 := Lib.hid (q1.row Rg2.out)
    replace Rg3 := Lib.hid (q1.row Rg3.out)
    replace HM := Lib.hid (NewT.trans _ _ _ HM.out q1)
    clear q1
    have Rg4 := Lib.hid rr1
    clear rr1
    have hop : (notI (orI g.dn g.so) g.un) = opnI g := rfl
    rw [hop] at Rg4
    have c0 : W1.cell? ⟨g1, 0, none⟩ = some (.slice A0 l.length c) := Rg1.out.cell (i := 0) (by omega)
    gi_wp2_with fail
    refine ⟨trivial, rfl, (callsIn_wide.2 (fromLast_any A0 l.length c _)).mono ?_⟩
    rintro e W3 ⟨rfl, hW3⟩
    clear c0 hop
    have bC : W3.cell? ⟨W1.heap.size, 0, none⟩ = some (.slice A0 l.length c) := by
      rw [← hW3]
      have := one_cell W1 (.slice A0 l.length c) 43 0 _ rfl
      rw [Addr.add_zero'] at this
      exact this
    have hB3 : NewT W1 W3 := by rw [← hW3]; exact NewT.alloc _ _
    obtain ⟨pb, hpb⟩ : ∃ pb, W1.heap.size = pb := ⟨_, rfl⟩
    rw [hpb] at bC ⊢
    have q2 := hB3.row Rg2.out
    have q3 := hB3.row Rg3.out
    have q4 := hB3.row Rg4.out
    have HM3 := Lib.hid (NewT.trans _ _ _ HM.out hB3)
    have seq := fromLast1_seq pb (.slice A0 l.length c) l W3 bC (HM3.out.pairs HS.out) HL.out
    have hlt2 := q2.lt
    have hlt3 := q3.lt
    have hlt4 := q4.lt
    have HGS : Hid (g2 < W3.heap.size ∧ g3 < W3.heap.size ∧ g4 < W3.heap.size) := Lib.hid ⟨hlt2, hlt3, hlt4⟩
    clear bC hpb hW3
    gi_wp2_with fail
    refine range_law2 (n := 0) (gf := 79) (lb := #[.pointer (some ⟨pb, 0, none⟩)]) rfl (enters_of Try.func79 (by kernel_rfl) rfl) seq (Below.refl _ _) KeepBut.trans (fun V k o o' _ h hc => KeepBut.putObj h hc)
      (fun _ x V k o o' _ h hc hG => hG) (fun _ => rfl)
      (TInv l (opnI g) g2 g3 g4 w) (fun c _ V => TStop l (opnI g) g2 g3 w c V)
      (fun pre A B h hb => ⟨h.1, rowIs_below h.2.1 hb HGS.out.1, rowIs_below h.2.2.1 hb HGS.out.2.1, rowIs_below h.2.2.2.1 hb HGS.out.2.2, NewT.of (h.2.2.2.2.out.trans (hb.mono HM3.out.out.size))⟩)
      (fun c pre A B h hb => by obtain ⟨h1, i, h2, h3, h4, h5⟩ := h; exact ⟨h1, i, h2, rowIs_below h3 hb HGS.out.1, rowIs_below h4 hb HGS.out.2.1, NewT.of (h5.out.trans (hb.mono HM3.out.out.size))⟩)
      ⟨fun q hq => (by cases hq), q2, q3, q4, HM3.out⟩
      (fun x a1 V => ∃ p, a1 = { tmps := #[.agg (rowA 10 (sgF (.slice A0 l.length c) g)), .pointer (some ⟨g1, 0, none⟩), .pointer (some ⟨g2, 0, none⟩), .pointer (some ⟨g3, 0, none⟩), .pointer (some ⟨g4, 0, none⟩), .int .i64 (x.1 : Int), .pointer (some ⟨p, 0, none⟩), .pointer (some ⟨g1, 6, none⟩), .int .i64 g.dn, .pointer (some ⟨g1, 8, none⟩), .int .i64 g.so, .int .i64 (orI g.dn g.so), .pointer (some ⟨g1, 7, none⟩), .int .i64 g.un, .int .i64 (notI (orI g.dn g.so) g.un), .pointer (some ⟨g1, 0, none⟩), .slice A0 l.length c, .func (.func 79) #[] #[.pointer (some ⟨pb, 0, none⟩)], .int .i64 (x.1 : Int), .agg (rowA 2 (stepF x.2)), undef, undef, undef, undef, undef, undef, undef, undef, undef, undef, undef], defers := [] } ∧ V.rowIs p 58 2 (stepF x.2))
      (fun A B h => KeepBut.below h) (fun _ _ _ _ h _ => h) (fun x a1 V k o o' _ h hc hA => by obtain ⟨p, h1, h2⟩ := hA; exact ⟨p, h1, (KeepBut.putObj (L := []) h hc).row (by simp) h2⟩) ?assign ?body ?done ?stop
    case assign =>
      intro l2 x V K hK
      gi_upto_region 4 with fail
      refine wpIn_region_lit ?_
      refine wpListIn_wp (by kernel_rfl) (by simp) rfl (fun K hK => ?_)
      refine opr_val (s := Instr.alloc 58 true (.tuple #[])) rfl (run_alloc_step V) (hK _ _ ?_)
      clear hK K
      refine wpListIn_wp (by kernel_rfl) (by simp) rfl (fun K hK => ?_)
      refine opr_putmW (f := stepF x.2) (F := stepF x.2) rfl rfl rfl (rowIs_box V 58 2 (stepF (0, 0))) (by decide) info_step (stepF_one _) (put_allN _ _ _) ?_
      intro w9 hR9 hK9 r9
      refine hK _ _ ?_
      clear hK K
      refine wpListIn_end rfl ?_
      simp only [Act.put, List.setIfInBounds_toArray, List.set_cons_zero, List.set_cons_succ]
      go_simp
      exact hK _ _ ((NewT.alloc _ _).out.trans (hR9.below.mono (Nat.le_refl _))) ⟨V.heap.size, rfl, r9⟩
    case body =>
      rintro l2 pre ⟨i, d⟩ a1 V hl2 ⟨hno, hV2, hV3, hV4, hNV⟩ ⟨hpre, hd, hlt⟩ ⟨p, rfl, hp⟩
      simp only at hpre hd hlt hp ⊢
      have HNO := Lib.hid hno
      have V2 := Lib.hid hV2
      have V3 := Lib.hid hV3
      have V4 := Lib.hid hV4
      have VP := Lib.hid hp
      have HNV := Lib.hid hNV
      have HPRE := Lib.hid hpre
      have HDD := Lib.hid hd
      have HI6 : Hid (0 ≤ (i : Int) ∧ (i : Int) < 6) := Lib.hid (by have := HL6.out; omega)
      have HIL := Lib.hid hlt
      clear hno hV2 hV3 hV4 hp hNV hpre hd
      gi_upto_region 5 with fail
      refine wpIn_region_rely (NewT) [SV.eq (.pointer (some ⟨p, 0 + 1, none⟩)), SV.eq (.int .i64 (d.2)), SV.eq (.bool (d.2 == 1)), SV.eq (.bool (d.2 == 1)), svIf (d.2 == 1) (SV.eq (.int .i64 (opnI g))), svIf (d.2 == 1) (SV.eq (.int .i64 ((i : Int)))), svIf (d.2 == 1) (SV.eq (.int .i64 (bitI ((i : Int))))), svIf (d.2 == 1) (SV.eq (.int .i64 (andI (opnI g) (bitI ((i : Int)))))), svIf (d.2 == 1) (SV.eq (.bool ((andI (opnI g) (bitI ((i : Int)))) != 0)))] [([(6, none)], none), ([(20, some 0)], none), ([(21, some 1)], none), ([(22, some 2)], none), ([(4, none), (23, some 3)], some (23, true)), ([(5, none), (23, some 3)], some (23, true)), ([(25, some 5), (23, some 3)], some (23, true)), ([(24, some 4), (26, some 6), (23, some 3)], some (23, true)), ([(27, some 7), (23, some 3)], some (23, true))] 31 (by kernel_rfl) rfl (by kernel_rfl) rfl (by kernel_rfl) (by kernel_rfl) rfl NewT.trans (NewT.drew _) (Nat.le_of_ble_eq_true rfl) ⟨?_, ?_, ?_, ?_, ?_, ?_, ?_, ?_, ?_, trivial⟩ ?_
      · intro a wx hT hF K hK
        obtain ⟨f6, _⟩ := hF
        have f6 : a.tmps.getD 6 undef = .pointer (some ⟨p, 0, none⟩) := f6
        refine rely_wp rfl ?_
        exact opr_fldS (by decide) rfl f6 (hK _ _ (NewT.refl _) rfl)
      · intro a wx hT hF K hK
        obtain ⟨f20, _⟩ := hF
        have f20 : a.tmps.getD 20 undef = .pointer (some ⟨p, 0 + 1, none⟩) := f20
        refine rely_wp rfl ?_
        exact opr_ldI (hT.row VP.out) (by decide) rfl rfl f20 (hK _ _ (NewT.refl _) rfl)
      · intro a wx hT hF K hK
        obtain ⟨f21, _⟩ := hF
        have f21 : a.tmps.getD 21 undef = .int .i64 (d.2) := f21
        refine rely_wp rfl ?_
        exact opr_cmp (b := d.2 == 1) (.inl ⟨rfl, rfl⟩) Try.underlying3 rfl f21 rfl (hK _ _ (NewT.refl _) rfl)
      · intro a wx hT hF K hK
        obtain ⟨f22, _⟩ := hF
        have f22 : a.tmps.getD 22 undef = .bool (d.2 == 1) := f22
        refine rely_wp rfl ?_
        exact opr_move (.inl rfl) (hK _ _ (NewT.refl _) f22)
      · intro a wx hT hF K hK
        obtain ⟨f4, f23, _⟩ := hF
        have f4 : a.tmps.getD 4 undef = .pointer (some ⟨g4, 0, none⟩) := f4
        have f23 : a.tmps.getD 23 undef = .bool (d.2 == 1) := f23
        refine rely_if (rely_gt f23) (NewT.refl _) hK (fun hE hK => ?_)
        exact opr_ldI (hT.row V4.out) (by decide) rfl rfl f4 (hK _ _ (NewT.refl _) rfl)
      · intro a wx hT hF K hK
        obtain ⟨f5, f23, _⟩ := hF
        have f5 : a.tmps.getD 5 undef = .int .i64 ((i : Int)) := f5
        have f23 : a.tmps.getD 23 undef = .bool (d.2 == 1) := f23
        refine rely_if (rely_gt f23) (NewT.refl _) hK (fun hE hK => ?_)
        exact opr_move (.inl rfl) (hK _ _ (NewT.refl _) f5)
      · intro a wx hT hF K hK
        obtain ⟨f25, f23, _⟩ := hF
        have f25 : (d.2 == 1) = true → a.tmps.getD 25 undef = .int .i64 ((i : Int)) := f25
        have f23 : a.tmps.getD 23 undef = .bool (d.2 == 1) := f23
        refine rely_if (rely_gt f23) (NewT.refl _) hK (fun hE hK => ?_)
        exact opr_cv (gBit_cv ((i : Int)) wx (HI6.out)) rfl Try.func65 (by kernel_rfl) (by kernel_rfl) (by simp only [List.map_toArray, List.map_cons, List.map_nil, eval_tmp, (f25 hE)]) hK
      · intro a wx hT hF K hK
        obtain ⟨f24, f26, f23, _⟩ := hF
        have f24 : (d.2 == 1) = true → a.tmps.getD 24 undef = .int .i64 (opnI g) := f24
        have f26 : (d.2 == 1) = true → a.tmps.getD 26 undef = .int .i64 (bitI ((i : Int))) := f26
        have f23 : a.tmps.getD 23 undef = .bool (d.2 == 1) := f23
        refine rely_if (rely_gt f23) (NewT.refl _) hK (fun hE hK => ?_)
        exact opr_andI rfl (f24 hE) (f26 hE) (hK _ _ (NewT.refl _) rfl)
      · intro a wx hT hF K hK
        obtain ⟨f27, f23, _⟩ := hF
        have f27 : (d.2 == 1) = true → a.tmps.getD 27 undef = .int .i64 (andI (opnI g) (bitI ((i : Int)))) := f27
        have f23 : a.tmps.getD 23 undef = .bool (d.2 == 1) := f23
        refine rely_if (rely_gt f23) (NewT.refl _) hK (fun hE hK => ?_)
        exact opr_cmp (b := (andI (opnI g) (bitI ((i : Int)))) != 0) (.inr (.inl ⟨rfl, rfl⟩)) Try.underlying3 rfl (f27 hE) rfl (hK _ _ (NewT.refl _) rfl)
      · intro w5 k5
        iterate 4 (intro u h; obtain rfl := Eq.symm (h (by simp)); clear h)
        iterate 4 (intro _ _)
        intro u28 h; have g28 := h (by simp); clear h; replace g28 := show (svIf (d.2 == 1) (SV.eq (.bool ((andI (opnI g) (bitI ((i : Int)))) != 0)))).pred u28 w5 from g28
        refine relyEnd_nil rfl ?_
        simp only [Act.put, List.setIfInBounds_toArray, List.set_cons_zero, List.set_cons_succ]
        refine opr_pick_and (b := d.2 == 1) (e := (andI (opnI g) (bitI ((i : Int)))) != 0) rfl rfl (fun hb => g28 hb) ?_
        go_simp
        have HTG : Hid (isTg l (opnI g) i = ((d.2 == 1) && (andI (opnI g) (bitI (i : Int)) != 0))) := Lib.hid (by unfold isTg kdL; rw [HDD.out])
        replace V2 := Lib.hid (k5.row V2.out)
        replace V3 := Lib.hid (k5.row V3.out)
        replace V4 := Lib.hid (k5.row V4.out)
        replace HNV := Lib.hid (NewT.trans _ _ _ HNV.out k5)
        cases hq : ((d.2 == 1) && (andI (opnI g) (bitI (i : Int)) != 0))
        · gi_wp2
          refine ⟨(keepsOthers_below k5.out).from _, KeepBut.below k5.out, fun q hq2 => ?_, V2.out, V3.out, V4.out, HNV.out⟩
          rw [List.length_append, List.length_singleton] at hq2
          by_cases hqe : q < pre.length
          · exact HNO.out q hqe
          · have e : q = pre.length := by omega
            have e2 := HPRE.out
            have e3 : pre.length = l.length - 1 - i := by rw [e2, downL_len]
            rw [show l.length - 1 - q = i by omega, HTG.out, hq]
        · gi_upto_region 6 with fail
          refine wpIn_region_lit ?_
          refine wpListIn_wp (by kernel_rfl) (by simp) rfl (fun K hK => ?_)
          refine opr_mvV (.inl rfl) rfl (hK _ _ ?_)
          clear hK K
          simp only [Act.put, List.setIfInBounds_toArray, List.set_cons_zero, List.set_cons_succ]
          refine wpListIn_wp (by kernel_rfl) (by simp) rfl (fun K hK => ?_)
          refine opr_put1O (g := g2) (o0 := 0) (v := .int .i64 (i : Int)) (F := fun _ => .int .i64 (i : Int)) rfl rfl rfl V2.out (by decide) info_i1 rfl (fun j hj => by rw [if_pos (by omega)]) ?_
          intro wa hRa hKa ra
          refine hK _ _ ?_
          clear hK K
          simp only [Act.put, List.setIfInBounds_toArray, List.set_cons_zero, List.set_cons_succ]
          refine wpListIn_wp (by kernel_rfl) (by simp) rfl (fun K hK => ?_)
          refine opr_put1O (g := g3) (o0 := 0) (v := .bool true) (F := fun _ => .bool true) rfl rfl rfl (hRa.row (by have h_0 := HG.out; have h_1 := HGg4.out; omega) V3.out) (by decide) info_b1 rfl (fun j hj => by rw [if_pos (by omega)]) ?_
          intro wb hRb hKb rb
          refine hK _ _ ?_
          clear hK K
          refine wpListIn_end rfl ?_
          simp only [Act.put, List.setIfInBounds_toArray, List.set_cons_zero, List.set_cons_succ]
          go_simp
          gi_wp2
          refine ⟨((keepsOthers_below k5.out).trans (hKa.trans hKb)).from _, rfl, i, lastT_some (by rw [HTG.out, hq]) HIL.out (fun j h1 h2 => ?_), hRb.row (by have h_0 := HG.out; have h_1 := HGg4.out; omega) ra, rb, (HNV.out.rt hRa (by have h_0 := HG.out; have h_1 := HGg4.out; omega)).rt hRb (by have h_0 := HG.out; have h_1 := HGg4.out; omega)⟩
          have e3 : pre.length = l.length - 1 - i := by rw [HPRE.out, downL_len]
          have := HNO.out (l.length - 1 - j) (by omega)
          rwa [show l.length - 1 - (l.length - 1 - j) = j by omega] at this
    case done =>
      rintro D xs V hD hS' ⟨hno, hV2, hV3, hV4, hNV⟩ hK
      have HE : Hid (tgtO l g = none) := Lib.hid (lastT_none fun j hj => by
        have e : xs.length = l.length := by rw [hS', downL_len]
        have := hno (l.length - 1 - j) (by omega)
        rwa [show l.length - 1 - (l.length - 1 - j) = j by omega] at this)
      have V2 := Lib.hid hV2
      have V3 := Lib.hid hV3
      have HNV := Lib.hid hNV
      have HKD := Lib.hid hK
      clear hno hV2 hV3 hV4 hNV hK hS'
      gi_upto_region 7 with fail
      refine wpIn_wide.2 ?_
      refine wp_region_lit ?_
      refine wpList_plain rfl (fun K hK => ?_)
      refine opr_put1O (g := g2) (o0 := 0) (v := .int .i64 0) (F := fun _ => .int .i64 0) rfl rfl rfl V2.out (by decide) info_i1 rfl (fun j hj => by rw [if_pos (by omega)]) ?_
      intro wa hRa hKa ra
      refine hK _ _ ?_
      clear hK K
      simp only [Act.put, List.setIfInBounds_toArray, List.set_cons_zero, List.set_cons_succ]
      refine wpList_plain rfl (fun K hK => ?_)
      refine opr_put1O (g := g3) (o0 := 0) (v := .bool false) (F := fun _ => .bool false) rfl rfl rfl (hRa.row (by have h_0 := HG.out; have h_1 := HGg4.out; omega) V3.out) (by decide) info_b1 rfl (fun j hj => by rw [if_pos (by omega)]) ?_
      intro wb hRb hKb rb
      refine hK _ _ ?_
      clear hK K
      refine wpList_end rfl ?_
      simp only [Act.put, List.setIfInBounds_toArray, List.set_cons_zero, List.set_cons_succ]
      go_simp
      gi_wp2
      have hK2 := (hKa.trans hKb).same D _ HKD.out rfl
      refine ⟨by simp, .inl ⟨_, _, rfl, run_takeDeferred hK2, ?_⟩⟩
      have hDs : g2 < D ∧ g3 < D := by have := HGS.out; omega
      refine ⟨_, results_vv rfl rfl rfl (row_putO (hRb.row (by have h_0 := HG.out; have h_1 := HGg4.out; omega) ra) (by omega) _) (row_putO rb (by omega) _) Try.underlying3 rfl Try.underlying4 rfl, ?_, ?_⟩
      · rw [HE.out]; rfl
      · exact ((HNV.out.rt hRa (by have h_0 := HG.out; have h_1 := HGg4.out; omega)).rt hRb (by have h_0 := HG.out; have h_1 := HGg4.out; omega)).out.trans (below_putObj (by have := HM3.out.out.size; omega) _)
    case stop =>
      rintro D c0 pre2 V hD _ ⟨rfl, i, hE, hV2, hV3, hNV⟩ hK
      have HE : Hid (tgtO l g = some i) := Lib.hid hE
      clear hE
      gi_wp2
      refine ⟨by simp, .inl ⟨_, _, rfl, run_takeDeferred hK, ?_⟩⟩
      have hDs : g2 < D ∧ g3 < D := by have := HGS.out; omega
      refine ⟨_, results_vv rfl rfl rfl (row_putO hV2 (by omega) _) (row_putO hV3 (by omega) _) Try.underlying3 rfl Try.underlying4 rfl, ?_, ?_⟩
      · rw [HE.out]; rfl
      · exact hNV.out.trans (below_putObj (by have := HM3.out.out.size; omega) _)
theorem target_cv (sv : Value) (l : List (Int × Int)) (g : Sg) (w : World) (hs : RdP w sv l) (hl : l.length ≤ 6) : Cv 76 #[.agg (rowA 10 (sgF sv g))] w (.eq (.tuple #[.int .i64 (oI (tgtO l g)), .bool (tgtO l g).isSome])) := by
  obtain ⟨A0, c, rfl, h1, h2, h3⟩ := hs
  exact Cv.of_eq (target_any A0 c l g w ⟨A0, c, rfl, h1, h2, h3⟩ hl)
end Go.Proofs.Ytilmeffmdgcblaa
/- Sagas' numbers, as the program reckons, and how they stand: what is due, whether a record goes, and the saga behind it, of a saga that went by records from its beginning. -/
namespace Go.Proofs.Ytilmeffmdgcblaa
open Go Go.RowKit
set_option maxRecDepth 8000
set_option linter.all false
theorem bits_tg : ∀ (a : Fin 7) (p : Bool) (t r : Fin 8) (i : Fin 6), (andI (notI (orI ((2 ^ a.val - 1 : Nat) : Int) ((if p = true then 2 ^ a.val else 0 : Nat) : Int)) ((2 ^ t.val - 2 ^ r.val : Nat) : Int)) (bitI (i.val : Int)) != 0) = ((hasN (2 ^ a.val - 1) i.val || hasN (if p = true then 2 ^ a.val else 0) i.val) && !hasN (2 ^ t.val - 2 ^ r.val) i.val) := by decide +kernel
theorem bits_done : ∀ (a : Fin 6), orI ((2 ^ a.val - 1 : Nat) : Int) (bitI (a.val : Int)) = ((2 ^ (a.val + 1) - 1 : Nat) : Int) := by decide +kernel
theorem bits_out : ∀ (a : Fin 6) (p : Bool), notI ((if p = true then 2 ^ a.val else 0 : Nat) : Int) (bitI (a.val : Int)) = 0 := by decide +kernel
theorem bits_in : ∀ (a : Fin 6) (p : Bool), orI ((if p = true then 2 ^ a.val else 0 : Nat) : Int) (bitI (a.val : Int)) = ((2 ^ a.val : Nat) : Int) := by decide +kernel
theorem bits_und : ∀ (t : Fin 8) (r : Fin 7), r.val < t.val → orI ((2 ^ t.val - 2 ^ (r.val + 1) : Nat) : Int) (bitI (r.val : Int)) = ((2 ^ t.val - 2 ^ r.val : Nat) : Int) := by decide +kernel
theorem bits_miss : ∀ (a t : Fin 8), a.val ≤ t.val → notI ((2 ^ a.val - 1 : Nat) : Int) ((2 ^ t.val - 2 ^ 0 : Nat) : Int) = 0 := by decide +kernel
theorem Sg.eq_of {g h : Sg} (h1 : g.ph = h.ph) (h2 : g.at_ = h.at_) (h3 : g.tr = h.tr) (h4 : g.wt = h.wt) (h5 : g.bk = h.bk) (h6 : g.dn = h.dn) (h7 : g.un = h.un) (h8 : g.so = h.so) (h9 : g.sq = h.sq) : g = h := by
  cases g; cases h; simp at h1 h2 h3 h4 h5 h6 h7 h8 h9; simp [h1, h2, h3, h4, h5, h6, h7, h8, h9]
def kks (l : List (Int × Int)) : List Int := l.map (·.2)
theorem kks_len (l : List (Int × Int)) : (kks l).length = l.length := by simp [kks]
theorem kks_kd (l : List (Int × Int)) (i : Nat) : kd (kks l) i = kdL l i := kd_map l i
section
variable {l : List (Int × Int)} {s : St} {lim : Nat}
theorem inv_small (hm : mayL l = true) (hi : Inv (kks l) lim s) : s.a ≤ l.length ∧ l.length ≤ 6 ∧ s.top ≤ l.length ∧ s.r ≤ s.top ∧ s.ph ≤ 4 ∧ (s.ph = 1 → s.a < l.length) ∧ (s.w = true → s.ph = 0 → s.a < l.length) ∧ (s.w = true → s.ph < 2) ∧ s.t ≤ lim := by
  have h6 := (may_len hm).2
  have hl := kks_len l
  obtain ⟨ht, hF | hB⟩ := hi
  · have h1 := hF.a
    have h2 := hF.top
    have h3 := hF.r
    have h4 := hF.ph
    exact ⟨by omega, h6, by omega, by omega, by omega, fun h => by omega, fun hw _ => by have := (hF.w hw).2.1; omega, fun hw => by have := (hF.w hw).1; omega, ht⟩
  · have h1 := hB.a
    have h2 := hB.top
    have h3 := hB.r
    have h4 := hB.ph
    have h5 : s.top ≤ s.a + 1 := by split at h2 <;> omega
    exact ⟨by omega, h6, by omega, by omega, by omega, fun _ => by omega, fun _ h => by omega, fun hw => by have := (hB.w hw).1; omega, ht⟩
theorem ok_st (hm : mayL l = true) (hi : Inv (kks l) lim s) (hl : lim ≤ 9) {q : Int} (hq : 0 ≤ q ∧ q ≤ 1000000) : OkG l (ofSt s q) := by
  obtain ⟨h1, h2, _, _, _, _, _, _, h9⟩ := inv_small hm hi
  refine ⟨may_len hm, ?_, ?_, hq⟩
  · show (0 : Int) ≤ (s.a : Int) ∧ (s.a : Int) ≤ 6; omega
  · show (0 : Int) ≤ (s.t : Int) ∧ (s.t : Int) ≤ 9; omega
theorem in_st {q : Int} (h1 : 1 ≤ lim) (h2 : lim ≤ 9) (h4 : s.ph ≤ 4) : inG (lim : Int) (ofSt s q) = (!s.w && decide (s.ph < 2)) := by
  unfold inG
  rw [(inR_iff (lim : Int) 1 9).2 (by omega)]
  show (!((!true || s.w) || overB (s.ph : Int))) = _
  have : overB (s.ph : Int) = decide (2 ≤ s.ph) := by
    unfold overB
    rw [Bool.eq_iff_iff]
    simp only [Bool.or_eq_true, beq_iff_eq, decide_eq_true_eq]
    omega
  rw [this]
  have e : decide (2 ≤ s.ph) = !decide (s.ph < 2) := by
    by_cases h : s.ph < 2
    · rw [decide_eq_true h, decide_eq_false (by omega)]; rfl
    · rw [decide_eq_false h, decide_eq_true (by omega)]; rfl
  rw [e]
  cases s.w <;> simp
theorem over_st (h4 : s.ph ≤ 4) : overB (s.ph : Int) = decide (2 ≤ s.ph) := by
  unfold overB
  rw [Bool.eq_iff_iff]
  simp only [Bool.or_eq_true, beq_iff_eq, decide_eq_true_eq]
  omega
/-- The last of the first r. -/
theorem lastT_lt_r {f : Nat → Bool} {r : Nat} : ∀ {n : Nat}, (∀ i, i < n → f i = decide (i < r)) → r ≤ n → lastT f n = if r = 0 then none else some (r - 1) := by
  intro n h hr
  by_cases h0 : r = 0
  · rw [if_pos h0]
    exact lastT_none fun j hj => by rw [h j hj]; exact decide_eq_false (by omega)
  · rw [if_neg h0]
    exact lastT_some (by rw [h _ (by omega)]; exact decide_eq_true (by omega)) (by omega) fun j h1 h2 => by rw [h j h2]; exact decide_eq_false (by omega)
theorem has_cast (x i : Nat) : andI ((x : Nat) : Int) (bitI (i : Int)) = andI (x : Int) (bitI i) := rfl
theorem isTg_st (hm : mayL l = true) (hi : Inv (kks l) lim s) {q : Int} {i : Nat} (h : i < l.length) : isTg l (opnI (ofSt s q)) i = undoB (kks l) s i := by
  obtain ⟨h1, h2, h3, h4, _⟩ := inv_small hm hi
  have hb := bits_tg ⟨s.a, by omega⟩ s.p ⟨s.top, by omega⟩ ⟨s.r, by omega⟩ ⟨i, by omega⟩
  unfold isTg undoB
  rw [kks_kd]
  have e : opnI (ofSt s q) = notI (orI ((doneN s : Nat) : Int) ((someN s : Nat) : Int)) ((undN s : Nat) : Int) := rfl
  rw [e]
  unfold doneN someN undN
  rw [hb, Bool.and_assoc]
theorem tgt_st (hm : mayL l = true) (hi : Inv (kks l) lim s) (h1 : s.ph = 1) {q : Int} : tgtO l (ofSt s q) = if s.r = 0 then none else some (s.r - 1) := by
  have hs := inv_small hm hi
  have hk : MayK (kks l) := may_kinds hm
  unfold tgtO
  refine lastT_lt_r (fun i h => ?_) (by omega)
  rw [isTg_st hm hi h]
  obtain ⟨_, hF | hB⟩ := hi
  · have := hF.ph; omega
  · exact undo_bw hk hB (by rw [kks_len]; exact h)
theorem next_st (hm : mayL l = true) (hi : Inv (kks l) lim s) {q : Int} (hp : s.ph < 2) :
    nextB l (ofSt s q) = (if s.ph = 1 then decide (0 < s.r) else decide (s.a < l.length)) ∧ (nextB l (ofSt s q) = true → nextI l (ofSt s q) = tgA s) := by
  have hs := inv_small hm hi
  by_cases h1 : s.ph = 1
  · have e : (ofSt s q).ph = 1 := by show (s.ph : Int) = 1; omega
    unfold nextB nextI tgA
    rw [if_pos e, if_pos e, if_pos h1, if_pos h1, tgt_st hm hi h1]
    by_cases h0 : s.r = 0
    · rw [if_pos h0]; exact ⟨by rw [h0]; rfl, fun h => by cases h⟩
    · rw [if_neg h0]
      exact ⟨by rw [decide_eq_true (by omega)]; rfl, fun _ => by show ((s.r - 1 : Nat) : Int) = _; omega⟩
  · have e : ¬ (ofSt s q).ph = 1 := by show ¬ (s.ph : Int) = 1; omega
    unfold nextB nextI tgA
    rw [if_neg e, if_neg e, if_neg h1, if_neg h1]
    have e2 : inR (ofSt s q).at_ 0 ((l.length : Int) - 1) = decide (s.a < l.length) := by
      rw [Bool.eq_iff_iff, inR_iff, decide_eq_true_eq]
      show (0 : Int) ≤ (s.a : Int) ∧ (s.a : Int) ≤ _ ↔ _
      omega
    refine ⟨e2, fun h => ?_⟩
    rw [if_pos h]; rfl
/-- What is due goes. -/
theorem go_due (hm : mayL l = true) (hi : Inv (kks l) lim s) (h1 : 1 ≤ lim) (h9 : lim ≤ 9) {q : Int} (hw : s.w = false) (hp : s.ph < 2) {x : Rc} (hx : x = { dueX l (lim : Int) (ofSt s q) with seq := q }) :
    goesB l (lim : Int) (ofSt s q) x = true ∧ wentG l (lim : Int) (ofSt s q) x = ofSt (dueA (kks l).length lim s) (q + 1) := by
  have hs := inv_small hm hi
  have hin : inG (lim : Int) (ofSt s q) = true := by rw [in_st h1 h9 hs.2.2.2.2.1, hw]; simpa using hp
  obtain ⟨hb, hn⟩ := next_st hm hi (q := q) hp
  have hfit : fitsB l (lim : Int) (ofSt s q) x = true := by
    unfold fitsB
    have hk : x.kind = 2 ∨ x.kind = 5 := by
      rw [hx]
      show (dueX l (lim : Int) (ofSt s q)).kind = 2 ∨ (dueX l (lim : Int) (ofSt s q)).kind = 5
      unfold dueX
      rw [if_pos hin]
      split
      · split
        · exact .inl rfl
        · exact .inr rfl
      · split <;> exact .inr rfl
    rw [if_pos hk, hx]
    unfold isDueB
    rw [hin]
    simp
  have hg : goesB l (lim : Int) (ofSt s q) x = true := by
    unfold goesB
    rw [hfit, (inR_iff (lim : Int) 1 9).2 (by omega), hx]
    show (!((!true || (q != q)) || !true)) = true
    simp
  refine ⟨hg, ?_⟩
  unfold wentG
  rw [if_pos hg]
  have e1 : (((ofSt s q).ph : Int) = 1) ↔ s.ph = 1 := by show (s.ph : Int) = 1 ↔ _; omega
  have closed : ∀ e : Nat, dueX l (lim : Int) (ofSt s q) = clR (e : Int) → behG l (lim : Int) (ofSt s q) x = ofSt { s with ph := e } (q + 1) := fun e he => by
    rw [hx, he]
    unfold behG
    rw [if_neg (by show ¬ (5 : Int) = 2; omega), if_pos (by show (5 : Int) = 5; rfl)]
    refine Sg.eq_of rfl rfl rfl ?_ ?_ rfl rfl rfl rfl
    · show ((5 : Int) == 2) = s.w; rw [hw]; rfl
    · show (((5 : Int) == 2) && (clR (e : Int)).back) = (s.w && (e == 1)); rw [hw]; rfl
  have intent : dueX l (lim : Int) (ofSt s q) = { zR with kind := 2, step := nextI l (ofSt s q), tr := (ofSt s q).tr + 1, back := (ofSt s q).ph == 1 } → behG l (lim : Int) (ofSt s q) x = ofSt { s with t := s.t + 1, w := true } (q + 1) := fun he => by
    rw [hx, he]
    unfold behG
    rw [if_pos rfl]
    refine Sg.eq_of rfl rfl ?_ rfl ?_ rfl rfl rfl rfl
    · show (s.t : Int) + 1 = ((s.t + 1 : Nat) : Int); omega
    · show (((2 : Int) == 2) && ((s.ph : Int) == 1)) = (true && (s.ph == 1))
      rw [Bool.eq_iff_iff]; simp; omega
  have hd : dueX l (lim : Int) (ofSt s q) = (if nextB l (ofSt s q) = true then (if (ofSt s q).tr < (lim : Int) then { zR with kind := 2, step := nextI l (ofSt s q), tr := (ofSt s q).tr + 1, back := (ofSt s q).ph == 1 } else clR 4) else if (ofSt s q).ph = 1 then clR 3 else clR 2) := by unfold dueX; rw [if_pos hin]
  unfold dueA
  rw [kks_len]
  have htr : ((ofSt s q).tr < (lim : Int)) ↔ s.t < lim := by show (s.t : Int) < _ ↔ _; omega
  by_cases h0 : s.ph = 1
  · rw [if_neg (by omega), if_pos h0]
    rw [if_pos h0] at hb
    by_cases hr : s.r = 0
    · rw [if_pos hr]
      exact closed 3 (by rw [hd, hb, hr, if_neg (by simp), if_pos (e1.2 h0)]; rfl)
    · rw [if_neg hr]
      have hb' : nextB l (ofSt s q) = true := by rw [hb]; simpa using Nat.pos_of_ne_zero hr
      by_cases ht : s.t < lim
      · rw [if_pos ht]
        exact intent (by rw [hd, hb', if_pos rfl, if_pos (htr.2 ht)])
      · rw [if_neg ht]
        exact closed 4 (by rw [hd, hb', if_pos rfl, if_neg (fun h => ht (htr.1 h))]; rfl)
  · have h00 : s.ph = 0 := by omega
    rw [if_pos h00]
    rw [if_neg h0] at hb
    by_cases ha : s.a = l.length
    · rw [if_pos ha]
      exact closed 2 (by rw [hd, hb, ha, if_neg (by simp), if_neg (fun h => h0 (e1.1 h))]; rfl)
    · rw [if_neg ha]
      have hb' : nextB l (ofSt s q) = true := by rw [hb]; exact decide_eq_true (by omega)
      by_cases ht : s.t < lim
      · rw [if_pos ht]
        exact intent (by rw [hd, hb', if_pos rfl, if_pos (htr.2 ht)])
      · rw [if_neg ht]
        exact closed 4 (by rw [hd, hb', if_pos rfl, if_neg (fun h => ht (htr.1 h))]; rfl)
/-- An answer goes. -/
theorem go_ans (hm : mayL l = true) (hi : Inv (kks l) lim s) (h1 : 1 ≤ lim) (h9 : lim ≤ 9) {q : Int} (hw : s.w = true) {x : Rc} {a : Nat} (ha : a < 3) (hk : x.kind = if a = 2 then 4 else 3) (hgd : x.good = (a == 0)) (hst : x.step = tgA s) (htr : x.tr = s.t) (hbk : x.back = (s.ph == 1)) (hsq : x.seq = q) :
    goesB l (lim : Int) (ofSt s q) x = true ∧ wentG l (lim : Int) (ofSt s q) x = ofSt (ansA (kks l) lim a s) (q + 1) := by
  have hs := inv_small hm hi
  have hp : s.ph < 2 := hs.2.2.2.2.2.2.2.1 hw
  obtain ⟨hb, hn⟩ := next_st hm hi (q := q) hp
  have hb' : nextB l (ofSt s q) = true := by
    rw [hb]
    by_cases h0 : s.ph = 1
    · rw [if_pos h0]
      obtain ⟨_, hF | hB⟩ := hi
      · have := hF.ph; omega
      · exact decide_eq_true (hB.w hw).2.1
    · rw [if_neg h0]; exact decide_eq_true (hs.2.2.2.2.2.2.1 hw (by omega))
  have hk34 : x.kind = 3 ∨ x.kind = 4 := by rw [hk]; split <;> simp
  have hfit : fitsB l (lim : Int) (ofSt s q) x = true := by
    unfold fitsB
    rw [if_neg (by omega), if_pos hk34]
    unfold isOutB
    rw [hb', hn hb', hst, htr, hbk]
    show ((((s.w && true) && (tgA s == tgA s)) && ((s.t : Int) == (s.t : Int))) && ((s.ph == 1) == (s.w && s.ph == 1))) = true
    rw [hw]; simp
  have hg : goesB l (lim : Int) (ofSt s q) x = true := by
    unfold goesB
    rw [hfit, (inR_iff (lim : Int) 1 9).2 (by omega), hsq]
    show (!((!true || (q != q)) || !true)) = true
    simp
  refine ⟨hg, ?_⟩
  unfold wentG
  rw [if_pos hg]
  unfold behG ansA
  have nb : (x.kind == 2) = false := by simpa using (show ¬ x.kind = 2 by omega)
  have hbeg : begG (ofSt s q) x = ofSt { s with w := false } (q + 1) := Sg.eq_of rfl rfl rfl (by show (x.kind == 2) = false; exact nb) (by show ((x.kind == 2) && x.back) = (false && (s.ph == 1)); rw [nb]; rfl) rfl rfl rfl rfl
  rw [hbeg, if_neg (by omega), if_neg (by omega)]
  by_cases h0 : s.ph = 0
  · have hal := hs.2.2.2.2.2.2.1 hw h0
    have hb0 : x.back = false := by rw [hbk, h0]; rfl
    have hst0 : x.step = (s.a : Int) := by rw [hst]; unfold tgA; rw [if_neg (by omega)]
    have htn : x.step.toNat = s.a := by rw [hst0]; exact Int.toNat_natCast _
    have hun : undN s = 0 := by
      obtain ⟨_, hF | hB⟩ := hi
      · unfold undN; rw [hF.top, hF.r]
      · have := hB.ph; omega
    have hpz : ((s.ph : Int)) = 0 := by omega
    rw [if_pos h0]
    by_cases a0 : a = 0
    · rw [if_pos a0]
      rw [a0, if_neg (by omega)] at hk
      rw [if_pos hk, if_pos (by rw [hgd, a0]; rfl)]
      unfold wellG
      rw [hb0, if_neg (by simp), hst0]
      refine Sg.eq_of rfl ?_ rfl rfl rfl ?_ rfl ?_ rfl
      · show (s.a : Int) + 1 = ((s.a + 1 : Nat) : Int); omega
      · exact bits_done ⟨s.a, by omega⟩
      · exact bits_out ⟨s.a, by omega⟩ s.p
    rw [if_neg a0]
    have hg0 : ¬ x.good = true := by rw [hgd]; simpa using a0
    by_cases a1 : a = 1
    · rw [if_pos a1]
      rw [a1, if_neg (by omega)] at hk
      rw [if_pos hk, if_neg hg0, if_pos hb0]
      unfold refG
      rw [htn, ← kks_kd]
      have hkr := (may_step hm hal).2.1
      rw [← kks_kd] at hkr
      by_cases k3 : kd (kks l) s.a < 3
      · rw [if_pos k3, if_neg (by omega)]
        unfold turnG
        rw [hst0]
        refine Sg.eq_of rfl rfl rfl rfl rfl rfl ?_ ?_ rfl
        · show ((undN s : Nat) : Int) = ((2 ^ s.a - 2 ^ s.a : Nat) : Int); rw [hun, Nat.sub_self]
        · exact bits_out ⟨s.a, by omega⟩ s.p
      · rw [if_neg k3, if_pos (by omega)]
    rw [if_neg a1]
    have a2 : a = 2 := by omega
    rw [a2, if_pos rfl] at hk
    rw [if_neg (by omega), if_pos hk]
    unfold lapG
    rw [hb0, if_neg (by simp), htn, ← kks_kd, hst0]
    have hin := bits_in ⟨s.a, by omega⟩ s.p
    have htl : ((ofSt { s with w := false } (q + 1)).tr = (lim : Int)) ↔ s.t = lim := by show (s.t : Int) = _ ↔ _; omega
    by_cases k1 : kd (kks l) s.a = 1 ∧ s.t = lim
    · rw [if_pos k1, if_pos ⟨k1.1, htl.2 k1.2⟩]
      unfold turnG
      refine Sg.eq_of rfl rfl rfl rfl rfl rfl ?_ ?_ rfl
      · show ((undN s : Nat) : Int) = ((2 ^ (s.a + 1) - 2 ^ (s.a + 1) : Nat) : Int); rw [hun, Nat.sub_self]
      · exact hin
    · rw [if_neg k1, if_neg (fun h => k1 ⟨h.1, htl.1 h.2⟩)]
      exact Sg.eq_of rfl rfl rfl rfl rfl rfl rfl hin rfl
  · have h11 : s.ph = 1 := by omega
    have hb1 : x.back = true := by rw [hbk, h11]; rfl
    have hr0 : 0 < s.r := by
      obtain ⟨_, hF | hB⟩ := hi
      · have := hF.ph; omega
      · exact (hB.w hw).2.1
    have hst1 : x.step = ((s.r - 1 : Nat) : Int) := by rw [hst]; unfold tgA; rw [if_pos h11]; omega
    rw [if_neg h0]
    by_cases a0 : a = 0
    · rw [if_pos a0]
      rw [a0, if_neg (by omega)] at hk
      rw [if_pos hk, if_pos (by rw [hgd, a0]; rfl)]
      unfold wellG
      rw [hb1, if_pos rfl, hst1]
      refine Sg.eq_of rfl rfl rfl rfl rfl rfl ?_ rfl rfl
      have := bits_und ⟨s.top, by omega⟩ ⟨s.r - 1, by omega⟩ (by show s.r - 1 < s.top; omega)
      show orI ((2 ^ s.top - 2 ^ s.r : Nat) : Int) (bitI ((s.r - 1 : Nat) : Int)) = ((2 ^ s.top - 2 ^ (s.r - 1) : Nat) : Int)
      rw [← this]
      simp only [Nat.sub_add_cancel hr0]
    · rw [if_neg a0]
      have hg0 : ¬ x.good = true := by rw [hgd]; simpa using a0
      have hl : lapG l (lim : Int) (ofSt { s with w := false } (q + 1)) x.back x.step = ofSt { s with w := false } (q + 1) := by unfold lapG; rw [if_pos hb1]
      by_cases a2 : a = 2
      · rw [a2, if_pos rfl] at hk
        rw [if_neg (by omega), if_pos hk, hl]
      · rw [if_neg a2] at hk
        rw [if_pos hk, if_neg hg0, if_neg (by rw [hb1]; simp), hl]
/-- A saga that is over goes by no record. -/
theorem go_over (hm : mayL l = true) (hi : Inv (kks l) lim s) (h1 : 1 ≤ lim) (h9 : lim ≤ 9) {q : Int} (hp : 2 ≤ s.ph) (x : Rc) : goesB l (lim : Int) (ofSt s q) x = false := by
  have hs := inv_small hm hi
  have hw : s.w = false := by
    cases hw : s.w with
    | false => rfl
    | true => have := hs.2.2.2.2.2.2.2.1 hw; omega
  have hf : fitsB l (lim : Int) (ofSt s q) x = false := by
    unfold fitsB
    split
    · unfold isDueB
      rw [in_st h1 h9 hs.2.2.2.2.1, hw, decide_eq_false (by omega)]; rfl
    · split
      · unfold isOutB
        rw [show (ofSt s q).wt = false from hw]; simp
      · rfl
  unfold goesB
  rw [hf, Bool.not_false, Bool.or_true]; rfl
/-- One that waits goes by answers alone. -/
theorem go_wait {lim : Int} {g : Sg} (hw : g.wt = true) {x : Rc} (h : goesB l lim g x = true) : x.kind = 3 ∨ x.kind = 4 := by
  unfold goesB at h
  have hf : fitsB l lim g x = true := by
    cases hf : fitsB l lim g x with
    | true => rfl
    | false => rw [hf] at h; simp at h
  unfold fitsB at hf
  split at hf
  · unfold isDueB inG at hf
    rw [hw] at hf
    simp at hf
  · split at hf
    · assumption
    · cases hf
theorem rtg_st (hm : mayL l = true) (hi : Inv (kks l) lim s) : True := trivial
theorem miss_st (hm : mayL l = true) (hi : Inv (kks l) lim s) {q : Int} (h : s.ph = 2 ∨ s.ph = 3) : missG (ofSt s q) = 0 := by
  have hs := inv_small hm hi
  unfold missG
  rcases h with h | h
  · rw [if_pos (by show ((s.ph : Int) == 2) = true; rw [h]; rfl)]
  · rw [if_neg (by show ¬ ((s.ph : Int) == 2) = true; rw [h]; decide)]
    obtain ⟨_, hF | hB⟩ := hi
    · have := hF.ph; omega
    · have ht := hB.top
      have hle : s.a ≤ s.top := by split at ht <;> omega
      have := bits_miss ⟨s.a, by omega⟩ ⟨s.top, by omega⟩ hle
      show notI ((2 ^ s.a - 1 : Nat) : Int) ((2 ^ s.top - 2 ^ s.r : Nat) : Int) = 0
      rw [hB.three h]
      exact this
end
end Go.Proofs.Ytilmeffmdgcblaa
/- Books, on lists: a book as its epochs and its sagas' steps and numbers; whether a record goes, and the book behind it; what stands behind records that all go. No program is named here. -/
namespace Go.Proofs.Ytilmeffmdgcblaa
open Go Go.RowKit
set_option maxRecDepth 8000
set_option linter.all false
abbrev Ug := List (Int × Int) × Sg
structure Bk where
  ep : Nat → Int
  sg : List Ug
def zK : Bk := ⟨fun _ => 0, []⟩
def sgAt (K : Bk) (k : Nat) : Ug := K.sg.getD k ([], zG)
def isFromB (K : Bk) (x : Rc) : Bool :=
  if x.saga < K.sg.length then (if x.step < (sgAt K x.saga.toNat).1.length then x.part == ptL (sgAt K x.saga.toNat).1 x.step.toNat && x.epoch == K.ep x.part.toNat else false) else false
def onB (lim : Int) (K : Bk) (x : Rc) : Bool := if x.saga < K.sg.length then goesB (sgAt K x.saga.toNat).1 lim (sgAt K x.saga.toNat).2 x else false
def onK (lim : Int) (K : Bk) (x : Rc) : Bk := if x.saga < K.sg.length then { K with sg := K.sg.set x.saga.toNat ((sgAt K x.saga.toNat).1, wentG (sgAt K x.saga.toNat).1 lim (sgAt K x.saga.toNat).2 x) } else K
def begB (K : Bk) (x : Rc) : Bool := if x.saga = K.sg.length then mayL x.steps else false
def begK (K : Bk) (x : Rc) : Bk := { K with sg := K.sg ++ [(newL x.steps, newG x.steps)] }
def rotB (K : Bk) (x : Rc) : Bool := x.epoch == K.ep x.part.toNat + 1
def rotK (K : Bk) (x : Rc) : Bk := { K with ep := fun i => if i = x.part.toNat then x.epoch else K.ep i }
def ansB (lim : Int) (K : Bk) (x : Rc) : Bool := isFromB K x && onB lim K x
def begN (K : Bk) (x : Rc) : Bk := if begB K x = true then begK K x else K
def rotN (K : Bk) (x : Rc) : Bk := if rotB K x = true then rotK K x else K
def ansN2 (lim : Int) (K : Bk) (x : Rc) : Bk := if ansB lim K x = true then onK lim K x else K
/-- Does a record go by its kind's way? -/
def wayB (lim : Int) (K : Bk) (x : Rc) : Bool := if x.kind = 1 then begB K x else if x.kind = 3 then ansB lim K x else if x.kind = 6 then rotB K x else onB lim K x
def wayK (lim : Int) (K : Bk) (x : Rc) : Bk := if x.kind = 1 then begK K x else if x.kind = 6 then rotK K x else onK lim K x
def goesK (lim : Int) (K : Bk) (x : Rc) : Bool := (inR lim 1 9 && rightB x) && wayB lim K x
def wentK (lim : Int) (K : Bk) (x : Rc) : Bk := if goesK lim K x = true then wayK lim K x else K
/-- Numbers that are small enough. -/
structure OkK (K : Bk) : Prop where
  len : K.sg.length ≤ 1000
  sg : ∀ p ∈ K.sg, OkG p.1 p.2
  ep : ∀ i, 0 ≤ K.ep i ∧ K.ep i ≤ 1000000
theorem sgAt_get {K : Bk} {k : Nat} {p : Ug} (h : K.sg[k]? = some p) : sgAt K k = p := by simp [sgAt, List.getD, h]
theorem sgAt_some {K : Bk} {k : Nat} (h : k < K.sg.length) : K.sg[k]? = some (sgAt K k) := by simp [sgAt, List.getD, h]
theorem sgAt_mem {K : Bk} {k : Nat} (h : k < K.sg.length) : sgAt K k ∈ K.sg := List.mem_of_getElem? (sgAt_some h)
theorem set_same {α : Type} {l : List α} {k : Nat} {p : α} (h : l[k]? = some p) : l.set k p = l := by
  obtain ⟨hk, rfl⟩ := List.getElem?_eq_some_iff.1 h
  exact List.set_getElem_self hk
theorem onK_no {lim : Int} {K : Bk} {x : Rc} (h : onB lim K x = false) : onK lim K x = K := by
  unfold onK
  split
  next h1 =>
    unfold onB at h
    rw [if_pos h1] at h
    unfold wentG
    rw [if_neg (by rw [h]; simp)]
    have : 0 ≤ x.saga ∨ x.saga < 0 := by omega
    by_cases hk : x.saga.toNat < K.sg.length
    · show (⟨K.ep, K.sg.set x.saga.toNat (sgAt K x.saga.toNat)⟩ : Bk) = K
      rw [set_same (sgAt_some hk)]
    · show (⟨K.ep, K.sg.set x.saga.toNat (sgAt K x.saga.toNat)⟩ : Bk) = K
      rw [List.set_eq_of_length_le (by omega)]
  next => rfl
/-- What a right record has. -/
theorem right_saga {x : Rc} (h : rightB x = true) : 0 ≤ x.saga ∧ x.saga ≤ 11 := by
  unfold rightB at h
  repeat' split at h
  all_goals simp only [Bool.and_eq_true, inR_iff, beq_iff_eq, Bool.false_eq_true] at h
  all_goals omega
theorem right_part {x : Rc} (h : rightB x = true) : 0 ≤ x.part ∧ x.part ≤ 3 := by
  unfold rightB at h
  repeat' split at h
  all_goals simp only [Bool.and_eq_true, inR_iff, beq_iff_eq, Bool.false_eq_true] at h
  all_goals omega
theorem right_epoch {x : Rc} (h : rightB x = true) : 0 ≤ x.epoch ∧ x.epoch ≤ 400 := by
  unfold rightB at h
  repeat' split at h
  all_goals simp only [Bool.and_eq_true, inR_iff, beq_iff_eq, Bool.false_eq_true] at h
  all_goals omega
theorem right_step {x : Rc} (h : rightB x = true) : 0 ≤ x.step ∧ x.step ≤ 5 := by
  unfold rightB isCall noCall at h
  repeat' split at h
  all_goals simp only [Bool.and_eq_true, inR_iff, beq_iff_eq, Bool.false_eq_true] at h
  all_goals omega
theorem right_good {x : Rc} (h : rightB x = true) (h4 : x.kind = 4) : x.good = false := by
  unfold rightB noReceipt at h
  rw [if_neg (by omega), if_pos (.inr h4)] at h
  simp only [Bool.and_eq_true, Bool.not_eq_true'] at h
  exact h.1.1.1.1.2.1
/-- A record that goes leaves a saga as records make it. -/
theorem goes_st {l : List (Int × Int)} {s : St} {lim : Nat} (hm : mayL l = true) (hi : Inv (kks l) lim s) (h1 : 1 ≤ lim) (h9 : lim ≤ 9) {q : Int} {x : Rc} (hgd : x.kind = 4 → x.good = false) (h : goesB l (lim : Int) (ofSt s q) x = true) :
    ∃ s', wentG l (lim : Int) (ofSt s q) x = ofSt s' (q + 1) ∧ Inv (kks l) lim s' := by
  have hs := inv_small hm hi
  have hp : s.ph < 2 := by
    by_cases hp : 2 ≤ s.ph
    · rw [go_over hm hi h1 h9 hp] at h; cases h
    · omega
  have hx := h
  unfold goesB at hx
  simp only [Bool.not_eq_true', Bool.or_eq_false_iff, Bool.not_eq_false', bne_eq_false_iff_eq] at hx
  obtain ⟨⟨_, hsq⟩, hf⟩ := hx
  have hsq : x.seq = q := hsq
  unfold fitsB at hf
  split at hf
  next hk =>
    unfold isDueB at hf
    simp only [Bool.and_eq_true, beq_iff_eq] at hf
    obtain ⟨⟨⟨⟨⟨hg, e1⟩, e2⟩, e3⟩, e4⟩, e5⟩ := hf
    have hw : s.w = false := by
      rw [in_st h1 h9 hs.2.2.2.2.1] at hg
      cases hw : s.w with
      | false => rfl
      | true => rw [hw] at hg; cases hg
    have hd := go_due hm hi h1 h9 hw hp (q := q) (x := { dueX l (lim : Int) (ofSt s q) with seq := q }) rfl
    refine ⟨nextA (kks l) lim 0 s, ?_, next_inv (may_kinds hm) hi⟩
    have hn : dueA (kks l).length lim s = nextA (kks l) lim 0 s := by unfold nextA; rw [hw]; rfl
    have hb : behG l (lim : Int) (ofSt s q) x = behG l (lim : Int) (ofSt s q) { dueX l (lim : Int) (ofSt s q) with seq := q } := by
      have hk' : (dueX l (lim : Int) (ofSt s q)).kind = 2 ∨ (dueX l (lim : Int) (ofSt s q)).kind = 5 := by rw [← e1]; exact hk
      unfold behG begG
      show (if x.kind = 2 then _ else if x.kind = 5 then _ else _) = (if (dueX l (lim : Int) (ofSt s q)).kind = 2 then _ else if (dueX l (lim : Int) (ofSt s q)).kind = 5 then _ else _)
      rw [e1]
      rcases hk' with hk' | hk'
      · rw [if_pos hk', if_pos hk', e3, e4]
      · have hk2 : ¬ (dueX l (lim : Int) (ofSt s q)).kind = 2 := by omega
        rw [if_neg hk2, if_neg hk2, if_pos hk', if_pos hk', e4, e5]
    have h2 := hd.2
    unfold wentG at h2 ⊢
    rw [if_pos hd.1] at h2
    rw [if_pos h, hb, h2]
    rw [hn]
  next =>
    split at hf
    next hk =>
      unfold isOutB at hf
      simp only [Bool.and_eq_true, beq_iff_eq] at hf
      obtain ⟨⟨⟨⟨hw, hb⟩, e2⟩, e3⟩, e4⟩ := hf
      have hw : s.w = true := hw
      obtain ⟨_, hn⟩ := next_st hm hi (q := q) hp
      have ha := go_ans hm hi h1 h9 (q := q) hw (x := x) (a := if x.kind = 4 then 2 else if x.good = true then 0 else 1) (by split; omega; split <;> omega)
        (by rcases hk with hk | hk
            · rw [if_neg (show ¬ x.kind = 4 by omega)]; split <;> simp [hk]
            · rw [if_pos hk]; simp [hk])
        (by
          by_cases k4 : x.kind = 4
          · rw [if_pos k4, hgd k4]; rfl
          · rw [if_neg k4]; cases x.good <;> rfl) (by rw [e2, hn hb]) (by rw [e3]; rfl) (by rw [e4]; show (s.w && s.ph == 1) = _; rw [hw]; rfl) hsq
      exact ⟨_, ha.2, by have := next_inv (lim := lim) (ans := if x.kind = 4 then 2 else if x.good = true then 0 else 1) (may_kinds hm) hi; unfold nextA at this; rw [if_pos hw] at this; exact this⟩
    next => cases hf
end Go.Proofs.Ytilmeffmdgcblaa
