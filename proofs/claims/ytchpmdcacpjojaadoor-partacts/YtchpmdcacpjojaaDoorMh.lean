/- The law PartActs, walked: whatever a participant is asked, its answers, entries and epoch are the document's all along. -/
import Derived.Test.YtchpmdcacpjojaaDoorMf
import Derived.Test.YtchpmdcacpjojaaDoorMg
import Derived.Test.YtchpmdcacpjojaaDoorRows
import Derived.Test.YtchpmdcacpjojaaDoorMa
import Derived.Test.YtchpmdcacpjojaaDoorMb
import Derived.ProofKit
import Derived.LaidMore
import Derived.OpenShut
import Derived.Stop.Joined
import Derived.Lib.LaidTab
import Derived.Stop.LaidErr
import Derived.Carry
import Derived.Test.YtchpmdcacpjojaaDoorMc
import Derived.Deep.Slices
set_option linter.all false
namespace Go.Proofs.YtchpmdcacpjojaaDoor
open Go Go.RowKit
set_option maxRecDepth 8000
set_option linter.all false
theorem rot_said {e : Int} (h : 0 ≤ e ∧ e ≤ 400) : (e != 400) = decide (e < 400) := by
  by_cases h1 : e = 400
  · subst h1; rfl
  · rw [decide_eq_true (show e < 400 by omega)]
    simpa using h1
theorem run_bld_rp (n : Int) (A1 A2 : Option Addr) (n1 c1 n2 c2 : Nat) (need : Int) (w : World) : (Instr.build 42 #[(0, .agg (rowA 3 (keyF (.slice A1 n1 c1) (.slice A2 n2 c2) need))), (1, .int .i64 n)]).run Tryd.prog w = .ok (.agg (rowA 6 (rpF (.slice A1 n1 c1) (.slice A2 n2 c2) need n 0 (.slice none 0 0)))) w := by kernel_rfl
theorem opr_bldRp {a : Act} {w : World} {o : Oper} {K : Act → World → Prop} {Q : Exit → Act → World → Prop} {x y : Operand} {n need : Int} {pv wv : Value} {ps ws : List Hs} {W : World} (ho : o.op = .build 42 #[(0, x), (1, y)]) (hx : a.eval x = .agg (rowA 3 (keyF pv wv need))) (hy : a.eval y = .int .i64 n) (hp : RdH W pv ps) (hw : RdH W wv ws) (h : K (a.put o.dst (.agg (rowA 6 (rpF pv wv need n 0 (.slice none 0 0))))) w) : o.wp Tryd.prog a w K Q := by
  obtain ⟨dst, op, type, pos, after, guard⟩ := o
  simp only at ho
  subst ho
  obtain ⟨A1, c1, rfl⟩ := rdH_form hp
  obtain ⟨A2, c2, rfl⟩ := rdH_form hw
  exact opr_val (s := Instr.build 42 #[(0, a.eval x), (1, a.eval y)]) (by simp [execOp]) (by rw [hx, hy]; exact run_bld_rp _ _ _ _ _ _ _ _ w) h
theorem rTake_k {kf : Hs → List Int → Hs} {tg : Hs → Hs → Hs} {pf : Int → Hs → Hs} (hX : KeyH kf tg pf) {hi g : Nat} {n e : Int} {pv wv : Value} {ps ws : List Hs} {need : Int} {L L2 : List En} {c x : Cl} {r b : Bool} (w0 w : World) (h0 : NewT w0 w) (hT : Tables w0) (hp : RdH w0 pv ps) (hw : RdH w0 wv ws) (h : RefAt w hi g n e pv wv need L) (h1 : w0.heap.size ≤ g) (hn : L.length ≤ 900000) (hb : itsB n c = b) (hx : takeC kf ps ws need n e L c r = x) (hL : takeL n L c r = L2) :
    Calls Tryd.prog 17 #[.pointer (some ⟨g, 0, none⟩), .agg (rowA 41 (clF c)), .bool r] w fun ex w' => ex = .returned (.tuple #[.agg (rowA 41 (clF x)), .bool b]) ∧ PT g (g + 1) w w' ∧ RefAt w' hi g n e pv wv need L2 := by
  subst hb hx hL
  exact rTake_c hX c r w0 w h0 hT hp hw h h1 hn
set_option maxHeartbeats 4000000 in
theorem PartActs_walk (v v2 : Value) (ps ws : List Hs) (need n : Int) (l : List Ac) (w : World) (hT : Tables w) (hk : KeysV w v ps ws need) (hl : RdL 43 acE w v2 l) : Calls Tryd.prog 3 #[v, .int .i64 n, v2] w fun e w' => e = .returned (.bool true) ∧ Below w.heap.size w w' := by
  obtain ⟨kf, tg, pf, hX⟩ := keyH_ex
  obtain ⟨pv, wv, rfl, hpv, hwv⟩ := hk
  have HTT := Lib.hid hT
  have HPP := Lib.hid hpv
  have HWW := Lib.hid hwv
  have HL := Lib.hid hl
  clear hl
  clear hT hpv hwv
  go_enter Tryd.func3, Tryd.ntmps3
  go_upto_region 1 with fail
  have r_gk := rowIs_box w 24 3 (keyF pv wv need)
  have hN : NewT w (w.alloc (.cells (rowA 3 (keyF pv wv need)) 24)) := NewT.alloc _ _
  change Code.wp _ _ _ _ (w.alloc (.cells (rowA 3 (keyF pv wv need)) 24))
  generalize (w.alloc (.cells (rowA 3 (keyF pv wv need)) 24)) = W0 at r_gk hN ⊢
  obtain ⟨gk, h_gk⟩ : ∃ g_, w.heap.size = g_ := ⟨_, rfl⟩
  have HG : Hid (w.heap.size ≤ gk) := Lib.hid (by omega)
  rw [h_gk] at r_gk
  simp only [h_gk]
  have Rgk := Lib.hid r_gk
  have HM := Lib.hid hN
  clear r_gk hN h_gk
  go_upto_region 1 with fail
  refine wp_region_steps0 NewT [SV.eq (.bool true), SV.eq (.bool false)] [([], none), ([(16, some 0)], none)] 153 2 rfl rfl (by kernel_rfl) NewT.trans (NewT.refl _) (Nat.le_of_ble_eq_true rfl) ⟨?_, ?_, trivial⟩ ?_
  · exact fun a wx hT hF K hK => rely_wp rfl (opr_cv (alive13_cv wx ((NewT.trans _ _ _ HM.out hT).tables HTT.out)) rfl Tryd.func9 (by kernel_rfl) (by kernel_rfl) evs0 hK)
  · exact fun a wx hT hF K hK => rely_wp rfl (opr_not rfl hF.1 (hK _ _ (NewT.refl _) rfl))
  · intro w1 k1
    iterate 2 (intro u h; obtain rfl := Eq.symm (h (by simp)); clear h)
    refine relyEnd_nil rfl ?_
    refine wpList_end rfl ?_
    simp only [Act.put, List.setIfInBounds_toArray, List.set_cons_zero, List.set_cons_succ]
    go_simp
    replace Rgk := Lib.hid (k1.row Rgk.out)
    replace HM := Lib.hid (NewT.trans _ _ _ HM.out k1)
    clear k1
    go_upto_region 3 with fail
    refine wp_region_steps0 NewT [SV.eq (.agg (rowA 3 (keyF pv wv need))), SV.eq (v2), SV.eq (.bool (fewB ps ws (List.length (l)))), SV.eq (.bool (!(fewB ps ws (List.length (l)))))] [([(3, none)], none), ([(2, none)], none), ([(18, some 0), (19, some 1)], none), ([(20, some 2)], none)] 153 4 rfl rfl (by kernel_rfl) NewT.trans (NewT.refl _) (Nat.le_of_ble_eq_true rfl) ⟨?_, ?_, ?_, ?_, trivial⟩ ?_
    · exact fun a wx hT hF K hK => rely_wp rfl (opr_ldY (hT.row Rgk.out) rfl hF.1 (hK _ _ (NewT.refl _) rfl))
    · exact fun a wx hT hF K hK => rely_wp rfl (opr_move (.inl rfl) (hK _ _ (NewT.refl _) hF.1))
    · exact fun a wx hT hF K hK => rely_wp rfl (opr_cv (few_cv _ _ ps ws need l wx (⟨pv, wv, rfl, (NewT.trans _ _ _ HM.out hT).hs HPP.out, (NewT.trans _ _ _ HM.out hT).hs HWW.out⟩ : KeysV wx (.agg (rowA 3 (keyF pv wv need))) ps ws need) (HL.out.new (NewT.trans _ _ _ HM.out hT))) rfl Tryd.func10 (by kernel_rfl) (by kernel_rfl) (evs2 hF.1 hF.2.1) hK)
    · exact fun a wx hT hF K hK => rely_wp rfl (opr_not rfl hF.1 (hK _ _ (NewT.refl _) rfl))
    · intro w2 k2
      iterate 4 (intro u h; obtain rfl := Eq.symm (h (by simp)); clear h)
      refine relyEnd_nil rfl ?_
      refine wpList_end rfl ?_
      simp only [Act.put, List.setIfInBounds_toArray, List.set_cons_zero, List.set_cons_succ]
      go_simp
      replace Rgk := Lib.hid (k2.row Rgk.out)
      replace HM := Lib.hid (NewT.trans _ _ _ HM.out k2)
      clear k2
      cases hb : (!(fewB ps ws (List.length (l))))
      · have HLE : Hid (l.length ≤ 60) := Lib.hid (by simp only [Bool.not_eq_false', fewB, Bool.and_eq_true, decide_eq_true_eq] at hb; omega)
        clear hb
        cases hk : hasB ps ws need n 0
        · have HKN := Lib.hid hk
          clear hk
          go_upto_region 5 with fail
          refine wp_region_steps0 NewT [SV.eq (.agg (rowA 3 (keyF pv wv need))), SV.eq (.int .i64 (n)), SV.eq (.pointer none), SV.eq (.pointer none)] [([(3, none)], none), ([(1, none)], none), ([(22, some 0), (23, some 1)], none), ([(24, some 2)], none)] 153 4 rfl rfl (by kernel_rfl) NewT.trans (NewT.refl _) (Nat.le_of_ble_eq_true rfl) ⟨?_, ?_, ?_, ?_, trivial⟩ ?_
          · exact fun a wx hT hF K hK => rely_wp rfl (opr_ldY (hT.row Rgk.out) rfl hF.1 (hK _ _ (NewT.refl _) rfl))
          · exact fun a wx hT hF K hK => rely_wp rfl (opr_move (.inl rfl) (hK _ _ (NewT.refl _) hF.1))
          · exact fun a wx hT hF K hK => rely_wp rfl (opr_cv (New_no _ ps ws need n wx (⟨pv, wv, rfl, (NewT.trans _ _ _ HM.out hT).hs HPP.out, (NewT.trans _ _ _ HM.out hT).hs HWW.out⟩ : KeysV wx (.agg (rowA 3 (keyF pv wv need))) ps ws need) HKN.out) rfl Tryd.func11 (by kernel_rfl) (by kernel_rfl) (evs2 hF.1 hF.2.1) hK)
          · exact fun a wx hT hF K hK => rely_wp rfl (opr_move (.inr rfl) (hK _ _ (NewT.refl _) hF.1))
          · intro w3 k3
            iterate 4 (intro u h; obtain rfl := Eq.symm (h (by simp)); clear h)
            refine relyEnd_nil rfl ?_
            refine wpList_end rfl ?_
            simp only [Act.put, List.setIfInBounds_toArray, List.set_cons_zero, List.set_cons_succ]
            go_simp
            replace Rgk := Lib.hid (k3.row Rgk.out)
            replace HM := Lib.hid (NewT.trans _ _ _ HM.out k3)
            clear k3
            go_upto_region 6 with fail
            refine wp_region_steps0 NewT [SV.eq (.agg (rowA 3 (keyF pv wv need))), SV.eq (.int .i64 (n)), SV.eq (.bool false), SV.eq (.bool true)] [([(3, none)], none), ([(1, none)], none), ([(25, some 0), (26, some 1)], none), ([(27, some 2)], none)] 153 4 rfl rfl (by kernel_rfl) NewT.trans (NewT.refl _) (Nat.le_of_ble_eq_true rfl) ⟨?_, ?_, ?_, ?_, trivial⟩ ?_
            · exact fun a wx hT hF K hK => rely_wp rfl (opr_ldY (hT.row Rgk.out) rfl hF.1 (hK _ _ (NewT.refl _) rfl))
            · exact fun a wx hT hF K hK => rely_wp rfl (opr_move (.inl rfl) (hK _ _ (NewT.refl _) hF.1))
            · exact fun a wx hT hF K hK => rely_wp rfl (opr_cv (HKN.out ▸ RKnown_cv _ ps ws need n 0 wx (⟨pv, wv, rfl, (NewT.trans _ _ _ HM.out hT).hs HPP.out, (NewT.trans _ _ _ HM.out hT).hs HWW.out⟩ : KeysV wx (.agg (rowA 3 (keyF pv wv need))) ps ws need)) rfl Tryd.func12 (by kernel_rfl) (by kernel_rfl) (evs3 hF.1 hF.2.1 rfl) hK)
            · exact fun a wx hT hF K hK => rely_wp rfl (opr_not rfl hF.1 (hK _ _ (NewT.refl _) rfl))
            · intro w4 k4
              iterate 4 (intro u h; obtain rfl := Eq.symm (h (by simp)); clear h)
              refine relyEnd_nil rfl ?_
              refine wpList_end rfl ?_
              simp only [Act.put, List.setIfInBounds_toArray, List.set_cons_zero, List.set_cons_succ]
              go_simp
              replace Rgk := Lib.hid (k4.row Rgk.out)
              replace HM := Lib.hid (NewT.trans _ _ _ HM.out k4)
              clear k4
              go_upto_region 7 with fail
              refine wp_region_steps0 NewT [SV.eq (.pointer none), SV.eq (.agg (rowA 41 (clF zC))), SV.eq ((.tuple #[.agg (rowA 41 (clF zC)), .bool false])), SV.eq ((.tuple #[.agg (rowA 41 (clF zC)), .bool false])), SV.eq (.agg (rowA 41 (clF zC))), SV.eq (.bool false)] [([(7, none)], none), ([], none), ([(30, some 0), (31, some 1)], none), ([(32, some 2)], none), ([(29, some 3)], none), ([(29, some 3)], none)] 153 6 rfl rfl (by kernel_rfl) NewT.trans (NewT.refl _) (Nat.le_of_ble_eq_true rfl) ⟨?_, ?_, ?_, ?_, ?_, ?_, trivial⟩ ?_
              · exact fun a wx hT hF K hK => rely_wp rfl (opr_move (.inl rfl) (hK _ _ (NewT.refl _) hF.1))
              · intro a wx hT hF K hK
                refine rely_wp rfl ?_
                exact opr_build (pv := #[]) rfl (by simp only [List.map_toArray, List.map_cons, List.map_nil, eval_tmp, eval_const]) (build_cl0 wx) (hK _ _ (NewT.refl _) rfl)
              · exact fun a wx hT hF K hK => rely_wp rfl (opr_cv (Take_nil zC false wx) rfl Tryd.func13 (by kernel_rfl) (by kernel_rfl) (evs3 hF.1 hF.2.1 rfl) hK)
              · exact fun a wx hT hF K hK => rely_wp rfl (opr_move (.inl rfl) (hK _ _ (NewT.refl _) hF.1))
              · exact fun a wx hT hF K hK => rely_wp rfl (opr_ext rfl hF.1 rfl (hK _ _ (NewT.refl _) rfl))
              · exact fun a wx hT hF K hK => rely_wp rfl (opr_ext rfl hF.1 rfl (hK _ _ (NewT.refl _) rfl))
              · intro w5 k5
                iterate 6 (intro u h; obtain rfl := Eq.symm (h (by simp)); clear h)
                refine relyEnd_nil rfl ?_
                simp only [Act.put, List.setIfInBounds_toArray, List.set_cons_zero, List.set_cons_succ]
                refine wpList_new (n := 41) (f := clF zC) rfl rfl rfl rfl rfl rfl (by first | (simp; done) | simp [Act.put]) run_alloc_cl info_cl (clF_one _) rfl ?_
                intro W5 hn5 rr5
                simp only [Act.put, List.setIfInBounds_toArray, List.set_cons_zero, List.set_cons_succ]
                refine wpList_plain rfl (fun K hK => ?_)
                refine opr_move (.inr rfl) (hK _ _ ?_)
                clear hK K
                refine wpList_end rfl ?_
                simp only [Act.put, List.setIfInBounds_toArray, List.set_cons_zero, List.set_cons_succ]
                go_simp
                obtain ⟨ga, h_ga⟩ : ∃ g_, w5.heap.size = g_ := ⟨_, rfl⟩
                rw [h_ga] at rr5
                simp only [h_ga]
                have HGga : Hid (gk < ga ∧ w.heap.size ≤ ga) := Lib.hid (by rw [← h_ga]; exact ⟨(k5.row Rgk.out).lt, (NewT.trans _ _ _ HM.out k5).out.size⟩)
                have q5 := NewT.trans _ _ _ k5 hn5
                clear k5 hn5 h_ga
                replace Rgk := Lib.hid (q5.row Rgk.out)
                replace HM := Lib.hid (NewT.trans _ _ _ HM.out q5)
                clear q5
                have Rga := Lib.hid rr5
                clear rr5
                go_upto_region 8 with fail
                refine wp_region_steps0 NewT [SV.eq (.pointer none), SV.eq (.bool true), SV.eq (.bool true), SV.eq (.bool false), SV.eq (.bool true), SV.eq (.bool true), SV.eq (.bool true), SV.eq (.agg (rowA 41 (clF zC))), SV.eq (.agg (rowA 41 (clF zC))), SV.eq (.bool true), SV.eq (.bool true), SV.eq (.bool true), SV.eq (.pointer none), SV.eq (.bool false), SV.eq (.bool true), SV.eq (.bool true), SV.eq (.bool true), SV.eq (.pointer none), SV.eq (.int .i64 (0)), SV.eq (.bool true), SV.eq (.bool true), SV.eq (.bool true), SV.eq (.pointer none), SV.eq ((.slice none 0 0)), SV.eq (.int .i64 ((List.length (([] : List En)) : Int))), SV.eq (.bool true), SV.eq (.bool true), SV.eq (.bool true)] [([(7, none)], none), ([(35, some 0)], none), ([(36, some 1)], none), ([(9, none), (37, some 2)], some (37, true)), ([(38, some 3), (37, some 2)], some (37, true)), ([(37, some 2), (39, some 4)], none), ([(40, some 5)], none), ([(8, none), (41, some 6)], some (41, true)), ([(41, some 6)], some (41, true)), ([(42, some 7), (43, some 8), (41, some 6)], some (41, true)), ([(41, some 6), (44, some 9)], none), ([(45, some 10)], none), ([(7, none), (46, some 11)], some (46, true)), ([(47, some 12), (46, some 11)], some (46, true)), ([(48, some 13), (46, some 11)], some (46, true)), ([(46, some 11), (49, some 14)], none), ([(50, some 15)], none), ([(7, none), (51, some 16)], some (51, true)), ([(52, some 17), (51, some 16)], some (51, true)), ([(53, some 18), (51, some 16)], some (51, true)), ([(51, some 16), (54, some 19)], none), ([(55, some 20)], none), ([(7, none), (56, some 21)], some (56, true)), ([(57, some 22), (56, some 21)], some (56, true)), ([(58, some 23), (56, some 21)], some (56, true)), ([(59, some 24), (56, some 21)], some (56, true)), ([(56, some 21), (60, some 25)], none), ([(61, some 26)], none)] 153 28 rfl rfl (by kernel_rfl) NewT.trans (NewT.refl _) (Nat.le_of_ble_eq_true rfl) ⟨?_, ?_, ?_, ?_, ?_, ?_, ?_, ?_, ?_, ?_, ?_, ?_, ?_, ?_, ?_, ?_, ?_, ?_, ?_, ?_, ?_, ?_, ?_, ?_, ?_, ?_, ?_, ?_, trivial⟩ ?_
                · exact fun a wx hT hF K hK => rely_wp rfl (opr_move (.inl rfl) (hK _ _ (NewT.refl _) hF.1))
                · exact fun a wx hT hF K hK => rely_wp rfl (opr_eqPz rfl hF.1 (hK _ _ (NewT.refl _) rfl))
                · exact fun a wx hT hF K hK => rely_wp rfl (opr_move (.inl rfl) (hK _ _ (NewT.refl _) hF.1))
                · exact fun a wx hT hF K hK => rely_wp (rely_guard hF.2.1) (opr_move (.inl rfl) (hK _ _ (NewT.refl _) hF.1))
                · exact fun a wx hT hF K hK => rely_wp (rely_guard hF.2.1) (opr_not rfl hF.1 (hK _ _ (NewT.refl _) rfl))
                · exact fun a wx hT hF K hK => rely_wp rfl (opr_pick_true rfl hF.1 (hK _ _ (NewT.refl _) hF.2.1))
                · exact fun a wx hT hF K hK => rely_wp rfl (opr_move (.inl rfl) (hK _ _ (NewT.refl _) hF.1))
                · exact fun a wx hT hF K hK => rely_wp (rely_guard hF.2.1) (opr_ldCl (hT.row Rga.out) rfl hF.1 (hK _ _ (NewT.refl _) rfl))
                · intro a wx hT hF K hK
                  obtain ⟨f41, _⟩ := hF
                  have f41 : a.tmps.getD 41 undef = .bool true := f41
                  refine rely_wp (rely_guard f41) ?_
                  exact opr_build (pv := #[]) rfl (by simp only [List.map_toArray, List.map_cons, List.map_nil, eval_tmp, eval_const]) (build_cl0 wx) (hK _ _ (NewT.refl _) rfl)
                · exact fun a wx hT hF K hK => rely_wp (rely_guard hF.2.2.1) (opr_eqlCl rfl hF.1 hF.2.1 (hK _ _ (NewT.refl _) (congrArg Value.bool (eqC_self zC))))
                · exact fun a wx hT hF K hK => rely_wp rfl (opr_pick_true rfl hF.1 (hK _ _ (NewT.refl _) hF.2.1))
                · exact fun a wx hT hF K hK => rely_wp rfl (opr_move (.inl rfl) (hK _ _ (NewT.refl _) hF.1))
                · exact fun a wx hT hF K hK => rely_wp (rely_guard hF.2.1) (opr_move (.inl rfl) (hK _ _ (NewT.refl _) hF.1))
                · exact fun a wx hT hF K hK => rely_wp (rely_guard hF.2.1) (opr_cv (Rotate_nil wx) rfl Tryd.func14 (by kernel_rfl) (by kernel_rfl) (evs1 hF.1) hK)
                · exact fun a wx hT hF K hK => rely_wp (rely_guard hF.2.1) (opr_not rfl hF.1 (hK _ _ (NewT.refl _) rfl))
                · exact fun a wx hT hF K hK => rely_wp rfl (opr_pick_true rfl hF.1 (hK _ _ (NewT.refl _) hF.2.1))
                · exact fun a wx hT hF K hK => rely_wp rfl (opr_move (.inl rfl) (hK _ _ (NewT.refl _) hF.1))
                · exact fun a wx hT hF K hK => rely_wp (rely_guard hF.2.1) (opr_move (.inl rfl) (hK _ _ (NewT.refl _) hF.1))
                · exact fun a wx hT hF K hK => rely_wp (rely_guard hF.2.1) (opr_cv (Epoch_nil wx) rfl Tryd.func15 (by kernel_rfl) (by kernel_rfl) (evs1 hF.1) hK)
                · exact fun a wx hT hF K hK => rely_wp (rely_guard hF.2.1) (opr_cmp (b := true) (.inl ⟨rfl, (by rfl)⟩) Tryd.underlying3 rfl hF.1 rfl (hK _ _ (NewT.refl _) rfl))
                · exact fun a wx hT hF K hK => rely_wp rfl (opr_pick_true rfl hF.1 (hK _ _ (NewT.refl _) hF.2.1))
                · exact fun a wx hT hF K hK => rely_wp rfl (opr_move (.inl rfl) (hK _ _ (NewT.refl _) hF.1))
                · exact fun a wx hT hF K hK => rely_wp (rely_guard hF.2.1) (opr_move (.inl rfl) (hK _ _ (NewT.refl _) hF.1))
                · exact fun a wx hT hF K hK => rely_wp (rely_guard hF.2.1) (opr_cv (Entries_nil wx) rfl Tryd.func16 (by kernel_rfl) (by kernel_rfl) (evs1 hF.1) hK)
                · intro a wx hT hF K hK
                  obtain ⟨f58, f56, _⟩ := hF
                  have f58 : a.tmps.getD 58 undef = (.slice none 0 0) := f58
                  have f56 : a.tmps.getD 56 undef = .bool true := f56
                  refine rely_wp (rely_guard f56) ?_
                  exact opr_lenL rfl entEl (by rw [eval_tmp, f58]; exact (rdL_nil (E := eyE) wx)) (hK _ _ (NewT.refl _) rfl)
                · exact fun a wx hT hF K hK => rely_wp (rely_guard hF.2.1) (opr_cmp (b := true) (.inl ⟨rfl, (by rfl)⟩) Tryd.underlying3 rfl hF.1 rfl (hK _ _ (NewT.refl _) rfl))
                · exact fun a wx hT hF K hK => rely_wp rfl (opr_pick_true rfl hF.1 (hK _ _ (NewT.refl _) hF.2.1))
                · exact fun a wx hT hF K hK => rely_wp rfl (opr_move (.inr rfl) (hK _ _ (NewT.refl _) hF.1))
                · intro w6 k6
                  iterate 28 (intro u h; obtain rfl := Eq.symm (h (by simp)); clear h)
                  refine relyEnd_nil rfl ?_
                  refine wpList_end rfl ?_
                  simp only [Act.put, List.setIfInBounds_toArray, List.set_cons_zero, List.set_cons_succ]
                  go_simp
                  replace Rgk := Lib.hid (k6.row Rgk.out)
                  replace Rga := Lib.hid (k6.row Rga.out)
                  replace HM := Lib.hid (NewT.trans _ _ _ HM.out k6)
                  clear k6
                  go_wp2
                  go_ret
                  exact ⟨rfl, HM.out.out⟩
        · have HKN := Lib.hid hk
          clear hk
          go_upto_region 5 with fail
          refine wp_region_steps0 NewT [SV.eq (.agg (rowA 3 (keyF pv wv need))), SV.eq (.int .i64 (n)), svPart w2.heap.size n ps ws need, svPart w2.heap.size n ps ws need] [([(3, none)], none), ([(1, none)], none), ([(22, some 0), (23, some 1)], none), ([(24, some 2)], none)] 153 4 rfl rfl (by kernel_rfl) NewT.trans (NewT.refl _) (Nat.le_of_ble_eq_true rfl) ⟨?_, ?_, ?_, ?_, trivial⟩ ?_
          · exact fun a wx hT hF K hK => rely_wp rfl (opr_ldY (hT.row Rgk.out) rfl hF.1 (hK _ _ (NewT.refl _) rfl))
          · exact fun a wx hT hF K hK => rely_wp rfl (opr_move (.inl rfl) (hK _ _ (NewT.refl _) hF.1))
          · exact fun a wx hT hF K hK => rely_wp rfl (opr_cv (New_yes w2.heap.size _ ps ws need n wx hT.out.size (⟨pv, wv, rfl, (NewT.trans _ _ _ HM.out hT).hs HPP.out, (NewT.trans _ _ _ HM.out hT).hs HWW.out⟩ : KeysV wx (.agg (rowA 3 (keyF pv wv need))) ps ws need) HKN.out) rfl Tryd.func11 (by kernel_rfl) (by kernel_rfl) (evs2 hF.1 hF.2.1) hK)
          · exact fun a wx hT hF K hK => rely_wp rfl (opr_move (.inr rfl) (hK _ _ (NewT.refl _) hF.1))
          · intro w7 k7
            iterate 2 (intro u h; obtain rfl := Eq.symm (h (by simp)); clear h)
            intro _ _
            intro u7 h; have g7 := h (by simp); clear h; replace g7 := show (svPart w2.heap.size n ps ws need).pred u7 w7 from g7
            refine relyEnd_nil rfl ?_
            refine wpList_end rfl ?_
            simp only [Act.put, List.setIfInBounds_toArray, List.set_cons_zero, List.set_cons_succ]
            go_simp
            obtain ⟨gp, hi, hv2, hPA⟩ := g7
            subst hv2
            obtain ⟨lo, hlo⟩ : ∃ x, w2.heap.size = x := ⟨_, rfl⟩
            have HLO : Hid (2 ≤ lo ∧ gk < lo ∧ lo ≤ hi ∧ w.heap.size ≤ lo) := Lib.hid (by rw [hlo] at hPA; have h1 := hPA.lt; have h2 := HTT.out.size; have h3 := HM.out.out.size; have h_gk := Rgk.out.lt; omega)
            rw [hlo] at hPA
            have HPA := Lib.hid hPA
            clear hPA hlo
            replace Rgk := Lib.hid (k7.row Rgk.out)
            replace HM := Lib.hid (NewT.trans _ _ _ HM.out k7)
            clear k7
            go_upto_region 6 with fail
            refine wp_region_steps0 NewT [SV.eq (.agg (rowA 3 (keyF pv wv need))), SV.eq (.int .i64 (n)), SV.eq (.bool true), SV.eq (.bool false)] [([(3, none)], none), ([(1, none)], none), ([(25, some 0), (26, some 1)], none), ([(27, some 2)], none)] 153 4 rfl rfl (by kernel_rfl) NewT.trans (NewT.refl _) (Nat.le_of_ble_eq_true rfl) ⟨?_, ?_, ?_, ?_, trivial⟩ ?_
            · exact fun a wx hT hF K hK => rely_wp rfl (opr_ldY (hT.row Rgk.out) rfl hF.1 (hK _ _ (NewT.refl _) rfl))
            · exact fun a wx hT hF K hK => rely_wp rfl (opr_move (.inl rfl) (hK _ _ (NewT.refl _) hF.1))
            · exact fun a wx hT hF K hK => rely_wp rfl (opr_cv (HKN.out ▸ RKnown_cv _ ps ws need n 0 wx (⟨pv, wv, rfl, (NewT.trans _ _ _ HM.out hT).hs HPP.out, (NewT.trans _ _ _ HM.out hT).hs HWW.out⟩ : KeysV wx (.agg (rowA 3 (keyF pv wv need))) ps ws need)) rfl Tryd.func12 (by kernel_rfl) (by kernel_rfl) (evs3 hF.1 hF.2.1 rfl) hK)
            · exact fun a wx hT hF K hK => rely_wp rfl (opr_not rfl hF.1 (hK _ _ (NewT.refl _) rfl))
            · intro w8 k8
              iterate 4 (intro u h; obtain rfl := Eq.symm (h (by simp)); clear h)
              refine relyEnd_nil rfl ?_
              refine wpList_end rfl ?_
              simp only [Act.put, List.setIfInBounds_toArray, List.set_cons_zero, List.set_cons_succ]
              go_simp
              replace Rgk := Lib.hid (k8.row Rgk.out)
              replace HPA := Lib.hid (HPA.out.new k8)
              replace HM := Lib.hid (NewT.trans _ _ _ HM.out k8)
              clear k8
              go_upto_region 9 with fail
              refine wp_region_steps0 NewT [SV.eq (.agg (rowA 3 (keyF pv wv need))), SV.eq (.int .i64 (n)), SV.eq ((.agg (rowA 6 (rpF pv wv need n 0 (.slice none 0 0)))))] [([(3, none)], none), ([(1, none)], none), ([(62, some 0), (63, some 1)], none)] 153 3 rfl rfl (by kernel_rfl) NewT.trans (NewT.refl _) (Nat.le_of_ble_eq_true rfl) ⟨?_, ?_, ?_, trivial⟩ ?_
              · exact fun a wx hT hF K hK => rely_wp rfl (opr_ldY (hT.row Rgk.out) rfl hF.1 (hK _ _ (NewT.refl _) rfl))
              · exact fun a wx hT hF K hK => rely_wp rfl (opr_move (.inl rfl) (hK _ _ (NewT.refl _) hF.1))
              · exact fun a wx hT hF K hK => rely_wp rfl (opr_bldRp rfl hF.1 hF.2.1 HPP.out HWW.out (hK _ _ (NewT.refl _) rfl))
              · intro w9 k9
                iterate 3 (intro u h; obtain rfl := Eq.symm (h (by simp)); clear h)
                refine relyEnd_nil rfl ?_
                simp only [Act.put, List.setIfInBounds_toArray, List.set_cons_zero, List.set_cons_succ]
                refine wpList_plain rfl (fun K hK => ?_)
                refine opr_boxD rfl rfl (fun W9 hn9 rr9 => hK _ _ ?_)
                clear hK K
                simp only [Act.put, List.setIfInBounds_toArray, List.set_cons_zero, List.set_cons_succ]
                refine wpList_plain rfl (fun K hK => ?_)
                refine opr_move (.inr rfl) (hK _ _ ?_)
                clear hK K
                refine wpList_end rfl ?_
                simp only [Act.put, List.setIfInBounds_toArray, List.set_cons_zero, List.set_cons_succ]
                go_simp
                obtain ⟨gr, h_gr⟩ : ∃ g_, w9.heap.size = g_ := ⟨_, rfl⟩
                rw [h_gr] at rr9
                simp only [h_gr]
                have HGgr : Hid (lo ≤ gr ∧ hi ≤ gr ∧ w.heap.size ≤ gr) := Lib.hid (by rw [← h_gr]; exact ⟨Nat.le_trans (by have h1 := HPA.out.lt; omega) k9.out.size, Nat.le_trans HPA.out.lt.2.2 k9.out.size, (NewT.trans _ _ _ HM.out k9).out.size⟩)
                have q9 := NewT.trans _ _ _ k9 hn9
                clear k9 hn9 h_gr
                replace Rgk := Lib.hid (q9.row Rgk.out)
                replace HPA := Lib.hid (HPA.out.new q9)
                replace HM := Lib.hid (NewT.trans _ _ _ HM.out q9)
                clear q9
                have HRA : Hid (RefAt W9 hi gr n 0 pv wv need []) := Lib.hid ⟨_, rr9, ownE_nil _ _, HGgr.out.2.1⟩
                clear rr9
                go_wp2
                go_loopw [11] (fun i wr => ∃ (k : Nat) (L : List En) (e : Int), k ≤ l.length ∧ i = .int .i64 (k : Int) ∧ Hid (NewT w wr) ∧ Hid (PartAt wr lo hi gp n e ps ws need L) ∧ Hid (RefAt wr hi gr n e pv wv need L) ∧ Hid (L.length ≤ k) ∧ Hid (0 ≤ e ∧ e ≤ 400)) (fun i _ => l.length - (intOf i).toNat)
                case atStart => exact ⟨0, [], 0, by omega, rfl, HM, HPA, HRA, Lib.hid (by simp), Lib.hid (by decide)⟩
                case round =>
                  clear HM HPA HRA Rgk
                  obtain ⟨k, L, e, hk, rfl, HM, HPA, HRA, HLK, HEB⟩ := hrel
                  by_cases hlt : k < l.length
                  rotate_left
                  · have HGE : Hid (¬ (k : Int) < (l.length : Int)) := Lib.hid (by omega)
                    clear hlt
                    go_upto_region 11 with fail
                    refine wp_region_steps0 NewT [SV.eq (.int .i64 ((k : Int))), SV.eq (v2), SV.eq (.int .i64 ((List.length (l) : Int))), SV.eq (.bool false)] [([(11, none)], none), ([(2, none)], none), ([(67, some 1)], none), ([(66, some 0), (68, some 2)], none)] 153 4 rfl rfl (by kernel_rfl) NewT.trans (NewT.refl _) (Nat.le_of_ble_eq_true rfl) ⟨?_, ?_, ?_, ?_, trivial⟩ ?_
                    · exact fun a wx hT hF K hK => rely_wp rfl (opr_move (.inl rfl) (hK _ _ (NewT.refl _) hF.1))
                    · exact fun a wx hT hF K hK => rely_wp rfl (opr_move (.inl rfl) (hK _ _ (NewT.refl _) hF.1))
                    · intro a wx hT hF K hK
                      obtain ⟨f67, _⟩ := hF
                      have f67 : a.tmps.getD 67 undef = v2 := f67
                      refine rely_wp rfl ?_
                      exact opr_lenL rfl actEl (by rw [eval_tmp, f67]; exact (HL.out.new (NewT.trans _ _ _ HM.out hT))) (hK _ _ (NewT.refl _) rfl)
                    · exact fun a wx hT hF K hK => rely_wp rfl (opr_cmp (b := false) (.inr (.inr (.inr (.inl ⟨rfl, (by exact decide_eq_false HGE.out)⟩)))) Tryd.underlying3 rfl hF.1 hF.2.1 (hK _ _ (NewT.refl _) rfl))
                    · intro w10 k10
                      iterate 4 (intro u h; obtain rfl := Eq.symm (h (by simp)); clear h)
                      refine relyEnd_nil rfl ?_
                      refine wpList_end rfl ?_
                      simp only [Act.put, List.setIfInBounds_toArray, List.set_cons_zero, List.set_cons_succ]
                      go_simp
                      replace HPA := Lib.hid (HPA.out.new k10)
                      replace HRA := Lib.hid (HRA.out.new k10)
                      replace HM := Lib.hid (NewT.trans _ _ _ HM.out k10)
                      clear k10
                      go_wp2
                      go_ret
                      exact ⟨rfl, HM.out.out⟩
                  · obtain ⟨y, hy⟩ : ∃ y, l[k]? = some y := ⟨_, List.getElem?_eq_getElem hlt⟩
                    obtain ⟨lb, lof, lc, hv, hcc⟩ := acts_at HL.out hy
                    have HLB : Hid (lb < w.heap.size) := Lib.hid (cell_lt (hcc 0 (by omega)))
                    have HC0 : Hid (w.cell? ⟨lb, lof + k * 43, none⟩ = some (.int .i64 y.kind)) := Lib.hid (hcc 0 (by omega))
                    have HC1 : Hid (∀ j, j < 41 → w.cell? ⟨lb, lof + k * 43 + 1 + j, none⟩ = some (clF y.c j)) := Lib.hid (fun j hj => by rw [Nat.add_assoc, hcc (1 + j) (by omega), acF_c _ _ hj])
                    have HC2 : Hid (w.cell? ⟨lb, lof + k * 43 + 42, none⟩ = some (.bool y.r)) := Lib.hid (hcc 42 (by omega))
                    have HKL := Lib.hid hlt
                    have HYL := Lib.hid hy
                    have HGE : Hid ((k : Int) < (l.length : Int)) := Lib.hid (by omega)
                    subst hv
                    clear hcc hy hlt
                    go_upto_region 11 with fail
                    refine wp_region_steps0 NewT [SV.eq (.int .i64 ((k : Int))), SV.eq ((.slice (some ⟨lb, lof, none⟩) l.length lc)), SV.eq (.int .i64 ((List.length (l) : Int))), SV.eq (.bool true)] [([(11, none)], none), ([(2, none)], none), ([(67, some 1)], none), ([(66, some 0), (68, some 2)], none)] 153 4 rfl rfl (by kernel_rfl) NewT.trans (NewT.refl _) (Nat.le_of_ble_eq_true rfl) ⟨?_, ?_, ?_, ?_, trivial⟩ ?_
                    · exact fun a wx hT hF K hK => rely_wp rfl (opr_move (.inl rfl) (hK _ _ (NewT.refl _) hF.1))
                    · exact fun a wx hT hF K hK => rely_wp rfl (opr_move (.inl rfl) (hK _ _ (NewT.refl _) hF.1))
                    · intro a wx hT hF K hK
                      obtain ⟨f67, _⟩ := hF
                      have f67 : a.tmps.getD 67 undef = (.slice (some ⟨lb, lof, none⟩) l.length lc) := f67
                      refine rely_wp rfl ?_
                      exact opr_lenL rfl actEl (by rw [eval_tmp, f67]; exact (HL.out.new (NewT.trans _ _ _ HM.out hT))) (hK _ _ (NewT.refl _) rfl)
                    · exact fun a wx hT hF K hK => rely_wp rfl (opr_cmp (b := true) (.inr (.inr (.inr (.inl ⟨rfl, (by exact decide_eq_true HGE.out)⟩)))) Tryd.underlying3 rfl hF.1 hF.2.1 (hK _ _ (NewT.refl _) rfl))
                    · intro w11 k11
                      iterate 4 (intro u h; obtain rfl := Eq.symm (h (by simp)); clear h)
                      refine relyEnd_nil rfl ?_
                      refine wpList_end rfl ?_
                      simp only [Act.put, List.setIfInBounds_toArray, List.set_cons_zero, List.set_cons_succ]
                      go_simp
                      replace HPA := Lib.hid (HPA.out.new k11)
                      replace HRA := Lib.hid (HRA.out.new k11)
                      replace HM := Lib.hid (NewT.trans _ _ _ HM.out k11)
                      clear k11
                      go_upto_region 13 with fail
                      refine wp_region_steps0 NewT [SV.eq ((.slice (some ⟨lb, lof, none⟩) l.length lc)), SV.eq (.int .i64 ((k : Int))), SV.eq (.pointer (some ⟨lb, lof + k * 43, none⟩)), SV.eq (.pointer (some ⟨lb, lof + k * 43, none⟩)), SV.eq (.int .i64 (y.kind)), SV.eq (.bool (y.kind == 1))] [([(2, none)], none), ([(11, none)], none), ([(72, some 0), (73, some 1)], none), ([(74, some 2)], none), ([(75, some 3)], none), ([(76, some 4)], none)] 153 6 rfl rfl (by kernel_rfl) NewT.trans (NewT.refl _) (Nat.le_of_ble_eq_true rfl) ⟨?_, ?_, ?_, ?_, ?_, ?_, trivial⟩ ?_
                      · exact fun a wx hT hF K hK => rely_wp rfl (opr_move (.inl rfl) (hK _ _ (NewT.refl _) hF.1))
                      · exact fun a wx hT hF K hK => rely_wp rfl (opr_move (.inl rfl) (hK _ _ (NewT.refl _) hF.1))
                      · exact fun a wx hT hF K hK => rely_wp rfl (opr_idxB actEl HKL.out rfl rfl hF.1 hF.2.1 (hK _ _ (NewT.refl _) rfl))
                      · exact fun a wx hT hF K hK => rely_wp rfl (opr_fldAc0 rfl hF.1 (hK _ _ (NewT.refl _) rfl))
                      · exact fun a wx hT hF K hK => rely_wp rfl (opr_ld1 Tryd.underlying3 rfl rfl hF.1 (((NewT.trans _ _ _ HM.out hT).out.cell (cell_lt (HC0.out))).trans (HC0.out)) (hK _ _ (NewT.refl _) rfl))
                      · exact fun a wx hT hF K hK => rely_wp rfl (opr_cmp (b := y.kind == 1) (.inl ⟨rfl, rfl⟩) Tryd.underlying3 rfl hF.1 rfl (hK _ _ (NewT.refl _) rfl))
                      · intro w12 k12
                        iterate 6 (intro u h; obtain rfl := Eq.symm (h (by simp)); clear h)
                        refine relyEnd_nil rfl ?_
                        refine wpList_end rfl ?_
                        simp only [Act.put, List.setIfInBounds_toArray, List.set_cons_zero, List.set_cons_succ]
                        go_simp
                        replace HPA := Lib.hid (HPA.out.new k12)
                        replace HRA := Lib.hid (HRA.out.new k12)
                        replace HM := Lib.hid (NewT.trans _ _ _ HM.out k12)
                        clear k12
                        cases hb : (y.kind == 1)
                        · clear hb
                          obtain ⟨x, hx⟩ : ∃ x, takeC kf ps ws need n e L y.c y.r = x := ⟨_, rfl⟩
                          obtain ⟨b, hb⟩ : ∃ b, itsB n y.c = b := ⟨_, rfl⟩
                          obtain ⟨L2, hL2⟩ : ∃ M, takeL n L y.c y.r = M := ⟨_, rfl⟩
                          have HX := Lib.hid hx
                          have HB := Lib.hid hb
                          have HL2 := Lib.hid hL2
                          have HLL : Hid (L.length ≤ 900000 ∧ L2.length ≤ L.length + 1 ∧ L2.length ≤ 900000) := Lib.hid (by have h1 := HLK.out; have h2 := HLE.out; have h3 := take_len n L y.c y.r; have h4 := HGE.out; rw [hL2] at h3; omega)
                          clear hx hb hL2
                          go_upto_region 18 with fail
                          have HPW : Hid (hi ≤ w12.heap.size) := Lib.hid HPA.out.lt.2.2
                          have HSZ : Hid (lo ≤ w12.heap.size) := Lib.hid (by have := HPA.out.lt; omega)
                          have HTW := Lib.hid (HM.out.tables HTT.out)
                          refine wp_region_relyL (PW w12 lo hi) (JL 11 15 16 12 (fun w => PartAt w lo hi gp n e ps ws need L) (fun w => PartAt w lo hi gp n e ps ws need L2) w12 34 41 (clF x)) [SV.eq (.pointer (some ⟨gp, 0, none⟩)), SV.eq ((.slice (some ⟨lb, lof, none⟩) l.length lc)), SV.eq (.int .i64 ((k : Int))), SV.eq (.pointer (some ⟨lb, lof + k * 43, none⟩)), SV.eq (.pointer (some ⟨lb, lof + k * 43 + 1, none⟩)), SV.eq (.agg (rowA 41 (clF y.c))), SV.eq ((.slice (some ⟨lb, lof, none⟩) l.length lc)), SV.eq (.int .i64 ((k : Int))), SV.eq (.pointer (some ⟨lb, lof + k * 43, none⟩)), SV.eq (.pointer (some ⟨lb, lof + k * 43 + 42, none⟩)), SV.eq (.bool (y.r)), SV.eq ((.tuple #[.agg (rowA 41 (clF x)), .bool b])), SV.eq ((.tuple #[.agg (rowA 41 (clF x)), .bool b])), SV.eq (.agg (rowA 41 (clF x))), SV.eq (.bool (b)), svPtV, SV.any] [([(7, none)], none), ([(2, none)], none), ([(11, none)], none), ([(100, some 1), (101, some 2)], none), ([(102, some 3)], none), ([(103, some 4)], none), ([(2, none)], none), ([(11, none)], none), ([(105, some 6), (106, some 7)], none), ([(107, some 8)], none), ([(108, some 9)], none), ([(99, some 0), (104, some 5), (109, some 10)], none), ([(110, some 11)], none), ([(98, some 12)], none), ([(98, some 12)], none), ([], none), ([(12, some 15), (111, some 13)], none)] 153 rfl (by kernel_rfl) rfl (by kernel_rfl) (by kernel_rfl) rfl PW.trans (PW.drew _) (JL.start (HPA.out.drew) _) (Nat.le_of_ble_eq_true rfl) ⟨?_, ?_, ?_, ?_, ?_, ?_, ?_, ?_, ?_, ?_, ?_, ?_, ?_, ?_, ?_, ?_, ?_, trivial⟩ ?_
                          · exact fun a wx li hT hF hJ hx K hK => have hK := fun v w' (hN : NewT wx w') hv => hK v w' (PW.new hT hN HSZ.out) (JL.new hJ (by decide) (by simp) hN (fun h => PartAt.new h hN) (fun h => PartAt.new h hN)) hv; rely_wp rfl (opr_move (.inl rfl) (hK _ _ (NewT.refl _) hF.1))
                          · exact fun a wx li hT hF hJ hx K hK => have hK := fun v w' (hN : NewT wx w') hv => hK v w' (PW.new hT hN HSZ.out) (JL.new hJ (by decide) (by simp) hN (fun h => PartAt.new h hN) (fun h => PartAt.new h hN)) hv; rely_wp rfl (opr_move (.inl rfl) (hK _ _ (NewT.refl _) hF.1))
                          · exact fun a wx li hT hF hJ hx K hK => have hK := fun v w' (hN : NewT wx w') hv => hK v w' (PW.new hT hN HSZ.out) (JL.new hJ (by decide) (by simp) hN (fun h => PartAt.new h hN) (fun h => PartAt.new h hN)) hv; rely_wp rfl (opr_move (.inl rfl) (hK _ _ (NewT.refl _) hF.1))
                          · exact fun a wx li hT hF hJ hx K hK => have hK := fun v w' (hN : NewT wx w') hv => hK v w' (PW.new hT hN HSZ.out) (JL.new hJ (by decide) (by simp) hN (fun h => PartAt.new h hN) (fun h => PartAt.new h hN)) hv; rely_wp rfl (opr_idxB actEl HKL.out rfl rfl hF.1 hF.2.1 (hK _ _ (NewT.refl _) rfl))
                          · exact fun a wx li hT hF hJ hx K hK => have hK := fun v w' (hN : NewT wx w') hv => hK v w' (PW.new hT hN HSZ.out) (JL.new hJ (by decide) (by simp) hN (fun h => PartAt.new h hN) (fun h => PartAt.new h hN)) hv; rely_wp rfl (opr_fldAc1 rfl hF.1 (hK _ _ (NewT.refl _) rfl))
                          · exact fun a wx li hT hF hJ hx K hK => have hK := fun v w' (hN : NewT wx w') hv => hK v w' (PW.new hT hN HSZ.out) (JL.new hJ (by decide) (by simp) hN (fun h => PartAt.new h hN) (fun h => PartAt.new h hN)) hv; rely_wp rfl (opr_ldClC (c := y.c) (fun j hj => (hT.cell ((HM.out.out.cell (cell_lt (HC1.out j hj))).trans (HC1.out j hj)) (.inl (Nat.lt_of_lt_of_le HLB.out HLO.out.2.2.2)))) rfl hF.1 (hK _ _ (NewT.refl _) rfl))
                          · exact fun a wx li hT hF hJ hx K hK => have hK := fun v w' (hN : NewT wx w') hv => hK v w' (PW.new hT hN HSZ.out) (JL.new hJ (by decide) (by simp) hN (fun h => PartAt.new h hN) (fun h => PartAt.new h hN)) hv; rely_wp rfl (opr_move (.inl rfl) (hK _ _ (NewT.refl _) hF.1))
                          · exact fun a wx li hT hF hJ hx K hK => have hK := fun v w' (hN : NewT wx w') hv => hK v w' (PW.new hT hN HSZ.out) (JL.new hJ (by decide) (by simp) hN (fun h => PartAt.new h hN) (fun h => PartAt.new h hN)) hv; rely_wp rfl (opr_move (.inl rfl) (hK _ _ (NewT.refl _) hF.1))
                          · exact fun a wx li hT hF hJ hx K hK => have hK := fun v w' (hN : NewT wx w') hv => hK v w' (PW.new hT hN HSZ.out) (JL.new hJ (by decide) (by simp) hN (fun h => PartAt.new h hN) (fun h => PartAt.new h hN)) hv; rely_wp rfl (opr_idxB actEl HKL.out rfl rfl hF.1 hF.2.1 (hK _ _ (NewT.refl _) rfl))
                          · exact fun a wx li hT hF hJ hx K hK => have hK := fun v w' (hN : NewT wx w') hv => hK v w' (PW.new hT hN HSZ.out) (JL.new hJ (by decide) (by simp) hN (fun h => PartAt.new h hN) (fun h => PartAt.new h hN)) hv; rely_wp rfl (opr_fldAc2 rfl hF.1 (hK _ _ (NewT.refl _) rfl))
                          · exact fun a wx li hT hF hJ hx K hK => have hK := fun v w' (hN : NewT wx w') hv => hK v w' (PW.new hT hN HSZ.out) (JL.new hJ (by decide) (by simp) hN (fun h => PartAt.new h hN) (fun h => PartAt.new h hN)) hv; rely_wp rfl (opr_ld1 Tryd.underlying4 rfl rfl hF.1 ((hT.cell ((HM.out.out.cell (cell_lt (HC2.out))).trans (HC2.out)) (.inl (Nat.lt_of_lt_of_le HLB.out HLO.out.2.2.2)))) (hK _ _ (NewT.refl _) rfl))
                          · intro a wx li hT hF hJ hx K hK
                            obtain ⟨f99, f104, f109, _⟩ := hF
                            have f99 : a.tmps.getD 99 undef = .pointer (some ⟨gp, 0, none⟩) := f99
                            have f104 : a.tmps.getD 104 undef = .agg (rowA 41 (clF y.c)) := f104
                            have f109 : a.tmps.getD 109 undef = .bool (y.r) := f109
                            refine rely_wp rfl ?_
                            refine opr_call rfl Tryd.func13 (by kernel_rfl) (by kernel_rfl) (vs := #[.pointer (some ⟨gp, 0, none⟩), .agg (rowA 41 (clF y.c)), .bool y.r]) (by simp only [List.map_toArray, List.map_cons, List.map_nil, eval_tmp, f99, f104, f109]) ((Take_k hX wx (hT.tables HTW.out HLO.out.1) HLO.out.1 (hJ.pre hx.no) HB.out HX.out HL2.out).mono ?_)
                            rintro ex w4 ⟨rfl, hP4, hA4⟩
                            exact ⟨_, rfl, hK _ _ (hT.pt hP4) (JL.call hJ hx (by decide) (by simp) hA4 (fun b F hb hr => hP4.row hr (.inr (Nat.le_trans HPW.out hb)))) rfl⟩
                          · exact fun a wx li hT hF hJ hx K hK => have hK := fun v w' (hN : NewT wx w') hv => hK v w' (PW.new hT hN HSZ.out) (JL.new hJ (by decide) (by simp) hN (fun h => PartAt.new h hN) (fun h => PartAt.new h hN)) hv; rely_wp rfl (opr_move (.inl rfl) (hK _ _ (NewT.refl _) hF.1))
                          · exact fun a wx li hT hF hJ hx K hK => have hK := fun v w' (hN : NewT wx w') hv => hK v w' (PW.new hT hN HSZ.out) (JL.new hJ (by decide) (by simp) hN (fun h => PartAt.new h hN) (fun h => PartAt.new h hN)) hv; rely_wp rfl (opr_ext rfl hF.1 rfl (hK _ _ (NewT.refl _) rfl))
                          · exact fun a wx li hT hF hJ hx K hK => have hK := fun v w' (hN : NewT wx w') hv => hK v w' (PW.new hT hN HSZ.out) (JL.new hJ (by decide) (by simp) hN (fun h => PartAt.new h hN) (fun h => PartAt.new h hN)) hv; rely_wp rfl (opr_ext rfl hF.1 rfl (hK _ _ (NewT.refl _) rfl))
                          · intro a wx li hT hF hJ hx K hK
                            refine rely_wp rfl ?_
                            refine opr_allocV rfl run_alloc_cl ?_
                            exact hK _ _ (PW.new hT (NewT.alloc _ _) HSZ.out) (JL.alloc hJ hx (by decide) hT.below.size (fun h => PartAt.new h (NewT.alloc _ _)) (fun h => PartAt.new h (NewT.alloc _ _))) ⟨_, rfl⟩
                          · intro a wx li hT hF hJ hx K hK
                            obtain ⟨f12, f111, _⟩ := hF
                            replace f12 := show (svPtV).pred (a.tmps.getD 12 undef) wx from f12
                            have f111 : a.tmps.getD 111 undef = .agg (rowA 41 (clF x)) := f111
                            refine rely_wp rfl ?_
                            obtain ⟨bv, hbv⟩ := f12
                            obtain ⟨hb2, F0, hb3, _⟩ := hJ.var (hx.waits 15 (by kernel_rfl)) bv hbv
                            refine opr_putmB (g := bv) (o0 := 0) (m := 41) (f := clF x) (F := clF x) rfl hbv f111 hb3 (by decide) info_cl (clF_one _) (put_allN _ _ _) ?_
                            intro w' hR hO hr2
                            exact hK _ _ (hT.store hb2 HSZ.out hR) (JL.store hJ hx (by decide) (hx.waits 15 (by kernel_rfl)) hbv hb2 hr2 (fun h => h.of hR.size fun k _ hk => hO k (by have := h.lt; omega) (by have := HPW.out; omega)) (fun h => h.of hR.size fun k _ hk => hO k (by have := h.lt; omega) (by have := HPW.out; omega))) trivial
                          · intro w13 k13
                            iterate 15 (intro u h; obtain rfl := Eq.symm (h (by simp)); clear h)
                            intro u h; obtain ⟨p12, hv⟩ := (h (by simp)); clear h; subst hv
                            intro _ _
                            refine relyEnd_nil rfl ?_
                            intro hJ
                            simp only [Act.put, List.setIfInBounds_toArray, List.set_cons_zero, List.set_cons_succ]
                            obtain ⟨hBw, hbz, hrz⟩ := JL.at (g := p12) hJ (by decide) (by kernel_rfl)
                            refine opr_move (.inr rfl) ?_
                            go_simp
                            clear hJ
                            obtain ⟨ga, h_ga⟩ : ∃ g_, p12 = g_ := ⟨_, rfl⟩
                            rw [h_ga] at hbz hrz
                            simp only [h_ga]
                            clear h_ga
                            have HGga : Hid (hi ≤ ga ∧ (gr + 1) ≤ ga ∧ w.heap.size ≤ ga) := Lib.hid ⟨Nat.le_trans HPA.out.lt.2.2 hbz, Nat.le_trans HRA.out.lt.2.2 hbz, Nat.le_trans HM.out.out.size hbz⟩
                            replace HM := Lib.hid (NewT.of (HM.out.out.trans (k13.below.mono (by have h_0 := HG.out; have h_1 := HLO.out; have h_2 := HGgr.out; omega))))
                            replace HPA := Lib.hid hBw
                            replace HRA := Lib.hid (HRA.out.pt k13.end)
                            have Rga := Lib.hid hrz
                            clear hrz hBw hbz k13 HPW HSZ HTW
                            go_upto_region 19 with fail
                            have HPW : Hid ((gr + 1) ≤ w13.heap.size) := Lib.hid HRA.out.lt.2.2
                            have HSZ : Hid (gr ≤ w13.heap.size) := Lib.hid (by have := HRA.out.lt; omega)
                            refine wp_region_relyL (PW w13 gr (gr + 1)) (JL 11 15 16 14 (fun w => RefAt w hi gr n e pv wv need L) (fun w => RefAt w hi gr n e pv wv need L2) w13 34 41 (clF x)) [SV.eq (.pointer (some ⟨gr, 0, none⟩)), SV.eq ((.slice (some ⟨lb, lof, none⟩) l.length lc)), SV.eq (.int .i64 ((k : Int))), SV.eq (.pointer (some ⟨lb, lof + k * 43, none⟩)), SV.eq (.pointer (some ⟨lb, lof + k * 43 + 1, none⟩)), SV.eq (.agg (rowA 41 (clF y.c))), SV.eq ((.slice (some ⟨lb, lof, none⟩) l.length lc)), SV.eq (.int .i64 ((k : Int))), SV.eq (.pointer (some ⟨lb, lof + k * 43, none⟩)), SV.eq (.pointer (some ⟨lb, lof + k * 43 + 42, none⟩)), SV.eq (.bool (y.r)), SV.eq ((.tuple #[.agg (rowA 41 (clF x)), .bool b])), SV.eq ((.tuple #[.agg (rowA 41 (clF x)), .bool b])), SV.eq (.agg (rowA 41 (clF x))), SV.eq (.bool (b)), svPtV, SV.any] [([(10, none)], none), ([(2, none)], none), ([(11, none)], none), ([(115, some 1), (116, some 2)], none), ([(117, some 3)], none), ([(118, some 4)], none), ([(2, none)], none), ([(11, none)], none), ([(120, some 6), (121, some 7)], none), ([(122, some 8)], none), ([(123, some 9)], none), ([(114, some 0), (119, some 5), (124, some 10)], none), ([(125, some 11)], none), ([(113, some 12)], none), ([(113, some 12)], none), ([], none), ([(14, some 15), (126, some 13)], none)] 153 rfl (by kernel_rfl) rfl (by kernel_rfl) (by kernel_rfl) rfl PW.trans (PW.drew _) (JL.start (HRA.out.new (NewT.drew _)) _) (Nat.le_of_ble_eq_true rfl) ⟨?_, ?_, ?_, ?_, ?_, ?_, ?_, ?_, ?_, ?_, ?_, ?_, ?_, ?_, ?_, ?_, ?_, trivial⟩ ?_
                            · exact fun a wx li hT hF hJ hx K hK => have hK := fun v w' (hN : NewT wx w') hv => hK v w' (PW.new hT hN HSZ.out) (JL.new hJ (by decide) (by simp) hN (fun h => RefAt.new h hN) (fun h => RefAt.new h hN)) hv; rely_wp rfl (opr_move (.inl rfl) (hK _ _ (NewT.refl _) hF.1))
                            · exact fun a wx li hT hF hJ hx K hK => have hK := fun v w' (hN : NewT wx w') hv => hK v w' (PW.new hT hN HSZ.out) (JL.new hJ (by decide) (by simp) hN (fun h => RefAt.new h hN) (fun h => RefAt.new h hN)) hv; rely_wp rfl (opr_move (.inl rfl) (hK _ _ (NewT.refl _) hF.1))
                            · exact fun a wx li hT hF hJ hx K hK => have hK := fun v w' (hN : NewT wx w') hv => hK v w' (PW.new hT hN HSZ.out) (JL.new hJ (by decide) (by simp) hN (fun h => RefAt.new h hN) (fun h => RefAt.new h hN)) hv; rely_wp rfl (opr_move (.inl rfl) (hK _ _ (NewT.refl _) hF.1))
                            · exact fun a wx li hT hF hJ hx K hK => have hK := fun v w' (hN : NewT wx w') hv => hK v w' (PW.new hT hN HSZ.out) (JL.new hJ (by decide) (by simp) hN (fun h => RefAt.new h hN) (fun h => RefAt.new h hN)) hv; rely_wp rfl (opr_idxB actEl HKL.out rfl rfl hF.1 hF.2.1 (hK _ _ (NewT.refl _) rfl))
                            · exact fun a wx li hT hF hJ hx K hK => have hK := fun v w' (hN : NewT wx w') hv => hK v w' (PW.new hT hN HSZ.out) (JL.new hJ (by decide) (by simp) hN (fun h => RefAt.new h hN) (fun h => RefAt.new h hN)) hv; rely_wp rfl (opr_fldAc1 rfl hF.1 (hK _ _ (NewT.refl _) rfl))
                            · exact fun a wx li hT hF hJ hx K hK => have hK := fun v w' (hN : NewT wx w') hv => hK v w' (PW.new hT hN HSZ.out) (JL.new hJ (by decide) (by simp) hN (fun h => RefAt.new h hN) (fun h => RefAt.new h hN)) hv; rely_wp rfl (opr_ldClC (c := y.c) (fun j hj => (hT.cell ((HM.out.out.cell (cell_lt (HC1.out j hj))).trans (HC1.out j hj)) (.inl (Nat.lt_of_lt_of_le HLB.out HGgr.out.2.2)))) rfl hF.1 (hK _ _ (NewT.refl _) rfl))
                            · exact fun a wx li hT hF hJ hx K hK => have hK := fun v w' (hN : NewT wx w') hv => hK v w' (PW.new hT hN HSZ.out) (JL.new hJ (by decide) (by simp) hN (fun h => RefAt.new h hN) (fun h => RefAt.new h hN)) hv; rely_wp rfl (opr_move (.inl rfl) (hK _ _ (NewT.refl _) hF.1))
                            · exact fun a wx li hT hF hJ hx K hK => have hK := fun v w' (hN : NewT wx w') hv => hK v w' (PW.new hT hN HSZ.out) (JL.new hJ (by decide) (by simp) hN (fun h => RefAt.new h hN) (fun h => RefAt.new h hN)) hv; rely_wp rfl (opr_move (.inl rfl) (hK _ _ (NewT.refl _) hF.1))
                            · exact fun a wx li hT hF hJ hx K hK => have hK := fun v w' (hN : NewT wx w') hv => hK v w' (PW.new hT hN HSZ.out) (JL.new hJ (by decide) (by simp) hN (fun h => RefAt.new h hN) (fun h => RefAt.new h hN)) hv; rely_wp rfl (opr_idxB actEl HKL.out rfl rfl hF.1 hF.2.1 (hK _ _ (NewT.refl _) rfl))
                            · exact fun a wx li hT hF hJ hx K hK => have hK := fun v w' (hN : NewT wx w') hv => hK v w' (PW.new hT hN HSZ.out) (JL.new hJ (by decide) (by simp) hN (fun h => RefAt.new h hN) (fun h => RefAt.new h hN)) hv; rely_wp rfl (opr_fldAc2 rfl hF.1 (hK _ _ (NewT.refl _) rfl))
                            · exact fun a wx li hT hF hJ hx K hK => have hK := fun v w' (hN : NewT wx w') hv => hK v w' (PW.new hT hN HSZ.out) (JL.new hJ (by decide) (by simp) hN (fun h => RefAt.new h hN) (fun h => RefAt.new h hN)) hv; rely_wp rfl (opr_ld1 Tryd.underlying4 rfl rfl hF.1 ((hT.cell ((HM.out.out.cell (cell_lt (HC2.out))).trans (HC2.out)) (.inl (Nat.lt_of_lt_of_le HLB.out HGgr.out.2.2)))) (hK _ _ (NewT.refl _) rfl))
                            · intro a wx li hT hF hJ hx K hK
                              obtain ⟨f114, f119, f124, _⟩ := hF
                              have f114 : a.tmps.getD 114 undef = .pointer (some ⟨gr, 0, none⟩) := f114
                              have f119 : a.tmps.getD 119 undef = .agg (rowA 41 (clF y.c)) := f119
                              have f124 : a.tmps.getD 124 undef = .bool (y.r) := f124
                              refine rely_wp rfl ?_
                              refine opr_call rfl Tryd.func17 (by kernel_rfl) (by kernel_rfl) (vs := #[.pointer (some ⟨gr, 0, none⟩), .agg (rowA 41 (clF y.c)), .bool y.r]) (by simp only [List.map_toArray, List.map_cons, List.map_nil, eval_tmp, f114, f119, f124]) ((rTake_k hX w wx (NewT.of (HM.out.out.trans (hT.below.mono HGgr.out.2.2))) HTT.out HPP.out HWW.out (hJ.pre hx.no) HGgr.out.2.2 HLL.out.1 HB.out HX.out HL2.out).mono ?_)
                              rintro ex w4 ⟨rfl, hP4, hA4⟩
                              exact ⟨_, rfl, hK _ _ (hT.pt hP4) (JL.call hJ hx (by decide) (by simp) hA4 (fun b F hb hr => hP4.row hr (.inr (Nat.le_trans HPW.out hb)))) rfl⟩
                            · exact fun a wx li hT hF hJ hx K hK => have hK := fun v w' (hN : NewT wx w') hv => hK v w' (PW.new hT hN HSZ.out) (JL.new hJ (by decide) (by simp) hN (fun h => RefAt.new h hN) (fun h => RefAt.new h hN)) hv; rely_wp rfl (opr_move (.inl rfl) (hK _ _ (NewT.refl _) hF.1))
                            · exact fun a wx li hT hF hJ hx K hK => have hK := fun v w' (hN : NewT wx w') hv => hK v w' (PW.new hT hN HSZ.out) (JL.new hJ (by decide) (by simp) hN (fun h => RefAt.new h hN) (fun h => RefAt.new h hN)) hv; rely_wp rfl (opr_ext rfl hF.1 rfl (hK _ _ (NewT.refl _) rfl))
                            · exact fun a wx li hT hF hJ hx K hK => have hK := fun v w' (hN : NewT wx w') hv => hK v w' (PW.new hT hN HSZ.out) (JL.new hJ (by decide) (by simp) hN (fun h => RefAt.new h hN) (fun h => RefAt.new h hN)) hv; rely_wp rfl (opr_ext rfl hF.1 rfl (hK _ _ (NewT.refl _) rfl))
                            · intro a wx li hT hF hJ hx K hK
                              refine rely_wp rfl ?_
                              refine opr_allocV rfl run_alloc_cl ?_
                              exact hK _ _ (PW.new hT (NewT.alloc _ _) HSZ.out) (JL.alloc hJ hx (by decide) hT.below.size (fun h => RefAt.new h (NewT.alloc _ _)) (fun h => RefAt.new h (NewT.alloc _ _))) ⟨_, rfl⟩
                            · intro a wx li hT hF hJ hx K hK
                              obtain ⟨f14, f126, _⟩ := hF
                              replace f14 := show (svPtV).pred (a.tmps.getD 14 undef) wx from f14
                              have f126 : a.tmps.getD 126 undef = .agg (rowA 41 (clF x)) := f126
                              refine rely_wp rfl ?_
                              obtain ⟨bv, hbv⟩ := f14
                              obtain ⟨hb2, F0, hb3, _⟩ := hJ.var (hx.waits 15 (by kernel_rfl)) bv hbv
                              refine opr_putmB (g := bv) (o0 := 0) (m := 41) (f := clF x) (F := clF x) rfl hbv f126 hb3 (by decide) info_cl (clF_one _) (put_allN _ _ _) ?_
                              intro w' hR hO hr2
                              exact hK _ _ (hT.store hb2 HSZ.out hR) (JL.store hJ hx (by decide) (hx.waits 15 (by kernel_rfl)) hbv hb2 hr2 (fun h => h.rt hR hb3 (by decide) (by have h1 := HPW.out; omega)) (fun h => h.rt hR hb3 (by decide) (by have h1 := HPW.out; omega))) trivial
                            · intro w14 k14
                              iterate 15 (intro u h; obtain rfl := Eq.symm (h (by simp)); clear h)
                              intro u h; obtain ⟨p14, hv⟩ := (h (by simp)); clear h; subst hv
                              intro _ _
                              refine relyEnd_nil rfl ?_
                              intro hJ
                              simp only [Act.put, List.setIfInBounds_toArray, List.set_cons_zero, List.set_cons_succ]
                              obtain ⟨hBw, hbz, hrz⟩ := JL.at (g := p14) hJ (by decide) (by kernel_rfl)
                              refine opr_move (.inr rfl) ?_
                              go_simp
                              clear hJ
                              obtain ⟨gb, h_gb⟩ : ∃ g_, p14 = g_ := ⟨_, rfl⟩
                              rw [h_gb] at hbz hrz
                              simp only [h_gb]
                              clear h_gb
                              have HGgb : Hid (ga < gb ∧ hi ≤ gb ∧ (gr + 1) ≤ gb ∧ w.heap.size ≤ gb) := Lib.hid ⟨Nat.lt_of_lt_of_le Rga.out.lt hbz, Nat.le_trans HPA.out.lt.2.2 hbz, Nat.le_trans HRA.out.lt.2.2 hbz, Nat.le_trans HM.out.out.size hbz⟩
                              replace Rga := Lib.hid (k14.row Rga.out (by have h_0 := HG.out; have h_1 := HLO.out; have h_2 := HGgr.out; have h_3 := HGga.out; omega))
                              replace HM := Lib.hid (NewT.of (HM.out.out.trans (k14.below.mono (by have h_0 := HG.out; have h_1 := HLO.out; have h_2 := HGgr.out; have h_3 := HGga.out; omega))))
                              replace HRA := Lib.hid hBw
                              replace HPA := Lib.hid (HPA.out.pt k14.end (.inl HGgr.out.2.1))
                              have Rgb := Lib.hid hrz
                              clear hrz hBw hbz k14 HPW HSZ
                              go_upto_region 20 with fail
                              refine wp_region_steps0 NewT [SV.eq (.agg (rowA 41 (clF x))), SV.eq (.agg (rowA 41 (clF x))), SV.eq (.bool false), SV.eq (.bool false), SV.eq (.bool (b)), SV.eq (.bool (b)), SV.eq (.bool false), SV.eq (.bool false)] [([(12, none)], none), ([(14, none)], none), ([(128, some 0), (129, some 1)], none), ([(130, some 2)], none), ([(13, none), (131, some 3)], some (131, false)), ([(15, none), (131, some 3)], some (131, false)), ([(132, some 4), (133, some 5), (131, some 3)], some (131, false)), ([(131, some 3), (134, some 6)], none)] 153 8 rfl rfl (by kernel_rfl) NewT.trans (NewT.refl _) (Nat.le_of_ble_eq_true rfl) ⟨?_, ?_, ?_, ?_, ?_, ?_, ?_, ?_, trivial⟩ ?_
                              · exact fun a wx hT hF K hK => rely_wp rfl (opr_ldCl (hT.row Rga.out) rfl hF.1 (hK _ _ (NewT.refl _) rfl))
                              · exact fun a wx hT hF K hK => rely_wp rfl (opr_ldCl (hT.row Rgb.out) rfl hF.1 (hK _ _ (NewT.refl _) rfl))
                              · exact fun a wx hT hF K hK => rely_wp rfl (opr_neqCl rfl hF.1 hF.2.1 (hK _ _ (NewT.refl _) (congrArg (fun z => Value.bool (!z)) (eqC_self x))))
                              · exact fun a wx hT hF K hK => rely_wp rfl (opr_move (.inl rfl) (hK _ _ (NewT.refl _) hF.1))
                              · exact fun a wx hT hF K hK => rely_wp (rely_guard hF.2.1) (opr_move (.inl rfl) (hK _ _ (NewT.refl _) hF.1))
                              · exact fun a wx hT hF K hK => rely_wp (rely_guard hF.2.1) (opr_move (.inl rfl) (hK _ _ (NewT.refl _) hF.1))
                              · exact fun a wx hT hF K hK => rely_wp (rely_guard hF.2.2.1) (opr_neqQ (b := false) (bne_self_eq_false _) rfl hF.1 hF.2.1 (hK _ _ (NewT.refl _) rfl))
                              · exact fun a wx hT hF K hK => rely_wp rfl (opr_pick_false rfl hF.1 (hK _ _ (NewT.refl _) hF.2.1))
                              · intro w15 k15
                                iterate 8 (intro u h; obtain rfl := Eq.symm (h (by simp)); clear h)
                                refine relyEnd_nil rfl ?_
                                refine wpList_end rfl ?_
                                simp only [Act.put, List.setIfInBounds_toArray, List.set_cons_zero, List.set_cons_succ]
                                go_simp
                                replace Rga := Lib.hid (k15.row Rga.out)
                                replace Rgb := Lib.hid (k15.row Rgb.out)
                                replace HPA := Lib.hid (HPA.out.new k15)
                                replace HRA := Lib.hid (HRA.out.new k15)
                                replace HM := Lib.hid (NewT.trans _ _ _ HM.out k15)
                                clear k15
                                clear Rga Rgb
                                obtain ⟨sv, hrr, hro, _⟩ := HRA.out
                                have Rgr := Lib.hid hrr
                                have HOW := Lib.hid hro
                                clear hrr hro
                                go_upto_region 22 with fail
                                refine wp_region_rely (NewT) [SV.eq (.pointer (some ⟨gp, 0, none⟩)), SV.eq (.int .i64 (e)), SV.eq (.pointer (some ⟨gr, 0, none⟩)), SV.eq (.pointer (some ⟨gr, 0, none⟩)), SV.eq (.pointer (some ⟨gr, 4, none⟩)), SV.eq (.int .i64 (e)), SV.eq (.bool false), SV.eq (.bool false), SV.eq (.pointer (some ⟨gp, 0, none⟩)), svL 4 eyE (L2), SV.eq (.pointer (some ⟨gr, 0, none⟩)), SV.eq (.pointer (some ⟨gr, 0, none⟩)), SV.eq (.pointer (some ⟨gr, 5, none⟩)), SV.eq (sv), SV.eq (.bool true), SV.eq (.bool false)] [([(7, none)], none), ([(136, some 0)], none), ([(10, none)], none), ([(138, some 2)], none), ([(139, some 3)], none), ([(140, some 4)], none), ([(137, some 1), (141, some 5)], none), ([(142, some 6)], none), ([(7, none), (143, some 7)], some (143, false)), ([(144, some 8), (143, some 7)], some (143, false)), ([(10, none), (143, some 7)], some (143, false)), ([(146, some 10), (143, some 7)], some (143, false)), ([(147, some 11), (143, some 7)], some (143, false)), ([(148, some 12), (143, some 7)], some (143, false)), ([(145, some 9), (149, some 13), (143, some 7)], some (143, false)), ([(150, some 14), (143, some 7)], some (143, false))] 153 rfl (by kernel_rfl) rfl (by kernel_rfl) (by kernel_rfl) rfl NewT.trans (NewT.drew _) (Nat.le_of_ble_eq_true rfl) ⟨?_, ?_, ?_, ?_, ?_, ?_, ?_, ?_, ?_, ?_, ?_, ?_, ?_, ?_, ?_, ?_, trivial⟩ ?_
                                · exact fun a wx hT hF K hK => rely_wp rfl (opr_move (.inl rfl) (hK _ _ (NewT.refl _) hF.1))
                                · exact fun a wx hT hF K hK => rely_wp rfl (opr_cv (Epoch_a wx (HPA.out.new hT)) rfl Tryd.func15 (by kernel_rfl) (by kernel_rfl) (evs1 hF.1) hK)
                                · exact fun a wx hT hF K hK => rely_wp rfl (opr_move (.inl rfl) (hK _ _ (NewT.refl _) hF.1))
                                · exact fun a wx hT hF K hK => rely_wp rfl (opr_nilc rfl hF.1 (hK _ _ (NewT.refl _) rfl))
                                · exact fun a wx hT hF K hK => rely_wp rfl (opr_fldRp2 rfl hF.1 (hK _ _ (NewT.refl _) rfl))
                                · exact fun a wx hT hF K hK => rely_wp rfl (opr_ldI (hT.row Rgr.out) (by decide) rfl rfl hF.1 (hK _ _ (NewT.refl _) rfl))
                                · exact fun a wx hT hF K hK => rely_wp rfl (opr_cmp (b := false) (.inr (.inl ⟨rfl, (by exact bne_self_eq_false _)⟩)) Tryd.underlying3 rfl hF.1 hF.2.1 (hK _ _ (NewT.refl _) rfl))
                                · exact fun a wx hT hF K hK => rely_wp rfl (opr_move (.inl rfl) (hK _ _ (NewT.refl _) hF.1))
                                · exact fun a wx hT hF K hK => rely_wp (rely_guard hF.2.1) (opr_move (.inl rfl) (hK _ _ (NewT.refl _) hF.1))
                                · exact fun a wx hT hF K hK => rely_wp (rely_guard hF.2.1) (opr_cv (Entries_L wx (HPA.out.new hT) (by have := HLL.out; omega)) rfl Tryd.func16 (by kernel_rfl) (by kernel_rfl) (evs1 hF.1) hK)
                                · exact fun a wx hT hF K hK => rely_wp (rely_guard hF.2.1) (opr_move (.inl rfl) (hK _ _ (NewT.refl _) hF.1))
                                · exact fun a wx hT hF K hK => rely_wp (rely_guard hF.2.1) (opr_nilc rfl hF.1 (hK _ _ (NewT.refl _) rfl))
                                · exact fun a wx hT hF K hK => rely_wp (rely_guard hF.2.1) (opr_fldRp3 rfl hF.1 (hK _ _ (NewT.refl _) rfl))
                                · exact fun a wx hT hF K hK => rely_wp (rely_guard hF.2.1) (opr_ldEs (hT.row Rgr.out) (by decide) rfl rfl hF.1 (hK _ _ (NewT.refl _) rfl))
                                · exact fun a wx hT hF K hK => rely_wp (rely_guard hF.2.2.1) (opr_cv (rEntries_cv L2 wx hF.1 ((own_ents HOW.out).new hT) (by have := HLL.out; omega)) rfl Tryd.func18 (by kernel_rfl) (by kernel_rfl) (evs2 rfl hF.2.1) hK)
                                · exact fun a wx hT hF K hK => rely_wp (rely_guard hF.2.1) (opr_not rfl hF.1 (hK _ _ (NewT.refl _) rfl))
                                · intro w16 k16
                                  iterate 9 (intro u h; obtain rfl := Eq.symm (h (by simp)); clear h)
                                  intro _ _
                                  iterate 6 (intro u h; obtain rfl := Eq.symm (h (by simp)); clear h)
                                  refine relyEnd_nil rfl ?_
                                  simp only [Act.put, List.setIfInBounds_toArray, List.set_cons_zero, List.set_cons_succ]
                                  refine opr_pick_false rfl rfl ?_
                                  go_simp
                                  replace Rgr := Lib.hid (k16.row Rgr.out)
                                  replace HPA := Lib.hid (HPA.out.new k16)
                                  replace HRA := Lib.hid (HRA.out.new k16)
                                  replace HOW := Lib.hid (HOW.out.new k16)
                                  replace HM := Lib.hid (NewT.trans _ _ _ HM.out k16)
                                  clear k16
                                  clear Rgr HOW
                                  have hk2 := HGE.out
                                  have hk3 := HLE.out
                                  have HLK2 : Hid ((L2).length ≤ k + 1) := Lib.hid (by have h1 := HLK.out; have h2 := HLL.out; omega)
                                  go_wp2
                                  go_roundw
                                  case rel => exact ⟨k + 1, L2, e, by omega, by go_num, by first | exact HM | trivial, by first | exact HPA | trivial, by first | exact HRA | trivial, HLK2, HEB⟩
                                  case measure => simp [intOf]; omega
                        · clear hb
                          have HLL : Hid (L.length ≤ 900000) := Lib.hid (by have h1 := HLK.out; have h2 := HLE.out; have h3 := HGE.out; omega)
                          obtain ⟨sv, hrr, hro, _⟩ := HRA.out
                          have Rgr := Lib.hid hrr
                          have HOW := Lib.hid hro
                          clear hrr hro
                          go_upto_region 14 with fail
                          have HPW : Hid (hi ≤ w12.heap.size) := Lib.hid HPA.out.lt.2.2
                          have HSZ : Hid (lo ≤ w12.heap.size) := Lib.hid (by have := HPA.out.lt; omega)
                          refine wp_region_relyL (PW w12 lo hi) (JL 1 5001 5002 5000 (fun w => PartAt w lo hi gp n e ps ws need L) (fun w => PartAt w lo hi gp n (rotE e) ps ws need L) w12 0 0 (fun _ => undef)) [SV.eq (.pointer (some ⟨gp, 0, none⟩)), SV.eq (.bool (decide (e < 400))), SV.eq (.pointer (some ⟨gr, 0, none⟩)), SV.eq (.pointer (some ⟨gr, 0, none⟩)), SV.eq (.pointer (some ⟨gr, 4, none⟩)), SV.eq (.int .i64 (e)), SV.eq (.bool (decide (e < 400)))] [([(7, none)], none), ([(78, some 0)], none), ([(10, none)], none), ([(80, some 2)], none), ([(81, some 3)], none), ([(82, some 4)], none), ([(83, some 5)], none)] 153 rfl (by kernel_rfl) rfl (by kernel_rfl) (by kernel_rfl) rfl PW.trans (PW.drew _) (JL.start (HPA.out.drew) _) (Nat.le_of_ble_eq_true rfl) ⟨?_, ?_, ?_, ?_, ?_, ?_, ?_, trivial⟩ ?_
                          · exact fun a wx li hT hF hJ hx K hK => have hK := fun v w' (hN : NewT wx w') hv => hK v w' (PW.new hT hN HSZ.out) (JL.new hJ (by decide) (by simp) hN (fun h => PartAt.new h hN) (fun h => PartAt.new h hN)) hv; rely_wp rfl (opr_move (.inl rfl) (hK _ _ (NewT.refl _) hF.1))
                          · intro a wx li hT hF hJ hx K hK
                            obtain ⟨f78, _⟩ := hF
                            have f78 : a.tmps.getD 78 undef = .pointer (some ⟨gp, 0, none⟩) := f78
                            refine rely_wp rfl ?_
                            refine opr_call rfl Tryd.func14 (by kernel_rfl) (by kernel_rfl) (vs := #[.pointer (some ⟨gp, 0, none⟩)]) (by simp only [List.map_toArray, List.map_cons, List.map_nil, eval_tmp, f78]) ((Rotate_c wx HEB.out (hJ.pre hx.no)).mono ?_)
                            rintro ex w4 ⟨rfl, hP4, hA4⟩
                            exact ⟨_, rfl, hK _ _ (hT.pt hP4) (JL.call hJ hx (by decide) (by simp) hA4 (fun b F hb hr => hP4.row hr (.inr (Nat.le_trans HPW.out hb)))) (congrArg Value.bool (rot_said HEB.out))⟩
                          · exact fun a wx li hT hF hJ hx K hK => have hK := fun v w' (hN : NewT wx w') hv => hK v w' (PW.new hT hN HSZ.out) (JL.new hJ (by decide) (by simp) hN (fun h => PartAt.new h hN) (fun h => PartAt.new h hN)) hv; rely_wp rfl (opr_move (.inl rfl) (hK _ _ (NewT.refl _) hF.1))
                          · exact fun a wx li hT hF hJ hx K hK => have hK := fun v w' (hN : NewT wx w') hv => hK v w' (PW.new hT hN HSZ.out) (JL.new hJ (by decide) (by simp) hN (fun h => PartAt.new h hN) (fun h => PartAt.new h hN)) hv; rely_wp rfl (opr_nilc rfl hF.1 (hK _ _ (NewT.refl _) rfl))
                          · exact fun a wx li hT hF hJ hx K hK => have hK := fun v w' (hN : NewT wx w') hv => hK v w' (PW.new hT hN HSZ.out) (JL.new hJ (by decide) (by simp) hN (fun h => PartAt.new h hN) (fun h => PartAt.new h hN)) hv; rely_wp rfl (opr_fldRp2 rfl hF.1 (hK _ _ (NewT.refl _) rfl))
                          · exact fun a wx li hT hF hJ hx K hK => have hK := fun v w' (hN : NewT wx w') hv => hK v w' (PW.new hT hN HSZ.out) (JL.new hJ (by decide) (by simp) hN (fun h => PartAt.new h hN) (fun h => PartAt.new h hN)) hv; rely_wp rfl (opr_ldI (hT.row Rgr.out (by have h_0 := HG.out; have h_1 := HLO.out; have h_2 := HGgr.out; omega)) (by decide) rfl rfl hF.1 (hK _ _ (NewT.refl _) rfl))
                          · exact fun a wx li hT hF hJ hx K hK => have hK := fun v w' (hN : NewT wx w') hv => hK v w' (PW.new hT hN HSZ.out) (JL.new hJ (by decide) (by simp) hN (fun h => PartAt.new h hN) (fun h => PartAt.new h hN)) hv; rely_wp rfl (opr_cmp (b := decide (e < 400)) (.inr (.inr (.inr (.inl ⟨rfl, rfl⟩)))) Tryd.underlying3 rfl hF.1 rfl (hK _ _ (NewT.refl _) rfl))
                          · intro w17 k17
                            iterate 7 (intro u h; obtain rfl := Eq.symm (h (by simp)); clear h)
                            refine relyEnd_nil rfl ?_
                            intro hJ
                            simp only [Act.put, List.setIfInBounds_toArray, List.set_cons_zero, List.set_cons_succ]
                            have hBw := JL.atc hJ (by decide)
                            refine opr_neqQ (p := decide (e < 400)) (q := decide (e < 400)) (b := false) (bne_self_eq_false _) rfl rfl rfl ?_
                            go_simp
                            clear hJ
                            replace Rgr := Lib.hid (k17.row Rgr.out (by have h_0 := HG.out; have h_1 := HLO.out; have h_2 := HGgr.out; omega))
                            replace HM := Lib.hid (NewT.of (HM.out.out.trans (k17.below.mono (by have h_0 := HG.out; have h_1 := HLO.out; have h_2 := HGgr.out; omega))))
                            replace HRA := Lib.hid (HRA.out.pt k17.end)
                            replace HPA := Lib.hid hBw
                            clear hBw k17 HPW HSZ
                            clear Rgr HOW
                            obtain ⟨sv, hrr, hro, _⟩ := HRA.out
                            have Rgr := Lib.hid hrr
                            have HOW := Lib.hid hro
                            clear hrr hro
                            go_upto_region 16 with fail
                            refine wp_region_steps0 NewT [SV.eq (.pointer (some ⟨gr, 0, none⟩)), SV.eq (.pointer (some ⟨gr, 0, none⟩)), SV.eq (.pointer (some ⟨gr, 4, none⟩)), SV.eq (.int .i64 (e)), SV.eq (.bool (decide (e < 400)))] [([(10, none)], none), ([(86, some 0)], none), ([(87, some 1)], none), ([(88, some 2)], none), ([(89, some 3)], none)] 153 5 rfl rfl (by kernel_rfl) NewT.trans (NewT.refl _) (Nat.le_of_ble_eq_true rfl) ⟨?_, ?_, ?_, ?_, ?_, trivial⟩ ?_
                            · exact fun a wx hT hF K hK => rely_wp rfl (opr_move (.inl rfl) (hK _ _ (NewT.refl _) hF.1))
                            · exact fun a wx hT hF K hK => rely_wp rfl (opr_nilc rfl hF.1 (hK _ _ (NewT.refl _) rfl))
                            · exact fun a wx hT hF K hK => rely_wp rfl (opr_fldRp2 rfl hF.1 (hK _ _ (NewT.refl _) rfl))
                            · exact fun a wx hT hF K hK => rely_wp rfl (opr_ldI (hT.row Rgr.out) (by decide) rfl rfl hF.1 (hK _ _ (NewT.refl _) rfl))
                            · exact fun a wx hT hF K hK => rely_wp rfl (opr_cmp (b := decide (e < 400)) (.inr (.inr (.inr (.inl ⟨rfl, rfl⟩)))) Tryd.underlying3 rfl hF.1 rfl (hK _ _ (NewT.refl _) rfl))
                            · intro w18 k18
                              iterate 5 (intro u h; obtain rfl := Eq.symm (h (by simp)); clear h)
                              refine relyEnd_nil rfl ?_
                              refine wpList_end rfl ?_
                              simp only [Act.put, List.setIfInBounds_toArray, List.set_cons_zero, List.set_cons_succ]
                              go_simp
                              replace Rgr := Lib.hid (k18.row Rgr.out)
                              replace HPA := Lib.hid (HPA.out.new k18)
                              replace HRA := Lib.hid (HRA.out.new k18)
                              replace HOW := Lib.hid (HOW.out.new k18)
                              replace HM := Lib.hid (NewT.trans _ _ _ HM.out k18)
                              clear k18
                              cases hb : (decide (e < 400))
                              · have HRE : Hid (rotE e = e) := Lib.hid (by have h1 := HEB.out; have h2 : ¬ e < 400 := of_decide_eq_false hb; unfold rotE; rw [if_pos (by omega)])
                                replace HPA := Lib.hid (HRE.out ▸ HPA.out)
                                clear hb
                                clear Rgr HOW
                                obtain ⟨sv, hrr, hro, _⟩ := HRA.out
                                have Rgr := Lib.hid hrr
                                have HOW := Lib.hid hro
                                clear hrr hro
                                go_upto_region 22 with fail
                                refine wp_region_rely (NewT) [SV.eq (.pointer (some ⟨gp, 0, none⟩)), SV.eq (.int .i64 (e)), SV.eq (.pointer (some ⟨gr, 0, none⟩)), SV.eq (.pointer (some ⟨gr, 0, none⟩)), SV.eq (.pointer (some ⟨gr, 4, none⟩)), SV.eq (.int .i64 (e)), SV.eq (.bool false), SV.eq (.bool false), SV.eq (.pointer (some ⟨gp, 0, none⟩)), svL 4 eyE (L), SV.eq (.pointer (some ⟨gr, 0, none⟩)), SV.eq (.pointer (some ⟨gr, 0, none⟩)), SV.eq (.pointer (some ⟨gr, 5, none⟩)), SV.eq (sv), SV.eq (.bool true), SV.eq (.bool false)] [([(7, none)], none), ([(136, some 0)], none), ([(10, none)], none), ([(138, some 2)], none), ([(139, some 3)], none), ([(140, some 4)], none), ([(137, some 1), (141, some 5)], none), ([(142, some 6)], none), ([(7, none), (143, some 7)], some (143, false)), ([(144, some 8), (143, some 7)], some (143, false)), ([(10, none), (143, some 7)], some (143, false)), ([(146, some 10), (143, some 7)], some (143, false)), ([(147, some 11), (143, some 7)], some (143, false)), ([(148, some 12), (143, some 7)], some (143, false)), ([(145, some 9), (149, some 13), (143, some 7)], some (143, false)), ([(150, some 14), (143, some 7)], some (143, false))] 153 rfl (by kernel_rfl) rfl (by kernel_rfl) (by kernel_rfl) rfl NewT.trans (NewT.drew _) (Nat.le_of_ble_eq_true rfl) ⟨?_, ?_, ?_, ?_, ?_, ?_, ?_, ?_, ?_, ?_, ?_, ?_, ?_, ?_, ?_, ?_, trivial⟩ ?_
                                · exact fun a wx hT hF K hK => rely_wp rfl (opr_move (.inl rfl) (hK _ _ (NewT.refl _) hF.1))
                                · exact fun a wx hT hF K hK => rely_wp rfl (opr_cv (Epoch_a wx (HPA.out.new hT)) rfl Tryd.func15 (by kernel_rfl) (by kernel_rfl) (evs1 hF.1) hK)
                                · exact fun a wx hT hF K hK => rely_wp rfl (opr_move (.inl rfl) (hK _ _ (NewT.refl _) hF.1))
                                · exact fun a wx hT hF K hK => rely_wp rfl (opr_nilc rfl hF.1 (hK _ _ (NewT.refl _) rfl))
                                · exact fun a wx hT hF K hK => rely_wp rfl (opr_fldRp2 rfl hF.1 (hK _ _ (NewT.refl _) rfl))
                                · exact fun a wx hT hF K hK => rely_wp rfl (opr_ldI (hT.row Rgr.out) (by decide) rfl rfl hF.1 (hK _ _ (NewT.refl _) rfl))
                                · exact fun a wx hT hF K hK => rely_wp rfl (opr_cmp (b := false) (.inr (.inl ⟨rfl, (by exact bne_self_eq_false _)⟩)) Tryd.underlying3 rfl hF.1 hF.2.1 (hK _ _ (NewT.refl _) rfl))
                                · exact fun a wx hT hF K hK => rely_wp rfl (opr_move (.inl rfl) (hK _ _ (NewT.refl _) hF.1))
                                · exact fun a wx hT hF K hK => rely_wp (rely_guard hF.2.1) (opr_move (.inl rfl) (hK _ _ (NewT.refl _) hF.1))
                                · exact fun a wx hT hF K hK => rely_wp (rely_guard hF.2.1) (opr_cv (Entries_L wx (HPA.out.new hT) (by have := HLL.out; omega)) rfl Tryd.func16 (by kernel_rfl) (by kernel_rfl) (evs1 hF.1) hK)
                                · exact fun a wx hT hF K hK => rely_wp (rely_guard hF.2.1) (opr_move (.inl rfl) (hK _ _ (NewT.refl _) hF.1))
                                · exact fun a wx hT hF K hK => rely_wp (rely_guard hF.2.1) (opr_nilc rfl hF.1 (hK _ _ (NewT.refl _) rfl))
                                · exact fun a wx hT hF K hK => rely_wp (rely_guard hF.2.1) (opr_fldRp3 rfl hF.1 (hK _ _ (NewT.refl _) rfl))
                                · exact fun a wx hT hF K hK => rely_wp (rely_guard hF.2.1) (opr_ldEs (hT.row Rgr.out) (by decide) rfl rfl hF.1 (hK _ _ (NewT.refl _) rfl))
                                · exact fun a wx hT hF K hK => rely_wp (rely_guard hF.2.2.1) (opr_cv (rEntries_cv L wx hF.1 ((own_ents HOW.out).new hT) (by have := HLL.out; omega)) rfl Tryd.func18 (by kernel_rfl) (by kernel_rfl) (evs2 rfl hF.2.1) hK)
                                · exact fun a wx hT hF K hK => rely_wp (rely_guard hF.2.1) (opr_not rfl hF.1 (hK _ _ (NewT.refl _) rfl))
                                · intro w19 k19
                                  iterate 9 (intro u h; obtain rfl := Eq.symm (h (by simp)); clear h)
                                  intro _ _
                                  iterate 6 (intro u h; obtain rfl := Eq.symm (h (by simp)); clear h)
                                  refine relyEnd_nil rfl ?_
                                  simp only [Act.put, List.setIfInBounds_toArray, List.set_cons_zero, List.set_cons_succ]
                                  refine opr_pick_false rfl rfl ?_
                                  go_simp
                                  replace Rgr := Lib.hid (k19.row Rgr.out)
                                  replace HPA := Lib.hid (HPA.out.new k19)
                                  replace HRA := Lib.hid (HRA.out.new k19)
                                  replace HOW := Lib.hid (HOW.out.new k19)
                                  replace HM := Lib.hid (NewT.trans _ _ _ HM.out k19)
                                  clear k19
                                  clear Rgr HOW
                                  have hk2 := HGE.out
                                  have hk3 := HLE.out
                                  have HLK2 : Hid ((L).length ≤ k + 1) := Lib.hid (by have h1 := HLK.out; have h2 := HLL.out; omega)
                                  go_wp2
                                  go_roundw
                                  case rel => exact ⟨k + 1, L, e, by omega, by go_num, by first | exact HM | trivial, by first | exact HPA | trivial, by first | exact HRA | trivial, HLK2, HEB⟩
                                  case measure => simp [intOf]; omega
                              · have HRE : Hid (rotE e = e + 1 ∧ 0 ≤ e ∧ e < 400) := Lib.hid (by have h1 := HEB.out; have h2 : e < 400 := of_decide_eq_true hb; unfold rotE; rw [if_neg (by omega)]; omega)
                                replace HPA := Lib.hid (HRE.out.1 ▸ HPA.out)
                                clear hb
                                clear HRA
                                go_upto_region 17 with fail
                                refine wp_region_steps0 NewT [SV.eq (.pointer (some ⟨gr, 0, none⟩)), SV.eq (.pointer (some ⟨gr, 0, none⟩)), SV.eq (.pointer (some ⟨gr, 4, none⟩)), SV.eq (.int .i64 (e)), SV.eq (.int .i64 (e + 1)), SV.eq (.pointer (some ⟨gr, 0, none⟩)), SV.eq (.pointer (some ⟨gr, 4, none⟩))] [([(10, none)], none), ([(91, some 0)], none), ([(92, some 1)], none), ([(93, some 2)], none), ([(94, some 3)], none), ([(91, some 0)], none), ([(96, some 5)], none)] 153 7 rfl rfl (by kernel_rfl) NewT.trans (NewT.refl _) (Nat.le_of_ble_eq_true rfl) ⟨?_, ?_, ?_, ?_, ?_, ?_, ?_, trivial⟩ ?_
                                · exact fun a wx hT hF K hK => rely_wp rfl (opr_move (.inl rfl) (hK _ _ (NewT.refl _) hF.1))
                                · exact fun a wx hT hF K hK => rely_wp rfl (opr_nilc rfl hF.1 (hK _ _ (NewT.refl _) rfl))
                                · exact fun a wx hT hF K hK => rely_wp rfl (opr_fldRp2 rfl hF.1 (hK _ _ (NewT.refl _) rfl))
                                · exact fun a wx hT hF K hK => rely_wp rfl (opr_ldI (hT.row Rgr.out) (by decide) rfl rfl hF.1 (hK _ _ (NewT.refl _) rfl))
                                · exact fun a wx hT hF K hK => rely_wp rfl (opr_add (r := e + 1) Tryd.underlying3 (by have := HRE.out; unfold wrap64; omega) rfl hF.1 rfl (hK _ _ (NewT.refl _) rfl))
                                · exact fun a wx hT hF K hK => rely_wp rfl (opr_nilc rfl hF.1 (hK _ _ (NewT.refl _) rfl))
                                · exact fun a wx hT hF K hK => rely_wp rfl (opr_fldRp2 rfl hF.1 (hK _ _ (NewT.refl _) rfl))
                                · intro w20 k20
                                  iterate 7 (intro u h; obtain rfl := Eq.symm (h (by simp)); clear h)
                                  refine relyEnd_nil rfl ?_
                                  simp only [Act.put, List.setIfInBounds_toArray, List.set_cons_zero, List.set_cons_succ]
                                  refine wpList_plain rfl (fun K hK => ?_)
                                  refine opr_put1 (g := gr) (o0 := 4) (v := .int .i64 (e + 1)) (F := rpF pv wv need n (e + 1) sv) rfl rfl rfl (k20.row Rgr.out) (by decide) info_i1 rfl (fun i _ => rpF_e pv wv need n e (e + 1) sv i) ?_
                                  intro W20 hR20 rr20
                                  refine hK _ _ ?_
                                  clear hK K
                                  refine wpList_end rfl ?_
                                  simp only [Act.put, List.setIfInBounds_toArray, List.set_cons_zero, List.set_cons_succ]
                                  go_simp
                                  replace HOW := Lib.hid (HOW.out.new k20)
                                  replace HOW := Lib.hid (HOW.out.rt hR20 (k20.row Rgr.out) (by decide))
                                  replace HPA := Lib.hid (HPA.out.new k20)
                                  replace HPA := Lib.hid (HPA.out.rt hR20 (by have h_0 := HG.out; have h_1 := HLO.out; have h_2 := HGgr.out; omega))
                                  replace Rgr := Lib.hid rr20
                                  replace HM := Lib.hid (NewT.rt (NewT.trans _ _ _ HM.out k20) hR20 (by have h_0 := HG.out; have h_1 := HLO.out; have h_2 := HGgr.out; omega))
                                  clear k20 hR20 rr20
                                  have HRA : Hid (RefAt W20 hi gr n (e + 1) pv wv need L) := Lib.hid ⟨sv, Rgr.out, HOW.out, HGgr.out.2.1⟩
                                  have HEB2 : Hid (0 ≤ e + 1 ∧ e + 1 ≤ 400) := Lib.hid (by have := HRE.out; omega)
                                  clear Rgr HOW
                                  obtain ⟨sv, hrr, hro, _⟩ := HRA.out
                                  have Rgr := Lib.hid hrr
                                  have HOW := Lib.hid hro
                                  clear hrr hro
                                  go_upto_region 22 with fail
                                  refine wp_region_rely (NewT) [SV.eq (.pointer (some ⟨gp, 0, none⟩)), SV.eq (.int .i64 ((e + 1))), SV.eq (.pointer (some ⟨gr, 0, none⟩)), SV.eq (.pointer (some ⟨gr, 0, none⟩)), SV.eq (.pointer (some ⟨gr, 4, none⟩)), SV.eq (.int .i64 ((e + 1))), SV.eq (.bool false), SV.eq (.bool false), SV.eq (.pointer (some ⟨gp, 0, none⟩)), svL 4 eyE (L), SV.eq (.pointer (some ⟨gr, 0, none⟩)), SV.eq (.pointer (some ⟨gr, 0, none⟩)), SV.eq (.pointer (some ⟨gr, 5, none⟩)), SV.eq (sv), SV.eq (.bool true), SV.eq (.bool false)] [([(7, none)], none), ([(136, some 0)], none), ([(10, none)], none), ([(138, some 2)], none), ([(139, some 3)], none), ([(140, some 4)], none), ([(137, some 1), (141, some 5)], none), ([(142, some 6)], none), ([(7, none), (143, some 7)], some (143, false)), ([(144, some 8), (143, some 7)], some (143, false)), ([(10, none), (143, some 7)], some (143, false)), ([(146, some 10), (143, some 7)], some (143, false)), ([(147, some 11), (143, some 7)], some (143, false)), ([(148, some 12), (143, some 7)], some (143, false)), ([(145, some 9), (149, some 13), (143, some 7)], some (143, false)), ([(150, some 14), (143, some 7)], some (143, false))] 153 rfl (by kernel_rfl) rfl (by kernel_rfl) (by kernel_rfl) rfl NewT.trans (NewT.drew _) (Nat.le_of_ble_eq_true rfl) ⟨?_, ?_, ?_, ?_, ?_, ?_, ?_, ?_, ?_, ?_, ?_, ?_, ?_, ?_, ?_, ?_, trivial⟩ ?_
                                  · exact fun a wx hT hF K hK => rely_wp rfl (opr_move (.inl rfl) (hK _ _ (NewT.refl _) hF.1))
                                  · exact fun a wx hT hF K hK => rely_wp rfl (opr_cv (Epoch_a wx (HPA.out.new hT)) rfl Tryd.func15 (by kernel_rfl) (by kernel_rfl) (evs1 hF.1) hK)
                                  · exact fun a wx hT hF K hK => rely_wp rfl (opr_move (.inl rfl) (hK _ _ (NewT.refl _) hF.1))
                                  · exact fun a wx hT hF K hK => rely_wp rfl (opr_nilc rfl hF.1 (hK _ _ (NewT.refl _) rfl))
                                  · exact fun a wx hT hF K hK => rely_wp rfl (opr_fldRp2 rfl hF.1 (hK _ _ (NewT.refl _) rfl))
                                  · exact fun a wx hT hF K hK => rely_wp rfl (opr_ldI (hT.row Rgr.out) (by decide) rfl rfl hF.1 (hK _ _ (NewT.refl _) rfl))
                                  · exact fun a wx hT hF K hK => rely_wp rfl (opr_cmp (b := false) (.inr (.inl ⟨rfl, (by exact bne_self_eq_false _)⟩)) Tryd.underlying3 rfl hF.1 hF.2.1 (hK _ _ (NewT.refl _) rfl))
                                  · exact fun a wx hT hF K hK => rely_wp rfl (opr_move (.inl rfl) (hK _ _ (NewT.refl _) hF.1))
                                  · exact fun a wx hT hF K hK => rely_wp (rely_guard hF.2.1) (opr_move (.inl rfl) (hK _ _ (NewT.refl _) hF.1))
                                  · exact fun a wx hT hF K hK => rely_wp (rely_guard hF.2.1) (opr_cv (Entries_L wx (HPA.out.new hT) (by have := HLL.out; omega)) rfl Tryd.func16 (by kernel_rfl) (by kernel_rfl) (evs1 hF.1) hK)
                                  · exact fun a wx hT hF K hK => rely_wp (rely_guard hF.2.1) (opr_move (.inl rfl) (hK _ _ (NewT.refl _) hF.1))
                                  · exact fun a wx hT hF K hK => rely_wp (rely_guard hF.2.1) (opr_nilc rfl hF.1 (hK _ _ (NewT.refl _) rfl))
                                  · exact fun a wx hT hF K hK => rely_wp (rely_guard hF.2.1) (opr_fldRp3 rfl hF.1 (hK _ _ (NewT.refl _) rfl))
                                  · exact fun a wx hT hF K hK => rely_wp (rely_guard hF.2.1) (opr_ldEs (hT.row Rgr.out) (by decide) rfl rfl hF.1 (hK _ _ (NewT.refl _) rfl))
                                  · exact fun a wx hT hF K hK => rely_wp (rely_guard hF.2.2.1) (opr_cv (rEntries_cv L wx hF.1 ((own_ents HOW.out).new hT) (by have := HLL.out; omega)) rfl Tryd.func18 (by kernel_rfl) (by kernel_rfl) (evs2 rfl hF.2.1) hK)
                                  · exact fun a wx hT hF K hK => rely_wp (rely_guard hF.2.1) (opr_not rfl hF.1 (hK _ _ (NewT.refl _) rfl))
                                  · intro w21 k21
                                    iterate 9 (intro u h; obtain rfl := Eq.symm (h (by simp)); clear h)
                                    intro _ _
                                    iterate 6 (intro u h; obtain rfl := Eq.symm (h (by simp)); clear h)
                                    refine relyEnd_nil rfl ?_
                                    simp only [Act.put, List.setIfInBounds_toArray, List.set_cons_zero, List.set_cons_succ]
                                    refine opr_pick_false rfl rfl ?_
                                    go_simp
                                    replace Rgr := Lib.hid (k21.row Rgr.out)
                                    replace HPA := Lib.hid (HPA.out.new k21)
                                    replace HRA := Lib.hid (HRA.out.new k21)
                                    replace HOW := Lib.hid (HOW.out.new k21)
                                    replace HM := Lib.hid (NewT.trans _ _ _ HM.out k21)
                                    clear k21
                                    clear Rgr HOW
                                    have hk2 := HGE.out
                                    have hk3 := HLE.out
                                    have HLK2 : Hid ((L).length ≤ k + 1) := Lib.hid (by have h1 := HLK.out; have h2 := HLL.out; omega)
                                    go_wp2
                                    go_roundw
                                    case rel => exact ⟨k + 1, L, (e + 1), by omega, by go_num, by first | exact HM | trivial, by first | exact HPA | trivial, by first | exact HRA | trivial, HLK2, HEB2⟩
                                    case measure => simp [intOf]; omega
      · clear hb
        go_wp2
        go_ret
        exact ⟨rfl, HM.out.out⟩
end Go.Proofs.YtchpmdcacpjojaaDoor
/- The two tables, out of the rows' own condition; the row's last step where the world has new blocks alone; the shapes of the arguments. -/
namespace Go.Proofs.YtchpmdcacpjojaaDoor
open Go.ChangeShapes Go.WideShapes Go.ChangeAt Go.WideMaps Go.WideElems Go.RowKit
set_option maxRecDepth 8000
set_option linter.all false

theorem gK : Tryd.prog.globalNamed "inspeximus/api.K" = some 1 := by kernel_rfl
theorem gF : Tryd.prog.globalNamed "inspeximus/api.First" = some 0 := by kernel_rfl
theorem tK : (Tryd.prog.globals[1]?).map (·.type) = some 126 := by kernel_rfl
theorem tF : (Tryd.prog.globals[0]?).map (·.type) = some 117 := by kernel_rfl
def laid2 : List (String × DataW Unit) := [("inspeximus/api.K", Rows.laid_inspeximus_api_K), ("inspeximus/api.First", Rows.laid_inspeximus_api_First)]
def kInts : List Int := kTab.map fun (n : Nat) => (n : Int)
def fInts : List Int := fTab.map fun (n : Nat) => (n : Int)
theorem tables_of_laid {W : World} (h : laidMetH Tryd.prog laid2 W) : Tables W := by
  rw [MakeChecks.laidMetH_plain _ _ _ (by kernel_rfl)] at h
  have hK : Lib.TabIs Tryd.prog W "inspeximus/api.K" .u32 kInts := Lib.tabIs_of_head gK tK Tryd.underlying126 Tryd.underlying116 (by kernel_rfl) (by kernel_rfl) h
  have hF : Lib.TabIs Tryd.prog W "inspeximus/api.First" .u32 fInts := Lib.tabIs_of_head gF tF Tryd.underlying117 Tryd.underlying116 (by kernel_rfl) (by kernel_rfl) (laidMet.tail h)
  have hs : 1 < W.heap.size := World.block_lt_of_cell? _ _ (hK.cell gK 0 (by decide))
  refine ⟨hs, fun i hi => ?_, fun i hi => ?_⟩
  · rw [hK.cell gK i (by simpa [kInts, kTab] using hi)]
    have h : ∀ i : Fin 64, kInts.getD i.val 0 = uN (Kc i.val) := by decide +kernel
    rw [h ⟨i, hi⟩]
  · rw [hF.cell gF i (by simpa [fInts, fTab] using hi)]
    have h : ∀ i : Fin 8, fInts.getD i.val 0 = uN (Fc i.val) := by decide +kernel
    rw [h ⟨i, hi⟩]
/-- The door's own heap meets the condition. -/
theorem door_met (os : Os) (args : Array Value) : laidMetH Tryd.prog laid2 ((World.doorLaid Tryd.prog 400 os).forCall (fun _ _ => 0) ⟨#[], args, []⟩).memory :=
  laidMetH_of_parts3 (fuel := 8) (laidMet_of_run' 8 (by kernel_rfl) (by kernel_rfl)) (by kernel_rfl) (by kernel_rfl)
end Go.Proofs.YtchpmdcacpjojaaDoor
/- (all of it lies in EP now) -/
/- The laws' arguments, opened: arrays of numbers by value, slices of bytes. -/
namespace Go.Proofs.YtchpmdcacpjojaaDoor
open Go.ChangeShapes Go.WideShapes Go.ChangeAt Go.WideMaps Go.WideElems Go.RowKit
set_option maxRecDepth 8000
set_option linter.all false

end Go.Proofs.YtchpmdcacpjojaaDoor
/- Laws of five and of six arguments: each of them read. No program is named. -/
namespace Go.Proofs.YtchpmdcacpjojaaDoor
open Go Go.ChangeShapes Go.RowKit
set_option maxRecDepth 8000
set_option linter.all false
section
variable {H : Type} {enc : TypeId × Value → H} {P : Program} {w : World} {base : Nat} {spare : Nat → Bool} {held : Bool}
end
end Go.Proofs.YtchpmdcacpjojaaDoor
/- The laws' arguments, opened: keys and checkpoints by value. -/
namespace Go.Proofs.YtchpmdcacpjojaaDoor
open Go Go.ChangeShapes Go.WideShapes Go.ChangeAt Go.WideMaps Go.WideElems Go.RowKit
set_option maxRecDepth 8000
set_option linter.all false
theorem hashTy : HashTy Tryd.prog 32 5 := ⟨Tryd.underlying32, Tryd.underlying5, by kernel_rfl, by kernel_rfl⟩
theorem keysTy : ∃ f0 f1 f2, KeysTy Tryd.prog 24 32 5 f0 f1 f2 :=
  ⟨_, _, _, Tryd.underlying24, by kernel_rfl, rfl, rfl, rfl, Tryd.underlying22, Tryd.underlying22, Tryd.underlying3, by kernel_rfl, by kernel_rfl, by kernel_rfl, hashTy⟩
section
variable {H : Type} {enc : TypeId × Value → H} {w : World} {base : Nat} {spare : Nat → Bool} {held : Bool} {r : Reach} {b0 : Nat} {v : Value} {d : DataW H} {p : List MemPlace}
theorem open_keysA (hv : Value.okWide Tryd.prog w r b0 24 v) (h : DataW.Trod enc Tryd.prog w base spare held 24 v d p) : ∃ ps ws need, KeysV w v ps ws need ∧ (Lit.int .i64 need).wf = true := by
  obtain ⟨_, _, _, K⟩ := keysTy
  exact open_keys K hv h
end
end Go.Proofs.YtchpmdcacpjojaaDoor
/- Arguments that are calls, slices of calls, slices of acts, opened. -/
namespace Go.Proofs.YtchpmdcacpjojaaDoor
open Go Go.ChangeShapes Go.WideShapes Go.ChangeAt Go.WideMaps Go.WideElems Go.RowKit
set_option maxRecDepth 8000
set_option linter.all false
section
variable {H : Type} {enc : TypeId × Value → H} {w : World} {base : Nat} {spare : Nat → Bool} {held : Bool} {r : Reach} {b0 : Nat} {v : Value} {d : DataW H} {p : List MemPlace} {n : Nat} {cs : Array Value}
theorem call_of {fs : Array Field} (hs : Tryd.prog.underlying 34 = some (.struct fs)) (hsz : cs.size = 41) (hf : ∀ (i : Nat) (f : Field), fs[i]? = some f → ∃ y, DataW.trod enc Tryd.prog w base spare held n f.type ((cs.toList.drop f.offset).take (Tryd.prog.cellsOf f.type)) = some y) : ∃ c : Cl, cs = rowA 41 (clF c) := by
  rw [Tryd.underlying34] at hs
  cases hs
  obtain ⟨z0, e0, _⟩ := field_int (ty := 3) (o := 0) Tryd.underlying3 (by kernel_rfl) (hf 0 _ rfl)
  obtain ⟨z1, e1, _⟩ := field_int (ty := 3) (o := 1) Tryd.underlying3 (by kernel_rfl) (hf 1 _ rfl)
  obtain ⟨z2, e2, _⟩ := field_int (ty := 3) (o := 2) Tryd.underlying3 (by kernel_rfl) (hf 2 _ rfl)
  obtain ⟨z4, e4, _⟩ := field_int (ty := 3) (o := 4) Tryd.underlying3 (by kernel_rfl) (hf 4 _ rfl)
  obtain ⟨z5, e5, _⟩ := field_int (ty := 3) (o := 5) Tryd.underlying3 (by kernel_rfl) (hf 5 _ rfl)
  obtain ⟨z8, e8, _⟩ := field_int (ty := 3) (o := 8) Tryd.underlying3 (by kernel_rfl) (hf 8 _ rfl)
  obtain ⟨b3, e3⟩ := field_bool (ty := 4) (o := 3) Tryd.underlying4 (by kernel_rfl) (hf 3 _ rfl)
  obtain ⟨b6, e6⟩ := field_bool (ty := 4) (o := 6) Tryd.underlying4 (by kernel_rfl) (hf 6 _ rfl)
  obtain ⟨b7, e7⟩ := field_bool (ty := 4) (o := 7) Tryd.underlying4 (by kernel_rfl) (hf 7 _ rfl)
  obtain ⟨t, ht⟩ := field_hash (ty := 32) (o := 9) (m := 32) Tryd.underlying32 Tryd.underlying5 (by kernel_rfl) (by kernel_rfl) (hf 9 _ rfl)
  refine ⟨⟨z0, z1, z2, b3, z4, z5, b6, b7, z8, t⟩, ?_⟩
  apply Array.ext_getElem?
  intro i
  by_cases hi : i < 41
  · rw [rowA_at _ _ _ hi]
    by_cases h9 : i < 9
    · have : i = 0 ∨ i = 1 ∨ i = 2 ∨ i = 3 ∨ i = 4 ∨ i = 5 ∨ i = 6 ∨ i = 7 ∨ i = 8 := by omega
      rcases this with rfl | rfl | rfl | rfl | rfl | rfl | rfl | rfl | rfl <;> simpa [clF]
    · obtain ⟨j, rfl⟩ : ∃ j, i = 9 + j := ⟨i - 9, by omega⟩
      rw [clF_tag _ _ (by omega), ht j (by omega)]
      rfl
  · rw [Array.getElem?_eq_none (by omega), Array.getElem?_eq_none (by rw [rowA_size]; omega)]
theorem act_of {fs : Array Field} (hs : Tryd.prog.underlying 44 = some (.struct fs)) (hsz : cs.size = 43) (hf : ∀ (i : Nat) (f : Field), fs[i]? = some f → ∃ y, DataW.trod enc Tryd.prog w base spare held n f.type ((cs.toList.drop f.offset).take (Tryd.prog.cellsOf f.type)) = some y) : ∃ x : Ac, cs = rowA 43 (acF x) := by
  rw [Tryd.underlying44] at hs
  cases hs
  obtain ⟨z, e0, _⟩ := field_int (ty := 3) (o := 0) Tryd.underlying3 (by kernel_rfl) (hf 0 _ rfl)
  obtain ⟨b, e2⟩ := field_bool (ty := 4) (o := 42) Tryd.underlying4 (by kernel_rfl) (hf 2 _ rfl)
  obtain ⟨y, hy⟩ := hf 1 _ rfl
  have hc41 : Tryd.prog.cellsOf 34 = 41 := by kernel_rfl
  replace hy : DataW.trod enc Tryd.prog w base spare held n 34 ((cs.toList.drop 1).take (Tryd.prog.cellsOf 34)) = some y := hy
  rw [hc41] at hy
  obtain ⟨xs, k, _, _, _, hxl, hel⟩ := DataW.trod_struct Tryd.underlying34 hy
  obtain ⟨c, hc⟩ := call_of (cs := ((cs.toList.drop 1).take 41).toArray) (n := k) (enc := enc) (w := w) (base := base) (spare := spare) (held := held) Tryd.underlying34 (by simp; omega) (fun j f hj => by
    have hlt : j < xs.length := by rw [hxl]; exact (Array.getElem?_eq_some_iff.1 hj).1
    exact ⟨xs[j], by rw [← List.getElem?_eq_getElem hlt]; simpa using hel j f hj⟩)
  refine ⟨⟨z, c, b⟩, ?_⟩
  apply Array.ext_getElem?
  intro i
  by_cases hi : i < 43
  · rw [rowA_at _ _ _ hi]
    by_cases h0 : i = 0
    · subst h0; simpa [acF] using e0
    · by_cases h1 : i < 42
      · obtain ⟨j, rfl⟩ : ∃ j, i = 1 + j := ⟨i - 1, by omega⟩
        have h3 := congrArg (fun z => z[j]?) hc
        simp only [rowA_at _ _ _ (show j < 41 by omega)] at h3
        unfold acF
        rw [if_neg (by omega), if_pos (by omega), show 1 + j - 1 = j by omega, ← h3]
        simp [show j < 41 by omega, Nat.add_comm 1 j]
      · obtain rfl : i = 42 := by omega
        simpa [acF] using e2
  · rw [Array.getElem?_eq_none (by omega), Array.getElem?_eq_none (by rw [rowA_size]; omega)]
theorem open_actsA (hv : Value.okWide Tryd.prog w r b0 25 v) (h : DataW.Trod enc Tryd.prog w base spare held 25 v d p) : ∃ l : List Ac, RdL 43 acE w v l := by
  obtain ⟨a0, len, cap, rfl⟩ := okWide_slice Tryd.underlying25 hv
  obtain ⟨fuel, hf⟩ := h
  have hce : Tryd.prog.cellsOf 44 = 43 := by kernel_rfl
  rcases Go.Deep.open_slice Tryd.underlying25 hf with ⟨hcs, _⟩ | ⟨a, len', cap', m, n, D, Pl, hcs, _, hl, hm, hmm, _, hx⟩
  · simp [Value.cells] at hcs
    obtain ⟨rfl, rfl, rfl⟩ := hcs
    exact ⟨[], rdL_nil w⟩
  · simp [Value.cells] at hcs
    obtain ⟨rfl, rfl, rfl⟩ := hcs
    have hlm : len ≤ m := by rw [hmm]; split <;> omega
    have each : ∀ i, i < len → ∃ q : Ac, ∀ j, j < 43 → w.cell? (a.add (i * 43 + j)) = some (acF q j) := fun i hi => by
      obtain ⟨cs', h1, h2⟩ := hx i (by omega)
      rw [hce] at h1
      obtain ⟨_, hlen, hcell⟩ := World.cells?_some h1
      obtain ⟨xs, k, _, _, _, hxl, hel⟩ := DataW.trod_struct Tryd.underlying44 h2
      obtain ⟨c, hc⟩ := act_of (cs := cs'.toArray) (n := k) (enc := enc) (w := w) (base := base) (spare := spare) (held := held) Tryd.underlying44 (by simpa using hlen) (fun j f hj => by
        have hlt : j < xs.length := by rw [hxl]; exact (Array.getElem?_eq_some_iff.1 hj).1
        exact ⟨xs[j], by rw [← List.getElem?_eq_getElem hlt]; simpa using hel j f hj⟩)
      refine ⟨c, fun j hj => ?_⟩
      have := hcell j (by omega)
      rw [Go.Deep.add_add] at this
      rw [this]
      have h3 := congrArg (fun z => z[j]?) hc
      simp only [rowA_at _ _ _ hj] at h3
      simpa using h3
    haveI : Inhabited Ac := ⟨⟨0, zC, false⟩⟩
    obtain ⟨q, hq⟩ := Go.Deep.choose_lt each
    have hlen : ((List.range len).map fun i => acF (q i)).length = len := by simp
    refine ⟨(List.range len).map q, (List.range len).map fun i => acF (q i), ⟨some a, cap, by rw [hlen], by rw [hlen]; exact hl, hm, fun h0 => ?_⟩, by simp, fun i x hx' => ?_⟩
    · rw [hlen] at h0
      obtain ⟨b, off, spot⟩ := a
      have hspot : spot = none := by simpa [Addr.add] using World.cell?_spot (hq 0 h0 0 (by omega))
      subst hspot
      refine ⟨b, off, rfl, fun i f hf' j hj => ?_⟩
      have hi : i < len := by have := (List.getElem?_eq_some_iff.1 hf').1; simpa using this
      simp [hi] at hf'
      subst hf'
      have := hq i hi j hj
      rw [Go.WideShapes.add_plain] at this
      rw [Nat.add_assoc]; exact this
    · have hi : i < len := by have := (List.getElem?_eq_some_iff.1 hx').1; simpa using this
      simp [hi] at hx'
      subst hx'
      exact ⟨acF (q i), by simp [hi], rfl⟩
end
end Go.Proofs.YtchpmdcacpjojaaDoor
