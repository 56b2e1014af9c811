/- The laws' question whether package part answers as the document's example: alive. -/
import Derived.Test.YtchpmdcacpjojaaDoorMe
import Derived.Test.YtchpmdcacpjojaaDoorRows
import Derived.Test.YtchpmdcacpjojaaDoorMa
import Derived.Test.YtchpmdcacpjojaaDoorMb
import Derived.ProofKit
import Derived.LaidMore
import Derived.OpenShut
import Derived.Stop.Joined
import Derived.Lib.LaidTab
import Derived.Stop.LaidErr
import Derived.Carry
import Derived.Deep.Slices
set_option linter.all false
namespace Go.Proofs.YtchpmdcacpjojaaDoor
open Go Go.RowKit
set_option maxRecDepth 8000
set_option linter.all false
def exC : Cl := ⟨0, 0, 1, false, 1, 1, false, false, 0, z32⟩
def exD : Cl := ⟨0, 0, 1, false, 0, 1, false, false, 0, z32⟩
def exE0 : En := ⟨0, 0, false, true⟩
theorem bld_exC (w : World) : (Instr.build 34 #[(4, .int .i64 1), (5, .int .i64 1), (2, .int .i64 1)]).run Tryd.prog w = .ok (.agg (rowA 41 (clF exC))) w := by kernel_rfl
theorem bld_exD (w : World) : (Instr.build 34 #[(4, .int .i64 0), (5, .int .i64 1), (2, .int .i64 1)]).run Tryd.prog w = .ok (.agg (rowA 41 (clF exD))) w := by kernel_rfl
theorem ex_its : itsB 1 exC = true := by decide
theorem ex_no : itsB 1 exD = false := by decide
theorem ex_t1 (kf : Hs → List Int → Hs) (ps ws : List Hs) (need : Int) : takeC kf ps ws need 1 0 [] exC false = ansC kf ps ws need 0 exC true := by unfold takeC; rw [if_pos ex_its]; rfl
theorem ex_t2 (kf : Hs → List Int → Hs) (ps ws : List Hs) (need : Int) : takeC kf ps ws need 1 0 [exE0] exC true = ansC kf ps ws need 0 exC true := by unfold takeC; rw [if_pos ex_its]; rfl
theorem ex_t3 (kf : Hs → List Int → Hs) (ps ws : List Hs) (need : Int) : takeC kf ps ws need 1 0 [exE0] exD false = zC := by unfold takeC; rw [ex_no]; rfl
theorem ex_l1 : takeL 1 [] exC false = [exE0] := by unfold takeL; rw [if_pos ex_its]; rfl
theorem ex_l2 : takeL 1 [exE0] exC true = [exE0] := by unfold takeL; rw [if_pos ex_its]; rfl
theorem ex_l3 : takeL 1 [exE0] exD false = [exE0] := by unfold takeL; rw [ex_no]; rfl
theorem JL.ent {ic ia is p : Nat} {W : World} {t m : Nat} {G : Nat → Value} {li : Array Bool} {a : Act} {w : World} {lo hi g : Nat} {n e e2 : Int} {ps ws : List Hs} {need : Int} {L : List En} (h : JL ic ia is p (fun w => PartAt w lo hi g n e ps ws need L) (fun w => PartAt w lo hi g n e2 ps ws need L) W t m G li a w) : ∃ e', PartAt w lo hi g n e' ps ws need L := by
  cases hc : li.getD ic false with
  | false => exact ⟨_, h.pre hc⟩
  | true => exact ⟨_, h.post hc⟩
set_option maxHeartbeats 4000000 in
theorem alive13_any {kf : Hs → List Int → Hs} {tg : Hs → Hs → Hs} {pf : Int → Hs → Hs} (hX : KeyH kf tg pf) (w : World) (hT : Tables w) : Cv 9 #[] w (.eq (.bool true)) := by
  unfold Cv
  have HTT := Lib.hid hT
  have hfew := Few_cv
  have h1 : hasB [oneH 1, oneH 2] [oneH 3, oneH 4, oneH 5] 2 1 0 = true := by decide
  have h2 : hasB [oneH 1, oneH 2] [oneH 3, oneH 4, oneH 5] 2 2 0 = false := by decide
  obtain ⟨ps, hps⟩ : ∃ x, x = [oneH 1, oneH 2] := ⟨_, rfl⟩
  obtain ⟨ws, hws⟩ : ∃ x, x = [oneH 3, oneH 4, oneH 5] := ⟨_, rfl⟩
  rw [← hps, ← hws] at hfew h1 h2
  have HFEW := Lib.hid hfew
  have HK1 := Lib.hid h1
  have HK2 := Lib.hid h2
  have HH1 : Hid (holdsB kf ps ws 2 (recC (ansC kf ps ws 2 0 exC true) 2) = true) := Lib.hid (holds_ans ex_its h1 (by decide) (by decide))
  clear hT hfew h1 h2 hps hws
  go_enter Tryd.func9, Tryd.ntmps9
  have HM := Lib.hid (NewT.refl w)
  go_upto_region 1 with fail
  go_upto_region 1 with fail
  refine wp_region_steps0 NewT [svKeys ps ws 2] [([], none)] 78 1 rfl rfl (by kernel_rfl) NewT.trans (NewT.refl _) (Nat.le_of_ble_eq_true rfl) ⟨?_, trivial⟩ ?_
  · exact fun a wx hT hF K hK => rely_wp rfl (opr_cv (HFEW.out wx) rfl Tryd.func23 (by kernel_rfl) (by kernel_rfl) evs0 hK)
  · intro w1 k1
    intro u10 h; have g10 := h (by simp); clear h; replace g10 := show (svKeys ps ws 2).pred u10 w1 from g10
    refine relyEnd_nil rfl ?_
    simp only [Act.put, List.setIfInBounds_toArray, List.set_cons_zero, List.set_cons_succ]
    obtain ⟨pv, wv, hv10, hpv, hwv⟩ := g10
    subst hv10
    refine wpList_new (n := 3) (f := keyF pv wv 2) rfl rfl rfl rfl rfl rfl (by first | (simp; done) | simp [Act.put]) run_alloc_ky info_ky (keyF_one hpv hwv) rfl ?_
    intro W1 hn1 rr1
    refine wpList_end rfl ?_
    simp only [Act.put, List.setIfInBounds_toArray, List.set_cons_zero, List.set_cons_succ]
    go_simp
    have HP := Lib.hid (hn1.hs hpv)
    have HW := Lib.hid (hn1.hs hwv)
    have HBW := Lib.hid (NewT.trans _ _ _ HM.out (NewT.trans _ _ _ k1 hn1))
    clear hpv hwv
    obtain ⟨gk, h_gk⟩ : ∃ g_, w1.heap.size = g_ := ⟨_, rfl⟩
    rw [h_gk] at rr1
    simp only [h_gk]
    have HGgk : Hid (w.heap.size ≤ gk) := Lib.hid (by rw [← h_gk]; exact (NewT.trans _ _ _ HM.out k1).out.size)
    have q1 := NewT.trans _ _ _ k1 hn1
    clear k1 hn1 h_gk
    replace HM := Lib.hid (NewT.trans _ _ _ HM.out q1)
    clear q1
    have Rgk := Lib.hid rr1
    clear rr1
    replace HTT := Lib.hid (HBW.out.tables HTT.out)
    replace HM := Lib.hid (NewT.refl W1)
    have HGK : Hid (gk < W1.heap.size ∧ 2 ≤ W1.heap.size) := Lib.hid ⟨Rgk.out.lt, HTT.out.size⟩
    clear HGgk
    go_upto_region 2 with fail
    refine wp_region_steps0 NewT [SV.eq (.agg (rowA 3 (keyF pv wv 2))), svPart W1.heap.size 1 ps ws 2, svPart W1.heap.size 1 ps ws 2] [([(1, none)], none), ([(11, some 0)], none), ([(12, some 1)], none)] 78 3 rfl rfl (by kernel_rfl) NewT.trans (NewT.refl _) (Nat.le_of_ble_eq_true rfl) ⟨?_, ?_, ?_, trivial⟩ ?_
    · exact fun a wx hT hF K hK => rely_wp rfl (opr_ldY (hT.row Rgk.out) rfl hF.1 (hK _ _ (NewT.refl _) rfl))
    · exact fun a wx hT hF K hK => rely_wp rfl (opr_cv (New_yes W1.heap.size _ ps ws 2 1 wx (NewT.trans _ _ _ HM.out hT).out.size (⟨pv, wv, rfl, (NewT.trans _ _ _ HM.out hT).hs HP.out, (NewT.trans _ _ _ HM.out hT).hs HW.out⟩ : KeysV wx (.agg (rowA 3 (keyF pv wv 2))) ps ws 2) HK1.out) rfl Tryd.func11 (by kernel_rfl) (by kernel_rfl) (evs2 hF.1 rfl) hK)
    · exact fun a wx hT hF K hK => rely_wp rfl (opr_move (.inr rfl) (hK _ _ (NewT.refl _) hF.1))
    · intro w2 k2
      intro u h; obtain rfl := Eq.symm (h (by simp)); clear h
      intro _ _
      intro u2 h; have g2 := h (by simp); clear h; replace g2 := show (svPart W1.heap.size 1 ps ws 2).pred u2 w2 from g2
      refine relyEnd_nil rfl ?_
      refine wpList_end rfl ?_
      simp only [Act.put, List.setIfInBounds_toArray, List.set_cons_zero, List.set_cons_succ]
      go_simp
      obtain ⟨gp, hi, hv2, hPA⟩ := g2
      subst hv2
      obtain ⟨lo, hlo⟩ : ∃ x, W1.heap.size = x := ⟨_, rfl⟩
      have HLO : Hid (2 ≤ lo ∧ gk < lo ∧ lo ≤ hi ∧ W1.heap.size = lo) := Lib.hid (by have h1 := HGK.out; have h2 := hPA.lt; omega)
      rw [hlo] at hPA
      have HPA := Lib.hid hPA
      clear hPA hlo
      replace Rgk := Lib.hid (k2.row Rgk.out)
      replace HM := Lib.hid (NewT.trans _ _ _ HM.out k2)
      clear k2
      go_upto_region 3 with fail
      refine wp_region_steps0 NewT [SV.eq (.agg (rowA 41 (clF exC)))] [([], none)] 78 1 rfl rfl (by kernel_rfl) NewT.trans (NewT.refl _) (Nat.le_of_ble_eq_true rfl) ⟨?_, trivial⟩ ?_
      · intro a wx hT hF K hK
        refine rely_wp rfl ?_
        exact opr_build (pv := #[(4, .int .i64 (1)), (5, .int .i64 (1)), (2, .int .i64 (1))]) rfl (by simp only [List.map_toArray, List.map_cons, List.map_nil, eval_tmp, eval_const]) (bld_exC wx) (hK _ _ (NewT.refl _) rfl)
      · intro w3 k3
        intro u h; obtain rfl := Eq.symm (h (by simp)); clear h
        refine relyEnd_nil rfl ?_
        simp only [Act.put, List.setIfInBounds_toArray, List.set_cons_zero, List.set_cons_succ]
        refine wpList_new (n := 41) (f := clF exC) rfl rfl rfl rfl rfl rfl (by first | (simp; done) | simp [Act.put]) run_alloc_cl info_cl (clF_one _) rfl ?_
        intro W3 hn3 rr3
        refine wpList_end rfl ?_
        simp only [Act.put, List.setIfInBounds_toArray, List.set_cons_zero, List.set_cons_succ]
        go_simp
        obtain ⟨gc, h_gc⟩ : ∃ g_, w3.heap.size = g_ := ⟨_, rfl⟩
        rw [h_gc] at rr3
        simp only [h_gc]
        have HGgc : Hid (gk < gc ∧ hi ≤ gc ∧ W1.heap.size ≤ gc) := Lib.hid (by rw [← h_gc]; exact ⟨(k3.row Rgk.out).lt, Nat.le_trans HPA.out.lt.2.2 k3.out.size, (NewT.trans _ _ _ HM.out k3).out.size⟩)
        have q3 := NewT.trans _ _ _ k3 hn3
        clear k3 hn3 h_gc
        replace Rgk := Lib.hid (q3.row Rgk.out)
        replace HPA := Lib.hid (HPA.out.new q3)
        replace HM := Lib.hid (NewT.trans _ _ _ HM.out q3)
        clear q3
        have Rgc := Lib.hid rr3
        clear rr3
        have HLL : Hid (([exE0] : List En).length ≤ 1000000 ∧ ([] : List En).length ≤ 1000000) := Lib.hid (by decide)
        go_upto_region 4 with fail
        refine wp_region_lit ?_
        refine wpList_plain rfl (fun K hK => ?_)
        refine opr_move (.inl rfl) (hK _ _ ?_)
        clear hK K
        simp only [Act.put, List.setIfInBounds_toArray, List.set_cons_zero, List.set_cons_succ]
        refine wpList_plain rfl (fun K hK => ?_)
        refine opr_ldCl Rgc.out rfl rfl (hK _ _ ?_)
        clear hK K
        simp only [Act.put, List.setIfInBounds_toArray, List.set_cons_zero, List.set_cons_succ]
        refine wpList_plain rfl (fun K hK => ?_)
        refine opr_call rfl Tryd.func13 (by kernel_rfl) (by kernel_rfl) (vs := #[.pointer (some ⟨gp, 0, none⟩), .agg (rowA 41 (clF exC)), .bool false]) (by simp only [List.map_toArray, List.map_cons, List.map_nil]; rfl) ((Take_k hX W3 (HM.out.tables HTT.out) HLO.out.1 HPA.out ex_its (ex_t1 kf ps ws 2) ex_l1).mono ?_)
        rintro ex wt4 ⟨rfl, hP4, hA4⟩
        refine ⟨_, rfl, hK _ _ ?_⟩
        clear hK K
        replace Rgk := Lib.hid (hP4.row Rgk.out (by have h_0 := HGK.out; have h_1 := HLO.out; have h_2 := HGgc.out; omega))
        replace Rgc := Lib.hid (hP4.row Rgc.out (by have h_0 := HGK.out; have h_1 := HLO.out; have h_2 := HGgc.out; omega))
        replace HM := Lib.hid (NewT.of (HM.out.out.trans (hP4.below.mono (by have h_0 := HGK.out; have h_1 := HLO.out; have h_2 := HGgc.out; omega))))
        replace HPA := Lib.hid hA4
        clear hP4 hA4
        simp only [Act.put, List.setIfInBounds_toArray, List.set_cons_zero, List.set_cons_succ]
        refine wpList_plain rfl (fun K hK => ?_)
        refine opr_move (.inl rfl) (hK _ _ ?_)
        clear hK K
        simp only [Act.put, List.setIfInBounds_toArray, List.set_cons_zero, List.set_cons_succ]
        refine wpList_plain rfl (fun K hK => ?_)
        refine opr_ext rfl rfl rfl (hK _ _ ?_)
        clear hK K
        simp only [Act.put, List.setIfInBounds_toArray, List.set_cons_zero, List.set_cons_succ]
        refine wpList_plain rfl (fun K hK => ?_)
        refine opr_ext rfl rfl rfl (hK _ _ ?_)
        clear hK K
        simp only [Act.put, List.setIfInBounds_toArray, List.set_cons_zero, List.set_cons_succ]
        refine wpList_new (n := 41) (f := clF ((ansC kf ps ws 2 0 exC true))) rfl rfl rfl rfl rfl rfl (by first | (simp; done) | simp [Act.put]) run_alloc_cl info_cl (clF_one _) rfl ?_
        intro W4 hn4 rr4
        simp only [Act.put, List.setIfInBounds_toArray, List.set_cons_zero, List.set_cons_succ]
        refine wpList_plain rfl (fun K hK => ?_)
        refine opr_move (.inr rfl) (hK _ _ ?_)
        clear hK K
        simp only [Act.put, List.setIfInBounds_toArray, List.set_cons_zero, List.set_cons_succ]
        refine wpList_end rfl ?_
        go_simp
        obtain ⟨ga, h_ga⟩ : ∃ g_, wt4.heap.size = g_ := ⟨_, rfl⟩
        rw [h_ga] at rr4
        simp only [h_ga]
        have HGga : Hid (gk < ga ∧ gc < ga ∧ hi ≤ ga ∧ W1.heap.size ≤ ga) := Lib.hid (by rw [← h_ga]; exact ⟨Rgk.out.lt, Rgc.out.lt, HPA.out.lt.2.2, HM.out.out.size⟩)
        clear h_ga
        replace Rgk := Lib.hid (hn4.row Rgk.out)
        replace Rgc := Lib.hid (hn4.row Rgc.out)
        replace HPA := Lib.hid (HPA.out.new hn4)
        replace HM := Lib.hid (NewT.trans _ _ _ HM.out hn4)
        clear hn4
        have Rga := Lib.hid rr4
        clear rr4
        go_upto_region 5 with fail
        refine wp_region_lit ?_
        refine wpList_plain rfl (fun K hK => ?_)
        refine opr_move (.inl rfl) (hK _ _ ?_)
        clear hK K
        simp only [Act.put, List.setIfInBounds_toArray, List.set_cons_zero, List.set_cons_succ]
        refine wpList_plain rfl (fun K hK => ?_)
        refine opr_ldCl Rgc.out rfl rfl (hK _ _ ?_)
        clear hK K
        simp only [Act.put, List.setIfInBounds_toArray, List.set_cons_zero, List.set_cons_succ]
        refine wpList_plain rfl (fun K hK => ?_)
        refine opr_call rfl Tryd.func13 (by kernel_rfl) (by kernel_rfl) (vs := #[.pointer (some ⟨gp, 0, none⟩), .agg (rowA 41 (clF exC)), .bool true]) (by simp only [List.map_toArray, List.map_cons, List.map_nil]; rfl) ((Take_k hX W4 (HM.out.tables HTT.out) HLO.out.1 HPA.out ex_its (ex_t2 kf ps ws 2) ex_l2).mono ?_)
        rintro ex wt5 ⟨rfl, hP5, hA5⟩
        refine ⟨_, rfl, hK _ _ ?_⟩
        clear hK K
        replace Rgk := Lib.hid (hP5.row Rgk.out (by have h_0 := HGK.out; have h_1 := HLO.out; have h_2 := HGgc.out; have h_3 := HGga.out; omega))
        replace Rgc := Lib.hid (hP5.row Rgc.out (by have h_0 := HGK.out; have h_1 := HLO.out; have h_2 := HGgc.out; have h_3 := HGga.out; omega))
        replace Rga := Lib.hid (hP5.row Rga.out (by have h_0 := HGK.out; have h_1 := HLO.out; have h_2 := HGgc.out; have h_3 := HGga.out; omega))
        replace HM := Lib.hid (NewT.of (HM.out.out.trans (hP5.below.mono (by have h_0 := HGK.out; have h_1 := HLO.out; have h_2 := HGgc.out; have h_3 := HGga.out; omega))))
        replace HPA := Lib.hid hA5
        clear hP5 hA5
        simp only [Act.put, List.setIfInBounds_toArray, List.set_cons_zero, List.set_cons_succ]
        refine wpList_plain rfl (fun K hK => ?_)
        refine opr_move (.inl rfl) (hK _ _ ?_)
        clear hK K
        simp only [Act.put, List.setIfInBounds_toArray, List.set_cons_zero, List.set_cons_succ]
        refine wpList_plain rfl (fun K hK => ?_)
        refine opr_ext rfl rfl rfl (hK _ _ ?_)
        clear hK K
        simp only [Act.put, List.setIfInBounds_toArray, List.set_cons_zero, List.set_cons_succ]
        refine wpList_plain rfl (fun K hK => ?_)
        refine opr_ext rfl rfl rfl (hK _ _ ?_)
        clear hK K
        simp only [Act.put, List.setIfInBounds_toArray, List.set_cons_zero, List.set_cons_succ]
        refine wpList_new (n := 41) (f := clF ((ansC kf ps ws 2 0 exC true))) rfl rfl rfl rfl rfl rfl (by first | (simp; done) | simp [Act.put]) run_alloc_cl info_cl (clF_one _) rfl ?_
        intro W5 hn5 rr5
        simp only [Act.put, List.setIfInBounds_toArray, List.set_cons_zero, List.set_cons_succ]
        refine wpList_plain rfl (fun K hK => ?_)
        refine opr_move (.inr rfl) (hK _ _ ?_)
        clear hK K
        simp only [Act.put, List.setIfInBounds_toArray, List.set_cons_zero, List.set_cons_succ]
        refine wpList_end rfl ?_
        go_simp
        obtain ⟨gb, h_gb⟩ : ∃ g_, wt5.heap.size = g_ := ⟨_, rfl⟩
        rw [h_gb] at rr5
        simp only [h_gb]
        have HGgb : Hid (gk < gb ∧ gc < gb ∧ ga < gb ∧ hi ≤ gb ∧ W1.heap.size ≤ gb) := Lib.hid (by rw [← h_gb]; exact ⟨Rgk.out.lt, Rgc.out.lt, Rga.out.lt, HPA.out.lt.2.2, HM.out.out.size⟩)
        clear h_gb
        replace Rgk := Lib.hid (hn5.row Rgk.out)
        replace Rgc := Lib.hid (hn5.row Rgc.out)
        replace Rga := Lib.hid (hn5.row Rga.out)
        replace HPA := Lib.hid (HPA.out.new hn5)
        replace HM := Lib.hid (NewT.trans _ _ _ HM.out hn5)
        clear hn5
        have Rgb := Lib.hid rr5
        clear rr5
        go_upto_region 6 with fail
        refine wp_region_lit ?_
        refine wpList_plain rfl (fun K hK => ?_)
        refine opr_move (.inl rfl) (hK _ _ ?_)
        clear hK K
        simp only [Act.put, List.setIfInBounds_toArray, List.set_cons_zero, List.set_cons_succ]
        refine wpList_plain rfl (fun K hK => ?_)
        refine opr_build (pv := #[(4, .int .i64 0), (5, .int .i64 1), (2, .int .i64 1)]) rfl (by simp only [List.map_toArray, List.map_cons, List.map_nil, eval_const]) (bld_exD _) (hK _ _ ?_)
        clear hK K
        simp only [Act.put, List.setIfInBounds_toArray, List.set_cons_zero, List.set_cons_succ]
        refine wpList_plain rfl (fun K hK => ?_)
        refine opr_call rfl Tryd.func13 (by kernel_rfl) (by kernel_rfl) (vs := #[.pointer (some ⟨gp, 0, none⟩), .agg (rowA 41 (clF exD)), .bool false]) (by simp only [List.map_toArray, List.map_cons, List.map_nil]; rfl) ((Take_k hX W5 (HM.out.tables HTT.out) HLO.out.1 HPA.out ex_no (ex_t3 kf ps ws 2) ex_l3).mono ?_)
        rintro ex wt6 ⟨rfl, hP6, hA6⟩
        refine ⟨_, rfl, hK _ _ ?_⟩
        clear hK K
        replace Rgk := Lib.hid (hP6.row Rgk.out (by have h_0 := HGK.out; have h_1 := HLO.out; have h_2 := HGgc.out; have h_3 := HGga.out; have h_4 := HGgb.out; omega))
        replace Rgc := Lib.hid (hP6.row Rgc.out (by have h_0 := HGK.out; have h_1 := HLO.out; have h_2 := HGgc.out; have h_3 := HGga.out; have h_4 := HGgb.out; omega))
        replace Rga := Lib.hid (hP6.row Rga.out (by have h_0 := HGK.out; have h_1 := HLO.out; have h_2 := HGgc.out; have h_3 := HGga.out; have h_4 := HGgb.out; omega))
        replace Rgb := Lib.hid (hP6.row Rgb.out (by have h_0 := HGK.out; have h_1 := HLO.out; have h_2 := HGgc.out; have h_3 := HGga.out; have h_4 := HGgb.out; omega))
        replace HM := Lib.hid (NewT.of (HM.out.out.trans (hP6.below.mono (by have h_0 := HGK.out; have h_1 := HLO.out; have h_2 := HGgc.out; have h_3 := HGga.out; have h_4 := HGgb.out; omega))))
        replace HPA := Lib.hid hA6
        clear hP6 hA6
        simp only [Act.put, List.setIfInBounds_toArray, List.set_cons_zero, List.set_cons_succ]
        refine wpList_plain rfl (fun K hK => ?_)
        refine opr_move (.inl rfl) (hK _ _ ?_)
        clear hK K
        simp only [Act.put, List.setIfInBounds_toArray, List.set_cons_zero, List.set_cons_succ]
        refine wpList_plain rfl (fun K hK => ?_)
        refine opr_ext rfl rfl rfl (hK _ _ ?_)
        clear hK K
        simp only [Act.put, List.setIfInBounds_toArray, List.set_cons_zero, List.set_cons_succ]
        refine wpList_plain rfl (fun K hK => ?_)
        refine opr_ext rfl rfl rfl (hK _ _ ?_)
        clear hK K
        simp only [Act.put, List.setIfInBounds_toArray, List.set_cons_zero, List.set_cons_succ]
        refine wpList_new (n := 41) (f := clF zC) rfl rfl rfl rfl rfl rfl (by first | (simp; done) | simp [Act.put]) run_alloc_cl info_cl (clF_one _) rfl ?_
        intro W6 hn6 rr6
        simp only [Act.put, List.setIfInBounds_toArray, List.set_cons_zero, List.set_cons_succ]
        refine wpList_plain rfl (fun K hK => ?_)
        refine opr_move (.inr rfl) (hK _ _ ?_)
        clear hK K
        simp only [Act.put, List.setIfInBounds_toArray, List.set_cons_zero, List.set_cons_succ]
        refine wpList_end rfl ?_
        go_simp
        obtain ⟨gz, h_gz⟩ : ∃ g_, wt6.heap.size = g_ := ⟨_, rfl⟩
        rw [h_gz] at rr6
        simp only [h_gz]
        have HGgz : Hid (gk < gz ∧ gc < gz ∧ ga < gz ∧ gb < gz ∧ hi ≤ gz ∧ W1.heap.size ≤ gz) := Lib.hid (by rw [← h_gz]; exact ⟨Rgk.out.lt, Rgc.out.lt, Rga.out.lt, Rgb.out.lt, HPA.out.lt.2.2, HM.out.out.size⟩)
        clear h_gz
        replace Rgk := Lib.hid (hn6.row Rgk.out)
        replace Rgc := Lib.hid (hn6.row Rgc.out)
        replace Rga := Lib.hid (hn6.row Rga.out)
        replace Rgb := Lib.hid (hn6.row Rgb.out)
        replace HPA := Lib.hid (HPA.out.new hn6)
        replace HM := Lib.hid (NewT.trans _ _ _ HM.out hn6)
        clear hn6
        have Rgz := Lib.hid rr6
        clear rr6
        have HSZ : Hid (lo ≤ W6.heap.size) := Lib.hid (by have h1 := HPA.out.lt; omega)
        have HPW : Hid (hi ≤ W6.heap.size) := Lib.hid HPA.out.lt.2.2
        go_upto_region 7 with fail
        refine wp_region_relyL (PW W6 lo hi) (JL 34 5001 5002 5000 (fun w => PartAt w lo hi gp 1 0 ps ws 2 [exE0]) (fun w => PartAt w lo hi gp 1 1 ps ws 2 [exE0]) W6 0 0 (fun _ => undef)) [SV.eq (.bool true), SV.eq (.bool true), SV.eq (.bool true), SV.eq (.bool true), SV.eq (.bool true), SV.eq (.bool false), SV.eq (.bool true), SV.eq (.bool true), SV.eq (.bool true), SV.eq (.pointer (some ⟨ga, 7, none⟩)), SV.eq (.bool true), SV.eq (.bool true), SV.eq (.bool true), SV.eq (.pointer (some ⟨gb, 7, none⟩)), SV.eq (.bool true), SV.eq (.bool true), SV.eq (.bool true), SV.eq (.pointer (some ⟨ga, 6, none⟩)), SV.eq (.bool true), SV.eq (.bool true), SV.eq (.bool true), SV.eq (.pointer (some ⟨gp, 0, none⟩)), svLen 1, SV.eq (.int .i64 (1)), SV.eq (.bool true), SV.eq (.bool true), SV.eq (.bool true), SV.eq (.agg (rowA 3 (keyF pv wv 2))), SV.eq (.agg (rowA 41 (clF ((ansC kf ps ws 2 0 exC true))))), svRecP (recC (ansC kf ps ws 2 0 exC true) 2) (recC_nil _ _), SV.eq (.bool true), SV.eq (.bool true), SV.eq (.bool true), SV.eq (.pointer (some ⟨gp, 0, none⟩)), SV.eq (.bool true), SV.eq (.bool true), SV.eq (.bool true), SV.eq (.pointer (some ⟨gp, 0, none⟩)), SV.eq (.int .i64 (1)), SV.eq (.bool true), SV.eq (.bool true), SV.eq (.bool true), SV.eq (.agg (rowA 3 (keyF pv wv 2))), SV.eq (.pointer none), SV.eq (.bool true), SV.eq (.bool true)] [([(5, none)], none), ([(32, some 0)], none), ([(7, none), (33, some 1)], some (33, true)), ([(33, some 1), (34, some 2)], none), ([(35, some 3)], none), ([(9, none), (36, some 4)], some (36, true)), ([(37, some 5), (36, some 4)], some (36, true)), ([(36, some 4), (38, some 6)], none), ([(39, some 7)], none), ([(4, none), (40, some 8)], some (40, true)), ([(41, some 9), (40, some 8)], some (40, true)), ([(40, some 8), (42, some 10)], none), ([(43, some 11)], none), ([(6, none), (44, some 12)], some (44, true)), ([(45, some 13), (44, some 12)], some (44, true)), ([(44, some 12), (46, some 14)], none), ([(47, some 15)], none), ([(4, none), (48, some 16)], some (48, true)), ([(49, some 17), (48, some 16)], some (48, true)), ([(48, some 16), (50, some 18)], none), ([(51, some 19)], none), ([(2, none), (52, some 20)], some (52, true)), ([(53, some 21), (52, some 20)], some (52, true)), ([(54, some 22), (52, some 20)], some (52, true)), ([(55, some 23), (52, some 20)], some (52, true)), ([(52, some 20), (56, some 24)], none), ([(57, some 25)], none), ([(1, none), (58, some 26)], some (58, true)), ([(4, none), (58, some 26)], some (58, true)), ([(60, some 28), (58, some 26)], some (58, true)), ([(59, some 27), (61, some 29), (58, some 26)], some (58, true)), ([(58, some 26), (62, some 30)], none), ([(63, some 31)], none), ([(2, none), (64, some 32)], some (64, true)), ([(65, some 33), (64, some 32)], some (64, true)), ([(64, some 32), (66, some 34)], none), ([(67, some 35)], none), ([(2, none), (68, some 36)], some (68, true)), ([(69, some 37), (68, some 36)], some (68, true)), ([(70, some 38), (68, some 36)], some (68, true)), ([(68, some 36), (71, some 39)], none), ([(72, some 40)], none), ([(1, none), (73, some 41)], some (73, true)), ([(74, some 42), (73, some 41)], some (73, true)), ([(75, some 43), (73, some 41)], some (73, true)), ([(73, some 41), (76, some 44)], none)] 78 rfl (by kernel_rfl) rfl (by kernel_rfl) (by kernel_rfl) rfl PW.trans (PW.drew _) (JL.start (HPA.out.drew) _) (Nat.le_of_ble_eq_true rfl) ⟨?_, ?_, ?_, ?_, ?_, ?_, ?_, ?_, ?_, ?_, ?_, ?_, ?_, ?_, ?_, ?_, ?_, ?_, ?_, ?_, ?_, ?_, ?_, ?_, ?_, ?_, ?_, ?_, ?_, ?_, ?_, ?_, ?_, ?_, ?_, ?_, ?_, ?_, ?_, ?_, ?_, ?_, ?_, ?_, ?_, ?_, trivial⟩ ?_
        · exact fun a wx li hT hF hJ hx K hK => have hK := fun v w' (hN : NewT wx w') hv => hK v w' (PW.new hT hN HSZ.out) (JL.new hJ (by decide) (by simp) hN (fun h => PartAt.new h hN) (fun h => PartAt.new h hN)) hv; rely_wp rfl (opr_move (.inl rfl) (hK _ _ (NewT.refl _) hF.1))
        · exact fun a wx li hT hF hJ hx K hK => have hK := fun v w' (hN : NewT wx w') hv => hK v w' (PW.new hT hN HSZ.out) (JL.new hJ (by decide) (by simp) hN (fun h => PartAt.new h hN) (fun h => PartAt.new h hN)) hv; rely_wp rfl (opr_move (.inl rfl) (hK _ _ (NewT.refl _) hF.1))
        · exact fun a wx li hT hF hJ hx K hK => have hK := fun v w' (hN : NewT wx w') hv => hK v w' (PW.new hT hN HSZ.out) (JL.new hJ (by decide) (by simp) hN (fun h => PartAt.new h hN) (fun h => PartAt.new h hN)) hv; rely_wp (rely_guard hF.2.1) (opr_move (.inl rfl) (hK _ _ (NewT.refl _) hF.1))
        · exact fun a wx li hT hF hJ hx K hK => have hK := fun v w' (hN : NewT wx w') hv => hK v w' (PW.new hT hN HSZ.out) (JL.new hJ (by decide) (by simp) hN (fun h => PartAt.new h hN) (fun h => PartAt.new h hN)) hv; rely_wp rfl (opr_pick_true rfl hF.1 (hK _ _ (NewT.refl _) hF.2.1))
        · exact fun a wx li hT hF hJ hx K hK => have hK := fun v w' (hN : NewT wx w') hv => hK v w' (PW.new hT hN HSZ.out) (JL.new hJ (by decide) (by simp) hN (fun h => PartAt.new h hN) (fun h => PartAt.new h hN)) hv; rely_wp rfl (opr_move (.inl rfl) (hK _ _ (NewT.refl _) hF.1))
        · exact fun a wx li hT hF hJ hx K hK => have hK := fun v w' (hN : NewT wx w') hv => hK v w' (PW.new hT hN HSZ.out) (JL.new hJ (by decide) (by simp) hN (fun h => PartAt.new h hN) (fun h => PartAt.new h hN)) hv; rely_wp (rely_guard hF.2.1) (opr_move (.inl rfl) (hK _ _ (NewT.refl _) hF.1))
        · exact fun a wx li hT hF hJ hx K hK => have hK := fun v w' (hN : NewT wx w') hv => hK v w' (PW.new hT hN HSZ.out) (JL.new hJ (by decide) (by simp) hN (fun h => PartAt.new h hN) (fun h => PartAt.new h hN)) hv; rely_wp (rely_guard hF.2.1) (opr_not rfl hF.1 (hK _ _ (NewT.refl _) rfl))
        · exact fun a wx li hT hF hJ hx K hK => have hK := fun v w' (hN : NewT wx w') hv => hK v w' (PW.new hT hN HSZ.out) (JL.new hJ (by decide) (by simp) hN (fun h => PartAt.new h hN) (fun h => PartAt.new h hN)) hv; rely_wp rfl (opr_pick_true rfl hF.1 (hK _ _ (NewT.refl _) hF.2.1))
        · exact fun a wx li hT hF hJ hx K hK => have hK := fun v w' (hN : NewT wx w') hv => hK v w' (PW.new hT hN HSZ.out) (JL.new hJ (by decide) (by simp) hN (fun h => PartAt.new h hN) (fun h => PartAt.new h hN)) hv; rely_wp rfl (opr_move (.inl rfl) (hK _ _ (NewT.refl _) hF.1))
        · exact fun a wx li hT hF hJ hx K hK => have hK := fun v w' (hN : NewT wx w') hv => hK v w' (PW.new hT hN HSZ.out) (JL.new hJ (by decide) (by simp) hN (fun h => PartAt.new h hN) (fun h => PartAt.new h hN)) hv; rely_wp (rely_guard hF.2.1) (opr_fldCl7 rfl hF.1 (hK _ _ (NewT.refl _) rfl))
        · exact fun a wx li hT hF hJ hx K hK => have hK := fun v w' (hN : NewT wx w') hv => hK v w' (PW.new hT hN HSZ.out) (JL.new hJ (by decide) (by simp) hN (fun h => PartAt.new h hN) (fun h => PartAt.new h hN)) hv; rely_wp (rely_guard hF.2.1) (opr_ldQ (hT.row Rga.out (by have h_0 := HGK.out; have h_1 := HLO.out; have h_2 := HGgc.out; have h_3 := HGga.out; have h_4 := HGgb.out; have h_5 := HGgz.out; omega)) (by decide) rfl rfl hF.1 (hK _ _ (NewT.refl _) rfl))
        · exact fun a wx li hT hF hJ hx K hK => have hK := fun v w' (hN : NewT wx w') hv => hK v w' (PW.new hT hN HSZ.out) (JL.new hJ (by decide) (by simp) hN (fun h => PartAt.new h hN) (fun h => PartAt.new h hN)) hv; rely_wp rfl (opr_pick_true rfl hF.1 (hK _ _ (NewT.refl _) hF.2.1))
        · exact fun a wx li hT hF hJ hx K hK => have hK := fun v w' (hN : NewT wx w') hv => hK v w' (PW.new hT hN HSZ.out) (JL.new hJ (by decide) (by simp) hN (fun h => PartAt.new h hN) (fun h => PartAt.new h hN)) hv; rely_wp rfl (opr_move (.inl rfl) (hK _ _ (NewT.refl _) hF.1))
        · exact fun a wx li hT hF hJ hx K hK => have hK := fun v w' (hN : NewT wx w') hv => hK v w' (PW.new hT hN HSZ.out) (JL.new hJ (by decide) (by simp) hN (fun h => PartAt.new h hN) (fun h => PartAt.new h hN)) hv; rely_wp (rely_guard hF.2.1) (opr_fldCl7 rfl hF.1 (hK _ _ (NewT.refl _) rfl))
        · exact fun a wx li hT hF hJ hx K hK => have hK := fun v w' (hN : NewT wx w') hv => hK v w' (PW.new hT hN HSZ.out) (JL.new hJ (by decide) (by simp) hN (fun h => PartAt.new h hN) (fun h => PartAt.new h hN)) hv; rely_wp (rely_guard hF.2.1) (opr_ldQ (hT.row Rgb.out (by have h_0 := HGK.out; have h_1 := HLO.out; have h_2 := HGgc.out; have h_3 := HGga.out; have h_4 := HGgb.out; have h_5 := HGgz.out; omega)) (by decide) rfl rfl hF.1 (hK _ _ (NewT.refl _) rfl))
        · exact fun a wx li hT hF hJ hx K hK => have hK := fun v w' (hN : NewT wx w') hv => hK v w' (PW.new hT hN HSZ.out) (JL.new hJ (by decide) (by simp) hN (fun h => PartAt.new h hN) (fun h => PartAt.new h hN)) hv; rely_wp rfl (opr_pick_true rfl hF.1 (hK _ _ (NewT.refl _) hF.2.1))
        · exact fun a wx li hT hF hJ hx K hK => have hK := fun v w' (hN : NewT wx w') hv => hK v w' (PW.new hT hN HSZ.out) (JL.new hJ (by decide) (by simp) hN (fun h => PartAt.new h hN) (fun h => PartAt.new h hN)) hv; rely_wp rfl (opr_move (.inl rfl) (hK _ _ (NewT.refl _) hF.1))
        · exact fun a wx li hT hF hJ hx K hK => have hK := fun v w' (hN : NewT wx w') hv => hK v w' (PW.new hT hN HSZ.out) (JL.new hJ (by decide) (by simp) hN (fun h => PartAt.new h hN) (fun h => PartAt.new h hN)) hv; rely_wp (rely_guard hF.2.1) (opr_fldCl6 rfl hF.1 (hK _ _ (NewT.refl _) rfl))
        · exact fun a wx li hT hF hJ hx K hK => have hK := fun v w' (hN : NewT wx w') hv => hK v w' (PW.new hT hN HSZ.out) (JL.new hJ (by decide) (by simp) hN (fun h => PartAt.new h hN) (fun h => PartAt.new h hN)) hv; rely_wp (rely_guard hF.2.1) (opr_ldQ (hT.row Rga.out (by have h_0 := HGK.out; have h_1 := HLO.out; have h_2 := HGgc.out; have h_3 := HGga.out; have h_4 := HGgb.out; have h_5 := HGgz.out; omega)) (by decide) rfl rfl hF.1 (hK _ _ (NewT.refl _) rfl))
        · exact fun a wx li hT hF hJ hx K hK => have hK := fun v w' (hN : NewT wx w') hv => hK v w' (PW.new hT hN HSZ.out) (JL.new hJ (by decide) (by simp) hN (fun h => PartAt.new h hN) (fun h => PartAt.new h hN)) hv; rely_wp rfl (opr_pick_true rfl hF.1 (hK _ _ (NewT.refl _) hF.2.1))
        · exact fun a wx li hT hF hJ hx K hK => have hK := fun v w' (hN : NewT wx w') hv => hK v w' (PW.new hT hN HSZ.out) (JL.new hJ (by decide) (by simp) hN (fun h => PartAt.new h hN) (fun h => PartAt.new h hN)) hv; rely_wp rfl (opr_move (.inl rfl) (hK _ _ (NewT.refl _) hF.1))
        · exact fun a wx li hT hF hJ hx K hK => have hK := fun v w' (hN : NewT wx w') hv => hK v w' (PW.new hT hN HSZ.out) (JL.new hJ (by decide) (by simp) hN (fun h => PartAt.new h hN) (fun h => PartAt.new h hN)) hv; rely_wp (rely_guard hF.2.1) (opr_move (.inl rfl) (hK _ _ (NewT.refl _) hF.1))
        · exact fun a wx li hT hF hJ hx K hK => have hK := fun v w' (hN : NewT wx w') hv => hK v w' (PW.new hT hN HSZ.out) (JL.new hJ (by decide) (by simp) hN (fun h => PartAt.new h hN) (fun h => PartAt.new h hN)) hv; rely_wp (rely_guard hF.2.1) (opr_cv ((JL.ent hJ).elim fun _ h => Entries_n wx h HLL.out.1) rfl Tryd.func16 (by kernel_rfl) (by kernel_rfl) (evs1 hF.1) hK)
        · intro a wx li hT hF hJ hx K hK
          replace hK := fun v w' (hN : NewT wx w') hv => hK v w' (PW.new hT hN HSZ.out) (JL.new hJ (by decide) (by simp) hN (fun h => PartAt.new h hN) (fun h => PartAt.new h hN)) hv
          obtain ⟨f54, f52, _⟩ := hF
          replace f54 := show (svLen 1).pred (a.tmps.getD 54 undef) wx from f54
          have f52 : a.tmps.getD 52 undef = .bool true := f52
          refine rely_wp (rely_guard f52) ?_
          obtain ⟨A1, c1, hv1⟩ := f54
          exact opr_len rfl Tryd.underlying38 hv1 (hK _ _ (NewT.refl _) rfl)
        · exact fun a wx li hT hF hJ hx K hK => have hK := fun v w' (hN : NewT wx w') hv => hK v w' (PW.new hT hN HSZ.out) (JL.new hJ (by decide) (by simp) hN (fun h => PartAt.new h hN) (fun h => PartAt.new h hN)) hv; rely_wp (rely_guard hF.2.1) (opr_cmp (b := true) (.inl ⟨rfl, (by rfl)⟩) Tryd.underlying3 rfl hF.1 rfl (hK _ _ (NewT.refl _) rfl))
        · exact fun a wx li hT hF hJ hx K hK => have hK := fun v w' (hN : NewT wx w') hv => hK v w' (PW.new hT hN HSZ.out) (JL.new hJ (by decide) (by simp) hN (fun h => PartAt.new h hN) (fun h => PartAt.new h hN)) hv; rely_wp rfl (opr_pick_true rfl hF.1 (hK _ _ (NewT.refl _) hF.2.1))
        · exact fun a wx li hT hF hJ hx K hK => have hK := fun v w' (hN : NewT wx w') hv => hK v w' (PW.new hT hN HSZ.out) (JL.new hJ (by decide) (by simp) hN (fun h => PartAt.new h hN) (fun h => PartAt.new h hN)) hv; rely_wp rfl (opr_move (.inl rfl) (hK _ _ (NewT.refl _) hF.1))
        · exact fun a wx li hT hF hJ hx K hK => have hK := fun v w' (hN : NewT wx w') hv => hK v w' (PW.new hT hN HSZ.out) (JL.new hJ (by decide) (by simp) hN (fun h => PartAt.new h hN) (fun h => PartAt.new h hN)) hv; rely_wp (rely_guard hF.2.1) (opr_ldY (hT.row Rgk.out (by have h_0 := HGK.out; have h_1 := HLO.out; have h_2 := HGgc.out; have h_3 := HGga.out; have h_4 := HGgb.out; have h_5 := HGgz.out; omega)) rfl hF.1 (hK _ _ (NewT.refl _) rfl))
        · exact fun a wx li hT hF hJ hx K hK => have hK := fun v w' (hN : NewT wx w') hv => hK v w' (PW.new hT hN HSZ.out) (JL.new hJ (by decide) (by simp) hN (fun h => PartAt.new h hN) (fun h => PartAt.new h hN)) hv; rely_wp (rely_guard hF.2.1) (opr_ldCl (hT.row Rga.out (by have h_0 := HGK.out; have h_1 := HLO.out; have h_2 := HGgc.out; have h_3 := HGga.out; have h_4 := HGgb.out; have h_5 := HGgz.out; omega)) rfl hF.1 (hK _ _ (NewT.refl _) rfl))
        · exact fun a wx li hT hF hJ hx K hK => have hK := fun v w' (hN : NewT wx w') hv => hK v w' (PW.new hT hN HSZ.out) (JL.new hJ (by decide) (by simp) hN (fun h => PartAt.new h hN) (fun h => PartAt.new h hN)) hv; rely_wp (rely_guard hF.2.1) (opr_cv (pReceipt_cv (ansC kf ps ws 2 0 exC true) 2 wx) rfl Tryd.func20 (by kernel_rfl) (by kernel_rfl) (evs2 hF.1 rfl) hK)
        · exact fun a wx li hT hF hJ hx K hK => have hK := fun v w' (hN : NewT wx w') hv => hK v w' (PW.new hT hN HSZ.out) (JL.new hJ (by decide) (by simp) hN (fun h => PartAt.new h hN) (fun h => PartAt.new h hN)) hv; rely_wp (rely_guard hF.2.2.1) (opr_cv (HH1.out ▸ Holds_cv hX _ _ ps ws 2 (recC (ansC kf ps ws 2 0 exC true) 2) wx ((NewT.of (HM.out.out.trans (hT.below.mono (by have h_0 := HGK.out; have h_1 := HLO.out; have h_2 := HGgc.out; have h_3 := HGga.out; have h_4 := HGgb.out; have h_5 := HGgz.out; omega)))).tables HTT.out) (⟨pv, wv, rfl, (NewT.of (HM.out.out.trans (hT.below.mono (by have h_0 := HGK.out; have h_1 := HLO.out; have h_2 := HGgc.out; have h_3 := HGga.out; have h_4 := HGgb.out; have h_5 := HGgz.out; omega)))).hs HP.out, (NewT.of (HM.out.out.trans (hT.below.mono (by have h_0 := HGK.out; have h_1 := HLO.out; have h_2 := HGgc.out; have h_3 := HGga.out; have h_4 := HGgb.out; have h_5 := HGgz.out; omega)))).hs HW.out⟩ : KeysV wx (.agg (rowA 3 (keyF pv wv 2))) ps ws 2) hF.2.1) rfl Tryd.func22 (by kernel_rfl) (by kernel_rfl) (evs2 hF.1 rfl) hK)
        · exact fun a wx li hT hF hJ hx K hK => have hK := fun v w' (hN : NewT wx w') hv => hK v w' (PW.new hT hN HSZ.out) (JL.new hJ (by decide) (by simp) hN (fun h => PartAt.new h hN) (fun h => PartAt.new h hN)) hv; rely_wp rfl (opr_pick_true rfl hF.1 (hK _ _ (NewT.refl _) hF.2.1))
        · exact fun a wx li hT hF hJ hx K hK => have hK := fun v w' (hN : NewT wx w') hv => hK v w' (PW.new hT hN HSZ.out) (JL.new hJ (by decide) (by simp) hN (fun h => PartAt.new h hN) (fun h => PartAt.new h hN)) hv; rely_wp rfl (opr_move (.inl rfl) (hK _ _ (NewT.refl _) hF.1))
        · exact fun a wx li hT hF hJ hx K hK => have hK := fun v w' (hN : NewT wx w') hv => hK v w' (PW.new hT hN HSZ.out) (JL.new hJ (by decide) (by simp) hN (fun h => PartAt.new h hN) (fun h => PartAt.new h hN)) hv; rely_wp (rely_guard hF.2.1) (opr_move (.inl rfl) (hK _ _ (NewT.refl _) hF.1))
        · intro a wx li hT hF hJ hx K hK
          obtain ⟨f65, f64, _⟩ := hF
          have f65 : a.tmps.getD 65 undef = .pointer (some ⟨gp, 0, none⟩) := f65
          have f64 : a.tmps.getD 64 undef = .bool true := f64
          refine rely_wp (rely_guard f64) ?_
          refine opr_call rfl Tryd.func14 (by kernel_rfl) (by kernel_rfl) (vs := #[.pointer (some ⟨gp, 0, none⟩)]) (by simp only [List.map_toArray, List.map_cons, List.map_nil, eval_tmp, f65]) ((Rotate_c wx (by decide) (hJ.pre hx.no)).mono ?_)
          rintro ex w4 ⟨rfl, hP4, hA4⟩
          exact ⟨_, rfl, hK _ _ (hT.pt hP4) (JL.call hJ hx (by decide) (by simp) hA4 (fun b F hb hr => hP4.row hr (.inr (Nat.le_trans HPW.out hb)))) rfl⟩
        · exact fun a wx li hT hF hJ hx K hK => have hK := fun v w' (hN : NewT wx w') hv => hK v w' (PW.new hT hN HSZ.out) (JL.new hJ (by decide) (by simp) hN (fun h => PartAt.new h hN) (fun h => PartAt.new h hN)) hv; rely_wp rfl (opr_pick_true rfl hF.1 (hK _ _ (NewT.refl _) hF.2.1))
        · exact fun a wx li hT hF hJ hx K hK => have hK := fun v w' (hN : NewT wx w') hv => hK v w' (PW.new hT hN HSZ.out) (JL.new hJ (by decide) (by simp) hN (fun h => PartAt.new h hN) (fun h => PartAt.new h hN)) hv; rely_wp rfl (opr_move (.inl rfl) (hK _ _ (NewT.refl _) hF.1))
        · exact fun a wx li hT hF hJ hx K hK => have hK := fun v w' (hN : NewT wx w') hv => hK v w' (PW.new hT hN HSZ.out) (JL.new hJ (by decide) (by simp) hN (fun h => PartAt.new h hN) (fun h => PartAt.new h hN)) hv; rely_wp (rely_guard hF.2.1) (opr_move (.inl rfl) (hK _ _ (NewT.refl _) hF.1))
        · exact fun a wx li hT hF hJ hx K hK => have hK := fun v w' (hN : NewT wx w') hv => hK v w' (PW.new hT hN HSZ.out) (JL.new hJ (by decide) (by simp) hN (fun h => PartAt.new h hN) (fun h => PartAt.new h hN)) hv; rely_wp (rely_guard hF.2.1) (opr_cv (Epoch_a wx (hJ.post (hx.closed 35 34 (by kernel_rfl) (hx.closed 36 35 (by kernel_rfl) (hx.waits 36 (by kernel_rfl)))))) rfl Tryd.func15 (by kernel_rfl) (by kernel_rfl) (evs1 hF.1) hK)
        · exact fun a wx li hT hF hJ hx K hK => have hK := fun v w' (hN : NewT wx w') hv => hK v w' (PW.new hT hN HSZ.out) (JL.new hJ (by decide) (by simp) hN (fun h => PartAt.new h hN) (fun h => PartAt.new h hN)) hv; rely_wp (rely_guard hF.2.1) (opr_cmp (b := true) (.inl ⟨rfl, (by rfl)⟩) Tryd.underlying3 rfl hF.1 rfl (hK _ _ (NewT.refl _) rfl))
        · exact fun a wx li hT hF hJ hx K hK => have hK := fun v w' (hN : NewT wx w') hv => hK v w' (PW.new hT hN HSZ.out) (JL.new hJ (by decide) (by simp) hN (fun h => PartAt.new h hN) (fun h => PartAt.new h hN)) hv; rely_wp rfl (opr_pick_true rfl hF.1 (hK _ _ (NewT.refl _) hF.2.1))
        · exact fun a wx li hT hF hJ hx K hK => have hK := fun v w' (hN : NewT wx w') hv => hK v w' (PW.new hT hN HSZ.out) (JL.new hJ (by decide) (by simp) hN (fun h => PartAt.new h hN) (fun h => PartAt.new h hN)) hv; rely_wp rfl (opr_move (.inl rfl) (hK _ _ (NewT.refl _) hF.1))
        · exact fun a wx li hT hF hJ hx K hK => have hK := fun v w' (hN : NewT wx w') hv => hK v w' (PW.new hT hN HSZ.out) (JL.new hJ (by decide) (by simp) hN (fun h => PartAt.new h hN) (fun h => PartAt.new h hN)) hv; rely_wp (rely_guard hF.2.1) (opr_ldY (hT.row Rgk.out (by have h_0 := HGK.out; have h_1 := HLO.out; have h_2 := HGgc.out; have h_3 := HGga.out; have h_4 := HGgb.out; have h_5 := HGgz.out; omega)) rfl hF.1 (hK _ _ (NewT.refl _) rfl))
        · exact fun a wx li hT hF hJ hx K hK => have hK := fun v w' (hN : NewT wx w') hv => hK v w' (PW.new hT hN HSZ.out) (JL.new hJ (by decide) (by simp) hN (fun h => PartAt.new h hN) (fun h => PartAt.new h hN)) hv; rely_wp (rely_guard hF.2.1) (opr_cv (New_no _ ps ws 2 2 wx (⟨pv, wv, rfl, (NewT.of (HM.out.out.trans (hT.below.mono (by have h_0 := HGK.out; have h_1 := HLO.out; have h_2 := HGgc.out; have h_3 := HGga.out; have h_4 := HGgb.out; have h_5 := HGgz.out; omega)))).hs HP.out, (NewT.of (HM.out.out.trans (hT.below.mono (by have h_0 := HGK.out; have h_1 := HLO.out; have h_2 := HGgc.out; have h_3 := HGga.out; have h_4 := HGgb.out; have h_5 := HGgz.out; omega)))).hs HW.out⟩ : KeysV wx (.agg (rowA 3 (keyF pv wv 2))) ps ws 2) HK2.out) rfl Tryd.func11 (by kernel_rfl) (by kernel_rfl) (evs2 hF.1 rfl) hK)
        · exact fun a wx li hT hF hJ hx K hK => have hK := fun v w' (hN : NewT wx w') hv => hK v w' (PW.new hT hN HSZ.out) (JL.new hJ (by decide) (by simp) hN (fun h => PartAt.new h hN) (fun h => PartAt.new h hN)) hv; rely_wp (rely_guard hF.2.1) (opr_eqPz rfl hF.1 (hK _ _ (NewT.refl _) rfl))
        · exact fun a wx li hT hF hJ hx K hK => have hK := fun v w' (hN : NewT wx w') hv => hK v w' (PW.new hT hN HSZ.out) (JL.new hJ (by decide) (by simp) hN (fun h => PartAt.new h hN) (fun h => PartAt.new h hN)) hv; rely_wp rfl (opr_pick_true rfl hF.1 (hK _ _ (NewT.refl _) hF.2.1))
        · intro w30 k30
          iterate 22 (intro u h; obtain rfl := Eq.symm (h (by simp)); clear h)
          intro _ _
          iterate 6 (intro u h; obtain rfl := Eq.symm (h (by simp)); clear h)
          intro _ _
          iterate 16 (intro u h; obtain rfl := Eq.symm (h (by simp)); clear h)
          refine relyEnd_nil rfl ?_
          intro hJ
          simp only [Act.put, List.setIfInBounds_toArray, List.set_cons_zero, List.set_cons_succ]
          refine opr_move (.inr rfl) ?_
          go_simp
          have hNN : NewT w w30 := NewT.trans _ _ _ HBW.out (NewT.of (HM.out.out.trans (k30.below.mono (by have h_0 := HGK.out; have h_1 := HLO.out; have h_2 := HGgc.out; have h_3 := HGga.out; have h_4 := HGgb.out; have h_5 := HGgz.out; omega))))
          clear hJ
          go_wp2
          go_ret
          exact ⟨_, rfl, hNN, rfl⟩
theorem alive13_cv (w : World) (hT : Tables w) : Cv 9 #[] w (.eq (.bool true)) := by
  obtain ⟨kf, tg, pf, hX⟩ := keyH_ex
  exact alive13_any hX w hT
end Go.Proofs.YtchpmdcacpjojaaDoor
/- The law PartApart, walked: what a participant answers of one saga hangs on that saga's calls alone. -/
namespace Go.Proofs.YtchpmdcacpjojaaDoor
open Go Go.RowKit
set_option maxRecDepth 8000
set_option linter.all false
def sgB (s : Int) (x : En) : Bool := x.saga == s
theorem apart_has (L : List En) (s t : Int) (b : Bool) : hasE (L.filter (sgB s)) s t b = hasE L s t b := by
  unfold hasE
  congr 1
  rw [List.find?_filter]
  congr 1
  funext x
  unfold sgB isE
  rw [Bool.eq_iff_iff]
  simp only [decide_eq_true_eq, Bool.and_eq_true, beq_iff_eq]
  exact ⟨fun h => h.2, fun h => ⟨h.1.1, h⟩⟩
theorem apart_good (L : List En) (c : Cl) (r : Bool) : goodE (L.filter (sgB c.saga)) c r = goodE L c r ∧ goodN (L.filter (sgB c.saga)) c r = goodN L c r ∧ putB (L.filter (sgB c.saga)) c r = putB L c r := by
  unfold goodE putB goodN undE
  simp only [apart_has, and_self]
theorem apart_take {kf : Hs → List Int → Hs} {ps ws : List Hs} {need n e : Int} (L : List En) (c : Cl) {r : Bool} : takeC kf ps ws need n e (L.filter (sgB c.saga)) c r = takeC kf ps ws need n e L c r := by
  unfold takeC
  rw [(apart_good L c r).1]
theorem apart_other {L : List En} {c d : Cl} {r : Bool} {n : Int} (h : (c.saga == d.saga) = false) : (takeL n L c r).filter (sgB d.saga) = L.filter (sgB d.saga) := by
  unfold takeL
  split
  · unfold keepL
    split
    · rfl
    · split
      · rw [List.filter_append]
        have : sgB d.saga (newE L c r) = false := h
        simp [this]
      · rfl
  · rfl
theorem apart_same {L : List En} {c d : Cl} {r : Bool} {n : Int} (h : (c.saga == d.saga) = true) : (takeL n L c r).filter (sgB d.saga) = takeL n (L.filter (sgB d.saga)) c r := by
  have e : d.saga = c.saga := (beq_iff_eq.1 h).symm
  obtain ⟨_, g2, g3⟩ := apart_good L c r
  rw [e]
  unfold takeL
  split
  · unfold keepL
    rw [apart_has]
    split
    · rfl
    · rw [g3]
      split
      · rw [List.filter_append]
        have : sgB c.saga (newE L c r) = true := by unfold sgB newE; simp
        simp only [this, List.filter_cons, List.filter_nil, if_true]
        congr 2
        unfold newE
        rw [g2]
      · rfl
  · rfl
/-- Two participants that are made in whichever order lie apart. -/
structure JN (i j k p q d : Nat) (W : World) (X : World → Nat → Nat → Nat → Prop) (li : Array Bool) (a : Act) (w : World) : Prop where
  one : li.getD i false = true → ∀ g, a.tmps.getD p undef = .pointer (some ⟨g, 0, none⟩) → ∃ lo hi, W.heap.size ≤ lo ∧ hi ≤ w.heap.size ∧ X w lo hi g
  two : li.getD j false = true → ∀ g, a.tmps.getD q undef = .pointer (some ⟨g, 0, none⟩) → ∃ lo hi, W.heap.size ≤ lo ∧ hi ≤ w.heap.size ∧ X w lo hi g
  both : li.getD i false = true → li.getD j false = true → ∀ g g', a.tmps.getD p undef = .pointer (some ⟨g, 0, none⟩) → a.tmps.getD q undef = .pointer (some ⟨g', 0, none⟩) → ∃ lo hi lo' hi', W.heap.size ≤ lo ∧ W.heap.size ≤ lo' ∧ X w lo hi g ∧ X w lo' hi' g' ∧ (hi ≤ lo' ∨ hi' ≤ lo)
  cp : li.getD k false = true → ∀ g, a.tmps.getD d undef = .pointer (some ⟨g, 0, none⟩) → a.tmps.getD p undef = .pointer (some ⟨g, 0, none⟩)
section
variable {i j k p q d : Nat} {W : World} {X : World → Nat → Nat → Nat → Prop} {li : Array Bool} {a : Act} {w w' : World} {v : Value}
theorem JN.start (m : Nat) : JN i j k p q d W X (Array.replicate m false) a w :=
  ⟨fun h => (by rw [getD_replicate_false] at h; cases h), fun h => (by rw [getD_replicate_false] at h; cases h), fun h => (by rw [getD_replicate_false] at h; cases h), fun h => (by rw [getD_replicate_false] at h; cases h)⟩
theorem JN.other {o : Option Tmp} (h : JN i j k p q d W X li a w) {m : Nat} (hm : m ≠ i ∧ m ≠ j ∧ m ≠ k) (ho : o ≠ some p ∧ o ≠ some q ∧ o ≠ some d) (hN : NewT w w') (hX : ∀ {lo hi g}, X w lo hi g → X w' lo hi g) : JN i j k p q d W X (li.setIfInBounds m true) (a.put o v) w' := by
  obtain ⟨h1, h2, h3⟩ := hm
  obtain ⟨o1, o2, o3⟩ := ho
  refine ⟨?_, ?_, ?_, ?_⟩
  · rw [gset _ h1, put_ne o1]; exact fun k1 g hg => let ⟨lo, hi, e1, e2, e3⟩ := h.one k1 g hg; ⟨lo, hi, e1, Nat.le_trans e2 hN.out.size, hX e3⟩
  · rw [gset _ h2, put_ne o2]; exact fun k1 g hg => let ⟨lo, hi, e1, e2, e3⟩ := h.two k1 g hg; ⟨lo, hi, e1, Nat.le_trans e2 hN.out.size, hX e3⟩
  · rw [gset _ h1, gset _ h2, put_ne o1, put_ne o2]; exact fun k1 k2 g g' hg hg' => let ⟨lo, hi, lo', hi', e1, e2, e3, e4, e5⟩ := h.both k1 k2 g g' hg hg'; ⟨lo, hi, lo', hi', e1, e2, hX e3, hX e4, e5⟩
  · rw [gset _ h3, put_ne o3, put_ne o1]; exact h.cp
theorem JN.fst {ops : Array Oper} {g0 hi0 : Nat} (h : JN i j k p q d W X li a w) (hx : LNext ops i li) (hne : i ≠ j ∧ i ≠ k ∧ p ≠ q ∧ p ≠ d ∧ Region.waitsFor .any ops k i = true) (hN : NewT w w') (hW : W.heap.size ≤ w.heap.size) (hp : X w' w.heap.size hi0 g0) (hX : ∀ {lo hi g}, X w lo hi g → X w' lo hi g) (hs : ∀ {lo hi g}, X w' lo hi g → hi ≤ w'.heap.size) : JN i j k p q d W X (li.setIfInBounds i true) (a.put (some p) (.pointer (some ⟨g0, 0, none⟩))) w' := by
  obtain ⟨h1, h2, h3, h4, h5⟩ := hne
  have gp : ∀ g, (a.put (some p) (.pointer (some ⟨g0, 0, none⟩))).tmps.getD p undef = .pointer (some ⟨g, 0, none⟩) → g = g0 := fun g hg => by
    by_cases hp : p < a.tmps.size
    · simp [Act.put, hp] at hg; exact hg.symm
    · simp [Act.put, hp] at hg; cases hg
  have hk : li.getD k false = false := by
    cases hc : li.getD k false with
    | false => rfl
    | true => have := hx.closed k i h5 hc; rw [hx.no] at this; cases this
  refine ⟨fun _ g hg => ?_, ?_, ?_, ?_⟩
  · obtain rfl := gp g hg; exact ⟨_, _, hW, hs hp, hp⟩
  · rw [gset _ h1, put_ne (by simp [h3])]; exact fun k1 g hg => let ⟨lo, hi, e1, e2, e3⟩ := h.two k1 g hg; ⟨lo, hi, e1, Nat.le_trans e2 hN.out.size, hX e3⟩
  · rw [gset _ h1, put_ne (p := q) (by simp [h3])]
    intro _ k2 g g' hg hg'
    obtain rfl := gp g hg
    obtain ⟨lo, hi, e1, e2, e3⟩ := h.two k2 g' hg'
    exact ⟨_, _, lo, hi, hW, e1, hp, hX e3, .inr e2⟩
  · rw [gset _ h2, hk]; exact fun k1 => by cases k1
theorem JN.snd {ops : Array Oper} {g0 hi0 : Nat} (h : JN i j k p q d W X li a w) (hx : LNext ops j li) (hne : j ≠ i ∧ j ≠ k ∧ q ≠ p ∧ q ≠ d) (hN : NewT w w') (hW : W.heap.size ≤ w.heap.size) (hp : X w' w.heap.size hi0 g0) (hX : ∀ {lo hi g}, X w lo hi g → X w' lo hi g) (hs : ∀ {lo hi g}, X w' lo hi g → hi ≤ w'.heap.size) : JN i j k p q d W X (li.setIfInBounds j true) (a.put (some q) (.pointer (some ⟨g0, 0, none⟩))) w' := by
  obtain ⟨h1, h2, h3, h4⟩ := hne
  have gp : ∀ g, (a.put (some q) (.pointer (some ⟨g0, 0, none⟩))).tmps.getD q undef = .pointer (some ⟨g, 0, none⟩) → g = g0 := fun g hg => by
    by_cases hp : q < a.tmps.size
    · simp [Act.put, hp] at hg; exact hg.symm
    · simp [Act.put, hp] at hg; cases hg
  refine ⟨?_, fun _ g hg => ?_, ?_, ?_⟩
  · rw [gset _ h1, put_ne (by simp [h3])]; exact fun k1 g hg => let ⟨lo, hi, e1, e2, e3⟩ := h.one k1 g hg; ⟨lo, hi, e1, Nat.le_trans e2 hN.out.size, hX e3⟩
  · obtain rfl := gp g hg; exact ⟨_, _, hW, hs hp, hp⟩
  · rw [gset _ h1, put_ne (p := p) (by simp [h3])]
    intro k1 _ g g' hg hg'
    obtain rfl := gp g' hg'
    obtain ⟨lo, hi, e1, e2, e3⟩ := h.one k1 g hg
    exact ⟨lo, hi, _, _, e1, hW, hX e3, hp, .inl e2⟩
  · rw [gset _ h2, put_ne (by simp [h4]), put_ne (by simp [h3])]; exact h.cp
theorem JN.cpy {ops : Array Oper} (h : JN i j k p q d W X li a w) (hx : LNext ops k li) (hne : k ≠ i ∧ k ≠ j ∧ d ≠ p ∧ d ≠ q) (hv : v = a.tmps.getD p undef) : JN i j k p q d W X (li.setIfInBounds k true) (a.put (some d) v) w := by
  obtain ⟨h1, h2, h3, h4⟩ := hne
  refine ⟨?_, ?_, ?_, fun _ g hg' => ?_⟩
  · rw [gset _ h1, put_ne (by simp [h3])]; exact h.one
  · rw [gset _ h2, put_ne (by simp [h4])]; exact h.two
  · rw [gset _ h1, gset _ h2, put_ne (by simp [h3]), put_ne (by simp [h4])]; exact h.both
  · rw [put_ne (by simp [h3]), ← hv]
    by_cases hp : d < a.tmps.size
    · simp [Act.put, hp] at hg'; exact hg'
    · simp [Act.put, hp] at hg'; cases hg'
theorem JN.end {g g2 m : Nat} (h : ∃ li : Array Bool, (∀ j, j < m → li.getD j false = true) ∧ JN i j k p q d W X li a w) (hm : i < m ∧ j < m ∧ k < m) (hg : a.tmps.getD d undef = .pointer (some ⟨g, 0, none⟩)) (hg2 : a.tmps.getD q undef = .pointer (some ⟨g2, 0, none⟩)) : ∃ lo hi lo' hi', W.heap.size ≤ lo ∧ W.heap.size ≤ lo' ∧ X w lo hi g ∧ X w lo' hi' g2 ∧ (hi ≤ lo' ∨ hi' ≤ lo) := by
  obtain ⟨li, hl, hJ⟩ := h
  exact hJ.both (hl _ hm.1) (hl _ hm.2.1) g g2 (hJ.cp (hl _ hm.2.2) g hg) hg2
end
set_option maxHeartbeats 4000000 in
theorem PartApart_walk (v v2 : Value) (ps ws : List Hs) (need n : Int) (l : List Ac) (c : Cl) (w : World) (hT : Tables w) (hk : KeysV w v ps ws need) (hl : RdL 43 acE w v2 l) : Calls Tryd.prog 7 #[v, .int .i64 n, v2, .agg (rowA 41 (clF c))] w fun e w' => e = .returned (.bool true) ∧ Below w.heap.size w w' := by
  obtain ⟨kf, tg, pf, hX⟩ := keyH_ex
  obtain ⟨pv, wv, rfl, hpv, hwv⟩ := hk
  have HTT := Lib.hid hT
  have HPP := Lib.hid hpv
  have HWW := Lib.hid hwv
  have HL := Lib.hid hl
  clear hl
  clear hT hpv hwv
  go_enter Tryd.func7, Tryd.ntmps7
  go_upto_region 1 with fail
  have r_gk := (rowIs_box w 24 3 (keyF pv wv need)).alloc (.cells (rowA 41 (clF c)) 34)
  have r_gc := rowIs_box (w.alloc (.cells (rowA 3 (keyF pv wv need)) 24)) 34 41 (clF c)
  rw [World.size_alloc] at r_gc
  have hN : NewT w ((w.alloc (.cells (rowA 3 (keyF pv wv need)) 24)).alloc (.cells (rowA 41 (clF c)) 34)) := (NewT.trans _ _ _ (NewT.alloc _ _) (NewT.alloc _ _))
  change Code.wp _ _ _ _ ((w.alloc (.cells (rowA 3 (keyF pv wv need)) 24)).alloc (.cells (rowA 41 (clF c)) 34))
  generalize ((w.alloc (.cells (rowA 3 (keyF pv wv need)) 24)).alloc (.cells (rowA 41 (clF c)) 34)) = W0 at r_gk r_gc hN ⊢
  obtain ⟨gk, h_gk⟩ : ∃ g_, w.heap.size = g_ := ⟨_, rfl⟩
  obtain ⟨gc, h_gc⟩ : ∃ g_, w.heap.size + 1 = g_ := ⟨_, rfl⟩
  have HG : Hid (w.heap.size ≤ gk ∧ gk < gc) := Lib.hid (by omega)
  rw [h_gk] at r_gk
  rw [h_gc] at r_gc
  try rw [h_gc]
  simp only [h_gk]
  have Rgk := Lib.hid r_gk
  have Rgc := Lib.hid r_gc
  have HM := Lib.hid hN
  clear r_gk r_gc hN h_gk h_gc
  go_upto_region 1 with fail
  refine wp_region_steps0 NewT [SV.eq (.bool true), SV.eq (.bool false)] [([], none), ([(16, some 0)], none)] 93 2 rfl rfl (by kernel_rfl) NewT.trans (NewT.refl _) (Nat.le_of_ble_eq_true rfl) ⟨?_, ?_, trivial⟩ ?_
  · exact fun a wx hT hF K hK => rely_wp rfl (opr_cv (alive13_cv wx ((NewT.trans _ _ _ HM.out hT).tables HTT.out)) rfl Tryd.func9 (by kernel_rfl) (by kernel_rfl) evs0 hK)
  · exact fun a wx hT hF K hK => rely_wp rfl (opr_not rfl hF.1 (hK _ _ (NewT.refl _) rfl))
  · intro w1 k1
    iterate 2 (intro u h; obtain rfl := Eq.symm (h (by simp)); clear h)
    refine relyEnd_nil rfl ?_
    refine wpList_end rfl ?_
    simp only [Act.put, List.setIfInBounds_toArray, List.set_cons_zero, List.set_cons_succ]
    go_simp
    replace Rgk := Lib.hid (k1.row Rgk.out)
    replace Rgc := Lib.hid (k1.row Rgc.out)
    replace HM := Lib.hid (NewT.trans _ _ _ HM.out k1)
    clear k1
    go_upto_region 3 with fail
    obtain ⟨q1_3, Q1_3⟩ : ∃ bq_, ((!(fewB ps ws (List.length (l)))) || (!(hasB ps ws need n 0))) = bq_ := ⟨_, rfl⟩
    refine wp_region_steps0 NewT [SV.eq (.agg (rowA 3 (keyF pv wv need))), SV.eq (v2), SV.eq (.bool (fewB ps ws (List.length (l)))), SV.eq (.bool (!(fewB ps ws (List.length (l))))), SV.eq (.bool (!(fewB ps ws (List.length (l))))), svIf ((!(!(fewB ps ws (List.length (l)))))) (SV.eq (.agg (rowA 3 (keyF pv wv need)))), svIf ((!(!(fewB ps ws (List.length (l)))))) (SV.eq (.int .i64 (n))), svIf ((!(!(fewB ps ws (List.length (l)))))) (SV.eq (.bool (hasB ps ws need n 0))), svIf ((!(!(fewB ps ws (List.length (l)))))) (SV.eq (.bool (!(hasB ps ws need n 0)))), SV.eq (.bool (q1_3))] [([(4, none)], none), ([(2, none)], none), ([(18, some 0), (19, some 1)], none), ([(20, some 2)], none), ([(21, some 3)], none), ([(4, none), (22, some 4)], some (22, false)), ([(1, none), (22, some 4)], some (22, false)), ([(23, some 5), (24, some 6), (22, some 4)], some (22, false)), ([(25, some 7), (22, some 4)], some (22, false)), ([(22, some 4), (26, some 8)], none)] 93 10 rfl rfl (by kernel_rfl) NewT.trans (NewT.refl _) (Nat.le_of_ble_eq_true rfl) ⟨?_, ?_, ?_, ?_, ?_, ?_, ?_, ?_, ?_, ?_, trivial⟩ ?_
    · exact fun a wx hT hF K hK => rely_wp rfl (opr_ldY (hT.row Rgk.out) rfl hF.1 (hK _ _ (NewT.refl _) rfl))
    · exact fun a wx hT hF K hK => rely_wp rfl (opr_move (.inl rfl) (hK _ _ (NewT.refl _) hF.1))
    · exact fun a wx hT hF K hK => rely_wp rfl (opr_cv (few_cv _ _ ps ws need l wx (⟨pv, wv, rfl, (NewT.trans _ _ _ HM.out hT).hs HPP.out, (NewT.trans _ _ _ HM.out hT).hs HWW.out⟩ : KeysV wx (.agg (rowA 3 (keyF pv wv need))) ps ws need) (HL.out.new (NewT.trans _ _ _ HM.out hT))) rfl Tryd.func10 (by kernel_rfl) (by kernel_rfl) (evs2 hF.1 hF.2.1) hK)
    · exact fun a wx hT hF K hK => rely_wp rfl (opr_not rfl hF.1 (hK _ _ (NewT.refl _) rfl))
    · exact fun a wx hT hF K hK => rely_wp rfl (opr_move (.inl rfl) (hK _ _ (NewT.refl _) hF.1))
    · exact fun a wx hT hF K hK => rely_if (rely_gf hF.2.1) (NewT.refl _) hK fun hE hK => opr_ldY (hT.row Rgk.out) rfl hF.1 (hK _ _ (NewT.refl _) rfl)
    · exact fun a wx hT hF K hK => rely_if (rely_gf hF.2.1) (NewT.refl _) hK fun hE hK => opr_move (.inl rfl) (hK _ _ (NewT.refl _) hF.1)
    · exact fun a wx hT hF K hK => rely_if (rely_gf hF.2.2.1) (NewT.refl _) hK fun hE hK => opr_cv (RKnown_cv _ ps ws need n 0 wx (⟨pv, wv, rfl, (NewT.trans _ _ _ HM.out hT).hs HPP.out, (NewT.trans _ _ _ HM.out hT).hs HWW.out⟩ : KeysV wx (.agg (rowA 3 (keyF pv wv need))) ps ws need)) rfl Tryd.func12 (by kernel_rfl) (by kernel_rfl) (evs3 (hF.1 hE) (hF.2.1 hE) rfl) hK
    · exact fun a wx hT hF K hK => rely_if (rely_gf hF.2.1) (NewT.refl _) hK fun hE hK => opr_not rfl (hF.1 hE) (hK _ _ (NewT.refl _) rfl)
    · exact fun a wx hT hF K hK => rely_wp rfl (opr_pick_b rfl hF.1 (fun hb => hK _ _ (NewT.refl _) (pn_or1 Q1_3 hb)) (fun hb => hK _ _ (NewT.refl _) (pn_or0 Q1_3 (hF.2.1 (bnot hb)) hb)))
    · intro w2 k2
      iterate 5 (intro u h; obtain rfl := Eq.symm (h (by simp)); clear h)
      iterate 4 (intro _ _)
      intro u h; obtain rfl := Eq.symm (h (by simp)); clear h
      subst Q1_3
      refine relyEnd_nil rfl ?_
      refine wpList_end rfl ?_
      simp only [Act.put, List.setIfInBounds_toArray, List.set_cons_zero, List.set_cons_succ]
      go_simp
      replace Rgk := Lib.hid (k2.row Rgk.out)
      replace Rgc := Lib.hid (k2.row Rgc.out)
      replace HM := Lib.hid (NewT.trans _ _ _ HM.out k2)
      clear k2
      cases hb : (((!(fewB ps ws (List.length (l)))) || (!(hasB ps ws need n 0))))
      · simp only [Bool.or_eq_false_iff, Bool.not_eq_false'] at hb
        have HKN : Hid (hasB ps ws need n 0 = true) := Lib.hid hb.2
        have HLE : Hid (l.length ≤ 60) := Lib.hid (by have h1 := hb.1; simp only [fewB, Bool.and_eq_true, decide_eq_true_eq] at h1; omega)
        clear hb
        go_upto_region 5 with fail
        refine wp_region_relyL (NewT) (JN 2 5 6 30 33 9 w2 (fun w lo hi g => PartAt w lo hi g n 0 ps ws need [])) [SV.eq (.agg (rowA 3 (keyF pv wv need))), SV.eq (.int .i64 (n)), svPtV, SV.eq (.agg (rowA 3 (keyF pv wv need))), SV.eq (.int .i64 (n)), svPtV, svPtV] [([(4, none)], none), ([(1, none)], none), ([(28, some 0), (29, some 1)], none), ([(4, none)], none), ([(1, none)], none), ([(31, some 3), (32, some 4)], none), ([(30, some 2)], none)] 93 rfl (by kernel_rfl) rfl (by kernel_rfl) (by kernel_rfl) rfl NewT.trans (NewT.drew _) (JN.start _) (Nat.le_of_ble_eq_true rfl) ⟨?_, ?_, ?_, ?_, ?_, ?_, ?_, trivial⟩ ?_
        · exact fun a wx li hT hF hJ hx K hK => have hK := fun v w' (hN : NewT wx w') hv => hK v w' (hN) ((JN.other hJ (by decide) (by simp) hN (fun {lo hi g} h => PartAt.new h hN))) hv; rely_wp rfl (opr_ldY (hT.row Rgk.out) rfl hF.1 (hK _ _ (NewT.refl _) rfl))
        · exact fun a wx li hT hF hJ hx K hK => have hK := fun v w' (hN : NewT wx w') hv => hK v w' (hN) ((JN.other hJ (by decide) (by simp) hN (fun {lo hi g} h => PartAt.new h hN))) hv; rely_wp rfl (opr_move (.inl rfl) (hK _ _ (NewT.refl _) hF.1))
        · intro a wx li hT hF hJ hx K hK
          obtain ⟨f28, f29, _⟩ := hF
          have f28 : a.tmps.getD 28 undef = .agg (rowA 3 (keyF pv wv need)) := f28
          have f29 : a.tmps.getD 29 undef = .int .i64 (n) := f29
          refine rely_wp rfl ?_
          refine opr_cv ((New_yes wx.heap.size _ ps ws need n wx (Nat.le_refl _) (⟨pv, wv, rfl, (NewT.trans _ _ _ HM.out hT).hs HPP.out, (NewT.trans _ _ _ HM.out hT).hs HWW.out⟩ : KeysV wx (.agg (rowA 3 (keyF pv wv need))) ps ws need) HKN.out)) rfl Tryd.func11 (by kernel_rfl) (by kernel_rfl) (by simp only [List.map_toArray, List.map_cons, List.map_nil, eval_tmp, f28, f29]) (fun v w' hN hv => ?_)
          obtain ⟨g0, hi0, hv0, hp0⟩ := hv
          subst hv0
          exact hK _ _ hN (JN.fst hJ hx ⟨by decide, by decide, by decide, by decide, by kernel_rfl⟩ hN hT.out.size hp0 (fun {lo hi g} h => PartAt.new h hN) (fun {lo hi g} h => h.lt.2.2)) ⟨g0, rfl⟩
        · exact fun a wx li hT hF hJ hx K hK => have hK := fun v w' (hN : NewT wx w') hv => hK v w' (hN) ((JN.other hJ (by decide) (by simp) hN (fun {lo hi g} h => PartAt.new h hN))) hv; rely_wp rfl (opr_ldY (hT.row Rgk.out) rfl hF.1 (hK _ _ (NewT.refl _) rfl))
        · exact fun a wx li hT hF hJ hx K hK => have hK := fun v w' (hN : NewT wx w') hv => hK v w' (hN) ((JN.other hJ (by decide) (by simp) hN (fun {lo hi g} h => PartAt.new h hN))) hv; rely_wp rfl (opr_move (.inl rfl) (hK _ _ (NewT.refl _) hF.1))
        · intro a wx li hT hF hJ hx K hK
          obtain ⟨f31, f32, _⟩ := hF
          have f31 : a.tmps.getD 31 undef = .agg (rowA 3 (keyF pv wv need)) := f31
          have f32 : a.tmps.getD 32 undef = .int .i64 (n) := f32
          refine rely_wp rfl ?_
          refine opr_cv ((New_yes wx.heap.size _ ps ws need n wx (Nat.le_refl _) (⟨pv, wv, rfl, (NewT.trans _ _ _ HM.out hT).hs HPP.out, (NewT.trans _ _ _ HM.out hT).hs HWW.out⟩ : KeysV wx (.agg (rowA 3 (keyF pv wv need))) ps ws need) HKN.out)) rfl Tryd.func11 (by kernel_rfl) (by kernel_rfl) (by simp only [List.map_toArray, List.map_cons, List.map_nil, eval_tmp, f31, f32]) (fun v w' hN hv => ?_)
          obtain ⟨g0, hi0, hv0, hp0⟩ := hv
          subst hv0
          exact hK _ _ hN (JN.snd hJ hx (by decide) hN hT.out.size hp0 (fun {lo hi g} h => PartAt.new h hN) (fun {lo hi g} h => h.lt.2.2)) ⟨g0, rfl⟩
        · intro a wx li hT hF hJ hx K hK
          obtain ⟨f30, _⟩ := hF
          replace f30 := show (svPtV).pred (a.tmps.getD 30 undef) wx from f30
          refine rely_wp rfl ?_
          obtain ⟨g0, hg0⟩ := f30
          exact opr_move (.inr rfl) (hK _ _ (NewT.refl _) (JN.cpy hJ hx (by decide) rfl) ⟨g0, hg0⟩)
        · intro w3 k3
          iterate 2 (intro u h; obtain rfl := Eq.symm (h (by simp)); clear h)
          intro u h; obtain ⟨p30, hv⟩ := (h (by simp)); clear h; subst hv
          iterate 2 (intro u h; obtain rfl := Eq.symm (h (by simp)); clear h)
          intro u h; obtain ⟨p33, hv⟩ := (h (by simp)); clear h; subst hv
          intro u h; obtain ⟨p9, hv⟩ := (h (by simp)); clear h; subst hv
          refine relyEnd_nil rfl ?_
          intro hJ
          simp only [Act.put, List.setIfInBounds_toArray, List.set_cons_zero, List.set_cons_succ]
          obtain ⟨lo, hi, lo2, hi2, q1, q2, q3, q4, q5⟩ := JN.end (g := p9) (g2 := p33) hJ (by decide) (by kernel_rfl) (by kernel_rfl)
          refine opr_move (.inr rfl) ?_
          go_simp
          clear hJ
          obtain ⟨gp, h_p⟩ : ∃ g_, p9 = g_ := ⟨_, rfl⟩
          obtain ⟨gq, h_q⟩ : ∃ g_, p33 = g_ := ⟨_, rfl⟩
          rw [h_p] at q3
          rw [h_q] at q4
          simp only [h_p, h_q]
          have HLO : Hid (2 ≤ lo ∧ 2 ≤ lo2 ∧ gk < lo ∧ gk < lo2 ∧ gc < lo ∧ gc < lo2 ∧ w.heap.size ≤ lo ∧ w.heap.size ≤ lo2 ∧ lo ≤ hi ∧ lo2 ≤ hi2 ∧ (hi ≤ lo2 ∨ hi2 ≤ lo)) := Lib.hid (by have h1 := q3.lt; have h2 := HTT.out.size; have h3 := HM.out.out.size; have h4 := q4.lt; have h5 := Rgk.out.lt; have h6 := Rgc.out.lt; omega)
          have HPA := Lib.hid q3
          have HPB := Lib.hid q4
          clear q1 q2 q3 q4 q5 h_p h_q
          replace Rgk := Lib.hid (k3.row Rgk.out)
          replace Rgc := Lib.hid (k3.row Rgc.out)
          replace HM := Lib.hid (NewT.trans _ _ _ HM.out k3)
          clear k3
          go_wp2
          go_loopw [11] (fun i wr => ∃ (k : Nat) (L M : List En), k ≤ l.length ∧ i = .int .i64 (k : Int) ∧ Hid (NewT w wr) ∧ Hid (PartAt wr lo hi gp n 0 ps ws need L) ∧ Hid (PartAt wr lo2 hi2 gq n 0 ps ws need M) ∧ Hid (L.filter (sgB c.saga) = M) ∧ Hid (wr.rowIs gc 34 41 (clF c))) (fun i _ => l.length - (intOf i).toNat)
          case atStart => exact ⟨0, [], [], by omega, rfl, HM, HPA, HPB, Lib.hid rfl, Rgc⟩
          case round =>
            clear HM HPA HPB Rgk Rgc
            obtain ⟨k, L, M, hk, rfl, HM, HPA, HPB, HFL, Rgc⟩ := hrel
            by_cases hlt : k < l.length
            rotate_left
            · have HGE : Hid (¬ (k : Int) < (l.length : Int)) := Lib.hid (by omega)
              obtain ⟨x, hx⟩ : ∃ x, takeC kf ps ws need n 0 L c false = x := ⟨_, rfl⟩
              obtain ⟨b, hb⟩ : ∃ b, itsB n c = b := ⟨_, rfl⟩
              have HX := Lib.hid hx
              have HB := Lib.hid hb
              have HX2 : Hid (takeC kf ps ws need n 0 M c false = x) := Lib.hid (by rw [← hx, ← HFL.out]; exact apart_take L c)
              obtain ⟨L2, hL2⟩ : ∃ N, takeL n L c false = N := ⟨_, rfl⟩
              obtain ⟨M2, hM2⟩ : ∃ N, takeL n M c false = N := ⟨_, rfl⟩
              have HL2 := Lib.hid hL2
              have HM2 := Lib.hid hM2
              clear hlt hx hb hL2 hM2
              go_upto_region 7 with fail
              refine wp_region_steps0 NewT [SV.eq (.int .i64 ((k : Int))), SV.eq (v2), SV.eq (.int .i64 ((List.length (l) : Int))), SV.eq (.bool false)] [([(11, none)], none), ([(2, none)], none), ([(35, some 1)], none), ([(34, some 0), (36, some 2)], none)] 93 4 rfl rfl (by kernel_rfl) NewT.trans (NewT.refl _) (Nat.le_of_ble_eq_true rfl) ⟨?_, ?_, ?_, ?_, trivial⟩ ?_
              · exact fun a wx hT hF K hK => rely_wp rfl (opr_move (.inl rfl) (hK _ _ (NewT.refl _) hF.1))
              · exact fun a wx hT hF K hK => rely_wp rfl (opr_move (.inl rfl) (hK _ _ (NewT.refl _) hF.1))
              · intro a wx hT hF K hK
                obtain ⟨f35, _⟩ := hF
                have f35 : a.tmps.getD 35 undef = v2 := f35
                refine rely_wp rfl ?_
                exact opr_lenL rfl actEl (by rw [eval_tmp, f35]; exact (HL.out.new (NewT.trans _ _ _ HM.out hT))) (hK _ _ (NewT.refl _) rfl)
              · exact fun a wx hT hF K hK => rely_wp rfl (opr_cmp (b := false) (.inr (.inr (.inr (.inl ⟨rfl, (by exact decide_eq_false HGE.out)⟩)))) Tryd.underlying3 rfl hF.1 hF.2.1 (hK _ _ (NewT.refl _) rfl))
              · intro w4 k4
                iterate 4 (intro u h; obtain rfl := Eq.symm (h (by simp)); clear h)
                refine relyEnd_nil rfl ?_
                refine wpList_end rfl ?_
                simp only [Act.put, List.setIfInBounds_toArray, List.set_cons_zero, List.set_cons_succ]
                go_simp
                replace Rgc := Lib.hid (k4.row Rgc.out)
                replace HPA := Lib.hid (HPA.out.new k4)
                replace HPB := Lib.hid (HPB.out.new k4)
                replace HM := Lib.hid (NewT.trans _ _ _ HM.out k4)
                clear k4
                go_upto_region 12 with fail
                refine wp_region_lit ?_
                refine wpList_plain rfl (fun K hK => ?_)
                refine opr_move (.inl rfl) (hK _ _ ?_)
                clear hK K
                simp only [Act.put, List.setIfInBounds_toArray, List.set_cons_zero, List.set_cons_succ]
                refine wpList_plain rfl (fun K hK => ?_)
                refine opr_ldCl Rgc.out rfl rfl (hK _ _ ?_)
                clear hK K
                simp only [Act.put, List.setIfInBounds_toArray, List.set_cons_zero, List.set_cons_succ]
                refine wpList_plain rfl (fun K hK => ?_)
                refine opr_call rfl Tryd.func13 (by kernel_rfl) (by kernel_rfl) (vs := #[.pointer (some ⟨gp, 0, none⟩), .agg (rowA 41 (clF c)), .bool false]) (by simp only [List.map_toArray, List.map_cons, List.map_nil]; rfl) ((Take_k hX w4 (HM.out.tables HTT.out) HLO.out.1 HPA.out HB.out HX.out HL2.out).mono ?_)
                rintro ex wt5 ⟨rfl, hP5, hA5⟩
                refine ⟨_, rfl, hK _ _ ?_⟩
                clear hK K
                replace HPB := Lib.hid (HPB.out.pt hP5 (by have := HLO.out; omega))
                replace Rgc := Lib.hid (hP5.row Rgc.out (by have h_0 := HG.out; have h_1 := HLO.out; omega))
                replace HM := Lib.hid (NewT.of (HM.out.out.trans (hP5.below.mono (by have h_0 := HG.out; have h_1 := HLO.out; omega))))
                replace HPA := Lib.hid hA5
                clear hP5 hA5
                simp only [Act.put, List.setIfInBounds_toArray, List.set_cons_zero, List.set_cons_succ]
                refine wpList_plain rfl (fun K hK => ?_)
                refine opr_move (.inl rfl) (hK _ _ ?_)
                clear hK K
                simp only [Act.put, List.setIfInBounds_toArray, List.set_cons_zero, List.set_cons_succ]
                refine wpList_plain rfl (fun K hK => ?_)
                refine opr_ext rfl rfl rfl (hK _ _ ?_)
                clear hK K
                simp only [Act.put, List.setIfInBounds_toArray, List.set_cons_zero, List.set_cons_succ]
                refine wpList_plain rfl (fun K hK => ?_)
                refine opr_ext rfl rfl rfl (hK _ _ ?_)
                clear hK K
                simp only [Act.put, List.setIfInBounds_toArray, List.set_cons_zero, List.set_cons_succ]
                refine wpList_new (n := 41) (f := clF x) rfl rfl rfl rfl rfl rfl (by first | (simp; done) | simp [Act.put]) run_alloc_cl info_cl (clF_one _) rfl ?_
                intro W5 hn5 rr5
                simp only [Act.put, List.setIfInBounds_toArray, List.set_cons_zero, List.set_cons_succ]
                refine wpList_plain rfl (fun K hK => ?_)
                refine opr_move (.inr rfl) (hK _ _ ?_)
                clear hK K
                simp only [Act.put, List.setIfInBounds_toArray, List.set_cons_zero, List.set_cons_succ]
                refine wpList_end rfl ?_
                go_simp
                obtain ⟨ga, h_ga⟩ : ∃ g_, wt5.heap.size = g_ := ⟨_, rfl⟩
                rw [h_ga] at rr5
                simp only [h_ga]
                have HGga : Hid (gc < ga ∧ hi ≤ ga ∧ hi2 ≤ ga ∧ w.heap.size ≤ ga) := Lib.hid (by rw [← h_ga]; exact ⟨Rgc.out.lt, HPA.out.lt.2.2, HPB.out.lt.2.2, HM.out.out.size⟩)
                clear h_ga
                replace Rgc := Lib.hid (hn5.row Rgc.out)
                replace HPA := Lib.hid (HPA.out.new hn5)
                replace HPB := Lib.hid (HPB.out.new hn5)
                replace HM := Lib.hid (NewT.trans _ _ _ HM.out hn5)
                clear hn5
                have Rga := Lib.hid rr5
                clear rr5
                go_upto_region 13 with fail
                refine wp_region_lit ?_
                refine wpList_plain rfl (fun K hK => ?_)
                refine opr_move (.inl rfl) (hK _ _ ?_)
                clear hK K
                simp only [Act.put, List.setIfInBounds_toArray, List.set_cons_zero, List.set_cons_succ]
                refine wpList_plain rfl (fun K hK => ?_)
                refine opr_ldCl Rgc.out rfl rfl (hK _ _ ?_)
                clear hK K
                simp only [Act.put, List.setIfInBounds_toArray, List.set_cons_zero, List.set_cons_succ]
                refine wpList_plain rfl (fun K hK => ?_)
                refine opr_call rfl Tryd.func13 (by kernel_rfl) (by kernel_rfl) (vs := #[.pointer (some ⟨gq, 0, none⟩), .agg (rowA 41 (clF c)), .bool false]) (by simp only [List.map_toArray, List.map_cons, List.map_nil]; rfl) ((Take_k hX W5 (HM.out.tables HTT.out) HLO.out.2.1 HPB.out HB.out HX2.out HM2.out).mono ?_)
                rintro ex wt6 ⟨rfl, hP6, hA6⟩
                refine ⟨_, rfl, hK _ _ ?_⟩
                clear hK K
                replace HPA := Lib.hid (HPA.out.pt hP6 (by have := HLO.out; omega))
                replace Rgc := Lib.hid (hP6.row Rgc.out (by have h_0 := HG.out; have h_1 := HLO.out; have h_2 := HGga.out; omega))
                replace Rga := Lib.hid (hP6.row Rga.out (by have h_0 := HG.out; have h_1 := HLO.out; have h_2 := HGga.out; omega))
                replace HM := Lib.hid (NewT.of (HM.out.out.trans (hP6.below.mono (by have h_0 := HG.out; have h_1 := HLO.out; have h_2 := HGga.out; omega))))
                replace HPB := Lib.hid hA6
                clear hP6 hA6
                simp only [Act.put, List.setIfInBounds_toArray, List.set_cons_zero, List.set_cons_succ]
                refine wpList_plain rfl (fun K hK => ?_)
                refine opr_move (.inl rfl) (hK _ _ ?_)
                clear hK K
                simp only [Act.put, List.setIfInBounds_toArray, List.set_cons_zero, List.set_cons_succ]
                refine wpList_plain rfl (fun K hK => ?_)
                refine opr_ext rfl rfl rfl (hK _ _ ?_)
                clear hK K
                simp only [Act.put, List.setIfInBounds_toArray, List.set_cons_zero, List.set_cons_succ]
                refine wpList_plain rfl (fun K hK => ?_)
                refine opr_ext rfl rfl rfl (hK _ _ ?_)
                clear hK K
                simp only [Act.put, List.setIfInBounds_toArray, List.set_cons_zero, List.set_cons_succ]
                refine wpList_new (n := 41) (f := clF x) rfl rfl rfl rfl rfl rfl (by first | (simp; done) | simp [Act.put]) run_alloc_cl info_cl (clF_one _) rfl ?_
                intro W6 hn6 rr6
                simp only [Act.put, List.setIfInBounds_toArray, List.set_cons_zero, List.set_cons_succ]
                refine wpList_plain rfl (fun K hK => ?_)
                refine opr_move (.inr rfl) (hK _ _ ?_)
                clear hK K
                simp only [Act.put, List.setIfInBounds_toArray, List.set_cons_zero, List.set_cons_succ]
                refine wpList_end rfl ?_
                go_simp
                obtain ⟨gb, h_gb⟩ : ∃ g_, wt6.heap.size = g_ := ⟨_, rfl⟩
                rw [h_gb] at rr6
                simp only [h_gb]
                have HGgb : Hid (gc < gb ∧ ga < gb ∧ hi ≤ gb ∧ hi2 ≤ gb ∧ w.heap.size ≤ gb) := Lib.hid (by rw [← h_gb]; exact ⟨Rgc.out.lt, Rga.out.lt, HPA.out.lt.2.2, HPB.out.lt.2.2, HM.out.out.size⟩)
                clear h_gb
                replace Rgc := Lib.hid (hn6.row Rgc.out)
                replace Rga := Lib.hid (hn6.row Rga.out)
                replace HPA := Lib.hid (HPA.out.new hn6)
                replace HPB := Lib.hid (HPB.out.new hn6)
                replace HM := Lib.hid (NewT.trans _ _ _ HM.out hn6)
                clear hn6
                have Rgb := Lib.hid rr6
                clear rr6
                go_upto_region 14 with fail
                refine wp_region_steps0 NewT [SV.eq (.agg (rowA 41 (clF x))), SV.eq (.agg (rowA 41 (clF x))), SV.eq (.bool (eqC x x)), SV.eq (.bool (eqC x x)), svIf (eqC x x) (SV.eq (.bool (b))), svIf (eqC x x) (SV.eq (.bool (b))), svIf (eqC x x) (SV.eq (.bool (b == b))), SV.eq (.bool ((eqC x x) && (b == b))), SV.eq (.bool ((eqC x x) && (b == b)))] [([(12, none)], none), ([(14, none)], none), ([(85, some 0), (86, some 1)], none), ([(87, some 2)], none), ([(13, none), (88, some 3)], some (88, true)), ([(15, none), (88, some 3)], some (88, true)), ([(89, some 4), (90, some 5), (88, some 3)], some (88, true)), ([(88, some 3), (91, some 6)], none), ([(92, some 7)], none)] 93 9 rfl rfl (by kernel_rfl) NewT.trans (NewT.refl _) (Nat.le_of_ble_eq_true rfl) ⟨?_, ?_, ?_, ?_, ?_, ?_, ?_, ?_, ?_, trivial⟩ ?_
                · exact fun a wx hT hF K hK => rely_wp rfl (opr_ldCl (hT.row Rga.out) rfl hF.1 (hK _ _ (NewT.refl _) rfl))
                · exact fun a wx hT hF K hK => rely_wp rfl (opr_ldCl (hT.row Rgb.out) rfl hF.1 (hK _ _ (NewT.refl _) rfl))
                · exact fun a wx hT hF K hK => rely_wp rfl (opr_eqlCl rfl hF.1 hF.2.1 (hK _ _ (NewT.refl _) rfl))
                · exact fun a wx hT hF K hK => rely_wp rfl (opr_move (.inl rfl) (hK _ _ (NewT.refl _) hF.1))
                · exact fun a wx hT hF K hK => rely_if (rely_gt hF.2.1) (NewT.refl _) hK fun hE hK => opr_move (.inl rfl) (hK _ _ (NewT.refl _) hF.1)
                · exact fun a wx hT hF K hK => rely_if (rely_gt hF.2.1) (NewT.refl _) hK fun hE hK => opr_move (.inl rfl) (hK _ _ (NewT.refl _) hF.1)
                · exact fun a wx hT hF K hK => rely_if (rely_gt hF.2.2.1) (NewT.refl _) hK fun hE hK => opr_eqlQ (b := b == b) (rfl) rfl (hF.1 hE) (hF.2.1 hE) (hK _ _ (NewT.refl _) rfl)
                · exact fun a wx hT hF K hK => rely_wp rfl (opr_pick_b rfl hF.1 (fun hb => hK _ _ (NewT.refl _) (pk_and1 (hF.2.1 hb) hb)) (fun hb => hK _ _ (NewT.refl _) (pk_and0 hb)))
                · exact fun a wx hT hF K hK => rely_wp rfl (opr_move (.inr rfl) (hK _ _ (NewT.refl _) hF.1))
                · intro w7 k7
                  iterate 4 (intro u h; obtain rfl := Eq.symm (h (by simp)); clear h)
                  iterate 3 (intro _ _)
                  iterate 2 (intro u h; obtain rfl := Eq.symm (h (by simp)); clear h)
                  refine relyEnd_nil rfl ?_
                  refine wpList_end rfl ?_
                  simp only [Act.put, List.setIfInBounds_toArray, List.set_cons_zero, List.set_cons_succ]
                  go_simp
                  replace Rgc := Lib.hid (k7.row Rgc.out)
                  replace Rga := Lib.hid (k7.row Rga.out)
                  replace Rgb := Lib.hid (k7.row Rgb.out)
                  replace HPA := Lib.hid (HPA.out.new k7)
                  replace HPB := Lib.hid (HPB.out.new k7)
                  replace HM := Lib.hid (NewT.trans _ _ _ HM.out k7)
                  clear k7
                  go_wp2
                  go_ret
                  exact ⟨by rw [eqC_self]; cases b <;> rfl, HM.out.out⟩
            · obtain ⟨y, hy⟩ : ∃ y, l[k]? = some y := ⟨_, List.getElem?_eq_getElem hlt⟩
              obtain ⟨lb, lof, lc, hv, hcc⟩ := acts_at HL.out hy
              have HLB : Hid (lb < w.heap.size) := Lib.hid (cell_lt (hcc 0 (by omega)))
              have HC0 : Hid (w.cell? ⟨lb, lof + k * 43, none⟩ = some (.int .i64 y.kind)) := Lib.hid (hcc 0 (by omega))
              have HC1 : Hid (∀ j, j < 41 → w.cell? ⟨lb, lof + k * 43 + 1 + j, none⟩ = some (clF y.c j)) := Lib.hid (fun j hj => by rw [Nat.add_assoc, hcc (1 + j) (by omega), acF_c _ _ hj])
              have HC2 : Hid (w.cell? ⟨lb, lof + k * 43 + 42, none⟩ = some (.bool y.r)) := Lib.hid (hcc 42 (by omega))
              have HKL := Lib.hid hlt
              have HYL := Lib.hid hy
              have HGE : Hid ((k : Int) < (l.length : Int)) := Lib.hid (by omega)
              obtain ⟨x, hx⟩ : ∃ x, takeC kf ps ws need n 0 L y.c y.r = x := ⟨_, rfl⟩
              obtain ⟨b, hb⟩ : ∃ b, itsB n y.c = b := ⟨_, rfl⟩
              obtain ⟨L2, hL2⟩ : ∃ N, takeL n L y.c y.r = N := ⟨_, rfl⟩
              have HX := Lib.hid hx
              have HB := Lib.hid hb
              have HL2 := Lib.hid hL2
              subst hv
              clear hcc hlt hx hb hL2
              go_upto_region 7 with fail
              refine wp_region_steps0 NewT [SV.eq (.int .i64 ((k : Int))), SV.eq ((.slice (some ⟨lb, lof, none⟩) l.length lc)), SV.eq (.int .i64 ((List.length (l) : Int))), SV.eq (.bool true)] [([(11, none)], none), ([(2, none)], none), ([(35, some 1)], none), ([(34, some 0), (36, some 2)], none)] 93 4 rfl rfl (by kernel_rfl) NewT.trans (NewT.refl _) (Nat.le_of_ble_eq_true rfl) ⟨?_, ?_, ?_, ?_, trivial⟩ ?_
              · exact fun a wx hT hF K hK => rely_wp rfl (opr_move (.inl rfl) (hK _ _ (NewT.refl _) hF.1))
              · exact fun a wx hT hF K hK => rely_wp rfl (opr_move (.inl rfl) (hK _ _ (NewT.refl _) hF.1))
              · intro a wx hT hF K hK
                obtain ⟨f35, _⟩ := hF
                have f35 : a.tmps.getD 35 undef = (.slice (some ⟨lb, lof, none⟩) l.length lc) := f35
                refine rely_wp rfl ?_
                exact opr_lenL rfl actEl (by rw [eval_tmp, f35]; exact (HL.out.new (NewT.trans _ _ _ HM.out hT))) (hK _ _ (NewT.refl _) rfl)
              · exact fun a wx hT hF K hK => rely_wp rfl (opr_cmp (b := true) (.inr (.inr (.inr (.inl ⟨rfl, (by exact decide_eq_true HGE.out)⟩)))) Tryd.underlying3 rfl hF.1 hF.2.1 (hK _ _ (NewT.refl _) rfl))
              · intro w8 k8
                iterate 4 (intro u h; obtain rfl := Eq.symm (h (by simp)); clear h)
                refine relyEnd_nil rfl ?_
                refine wpList_end rfl ?_
                simp only [Act.put, List.setIfInBounds_toArray, List.set_cons_zero, List.set_cons_succ]
                go_simp
                replace Rgc := Lib.hid (k8.row Rgc.out)
                replace HPA := Lib.hid (HPA.out.new k8)
                replace HPB := Lib.hid (HPB.out.new k8)
                replace HM := Lib.hid (NewT.trans _ _ _ HM.out k8)
                clear k8
                go_upto_region 9 with fail
                refine wp_region_rely (NewT) [SV.eq (.pointer (some ⟨gp, 0, none⟩)), SV.eq ((.slice (some ⟨lb, lof, none⟩) l.length lc)), SV.eq (.int .i64 ((k : Int))), SV.eq (.pointer (some ⟨lb, lof + k * 43, none⟩)), SV.eq (.pointer (some ⟨lb, lof + k * 43 + 1, none⟩)), SV.eq (.agg (rowA 41 (clF y.c))), SV.eq ((.slice (some ⟨lb, lof, none⟩) l.length lc)), SV.eq (.int .i64 ((k : Int))), SV.eq (.pointer (some ⟨lb, lof + k * 43, none⟩)), SV.eq (.pointer (some ⟨lb, lof + k * 43 + 42, none⟩)), SV.eq (.bool (y.r))] [([(9, none)], none), ([(2, none)], none), ([(11, none)], none), ([(41, some 1), (42, some 2)], none), ([(43, some 3)], none), ([(44, some 4)], none), ([(2, none)], none), ([(11, none)], none), ([(46, some 6), (47, some 7)], none), ([(48, some 8)], none), ([(49, some 9)], none)] 93 rfl (by kernel_rfl) rfl (by kernel_rfl) (by kernel_rfl) rfl NewT.trans (NewT.drew _) (Nat.le_of_ble_eq_true rfl) ⟨?_, ?_, ?_, ?_, ?_, ?_, ?_, ?_, ?_, ?_, ?_, trivial⟩ ?_
                · exact fun a wx hT hF K hK => rely_wp rfl (opr_move (.inl rfl) (hK _ _ (NewT.refl _) hF.1))
                · exact fun a wx hT hF K hK => rely_wp rfl (opr_move (.inl rfl) (hK _ _ (NewT.refl _) hF.1))
                · exact fun a wx hT hF K hK => rely_wp rfl (opr_move (.inl rfl) (hK _ _ (NewT.refl _) hF.1))
                · exact fun a wx hT hF K hK => rely_wp rfl (opr_idxB actEl HKL.out rfl rfl hF.1 hF.2.1 (hK _ _ (NewT.refl _) rfl))
                · exact fun a wx hT hF K hK => rely_wp rfl (opr_fldAc1 rfl hF.1 (hK _ _ (NewT.refl _) rfl))
                · exact fun a wx hT hF K hK => rely_wp rfl (opr_ldClC (c := y.c) (fun j hj => ((NewT.trans _ _ _ HM.out hT).out.cell (cell_lt (HC1.out j hj))).trans (HC1.out j hj)) rfl hF.1 (hK _ _ (NewT.refl _) rfl))
                · exact fun a wx hT hF K hK => rely_wp rfl (opr_move (.inl rfl) (hK _ _ (NewT.refl _) hF.1))
                · exact fun a wx hT hF K hK => rely_wp rfl (opr_move (.inl rfl) (hK _ _ (NewT.refl _) hF.1))
                · exact fun a wx hT hF K hK => rely_wp rfl (opr_idxB actEl HKL.out rfl rfl hF.1 hF.2.1 (hK _ _ (NewT.refl _) rfl))
                · exact fun a wx hT hF K hK => rely_wp rfl (opr_fldAc2 rfl hF.1 (hK _ _ (NewT.refl _) rfl))
                · exact fun a wx hT hF K hK => rely_wp rfl (opr_ld1 Tryd.underlying4 rfl rfl hF.1 (((NewT.trans _ _ _ HM.out hT).out.cell (cell_lt (HC2.out))).trans (HC2.out)) (hK _ _ (NewT.refl _) rfl))
                · intro w9 k9
                  iterate 11 (intro u h; obtain rfl := Eq.symm (h (by simp)); clear h)
                  refine relyEnd_nil rfl ?_
                  simp only [Act.put, List.setIfInBounds_toArray, List.set_cons_zero, List.set_cons_succ]
                  refine opr_call rfl Tryd.func13 (by kernel_rfl) (by kernel_rfl) (vs := #[.pointer (some ⟨gp, 0, none⟩), .agg (rowA 41 (clF y.c)), .bool y.r]) (by simp only [List.map_toArray, List.map_cons, List.map_nil]; rfl) ((Take_k hX w9 ((NewT.trans _ _ _ HM.out k9).tables HTT.out) HLO.out.1 (HPA.out.new k9) HB.out HX.out HL2.out).mono ?_)
                  rintro ex wt9 ⟨rfl, hP9, hA9⟩
                  refine ⟨_, rfl, ?_⟩
                  go_simp
                  replace Rgc := Lib.hid (k9.row Rgc.out)
                  replace HPB := Lib.hid (HPB.out.new k9)
                  replace HM := Lib.hid (NewT.trans _ _ _ HM.out k9)
                  clear k9
                  replace HPB := Lib.hid (HPB.out.pt hP9 (by have := HLO.out; omega))
                  replace Rgc := Lib.hid (hP9.row Rgc.out (by have h_0 := HG.out; have h_1 := HLO.out; omega))
                  replace HM := Lib.hid (NewT.of (HM.out.out.trans (hP9.below.mono (by have h_0 := HG.out; have h_1 := HLO.out; omega))))
                  replace HPA := Lib.hid hA9
                  clear hP9 hA9
                  go_upto_region 10 with fail
                  refine wp_region_rely (NewT) [SV.eq ((.slice (some ⟨lb, lof, none⟩) l.length lc)), SV.eq (.int .i64 ((k : Int))), SV.eq (.pointer (some ⟨lb, lof + k * 43, none⟩)), SV.eq (.pointer (some ⟨lb, lof + k * 43 + 1, none⟩)), SV.eq (.pointer (some ⟨lb, lof + k * 43 + 1, none⟩)), SV.eq (.int .i64 (y.c.saga)), SV.eq (.pointer (some ⟨gc, 0, none⟩)), SV.eq (.int .i64 (c.saga))] [([(2, none)], none), ([(11, none)], none), ([(52, some 0), (53, some 1)], none), ([(54, some 2)], none), ([(55, some 3)], none), ([(56, some 4)], none), ([(7, none)], none), ([(58, some 6)], none)] 93 rfl (by kernel_rfl) rfl (by kernel_rfl) (by kernel_rfl) rfl NewT.trans (NewT.drew _) (Nat.le_of_ble_eq_true rfl) ⟨?_, ?_, ?_, ?_, ?_, ?_, ?_, ?_, trivial⟩ ?_
                  · exact fun a wx hT hF K hK => rely_wp rfl (opr_move (.inl rfl) (hK _ _ (NewT.refl _) hF.1))
                  · exact fun a wx hT hF K hK => rely_wp rfl (opr_move (.inl rfl) (hK _ _ (NewT.refl _) hF.1))
                  · exact fun a wx hT hF K hK => rely_wp rfl (opr_idxB actEl HKL.out rfl rfl hF.1 hF.2.1 (hK _ _ (NewT.refl _) rfl))
                  · exact fun a wx hT hF K hK => rely_wp rfl (opr_fldAc1 rfl hF.1 (hK _ _ (NewT.refl _) rfl))
                  · exact fun a wx hT hF K hK => rely_wp rfl (opr_fldClB0 rfl hF.1 (hK _ _ (NewT.refl _) rfl))
                  · exact fun a wx hT hF K hK => rely_wp rfl (opr_ld1 Tryd.underlying3 rfl rfl hF.1 (((NewT.trans _ _ _ HM.out hT).out.cell (cell_lt (HC1.out 0 (by omega)))).trans (HC1.out 0 (by omega))) (hK _ _ (NewT.refl _) rfl))
                  · exact fun a wx hT hF K hK => rely_wp rfl (opr_fldCl0 rfl hF.1 (hK _ _ (NewT.refl _) rfl))
                  · exact fun a wx hT hF K hK => rely_wp rfl (opr_ldI (hT.row Rgc.out) (by decide) rfl rfl hF.1 (hK _ _ (NewT.refl _) rfl))
                  · intro w10 k10
                    iterate 8 (intro u h; obtain rfl := Eq.symm (h (by simp)); clear h)
                    refine relyEnd_nil rfl ?_
                    simp only [Act.put, List.setIfInBounds_toArray, List.set_cons_zero, List.set_cons_succ]
                    refine opr_cmp (b := y.c.saga == c.saga) (.inl ⟨rfl, rfl⟩) Tryd.underlying3 rfl rfl rfl ?_
                    go_simp
                    replace Rgc := Lib.hid (k10.row Rgc.out)
                    replace HPB := Lib.hid (HPB.out.new k10)
                    replace HPA := Lib.hid (HPA.out.new k10)
                    replace HM := Lib.hid (NewT.trans _ _ _ HM.out k10)
                    clear k10
                    cases hb : (y.c.saga == c.saga)
                    · have HFL2 : Hid (L2.filter (sgB c.saga) = M) := Lib.hid (by rw [← HL2.out, ← HFL.out]; exact apart_other hb)
                      clear hb
                      have hk2 := HGE.out
                      have hk3 := HLE.out
                      go_wp2
                      go_roundw
                      case rel => exact ⟨k + 1, L2, M, by omega, by go_num, by first | exact HM | trivial, by first | exact HPA | trivial, by first | exact HPB | trivial, HFL2, by first | exact Rgc | trivial⟩
                      case measure => simp [intOf]; omega
                    · obtain ⟨x2, hx2⟩ : ∃ x, takeC kf ps ws need n 0 M y.c y.r = x := ⟨_, rfl⟩
                      obtain ⟨M2, hM2⟩ : ∃ N, takeL n M y.c y.r = N := ⟨_, rfl⟩
                      have HX2 := Lib.hid hx2
                      have HM2 := Lib.hid hM2
                      have HFL2 : Hid (L2.filter (sgB c.saga) = M2) := Lib.hid (by rw [← HL2.out, ← hM2, ← HFL.out]; exact apart_same hb)
                      clear hb hx2 hM2
                      go_upto_region 11 with fail
                      refine wp_region_rely (NewT) [SV.eq (.pointer (some ⟨gq, 0, none⟩)), SV.eq ((.slice (some ⟨lb, lof, none⟩) l.length lc)), SV.eq (.int .i64 ((k : Int))), SV.eq (.pointer (some ⟨lb, lof + k * 43, none⟩)), SV.eq (.pointer (some ⟨lb, lof + k * 43 + 1, none⟩)), SV.eq (.agg (rowA 41 (clF y.c))), SV.eq ((.slice (some ⟨lb, lof, none⟩) l.length lc)), SV.eq (.int .i64 ((k : Int))), SV.eq (.pointer (some ⟨lb, lof + k * 43, none⟩)), SV.eq (.pointer (some ⟨lb, lof + k * 43 + 42, none⟩)), SV.eq (.bool (y.r))] [([(10, none)], none), ([(2, none)], none), ([(11, none)], none), ([(62, some 1), (63, some 2)], none), ([(64, some 3)], none), ([(65, some 4)], none), ([(2, none)], none), ([(11, none)], none), ([(67, some 6), (68, some 7)], none), ([(69, some 8)], none), ([(70, some 9)], none)] 93 rfl (by kernel_rfl) rfl (by kernel_rfl) (by kernel_rfl) rfl NewT.trans (NewT.drew _) (Nat.le_of_ble_eq_true rfl) ⟨?_, ?_, ?_, ?_, ?_, ?_, ?_, ?_, ?_, ?_, ?_, trivial⟩ ?_
                      · exact fun a wx hT hF K hK => rely_wp rfl (opr_move (.inl rfl) (hK _ _ (NewT.refl _) hF.1))
                      · exact fun a wx hT hF K hK => rely_wp rfl (opr_move (.inl rfl) (hK _ _ (NewT.refl _) hF.1))
                      · exact fun a wx hT hF K hK => rely_wp rfl (opr_move (.inl rfl) (hK _ _ (NewT.refl _) hF.1))
                      · exact fun a wx hT hF K hK => rely_wp rfl (opr_idxB actEl HKL.out rfl rfl hF.1 hF.2.1 (hK _ _ (NewT.refl _) rfl))
                      · exact fun a wx hT hF K hK => rely_wp rfl (opr_fldAc1 rfl hF.1 (hK _ _ (NewT.refl _) rfl))
                      · exact fun a wx hT hF K hK => rely_wp rfl (opr_ldClC (c := y.c) (fun j hj => ((NewT.trans _ _ _ HM.out hT).out.cell (cell_lt (HC1.out j hj))).trans (HC1.out j hj)) rfl hF.1 (hK _ _ (NewT.refl _) rfl))
                      · exact fun a wx hT hF K hK => rely_wp rfl (opr_move (.inl rfl) (hK _ _ (NewT.refl _) hF.1))
                      · exact fun a wx hT hF K hK => rely_wp rfl (opr_move (.inl rfl) (hK _ _ (NewT.refl _) hF.1))
                      · exact fun a wx hT hF K hK => rely_wp rfl (opr_idxB actEl HKL.out rfl rfl hF.1 hF.2.1 (hK _ _ (NewT.refl _) rfl))
                      · exact fun a wx hT hF K hK => rely_wp rfl (opr_fldAc2 rfl hF.1 (hK _ _ (NewT.refl _) rfl))
                      · exact fun a wx hT hF K hK => rely_wp rfl (opr_ld1 Tryd.underlying4 rfl rfl hF.1 (((NewT.trans _ _ _ HM.out hT).out.cell (cell_lt (HC2.out))).trans (HC2.out)) (hK _ _ (NewT.refl _) rfl))
                      · intro w11 k11
                        iterate 11 (intro u h; obtain rfl := Eq.symm (h (by simp)); clear h)
                        refine relyEnd_nil rfl ?_
                        simp only [Act.put, List.setIfInBounds_toArray, List.set_cons_zero, List.set_cons_succ]
                        refine opr_call rfl Tryd.func13 (by kernel_rfl) (by kernel_rfl) (vs := #[.pointer (some ⟨gq, 0, none⟩), .agg (rowA 41 (clF y.c)), .bool y.r]) (by simp only [List.map_toArray, List.map_cons, List.map_nil]; rfl) ((Take_k hX w11 ((NewT.trans _ _ _ HM.out k11).tables HTT.out) HLO.out.2.1 (HPB.out.new k11) HB.out HX2.out HM2.out).mono ?_)
                        rintro ex wt11 ⟨rfl, hP11, hA11⟩
                        refine ⟨_, rfl, ?_⟩
                        go_simp
                        replace Rgc := Lib.hid (k11.row Rgc.out)
                        replace HPA := Lib.hid (HPA.out.new k11)
                        replace HM := Lib.hid (NewT.trans _ _ _ HM.out k11)
                        clear k11
                        replace HPA := Lib.hid (HPA.out.pt hP11 (by have := HLO.out; omega))
                        replace Rgc := Lib.hid (hP11.row Rgc.out (by have h_0 := HG.out; have h_1 := HLO.out; omega))
                        replace HM := Lib.hid (NewT.of (HM.out.out.trans (hP11.below.mono (by have h_0 := HG.out; have h_1 := HLO.out; omega))))
                        replace HPB := Lib.hid hA11
                        clear hP11 hA11
                        have hk2 := HGE.out
                        have hk3 := HLE.out
                        go_wp2
                        go_roundw
                        case rel => exact ⟨k + 1, L2, M2, by omega, by go_num, by first | exact HM | trivial, by first | exact HPA | trivial, by first | exact HPB | trivial, HFL2, by first | exact Rgc | trivial⟩
                        case measure => simp [intOf]; omega
      · clear hb
        go_wp2
        go_ret
        exact ⟨rfl, HM.out.out⟩
end Go.Proofs.YtchpmdcacpjojaaDoor
/- The two tables, out of the rows' own condition; the row's last step where the world has new blocks alone; the shapes of the arguments. -/
namespace Go.Proofs.YtchpmdcacpjojaaDoor
open Go.ChangeShapes Go.WideShapes Go.ChangeAt Go.WideMaps Go.WideElems Go.RowKit
set_option maxRecDepth 8000
set_option linter.all false

theorem gK : Tryd.prog.globalNamed "inspeximus/api.K" = some 1 := by kernel_rfl
theorem gF : Tryd.prog.globalNamed "inspeximus/api.First" = some 0 := by kernel_rfl
theorem tK : (Tryd.prog.globals[1]?).map (·.type) = some 126 := by kernel_rfl
theorem tF : (Tryd.prog.globals[0]?).map (·.type) = some 117 := by kernel_rfl
def laid2 : List (String × DataW Unit) := [("inspeximus/api.K", Rows.laid_inspeximus_api_K), ("inspeximus/api.First", Rows.laid_inspeximus_api_First)]
def kInts : List Int := kTab.map fun (n : Nat) => (n : Int)
def fInts : List Int := fTab.map fun (n : Nat) => (n : Int)
theorem tables_of_laid {W : World} (h : laidMetH Tryd.prog laid2 W) : Tables W := by
  rw [MakeChecks.laidMetH_plain _ _ _ (by kernel_rfl)] at h
  have hK : Lib.TabIs Tryd.prog W "inspeximus/api.K" .u32 kInts := Lib.tabIs_of_head gK tK Tryd.underlying126 Tryd.underlying116 (by kernel_rfl) (by kernel_rfl) h
  have hF : Lib.TabIs Tryd.prog W "inspeximus/api.First" .u32 fInts := Lib.tabIs_of_head gF tF Tryd.underlying117 Tryd.underlying116 (by kernel_rfl) (by kernel_rfl) (laidMet.tail h)
  have hs : 1 < W.heap.size := World.block_lt_of_cell? _ _ (hK.cell gK 0 (by decide))
  refine ⟨hs, fun i hi => ?_, fun i hi => ?_⟩
  · rw [hK.cell gK i (by simpa [kInts, kTab] using hi)]
    have h : ∀ i : Fin 64, kInts.getD i.val 0 = uN (Kc i.val) := by decide +kernel
    rw [h ⟨i, hi⟩]
  · rw [hF.cell gF i (by simpa [fInts, fTab] using hi)]
    have h : ∀ i : Fin 8, fInts.getD i.val 0 = uN (Fc i.val) := by decide +kernel
    rw [h ⟨i, hi⟩]
/-- The door's own heap meets the condition. -/
theorem door_met (os : Os) (args : Array Value) : laidMetH Tryd.prog laid2 ((World.doorLaid Tryd.prog 400 os).forCall (fun _ _ => 0) ⟨#[], args, []⟩).memory :=
  laidMetH_of_parts3 (fuel := 8) (laidMet_of_run' 8 (by kernel_rfl) (by kernel_rfl)) (by kernel_rfl) (by kernel_rfl)
end Go.Proofs.YtchpmdcacpjojaaDoor
/- (all of it lies in EP now) -/
/- The laws' arguments, opened: arrays of numbers by value, slices of bytes. -/
namespace Go.Proofs.YtchpmdcacpjojaaDoor
open Go.ChangeShapes Go.WideShapes Go.ChangeAt Go.WideMaps Go.WideElems Go.RowKit
set_option maxRecDepth 8000
set_option linter.all false

end Go.Proofs.YtchpmdcacpjojaaDoor
/- Laws of five and of six arguments: each of them read. No program is named. -/
namespace Go.Proofs.YtchpmdcacpjojaaDoor
open Go Go.ChangeShapes Go.RowKit
set_option maxRecDepth 8000
set_option linter.all false
section
variable {H : Type} {enc : TypeId × Value → H} {P : Program} {w : World} {base : Nat} {spare : Nat → Bool} {held : Bool}
end
end Go.Proofs.YtchpmdcacpjojaaDoor
/- The laws' arguments, opened: keys and checkpoints by value. -/
namespace Go.Proofs.YtchpmdcacpjojaaDoor
open Go Go.ChangeShapes Go.WideShapes Go.ChangeAt Go.WideMaps Go.WideElems Go.RowKit
set_option maxRecDepth 8000
set_option linter.all false
theorem hashTy : HashTy Tryd.prog 32 5 := ⟨Tryd.underlying32, Tryd.underlying5, by kernel_rfl, by kernel_rfl⟩
theorem keysTy : ∃ f0 f1 f2, KeysTy Tryd.prog 24 32 5 f0 f1 f2 :=
  ⟨_, _, _, Tryd.underlying24, by kernel_rfl, rfl, rfl, rfl, Tryd.underlying22, Tryd.underlying22, Tryd.underlying3, by kernel_rfl, by kernel_rfl, by kernel_rfl, hashTy⟩
section
variable {H : Type} {enc : TypeId × Value → H} {w : World} {base : Nat} {spare : Nat → Bool} {held : Bool} {r : Reach} {b0 : Nat} {v : Value} {d : DataW H} {p : List MemPlace}
theorem open_keysA (hv : Value.okWide Tryd.prog w r b0 24 v) (h : DataW.Trod enc Tryd.prog w base spare held 24 v d p) : ∃ ps ws need, KeysV w v ps ws need ∧ (Lit.int .i64 need).wf = true := by
  obtain ⟨_, _, _, K⟩ := keysTy
  exact open_keys K hv h
end
end Go.Proofs.YtchpmdcacpjojaaDoor
/- Arguments that are calls, slices of calls, slices of acts, opened. -/
namespace Go.Proofs.YtchpmdcacpjojaaDoor
open Go Go.ChangeShapes Go.WideShapes Go.ChangeAt Go.WideMaps Go.WideElems Go.RowKit
set_option maxRecDepth 8000
set_option linter.all false
section
variable {H : Type} {enc : TypeId × Value → H} {w : World} {base : Nat} {spare : Nat → Bool} {held : Bool} {r : Reach} {b0 : Nat} {v : Value} {d : DataW H} {p : List MemPlace} {n : Nat} {cs : Array Value}
theorem call_of {fs : Array Field} (hs : Tryd.prog.underlying 34 = some (.struct fs)) (hsz : cs.size = 41) (hf : ∀ (i : Nat) (f : Field), fs[i]? = some f → ∃ y, DataW.trod enc Tryd.prog w base spare held n f.type ((cs.toList.drop f.offset).take (Tryd.prog.cellsOf f.type)) = some y) : ∃ c : Cl, cs = rowA 41 (clF c) := by
  rw [Tryd.underlying34] at hs
  cases hs
  obtain ⟨z0, e0, _⟩ := field_int (ty := 3) (o := 0) Tryd.underlying3 (by kernel_rfl) (hf 0 _ rfl)
  obtain ⟨z1, e1, _⟩ := field_int (ty := 3) (o := 1) Tryd.underlying3 (by kernel_rfl) (hf 1 _ rfl)
  obtain ⟨z2, e2, _⟩ := field_int (ty := 3) (o := 2) Tryd.underlying3 (by kernel_rfl) (hf 2 _ rfl)
  obtain ⟨z4, e4, _⟩ := field_int (ty := 3) (o := 4) Tryd.underlying3 (by kernel_rfl) (hf 4 _ rfl)
  obtain ⟨z5, e5, _⟩ := field_int (ty := 3) (o := 5) Tryd.underlying3 (by kernel_rfl) (hf 5 _ rfl)
  obtain ⟨z8, e8, _⟩ := field_int (ty := 3) (o := 8) Tryd.underlying3 (by kernel_rfl) (hf 8 _ rfl)
  obtain ⟨b3, e3⟩ := field_bool (ty := 4) (o := 3) Tryd.underlying4 (by kernel_rfl) (hf 3 _ rfl)
  obtain ⟨b6, e6⟩ := field_bool (ty := 4) (o := 6) Tryd.underlying4 (by kernel_rfl) (hf 6 _ rfl)
  obtain ⟨b7, e7⟩ := field_bool (ty := 4) (o := 7) Tryd.underlying4 (by kernel_rfl) (hf 7 _ rfl)
  obtain ⟨t, ht⟩ := field_hash (ty := 32) (o := 9) (m := 32) Tryd.underlying32 Tryd.underlying5 (by kernel_rfl) (by kernel_rfl) (hf 9 _ rfl)
  refine ⟨⟨z0, z1, z2, b3, z4, z5, b6, b7, z8, t⟩, ?_⟩
  apply Array.ext_getElem?
  intro i
  by_cases hi : i < 41
  · rw [rowA_at _ _ _ hi]
    by_cases h9 : i < 9
    · have : i = 0 ∨ i = 1 ∨ i = 2 ∨ i = 3 ∨ i = 4 ∨ i = 5 ∨ i = 6 ∨ i = 7 ∨ i = 8 := by omega
      rcases this with rfl | rfl | rfl | rfl | rfl | rfl | rfl | rfl | rfl <;> simpa [clF]
    · obtain ⟨j, rfl⟩ : ∃ j, i = 9 + j := ⟨i - 9, by omega⟩
      rw [clF_tag _ _ (by omega), ht j (by omega)]
      rfl
  · rw [Array.getElem?_eq_none (by omega), Array.getElem?_eq_none (by rw [rowA_size]; omega)]
theorem act_of {fs : Array Field} (hs : Tryd.prog.underlying 44 = some (.struct fs)) (hsz : cs.size = 43) (hf : ∀ (i : Nat) (f : Field), fs[i]? = some f → ∃ y, DataW.trod enc Tryd.prog w base spare held n f.type ((cs.toList.drop f.offset).take (Tryd.prog.cellsOf f.type)) = some y) : ∃ x : Ac, cs = rowA 43 (acF x) := by
  rw [Tryd.underlying44] at hs
  cases hs
  obtain ⟨z, e0, _⟩ := field_int (ty := 3) (o := 0) Tryd.underlying3 (by kernel_rfl) (hf 0 _ rfl)
  obtain ⟨b, e2⟩ := field_bool (ty := 4) (o := 42) Tryd.underlying4 (by kernel_rfl) (hf 2 _ rfl)
  obtain ⟨y, hy⟩ := hf 1 _ rfl
  have hc41 : Tryd.prog.cellsOf 34 = 41 := by kernel_rfl
  replace hy : DataW.trod enc Tryd.prog w base spare held n 34 ((cs.toList.drop 1).take (Tryd.prog.cellsOf 34)) = some y := hy
  rw [hc41] at hy
  obtain ⟨xs, k, _, _, _, hxl, hel⟩ := DataW.trod_struct Tryd.underlying34 hy
  obtain ⟨c, hc⟩ := call_of (cs := ((cs.toList.drop 1).take 41).toArray) (n := k) (enc := enc) (w := w) (base := base) (spare := spare) (held := held) Tryd.underlying34 (by simp; omega) (fun j f hj => by
    have hlt : j < xs.length := by rw [hxl]; exact (Array.getElem?_eq_some_iff.1 hj).1
    exact ⟨xs[j], by rw [← List.getElem?_eq_getElem hlt]; simpa using hel j f hj⟩)
  refine ⟨⟨z, c, b⟩, ?_⟩
  apply Array.ext_getElem?
  intro i
  by_cases hi : i < 43
  · rw [rowA_at _ _ _ hi]
    by_cases h0 : i = 0
    · subst h0; simpa [acF] using e0
    · by_cases h1 : i < 42
      · obtain ⟨j, rfl⟩ : ∃ j, i = 1 + j := ⟨i - 1, by omega⟩
        have h3 := congrArg (fun z => z[j]?) hc
        simp only [rowA_at _ _ _ (show j < 41 by omega)] at h3
        unfold acF
        rw [if_neg (by omega), if_pos (by omega), show 1 + j - 1 = j by omega, ← h3]
        simp [show j < 41 by omega, Nat.add_comm 1 j]
      · obtain rfl : i = 42 := by omega
        simpa [acF] using e2
  · rw [Array.getElem?_eq_none (by omega), Array.getElem?_eq_none (by rw [rowA_size]; omega)]
/-- A call by value. -/
theorem open_callA (hv : Value.okWide Tryd.prog w r b0 34 v) (h : DataW.Trod enc Tryd.prog w base spare held 34 v d p) : ∃ c : Cl, v = .agg (rowA 41 (clF c)) := by
  obtain ⟨cs, n, rfl, hsz, hf⟩ := open_fields Tryd.underlying34 hv h
  obtain ⟨c, hc⟩ := call_of (enc := enc) (w := w) (base := base) (spare := spare) (held := held) Tryd.underlying34 (hsz.trans (by kernel_rfl)) hf
  exact ⟨c, by rw [hc]⟩
theorem open_actsA (hv : Value.okWide Tryd.prog w r b0 25 v) (h : DataW.Trod enc Tryd.prog w base spare held 25 v d p) : ∃ l : List Ac, RdL 43 acE w v l := by
  obtain ⟨a0, len, cap, rfl⟩ := okWide_slice Tryd.underlying25 hv
  obtain ⟨fuel, hf⟩ := h
  have hce : Tryd.prog.cellsOf 44 = 43 := by kernel_rfl
  rcases Go.Deep.open_slice Tryd.underlying25 hf with ⟨hcs, _⟩ | ⟨a, len', cap', m, n, D, Pl, hcs, _, hl, hm, hmm, _, hx⟩
  · simp [Value.cells] at hcs
    obtain ⟨rfl, rfl, rfl⟩ := hcs
    exact ⟨[], rdL_nil w⟩
  · simp [Value.cells] at hcs
    obtain ⟨rfl, rfl, rfl⟩ := hcs
    have hlm : len ≤ m := by rw [hmm]; split <;> omega
    have each : ∀ i, i < len → ∃ q : Ac, ∀ j, j < 43 → w.cell? (a.add (i * 43 + j)) = some (acF q j) := fun i hi => by
      obtain ⟨cs', h1, h2⟩ := hx i (by omega)
      rw [hce] at h1
      obtain ⟨_, hlen, hcell⟩ := World.cells?_some h1
      obtain ⟨xs, k, _, _, _, hxl, hel⟩ := DataW.trod_struct Tryd.underlying44 h2
      obtain ⟨c, hc⟩ := act_of (cs := cs'.toArray) (n := k) (enc := enc) (w := w) (base := base) (spare := spare) (held := held) Tryd.underlying44 (by simpa using hlen) (fun j f hj => by
        have hlt : j < xs.length := by rw [hxl]; exact (Array.getElem?_eq_some_iff.1 hj).1
        exact ⟨xs[j], by rw [← List.getElem?_eq_getElem hlt]; simpa using hel j f hj⟩)
      refine ⟨c, fun j hj => ?_⟩
      have := hcell j (by omega)
      rw [Go.Deep.add_add] at this
      rw [this]
      have h3 := congrArg (fun z => z[j]?) hc
      simp only [rowA_at _ _ _ hj] at h3
      simpa using h3
    haveI : Inhabited Ac := ⟨⟨0, zC, false⟩⟩
    obtain ⟨q, hq⟩ := Go.Deep.choose_lt each
    have hlen : ((List.range len).map fun i => acF (q i)).length = len := by simp
    refine ⟨(List.range len).map q, (List.range len).map fun i => acF (q i), ⟨some a, cap, by rw [hlen], by rw [hlen]; exact hl, hm, fun h0 => ?_⟩, by simp, fun i x hx' => ?_⟩
    · rw [hlen] at h0
      obtain ⟨b, off, spot⟩ := a
      have hspot : spot = none := by simpa [Addr.add] using World.cell?_spot (hq 0 h0 0 (by omega))
      subst hspot
      refine ⟨b, off, rfl, fun i f hf' j hj => ?_⟩
      have hi : i < len := by have := (List.getElem?_eq_some_iff.1 hf').1; simpa using this
      simp [hi] at hf'
      subst hf'
      have := hq i hi j hj
      rw [Go.WideShapes.add_plain] at this
      rw [Nat.add_assoc]; exact this
    · have hi : i < len := by have := (List.getElem?_eq_some_iff.1 hx').1; simpa using this
      simp [hi] at hx'
      subst hx'
      exact ⟨acF (q i), by simp [hi], rfl⟩
end
end Go.Proofs.YtchpmdcacpjojaaDoor
