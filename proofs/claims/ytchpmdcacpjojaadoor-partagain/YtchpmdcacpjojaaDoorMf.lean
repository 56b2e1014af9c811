/- The laws' question whether package part answers as the document's example: alive. -/
import Derived.Test.YtchpmdcacpjojaaDoorMe
import Derived.Test.YtchpmdcacpjojaaDoorMa
import Derived.Test.YtchpmdcacpjojaaDoorRows
import Derived.Test.YtchpmdcacpjojaaDoorMb
import Derived.ProofKit
import Derived.LaidMore
import Derived.OpenShut
import Derived.Stop.Joined
import Derived.Lib.LaidTab
import Derived.Stop.LaidErr
import Derived.Carry
import Derived.Deep.Slices
set_option linter.all false
namespace Go.Proofs.YtchpmdcacpjojaaDoor
open Go Go.RowKit
set_option maxRecDepth 8000
set_option linter.all false
def exC : Cl := ⟨0, 0, 1, false, 1, 1, false, false, 0, z32⟩
def exD : Cl := ⟨0, 0, 1, false, 0, 1, false, false, 0, z32⟩
def exE0 : En := ⟨0, 0, false, true⟩
theorem bld_exC (w : World) : (Instr.build 34 #[(4, .int .i64 1), (5, .int .i64 1), (2, .int .i64 1)]).run Tryd.prog w = .ok (.agg (rowA 41 (clF exC))) w := by kernel_rfl
theorem bld_exD (w : World) : (Instr.build 34 #[(4, .int .i64 0), (5, .int .i64 1), (2, .int .i64 1)]).run Tryd.prog w = .ok (.agg (rowA 41 (clF exD))) w := by kernel_rfl
theorem ex_its : itsB 1 exC = true := by decide
theorem ex_no : itsB 1 exD = false := by decide
theorem ex_t1 (kf : Hs → List Int → Hs) (ps ws : List Hs) (need : Int) : takeC kf ps ws need 1 0 [] exC false = ansC kf ps ws need 0 exC true := by unfold takeC; rw [if_pos ex_its]; rfl
theorem ex_t2 (kf : Hs → List Int → Hs) (ps ws : List Hs) (need : Int) : takeC kf ps ws need 1 0 [exE0] exC true = ansC kf ps ws need 0 exC true := by unfold takeC; rw [if_pos ex_its]; rfl
theorem ex_t3 (kf : Hs → List Int → Hs) (ps ws : List Hs) (need : Int) : takeC kf ps ws need 1 0 [exE0] exD false = zC := by unfold takeC; rw [ex_no]; rfl
theorem ex_l1 : takeL 1 [] exC false = [exE0] := by unfold takeL; rw [if_pos ex_its]; rfl
theorem ex_l2 : takeL 1 [exE0] exC true = [exE0] := by unfold takeL; rw [if_pos ex_its]; rfl
theorem ex_l3 : takeL 1 [exE0] exD false = [exE0] := by unfold takeL; rw [ex_no]; rfl
theorem JL.ent {ic ia is p : Nat} {W : World} {t m : Nat} {G : Nat → Value} {li : Array Bool} {a : Act} {w : World} {lo hi g : Nat} {n e e2 : Int} {ps ws : List Hs} {need : Int} {L : List En} (h : JL ic ia is p (fun w => PartAt w lo hi g n e ps ws need L) (fun w => PartAt w lo hi g n e2 ps ws need L) W t m G li a w) : ∃ e', PartAt w lo hi g n e' ps ws need L := by
  cases hc : li.getD ic false with
  | false => exact ⟨_, h.pre hc⟩
  | true => exact ⟨_, h.post hc⟩
set_option maxHeartbeats 4000000 in
theorem alive13_any {kf : Hs → List Int → Hs} {tg : Hs → Hs → Hs} {pf : Int → Hs → Hs} (hX : KeyH kf tg pf) (w : World) (hT : Tables w) : Cv 9 #[] w (.eq (.bool true)) := by
  unfold Cv
  have HTT := Lib.hid hT
  have hfew := Few_cv
  have h1 : hasB [oneH 1, oneH 2] [oneH 3, oneH 4, oneH 5] 2 1 0 = true := by decide
  have h2 : hasB [oneH 1, oneH 2] [oneH 3, oneH 4, oneH 5] 2 2 0 = false := by decide
  obtain ⟨ps, hps⟩ : ∃ x, x = [oneH 1, oneH 2] := ⟨_, rfl⟩
  obtain ⟨ws, hws⟩ : ∃ x, x = [oneH 3, oneH 4, oneH 5] := ⟨_, rfl⟩
  rw [← hps, ← hws] at hfew h1 h2
  have HFEW := Lib.hid hfew
  have HK1 := Lib.hid h1
  have HK2 := Lib.hid h2
  have HH1 : Hid (holdsB kf ps ws 2 (recC (ansC kf ps ws 2 0 exC true) 2) = true) := Lib.hid (holds_ans ex_its h1 (by decide) (by decide))
  clear hT hfew h1 h2 hps hws
  go_enter Tryd.func9, Tryd.ntmps9
  have HM := Lib.hid (NewT.refl w)
  go_upto_region 1 with fail
  go_upto_region 1 with fail
  refine wp_region_steps0 NewT [svKeys ps ws 2] [([], none)] 78 1 rfl rfl (by kernel_rfl) NewT.trans (NewT.refl _) (Nat.le_of_ble_eq_true rfl) ⟨?_, trivial⟩ ?_
  · exact fun a wx hT hF K hK => rely_wp rfl (opr_cv (HFEW.out wx) rfl Tryd.func23 (by kernel_rfl) (by kernel_rfl) evs0 hK)
  · intro w1 k1
    intro u10 h; have g10 := h (by simp); clear h; replace g10 := show (svKeys ps ws 2).pred u10 w1 from g10
    refine relyEnd_nil rfl ?_
    simp only [Act.put, List.setIfInBounds_toArray, List.set_cons_zero, List.set_cons_succ]
    obtain ⟨pv, wv, hv10, hpv, hwv⟩ := g10
    subst hv10
    refine wpList_new (n := 3) (f := keyF pv wv 2) rfl rfl rfl rfl rfl rfl (by first | (simp; done) | simp [Act.put]) run_alloc_ky info_ky (keyF_one hpv hwv) rfl ?_
    intro W1 hn1 rr1
    refine wpList_end rfl ?_
    simp only [Act.put, List.setIfInBounds_toArray, List.set_cons_zero, List.set_cons_succ]
    go_simp
    have HP := Lib.hid (hn1.hs hpv)
    have HW := Lib.hid (hn1.hs hwv)
    have HBW := Lib.hid (NewT.trans _ _ _ HM.out (NewT.trans _ _ _ k1 hn1))
    clear hpv hwv
    obtain ⟨gk, h_gk⟩ : ∃ g_, w1.heap.size = g_ := ⟨_, rfl⟩
    rw [h_gk] at rr1
    simp only [h_gk]
    have HGgk : Hid (w.heap.size ≤ gk) := Lib.hid (by rw [← h_gk]; exact (NewT.trans _ _ _ HM.out k1).out.size)
    have q1 := NewT.trans _ _ _ k1 hn1
    clear k1 hn1 h_gk
    replace HM := Lib.hid (NewT.trans _ _ _ HM.out q1)
    clear q1
    have Rgk := Lib.hid rr1
    clear rr1
    replace HTT := Lib.hid (HBW.out.tables HTT.out)
    replace HM := Lib.hid (NewT.refl W1)
    have HGK : Hid (gk < W1.heap.size ∧ 2 ≤ W1.heap.size) := Lib.hid ⟨Rgk.out.lt, HTT.out.size⟩
    clear HGgk
    go_upto_region 2 with fail
    refine wp_region_steps0 NewT [SV.eq (.agg (rowA 3 (keyF pv wv 2))), svPart W1.heap.size 1 ps ws 2, svPart W1.heap.size 1 ps ws 2] [([(1, none)], none), ([(11, some 0)], none), ([(12, some 1)], none)] 78 3 rfl rfl (by kernel_rfl) NewT.trans (NewT.refl _) (Nat.le_of_ble_eq_true rfl) ⟨?_, ?_, ?_, trivial⟩ ?_
    · exact fun a wx hT hF K hK => rely_wp rfl (opr_ldY (hT.row Rgk.out) rfl hF.1 (hK _ _ (NewT.refl _) rfl))
    · exact fun a wx hT hF K hK => rely_wp rfl (opr_cv (New_yes W1.heap.size _ ps ws 2 1 wx (NewT.trans _ _ _ HM.out hT).out.size (⟨pv, wv, rfl, (NewT.trans _ _ _ HM.out hT).hs HP.out, (NewT.trans _ _ _ HM.out hT).hs HW.out⟩ : KeysV wx (.agg (rowA 3 (keyF pv wv 2))) ps ws 2) HK1.out) rfl Tryd.func11 (by kernel_rfl) (by kernel_rfl) (evs2 hF.1 rfl) hK)
    · exact fun a wx hT hF K hK => rely_wp rfl (opr_move (.inr rfl) (hK _ _ (NewT.refl _) hF.1))
    · intro w2 k2
      intro u h; obtain rfl := Eq.symm (h (by simp)); clear h
      intro _ _
      intro u2 h; have g2 := h (by simp); clear h; replace g2 := show (svPart W1.heap.size 1 ps ws 2).pred u2 w2 from g2
      refine relyEnd_nil rfl ?_
      refine wpList_end rfl ?_
      simp only [Act.put, List.setIfInBounds_toArray, List.set_cons_zero, List.set_cons_succ]
      go_simp
      obtain ⟨gp, hi, hv2, hPA⟩ := g2
      subst hv2
      obtain ⟨lo, hlo⟩ : ∃ x, W1.heap.size = x := ⟨_, rfl⟩
      have HLO : Hid (2 ≤ lo ∧ gk < lo ∧ lo ≤ hi ∧ W1.heap.size = lo) := Lib.hid (by have h1 := HGK.out; have h2 := hPA.lt; omega)
      rw [hlo] at hPA
      have HPA := Lib.hid hPA
      clear hPA hlo
      replace Rgk := Lib.hid (k2.row Rgk.out)
      replace HM := Lib.hid (NewT.trans _ _ _ HM.out k2)
      clear k2
      go_upto_region 3 with fail
      refine wp_region_steps0 NewT [SV.eq (.agg (rowA 41 (clF exC)))] [([], none)] 78 1 rfl rfl (by kernel_rfl) NewT.trans (NewT.refl _) (Nat.le_of_ble_eq_true rfl) ⟨?_, trivial⟩ ?_
      · intro a wx hT hF K hK
        refine rely_wp rfl ?_
        exact opr_build (pv := #[(4, .int .i64 (1)), (5, .int .i64 (1)), (2, .int .i64 (1))]) rfl (by simp only [List.map_toArray, List.map_cons, List.map_nil, eval_tmp, eval_const]) (bld_exC wx) (hK _ _ (NewT.refl _) rfl)
      · intro w3 k3
        intro u h; obtain rfl := Eq.symm (h (by simp)); clear h
        refine relyEnd_nil rfl ?_
        simp only [Act.put, List.setIfInBounds_toArray, List.set_cons_zero, List.set_cons_succ]
        refine wpList_new (n := 41) (f := clF exC) rfl rfl rfl rfl rfl rfl (by first | (simp; done) | simp [Act.put]) run_alloc_cl info_cl (clF_one _) rfl ?_
        intro W3 hn3 rr3
        refine wpList_end rfl ?_
        simp only [Act.put, List.setIfInBounds_toArray, List.set_cons_zero, List.set_cons_succ]
        go_simp
        obtain ⟨gc, h_gc⟩ : ∃ g_, w3.heap.size = g_ := ⟨_, rfl⟩
        rw [h_gc] at rr3
        simp only [h_gc]
        have HGgc : Hid (gk < gc ∧ hi ≤ gc ∧ W1.heap.size ≤ gc) := Lib.hid (by rw [← h_gc]; exact ⟨(k3.row Rgk.out).lt, Nat.le_trans HPA.out.lt.2.2 k3.out.size, (NewT.trans _ _ _ HM.out k3).out.size⟩)
        have q3 := NewT.trans _ _ _ k3 hn3
        clear k3 hn3 h_gc
        replace Rgk := Lib.hid (q3.row Rgk.out)
        replace HPA := Lib.hid (HPA.out.new q3)
        replace HM := Lib.hid (NewT.trans _ _ _ HM.out q3)
        clear q3
        have Rgc := Lib.hid rr3
        clear rr3
        have HLL : Hid (([exE0] : List En).length ≤ 1000000 ∧ ([] : List En).length ≤ 1000000) := Lib.hid (by decide)
        go_upto_region 4 with fail
        refine wp_region_lit ?_
        refine wpList_plain rfl (fun K hK => ?_)
        refine opr_move (.inl rfl) (hK _ _ ?_)
        clear hK K
        simp only [Act.put, List.setIfInBounds_toArray, List.set_cons_zero, List.set_cons_succ]
        refine wpList_plain rfl (fun K hK => ?_)
        refine opr_ldCl Rgc.out rfl rfl (hK _ _ ?_)
        clear hK K
        simp only [Act.put, List.setIfInBounds_toArray, List.set_cons_zero, List.set_cons_succ]
        refine wpList_plain rfl (fun K hK => ?_)
        refine opr_call rfl Tryd.func13 (by kernel_rfl) (by kernel_rfl) (vs := #[.pointer (some ⟨gp, 0, none⟩), .agg (rowA 41 (clF exC)), .bool false]) (by simp only [List.map_toArray, List.map_cons, List.map_nil]; rfl) ((Take_k hX W3 (HM.out.tables HTT.out) HLO.out.1 HPA.out ex_its (ex_t1 kf ps ws 2) ex_l1).mono ?_)
        rintro ex wt4 ⟨rfl, hP4, hA4⟩
        refine ⟨_, rfl, hK _ _ ?_⟩
        clear hK K
        replace Rgk := Lib.hid (hP4.row Rgk.out (by have h_0 := HGK.out; have h_1 := HLO.out; have h_2 := HGgc.out; omega))
        replace Rgc := Lib.hid (hP4.row Rgc.out (by have h_0 := HGK.out; have h_1 := HLO.out; have h_2 := HGgc.out; omega))
        replace HM := Lib.hid (NewT.of (HM.out.out.trans (hP4.below.mono (by have h_0 := HGK.out; have h_1 := HLO.out; have h_2 := HGgc.out; omega))))
        replace HPA := Lib.hid hA4
        clear hP4 hA4
        simp only [Act.put, List.setIfInBounds_toArray, List.set_cons_zero, List.set_cons_succ]
        refine wpList_plain rfl (fun K hK => ?_)
        refine opr_move (.inl rfl) (hK _ _ ?_)
        clear hK K
        simp only [Act.put, List.setIfInBounds_toArray, List.set_cons_zero, List.set_cons_succ]
        refine wpList_plain rfl (fun K hK => ?_)
        refine opr_ext rfl rfl rfl (hK _ _ ?_)
        clear hK K
        simp only [Act.put, List.setIfInBounds_toArray, List.set_cons_zero, List.set_cons_succ]
        refine wpList_plain rfl (fun K hK => ?_)
        refine opr_ext rfl rfl rfl (hK _ _ ?_)
        clear hK K
        simp only [Act.put, List.setIfInBounds_toArray, List.set_cons_zero, List.set_cons_succ]
        refine wpList_new (n := 41) (f := clF ((ansC kf ps ws 2 0 exC true))) rfl rfl rfl rfl rfl rfl (by first | (simp; done) | simp [Act.put]) run_alloc_cl info_cl (clF_one _) rfl ?_
        intro W4 hn4 rr4
        simp only [Act.put, List.setIfInBounds_toArray, List.set_cons_zero, List.set_cons_succ]
        refine wpList_plain rfl (fun K hK => ?_)
        refine opr_move (.inr rfl) (hK _ _ ?_)
        clear hK K
        simp only [Act.put, List.setIfInBounds_toArray, List.set_cons_zero, List.set_cons_succ]
        refine wpList_end rfl ?_
        go_simp
        obtain ⟨ga, h_ga⟩ : ∃ g_, wt4.heap.size = g_ := ⟨_, rfl⟩
        rw [h_ga] at rr4
        simp only [h_ga]
        have HGga : Hid (gk < ga ∧ gc < ga ∧ hi ≤ ga ∧ W1.heap.size ≤ ga) := Lib.hid (by rw [← h_ga]; exact ⟨Rgk.out.lt, Rgc.out.lt, HPA.out.lt.2.2, HM.out.out.size⟩)
        clear h_ga
        replace Rgk := Lib.hid (hn4.row Rgk.out)
        replace Rgc := Lib.hid (hn4.row Rgc.out)
        replace HPA := Lib.hid (HPA.out.new hn4)
        replace HM := Lib.hid (NewT.trans _ _ _ HM.out hn4)
        clear hn4
        have Rga := Lib.hid rr4
        clear rr4
        go_upto_region 5 with fail
        refine wp_region_lit ?_
        refine wpList_plain rfl (fun K hK => ?_)
        refine opr_move (.inl rfl) (hK _ _ ?_)
        clear hK K
        simp only [Act.put, List.setIfInBounds_toArray, List.set_cons_zero, List.set_cons_succ]
        refine wpList_plain rfl (fun K hK => ?_)
        refine opr_ldCl Rgc.out rfl rfl (hK _ _ ?_)
        clear hK K
        simp only [Act.put, List.setIfInBounds_toArray, List.set_cons_zero, List.set_cons_succ]
        refine wpList_plain rfl (fun K hK => ?_)
        refine opr_call rfl Tryd.func13 (by kernel_rfl) (by kernel_rfl) (vs := #[.pointer (some ⟨gp, 0, none⟩), .agg (rowA 41 (clF exC)), .bool true]) (by simp only [List.map_toArray, List.map_cons, List.map_nil]; rfl) ((Take_k hX W4 (HM.out.tables HTT.out) HLO.out.1 HPA.out ex_its (ex_t2 kf ps ws 2) ex_l2).mono ?_)
        rintro ex wt5 ⟨rfl, hP5, hA5⟩
        refine ⟨_, rfl, hK _ _ ?_⟩
        clear hK K
        replace Rgk := Lib.hid (hP5.row Rgk.out (by have h_0 := HGK.out; have h_1 := HLO.out; have h_2 := HGgc.out; have h_3 := HGga.out; omega))
        replace Rgc := Lib.hid (hP5.row Rgc.out (by have h_0 := HGK.out; have h_1 := HLO.out; have h_2 := HGgc.out; have h_3 := HGga.out; omega))
        replace Rga := Lib.hid (hP5.row Rga.out (by have h_0 := HGK.out; have h_1 := HLO.out; have h_2 := HGgc.out; have h_3 := HGga.out; omega))
        replace HM := Lib.hid (NewT.of (HM.out.out.trans (hP5.below.mono (by have h_0 := HGK.out; have h_1 := HLO.out; have h_2 := HGgc.out; have h_3 := HGga.out; omega))))
        replace HPA := Lib.hid hA5
        clear hP5 hA5
        simp only [Act.put, List.setIfInBounds_toArray, List.set_cons_zero, List.set_cons_succ]
        refine wpList_plain rfl (fun K hK => ?_)
        refine opr_move (.inl rfl) (hK _ _ ?_)
        clear hK K
        simp only [Act.put, List.setIfInBounds_toArray, List.set_cons_zero, List.set_cons_succ]
        refine wpList_plain rfl (fun K hK => ?_)
        refine opr_ext rfl rfl rfl (hK _ _ ?_)
        clear hK K
        simp only [Act.put, List.setIfInBounds_toArray, List.set_cons_zero, List.set_cons_succ]
        refine wpList_plain rfl (fun K hK => ?_)
        refine opr_ext rfl rfl rfl (hK _ _ ?_)
        clear hK K
        simp only [Act.put, List.setIfInBounds_toArray, List.set_cons_zero, List.set_cons_succ]
        refine wpList_new (n := 41) (f := clF ((ansC kf ps ws 2 0 exC true))) rfl rfl rfl rfl rfl rfl (by first | (simp; done) | simp [Act.put]) run_alloc_cl info_cl (clF_one _) rfl ?_
        intro W5 hn5 rr5
        simp only [Act.put, List.setIfInBounds_toArray, List.set_cons_zero, List.set_cons_succ]
        refine wpList_plain rfl (fun K hK => ?_)
        refine opr_move (.inr rfl) (hK _ _ ?_)
        clear hK K
        simp only [Act.put, List.setIfInBounds_toArray, List.set_cons_zero, List.set_cons_succ]
        refine wpList_end rfl ?_
        go_simp
        obtain ⟨gb, h_gb⟩ : ∃ g_, wt5.heap.size = g_ := ⟨_, rfl⟩
        rw [h_gb] at rr5
        simp only [h_gb]
        have HGgb : Hid (gk < gb ∧ gc < gb ∧ ga < gb ∧ hi ≤ gb ∧ W1.heap.size ≤ gb) := Lib.hid (by rw [← h_gb]; exact ⟨Rgk.out.lt, Rgc.out.lt, Rga.out.lt, HPA.out.lt.2.2, HM.out.out.size⟩)
        clear h_gb
        replace Rgk := Lib.hid (hn5.row Rgk.out)
        replace Rgc := Lib.hid (hn5.row Rgc.out)
        replace Rga := Lib.hid (hn5.row Rga.out)
        replace HPA := Lib.hid (HPA.out.new hn5)
        replace HM := Lib.hid (NewT.trans _ _ _ HM.out hn5)
        clear hn5
        have Rgb := Lib.hid rr5
        clear rr5
        go_upto_region 6 with fail
        refine wp_region_lit ?_
        refine wpList_plain rfl (fun K hK => ?_)
        refine opr_move (.inl rfl) (hK _ _ ?_)
        clear hK K
        simp only [Act.put, List.setIfInBounds_toArray, List.set_cons_zero, List.set_cons_succ]
        refine wpList_plain rfl (fun K hK => ?_)
        refine opr_build (pv := #[(4, .int .i64 0), (5, .int .i64 1), (2, .int .i64 1)]) rfl (by simp only [List.map_toArray, List.map_cons, List.map_nil, eval_const]) (bld_exD _) (hK _ _ ?_)
        clear hK K
        simp only [Act.put, List.setIfInBounds_toArray, List.set_cons_zero, List.set_cons_succ]
        refine wpList_plain rfl (fun K hK => ?_)
        refine opr_call rfl Tryd.func13 (by kernel_rfl) (by kernel_rfl) (vs := #[.pointer (some ⟨gp, 0, none⟩), .agg (rowA 41 (clF exD)), .bool false]) (by simp only [List.map_toArray, List.map_cons, List.map_nil]; rfl) ((Take_k hX W5 (HM.out.tables HTT.out) HLO.out.1 HPA.out ex_no (ex_t3 kf ps ws 2) ex_l3).mono ?_)
        rintro ex wt6 ⟨rfl, hP6, hA6⟩
        refine ⟨_, rfl, hK _ _ ?_⟩
        clear hK K
        replace Rgk := Lib.hid (hP6.row Rgk.out (by have h_0 := HGK.out; have h_1 := HLO.out; have h_2 := HGgc.out; have h_3 := HGga.out; have h_4 := HGgb.out; omega))
        replace Rgc := Lib.hid (hP6.row Rgc.out (by have h_0 := HGK.out; have h_1 := HLO.out; have h_2 := HGgc.out; have h_3 := HGga.out; have h_4 := HGgb.out; omega))
        replace Rga := Lib.hid (hP6.row Rga.out (by have h_0 := HGK.out; have h_1 := HLO.out; have h_2 := HGgc.out; have h_3 := HGga.out; have h_4 := HGgb.out; omega))
        replace Rgb := Lib.hid (hP6.row Rgb.out (by have h_0 := HGK.out; have h_1 := HLO.out; have h_2 := HGgc.out; have h_3 := HGga.out; have h_4 := HGgb.out; omega))
        replace HM := Lib.hid (NewT.of (HM.out.out.trans (hP6.below.mono (by have h_0 := HGK.out; have h_1 := HLO.out; have h_2 := HGgc.out; have h_3 := HGga.out; have h_4 := HGgb.out; omega))))
        replace HPA := Lib.hid hA6
        clear hP6 hA6
        simp only [Act.put, List.setIfInBounds_toArray, List.set_cons_zero, List.set_cons_succ]
        refine wpList_plain rfl (fun K hK => ?_)
        refine opr_move (.inl rfl) (hK _ _ ?_)
        clear hK K
        simp only [Act.put, List.setIfInBounds_toArray, List.set_cons_zero, List.set_cons_succ]
        refine wpList_plain rfl (fun K hK => ?_)
        refine opr_ext rfl rfl rfl (hK _ _ ?_)
        clear hK K
        simp only [Act.put, List.setIfInBounds_toArray, List.set_cons_zero, List.set_cons_succ]
        refine wpList_plain rfl (fun K hK => ?_)
        refine opr_ext rfl rfl rfl (hK _ _ ?_)
        clear hK K
        simp only [Act.put, List.setIfInBounds_toArray, List.set_cons_zero, List.set_cons_succ]
        refine wpList_new (n := 41) (f := clF zC) rfl rfl rfl rfl rfl rfl (by first | (simp; done) | simp [Act.put]) run_alloc_cl info_cl (clF_one _) rfl ?_
        intro W6 hn6 rr6
        simp only [Act.put, List.setIfInBounds_toArray, List.set_cons_zero, List.set_cons_succ]
        refine wpList_plain rfl (fun K hK => ?_)
        refine opr_move (.inr rfl) (hK _ _ ?_)
        clear hK K
        simp only [Act.put, List.setIfInBounds_toArray, List.set_cons_zero, List.set_cons_succ]
        refine wpList_end rfl ?_
        go_simp
        obtain ⟨gz, h_gz⟩ : ∃ g_, wt6.heap.size = g_ := ⟨_, rfl⟩
        rw [h_gz] at rr6
        simp only [h_gz]
        have HGgz : Hid (gk < gz ∧ gc < gz ∧ ga < gz ∧ gb < gz ∧ hi ≤ gz ∧ W1.heap.size ≤ gz) := Lib.hid (by rw [← h_gz]; exact ⟨Rgk.out.lt, Rgc.out.lt, Rga.out.lt, Rgb.out.lt, HPA.out.lt.2.2, HM.out.out.size⟩)
        clear h_gz
        replace Rgk := Lib.hid (hn6.row Rgk.out)
        replace Rgc := Lib.hid (hn6.row Rgc.out)
        replace Rga := Lib.hid (hn6.row Rga.out)
        replace Rgb := Lib.hid (hn6.row Rgb.out)
        replace HPA := Lib.hid (HPA.out.new hn6)
        replace HM := Lib.hid (NewT.trans _ _ _ HM.out hn6)
        clear hn6
        have Rgz := Lib.hid rr6
        clear rr6
        have HSZ : Hid (lo ≤ W6.heap.size) := Lib.hid (by have h1 := HPA.out.lt; omega)
        have HPW : Hid (hi ≤ W6.heap.size) := Lib.hid HPA.out.lt.2.2
        go_upto_region 7 with fail
        refine wp_region_relyL (PW W6 lo hi) (JL 34 5001 5002 5000 (fun w => PartAt w lo hi gp 1 0 ps ws 2 [exE0]) (fun w => PartAt w lo hi gp 1 1 ps ws 2 [exE0]) W6 0 0 (fun _ => undef)) [SV.eq (.bool true), SV.eq (.bool true), SV.eq (.bool true), SV.eq (.bool true), SV.eq (.bool true), SV.eq (.bool false), SV.eq (.bool true), SV.eq (.bool true), SV.eq (.bool true), SV.eq (.pointer (some ⟨ga, 7, none⟩)), SV.eq (.bool true), SV.eq (.bool true), SV.eq (.bool true), SV.eq (.pointer (some ⟨gb, 7, none⟩)), SV.eq (.bool true), SV.eq (.bool true), SV.eq (.bool true), SV.eq (.pointer (some ⟨ga, 6, none⟩)), SV.eq (.bool true), SV.eq (.bool true), SV.eq (.bool true), SV.eq (.pointer (some ⟨gp, 0, none⟩)), svLen 1, SV.eq (.int .i64 (1)), SV.eq (.bool true), SV.eq (.bool true), SV.eq (.bool true), SV.eq (.agg (rowA 3 (keyF pv wv 2))), SV.eq (.agg (rowA 41 (clF ((ansC kf ps ws 2 0 exC true))))), svRecP (recC (ansC kf ps ws 2 0 exC true) 2) (recC_nil _ _), SV.eq (.bool true), SV.eq (.bool true), SV.eq (.bool true), SV.eq (.pointer (some ⟨gp, 0, none⟩)), SV.eq (.bool true), SV.eq (.bool true), SV.eq (.bool true), SV.eq (.pointer (some ⟨gp, 0, none⟩)), SV.eq (.int .i64 (1)), SV.eq (.bool true), SV.eq (.bool true), SV.eq (.bool true), SV.eq (.agg (rowA 3 (keyF pv wv 2))), SV.eq (.pointer none), SV.eq (.bool true), SV.eq (.bool true)] [([(5, none)], none), ([(32, some 0)], none), ([(7, none), (33, some 1)], some (33, true)), ([(33, some 1), (34, some 2)], none), ([(35, some 3)], none), ([(9, none), (36, some 4)], some (36, true)), ([(37, some 5), (36, some 4)], some (36, true)), ([(36, some 4), (38, some 6)], none), ([(39, some 7)], none), ([(4, none), (40, some 8)], some (40, true)), ([(41, some 9), (40, some 8)], some (40, true)), ([(40, some 8), (42, some 10)], none), ([(43, some 11)], none), ([(6, none), (44, some 12)], some (44, true)), ([(45, some 13), (44, some 12)], some (44, true)), ([(44, some 12), (46, some 14)], none), ([(47, some 15)], none), ([(4, none), (48, some 16)], some (48, true)), ([(49, some 17), (48, some 16)], some (48, true)), ([(48, some 16), (50, some 18)], none), ([(51, some 19)], none), ([(2, none), (52, some 20)], some (52, true)), ([(53, some 21), (52, some 20)], some (52, true)), ([(54, some 22), (52, some 20)], some (52, true)), ([(55, some 23), (52, some 20)], some (52, true)), ([(52, some 20), (56, some 24)], none), ([(57, some 25)], none), ([(1, none), (58, some 26)], some (58, true)), ([(4, none), (58, some 26)], some (58, true)), ([(60, some 28), (58, some 26)], some (58, true)), ([(59, some 27), (61, some 29), (58, some 26)], some (58, true)), ([(58, some 26), (62, some 30)], none), ([(63, some 31)], none), ([(2, none), (64, some 32)], some (64, true)), ([(65, some 33), (64, some 32)], some (64, true)), ([(64, some 32), (66, some 34)], none), ([(67, some 35)], none), ([(2, none), (68, some 36)], some (68, true)), ([(69, some 37), (68, some 36)], some (68, true)), ([(70, some 38), (68, some 36)], some (68, true)), ([(68, some 36), (71, some 39)], none), ([(72, some 40)], none), ([(1, none), (73, some 41)], some (73, true)), ([(74, some 42), (73, some 41)], some (73, true)), ([(75, some 43), (73, some 41)], some (73, true)), ([(73, some 41), (76, some 44)], none)] 78 rfl (by kernel_rfl) rfl (by kernel_rfl) (by kernel_rfl) rfl PW.trans (PW.drew _) (JL.start (HPA.out.drew) _) (Nat.le_of_ble_eq_true rfl) ⟨?_, ?_, ?_, ?_, ?_, ?_, ?_, ?_, ?_, ?_, ?_, ?_, ?_, ?_, ?_, ?_, ?_, ?_, ?_, ?_, ?_, ?_, ?_, ?_, ?_, ?_, ?_, ?_, ?_, ?_, ?_, ?_, ?_, ?_, ?_, ?_, ?_, ?_, ?_, ?_, ?_, ?_, ?_, ?_, ?_, ?_, trivial⟩ ?_
        · exact fun a wx li hT hF hJ hx K hK => have hK := fun v w' (hN : NewT wx w') hv => hK v w' (PW.new hT hN HSZ.out) (JL.new hJ (by decide) (by simp) hN (fun h => PartAt.new h hN) (fun h => PartAt.new h hN)) hv; rely_wp rfl (opr_move (.inl rfl) (hK _ _ (NewT.refl _) hF.1))
        · exact fun a wx li hT hF hJ hx K hK => have hK := fun v w' (hN : NewT wx w') hv => hK v w' (PW.new hT hN HSZ.out) (JL.new hJ (by decide) (by simp) hN (fun h => PartAt.new h hN) (fun h => PartAt.new h hN)) hv; rely_wp rfl (opr_move (.inl rfl) (hK _ _ (NewT.refl _) hF.1))
        · exact fun a wx li hT hF hJ hx K hK => have hK := fun v w' (hN : NewT wx w') hv => hK v w' (PW.new hT hN HSZ.out) (JL.new hJ (by decide) (by simp) hN (fun h => PartAt.new h hN) (fun h => PartAt.new h hN)) hv; rely_wp (rely_guard hF.2.1) (opr_move (.inl rfl) (hK _ _ (NewT.refl _) hF.1))
        · exact fun a wx li hT hF hJ hx K hK => have hK := fun v w' (hN : NewT wx w') hv => hK v w' (PW.new hT hN HSZ.out) (JL.new hJ (by decide) (by simp) hN (fun h => PartAt.new h hN) (fun h => PartAt.new h hN)) hv; rely_wp rfl (opr_pick_true rfl hF.1 (hK _ _ (NewT.refl _) hF.2.1))
        · exact fun a wx li hT hF hJ hx K hK => have hK := fun v w' (hN : NewT wx w') hv => hK v w' (PW.new hT hN HSZ.out) (JL.new hJ (by decide) (by simp) hN (fun h => PartAt.new h hN) (fun h => PartAt.new h hN)) hv; rely_wp rfl (opr_move (.inl rfl) (hK _ _ (NewT.refl _) hF.1))
        · exact fun a wx li hT hF hJ hx K hK => have hK := fun v w' (hN : NewT wx w') hv => hK v w' (PW.new hT hN HSZ.out) (JL.new hJ (by decide) (by simp) hN (fun h => PartAt.new h hN) (fun h => PartAt.new h hN)) hv; rely_wp (rely_guard hF.2.1) (opr_move (.inl rfl) (hK _ _ (NewT.refl _) hF.1))
        · exact fun a wx li hT hF hJ hx K hK => have hK := fun v w' (hN : NewT wx w') hv => hK v w' (PW.new hT hN HSZ.out) (JL.new hJ (by decide) (by simp) hN (fun h => PartAt.new h hN) (fun h => PartAt.new h hN)) hv; rely_wp (rely_guard hF.2.1) (opr_not rfl hF.1 (hK _ _ (NewT.refl _) rfl))
        · exact fun a wx li hT hF hJ hx K hK => have hK := fun v w' (hN : NewT wx w') hv => hK v w' (PW.new hT hN HSZ.out) (JL.new hJ (by decide) (by simp) hN (fun h => PartAt.new h hN) (fun h => PartAt.new h hN)) hv; rely_wp rfl (opr_pick_true rfl hF.1 (hK _ _ (NewT.refl _) hF.2.1))
        · exact fun a wx li hT hF hJ hx K hK => have hK := fun v w' (hN : NewT wx w') hv => hK v w' (PW.new hT hN HSZ.out) (JL.new hJ (by decide) (by simp) hN (fun h => PartAt.new h hN) (fun h => PartAt.new h hN)) hv; rely_wp rfl (opr_move (.inl rfl) (hK _ _ (NewT.refl _) hF.1))
        · exact fun a wx li hT hF hJ hx K hK => have hK := fun v w' (hN : NewT wx w') hv => hK v w' (PW.new hT hN HSZ.out) (JL.new hJ (by decide) (by simp) hN (fun h => PartAt.new h hN) (fun h => PartAt.new h hN)) hv; rely_wp (rely_guard hF.2.1) (opr_fldCl7 rfl hF.1 (hK _ _ (NewT.refl _) rfl))
        · exact fun a wx li hT hF hJ hx K hK => have hK := fun v w' (hN : NewT wx w') hv => hK v w' (PW.new hT hN HSZ.out) (JL.new hJ (by decide) (by simp) hN (fun h => PartAt.new h hN) (fun h => PartAt.new h hN)) hv; rely_wp (rely_guard hF.2.1) (opr_ldQ (hT.row Rga.out (by have h_0 := HGK.out; have h_1 := HLO.out; have h_2 := HGgc.out; have h_3 := HGga.out; have h_4 := HGgb.out; have h_5 := HGgz.out; omega)) (by decide) rfl rfl hF.1 (hK _ _ (NewT.refl _) rfl))
        · exact fun a wx li hT hF hJ hx K hK => have hK := fun v w' (hN : NewT wx w') hv => hK v w' (PW.new hT hN HSZ.out) (JL.new hJ (by decide) (by simp) hN (fun h => PartAt.new h hN) (fun h => PartAt.new h hN)) hv; rely_wp rfl (opr_pick_true rfl hF.1 (hK _ _ (NewT.refl _) hF.2.1))
        · exact fun a wx li hT hF hJ hx K hK => have hK := fun v w' (hN : NewT wx w') hv => hK v w' (PW.new hT hN HSZ.out) (JL.new hJ (by decide) (by simp) hN (fun h => PartAt.new h hN) (fun h => PartAt.new h hN)) hv; rely_wp rfl (opr_move (.inl rfl) (hK _ _ (NewT.refl _) hF.1))
        · exact fun a wx li hT hF hJ hx K hK => have hK := fun v w' (hN : NewT wx w') hv => hK v w' (PW.new hT hN HSZ.out) (JL.new hJ (by decide) (by simp) hN (fun h => PartAt.new h hN) (fun h => PartAt.new h hN)) hv; rely_wp (rely_guard hF.2.1) (opr_fldCl7 rfl hF.1 (hK _ _ (NewT.refl _) rfl))
        · exact fun a wx li hT hF hJ hx K hK => have hK := fun v w' (hN : NewT wx w') hv => hK v w' (PW.new hT hN HSZ.out) (JL.new hJ (by decide) (by simp) hN (fun h => PartAt.new h hN) (fun h => PartAt.new h hN)) hv; rely_wp (rely_guard hF.2.1) (opr_ldQ (hT.row Rgb.out (by have h_0 := HGK.out; have h_1 := HLO.out; have h_2 := HGgc.out; have h_3 := HGga.out; have h_4 := HGgb.out; have h_5 := HGgz.out; omega)) (by decide) rfl rfl hF.1 (hK _ _ (NewT.refl _) rfl))
        · exact fun a wx li hT hF hJ hx K hK => have hK := fun v w' (hN : NewT wx w') hv => hK v w' (PW.new hT hN HSZ.out) (JL.new hJ (by decide) (by simp) hN (fun h => PartAt.new h hN) (fun h => PartAt.new h hN)) hv; rely_wp rfl (opr_pick_true rfl hF.1 (hK _ _ (NewT.refl _) hF.2.1))
        · exact fun a wx li hT hF hJ hx K hK => have hK := fun v w' (hN : NewT wx w') hv => hK v w' (PW.new hT hN HSZ.out) (JL.new hJ (by decide) (by simp) hN (fun h => PartAt.new h hN) (fun h => PartAt.new h hN)) hv; rely_wp rfl (opr_move (.inl rfl) (hK _ _ (NewT.refl _) hF.1))
        · exact fun a wx li hT hF hJ hx K hK => have hK := fun v w' (hN : NewT wx w') hv => hK v w' (PW.new hT hN HSZ.out) (JL.new hJ (by decide) (by simp) hN (fun h => PartAt.new h hN) (fun h => PartAt.new h hN)) hv; rely_wp (rely_guard hF.2.1) (opr_fldCl6 rfl hF.1 (hK _ _ (NewT.refl _) rfl))
        · exact fun a wx li hT hF hJ hx K hK => have hK := fun v w' (hN : NewT wx w') hv => hK v w' (PW.new hT hN HSZ.out) (JL.new hJ (by decide) (by simp) hN (fun h => PartAt.new h hN) (fun h => PartAt.new h hN)) hv; rely_wp (rely_guard hF.2.1) (opr_ldQ (hT.row Rga.out (by have h_0 := HGK.out; have h_1 := HLO.out; have h_2 := HGgc.out; have h_3 := HGga.out; have h_4 := HGgb.out; have h_5 := HGgz.out; omega)) (by decide) rfl rfl hF.1 (hK _ _ (NewT.refl _) rfl))
        · exact fun a wx li hT hF hJ hx K hK => have hK := fun v w' (hN : NewT wx w') hv => hK v w' (PW.new hT hN HSZ.out) (JL.new hJ (by decide) (by simp) hN (fun h => PartAt.new h hN) (fun h => PartAt.new h hN)) hv; rely_wp rfl (opr_pick_true rfl hF.1 (hK _ _ (NewT.refl _) hF.2.1))
        · exact fun a wx li hT hF hJ hx K hK => have hK := fun v w' (hN : NewT wx w') hv => hK v w' (PW.new hT hN HSZ.out) (JL.new hJ (by decide) (by simp) hN (fun h => PartAt.new h hN) (fun h => PartAt.new h hN)) hv; rely_wp rfl (opr_move (.inl rfl) (hK _ _ (NewT.refl _) hF.1))
        · exact fun a wx li hT hF hJ hx K hK => have hK := fun v w' (hN : NewT wx w') hv => hK v w' (PW.new hT hN HSZ.out) (JL.new hJ (by decide) (by simp) hN (fun h => PartAt.new h hN) (fun h => PartAt.new h hN)) hv; rely_wp (rely_guard hF.2.1) (opr_move (.inl rfl) (hK _ _ (NewT.refl _) hF.1))
        · exact fun a wx li hT hF hJ hx K hK => have hK := fun v w' (hN : NewT wx w') hv => hK v w' (PW.new hT hN HSZ.out) (JL.new hJ (by decide) (by simp) hN (fun h => PartAt.new h hN) (fun h => PartAt.new h hN)) hv; rely_wp (rely_guard hF.2.1) (opr_cv ((JL.ent hJ).elim fun _ h => Entries_n wx h HLL.out.1) rfl Tryd.func16 (by kernel_rfl) (by kernel_rfl) (evs1 hF.1) hK)
        · intro a wx li hT hF hJ hx K hK
          replace hK := fun v w' (hN : NewT wx w') hv => hK v w' (PW.new hT hN HSZ.out) (JL.new hJ (by decide) (by simp) hN (fun h => PartAt.new h hN) (fun h => PartAt.new h hN)) hv
          obtain ⟨f54, f52, _⟩ := hF
          replace f54 := show (svLen 1).pred (a.tmps.getD 54 undef) wx from f54
          have f52 : a.tmps.getD 52 undef = .bool true := f52
          refine rely_wp (rely_guard f52) ?_
          obtain ⟨A1, c1, hv1⟩ := f54
          exact opr_len rfl Tryd.underlying38 hv1 (hK _ _ (NewT.refl _) rfl)
        · exact fun a wx li hT hF hJ hx K hK => have hK := fun v w' (hN : NewT wx w') hv => hK v w' (PW.new hT hN HSZ.out) (JL.new hJ (by decide) (by simp) hN (fun h => PartAt.new h hN) (fun h => PartAt.new h hN)) hv; rely_wp (rely_guard hF.2.1) (opr_cmp (b := true) (.inl ⟨rfl, (by rfl)⟩) Tryd.underlying3 rfl hF.1 rfl (hK _ _ (NewT.refl _) rfl))
        · exact fun a wx li hT hF hJ hx K hK => have hK := fun v w' (hN : NewT wx w') hv => hK v w' (PW.new hT hN HSZ.out) (JL.new hJ (by decide) (by simp) hN (fun h => PartAt.new h hN) (fun h => PartAt.new h hN)) hv; rely_wp rfl (opr_pick_true rfl hF.1 (hK _ _ (NewT.refl _) hF.2.1))
        · exact fun a wx li hT hF hJ hx K hK => have hK := fun v w' (hN : NewT wx w') hv => hK v w' (PW.new hT hN HSZ.out) (JL.new hJ (by decide) (by simp) hN (fun h => PartAt.new h hN) (fun h => PartAt.new h hN)) hv; rely_wp rfl (opr_move (.inl rfl) (hK _ _ (NewT.refl _) hF.1))
        · exact fun a wx li hT hF hJ hx K hK => have hK := fun v w' (hN : NewT wx w') hv => hK v w' (PW.new hT hN HSZ.out) (JL.new hJ (by decide) (by simp) hN (fun h => PartAt.new h hN) (fun h => PartAt.new h hN)) hv; rely_wp (rely_guard hF.2.1) (opr_ldY (hT.row Rgk.out (by have h_0 := HGK.out; have h_1 := HLO.out; have h_2 := HGgc.out; have h_3 := HGga.out; have h_4 := HGgb.out; have h_5 := HGgz.out; omega)) rfl hF.1 (hK _ _ (NewT.refl _) rfl))
        · exact fun a wx li hT hF hJ hx K hK => have hK := fun v w' (hN : NewT wx w') hv => hK v w' (PW.new hT hN HSZ.out) (JL.new hJ (by decide) (by simp) hN (fun h => PartAt.new h hN) (fun h => PartAt.new h hN)) hv; rely_wp (rely_guard hF.2.1) (opr_ldCl (hT.row Rga.out (by have h_0 := HGK.out; have h_1 := HLO.out; have h_2 := HGgc.out; have h_3 := HGga.out; have h_4 := HGgb.out; have h_5 := HGgz.out; omega)) rfl hF.1 (hK _ _ (NewT.refl _) rfl))
        · exact fun a wx li hT hF hJ hx K hK => have hK := fun v w' (hN : NewT wx w') hv => hK v w' (PW.new hT hN HSZ.out) (JL.new hJ (by decide) (by simp) hN (fun h => PartAt.new h hN) (fun h => PartAt.new h hN)) hv; rely_wp (rely_guard hF.2.1) (opr_cv (pReceipt_cv (ansC kf ps ws 2 0 exC true) 2 wx) rfl Tryd.func20 (by kernel_rfl) (by kernel_rfl) (evs2 hF.1 rfl) hK)
        · exact fun a wx li hT hF hJ hx K hK => have hK := fun v w' (hN : NewT wx w') hv => hK v w' (PW.new hT hN HSZ.out) (JL.new hJ (by decide) (by simp) hN (fun h => PartAt.new h hN) (fun h => PartAt.new h hN)) hv; rely_wp (rely_guard hF.2.2.1) (opr_cv (HH1.out ▸ Holds_cv hX _ _ ps ws 2 (recC (ansC kf ps ws 2 0 exC true) 2) wx ((NewT.of (HM.out.out.trans (hT.below.mono (by have h_0 := HGK.out; have h_1 := HLO.out; have h_2 := HGgc.out; have h_3 := HGga.out; have h_4 := HGgb.out; have h_5 := HGgz.out; omega)))).tables HTT.out) (⟨pv, wv, rfl, (NewT.of (HM.out.out.trans (hT.below.mono (by have h_0 := HGK.out; have h_1 := HLO.out; have h_2 := HGgc.out; have h_3 := HGga.out; have h_4 := HGgb.out; have h_5 := HGgz.out; omega)))).hs HP.out, (NewT.of (HM.out.out.trans (hT.below.mono (by have h_0 := HGK.out; have h_1 := HLO.out; have h_2 := HGgc.out; have h_3 := HGga.out; have h_4 := HGgb.out; have h_5 := HGgz.out; omega)))).hs HW.out⟩ : KeysV wx (.agg (rowA 3 (keyF pv wv 2))) ps ws 2) hF.2.1) rfl Tryd.func22 (by kernel_rfl) (by kernel_rfl) (evs2 hF.1 rfl) hK)
        · exact fun a wx li hT hF hJ hx K hK => have hK := fun v w' (hN : NewT wx w') hv => hK v w' (PW.new hT hN HSZ.out) (JL.new hJ (by decide) (by simp) hN (fun h => PartAt.new h hN) (fun h => PartAt.new h hN)) hv; rely_wp rfl (opr_pick_true rfl hF.1 (hK _ _ (NewT.refl _) hF.2.1))
        · exact fun a wx li hT hF hJ hx K hK => have hK := fun v w' (hN : NewT wx w') hv => hK v w' (PW.new hT hN HSZ.out) (JL.new hJ (by decide) (by simp) hN (fun h => PartAt.new h hN) (fun h => PartAt.new h hN)) hv; rely_wp rfl (opr_move (.inl rfl) (hK _ _ (NewT.refl _) hF.1))
        · exact fun a wx li hT hF hJ hx K hK => have hK := fun v w' (hN : NewT wx w') hv => hK v w' (PW.new hT hN HSZ.out) (JL.new hJ (by decide) (by simp) hN (fun h => PartAt.new h hN) (fun h => PartAt.new h hN)) hv; rely_wp (rely_guard hF.2.1) (opr_move (.inl rfl) (hK _ _ (NewT.refl _) hF.1))
        · intro a wx li hT hF hJ hx K hK
          obtain ⟨f65, f64, _⟩ := hF
          have f65 : a.tmps.getD 65 undef = .pointer (some ⟨gp, 0, none⟩) := f65
          have f64 : a.tmps.getD 64 undef = .bool true := f64
          refine rely_wp (rely_guard f64) ?_
          refine opr_call rfl Tryd.func14 (by kernel_rfl) (by kernel_rfl) (vs := #[.pointer (some ⟨gp, 0, none⟩)]) (by simp only [List.map_toArray, List.map_cons, List.map_nil, eval_tmp, f65]) ((Rotate_c wx (by decide) (hJ.pre hx.no)).mono ?_)
          rintro ex w4 ⟨rfl, hP4, hA4⟩
          exact ⟨_, rfl, hK _ _ (hT.pt hP4) (JL.call hJ hx (by decide) (by simp) hA4 (fun b F hb hr => hP4.row hr (.inr (Nat.le_trans HPW.out hb)))) rfl⟩
        · exact fun a wx li hT hF hJ hx K hK => have hK := fun v w' (hN : NewT wx w') hv => hK v w' (PW.new hT hN HSZ.out) (JL.new hJ (by decide) (by simp) hN (fun h => PartAt.new h hN) (fun h => PartAt.new h hN)) hv; rely_wp rfl (opr_pick_true rfl hF.1 (hK _ _ (NewT.refl _) hF.2.1))
        · exact fun a wx li hT hF hJ hx K hK => have hK := fun v w' (hN : NewT wx w') hv => hK v w' (PW.new hT hN HSZ.out) (JL.new hJ (by decide) (by simp) hN (fun h => PartAt.new h hN) (fun h => PartAt.new h hN)) hv; rely_wp rfl (opr_move (.inl rfl) (hK _ _ (NewT.refl _) hF.1))
        · exact fun a wx li hT hF hJ hx K hK => have hK := fun v w' (hN : NewT wx w') hv => hK v w' (PW.new hT hN HSZ.out) (JL.new hJ (by decide) (by simp) hN (fun h => PartAt.new h hN) (fun h => PartAt.new h hN)) hv; rely_wp (rely_guard hF.2.1) (opr_move (.inl rfl) (hK _ _ (NewT.refl _) hF.1))
        · exact fun a wx li hT hF hJ hx K hK => have hK := fun v w' (hN : NewT wx w') hv => hK v w' (PW.new hT hN HSZ.out) (JL.new hJ (by decide) (by simp) hN (fun h => PartAt.new h hN) (fun h => PartAt.new h hN)) hv; rely_wp (rely_guard hF.2.1) (opr_cv (Epoch_a wx (hJ.post (hx.closed 35 34 (by kernel_rfl) (hx.closed 36 35 (by kernel_rfl) (hx.waits 36 (by kernel_rfl)))))) rfl Tryd.func15 (by kernel_rfl) (by kernel_rfl) (evs1 hF.1) hK)
        · exact fun a wx li hT hF hJ hx K hK => have hK := fun v w' (hN : NewT wx w') hv => hK v w' (PW.new hT hN HSZ.out) (JL.new hJ (by decide) (by simp) hN (fun h => PartAt.new h hN) (fun h => PartAt.new h hN)) hv; rely_wp (rely_guard hF.2.1) (opr_cmp (b := true) (.inl ⟨rfl, (by rfl)⟩) Tryd.underlying3 rfl hF.1 rfl (hK _ _ (NewT.refl _) rfl))
        · exact fun a wx li hT hF hJ hx K hK => have hK := fun v w' (hN : NewT wx w') hv => hK v w' (PW.new hT hN HSZ.out) (JL.new hJ (by decide) (by simp) hN (fun h => PartAt.new h hN) (fun h => PartAt.new h hN)) hv; rely_wp rfl (opr_pick_true rfl hF.1 (hK _ _ (NewT.refl _) hF.2.1))
        · exact fun a wx li hT hF hJ hx K hK => have hK := fun v w' (hN : NewT wx w') hv => hK v w' (PW.new hT hN HSZ.out) (JL.new hJ (by decide) (by simp) hN (fun h => PartAt.new h hN) (fun h => PartAt.new h hN)) hv; rely_wp rfl (opr_move (.inl rfl) (hK _ _ (NewT.refl _) hF.1))
        · exact fun a wx li hT hF hJ hx K hK => have hK := fun v w' (hN : NewT wx w') hv => hK v w' (PW.new hT hN HSZ.out) (JL.new hJ (by decide) (by simp) hN (fun h => PartAt.new h hN) (fun h => PartAt.new h hN)) hv; rely_wp (rely_guard hF.2.1) (opr_ldY (hT.row Rgk.out (by have h_0 := HGK.out; have h_1 := HLO.out; have h_2 := HGgc.out; have h_3 := HGga.out; have h_4 := HGgb.out; have h_5 := HGgz.out; omega)) rfl hF.1 (hK _ _ (NewT.refl _) rfl))
        · exact fun a wx li hT hF hJ hx K hK => have hK := fun v w' (hN : NewT wx w') hv => hK v w' (PW.new hT hN HSZ.out) (JL.new hJ (by decide) (by simp) hN (fun h => PartAt.new h hN) (fun h => PartAt.new h hN)) hv; rely_wp (rely_guard hF.2.1) (opr_cv (New_no _ ps ws 2 2 wx (⟨pv, wv, rfl, (NewT.of (HM.out.out.trans (hT.below.mono (by have h_0 := HGK.out; have h_1 := HLO.out; have h_2 := HGgc.out; have h_3 := HGga.out; have h_4 := HGgb.out; have h_5 := HGgz.out; omega)))).hs HP.out, (NewT.of (HM.out.out.trans (hT.below.mono (by have h_0 := HGK.out; have h_1 := HLO.out; have h_2 := HGgc.out; have h_3 := HGga.out; have h_4 := HGgb.out; have h_5 := HGgz.out; omega)))).hs HW.out⟩ : KeysV wx (.agg (rowA 3 (keyF pv wv 2))) ps ws 2) HK2.out) rfl Tryd.func11 (by kernel_rfl) (by kernel_rfl) (evs2 hF.1 rfl) hK)
        · exact fun a wx li hT hF hJ hx K hK => have hK := fun v w' (hN : NewT wx w') hv => hK v w' (PW.new hT hN HSZ.out) (JL.new hJ (by decide) (by simp) hN (fun h => PartAt.new h hN) (fun h => PartAt.new h hN)) hv; rely_wp (rely_guard hF.2.1) (opr_eqPz rfl hF.1 (hK _ _ (NewT.refl _) rfl))
        · exact fun a wx li hT hF hJ hx K hK => have hK := fun v w' (hN : NewT wx w') hv => hK v w' (PW.new hT hN HSZ.out) (JL.new hJ (by decide) (by simp) hN (fun h => PartAt.new h hN) (fun h => PartAt.new h hN)) hv; rely_wp rfl (opr_pick_true rfl hF.1 (hK _ _ (NewT.refl _) hF.2.1))
        · intro w30 k30
          iterate 22 (intro u h; obtain rfl := Eq.symm (h (by simp)); clear h)
          intro _ _
          iterate 6 (intro u h; obtain rfl := Eq.symm (h (by simp)); clear h)
          intro _ _
          iterate 16 (intro u h; obtain rfl := Eq.symm (h (by simp)); clear h)
          refine relyEnd_nil rfl ?_
          intro hJ
          simp only [Act.put, List.setIfInBounds_toArray, List.set_cons_zero, List.set_cons_succ]
          refine opr_move (.inr rfl) ?_
          go_simp
          have hNN : NewT w w30 := NewT.trans _ _ _ HBW.out (NewT.of (HM.out.out.trans (k30.below.mono (by have h_0 := HGK.out; have h_1 := HLO.out; have h_2 := HGgc.out; have h_3 := HGga.out; have h_4 := HGgb.out; have h_5 := HGgz.out; omega))))
          clear hJ
          go_wp2
          go_ret
          exact ⟨_, rfl, hNN, rfl⟩
theorem alive13_cv (w : World) (hT : Tables w) : Cv 9 #[] w (.eq (.bool true)) := by
  obtain ⟨kf, tg, pf, hX⟩ := keyH_ex
  exact alive13_any hX w hT
end Go.Proofs.YtchpmdcacpjojaaDoor
/- Flags that differ. -/
namespace Go.Proofs.YtchpmdcacpjojaaDoor
open Go Go.RowKit
set_option maxRecDepth 8000
set_option linter.all false
section
variable {a : Act} {w : World} {o : Oper} {K : Act → World → Prop} {Q : Exit → Act → World → Prop} {x y : Operand}
end
end Go.Proofs.YtchpmdcacpjojaaDoor
/- Single operations: a byte turned into a number, remainders. -/
namespace Go.Proofs.YtchpmdcacpjojaaDoor
open Go Go.RowKit
set_option maxRecDepth 8000
set_option linter.all false
section
variable {a : Act} {w : World} {o : Oper} {K : Act → World → Prop} {Q : Exit → Act → World → Prop} {x y : Operand}
theorem opr_cv8 {n : Int} (hn : 0 ≤ n ∧ n ≤ 255) (ho : o.op = .convert 5 3 x) (hx : a.eval x = .int .u8 n) (h : K (a.put o.dst (.int .i64 n)) w) : o.wp Tryd.prog a w K Q := by
  obtain ⟨dst, op, type, pos, after, guard⟩ := o
  simp only at ho
  subst ho
  refine opr_val (s := convert 5 3 (a.eval x)) rfl ?_ h
  rw [hx]
  have hw : IntKind.i64.wrap n = n := by simp [IntKind.wrap, IntKind.bits, IntKind.signed]; omega
  simp [go_sem, hw]
theorem opr_rem {m n r : Int} {t2 : TypeId} (hm : 0 ≤ m ∧ m ≤ 1000000) (hn : 0 < n ∧ n ≤ 1000) (hr : m % n = r) (ho : o.op = .binOp .rem 3 x y t2) (hx : a.eval x = .int .i64 m) (hy : a.eval y = .int .i64 n) (h : K (a.put o.dst (.int .i64 r)) w) : o.wp Tryd.prog a w K Q := by
  obtain ⟨dst, op, type, pos, after, guard⟩ := o
  simp only at ho
  subst ho hr
  refine opr_val (s := do eqGuard .rem 3 x y (a.eval x) (a.eval y); binOp .rem 3 (a.eval x) (a.eval y)) rfl ?_ h
  rw [hx, hy]
  have h0 : n ≠ 0 := by omega
  have ht : Int.tmod m n = m % n := Int.tmod_eq_emod_of_nonneg hm.1
  have hw : IntKind.i64.wrap (m % n) = m % n := by
    have h1 := Int.emod_nonneg m h0
    have h2 := Int.emod_lt_of_pos m hn.1
    simp [IntKind.wrap, IntKind.bits, IntKind.signed]; omega
  simp [go_sem, h0, ht, hw]
end
end Go.Proofs.YtchpmdcacpjojaaDoor
/- Bytes looked at one by one; remainders of bytes. -/
namespace Go.Proofs.YtchpmdcacpjojaaDoor
open Go Go.RowKit
set_option maxRecDepth 8000
set_option linter.all false
section
variable {a : Act} {w : World} {o : Oper} {K : Act → World → Prop} {Q : Exit → Act → World → Prop} {x y : Operand}
/-- A byte is held against a constant. -/
theorem opr_eqlB {m n : Int} {t2 : TypeId} {b : Bool} (hb : (m == n) = b) (ho : o.op = .binOp .eql 5 x y t2) (hx : a.eval x = .int .u8 m) (hy : a.eval y = .int .u8 n) (h : K (a.put o.dst (.bool b)) w) : o.wp Tryd.prog a w K Q := by
  obtain ⟨dst, op', type, pos, after, guard⟩ := o
  simp only at ho
  subst ho hb
  refine opr_val (s := do eqGuard .eql 5 x y (a.eval x) (a.eval y); binOp .eql 5 (a.eval x) (a.eval y)) rfl ?_ h
  rw [hx, hy]; simp [go_sem]
theorem opr_remB {m n r : Int} {t2 : TypeId} (hm : 0 ≤ m ∧ m ≤ 255) (hn : 0 < n ∧ n ≤ 255) (hr : m % n = r) (ho : o.op = .binOp .rem 5 x (.const (.int .u8 n)) t2) (hx : a.eval x = .int .u8 m) (h : K (a.put o.dst (.int .u8 r)) w) : o.wp Tryd.prog a w K Q := by
  obtain ⟨dst, op, type, pos, after, guard⟩ := o
  simp only at ho
  subst ho hr
  refine opr_val (s := do eqGuard .rem 5 x (.const (.int .u8 n)) (a.eval x) (.int .u8 n); binOp .rem 5 (a.eval x) (.int .u8 n)) rfl ?_ h
  rw [hx]
  have h0 : n ≠ 0 := by omega
  have ht : Int.tmod m n = m % n := Int.tmod_eq_emod_of_nonneg hm.1
  have hw : IntKind.u8.wrap (m % n) = m % n := by
    have h1 := Int.emod_nonneg m h0
    have h2 := Int.emod_lt_of_pos m hn.1
    simp [IntKind.wrap, IntKind.bits, IntKind.signed]; omega
  simp [go_sem, h0, ht, hw]
theorem opr_idxB8 {b off m c k : Nat} {z : Int} (hk : k < m) (hz : z = (k : Int)) (ho : o.op = .indexAddr 49 x y) (hx : a.eval x = .slice (some ⟨b, off, none⟩) m c) (hy : a.eval y = .int .i64 z) (h : K (a.put o.dst (.pointer (some ⟨b, off + k, none⟩))) w) : o.wp Tryd.prog a w K Q := by
  subst hz
  obtain ⟨dst, op, type, pos, after, guard⟩ := o
  simp only at ho
  subst ho
  refine opr_val (s := Instr.indexAt 49 (a.eval x) (a.eval y)) (v := .pointer (some ⟨b, off + k, none⟩)) rfl ?_ h
  rw [hx, hy]
  have hsz : (sizeOf 5).run Tryd.prog w = .ok 1 w := by
    have hs := info5s
    cases hq : Tryd.prog.info? 5 with
    | none => simp [hq] at hs
    | some i => simp [hq] at hs; simp [sizeOf, typeInfo, hq, hs]
  simp [Instr.indexAt, asIntOf, run_underlying Tryd.underlying49, hk, Addr.add_mid]
end
theorem bytes_at {w : World} {L : List Nat} {v : Value} {l : List UInt8} (h : RdV w L v l) {k : Nat} (hk : k < l.length) : ∃ b o c, v = .slice (some ⟨b, o, none⟩) l.length c ∧ w.cell? ⟨b, o + k, none⟩ = some (.int .u8 (bN (bAt l k))) := by
  obtain ⟨A, c, hv, _, _, h3⟩ := h
  obtain ⟨b, o, rfl, _, hc⟩ := h3 (by omega)
  exact ⟨b, o, c, hv, hc k hk⟩
end Go.Proofs.YtchpmdcacpjojaaDoor
/- The law PartAgain, walked: the same call, with whatever try, once it was answered Good, is answered Good, by the epoch that there is then. -/
namespace Go.Proofs.YtchpmdcacpjojaaDoor
open Go Go.RowKit
set_option maxRecDepth 8000
set_option linter.all false
theorem rotE_le {e : Int} (h : 0 ≤ e ∧ e ≤ 400) : 0 ≤ rotE e ∧ rotE e ≤ 400 := by unfold rotE; split <;> omega
theorem again_und (c : Cl) : undE [] c = false := by unfold undE; cases c.back <;> rfl
theorem again_good (c : Cl) : goodE [] c false = true := by unfold goodE goodN; rw [again_und]; rfl
theorem again_keep (c : Cl) : keepL [] c false = [newE [] c false] := by
  unfold keepL putB goodN
  rw [again_und]
  rfl
theorem again_has (c : Cl) : hasE [newE [] c false] c.saga c.step c.back = some true := by
  rw [hasE_one, isE_new, if_pos rfl]
  unfold newE goodN
  rw [again_und]; rfl
theorem again_good2 {L : List En} {c : Cl} (h : hasE L c.saga c.step c.back = some true) (c' : Cl) (h1 : c'.saga = c.saga) (h2 : c'.step = c.step) (h3 : c'.back = c.back) {r : Bool} : goodE L c' r = true := by unfold goodE; rw [h1, h2, h3, h]; rfl
theorem again_its {n : Int} {c : Cl} (h : itsB n c = true) {t : Int} (h1 : 1 ≤ t) (h9 : t ≤ 9) : itsB n { c with tr := t } = true := by
  obtain ⟨a, b, d, e, f, _⟩ := (its_iff n c).1 h
  exact (its_iff _ _).2 ⟨a, b, d, e, f, h1, h9⟩
set_option maxHeartbeats 4000000 in
theorem PartAgain_walk (v v3 : Value) (ps ws : List Hs) (need n : Int) (c : Cl) (l : List UInt8) (w : World) (hT : Tables w) (hk : KeysV w v ps ws need) (hl : RdV w [] v3 l) : Calls Tryd.prog 6 #[v, .int .i64 n, .agg (rowA 41 (clF c)), v3] w fun e w' => e = .returned (.bool true) ∧ Below w.heap.size w w' := by
  obtain ⟨kf, tg, pf, hX⟩ := keyH_ex
  obtain ⟨pv, wv, rfl, hpv, hwv⟩ := hk
  have HTT := Lib.hid hT
  have HPP := Lib.hid hpv
  have HWW := Lib.hid hwv
  have HL := Lib.hid hl
  clear hl
  clear hT hpv hwv
  go_enter Tryd.func6, Tryd.ntmps6
  go_upto_region 1 with fail
  have r_gk := (rowIs_box w 24 3 (keyF pv wv need)).alloc (.cells (rowA 41 (clF c)) 34)
  have r_gc := rowIs_box (w.alloc (.cells (rowA 3 (keyF pv wv need)) 24)) 34 41 (clF c)
  rw [World.size_alloc] at r_gc
  have hN : NewT w ((w.alloc (.cells (rowA 3 (keyF pv wv need)) 24)).alloc (.cells (rowA 41 (clF c)) 34)) := (NewT.trans _ _ _ (NewT.alloc _ _) (NewT.alloc _ _))
  change Code.wp _ _ _ _ ((w.alloc (.cells (rowA 3 (keyF pv wv need)) 24)).alloc (.cells (rowA 41 (clF c)) 34))
  generalize ((w.alloc (.cells (rowA 3 (keyF pv wv need)) 24)).alloc (.cells (rowA 41 (clF c)) 34)) = W0 at r_gk r_gc hN ⊢
  obtain ⟨gk, h_gk⟩ : ∃ g_, w.heap.size = g_ := ⟨_, rfl⟩
  obtain ⟨gc, h_gc⟩ : ∃ g_, w.heap.size + 1 = g_ := ⟨_, rfl⟩
  have HG : Hid (w.heap.size ≤ gk ∧ gk < gc) := Lib.hid (by omega)
  rw [h_gk] at r_gk
  rw [h_gc] at r_gc
  try rw [h_gc]
  simp only [h_gk]
  have Rgk := Lib.hid r_gk
  have Rgc := Lib.hid r_gc
  have HM := Lib.hid hN
  clear r_gk r_gc hN h_gk h_gc
  go_upto_region 1 with fail
  refine wp_region_steps0 NewT [SV.eq (.bool true), SV.eq (.bool false)] [([], none), ([(15, some 0)], none)] 123 2 rfl rfl (by kernel_rfl) NewT.trans (NewT.refl _) (Nat.le_of_ble_eq_true rfl) ⟨?_, ?_, trivial⟩ ?_
  · exact fun a wx hT hF K hK => rely_wp rfl (opr_cv (alive13_cv wx ((NewT.trans _ _ _ HM.out hT).tables HTT.out)) rfl Tryd.func9 (by kernel_rfl) (by kernel_rfl) evs0 hK)
  · exact fun a wx hT hF K hK => rely_wp rfl (opr_not rfl hF.1 (hK _ _ (NewT.refl _) rfl))
  · intro w1 k1
    iterate 2 (intro u h; obtain rfl := Eq.symm (h (by simp)); clear h)
    refine relyEnd_nil rfl ?_
    refine wpList_end rfl ?_
    simp only [Act.put, List.setIfInBounds_toArray, List.set_cons_zero, List.set_cons_succ]
    go_simp
    replace Rgk := Lib.hid (k1.row Rgk.out)
    replace Rgc := Lib.hid (k1.row Rgc.out)
    replace HM := Lib.hid (NewT.trans _ _ _ HM.out k1)
    clear k1
    go_upto_region 3 with fail
    obtain ⟨q1_3, Q1_3⟩ : ∃ bq_, ((!(fewB ps ws (List.length ([] : List Ac)))) || (decide (20 < ((List.length (l) : Int))))) = bq_ := ⟨_, rfl⟩
    obtain ⟨q2_3, Q2_3⟩ : ∃ bq_, (q1_3 || (!(hasB ps ws need n 0))) = bq_ := ⟨_, rfl⟩
    refine wp_region_steps0 NewT [SV.eq (.agg (rowA 3 (keyF pv wv need))), SV.eq (.bool (fewB ps ws (List.length ([] : List Ac)))), SV.eq (.bool (!(fewB ps ws (List.length ([] : List Ac))))), SV.eq (.bool (!(fewB ps ws (List.length ([] : List Ac))))), svIf ((!(!(fewB ps ws (List.length ([] : List Ac)))))) (SV.eq (v3)), svIf ((!(!(fewB ps ws (List.length ([] : List Ac)))))) (SV.eq (.int .i64 ((List.length (l) : Int)))), svIf ((!(!(fewB ps ws (List.length ([] : List Ac)))))) (SV.eq (.bool (decide (20 < ((List.length (l) : Int)))))), SV.eq (.bool (q1_3)), SV.eq (.bool (q1_3)), svIf ((!q1_3)) (SV.eq (.agg (rowA 3 (keyF pv wv need)))), svIf ((!q1_3)) (SV.eq (.int .i64 (n))), svIf ((!q1_3)) (SV.eq (.bool (hasB ps ws need n 0))), svIf ((!q1_3)) (SV.eq (.bool (!(hasB ps ws need n 0)))), SV.eq (.bool (q2_3))] [([(4, none)], none), ([(17, some 0)], none), ([(18, some 1)], none), ([(19, some 2)], none), ([(3, none), (20, some 3)], some (20, false)), ([(21, some 4), (20, some 3)], some (20, false)), ([(22, some 5), (20, some 3)], some (20, false)), ([(20, some 3), (23, some 6)], none), ([(24, some 7)], none), ([(4, none), (25, some 8)], some (25, false)), ([(1, none), (25, some 8)], some (25, false)), ([(26, some 9), (27, some 10), (25, some 8)], some (25, false)), ([(28, some 11), (25, some 8)], some (25, false)), ([(25, some 8), (29, some 12)], none)] 123 14 rfl rfl (by kernel_rfl) NewT.trans (NewT.refl _) (Nat.le_of_ble_eq_true rfl) ⟨?_, ?_, ?_, ?_, ?_, ?_, ?_, ?_, ?_, ?_, ?_, ?_, ?_, ?_, trivial⟩ ?_
    · exact fun a wx hT hF K hK => rely_wp rfl (opr_ldY (hT.row Rgk.out) rfl hF.1 (hK _ _ (NewT.refl _) rfl))
    · exact fun a wx hT hF K hK => rely_wp rfl (opr_cv (few_cv _ _ ps ws need [] wx (⟨pv, wv, rfl, (NewT.trans _ _ _ HM.out hT).hs HPP.out, (NewT.trans _ _ _ HM.out hT).hs HWW.out⟩ : KeysV wx (.agg (rowA 3 (keyF pv wv need))) ps ws need) (rdL_nil wx)) rfl Tryd.func10 (by kernel_rfl) (by kernel_rfl) (evs2 hF.1 rfl) hK)
    · exact fun a wx hT hF K hK => rely_wp rfl (opr_not rfl hF.1 (hK _ _ (NewT.refl _) rfl))
    · exact fun a wx hT hF K hK => rely_wp rfl (opr_move (.inl rfl) (hK _ _ (NewT.refl _) hF.1))
    · exact fun a wx hT hF K hK => rely_if (rely_gf hF.2.1) (NewT.refl _) hK fun hE hK => opr_move (.inl rfl) (hK _ _ (NewT.refl _) hF.1)
    · intro a wx hT hF K hK
      obtain ⟨f21, f20, _⟩ := hF
      have f21 : ((!(!(fewB ps ws (List.length ([] : List Ac)))))) = true → a.tmps.getD 21 undef = v3 := f21
      have f20 : a.tmps.getD 20 undef = .bool (!(fewB ps ws (List.length ([] : List Ac)))) := f20
      refine rely_if (rely_gf f20) (NewT.refl _) hK (fun hE hK => ?_)
      exact opr_len_rd rfl (by rw [eval_tmp, (f21 hE)]; exact ((NewT.trans _ _ _ HM.out hT).rd HL.out)) (hK _ _ (NewT.refl _) rfl)
    · exact fun a wx hT hF K hK => rely_if (rely_gf hF.2.1) (NewT.refl _) hK fun hE hK => opr_cmp (b := decide (20 < ((List.length (l) : Int)))) (.inr (.inr (.inr (.inr (.inl ⟨rfl, rfl⟩))))) Tryd.underlying3 rfl (hF.1 hE) rfl (hK _ _ (NewT.refl _) rfl)
    · exact fun a wx hT hF K hK => rely_wp rfl (opr_pick_b rfl hF.1 (fun hb => hK _ _ (NewT.refl _) (pn_or1 Q1_3 hb)) (fun hb => hK _ _ (NewT.refl _) (pn_or0 Q1_3 (hF.2.1 (bnot hb)) hb)))
    · exact fun a wx hT hF K hK => rely_wp rfl (opr_move (.inl rfl) (hK _ _ (NewT.refl _) hF.1))
    · exact fun a wx hT hF K hK => rely_if (rely_gf hF.2.1) (NewT.refl _) hK fun hE hK => opr_ldY (hT.row Rgk.out) rfl hF.1 (hK _ _ (NewT.refl _) rfl)
    · exact fun a wx hT hF K hK => rely_if (rely_gf hF.2.1) (NewT.refl _) hK fun hE hK => opr_move (.inl rfl) (hK _ _ (NewT.refl _) hF.1)
    · exact fun a wx hT hF K hK => rely_if (rely_gf hF.2.2.1) (NewT.refl _) hK fun hE hK => opr_cv (RKnown_cv _ ps ws need n 0 wx (⟨pv, wv, rfl, (NewT.trans _ _ _ HM.out hT).hs HPP.out, (NewT.trans _ _ _ HM.out hT).hs HWW.out⟩ : KeysV wx (.agg (rowA 3 (keyF pv wv need))) ps ws need)) rfl Tryd.func12 (by kernel_rfl) (by kernel_rfl) (evs3 (hF.1 hE) (hF.2.1 hE) rfl) hK
    · exact fun a wx hT hF K hK => rely_if (rely_gf hF.2.1) (NewT.refl _) hK fun hE hK => opr_not rfl (hF.1 hE) (hK _ _ (NewT.refl _) rfl)
    · exact fun a wx hT hF K hK => rely_wp rfl (opr_pick_b rfl hF.1 (fun hb => hK _ _ (NewT.refl _) (pn_or1 Q2_3 hb)) (fun hb => hK _ _ (NewT.refl _) (pn_or0 Q2_3 (hF.2.1 (bnot hb)) hb)))
    · intro w2 k2
      iterate 4 (intro u h; obtain rfl := Eq.symm (h (by simp)); clear h)
      iterate 3 (intro _ _)
      iterate 2 (intro u h; obtain rfl := Eq.symm (h (by simp)); clear h)
      iterate 4 (intro _ _)
      intro u h; obtain rfl := Eq.symm (h (by simp)); clear h
      subst Q2_3 Q1_3
      refine relyEnd_nil rfl ?_
      refine wpList_end rfl ?_
      simp only [Act.put, List.setIfInBounds_toArray, List.set_cons_zero, List.set_cons_succ]
      go_simp
      replace Rgk := Lib.hid (k2.row Rgk.out)
      replace Rgc := Lib.hid (k2.row Rgc.out)
      replace HM := Lib.hid (NewT.trans _ _ _ HM.out k2)
      clear k2
      cases hb : ((((!(fewB ps ws (List.length ([] : List Ac)))) || (decide (20 < ((List.length (l) : Int))))) || (!(hasB ps ws need n 0))))
      · simp only [Bool.or_eq_false_iff, Bool.not_eq_false', decide_eq_false_iff_not] at hb
        have HKN : Hid (hasB ps ws need n 0 = true) := Lib.hid hb.2
        have HLE : Hid (l.length ≤ 20) := Lib.hid (by have := hb.1.2; omega)
        clear hb
        go_upto_region 5 with fail
        refine wp_region_steps0 NewT [SV.eq (.agg (rowA 3 (keyF pv wv need))), SV.eq (.int .i64 (n)), svPart w2.heap.size n ps ws need, svPart w2.heap.size n ps ws need] [([(4, none)], none), ([(1, none)], none), ([(31, some 0), (32, some 1)], none), ([(33, some 2)], none)] 123 4 rfl rfl (by kernel_rfl) NewT.trans (NewT.refl _) (Nat.le_of_ble_eq_true rfl) ⟨?_, ?_, ?_, ?_, trivial⟩ ?_
        · exact fun a wx hT hF K hK => rely_wp rfl (opr_ldY (hT.row Rgk.out) rfl hF.1 (hK _ _ (NewT.refl _) rfl))
        · exact fun a wx hT hF K hK => rely_wp rfl (opr_move (.inl rfl) (hK _ _ (NewT.refl _) hF.1))
        · exact fun a wx hT hF K hK => rely_wp rfl (opr_cv (New_yes w2.heap.size _ ps ws need n wx hT.out.size (⟨pv, wv, rfl, (NewT.trans _ _ _ HM.out hT).hs HPP.out, (NewT.trans _ _ _ HM.out hT).hs HWW.out⟩ : KeysV wx (.agg (rowA 3 (keyF pv wv need))) ps ws need) HKN.out) rfl Tryd.func11 (by kernel_rfl) (by kernel_rfl) (evs2 hF.1 hF.2.1) hK)
        · exact fun a wx hT hF K hK => rely_wp rfl (opr_move (.inr rfl) (hK _ _ (NewT.refl _) hF.1))
        · intro w3 k3
          iterate 2 (intro u h; obtain rfl := Eq.symm (h (by simp)); clear h)
          intro _ _
          intro u9 h; have g9 := h (by simp); clear h; replace g9 := show (svPart w2.heap.size n ps ws need).pred u9 w3 from g9
          refine relyEnd_nil rfl ?_
          refine wpList_end rfl ?_
          simp only [Act.put, List.setIfInBounds_toArray, List.set_cons_zero, List.set_cons_succ]
          go_simp
          obtain ⟨gp, hi, hv2, hPA⟩ := g9
          subst hv2
          obtain ⟨lo, hlo⟩ : ∃ x, w2.heap.size = x := ⟨_, rfl⟩
          have HLO : Hid (2 ≤ lo ∧ gk < lo ∧ gc < lo ∧ lo ≤ hi ∧ w.heap.size ≤ lo) := Lib.hid (by rw [hlo] at hPA; have h1 := hPA.lt; have h2 := HTT.out.size; have h3 := HM.out.out.size; have h_gk := Rgk.out.lt; have h_gc := Rgc.out.lt; omega)
          rw [hlo] at hPA
          have HPA := Lib.hid hPA
          clear hPA hlo
          replace Rgk := Lib.hid (k3.row Rgk.out)
          replace Rgc := Lib.hid (k3.row Rgc.out)
          replace HM := Lib.hid (NewT.trans _ _ _ HM.out k3)
          clear k3
          cases hb : itsB n c
          · have HB := Lib.hid hb
            have HX : Hid (takeC kf ps ws need n 0 [] c false = zC) := Lib.hid (by unfold takeC; rw [hb]; rfl)
            have HL2 : Hid (takeL n [] c false = []) := Lib.hid (by unfold takeL; rw [hb]; rfl)
            have HLL : Hid (([] : List En).length ≤ 1000000) := Lib.hid (by simp)
            clear hb
            go_upto_region 6 with fail
            refine wp_region_lit ?_
            refine wpList_plain rfl (fun K hK => ?_)
            refine opr_move (.inl rfl) (hK _ _ ?_)
            clear hK K
            simp only [Act.put, List.setIfInBounds_toArray, List.set_cons_zero, List.set_cons_succ]
            refine wpList_plain rfl (fun K hK => ?_)
            refine opr_ldCl Rgc.out rfl rfl (hK _ _ ?_)
            clear hK K
            simp only [Act.put, List.setIfInBounds_toArray, List.set_cons_zero, List.set_cons_succ]
            refine wpList_plain rfl (fun K hK => ?_)
            refine opr_call rfl Tryd.func13 (by kernel_rfl) (by kernel_rfl) (vs := #[.pointer (some ⟨gp, 0, none⟩), .agg (rowA 41 (clF c)), .bool false]) (by simp only [List.map_toArray, List.map_cons, List.map_nil]; rfl) ((Take_k hX w3 (HM.out.tables HTT.out) HLO.out.1 HPA.out HB.out HX.out HL2.out).mono ?_)
            rintro ex wt4 ⟨rfl, hP4, hA4⟩
            refine ⟨_, rfl, hK _ _ ?_⟩
            clear hK K
            replace Rgk := Lib.hid (hP4.row Rgk.out (by have h_0 := HG.out; have h_1 := HLO.out; omega))
            replace Rgc := Lib.hid (hP4.row Rgc.out (by have h_0 := HG.out; have h_1 := HLO.out; omega))
            replace HM := Lib.hid (NewT.of (HM.out.out.trans (hP4.below.mono (by have h_0 := HG.out; have h_1 := HLO.out; omega))))
            replace HPA := Lib.hid hA4
            clear hP4 hA4
            simp only [Act.put, List.setIfInBounds_toArray, List.set_cons_zero, List.set_cons_succ]
            refine wpList_plain rfl (fun K hK => ?_)
            refine opr_move (.inl rfl) (hK _ _ ?_)
            clear hK K
            simp only [Act.put, List.setIfInBounds_toArray, List.set_cons_zero, List.set_cons_succ]
            refine wpList_plain rfl (fun K hK => ?_)
            refine opr_ext rfl rfl rfl (hK _ _ ?_)
            clear hK K
            simp only [Act.put, List.setIfInBounds_toArray, List.set_cons_zero, List.set_cons_succ]
            refine wpList_plain rfl (fun K hK => ?_)
            refine opr_ext rfl rfl rfl (hK _ _ ?_)
            clear hK K
            simp only [Act.put, List.setIfInBounds_toArray, List.set_cons_zero, List.set_cons_succ]
            refine wpList_new (n := 41) (f := clF zC) rfl rfl rfl rfl rfl rfl (by first | (simp; done) | simp [Act.put]) run_alloc_cl info_cl (clF_one _) rfl ?_
            intro W4 hn4 rr4
            simp only [Act.put, List.setIfInBounds_toArray, List.set_cons_zero, List.set_cons_succ]
            refine wpList_plain rfl (fun K hK => ?_)
            refine opr_move (.inr rfl) (hK _ _ ?_)
            clear hK K
            simp only [Act.put, List.setIfInBounds_toArray, List.set_cons_zero, List.set_cons_succ]
            refine wpList_end rfl ?_
            go_simp
            obtain ⟨ga, h_ga⟩ : ∃ g_, wt4.heap.size = g_ := ⟨_, rfl⟩
            rw [h_ga] at rr4
            simp only [h_ga]
            have HGga : Hid (gk < ga ∧ gc < ga ∧ hi ≤ ga ∧ w.heap.size ≤ ga) := Lib.hid (by rw [← h_ga]; exact ⟨Rgk.out.lt, Rgc.out.lt, HPA.out.lt.2.2, HM.out.out.size⟩)
            clear h_ga
            replace Rgk := Lib.hid (hn4.row Rgk.out)
            replace Rgc := Lib.hid (hn4.row Rgc.out)
            replace HPA := Lib.hid (HPA.out.new hn4)
            replace HM := Lib.hid (NewT.trans _ _ _ HM.out hn4)
            clear hn4
            have Rga := Lib.hid rr4
            clear rr4
            go_upto_region 7 with fail
            refine wp_region_steps0 NewT [SV.eq (.bool false), SV.eq (.bool true)] [([(11, none)], none), ([(40, some 0)], none)] 123 2 rfl rfl (by kernel_rfl) NewT.trans (NewT.refl _) (Nat.le_of_ble_eq_true rfl) ⟨?_, ?_, trivial⟩ ?_
            · exact fun a wx hT hF K hK => rely_wp rfl (opr_move (.inl rfl) (hK _ _ (NewT.refl _) hF.1))
            · exact fun a wx hT hF K hK => rely_wp rfl (opr_not rfl hF.1 (hK _ _ (NewT.refl _) rfl))
            · intro w5 k5
              iterate 2 (intro u h; obtain rfl := Eq.symm (h (by simp)); clear h)
              refine relyEnd_nil rfl ?_
              refine wpList_end rfl ?_
              simp only [Act.put, List.setIfInBounds_toArray, List.set_cons_zero, List.set_cons_succ]
              go_simp
              replace Rgk := Lib.hid (k5.row Rgk.out)
              replace Rgc := Lib.hid (k5.row Rgc.out)
              replace Rga := Lib.hid (k5.row Rga.out)
              replace HPA := Lib.hid (HPA.out.new k5)
              replace HM := Lib.hid (NewT.trans _ _ _ HM.out k5)
              clear k5
              go_upto_region 8 with fail
              refine wp_region_steps0 NewT [SV.eq (.pointer (some ⟨gp, 0, none⟩)), svL 4 eyE (([] : List En)), SV.eq (.int .i64 ((List.length (([] : List En)) : Int))), SV.eq (.bool true), SV.eq (.bool true)] [([(9, none)], none), ([(42, some 0)], none), ([(43, some 1)], none), ([(44, some 2)], none), ([(45, some 3)], none)] 123 5 rfl rfl (by kernel_rfl) NewT.trans (NewT.refl _) (Nat.le_of_ble_eq_true rfl) ⟨?_, ?_, ?_, ?_, ?_, trivial⟩ ?_
              · exact fun a wx hT hF K hK => rely_wp rfl (opr_move (.inl rfl) (hK _ _ (NewT.refl _) hF.1))
              · exact fun a wx hT hF K hK => rely_wp rfl (opr_cv (Entries_L wx (HPA.out.new hT) (by have := HLL.out; omega)) rfl Tryd.func16 (by kernel_rfl) (by kernel_rfl) (evs1 hF.1) hK)
              · exact fun a wx hT hF K hK => rely_wp rfl (opr_lenL rfl entEl hF.1 (hK _ _ (NewT.refl _) rfl))
              · exact fun a wx hT hF K hK => rely_wp rfl (opr_cmp (b := true) (.inl ⟨rfl, (by rfl)⟩) Tryd.underlying3 rfl hF.1 rfl (hK _ _ (NewT.refl _) rfl))
              · exact fun a wx hT hF K hK => rely_wp rfl (opr_move (.inr rfl) (hK _ _ (NewT.refl _) hF.1))
              · intro w6 k6
                intro u h; obtain rfl := Eq.symm (h (by simp)); clear h
                intro _ _
                iterate 3 (intro u h; obtain rfl := Eq.symm (h (by simp)); clear h)
                refine relyEnd_nil rfl ?_
                refine wpList_end rfl ?_
                simp only [Act.put, List.setIfInBounds_toArray, List.set_cons_zero, List.set_cons_succ]
                go_simp
                replace Rgk := Lib.hid (k6.row Rgk.out)
                replace Rgc := Lib.hid (k6.row Rgc.out)
                replace Rga := Lib.hid (k6.row Rga.out)
                replace HPA := Lib.hid (HPA.out.new k6)
                replace HM := Lib.hid (NewT.trans _ _ _ HM.out k6)
                clear k6
                go_wp2
                go_ret
                exact ⟨rfl, HM.out.out⟩
          · have HB := Lib.hid hb
            obtain ⟨e1, he1⟩ : ∃ x, newE [] c false = x := ⟨_, rfl⟩
            have HX : Hid (takeC kf ps ws need n 0 [] c false = ansC kf ps ws need 0 c true) := Lib.hid (by unfold takeC; rw [if_pos hb, again_good])
            have HL2 : Hid (takeL n [] c false = [e1]) := Lib.hid (by unfold takeL; rw [if_pos hb, ← he1]; exact again_keep c)
            have HEL : Hid (hasE [e1] c.saga c.step c.back = some true) := Lib.hid (by rw [← he1]; exact again_has c)
            have HLL : Hid (([e1] : List En).length ≤ 1000000) := Lib.hid (by simp)
            clear hb he1
            go_upto_region 6 with fail
            refine wp_region_lit ?_
            refine wpList_plain rfl (fun K hK => ?_)
            refine opr_move (.inl rfl) (hK _ _ ?_)
            clear hK K
            simp only [Act.put, List.setIfInBounds_toArray, List.set_cons_zero, List.set_cons_succ]
            refine wpList_plain rfl (fun K hK => ?_)
            refine opr_ldCl Rgc.out rfl rfl (hK _ _ ?_)
            clear hK K
            simp only [Act.put, List.setIfInBounds_toArray, List.set_cons_zero, List.set_cons_succ]
            refine wpList_plain rfl (fun K hK => ?_)
            refine opr_call rfl Tryd.func13 (by kernel_rfl) (by kernel_rfl) (vs := #[.pointer (some ⟨gp, 0, none⟩), .agg (rowA 41 (clF c)), .bool false]) (by simp only [List.map_toArray, List.map_cons, List.map_nil]; rfl) ((Take_k hX w3 (HM.out.tables HTT.out) HLO.out.1 HPA.out HB.out HX.out HL2.out).mono ?_)
            rintro ex wt7 ⟨rfl, hP7, hA7⟩
            refine ⟨_, rfl, hK _ _ ?_⟩
            clear hK K
            replace Rgk := Lib.hid (hP7.row Rgk.out (by have h_0 := HG.out; have h_1 := HLO.out; omega))
            replace Rgc := Lib.hid (hP7.row Rgc.out (by have h_0 := HG.out; have h_1 := HLO.out; omega))
            replace HM := Lib.hid (NewT.of (HM.out.out.trans (hP7.below.mono (by have h_0 := HG.out; have h_1 := HLO.out; omega))))
            replace HPA := Lib.hid hA7
            clear hP7 hA7
            simp only [Act.put, List.setIfInBounds_toArray, List.set_cons_zero, List.set_cons_succ]
            refine wpList_plain rfl (fun K hK => ?_)
            refine opr_move (.inl rfl) (hK _ _ ?_)
            clear hK K
            simp only [Act.put, List.setIfInBounds_toArray, List.set_cons_zero, List.set_cons_succ]
            refine wpList_plain rfl (fun K hK => ?_)
            refine opr_ext rfl rfl rfl (hK _ _ ?_)
            clear hK K
            simp only [Act.put, List.setIfInBounds_toArray, List.set_cons_zero, List.set_cons_succ]
            refine wpList_plain rfl (fun K hK => ?_)
            refine opr_ext rfl rfl rfl (hK _ _ ?_)
            clear hK K
            simp only [Act.put, List.setIfInBounds_toArray, List.set_cons_zero, List.set_cons_succ]
            refine wpList_new (n := 41) (f := clF (ansC kf ps ws need 0 c true)) rfl rfl rfl rfl rfl rfl (by first | (simp; done) | simp [Act.put]) run_alloc_cl info_cl (clF_one _) rfl ?_
            intro W7 hn7 rr7
            simp only [Act.put, List.setIfInBounds_toArray, List.set_cons_zero, List.set_cons_succ]
            refine wpList_plain rfl (fun K hK => ?_)
            refine opr_move (.inr rfl) (hK _ _ ?_)
            clear hK K
            simp only [Act.put, List.setIfInBounds_toArray, List.set_cons_zero, List.set_cons_succ]
            refine wpList_end rfl ?_
            go_simp
            obtain ⟨ga, h_ga⟩ : ∃ g_, wt7.heap.size = g_ := ⟨_, rfl⟩
            rw [h_ga] at rr7
            simp only [h_ga]
            have HGga : Hid (gk < ga ∧ gc < ga ∧ hi ≤ ga ∧ w.heap.size ≤ ga) := Lib.hid (by rw [← h_ga]; exact ⟨Rgk.out.lt, Rgc.out.lt, HPA.out.lt.2.2, HM.out.out.size⟩)
            clear h_ga
            replace Rgk := Lib.hid (hn7.row Rgk.out)
            replace Rgc := Lib.hid (hn7.row Rgc.out)
            replace HPA := Lib.hid (HPA.out.new hn7)
            replace HM := Lib.hid (NewT.trans _ _ _ HM.out hn7)
            clear hn7
            have Rga := Lib.hid rr7
            clear rr7
            go_upto_region 7 with fail
            refine wp_region_steps0 NewT [SV.eq (.bool true), SV.eq (.bool false)] [([(11, none)], none), ([(40, some 0)], none)] 123 2 rfl rfl (by kernel_rfl) NewT.trans (NewT.refl _) (Nat.le_of_ble_eq_true rfl) ⟨?_, ?_, trivial⟩ ?_
            · exact fun a wx hT hF K hK => rely_wp rfl (opr_move (.inl rfl) (hK _ _ (NewT.refl _) hF.1))
            · exact fun a wx hT hF K hK => rely_wp rfl (opr_not rfl hF.1 (hK _ _ (NewT.refl _) rfl))
            · intro w8 k8
              iterate 2 (intro u h; obtain rfl := Eq.symm (h (by simp)); clear h)
              refine relyEnd_nil rfl ?_
              refine wpList_end rfl ?_
              simp only [Act.put, List.setIfInBounds_toArray, List.set_cons_zero, List.set_cons_succ]
              go_simp
              replace Rgk := Lib.hid (k8.row Rgk.out)
              replace Rgc := Lib.hid (k8.row Rgc.out)
              replace Rga := Lib.hid (k8.row Rga.out)
              replace HPA := Lib.hid (HPA.out.new k8)
              replace HM := Lib.hid (NewT.trans _ _ _ HM.out k8)
              clear k8
              go_upto_region 9 with fail
              refine wp_region_steps0 NewT [SV.eq (.pointer (some ⟨ga, 7, none⟩)), SV.eq (.bool true), SV.eq (.bool false), SV.eq (.bool false), SV.eq (.pointer (some ⟨gp, 0, none⟩)), svL 4 eyE ([e1]), SV.eq (.int .i64 ((List.length ([e1]) : Int))), SV.eq (.bool false), SV.eq (.bool false)] [([(10, none)], none), ([(46, some 0)], none), ([(47, some 1)], none), ([(48, some 2)], none), ([(9, none), (49, some 3)], some (49, false)), ([(50, some 4), (49, some 3)], some (49, false)), ([(51, some 5), (49, some 3)], some (49, false)), ([(52, some 6), (49, some 3)], some (49, false)), ([(49, some 3), (53, some 7)], none)] 123 9 rfl rfl (by kernel_rfl) NewT.trans (NewT.refl _) (Nat.le_of_ble_eq_true rfl) ⟨?_, ?_, ?_, ?_, ?_, ?_, ?_, ?_, ?_, trivial⟩ ?_
              · exact fun a wx hT hF K hK => rely_wp rfl (opr_fldCl7 rfl hF.1 (hK _ _ (NewT.refl _) rfl))
              · exact fun a wx hT hF K hK => rely_wp rfl (opr_ldQ (hT.row Rga.out) (by decide) rfl rfl hF.1 (hK _ _ (NewT.refl _) rfl))
              · exact fun a wx hT hF K hK => rely_wp rfl (opr_not rfl hF.1 (hK _ _ (NewT.refl _) rfl))
              · exact fun a wx hT hF K hK => rely_wp rfl (opr_move (.inl rfl) (hK _ _ (NewT.refl _) hF.1))
              · exact fun a wx hT hF K hK => rely_wp (rely_guard hF.2.1) (opr_move (.inl rfl) (hK _ _ (NewT.refl _) hF.1))
              · exact fun a wx hT hF K hK => rely_wp (rely_guard hF.2.1) (opr_cv (Entries_L wx (HPA.out.new hT) (by have := HLL.out; omega)) rfl Tryd.func16 (by kernel_rfl) (by kernel_rfl) (evs1 hF.1) hK)
              · exact fun a wx hT hF K hK => rely_wp (rely_guard hF.2.1) (opr_lenL rfl entEl hF.1 (hK _ _ (NewT.refl _) rfl))
              · exact fun a wx hT hF K hK => rely_wp (rely_guard hF.2.1) (opr_cmp (b := false) (.inr (.inl ⟨rfl, (by rfl)⟩)) Tryd.underlying3 rfl hF.1 rfl (hK _ _ (NewT.refl _) rfl))
              · exact fun a wx hT hF K hK => rely_wp rfl (opr_pick_false rfl hF.1 (hK _ _ (NewT.refl _) hF.2.1))
              · intro w9 k9
                iterate 5 (intro u h; obtain rfl := Eq.symm (h (by simp)); clear h)
                intro _ _
                iterate 3 (intro u h; obtain rfl := Eq.symm (h (by simp)); clear h)
                refine relyEnd_nil rfl ?_
                refine wpList_end rfl ?_
                simp only [Act.put, List.setIfInBounds_toArray, List.set_cons_zero, List.set_cons_succ]
                go_simp
                replace Rgk := Lib.hid (k9.row Rgk.out)
                replace Rgc := Lib.hid (k9.row Rgc.out)
                replace Rga := Lib.hid (k9.row Rga.out)
                replace HPA := Lib.hid (HPA.out.new k9)
                replace HM := Lib.hid (NewT.trans _ _ _ HM.out k9)
                clear k9
                have HEB0 : Hid ((0 : Int) ≤ 0 ∧ (0 : Int) ≤ 400) := Lib.hid (by decide)
                have HCI : Hid (∀ t : Int, 1 ≤ t → t ≤ 9 → itsB n { c with tr := t } = true) := Lib.hid (fun t h1 h9 => again_its HB.out h1 h9)
                go_wp2
                go_loopw [12] (fun i wr => ∃ (k : Nat) (e t : Int), k ≤ l.length ∧ i = .int .i64 (k : Int) ∧ Hid (NewT w wr) ∧ Hid (PartAt wr lo hi gp n e ps ws need [e1]) ∧ Hid (0 ≤ e ∧ e ≤ 400) ∧ Hid (wr.rowIs gk 24 3 (keyF pv wv need)) ∧ Hid (wr.rowIs gc 34 41 (clF { c with tr := t }))) (fun i _ => l.length - (intOf i).toNat)
                case atStart => exact ⟨0, 0, c.tr, by omega, rfl, HM, HPA, HEB0, Rgk, Rgc⟩
                case round =>
                  clear HM HPA Rgk Rgc Rga HEB0 HGga
                  obtain ⟨k, e, t, hk, rfl, HM, HPA, HEB, Rgk, Rgc⟩ := hrel
                  by_cases hlt : k < l.length
                  rotate_left
                  · have HGE : Hid (¬ (k : Int) < (l.length : Int)) := Lib.hid (by omega)
                    clear hlt
                    go_upto_region 12 with fail
                    refine wp_region_steps0 NewT [SV.eq (.int .i64 ((k : Int))), SV.eq (v3), SV.eq (.int .i64 ((List.length (l) : Int))), SV.eq (.bool false)] [([(12, none)], none), ([(3, none)], none), ([(56, some 1)], none), ([(55, some 0), (57, some 2)], none)] 123 4 rfl rfl (by kernel_rfl) NewT.trans (NewT.refl _) (Nat.le_of_ble_eq_true rfl) ⟨?_, ?_, ?_, ?_, trivial⟩ ?_
                    · exact fun a wx hT hF K hK => rely_wp rfl (opr_move (.inl rfl) (hK _ _ (NewT.refl _) hF.1))
                    · exact fun a wx hT hF K hK => rely_wp rfl (opr_move (.inl rfl) (hK _ _ (NewT.refl _) hF.1))
                    · intro a wx hT hF K hK
                      obtain ⟨f56, _⟩ := hF
                      have f56 : a.tmps.getD 56 undef = v3 := f56
                      refine rely_wp rfl ?_
                      exact opr_len_rd rfl (by rw [eval_tmp, f56]; exact ((NewT.trans _ _ _ HM.out hT).rd HL.out)) (hK _ _ (NewT.refl _) rfl)
                    · exact fun a wx hT hF K hK => rely_wp rfl (opr_cmp (b := false) (.inr (.inr (.inr (.inl ⟨rfl, (by exact decide_eq_false HGE.out)⟩)))) Tryd.underlying3 rfl hF.1 hF.2.1 (hK _ _ (NewT.refl _) rfl))
                    · intro w10 k10
                      iterate 4 (intro u h; obtain rfl := Eq.symm (h (by simp)); clear h)
                      refine relyEnd_nil rfl ?_
                      refine wpList_end rfl ?_
                      simp only [Act.put, List.setIfInBounds_toArray, List.set_cons_zero, List.set_cons_succ]
                      go_simp
                      replace Rgk := Lib.hid (k10.row Rgk.out)
                      replace Rgc := Lib.hid (k10.row Rgc.out)
                      replace HPA := Lib.hid (HPA.out.new k10)
                      replace HM := Lib.hid (NewT.trans _ _ _ HM.out k10)
                      clear k10
                      go_wp2
                      go_ret
                      exact ⟨rfl, HM.out.out⟩
                  · obtain ⟨tb, to_, tc, hv, hcc⟩ := bytes_at HL.out hlt
                    obtain ⟨bz, hbz⟩ : ∃ z, bN (bAt l k) = z := ⟨_, rfl⟩
                    rw [hbz] at hcc
                    have HCC := Lib.hid hcc
                    have HBZ : Hid (0 ≤ bz ∧ bz ≤ 255) := Lib.hid (by rw [← hbz]; have := bN_lt (bAt l k); omega)
                    have HKL := Lib.hid hlt
                    have HGE : Hid ((k : Int) < (l.length : Int)) := Lib.hid (by omega)
                    obtain ⟨r4, HR4⟩ := hid_ex (bz % 4)
                    obtain ⟨r9, HR9⟩ := hid_ex (bz % 9)
                    obtain ⟨r2, HR2⟩ := hid_ex (bz % 2)
                    have HN9 : Hid (0 ≤ r9 ∧ r9 < 9) := Lib.hid (by have := HR9.out; have := HBZ.out; omega)
                    subst hv
                    clear hcc hbz hlt
                    go_upto_region 12 with fail
                    refine wp_region_steps0 NewT [SV.eq (.int .i64 ((k : Int))), SV.eq ((.slice (some ⟨tb, to_, none⟩) l.length tc)), SV.eq (.int .i64 ((List.length (l) : Int))), SV.eq (.bool true)] [([(12, none)], none), ([(3, none)], none), ([(56, some 1)], none), ([(55, some 0), (57, some 2)], none)] 123 4 rfl rfl (by kernel_rfl) NewT.trans (NewT.refl _) (Nat.le_of_ble_eq_true rfl) ⟨?_, ?_, ?_, ?_, trivial⟩ ?_
                    · exact fun a wx hT hF K hK => rely_wp rfl (opr_move (.inl rfl) (hK _ _ (NewT.refl _) hF.1))
                    · exact fun a wx hT hF K hK => rely_wp rfl (opr_move (.inl rfl) (hK _ _ (NewT.refl _) hF.1))
                    · intro a wx hT hF K hK
                      obtain ⟨f56, _⟩ := hF
                      have f56 : a.tmps.getD 56 undef = (.slice (some ⟨tb, to_, none⟩) l.length tc) := f56
                      refine rely_wp rfl ?_
                      exact opr_len_rd rfl (by rw [eval_tmp, f56]; exact ((NewT.trans _ _ _ HM.out hT).rd HL.out)) (hK _ _ (NewT.refl _) rfl)
                    · exact fun a wx hT hF K hK => rely_wp rfl (opr_cmp (b := true) (.inr (.inr (.inr (.inl ⟨rfl, (by exact decide_eq_true HGE.out)⟩)))) Tryd.underlying3 rfl hF.1 hF.2.1 (hK _ _ (NewT.refl _) rfl))
                    · intro w11 k11
                      iterate 4 (intro u h; obtain rfl := Eq.symm (h (by simp)); clear h)
                      refine relyEnd_nil rfl ?_
                      refine wpList_end rfl ?_
                      simp only [Act.put, List.setIfInBounds_toArray, List.set_cons_zero, List.set_cons_succ]
                      go_simp
                      replace Rgk := Lib.hid (k11.row Rgk.out)
                      replace Rgc := Lib.hid (k11.row Rgc.out)
                      replace HPA := Lib.hid (HPA.out.new k11)
                      replace HM := Lib.hid (NewT.trans _ _ _ HM.out k11)
                      clear k11
                      go_upto_region 14 with fail
                      refine wp_region_steps0 NewT [SV.eq ((.slice (some ⟨tb, to_, none⟩) l.length tc)), SV.eq (.int .i64 ((k : Int))), SV.eq (.pointer (some ⟨tb, to_ + k, none⟩)), SV.eq ((.int .u8 bz)), SV.eq ((.int .u8 r4)), SV.eq (.bool (r4 == 0))] [([(3, none)], none), ([(12, none)], none), ([(61, some 0), (62, some 1)], none), ([(63, some 2)], none), ([(64, some 3)], none), ([(65, some 4)], none)] 123 6 rfl rfl (by kernel_rfl) NewT.trans (NewT.refl _) (Nat.le_of_ble_eq_true rfl) ⟨?_, ?_, ?_, ?_, ?_, ?_, trivial⟩ ?_
                      · exact fun a wx hT hF K hK => rely_wp rfl (opr_move (.inl rfl) (hK _ _ (NewT.refl _) hF.1))
                      · exact fun a wx hT hF K hK => rely_wp rfl (opr_move (.inl rfl) (hK _ _ (NewT.refl _) hF.1))
                      · exact fun a wx hT hF K hK => rely_wp rfl (opr_idxB8 HKL.out rfl rfl hF.1 hF.2.1 (hK _ _ (NewT.refl _) rfl))
                      · exact fun a wx hT hF K hK => rely_wp rfl (opr_ld1 Tryd.underlying5 rfl rfl hF.1 (((NewT.trans _ _ _ HM.out hT).out.cell (p := ⟨tb, to_ + k, none⟩) (cell_lt HCC.out)).trans HCC.out) (hK _ _ (NewT.refl _) rfl))
                      · exact fun a wx hT hF K hK => rely_wp rfl (opr_remB HBZ.out (by omega) HR4.out rfl hF.1 (hK _ _ (NewT.refl _) rfl))
                      · exact fun a wx hT hF K hK => rely_wp rfl (opr_eqlB (b := r4 == 0) rfl rfl hF.1 rfl (hK _ _ (NewT.refl _) rfl))
                      · intro w12 k12
                        iterate 6 (intro u h; obtain rfl := Eq.symm (h (by simp)); clear h)
                        refine relyEnd_nil rfl ?_
                        refine wpList_end rfl ?_
                        simp only [Act.put, List.setIfInBounds_toArray, List.set_cons_zero, List.set_cons_succ]
                        go_simp
                        replace Rgk := Lib.hid (k12.row Rgk.out)
                        replace Rgc := Lib.hid (k12.row Rgc.out)
                        replace HPA := Lib.hid (HPA.out.new k12)
                        replace HM := Lib.hid (NewT.trans _ _ _ HM.out k12)
                        clear k12
                        cases hb4 : (r4 == 0)
                        · clear hb4
                          go_upto_region 16 with fail
                          refine wp_region_steps0 NewT [SV.eq ((.slice (some ⟨tb, to_, none⟩) l.length tc)), SV.eq (.int .i64 ((k : Int))), SV.eq (.pointer (some ⟨tb, to_ + k, none⟩)), SV.eq ((.int .u8 bz)), SV.eq (.int .i64 (bz)), SV.eq (.int .i64 (r9)), SV.eq (.int .i64 (1 + r9)), SV.eq (.pointer (some ⟨gc, 2, none⟩))] [([(3, none)], none), ([(12, none)], none), ([(69, some 0), (70, some 1)], none), ([(71, some 2)], none), ([(72, some 3)], none), ([(73, some 4)], none), ([(74, some 5)], none), ([(6, none)], none)] 123 8 rfl rfl (by kernel_rfl) NewT.trans (NewT.refl _) (Nat.le_of_ble_eq_true rfl) ⟨?_, ?_, ?_, ?_, ?_, ?_, ?_, ?_, trivial⟩ ?_
                          · exact fun a wx hT hF K hK => rely_wp rfl (opr_move (.inl rfl) (hK _ _ (NewT.refl _) hF.1))
                          · exact fun a wx hT hF K hK => rely_wp rfl (opr_move (.inl rfl) (hK _ _ (NewT.refl _) hF.1))
                          · exact fun a wx hT hF K hK => rely_wp rfl (opr_idxB8 HKL.out rfl rfl hF.1 hF.2.1 (hK _ _ (NewT.refl _) rfl))
                          · exact fun a wx hT hF K hK => rely_wp rfl (opr_ld1 Tryd.underlying5 rfl rfl hF.1 (((NewT.trans _ _ _ HM.out hT).out.cell (p := ⟨tb, to_ + k, none⟩) (cell_lt HCC.out)).trans HCC.out) (hK _ _ (NewT.refl _) rfl))
                          · exact fun a wx hT hF K hK => rely_wp rfl (opr_cv8 HBZ.out rfl hF.1 (hK _ _ (NewT.refl _) rfl))
                          · exact fun a wx hT hF K hK => rely_wp rfl (opr_rem (by have := HBZ.out; omega) (by omega) HR9.out rfl hF.1 rfl (hK _ _ (NewT.refl _) rfl))
                          · exact fun a wx hT hF K hK => rely_wp rfl (opr_add (r := 1 + r9) Tryd.underlying3 (by have := HN9.out; unfold wrap64; omega) rfl rfl hF.1 (hK _ _ (NewT.refl _) rfl))
                          · exact fun a wx hT hF K hK => rely_wp rfl (opr_fldCl2 rfl hF.1 (hK _ _ (NewT.refl _) rfl))
                          · intro w13 k13
                            iterate 8 (intro u h; obtain rfl := Eq.symm (h (by simp)); clear h)
                            refine relyEnd_nil rfl ?_
                            simp only [Act.put, List.setIfInBounds_toArray, List.set_cons_zero, List.set_cons_succ]
                            refine wpList_plain rfl (fun K hK => ?_)
                            refine opr_put1B (g := gc) (o0 := 2) (v := .int .i64 (1 + r9)) (F := clF { c with tr := 1 + r9 }) rfl rfl rfl (k13.row Rgc.out) (by decide) info_i1 rfl (cl_tr { c with tr := t } (1 + r9)) ?_
                            intro W13 hR13 hO13 rr13
                            refine hK _ _ ?_
                            clear hK K
                            refine wpList_end rfl ?_
                            simp only [Act.put, List.setIfInBounds_toArray, List.set_cons_zero, List.set_cons_succ]
                            go_simp
                            replace HPA := Lib.hid ((HPA.out.new k13).of hR13.size fun k h1 h2 => hO13 k (by have h_0 := HG.out; have h_1 := HLO.out; omega))
                            replace Rgk := Lib.hid (row_of (hO13 gk (by have h_0 := HG.out; have h_1 := HLO.out; omega)) (k13.row Rgk.out))
                            replace HM := Lib.hid (NewT.rt (NewT.trans _ _ _ HM.out k13) hR13 (by have h_0 := HG.out; have h_1 := HLO.out; omega))
                            replace Rgc := Lib.hid rr13
                            clear k13 hR13 hO13 rr13
                            have HI9 := Lib.hid (HCI.out (1 + r9) (by have := HN9.out; omega) (by have := HN9.out; omega))
                            have HX9 : Hid (takeC kf ps ws need n e [e1] { c with tr := 1 + r9 } (r2 == 0) = ansC kf ps ws need e { c with tr := 1 + r9 } true) := Lib.hid (by unfold takeC; rw [if_pos HI9.out, again_good2 HEL.out { c with tr := 1 + r9 } rfl rfl rfl])
                            have HL9 : Hid (takeL n [e1] { c with tr := 1 + r9 } (r2 == 0) = [e1]) := Lib.hid (by unfold takeL; rw [if_pos HI9.out]; exact keep_has _ _ _ (by show (hasE [e1] c.saga c.step c.back).isSome = true; rw [HEL.out]; rfl))
                            have HHD : Hid (holdsB kf ps ws need (recC (ansC kf ps ws need e { c with tr := 1 + r9 } true) 1) = true) := Lib.hid (holds_ans HI9.out HKN.out HEB.out (by decide))
                            go_upto_region 17 with fail
                            have HPW : Hid (hi ≤ W13.heap.size) := Lib.hid HPA.out.lt.2.2
                            have HSZ : Hid (lo ≤ W13.heap.size) := Lib.hid (by have := HPA.out.lt; omega)
                            have HTW := Lib.hid (HM.out.tables HTT.out)
                            refine wp_region_relyL (PW W13 lo hi) (JL 8 12 13 13 (fun w => PartAt w lo hi gp n e ps ws need [e1]) (fun w => PartAt w lo hi gp n e ps ws need [e1]) W13 34 41 (clF (ansC kf ps ws need e { c with tr := 1 + r9 } true))) [SV.eq (.pointer (some ⟨gp, 0, none⟩)), SV.eq (.agg (rowA 41 (clF ({ c with tr := 1 + r9 })))), SV.eq ((.slice (some ⟨tb, to_, none⟩) l.length tc)), SV.eq (.int .i64 ((k : Int))), SV.eq (.pointer (some ⟨tb, to_ + k, none⟩)), SV.eq ((.int .u8 bz)), SV.eq ((.int .u8 r2)), SV.eq (.bool (r2 == 0)), SV.eq ((.tuple #[.agg (rowA 41 (clF (ansC kf ps ws need e { c with tr := 1 + r9 } true))), .bool true])), SV.eq ((.tuple #[.agg (rowA 41 (clF (ansC kf ps ws need e { c with tr := 1 + r9 } true))), .bool true])), SV.eq (.agg (rowA 41 (clF (ansC kf ps ws need e { c with tr := 1 + r9 } true)))), SV.eq (.bool true), svPtV, SV.any] [([(9, none)], none), ([(6, none)], none), ([(3, none)], none), ([(12, none)], none), ([(80, some 2), (81, some 3)], none), ([(82, some 4)], none), ([(83, some 5)], none), ([(84, some 6)], none), ([(78, some 0), (79, some 1), (85, some 7)], none), ([(86, some 8)], none), ([(77, some 9)], none), ([(77, some 9)], none), ([], none), ([(13, some 12), (87, some 10)], none)] 123 rfl (by kernel_rfl) rfl (by kernel_rfl) (by kernel_rfl) rfl PW.trans (PW.drew _) (JL.start (HPA.out.drew) _) (Nat.le_of_ble_eq_true rfl) ⟨?_, ?_, ?_, ?_, ?_, ?_, ?_, ?_, ?_, ?_, ?_, ?_, ?_, ?_, trivial⟩ ?_
                            · exact fun a wx li hT hF hJ hx K hK => have hK := fun v w' (hN : NewT wx w') hv => hK v w' (PW.new hT hN HSZ.out) (JL.new hJ (by decide) (by simp) hN (fun h => PartAt.new h hN) (fun h => PartAt.new h hN)) hv; rely_wp rfl (opr_move (.inl rfl) (hK _ _ (NewT.refl _) hF.1))
                            · exact fun a wx li hT hF hJ hx K hK => have hK := fun v w' (hN : NewT wx w') hv => hK v w' (PW.new hT hN HSZ.out) (JL.new hJ (by decide) (by simp) hN (fun h => PartAt.new h hN) (fun h => PartAt.new h hN)) hv; rely_wp rfl (opr_ldCl (hT.row Rgc.out (by have h_0 := HG.out; have h_1 := HLO.out; omega)) rfl hF.1 (hK _ _ (NewT.refl _) rfl))
                            · exact fun a wx li hT hF hJ hx K hK => have hK := fun v w' (hN : NewT wx w') hv => hK v w' (PW.new hT hN HSZ.out) (JL.new hJ (by decide) (by simp) hN (fun h => PartAt.new h hN) (fun h => PartAt.new h hN)) hv; rely_wp rfl (opr_move (.inl rfl) (hK _ _ (NewT.refl _) hF.1))
                            · exact fun a wx li hT hF hJ hx K hK => have hK := fun v w' (hN : NewT wx w') hv => hK v w' (PW.new hT hN HSZ.out) (JL.new hJ (by decide) (by simp) hN (fun h => PartAt.new h hN) (fun h => PartAt.new h hN)) hv; rely_wp rfl (opr_move (.inl rfl) (hK _ _ (NewT.refl _) hF.1))
                            · exact fun a wx li hT hF hJ hx K hK => have hK := fun v w' (hN : NewT wx w') hv => hK v w' (PW.new hT hN HSZ.out) (JL.new hJ (by decide) (by simp) hN (fun h => PartAt.new h hN) (fun h => PartAt.new h hN)) hv; rely_wp rfl (opr_idxB8 HKL.out rfl rfl hF.1 hF.2.1 (hK _ _ (NewT.refl _) rfl))
                            · exact fun a wx li hT hF hJ hx K hK => have hK := fun v w' (hN : NewT wx w') hv => hK v w' (PW.new hT hN HSZ.out) (JL.new hJ (by decide) (by simp) hN (fun h => PartAt.new h hN) (fun h => PartAt.new h hN)) hv; rely_wp rfl (opr_ld1 Tryd.underlying5 rfl rfl hF.1 ((hT.cell (o := to_ + k) ((HM.out.out.cell (cell_lt HCC.out)).trans HCC.out) (.inl (Nat.lt_of_lt_of_le (cell_lt HCC.out) HLO.out.2.2.2.2)))) (hK _ _ (NewT.refl _) rfl))
                            · exact fun a wx li hT hF hJ hx K hK => have hK := fun v w' (hN : NewT wx w') hv => hK v w' (PW.new hT hN HSZ.out) (JL.new hJ (by decide) (by simp) hN (fun h => PartAt.new h hN) (fun h => PartAt.new h hN)) hv; rely_wp rfl (opr_remB HBZ.out (by omega) HR2.out rfl hF.1 (hK _ _ (NewT.refl _) rfl))
                            · exact fun a wx li hT hF hJ hx K hK => have hK := fun v w' (hN : NewT wx w') hv => hK v w' (PW.new hT hN HSZ.out) (JL.new hJ (by decide) (by simp) hN (fun h => PartAt.new h hN) (fun h => PartAt.new h hN)) hv; rely_wp rfl (opr_eqlB (b := r2 == 0) rfl rfl hF.1 rfl (hK _ _ (NewT.refl _) rfl))
                            · intro a wx li hT hF hJ hx K hK
                              obtain ⟨f78, f79, f85, _⟩ := hF
                              have f78 : a.tmps.getD 78 undef = .pointer (some ⟨gp, 0, none⟩) := f78
                              have f79 : a.tmps.getD 79 undef = .agg (rowA 41 (clF ({ c with tr := 1 + r9 }))) := f79
                              have f85 : a.tmps.getD 85 undef = .bool (r2 == 0) := f85
                              refine rely_wp rfl ?_
                              refine opr_call rfl Tryd.func13 (by kernel_rfl) (by kernel_rfl) (vs := #[.pointer (some ⟨gp, 0, none⟩), .agg (rowA 41 (clF ({ c with tr := 1 + r9 }))), .bool (r2 == 0)]) (by simp only [List.map_toArray, List.map_cons, List.map_nil, eval_tmp, f78, f79, f85]) ((Take_k hX wx (hT.tables HTW.out HLO.out.1) HLO.out.1 (hJ.pre hx.no) HI9.out HX9.out HL9.out).mono ?_)
                              rintro ex w4 ⟨rfl, hP4, hA4⟩
                              exact ⟨_, rfl, hK _ _ (hT.pt hP4) (JL.call hJ hx (by decide) (by simp) hA4 (fun b F hb hr => hP4.row hr (.inr (Nat.le_trans HPW.out hb)))) rfl⟩
                            · exact fun a wx li hT hF hJ hx K hK => have hK := fun v w' (hN : NewT wx w') hv => hK v w' (PW.new hT hN HSZ.out) (JL.new hJ (by decide) (by simp) hN (fun h => PartAt.new h hN) (fun h => PartAt.new h hN)) hv; rely_wp rfl (opr_move (.inl rfl) (hK _ _ (NewT.refl _) hF.1))
                            · exact fun a wx li hT hF hJ hx K hK => have hK := fun v w' (hN : NewT wx w') hv => hK v w' (PW.new hT hN HSZ.out) (JL.new hJ (by decide) (by simp) hN (fun h => PartAt.new h hN) (fun h => PartAt.new h hN)) hv; rely_wp rfl (opr_ext rfl hF.1 rfl (hK _ _ (NewT.refl _) rfl))
                            · exact fun a wx li hT hF hJ hx K hK => have hK := fun v w' (hN : NewT wx w') hv => hK v w' (PW.new hT hN HSZ.out) (JL.new hJ (by decide) (by simp) hN (fun h => PartAt.new h hN) (fun h => PartAt.new h hN)) hv; rely_wp rfl (opr_ext rfl hF.1 rfl (hK _ _ (NewT.refl _) rfl))
                            · intro a wx li hT hF hJ hx K hK
                              refine rely_wp rfl ?_
                              refine opr_allocV rfl run_alloc_cl ?_
                              exact hK _ _ (PW.new hT (NewT.alloc _ _) HSZ.out) (JL.alloc hJ hx (by decide) hT.below.size (fun h => PartAt.new h (NewT.alloc _ _)) (fun h => PartAt.new h (NewT.alloc _ _))) ⟨_, rfl⟩
                            · intro a wx li hT hF hJ hx K hK
                              obtain ⟨f13, f87, _⟩ := hF
                              replace f13 := show (svPtV).pred (a.tmps.getD 13 undef) wx from f13
                              have f87 : a.tmps.getD 87 undef = .agg (rowA 41 (clF (ansC kf ps ws need e { c with tr := 1 + r9 } true))) := f87
                              refine rely_wp rfl ?_
                              obtain ⟨bv, hbv⟩ := f13
                              obtain ⟨hb2, F0, hb3, _⟩ := hJ.var (hx.waits 12 (by kernel_rfl)) bv hbv
                              refine opr_putmB (g := bv) (o0 := 0) (m := 41) (f := clF (ansC kf ps ws need e { c with tr := 1 + r9 } true)) (F := clF (ansC kf ps ws need e { c with tr := 1 + r9 } true)) rfl hbv f87 hb3 (by decide) info_cl (clF_one _) (put_allN _ _ _) ?_
                              intro w' hR hO hr2
                              exact hK _ _ (hT.store hb2 HSZ.out hR) (JL.store hJ hx (by decide) (hx.waits 12 (by kernel_rfl)) hbv hb2 hr2 (fun h => h.of hR.size fun k _ hk => hO k (by have := h.lt; omega) (by have := HPW.out; omega)) (fun h => h.of hR.size fun k _ hk => hO k (by have := h.lt; omega) (by have := HPW.out; omega))) trivial
                            · intro w14 k14
                              iterate 12 (intro u h; obtain rfl := Eq.symm (h (by simp)); clear h)
                              intro u h; obtain ⟨p13, hv⟩ := (h (by simp)); clear h; subst hv
                              intro _ _
                              refine relyEnd_nil rfl ?_
                              intro hJ
                              simp only [Act.put, List.setIfInBounds_toArray, List.set_cons_zero, List.set_cons_succ]
                              obtain ⟨hBw, hbz, hrz⟩ := JL.at (g := p13) hJ (by decide) (by kernel_rfl)
                              refine opr_move (.inr rfl) ?_
                              go_simp
                              clear hJ
                              obtain ⟨gb, h_gb⟩ : ∃ g_, p13 = g_ := ⟨_, rfl⟩
                              rw [h_gb] at hbz hrz
                              simp only [h_gb]
                              clear h_gb
                              have HGgb : Hid (gk < gb ∧ gc < gb ∧ hi ≤ gb ∧ w.heap.size ≤ gb) := Lib.hid ⟨Nat.lt_of_lt_of_le Rgk.out.lt hbz, Nat.lt_of_lt_of_le Rgc.out.lt hbz, Nat.le_trans HPA.out.lt.2.2 hbz, Nat.le_trans HM.out.out.size hbz⟩
                              replace Rgk := Lib.hid (k14.row Rgk.out (by have h_0 := HG.out; have h_1 := HLO.out; omega))
                              replace Rgc := Lib.hid (k14.row Rgc.out (by have h_0 := HG.out; have h_1 := HLO.out; omega))
                              replace HM := Lib.hid (NewT.of (HM.out.out.trans (k14.below.mono (by have h_0 := HG.out; have h_1 := HLO.out; omega))))
                              replace HPA := Lib.hid hBw
                              have Rgb := Lib.hid hrz
                              clear hrz hBw hbz k14 HPW HSZ HTW
                              go_upto_region 18 with fail
                              refine wp_region_rely (NewT) [SV.eq (.bool true), SV.eq (.bool false), SV.eq (.bool false), SV.eq (.pointer (some ⟨gb, 7, none⟩)), SV.eq (.bool true), SV.eq (.bool false), SV.eq (.bool false), SV.eq (.bool false), SV.eq (.pointer (some ⟨gb, 2, none⟩)), SV.eq (.int .i64 (1 + r9)), SV.eq (.pointer (some ⟨gc, 2, none⟩)), SV.eq (.int .i64 (1 + r9)), SV.eq (.bool false), SV.eq (.bool false), SV.eq (.bool false), SV.eq (.pointer (some ⟨gb, 8, none⟩)), SV.eq (.int .i64 (e)), SV.eq (.pointer (some ⟨gp, 0, none⟩)), SV.eq (.int .i64 (e)), SV.eq (.bool false), SV.eq (.bool false), SV.eq (.bool false), SV.eq (.pointer (some ⟨gp, 0, none⟩)), svL 4 eyE ([e1]), SV.eq (.int .i64 ((List.length ([e1]) : Int))), SV.eq (.bool false), SV.eq (.bool false), SV.eq (.bool false), SV.eq (.agg (rowA 3 (keyF pv wv need))), SV.eq (.agg (rowA 41 (clF (ansC kf ps ws need e { c with tr := 1 + r9 } true)))), svRec (recC (ansC kf ps ws need e { c with tr := 1 + r9 } true) 1), SV.eq (.bool true), SV.eq (.bool false)] [([(14, none)], none), ([(89, some 0)], none), ([(90, some 1)], none), ([(13, none), (91, some 2)], some (91, false)), ([(92, some 3), (91, some 2)], some (91, false)), ([(93, some 4), (91, some 2)], some (91, false)), ([(91, some 2), (94, some 5)], none), ([(95, some 6)], none), ([(13, none), (96, some 7)], some (96, false)), ([(97, some 8), (96, some 7)], some (96, false)), ([(6, none), (96, some 7)], some (96, false)), ([(99, some 10), (96, some 7)], some (96, false)), ([(98, some 9), (100, some 11), (96, some 7)], some (96, false)), ([(96, some 7), (101, some 12)], none), ([(102, some 13)], none), ([(13, none), (103, some 14)], some (103, false)), ([(104, some 15), (103, some 14)], some (103, false)), ([(9, none), (103, some 14)], some (103, false)), ([(106, some 17), (103, some 14)], some (103, false)), ([(105, some 16), (107, some 18), (103, some 14)], some (103, false)), ([(103, some 14), (108, some 19)], none), ([(109, some 20)], none), ([(9, none), (110, some 21)], some (110, false)), ([(111, some 22), (110, some 21)], some (110, false)), ([(112, some 23), (110, some 21)], some (110, false)), ([(113, some 24), (110, some 21)], some (110, false)), ([(110, some 21), (114, some 25)], none), ([(115, some 26)], none), ([(4, none), (116, some 27)], some (116, false)), ([(13, none), (116, some 27)], some (116, false)), ([(118, some 29), (116, some 27)], some (116, false)), ([(117, some 28), (119, some 30), (116, some 27)], some (116, false)), ([(120, some 31), (116, some 27)], some (116, false))] 123 rfl (by kernel_rfl) rfl (by kernel_rfl) (by kernel_rfl) rfl NewT.trans (NewT.drew _) (Nat.le_of_ble_eq_true rfl) ⟨?_, ?_, ?_, ?_, ?_, ?_, ?_, ?_, ?_, ?_, ?_, ?_, ?_, ?_, ?_, ?_, ?_, ?_, ?_, ?_, ?_, ?_, ?_, ?_, ?_, ?_, ?_, ?_, ?_, ?_, ?_, ?_, ?_, trivial⟩ ?_
                              · exact fun a wx hT hF K hK => rely_wp rfl (opr_move (.inl rfl) (hK _ _ (NewT.refl _) hF.1))
                              · exact fun a wx hT hF K hK => rely_wp rfl (opr_not rfl hF.1 (hK _ _ (NewT.refl _) rfl))
                              · exact fun a wx hT hF K hK => rely_wp rfl (opr_move (.inl rfl) (hK _ _ (NewT.refl _) hF.1))
                              · exact fun a wx hT hF K hK => rely_wp (rely_guard hF.2.1) (opr_fldCl7 rfl hF.1 (hK _ _ (NewT.refl _) rfl))
                              · exact fun a wx hT hF K hK => rely_wp (rely_guard hF.2.1) (opr_ldQ (hT.row Rgb.out) (by decide) rfl rfl hF.1 (hK _ _ (NewT.refl _) rfl))
                              · exact fun a wx hT hF K hK => rely_wp (rely_guard hF.2.1) (opr_not rfl hF.1 (hK _ _ (NewT.refl _) rfl))
                              · exact fun a wx hT hF K hK => rely_wp rfl (opr_pick_false rfl hF.1 (hK _ _ (NewT.refl _) hF.2.1))
                              · exact fun a wx hT hF K hK => rely_wp rfl (opr_move (.inl rfl) (hK _ _ (NewT.refl _) hF.1))
                              · exact fun a wx hT hF K hK => rely_wp (rely_guard hF.2.1) (opr_fldCl2 rfl hF.1 (hK _ _ (NewT.refl _) rfl))
                              · exact fun a wx hT hF K hK => rely_wp (rely_guard hF.2.1) (opr_ldI (hT.row Rgb.out) (by decide) rfl rfl hF.1 (hK _ _ (NewT.refl _) rfl))
                              · exact fun a wx hT hF K hK => rely_wp (rely_guard hF.2.1) (opr_fldCl2 rfl hF.1 (hK _ _ (NewT.refl _) rfl))
                              · exact fun a wx hT hF K hK => rely_wp (rely_guard hF.2.1) (opr_ldI (hT.row Rgc.out) (by decide) rfl rfl hF.1 (hK _ _ (NewT.refl _) rfl))
                              · exact fun a wx hT hF K hK => rely_wp (rely_guard hF.2.2.1) (opr_cmp (b := false) (.inr (.inl ⟨rfl, (by exact bne_self_eq_false _)⟩)) Tryd.underlying3 rfl hF.1 hF.2.1 (hK _ _ (NewT.refl _) rfl))
                              · exact fun a wx hT hF K hK => rely_wp rfl (opr_pick_false rfl hF.1 (hK _ _ (NewT.refl _) hF.2.1))
                              · exact fun a wx hT hF K hK => rely_wp rfl (opr_move (.inl rfl) (hK _ _ (NewT.refl _) hF.1))
                              · exact fun a wx hT hF K hK => rely_wp (rely_guard hF.2.1) (opr_fldCl8 rfl hF.1 (hK _ _ (NewT.refl _) rfl))
                              · exact fun a wx hT hF K hK => rely_wp (rely_guard hF.2.1) (opr_ldI (hT.row Rgb.out) (by decide) rfl rfl hF.1 (hK _ _ (NewT.refl _) rfl))
                              · exact fun a wx hT hF K hK => rely_wp (rely_guard hF.2.1) (opr_move (.inl rfl) (hK _ _ (NewT.refl _) hF.1))
                              · exact fun a wx hT hF K hK => rely_wp (rely_guard hF.2.1) (opr_cv (Epoch_a wx (HPA.out.new hT)) rfl Tryd.func15 (by kernel_rfl) (by kernel_rfl) (evs1 hF.1) hK)
                              · exact fun a wx hT hF K hK => rely_wp (rely_guard hF.2.2.1) (opr_cmp (b := false) (.inr (.inl ⟨rfl, (by exact bne_self_eq_false _)⟩)) Tryd.underlying3 rfl hF.1 hF.2.1 (hK _ _ (NewT.refl _) rfl))
                              · exact fun a wx hT hF K hK => rely_wp rfl (opr_pick_false rfl hF.1 (hK _ _ (NewT.refl _) hF.2.1))
                              · exact fun a wx hT hF K hK => rely_wp rfl (opr_move (.inl rfl) (hK _ _ (NewT.refl _) hF.1))
                              · exact fun a wx hT hF K hK => rely_wp (rely_guard hF.2.1) (opr_move (.inl rfl) (hK _ _ (NewT.refl _) hF.1))
                              · exact fun a wx hT hF K hK => rely_wp (rely_guard hF.2.1) (opr_cv (Entries_L wx (HPA.out.new hT) (by have := HLL.out; omega)) rfl Tryd.func16 (by kernel_rfl) (by kernel_rfl) (evs1 hF.1) hK)
                              · exact fun a wx hT hF K hK => rely_wp (rely_guard hF.2.1) (opr_lenL rfl entEl hF.1 (hK _ _ (NewT.refl _) rfl))
                              · exact fun a wx hT hF K hK => rely_wp (rely_guard hF.2.1) (opr_cmp (b := false) (.inr (.inl ⟨rfl, (by rfl)⟩)) Tryd.underlying3 rfl hF.1 rfl (hK _ _ (NewT.refl _) rfl))
                              · exact fun a wx hT hF K hK => rely_wp rfl (opr_pick_false rfl hF.1 (hK _ _ (NewT.refl _) hF.2.1))
                              · exact fun a wx hT hF K hK => rely_wp rfl (opr_move (.inl rfl) (hK _ _ (NewT.refl _) hF.1))
                              · exact fun a wx hT hF K hK => rely_wp (rely_guard hF.2.1) (opr_ldY (hT.row Rgk.out) rfl hF.1 (hK _ _ (NewT.refl _) rfl))
                              · exact fun a wx hT hF K hK => rely_wp (rely_guard hF.2.1) (opr_ldCl (hT.row Rgb.out) rfl hF.1 (hK _ _ (NewT.refl _) rfl))
                              · exact fun a wx hT hF K hK => rely_wp (rely_guard hF.2.1) (opr_cv (pReceipt_cv (ansC kf ps ws need e { c with tr := 1 + r9 } true) 1 wx) rfl Tryd.func20 (by kernel_rfl) (by kernel_rfl) (evs2 hF.1 rfl) hK)
                              · exact fun a wx hT hF K hK => rely_wp (rely_guard hF.2.2.1) (opr_cv (HHD.out ▸ Holds_cv hX _ _ ps ws need (recC (ansC kf ps ws need e { c with tr := 1 + r9 } true) 1) wx ((NewT.trans _ _ _ HM.out hT).tables HTT.out) (⟨pv, wv, rfl, (NewT.trans _ _ _ HM.out hT).hs HPP.out, (NewT.trans _ _ _ HM.out hT).hs HWW.out⟩ : KeysV wx (.agg (rowA 3 (keyF pv wv need))) ps ws need) hF.2.1) rfl Tryd.func22 (by kernel_rfl) (by kernel_rfl) (evs2 hF.1 rfl) hK)
                              · exact fun a wx hT hF K hK => rely_wp (rely_guard hF.2.1) (opr_not rfl hF.1 (hK _ _ (NewT.refl _) rfl))
                              · intro w15 k15
                                iterate 23 (intro u h; obtain rfl := Eq.symm (h (by simp)); clear h)
                                intro _ _
                                iterate 6 (intro u h; obtain rfl := Eq.symm (h (by simp)); clear h)
                                intro _ _
                                iterate 2 (intro u h; obtain rfl := Eq.symm (h (by simp)); clear h)
                                refine relyEnd_nil rfl ?_
                                simp only [Act.put, List.setIfInBounds_toArray, List.set_cons_zero, List.set_cons_succ]
                                refine opr_pick_false rfl rfl ?_
                                go_simp
                                replace Rgk := Lib.hid (k15.row Rgk.out)
                                replace Rgc := Lib.hid (k15.row Rgc.out)
                                replace Rgb := Lib.hid (k15.row Rgb.out)
                                replace HPA := Lib.hid (HPA.out.new k15)
                                replace HM := Lib.hid (NewT.trans _ _ _ HM.out k15)
                                clear k15
                                have hk2 := HGE.out
                                have hk3 := HLE.out
                                go_wp2
                                go_roundw
                                case rel => exact ⟨k + 1, e, 1 + r9, by omega, by go_num, by first | exact HM | trivial, by first | exact HPA | trivial, by first | exact HEB | trivial, by first | exact Rgk | trivial, by first | exact Rgc | trivial⟩
                                case measure => simp [intOf]; omega
                        · clear hb4
                          go_upto_region 15 with fail
                          refine wp_region_lit ?_
                          refine wpList_plain rfl (fun K hK => ?_)
                          refine opr_move (.inl rfl) (hK _ _ ?_)
                          clear hK K
                          simp only [Act.put, List.setIfInBounds_toArray, List.set_cons_zero, List.set_cons_succ]
                          refine wpList_plain rfl (fun K hK => ?_)
                          refine opr_call rfl Tryd.func14 (by kernel_rfl) (by kernel_rfl) (vs := #[.pointer (some ⟨gp, 0, none⟩)]) (by simp only [List.map_toArray, List.map_cons, List.map_nil]; rfl) ((Rotate_c w12 HEB.out HPA.out).mono ?_)
                          rintro ex w16 ⟨rfl, hP16, hA16⟩
                          refine ⟨_, rfl, hK _ _ ?_⟩
                          clear hK K
                          replace Rgk := Lib.hid (hP16.row Rgk.out (by have h_0 := HG.out; have h_1 := HLO.out; omega))
                          replace Rgc := Lib.hid (hP16.row Rgc.out (by have h_0 := HG.out; have h_1 := HLO.out; omega))
                          replace HM := Lib.hid (NewT.of (HM.out.out.trans (hP16.below.mono (by have h_0 := HG.out; have h_1 := HLO.out; omega))))
                          replace HPA := Lib.hid hA16
                          clear hP16 hA16
                          refine wpList_end rfl ?_
                          simp only [Act.put, List.setIfInBounds_toArray, List.set_cons_zero, List.set_cons_succ]
                          go_simp
                          replace HEB := Lib.hid (rotE_le HEB.out)
                          go_upto_region 16 with fail
                          refine wp_region_steps0 NewT [SV.eq ((.slice (some ⟨tb, to_, none⟩) l.length tc)), SV.eq (.int .i64 ((k : Int))), SV.eq (.pointer (some ⟨tb, to_ + k, none⟩)), SV.eq ((.int .u8 bz)), SV.eq (.int .i64 (bz)), SV.eq (.int .i64 (r9)), SV.eq (.int .i64 (1 + r9)), SV.eq (.pointer (some ⟨gc, 2, none⟩))] [([(3, none)], none), ([(12, none)], none), ([(69, some 0), (70, some 1)], none), ([(71, some 2)], none), ([(72, some 3)], none), ([(73, some 4)], none), ([(74, some 5)], none), ([(6, none)], none)] 123 8 rfl rfl (by kernel_rfl) NewT.trans (NewT.refl _) (Nat.le_of_ble_eq_true rfl) ⟨?_, ?_, ?_, ?_, ?_, ?_, ?_, ?_, trivial⟩ ?_
                          · exact fun a wx hT hF K hK => rely_wp rfl (opr_move (.inl rfl) (hK _ _ (NewT.refl _) hF.1))
                          · exact fun a wx hT hF K hK => rely_wp rfl (opr_move (.inl rfl) (hK _ _ (NewT.refl _) hF.1))
                          · exact fun a wx hT hF K hK => rely_wp rfl (opr_idxB8 HKL.out rfl rfl hF.1 hF.2.1 (hK _ _ (NewT.refl _) rfl))
                          · exact fun a wx hT hF K hK => rely_wp rfl (opr_ld1 Tryd.underlying5 rfl rfl hF.1 (((NewT.trans _ _ _ HM.out hT).out.cell (p := ⟨tb, to_ + k, none⟩) (cell_lt HCC.out)).trans HCC.out) (hK _ _ (NewT.refl _) rfl))
                          · exact fun a wx hT hF K hK => rely_wp rfl (opr_cv8 HBZ.out rfl hF.1 (hK _ _ (NewT.refl _) rfl))
                          · exact fun a wx hT hF K hK => rely_wp rfl (opr_rem (by have := HBZ.out; omega) (by omega) HR9.out rfl hF.1 rfl (hK _ _ (NewT.refl _) rfl))
                          · exact fun a wx hT hF K hK => rely_wp rfl (opr_add (r := 1 + r9) Tryd.underlying3 (by have := HN9.out; unfold wrap64; omega) rfl rfl hF.1 (hK _ _ (NewT.refl _) rfl))
                          · exact fun a wx hT hF K hK => rely_wp rfl (opr_fldCl2 rfl hF.1 (hK _ _ (NewT.refl _) rfl))
                          · intro w17 k17
                            iterate 8 (intro u h; obtain rfl := Eq.symm (h (by simp)); clear h)
                            refine relyEnd_nil rfl ?_
                            simp only [Act.put, List.setIfInBounds_toArray, List.set_cons_zero, List.set_cons_succ]
                            refine wpList_plain rfl (fun K hK => ?_)
                            refine opr_put1B (g := gc) (o0 := 2) (v := .int .i64 (1 + r9)) (F := clF { c with tr := 1 + r9 }) rfl rfl rfl (k17.row Rgc.out) (by decide) info_i1 rfl (cl_tr { c with tr := t } (1 + r9)) ?_
                            intro W17 hR17 hO17 rr17
                            refine hK _ _ ?_
                            clear hK K
                            refine wpList_end rfl ?_
                            simp only [Act.put, List.setIfInBounds_toArray, List.set_cons_zero, List.set_cons_succ]
                            go_simp
                            replace HPA := Lib.hid ((HPA.out.new k17).of hR17.size fun k h1 h2 => hO17 k (by have h_0 := HG.out; have h_1 := HLO.out; omega))
                            replace Rgk := Lib.hid (row_of (hO17 gk (by have h_0 := HG.out; have h_1 := HLO.out; omega)) (k17.row Rgk.out))
                            replace HM := Lib.hid (NewT.rt (NewT.trans _ _ _ HM.out k17) hR17 (by have h_0 := HG.out; have h_1 := HLO.out; omega))
                            replace Rgc := Lib.hid rr17
                            clear k17 hR17 hO17 rr17
                            have HI9 := Lib.hid (HCI.out (1 + r9) (by have := HN9.out; omega) (by have := HN9.out; omega))
                            have HX9 : Hid (takeC kf ps ws need n (rotE e) [e1] { c with tr := 1 + r9 } (r2 == 0) = ansC kf ps ws need (rotE e) { c with tr := 1 + r9 } true) := Lib.hid (by unfold takeC; rw [if_pos HI9.out, again_good2 HEL.out { c with tr := 1 + r9 } rfl rfl rfl])
                            have HL9 : Hid (takeL n [e1] { c with tr := 1 + r9 } (r2 == 0) = [e1]) := Lib.hid (by unfold takeL; rw [if_pos HI9.out]; exact keep_has _ _ _ (by show (hasE [e1] c.saga c.step c.back).isSome = true; rw [HEL.out]; rfl))
                            have HHD : Hid (holdsB kf ps ws need (recC (ansC kf ps ws need (rotE e) { c with tr := 1 + r9 } true) 1) = true) := Lib.hid (holds_ans HI9.out HKN.out HEB.out (by decide))
                            go_upto_region 17 with fail
                            have HPW : Hid (hi ≤ W17.heap.size) := Lib.hid HPA.out.lt.2.2
                            have HSZ : Hid (lo ≤ W17.heap.size) := Lib.hid (by have := HPA.out.lt; omega)
                            have HTW := Lib.hid (HM.out.tables HTT.out)
                            refine wp_region_relyL (PW W17 lo hi) (JL 8 12 13 13 (fun w => PartAt w lo hi gp n (rotE e) ps ws need [e1]) (fun w => PartAt w lo hi gp n (rotE e) ps ws need [e1]) W17 34 41 (clF (ansC kf ps ws need (rotE e) { c with tr := 1 + r9 } true))) [SV.eq (.pointer (some ⟨gp, 0, none⟩)), SV.eq (.agg (rowA 41 (clF ({ c with tr := 1 + r9 })))), SV.eq ((.slice (some ⟨tb, to_, none⟩) l.length tc)), SV.eq (.int .i64 ((k : Int))), SV.eq (.pointer (some ⟨tb, to_ + k, none⟩)), SV.eq ((.int .u8 bz)), SV.eq ((.int .u8 r2)), SV.eq (.bool (r2 == 0)), SV.eq ((.tuple #[.agg (rowA 41 (clF (ansC kf ps ws need (rotE e) { c with tr := 1 + r9 } true))), .bool true])), SV.eq ((.tuple #[.agg (rowA 41 (clF (ansC kf ps ws need (rotE e) { c with tr := 1 + r9 } true))), .bool true])), SV.eq (.agg (rowA 41 (clF (ansC kf ps ws need (rotE e) { c with tr := 1 + r9 } true)))), SV.eq (.bool true), svPtV, SV.any] [([(9, none)], none), ([(6, none)], none), ([(3, none)], none), ([(12, none)], none), ([(80, some 2), (81, some 3)], none), ([(82, some 4)], none), ([(83, some 5)], none), ([(84, some 6)], none), ([(78, some 0), (79, some 1), (85, some 7)], none), ([(86, some 8)], none), ([(77, some 9)], none), ([(77, some 9)], none), ([], none), ([(13, some 12), (87, some 10)], none)] 123 rfl (by kernel_rfl) rfl (by kernel_rfl) (by kernel_rfl) rfl PW.trans (PW.drew _) (JL.start (HPA.out.drew) _) (Nat.le_of_ble_eq_true rfl) ⟨?_, ?_, ?_, ?_, ?_, ?_, ?_, ?_, ?_, ?_, ?_, ?_, ?_, ?_, trivial⟩ ?_
                            · exact fun a wx li hT hF hJ hx K hK => have hK := fun v w' (hN : NewT wx w') hv => hK v w' (PW.new hT hN HSZ.out) (JL.new hJ (by decide) (by simp) hN (fun h => PartAt.new h hN) (fun h => PartAt.new h hN)) hv; rely_wp rfl (opr_move (.inl rfl) (hK _ _ (NewT.refl _) hF.1))
                            · exact fun a wx li hT hF hJ hx K hK => have hK := fun v w' (hN : NewT wx w') hv => hK v w' (PW.new hT hN HSZ.out) (JL.new hJ (by decide) (by simp) hN (fun h => PartAt.new h hN) (fun h => PartAt.new h hN)) hv; rely_wp rfl (opr_ldCl (hT.row Rgc.out (by have h_0 := HG.out; have h_1 := HLO.out; omega)) rfl hF.1 (hK _ _ (NewT.refl _) rfl))
                            · exact fun a wx li hT hF hJ hx K hK => have hK := fun v w' (hN : NewT wx w') hv => hK v w' (PW.new hT hN HSZ.out) (JL.new hJ (by decide) (by simp) hN (fun h => PartAt.new h hN) (fun h => PartAt.new h hN)) hv; rely_wp rfl (opr_move (.inl rfl) (hK _ _ (NewT.refl _) hF.1))
                            · exact fun a wx li hT hF hJ hx K hK => have hK := fun v w' (hN : NewT wx w') hv => hK v w' (PW.new hT hN HSZ.out) (JL.new hJ (by decide) (by simp) hN (fun h => PartAt.new h hN) (fun h => PartAt.new h hN)) hv; rely_wp rfl (opr_move (.inl rfl) (hK _ _ (NewT.refl _) hF.1))
                            · exact fun a wx li hT hF hJ hx K hK => have hK := fun v w' (hN : NewT wx w') hv => hK v w' (PW.new hT hN HSZ.out) (JL.new hJ (by decide) (by simp) hN (fun h => PartAt.new h hN) (fun h => PartAt.new h hN)) hv; rely_wp rfl (opr_idxB8 HKL.out rfl rfl hF.1 hF.2.1 (hK _ _ (NewT.refl _) rfl))
                            · exact fun a wx li hT hF hJ hx K hK => have hK := fun v w' (hN : NewT wx w') hv => hK v w' (PW.new hT hN HSZ.out) (JL.new hJ (by decide) (by simp) hN (fun h => PartAt.new h hN) (fun h => PartAt.new h hN)) hv; rely_wp rfl (opr_ld1 Tryd.underlying5 rfl rfl hF.1 ((hT.cell (o := to_ + k) ((HM.out.out.cell (cell_lt HCC.out)).trans HCC.out) (.inl (Nat.lt_of_lt_of_le (cell_lt HCC.out) HLO.out.2.2.2.2)))) (hK _ _ (NewT.refl _) rfl))
                            · exact fun a wx li hT hF hJ hx K hK => have hK := fun v w' (hN : NewT wx w') hv => hK v w' (PW.new hT hN HSZ.out) (JL.new hJ (by decide) (by simp) hN (fun h => PartAt.new h hN) (fun h => PartAt.new h hN)) hv; rely_wp rfl (opr_remB HBZ.out (by omega) HR2.out rfl hF.1 (hK _ _ (NewT.refl _) rfl))
                            · exact fun a wx li hT hF hJ hx K hK => have hK := fun v w' (hN : NewT wx w') hv => hK v w' (PW.new hT hN HSZ.out) (JL.new hJ (by decide) (by simp) hN (fun h => PartAt.new h hN) (fun h => PartAt.new h hN)) hv; rely_wp rfl (opr_eqlB (b := r2 == 0) rfl rfl hF.1 rfl (hK _ _ (NewT.refl _) rfl))
                            · intro a wx li hT hF hJ hx K hK
                              obtain ⟨f78, f79, f85, _⟩ := hF
                              have f78 : a.tmps.getD 78 undef = .pointer (some ⟨gp, 0, none⟩) := f78
                              have f79 : a.tmps.getD 79 undef = .agg (rowA 41 (clF ({ c with tr := 1 + r9 }))) := f79
                              have f85 : a.tmps.getD 85 undef = .bool (r2 == 0) := f85
                              refine rely_wp rfl ?_
                              refine opr_call rfl Tryd.func13 (by kernel_rfl) (by kernel_rfl) (vs := #[.pointer (some ⟨gp, 0, none⟩), .agg (rowA 41 (clF ({ c with tr := 1 + r9 }))), .bool (r2 == 0)]) (by simp only [List.map_toArray, List.map_cons, List.map_nil, eval_tmp, f78, f79, f85]) ((Take_k hX wx (hT.tables HTW.out HLO.out.1) HLO.out.1 (hJ.pre hx.no) HI9.out HX9.out HL9.out).mono ?_)
                              rintro ex w4 ⟨rfl, hP4, hA4⟩
                              exact ⟨_, rfl, hK _ _ (hT.pt hP4) (JL.call hJ hx (by decide) (by simp) hA4 (fun b F hb hr => hP4.row hr (.inr (Nat.le_trans HPW.out hb)))) rfl⟩
                            · exact fun a wx li hT hF hJ hx K hK => have hK := fun v w' (hN : NewT wx w') hv => hK v w' (PW.new hT hN HSZ.out) (JL.new hJ (by decide) (by simp) hN (fun h => PartAt.new h hN) (fun h => PartAt.new h hN)) hv; rely_wp rfl (opr_move (.inl rfl) (hK _ _ (NewT.refl _) hF.1))
                            · exact fun a wx li hT hF hJ hx K hK => have hK := fun v w' (hN : NewT wx w') hv => hK v w' (PW.new hT hN HSZ.out) (JL.new hJ (by decide) (by simp) hN (fun h => PartAt.new h hN) (fun h => PartAt.new h hN)) hv; rely_wp rfl (opr_ext rfl hF.1 rfl (hK _ _ (NewT.refl _) rfl))
                            · exact fun a wx li hT hF hJ hx K hK => have hK := fun v w' (hN : NewT wx w') hv => hK v w' (PW.new hT hN HSZ.out) (JL.new hJ (by decide) (by simp) hN (fun h => PartAt.new h hN) (fun h => PartAt.new h hN)) hv; rely_wp rfl (opr_ext rfl hF.1 rfl (hK _ _ (NewT.refl _) rfl))
                            · intro a wx li hT hF hJ hx K hK
                              refine rely_wp rfl ?_
                              refine opr_allocV rfl run_alloc_cl ?_
                              exact hK _ _ (PW.new hT (NewT.alloc _ _) HSZ.out) (JL.alloc hJ hx (by decide) hT.below.size (fun h => PartAt.new h (NewT.alloc _ _)) (fun h => PartAt.new h (NewT.alloc _ _))) ⟨_, rfl⟩
                            · intro a wx li hT hF hJ hx K hK
                              obtain ⟨f13, f87, _⟩ := hF
                              replace f13 := show (svPtV).pred (a.tmps.getD 13 undef) wx from f13
                              have f87 : a.tmps.getD 87 undef = .agg (rowA 41 (clF (ansC kf ps ws need (rotE e) { c with tr := 1 + r9 } true))) := f87
                              refine rely_wp rfl ?_
                              obtain ⟨bv, hbv⟩ := f13
                              obtain ⟨hb2, F0, hb3, _⟩ := hJ.var (hx.waits 12 (by kernel_rfl)) bv hbv
                              refine opr_putmB (g := bv) (o0 := 0) (m := 41) (f := clF (ansC kf ps ws need (rotE e) { c with tr := 1 + r9 } true)) (F := clF (ansC kf ps ws need (rotE e) { c with tr := 1 + r9 } true)) rfl hbv f87 hb3 (by decide) info_cl (clF_one _) (put_allN _ _ _) ?_
                              intro w' hR hO hr2
                              exact hK _ _ (hT.store hb2 HSZ.out hR) (JL.store hJ hx (by decide) (hx.waits 12 (by kernel_rfl)) hbv hb2 hr2 (fun h => h.of hR.size fun k _ hk => hO k (by have := h.lt; omega) (by have := HPW.out; omega)) (fun h => h.of hR.size fun k _ hk => hO k (by have := h.lt; omega) (by have := HPW.out; omega))) trivial
                            · intro w18 k18
                              iterate 12 (intro u h; obtain rfl := Eq.symm (h (by simp)); clear h)
                              intro u h; obtain ⟨p13, hv⟩ := (h (by simp)); clear h; subst hv
                              intro _ _
                              refine relyEnd_nil rfl ?_
                              intro hJ
                              simp only [Act.put, List.setIfInBounds_toArray, List.set_cons_zero, List.set_cons_succ]
                              obtain ⟨hBw, hbz, hrz⟩ := JL.at (g := p13) hJ (by decide) (by kernel_rfl)
                              refine opr_move (.inr rfl) ?_
                              go_simp
                              clear hJ
                              obtain ⟨gb, h_gb⟩ : ∃ g_, p13 = g_ := ⟨_, rfl⟩
                              rw [h_gb] at hbz hrz
                              simp only [h_gb]
                              clear h_gb
                              have HGgb : Hid (gk < gb ∧ gc < gb ∧ hi ≤ gb ∧ w.heap.size ≤ gb) := Lib.hid ⟨Nat.lt_of_lt_of_le Rgk.out.lt hbz, Nat.lt_of_lt_of_le Rgc.out.lt hbz, Nat.le_trans HPA.out.lt.2.2 hbz, Nat.le_trans HM.out.out.size hbz⟩
                              replace Rgk := Lib.hid (k18.row Rgk.out (by have h_0 := HG.out; have h_1 := HLO.out; omega))
                              replace Rgc := Lib.hid (k18.row Rgc.out (by have h_0 := HG.out; have h_1 := HLO.out; omega))
                              replace HM := Lib.hid (NewT.of (HM.out.out.trans (k18.below.mono (by have h_0 := HG.out; have h_1 := HLO.out; omega))))
                              replace HPA := Lib.hid hBw
                              have Rgb := Lib.hid hrz
                              clear hrz hBw hbz k18 HPW HSZ HTW
                              go_upto_region 18 with fail
                              refine wp_region_rely (NewT) [SV.eq (.bool true), SV.eq (.bool false), SV.eq (.bool false), SV.eq (.pointer (some ⟨gb, 7, none⟩)), SV.eq (.bool true), SV.eq (.bool false), SV.eq (.bool false), SV.eq (.bool false), SV.eq (.pointer (some ⟨gb, 2, none⟩)), SV.eq (.int .i64 (1 + r9)), SV.eq (.pointer (some ⟨gc, 2, none⟩)), SV.eq (.int .i64 (1 + r9)), SV.eq (.bool false), SV.eq (.bool false), SV.eq (.bool false), SV.eq (.pointer (some ⟨gb, 8, none⟩)), SV.eq (.int .i64 ((rotE e))), SV.eq (.pointer (some ⟨gp, 0, none⟩)), SV.eq (.int .i64 ((rotE e))), SV.eq (.bool false), SV.eq (.bool false), SV.eq (.bool false), SV.eq (.pointer (some ⟨gp, 0, none⟩)), svL 4 eyE ([e1]), SV.eq (.int .i64 ((List.length ([e1]) : Int))), SV.eq (.bool false), SV.eq (.bool false), SV.eq (.bool false), SV.eq (.agg (rowA 3 (keyF pv wv need))), SV.eq (.agg (rowA 41 (clF (ansC kf ps ws need (rotE e) { c with tr := 1 + r9 } true)))), svRec (recC (ansC kf ps ws need (rotE e) { c with tr := 1 + r9 } true) 1), SV.eq (.bool true), SV.eq (.bool false)] [([(14, none)], none), ([(89, some 0)], none), ([(90, some 1)], none), ([(13, none), (91, some 2)], some (91, false)), ([(92, some 3), (91, some 2)], some (91, false)), ([(93, some 4), (91, some 2)], some (91, false)), ([(91, some 2), (94, some 5)], none), ([(95, some 6)], none), ([(13, none), (96, some 7)], some (96, false)), ([(97, some 8), (96, some 7)], some (96, false)), ([(6, none), (96, some 7)], some (96, false)), ([(99, some 10), (96, some 7)], some (96, false)), ([(98, some 9), (100, some 11), (96, some 7)], some (96, false)), ([(96, some 7), (101, some 12)], none), ([(102, some 13)], none), ([(13, none), (103, some 14)], some (103, false)), ([(104, some 15), (103, some 14)], some (103, false)), ([(9, none), (103, some 14)], some (103, false)), ([(106, some 17), (103, some 14)], some (103, false)), ([(105, some 16), (107, some 18), (103, some 14)], some (103, false)), ([(103, some 14), (108, some 19)], none), ([(109, some 20)], none), ([(9, none), (110, some 21)], some (110, false)), ([(111, some 22), (110, some 21)], some (110, false)), ([(112, some 23), (110, some 21)], some (110, false)), ([(113, some 24), (110, some 21)], some (110, false)), ([(110, some 21), (114, some 25)], none), ([(115, some 26)], none), ([(4, none), (116, some 27)], some (116, false)), ([(13, none), (116, some 27)], some (116, false)), ([(118, some 29), (116, some 27)], some (116, false)), ([(117, some 28), (119, some 30), (116, some 27)], some (116, false)), ([(120, some 31), (116, some 27)], some (116, false))] 123 rfl (by kernel_rfl) rfl (by kernel_rfl) (by kernel_rfl) rfl NewT.trans (NewT.drew _) (Nat.le_of_ble_eq_true rfl) ⟨?_, ?_, ?_, ?_, ?_, ?_, ?_, ?_, ?_, ?_, ?_, ?_, ?_, ?_, ?_, ?_, ?_, ?_, ?_, ?_, ?_, ?_, ?_, ?_, ?_, ?_, ?_, ?_, ?_, ?_, ?_, ?_, ?_, trivial⟩ ?_
                              · exact fun a wx hT hF K hK => rely_wp rfl (opr_move (.inl rfl) (hK _ _ (NewT.refl _) hF.1))
                              · exact fun a wx hT hF K hK => rely_wp rfl (opr_not rfl hF.1 (hK _ _ (NewT.refl _) rfl))
                              · exact fun a wx hT hF K hK => rely_wp rfl (opr_move (.inl rfl) (hK _ _ (NewT.refl _) hF.1))
                              · exact fun a wx hT hF K hK => rely_wp (rely_guard hF.2.1) (opr_fldCl7 rfl hF.1 (hK _ _ (NewT.refl _) rfl))
                              · exact fun a wx hT hF K hK => rely_wp (rely_guard hF.2.1) (opr_ldQ (hT.row Rgb.out) (by decide) rfl rfl hF.1 (hK _ _ (NewT.refl _) rfl))
                              · exact fun a wx hT hF K hK => rely_wp (rely_guard hF.2.1) (opr_not rfl hF.1 (hK _ _ (NewT.refl _) rfl))
                              · exact fun a wx hT hF K hK => rely_wp rfl (opr_pick_false rfl hF.1 (hK _ _ (NewT.refl _) hF.2.1))
                              · exact fun a wx hT hF K hK => rely_wp rfl (opr_move (.inl rfl) (hK _ _ (NewT.refl _) hF.1))
                              · exact fun a wx hT hF K hK => rely_wp (rely_guard hF.2.1) (opr_fldCl2 rfl hF.1 (hK _ _ (NewT.refl _) rfl))
                              · exact fun a wx hT hF K hK => rely_wp (rely_guard hF.2.1) (opr_ldI (hT.row Rgb.out) (by decide) rfl rfl hF.1 (hK _ _ (NewT.refl _) rfl))
                              · exact fun a wx hT hF K hK => rely_wp (rely_guard hF.2.1) (opr_fldCl2 rfl hF.1 (hK _ _ (NewT.refl _) rfl))
                              · exact fun a wx hT hF K hK => rely_wp (rely_guard hF.2.1) (opr_ldI (hT.row Rgc.out) (by decide) rfl rfl hF.1 (hK _ _ (NewT.refl _) rfl))
                              · exact fun a wx hT hF K hK => rely_wp (rely_guard hF.2.2.1) (opr_cmp (b := false) (.inr (.inl ⟨rfl, (by exact bne_self_eq_false _)⟩)) Tryd.underlying3 rfl hF.1 hF.2.1 (hK _ _ (NewT.refl _) rfl))
                              · exact fun a wx hT hF K hK => rely_wp rfl (opr_pick_false rfl hF.1 (hK _ _ (NewT.refl _) hF.2.1))
                              · exact fun a wx hT hF K hK => rely_wp rfl (opr_move (.inl rfl) (hK _ _ (NewT.refl _) hF.1))
                              · exact fun a wx hT hF K hK => rely_wp (rely_guard hF.2.1) (opr_fldCl8 rfl hF.1 (hK _ _ (NewT.refl _) rfl))
                              · exact fun a wx hT hF K hK => rely_wp (rely_guard hF.2.1) (opr_ldI (hT.row Rgb.out) (by decide) rfl rfl hF.1 (hK _ _ (NewT.refl _) rfl))
                              · exact fun a wx hT hF K hK => rely_wp (rely_guard hF.2.1) (opr_move (.inl rfl) (hK _ _ (NewT.refl _) hF.1))
                              · exact fun a wx hT hF K hK => rely_wp (rely_guard hF.2.1) (opr_cv (Epoch_a wx (HPA.out.new hT)) rfl Tryd.func15 (by kernel_rfl) (by kernel_rfl) (evs1 hF.1) hK)
                              · exact fun a wx hT hF K hK => rely_wp (rely_guard hF.2.2.1) (opr_cmp (b := false) (.inr (.inl ⟨rfl, (by exact bne_self_eq_false _)⟩)) Tryd.underlying3 rfl hF.1 hF.2.1 (hK _ _ (NewT.refl _) rfl))
                              · exact fun a wx hT hF K hK => rely_wp rfl (opr_pick_false rfl hF.1 (hK _ _ (NewT.refl _) hF.2.1))
                              · exact fun a wx hT hF K hK => rely_wp rfl (opr_move (.inl rfl) (hK _ _ (NewT.refl _) hF.1))
                              · exact fun a wx hT hF K hK => rely_wp (rely_guard hF.2.1) (opr_move (.inl rfl) (hK _ _ (NewT.refl _) hF.1))
                              · exact fun a wx hT hF K hK => rely_wp (rely_guard hF.2.1) (opr_cv (Entries_L wx (HPA.out.new hT) (by have := HLL.out; omega)) rfl Tryd.func16 (by kernel_rfl) (by kernel_rfl) (evs1 hF.1) hK)
                              · exact fun a wx hT hF K hK => rely_wp (rely_guard hF.2.1) (opr_lenL rfl entEl hF.1 (hK _ _ (NewT.refl _) rfl))
                              · exact fun a wx hT hF K hK => rely_wp (rely_guard hF.2.1) (opr_cmp (b := false) (.inr (.inl ⟨rfl, (by rfl)⟩)) Tryd.underlying3 rfl hF.1 rfl (hK _ _ (NewT.refl _) rfl))
                              · exact fun a wx hT hF K hK => rely_wp rfl (opr_pick_false rfl hF.1 (hK _ _ (NewT.refl _) hF.2.1))
                              · exact fun a wx hT hF K hK => rely_wp rfl (opr_move (.inl rfl) (hK _ _ (NewT.refl _) hF.1))
                              · exact fun a wx hT hF K hK => rely_wp (rely_guard hF.2.1) (opr_ldY (hT.row Rgk.out) rfl hF.1 (hK _ _ (NewT.refl _) rfl))
                              · exact fun a wx hT hF K hK => rely_wp (rely_guard hF.2.1) (opr_ldCl (hT.row Rgb.out) rfl hF.1 (hK _ _ (NewT.refl _) rfl))
                              · exact fun a wx hT hF K hK => rely_wp (rely_guard hF.2.1) (opr_cv (pReceipt_cv (ansC kf ps ws need (rotE e) { c with tr := 1 + r9 } true) 1 wx) rfl Tryd.func20 (by kernel_rfl) (by kernel_rfl) (evs2 hF.1 rfl) hK)
                              · exact fun a wx hT hF K hK => rely_wp (rely_guard hF.2.2.1) (opr_cv (HHD.out ▸ Holds_cv hX _ _ ps ws need (recC (ansC kf ps ws need (rotE e) { c with tr := 1 + r9 } true) 1) wx ((NewT.trans _ _ _ HM.out hT).tables HTT.out) (⟨pv, wv, rfl, (NewT.trans _ _ _ HM.out hT).hs HPP.out, (NewT.trans _ _ _ HM.out hT).hs HWW.out⟩ : KeysV wx (.agg (rowA 3 (keyF pv wv need))) ps ws need) hF.2.1) rfl Tryd.func22 (by kernel_rfl) (by kernel_rfl) (evs2 hF.1 rfl) hK)
                              · exact fun a wx hT hF K hK => rely_wp (rely_guard hF.2.1) (opr_not rfl hF.1 (hK _ _ (NewT.refl _) rfl))
                              · intro w19 k19
                                iterate 23 (intro u h; obtain rfl := Eq.symm (h (by simp)); clear h)
                                intro _ _
                                iterate 6 (intro u h; obtain rfl := Eq.symm (h (by simp)); clear h)
                                intro _ _
                                iterate 2 (intro u h; obtain rfl := Eq.symm (h (by simp)); clear h)
                                refine relyEnd_nil rfl ?_
                                simp only [Act.put, List.setIfInBounds_toArray, List.set_cons_zero, List.set_cons_succ]
                                refine opr_pick_false rfl rfl ?_
                                go_simp
                                replace Rgk := Lib.hid (k19.row Rgk.out)
                                replace Rgc := Lib.hid (k19.row Rgc.out)
                                replace Rgb := Lib.hid (k19.row Rgb.out)
                                replace HPA := Lib.hid (HPA.out.new k19)
                                replace HM := Lib.hid (NewT.trans _ _ _ HM.out k19)
                                clear k19
                                have hk2 := HGE.out
                                have hk3 := HLE.out
                                go_wp2
                                go_roundw
                                case rel => exact ⟨k + 1, (rotE e), 1 + r9, by omega, by go_num, by first | exact HM | trivial, by first | exact HPA | trivial, by first | exact HEB | trivial, by first | exact Rgk | trivial, by first | exact Rgc | trivial⟩
                                case measure => simp [intOf]; omega
      · clear hb
        go_wp2
        go_ret
        exact ⟨rfl, HM.out.out⟩
end Go.Proofs.YtchpmdcacpjojaaDoor
/- The two tables, out of the rows' own condition; the row's last step where the world has new blocks alone; the shapes of the arguments. -/
namespace Go.Proofs.YtchpmdcacpjojaaDoor
open Go.ChangeShapes Go.WideShapes Go.ChangeAt Go.WideMaps Go.WideElems Go.RowKit
set_option maxRecDepth 8000
set_option linter.all false

theorem gK : Tryd.prog.globalNamed "inspeximus/api.K" = some 1 := by kernel_rfl
theorem gF : Tryd.prog.globalNamed "inspeximus/api.First" = some 0 := by kernel_rfl
theorem tK : (Tryd.prog.globals[1]?).map (·.type) = some 126 := by kernel_rfl
theorem tF : (Tryd.prog.globals[0]?).map (·.type) = some 117 := by kernel_rfl
def laid2 : List (String × DataW Unit) := [("inspeximus/api.K", Rows.laid_inspeximus_api_K), ("inspeximus/api.First", Rows.laid_inspeximus_api_First)]
def kInts : List Int := kTab.map fun (n : Nat) => (n : Int)
def fInts : List Int := fTab.map fun (n : Nat) => (n : Int)
theorem tables_of_laid {W : World} (h : laidMetH Tryd.prog laid2 W) : Tables W := by
  rw [MakeChecks.laidMetH_plain _ _ _ (by kernel_rfl)] at h
  have hK : Lib.TabIs Tryd.prog W "inspeximus/api.K" .u32 kInts := Lib.tabIs_of_head gK tK Tryd.underlying126 Tryd.underlying116 (by kernel_rfl) (by kernel_rfl) h
  have hF : Lib.TabIs Tryd.prog W "inspeximus/api.First" .u32 fInts := Lib.tabIs_of_head gF tF Tryd.underlying117 Tryd.underlying116 (by kernel_rfl) (by kernel_rfl) (laidMet.tail h)
  have hs : 1 < W.heap.size := World.block_lt_of_cell? _ _ (hK.cell gK 0 (by decide))
  refine ⟨hs, fun i hi => ?_, fun i hi => ?_⟩
  · rw [hK.cell gK i (by simpa [kInts, kTab] using hi)]
    have h : ∀ i : Fin 64, kInts.getD i.val 0 = uN (Kc i.val) := by decide +kernel
    rw [h ⟨i, hi⟩]
  · rw [hF.cell gF i (by simpa [fInts, fTab] using hi)]
    have h : ∀ i : Fin 8, fInts.getD i.val 0 = uN (Fc i.val) := by decide +kernel
    rw [h ⟨i, hi⟩]
/-- The door's own heap meets the condition. -/
theorem door_met (os : Os) (args : Array Value) : laidMetH Tryd.prog laid2 ((World.doorLaid Tryd.prog 400 os).forCall (fun _ _ => 0) ⟨#[], args, []⟩).memory :=
  laidMetH_of_parts3 (fuel := 8) (laidMet_of_run' 8 (by kernel_rfl) (by kernel_rfl)) (by kernel_rfl) (by kernel_rfl)
end Go.Proofs.YtchpmdcacpjojaaDoor
/- (all of it lies in EP now) -/
/- The laws' arguments, opened: arrays of numbers by value, slices of bytes. -/
namespace Go.Proofs.YtchpmdcacpjojaaDoor
open Go.ChangeShapes Go.WideShapes Go.ChangeAt Go.WideMaps Go.WideElems Go.RowKit
set_option maxRecDepth 8000
set_option linter.all false

end Go.Proofs.YtchpmdcacpjojaaDoor
/- Laws of five and of six arguments: each of them read. No program is named. -/
namespace Go.Proofs.YtchpmdcacpjojaaDoor
open Go Go.ChangeShapes Go.RowKit
set_option maxRecDepth 8000
set_option linter.all false
section
variable {H : Type} {enc : TypeId × Value → H} {P : Program} {w : World} {base : Nat} {spare : Nat → Bool} {held : Bool}
end
end Go.Proofs.YtchpmdcacpjojaaDoor
/- The laws' arguments, opened: keys and checkpoints by value. -/
namespace Go.Proofs.YtchpmdcacpjojaaDoor
open Go Go.ChangeShapes Go.WideShapes Go.ChangeAt Go.WideMaps Go.WideElems Go.RowKit
set_option maxRecDepth 8000
set_option linter.all false
theorem hashTy : HashTy Tryd.prog 32 5 := ⟨Tryd.underlying32, Tryd.underlying5, by kernel_rfl, by kernel_rfl⟩
theorem keysTy : ∃ f0 f1 f2, KeysTy Tryd.prog 24 32 5 f0 f1 f2 :=
  ⟨_, _, _, Tryd.underlying24, by kernel_rfl, rfl, rfl, rfl, Tryd.underlying22, Tryd.underlying22, Tryd.underlying3, by kernel_rfl, by kernel_rfl, by kernel_rfl, hashTy⟩
section
variable {H : Type} {enc : TypeId × Value → H} {w : World} {base : Nat} {spare : Nat → Bool} {held : Bool} {r : Reach} {b0 : Nat} {v : Value} {d : DataW H} {p : List MemPlace}
theorem open_keysA (hv : Value.okWide Tryd.prog w r b0 24 v) (h : DataW.Trod enc Tryd.prog w base spare held 24 v d p) : ∃ ps ws need, KeysV w v ps ws need ∧ (Lit.int .i64 need).wf = true := by
  obtain ⟨_, _, _, K⟩ := keysTy
  exact open_keys K hv h
end
end Go.Proofs.YtchpmdcacpjojaaDoor
/- Arguments that are calls, slices of calls, slices of acts, opened. -/
namespace Go.Proofs.YtchpmdcacpjojaaDoor
open Go Go.ChangeShapes Go.WideShapes Go.ChangeAt Go.WideMaps Go.WideElems Go.RowKit
set_option maxRecDepth 8000
set_option linter.all false
section
variable {H : Type} {enc : TypeId × Value → H} {w : World} {base : Nat} {spare : Nat → Bool} {held : Bool} {r : Reach} {b0 : Nat} {v : Value} {d : DataW H} {p : List MemPlace} {n : Nat} {cs : Array Value}
theorem call_of {fs : Array Field} (hs : Tryd.prog.underlying 34 = some (.struct fs)) (hsz : cs.size = 41) (hf : ∀ (i : Nat) (f : Field), fs[i]? = some f → ∃ y, DataW.trod enc Tryd.prog w base spare held n f.type ((cs.toList.drop f.offset).take (Tryd.prog.cellsOf f.type)) = some y) : ∃ c : Cl, cs = rowA 41 (clF c) := by
  rw [Tryd.underlying34] at hs
  cases hs
  obtain ⟨z0, e0, _⟩ := field_int (ty := 3) (o := 0) Tryd.underlying3 (by kernel_rfl) (hf 0 _ rfl)
  obtain ⟨z1, e1, _⟩ := field_int (ty := 3) (o := 1) Tryd.underlying3 (by kernel_rfl) (hf 1 _ rfl)
  obtain ⟨z2, e2, _⟩ := field_int (ty := 3) (o := 2) Tryd.underlying3 (by kernel_rfl) (hf 2 _ rfl)
  obtain ⟨z4, e4, _⟩ := field_int (ty := 3) (o := 4) Tryd.underlying3 (by kernel_rfl) (hf 4 _ rfl)
  obtain ⟨z5, e5, _⟩ := field_int (ty := 3) (o := 5) Tryd.underlying3 (by kernel_rfl) (hf 5 _ rfl)
  obtain ⟨z8, e8, _⟩ := field_int (ty := 3) (o := 8) Tryd.underlying3 (by kernel_rfl) (hf 8 _ rfl)
  obtain ⟨b3, e3⟩ := field_bool (ty := 4) (o := 3) Tryd.underlying4 (by kernel_rfl) (hf 3 _ rfl)
  obtain ⟨b6, e6⟩ := field_bool (ty := 4) (o := 6) Tryd.underlying4 (by kernel_rfl) (hf 6 _ rfl)
  obtain ⟨b7, e7⟩ := field_bool (ty := 4) (o := 7) Tryd.underlying4 (by kernel_rfl) (hf 7 _ rfl)
  obtain ⟨t, ht⟩ := field_hash (ty := 32) (o := 9) (m := 32) Tryd.underlying32 Tryd.underlying5 (by kernel_rfl) (by kernel_rfl) (hf 9 _ rfl)
  refine ⟨⟨z0, z1, z2, b3, z4, z5, b6, b7, z8, t⟩, ?_⟩
  apply Array.ext_getElem?
  intro i
  by_cases hi : i < 41
  · rw [rowA_at _ _ _ hi]
    by_cases h9 : i < 9
    · have : i = 0 ∨ i = 1 ∨ i = 2 ∨ i = 3 ∨ i = 4 ∨ i = 5 ∨ i = 6 ∨ i = 7 ∨ i = 8 := by omega
      rcases this with rfl | rfl | rfl | rfl | rfl | rfl | rfl | rfl | rfl <;> simpa [clF]
    · obtain ⟨j, rfl⟩ : ∃ j, i = 9 + j := ⟨i - 9, by omega⟩
      rw [clF_tag _ _ (by omega), ht j (by omega)]
      rfl
  · rw [Array.getElem?_eq_none (by omega), Array.getElem?_eq_none (by rw [rowA_size]; omega)]
/-- A call by value. -/
theorem open_callA (hv : Value.okWide Tryd.prog w r b0 34 v) (h : DataW.Trod enc Tryd.prog w base spare held 34 v d p) : ∃ c : Cl, v = .agg (rowA 41 (clF c)) := by
  obtain ⟨cs, n, rfl, hsz, hf⟩ := open_fields Tryd.underlying34 hv h
  obtain ⟨c, hc⟩ := call_of (enc := enc) (w := w) (base := base) (spare := spare) (held := held) Tryd.underlying34 (hsz.trans (by kernel_rfl)) hf
  exact ⟨c, by rw [hc]⟩
end
end Go.Proofs.YtchpmdcacpjojaaDoor
