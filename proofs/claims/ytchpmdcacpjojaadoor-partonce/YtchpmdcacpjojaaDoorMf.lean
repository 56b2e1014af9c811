/- The laws' question whether package part answers as the document's example: alive. -/
import Derived.Test.YtchpmdcacpjojaaDoorMe
import Derived.Test.YtchpmdcacpjojaaDoorMa
import Derived.Test.YtchpmdcacpjojaaDoorRows
import Derived.Test.YtchpmdcacpjojaaDoorMb
import Derived.ProofKit
import Derived.LaidMore
import Derived.OpenShut
import Derived.Stop.Joined
import Derived.Lib.LaidTab
import Derived.Stop.LaidErr
import Derived.Carry
import Derived.Test.YtchpmdcacpjojaaDoorMc
import Derived.Deep.Slices
set_option linter.all false
namespace Go.Proofs.YtchpmdcacpjojaaDoor
open Go Go.RowKit
set_option maxRecDepth 8000
set_option linter.all false
def exC : Cl := ⟨0, 0, 1, false, 1, 1, false, false, 0, z32⟩
def exD : Cl := ⟨0, 0, 1, false, 0, 1, false, false, 0, z32⟩
def exE0 : En := ⟨0, 0, false, true⟩
theorem bld_exC (w : World) : (Instr.build 34 #[(4, .int .i64 1), (5, .int .i64 1), (2, .int .i64 1)]).run Tryd.prog w = .ok (.agg (rowA 41 (clF exC))) w := by kernel_rfl
theorem bld_exD (w : World) : (Instr.build 34 #[(4, .int .i64 0), (5, .int .i64 1), (2, .int .i64 1)]).run Tryd.prog w = .ok (.agg (rowA 41 (clF exD))) w := by kernel_rfl
theorem ex_its : itsB 1 exC = true := by decide
theorem ex_no : itsB 1 exD = false := by decide
theorem ex_t1 (kf : Hs → List Int → Hs) (ps ws : List Hs) (need : Int) : takeC kf ps ws need 1 0 [] exC false = ansC kf ps ws need 0 exC true := by unfold takeC; rw [if_pos ex_its]; rfl
theorem ex_t2 (kf : Hs → List Int → Hs) (ps ws : List Hs) (need : Int) : takeC kf ps ws need 1 0 [exE0] exC true = ansC kf ps ws need 0 exC true := by unfold takeC; rw [if_pos ex_its]; rfl
theorem ex_t3 (kf : Hs → List Int → Hs) (ps ws : List Hs) (need : Int) : takeC kf ps ws need 1 0 [exE0] exD false = zC := by unfold takeC; rw [ex_no]; rfl
theorem ex_l1 : takeL 1 [] exC false = [exE0] := by unfold takeL; rw [if_pos ex_its]; rfl
theorem ex_l2 : takeL 1 [exE0] exC true = [exE0] := by unfold takeL; rw [if_pos ex_its]; rfl
theorem ex_l3 : takeL 1 [exE0] exD false = [exE0] := by unfold takeL; rw [ex_no]; rfl
theorem JL.ent {ic ia is p : Nat} {W : World} {t m : Nat} {G : Nat → Value} {li : Array Bool} {a : Act} {w : World} {lo hi g : Nat} {n e e2 : Int} {ps ws : List Hs} {need : Int} {L : List En} (h : JL ic ia is p (fun w => PartAt w lo hi g n e ps ws need L) (fun w => PartAt w lo hi g n e2 ps ws need L) W t m G li a w) : ∃ e', PartAt w lo hi g n e' ps ws need L := by
  cases hc : li.getD ic false with
  | false => exact ⟨_, h.pre hc⟩
  | true => exact ⟨_, h.post hc⟩
set_option maxHeartbeats 4000000 in
theorem alive13_any {kf : Hs → List Int → Hs} {tg : Hs → Hs → Hs} {pf : Int → Hs → Hs} (hX : KeyH kf tg pf) (w : World) (hT : Tables w) : Cv 9 #[] w (.eq (.bool true)) := by
  unfold Cv
  have HTT := Lib.hid hT
  have hfew := Few_cv
  have h1 : hasB [oneH 1, oneH 2] [oneH 3, oneH 4, oneH 5] 2 1 0 = true := by decide
  have h2 : hasB [oneH 1, oneH 2] [oneH 3, oneH 4, oneH 5] 2 2 0 = false := by decide
  obtain ⟨ps, hps⟩ : ∃ x, x = [oneH 1, oneH 2] := ⟨_, rfl⟩
  obtain ⟨ws, hws⟩ : ∃ x, x = [oneH 3, oneH 4, oneH 5] := ⟨_, rfl⟩
  rw [← hps, ← hws] at hfew h1 h2
  have HFEW := Lib.hid hfew
  have HK1 := Lib.hid h1
  have HK2 := Lib.hid h2
  have HH1 : Hid (holdsB kf ps ws 2 (recC (ansC kf ps ws 2 0 exC true) 2) = true) := Lib.hid (holds_ans ex_its h1 (by decide) (by decide))
  clear hT hfew h1 h2 hps hws
  go_enter Tryd.func9, Tryd.ntmps9
  have HM := Lib.hid (NewT.refl w)
  go_upto_region 1 with fail
  go_upto_region 1 with fail
  refine wp_region_steps0 NewT [svKeys ps ws 2] [([], none)] 78 1 rfl rfl (by kernel_rfl) NewT.trans (NewT.refl _) (Nat.le_of_ble_eq_true rfl) ⟨?_, trivial⟩ ?_
  · exact fun a wx hT hF K hK => rely_wp rfl (opr_cv (HFEW.out wx) rfl Tryd.func23 (by kernel_rfl) (by kernel_rfl) evs0 hK)
  · intro w1 k1
    intro u10 h; have g10 := h (by simp); clear h; replace g10 := show (svKeys ps ws 2).pred u10 w1 from g10
    refine relyEnd_nil rfl ?_
    simp only [Act.put, List.setIfInBounds_toArray, List.set_cons_zero, List.set_cons_succ]
    obtain ⟨pv, wv, hv10, hpv, hwv⟩ := g10
    subst hv10
    refine wpList_new (n := 3) (f := keyF pv wv 2) rfl rfl rfl rfl rfl rfl (by first | (simp; done) | simp [Act.put]) run_alloc_ky info_ky (keyF_one hpv hwv) rfl ?_
    intro W1 hn1 rr1
    refine wpList_end rfl ?_
    simp only [Act.put, List.setIfInBounds_toArray, List.set_cons_zero, List.set_cons_succ]
    go_simp
    have HP := Lib.hid (hn1.hs hpv)
    have HW := Lib.hid (hn1.hs hwv)
    have HBW := Lib.hid (NewT.trans _ _ _ HM.out (NewT.trans _ _ _ k1 hn1))
    clear hpv hwv
    obtain ⟨gk, h_gk⟩ : ∃ g_, w1.heap.size = g_ := ⟨_, rfl⟩
    rw [h_gk] at rr1
    simp only [h_gk]
    have HGgk : Hid (w.heap.size ≤ gk) := Lib.hid (by rw [← h_gk]; exact (NewT.trans _ _ _ HM.out k1).out.size)
    have q1 := NewT.trans _ _ _ k1 hn1
    clear k1 hn1 h_gk
    replace HM := Lib.hid (NewT.trans _ _ _ HM.out q1)
    clear q1
    have Rgk := Lib.hid rr1
    clear rr1
    replace HTT := Lib.hid (HBW.out.tables HTT.out)
    replace HM := Lib.hid (NewT.refl W1)
    have HGK : Hid (gk < W1.heap.size ∧ 2 ≤ W1.heap.size) := Lib.hid ⟨Rgk.out.lt, HTT.out.size⟩
    clear HGgk
    go_upto_region 2 with fail
    refine wp_region_steps0 NewT [SV.eq (.agg (rowA 3 (keyF pv wv 2))), svPart W1.heap.size 1 ps ws 2, svPart W1.heap.size 1 ps ws 2] [([(1, none)], none), ([(11, some 0)], none), ([(12, some 1)], none)] 78 3 rfl rfl (by kernel_rfl) NewT.trans (NewT.refl _) (Nat.le_of_ble_eq_true rfl) ⟨?_, ?_, ?_, trivial⟩ ?_
    · exact fun a wx hT hF K hK => rely_wp rfl (opr_ldY (hT.row Rgk.out) rfl hF.1 (hK _ _ (NewT.refl _) rfl))
    · exact fun a wx hT hF K hK => rely_wp rfl (opr_cv (New_yes W1.heap.size _ ps ws 2 1 wx (NewT.trans _ _ _ HM.out hT).out.size (⟨pv, wv, rfl, (NewT.trans _ _ _ HM.out hT).hs HP.out, (NewT.trans _ _ _ HM.out hT).hs HW.out⟩ : KeysV wx (.agg (rowA 3 (keyF pv wv 2))) ps ws 2) HK1.out) rfl Tryd.func11 (by kernel_rfl) (by kernel_rfl) (evs2 hF.1 rfl) hK)
    · exact fun a wx hT hF K hK => rely_wp rfl (opr_move (.inr rfl) (hK _ _ (NewT.refl _) hF.1))
    · intro w2 k2
      intro u h; obtain rfl := Eq.symm (h (by simp)); clear h
      intro _ _
      intro u2 h; have g2 := h (by simp); clear h; replace g2 := show (svPart W1.heap.size 1 ps ws 2).pred u2 w2 from g2
      refine relyEnd_nil rfl ?_
      refine wpList_end rfl ?_
      simp only [Act.put, List.setIfInBounds_toArray, List.set_cons_zero, List.set_cons_succ]
      go_simp
      obtain ⟨gp, hi, hv2, hPA⟩ := g2
      subst hv2
      obtain ⟨lo, hlo⟩ : ∃ x, W1.heap.size = x := ⟨_, rfl⟩
      have HLO : Hid (2 ≤ lo ∧ gk < lo ∧ lo ≤ hi ∧ W1.heap.size = lo) := Lib.hid (by have h1 := HGK.out; have h2 := hPA.lt; omega)
      rw [hlo] at hPA
      have HPA := Lib.hid hPA
      clear hPA hlo
      replace Rgk := Lib.hid (k2.row Rgk.out)
      replace HM := Lib.hid (NewT.trans _ _ _ HM.out k2)
      clear k2
      go_upto_region 3 with fail
      refine wp_region_steps0 NewT [SV.eq (.agg (rowA 41 (clF exC)))] [([], none)] 78 1 rfl rfl (by kernel_rfl) NewT.trans (NewT.refl _) (Nat.le_of_ble_eq_true rfl) ⟨?_, trivial⟩ ?_
      · intro a wx hT hF K hK
        refine rely_wp rfl ?_
        exact opr_build (pv := #[(4, .int .i64 (1)), (5, .int .i64 (1)), (2, .int .i64 (1))]) rfl (by simp only [List.map_toArray, List.map_cons, List.map_nil, eval_tmp, eval_const]) (bld_exC wx) (hK _ _ (NewT.refl _) rfl)
      · intro w3 k3
        intro u h; obtain rfl := Eq.symm (h (by simp)); clear h
        refine relyEnd_nil rfl ?_
        simp only [Act.put, List.setIfInBounds_toArray, List.set_cons_zero, List.set_cons_succ]
        refine wpList_new (n := 41) (f := clF exC) rfl rfl rfl rfl rfl rfl (by first | (simp; done) | simp [Act.put]) run_alloc_cl info_cl (clF_one _) rfl ?_
        intro W3 hn3 rr3
        refine wpList_end rfl ?_
        simp only [Act.put, List.setIfInBounds_toArray, List.set_cons_zero, List.set_cons_succ]
        go_simp
        obtain ⟨gc, h_gc⟩ : ∃ g_, w3.heap.size = g_ := ⟨_, rfl⟩
        rw [h_gc] at rr3
        simp only [h_gc]
        have HGgc : Hid (gk < gc ∧ hi ≤ gc ∧ W1.heap.size ≤ gc) := Lib.hid (by rw [← h_gc]; exact ⟨(k3.row Rgk.out).lt, Nat.le_trans HPA.out.lt.2.2 k3.out.size, (NewT.trans _ _ _ HM.out k3).out.size⟩)
        have q3 := NewT.trans _ _ _ k3 hn3
        clear k3 hn3 h_gc
        replace Rgk := Lib.hid (q3.row Rgk.out)
        replace HPA := Lib.hid (HPA.out.new q3)
        replace HM := Lib.hid (NewT.trans _ _ _ HM.out q3)
        clear q3
        have Rgc := Lib.hid rr3
        clear rr3
        have HLL : Hid (([exE0] : List En).length ≤ 1000000 ∧ ([] : List En).length ≤ 1000000) := Lib.hid (by decide)
        go_upto_region 4 with fail
        refine wp_region_lit ?_
        refine wpList_plain rfl (fun K hK => ?_)
        refine opr_move (.inl rfl) (hK _ _ ?_)
        clear hK K
        simp only [Act.put, List.setIfInBounds_toArray, List.set_cons_zero, List.set_cons_succ]
        refine wpList_plain rfl (fun K hK => ?_)
        refine opr_ldCl Rgc.out rfl rfl (hK _ _ ?_)
        clear hK K
        simp only [Act.put, List.setIfInBounds_toArray, List.set_cons_zero, List.set_cons_succ]
        refine wpList_plain rfl (fun K hK => ?_)
        refine opr_call rfl Tryd.func13 (by kernel_rfl) (by kernel_rfl) (vs := #[.pointer (some ⟨gp, 0, none⟩), .agg (rowA 41 (clF exC)), .bool false]) (by simp only [List.map_toArray, List.map_cons, List.map_nil]; rfl) ((Take_k hX W3 (HM.out.tables HTT.out) HLO.out.1 HPA.out ex_its (ex_t1 kf ps ws 2) ex_l1).mono ?_)
        rintro ex wt4 ⟨rfl, hP4, hA4⟩
        refine ⟨_, rfl, hK _ _ ?_⟩
        clear hK K
        replace Rgk := Lib.hid (hP4.row Rgk.out (by have h_0 := HGK.out; have h_1 := HLO.out; have h_2 := HGgc.out; omega))
        replace Rgc := Lib.hid (hP4.row Rgc.out (by have h_0 := HGK.out; have h_1 := HLO.out; have h_2 := HGgc.out; omega))
        replace HM := Lib.hid (NewT.of (HM.out.out.trans (hP4.below.mono (by have h_0 := HGK.out; have h_1 := HLO.out; have h_2 := HGgc.out; omega))))
        replace HPA := Lib.hid hA4
        clear hP4 hA4
        simp only [Act.put, List.setIfInBounds_toArray, List.set_cons_zero, List.set_cons_succ]
        refine wpList_plain rfl (fun K hK => ?_)
        refine opr_move (.inl rfl) (hK _ _ ?_)
        clear hK K
        simp only [Act.put, List.setIfInBounds_toArray, List.set_cons_zero, List.set_cons_succ]
        refine wpList_plain rfl (fun K hK => ?_)
        refine opr_ext rfl rfl rfl (hK _ _ ?_)
        clear hK K
        simp only [Act.put, List.setIfInBounds_toArray, List.set_cons_zero, List.set_cons_succ]
        refine wpList_plain rfl (fun K hK => ?_)
        refine opr_ext rfl rfl rfl (hK _ _ ?_)
        clear hK K
        simp only [Act.put, List.setIfInBounds_toArray, List.set_cons_zero, List.set_cons_succ]
        refine wpList_new (n := 41) (f := clF ((ansC kf ps ws 2 0 exC true))) rfl rfl rfl rfl rfl rfl (by first | (simp; done) | simp [Act.put]) run_alloc_cl info_cl (clF_one _) rfl ?_
        intro W4 hn4 rr4
        simp only [Act.put, List.setIfInBounds_toArray, List.set_cons_zero, List.set_cons_succ]
        refine wpList_plain rfl (fun K hK => ?_)
        refine opr_move (.inr rfl) (hK _ _ ?_)
        clear hK K
        simp only [Act.put, List.setIfInBounds_toArray, List.set_cons_zero, List.set_cons_succ]
        refine wpList_end rfl ?_
        go_simp
        obtain ⟨ga, h_ga⟩ : ∃ g_, wt4.heap.size = g_ := ⟨_, rfl⟩
        rw [h_ga] at rr4
        simp only [h_ga]
        have HGga : Hid (gk < ga ∧ gc < ga ∧ hi ≤ ga ∧ W1.heap.size ≤ ga) := Lib.hid (by rw [← h_ga]; exact ⟨Rgk.out.lt, Rgc.out.lt, HPA.out.lt.2.2, HM.out.out.size⟩)
        clear h_ga
        replace Rgk := Lib.hid (hn4.row Rgk.out)
        replace Rgc := Lib.hid (hn4.row Rgc.out)
        replace HPA := Lib.hid (HPA.out.new hn4)
        replace HM := Lib.hid (NewT.trans _ _ _ HM.out hn4)
        clear hn4
        have Rga := Lib.hid rr4
        clear rr4
        go_upto_region 5 with fail
        refine wp_region_lit ?_
        refine wpList_plain rfl (fun K hK => ?_)
        refine opr_move (.inl rfl) (hK _ _ ?_)
        clear hK K
        simp only [Act.put, List.setIfInBounds_toArray, List.set_cons_zero, List.set_cons_succ]
        refine wpList_plain rfl (fun K hK => ?_)
        refine opr_ldCl Rgc.out rfl rfl (hK _ _ ?_)
        clear hK K
        simp only [Act.put, List.setIfInBounds_toArray, List.set_cons_zero, List.set_cons_succ]
        refine wpList_plain rfl (fun K hK => ?_)
        refine opr_call rfl Tryd.func13 (by kernel_rfl) (by kernel_rfl) (vs := #[.pointer (some ⟨gp, 0, none⟩), .agg (rowA 41 (clF exC)), .bool true]) (by simp only [List.map_toArray, List.map_cons, List.map_nil]; rfl) ((Take_k hX W4 (HM.out.tables HTT.out) HLO.out.1 HPA.out ex_its (ex_t2 kf ps ws 2) ex_l2).mono ?_)
        rintro ex wt5 ⟨rfl, hP5, hA5⟩
        refine ⟨_, rfl, hK _ _ ?_⟩
        clear hK K
        replace Rgk := Lib.hid (hP5.row Rgk.out (by have h_0 := HGK.out; have h_1 := HLO.out; have h_2 := HGgc.out; have h_3 := HGga.out; omega))
        replace Rgc := Lib.hid (hP5.row Rgc.out (by have h_0 := HGK.out; have h_1 := HLO.out; have h_2 := HGgc.out; have h_3 := HGga.out; omega))
        replace Rga := Lib.hid (hP5.row Rga.out (by have h_0 := HGK.out; have h_1 := HLO.out; have h_2 := HGgc.out; have h_3 := HGga.out; omega))
        replace HM := Lib.hid (NewT.of (HM.out.out.trans (hP5.below.mono (by have h_0 := HGK.out; have h_1 := HLO.out; have h_2 := HGgc.out; have h_3 := HGga.out; omega))))
        replace HPA := Lib.hid hA5
        clear hP5 hA5
        simp only [Act.put, List.setIfInBounds_toArray, List.set_cons_zero, List.set_cons_succ]
        refine wpList_plain rfl (fun K hK => ?_)
        refine opr_move (.inl rfl) (hK _ _ ?_)
        clear hK K
        simp only [Act.put, List.setIfInBounds_toArray, List.set_cons_zero, List.set_cons_succ]
        refine wpList_plain rfl (fun K hK => ?_)
        refine opr_ext rfl rfl rfl (hK _ _ ?_)
        clear hK K
        simp only [Act.put, List.setIfInBounds_toArray, List.set_cons_zero, List.set_cons_succ]
        refine wpList_plain rfl (fun K hK => ?_)
        refine opr_ext rfl rfl rfl (hK _ _ ?_)
        clear hK K
        simp only [Act.put, List.setIfInBounds_toArray, List.set_cons_zero, List.set_cons_succ]
        refine wpList_new (n := 41) (f := clF ((ansC kf ps ws 2 0 exC true))) rfl rfl rfl rfl rfl rfl (by first | (simp; done) | simp [Act.put]) run_alloc_cl info_cl (clF_one _) rfl ?_
        intro W5 hn5 rr5
        simp only [Act.put, List.setIfInBounds_toArray, List.set_cons_zero, List.set_cons_succ]
        refine wpList_plain rfl (fun K hK => ?_)
        refine opr_move (.inr rfl) (hK _ _ ?_)
        clear hK K
        simp only [Act.put, List.setIfInBounds_toArray, List.set_cons_zero, List.set_cons_succ]
        refine wpList_end rfl ?_
        go_simp
        obtain ⟨gb, h_gb⟩ : ∃ g_, wt5.heap.size = g_ := ⟨_, rfl⟩
        rw [h_gb] at rr5
        simp only [h_gb]
        have HGgb : Hid (gk < gb ∧ gc < gb ∧ ga < gb ∧ hi ≤ gb ∧ W1.heap.size ≤ gb) := Lib.hid (by rw [← h_gb]; exact ⟨Rgk.out.lt, Rgc.out.lt, Rga.out.lt, HPA.out.lt.2.2, HM.out.out.size⟩)
        clear h_gb
        replace Rgk := Lib.hid (hn5.row Rgk.out)
        replace Rgc := Lib.hid (hn5.row Rgc.out)
        replace Rga := Lib.hid (hn5.row Rga.out)
        replace HPA := Lib.hid (HPA.out.new hn5)
        replace HM := Lib.hid (NewT.trans _ _ _ HM.out hn5)
        clear hn5
        have Rgb := Lib.hid rr5
        clear rr5
        go_upto_region 6 with fail
        refine wp_region_lit ?_
        refine wpList_plain rfl (fun K hK => ?_)
        refine opr_move (.inl rfl) (hK _ _ ?_)
        clear hK K
        simp only [Act.put, List.setIfInBounds_toArray, List.set_cons_zero, List.set_cons_succ]
        refine wpList_plain rfl (fun K hK => ?_)
        refine opr_build (pv := #[(4, .int .i64 0), (5, .int .i64 1), (2, .int .i64 1)]) rfl (by simp only [List.map_toArray, List.map_cons, List.map_nil, eval_const]) (bld_exD _) (hK _ _ ?_)
        clear hK K
        simp only [Act.put, List.setIfInBounds_toArray, List.set_cons_zero, List.set_cons_succ]
        refine wpList_plain rfl (fun K hK => ?_)
        refine opr_call rfl Tryd.func13 (by kernel_rfl) (by kernel_rfl) (vs := #[.pointer (some ⟨gp, 0, none⟩), .agg (rowA 41 (clF exD)), .bool false]) (by simp only [List.map_toArray, List.map_cons, List.map_nil]; rfl) ((Take_k hX W5 (HM.out.tables HTT.out) HLO.out.1 HPA.out ex_no (ex_t3 kf ps ws 2) ex_l3).mono ?_)
        rintro ex wt6 ⟨rfl, hP6, hA6⟩
        refine ⟨_, rfl, hK _ _ ?_⟩
        clear hK K
        replace Rgk := Lib.hid (hP6.row Rgk.out (by have h_0 := HGK.out; have h_1 := HLO.out; have h_2 := HGgc.out; have h_3 := HGga.out; have h_4 := HGgb.out; omega))
        replace Rgc := Lib.hid (hP6.row Rgc.out (by have h_0 := HGK.out; have h_1 := HLO.out; have h_2 := HGgc.out; have h_3 := HGga.out; have h_4 := HGgb.out; omega))
        replace Rga := Lib.hid (hP6.row Rga.out (by have h_0 := HGK.out; have h_1 := HLO.out; have h_2 := HGgc.out; have h_3 := HGga.out; have h_4 := HGgb.out; omega))
        replace Rgb := Lib.hid (hP6.row Rgb.out (by have h_0 := HGK.out; have h_1 := HLO.out; have h_2 := HGgc.out; have h_3 := HGga.out; have h_4 := HGgb.out; omega))
        replace HM := Lib.hid (NewT.of (HM.out.out.trans (hP6.below.mono (by have h_0 := HGK.out; have h_1 := HLO.out; have h_2 := HGgc.out; have h_3 := HGga.out; have h_4 := HGgb.out; omega))))
        replace HPA := Lib.hid hA6
        clear hP6 hA6
        simp only [Act.put, List.setIfInBounds_toArray, List.set_cons_zero, List.set_cons_succ]
        refine wpList_plain rfl (fun K hK => ?_)
        refine opr_move (.inl rfl) (hK _ _ ?_)
        clear hK K
        simp only [Act.put, List.setIfInBounds_toArray, List.set_cons_zero, List.set_cons_succ]
        refine wpList_plain rfl (fun K hK => ?_)
        refine opr_ext rfl rfl rfl (hK _ _ ?_)
        clear hK K
        simp only [Act.put, List.setIfInBounds_toArray, List.set_cons_zero, List.set_cons_succ]
        refine wpList_plain rfl (fun K hK => ?_)
        refine opr_ext rfl rfl rfl (hK _ _ ?_)
        clear hK K
        simp only [Act.put, List.setIfInBounds_toArray, List.set_cons_zero, List.set_cons_succ]
        refine wpList_new (n := 41) (f := clF zC) rfl rfl rfl rfl rfl rfl (by first | (simp; done) | simp [Act.put]) run_alloc_cl info_cl (clF_one _) rfl ?_
        intro W6 hn6 rr6
        simp only [Act.put, List.setIfInBounds_toArray, List.set_cons_zero, List.set_cons_succ]
        refine wpList_plain rfl (fun K hK => ?_)
        refine opr_move (.inr rfl) (hK _ _ ?_)
        clear hK K
        simp only [Act.put, List.setIfInBounds_toArray, List.set_cons_zero, List.set_cons_succ]
        refine wpList_end rfl ?_
        go_simp
        obtain ⟨gz, h_gz⟩ : ∃ g_, wt6.heap.size = g_ := ⟨_, rfl⟩
        rw [h_gz] at rr6
        simp only [h_gz]
        have HGgz : Hid (gk < gz ∧ gc < gz ∧ ga < gz ∧ gb < gz ∧ hi ≤ gz ∧ W1.heap.size ≤ gz) := Lib.hid (by rw [← h_gz]; exact ⟨Rgk.out.lt, Rgc.out.lt, Rga.out.lt, Rgb.out.lt, HPA.out.lt.2.2, HM.out.out.size⟩)
        clear h_gz
        replace Rgk := Lib.hid (hn6.row Rgk.out)
        replace Rgc := Lib.hid (hn6.row Rgc.out)
        replace Rga := Lib.hid (hn6.row Rga.out)
        replace Rgb := Lib.hid (hn6.row Rgb.out)
        replace HPA := Lib.hid (HPA.out.new hn6)
        replace HM := Lib.hid (NewT.trans _ _ _ HM.out hn6)
        clear hn6
        have Rgz := Lib.hid rr6
        clear rr6
        have HSZ : Hid (lo ≤ W6.heap.size) := Lib.hid (by have h1 := HPA.out.lt; omega)
        have HPW : Hid (hi ≤ W6.heap.size) := Lib.hid HPA.out.lt.2.2
        go_upto_region 7 with fail
        refine wp_region_relyL (PW W6 lo hi) (JL 34 5001 5002 5000 (fun w => PartAt w lo hi gp 1 0 ps ws 2 [exE0]) (fun w => PartAt w lo hi gp 1 1 ps ws 2 [exE0]) W6 0 0 (fun _ => undef)) [SV.eq (.bool true), SV.eq (.bool true), SV.eq (.bool true), SV.eq (.bool true), SV.eq (.bool true), SV.eq (.bool false), SV.eq (.bool true), SV.eq (.bool true), SV.eq (.bool true), SV.eq (.pointer (some ⟨ga, 7, none⟩)), SV.eq (.bool true), SV.eq (.bool true), SV.eq (.bool true), SV.eq (.pointer (some ⟨gb, 7, none⟩)), SV.eq (.bool true), SV.eq (.bool true), SV.eq (.bool true), SV.eq (.pointer (some ⟨ga, 6, none⟩)), SV.eq (.bool true), SV.eq (.bool true), SV.eq (.bool true), SV.eq (.pointer (some ⟨gp, 0, none⟩)), svLen 1, SV.eq (.int .i64 (1)), SV.eq (.bool true), SV.eq (.bool true), SV.eq (.bool true), SV.eq (.agg (rowA 3 (keyF pv wv 2))), SV.eq (.agg (rowA 41 (clF ((ansC kf ps ws 2 0 exC true))))), svRecP (recC (ansC kf ps ws 2 0 exC true) 2) (recC_nil _ _), SV.eq (.bool true), SV.eq (.bool true), SV.eq (.bool true), SV.eq (.pointer (some ⟨gp, 0, none⟩)), SV.eq (.bool true), SV.eq (.bool true), SV.eq (.bool true), SV.eq (.pointer (some ⟨gp, 0, none⟩)), SV.eq (.int .i64 (1)), SV.eq (.bool true), SV.eq (.bool true), SV.eq (.bool true), SV.eq (.agg (rowA 3 (keyF pv wv 2))), SV.eq (.pointer none), SV.eq (.bool true), SV.eq (.bool true)] [([(5, none)], none), ([(32, some 0)], none), ([(7, none), (33, some 1)], some (33, true)), ([(33, some 1), (34, some 2)], none), ([(35, some 3)], none), ([(9, none), (36, some 4)], some (36, true)), ([(37, some 5), (36, some 4)], some (36, true)), ([(36, some 4), (38, some 6)], none), ([(39, some 7)], none), ([(4, none), (40, some 8)], some (40, true)), ([(41, some 9), (40, some 8)], some (40, true)), ([(40, some 8), (42, some 10)], none), ([(43, some 11)], none), ([(6, none), (44, some 12)], some (44, true)), ([(45, some 13), (44, some 12)], some (44, true)), ([(44, some 12), (46, some 14)], none), ([(47, some 15)], none), ([(4, none), (48, some 16)], some (48, true)), ([(49, some 17), (48, some 16)], some (48, true)), ([(48, some 16), (50, some 18)], none), ([(51, some 19)], none), ([(2, none), (52, some 20)], some (52, true)), ([(53, some 21), (52, some 20)], some (52, true)), ([(54, some 22), (52, some 20)], some (52, true)), ([(55, some 23), (52, some 20)], some (52, true)), ([(52, some 20), (56, some 24)], none), ([(57, some 25)], none), ([(1, none), (58, some 26)], some (58, true)), ([(4, none), (58, some 26)], some (58, true)), ([(60, some 28), (58, some 26)], some (58, true)), ([(59, some 27), (61, some 29), (58, some 26)], some (58, true)), ([(58, some 26), (62, some 30)], none), ([(63, some 31)], none), ([(2, none), (64, some 32)], some (64, true)), ([(65, some 33), (64, some 32)], some (64, true)), ([(64, some 32), (66, some 34)], none), ([(67, some 35)], none), ([(2, none), (68, some 36)], some (68, true)), ([(69, some 37), (68, some 36)], some (68, true)), ([(70, some 38), (68, some 36)], some (68, true)), ([(68, some 36), (71, some 39)], none), ([(72, some 40)], none), ([(1, none), (73, some 41)], some (73, true)), ([(74, some 42), (73, some 41)], some (73, true)), ([(75, some 43), (73, some 41)], some (73, true)), ([(73, some 41), (76, some 44)], none)] 78 rfl (by kernel_rfl) rfl (by kernel_rfl) (by kernel_rfl) rfl PW.trans (PW.drew _) (JL.start (HPA.out.drew) _) (Nat.le_of_ble_eq_true rfl) ⟨?_, ?_, ?_, ?_, ?_, ?_, ?_, ?_, ?_, ?_, ?_, ?_, ?_, ?_, ?_, ?_, ?_, ?_, ?_, ?_, ?_, ?_, ?_, ?_, ?_, ?_, ?_, ?_, ?_, ?_, ?_, ?_, ?_, ?_, ?_, ?_, ?_, ?_, ?_, ?_, ?_, ?_, ?_, ?_, ?_, ?_, trivial⟩ ?_
        · exact fun a wx li hT hF hJ hx K hK => have hK := fun v w' (hN : NewT wx w') hv => hK v w' (PW.new hT hN HSZ.out) (JL.new hJ (by decide) (by simp) hN (fun h => PartAt.new h hN) (fun h => PartAt.new h hN)) hv; rely_wp rfl (opr_move (.inl rfl) (hK _ _ (NewT.refl _) hF.1))
        · exact fun a wx li hT hF hJ hx K hK => have hK := fun v w' (hN : NewT wx w') hv => hK v w' (PW.new hT hN HSZ.out) (JL.new hJ (by decide) (by simp) hN (fun h => PartAt.new h hN) (fun h => PartAt.new h hN)) hv; rely_wp rfl (opr_move (.inl rfl) (hK _ _ (NewT.refl _) hF.1))
        · exact fun a wx li hT hF hJ hx K hK => have hK := fun v w' (hN : NewT wx w') hv => hK v w' (PW.new hT hN HSZ.out) (JL.new hJ (by decide) (by simp) hN (fun h => PartAt.new h hN) (fun h => PartAt.new h hN)) hv; rely_wp (rely_guard hF.2.1) (opr_move (.inl rfl) (hK _ _ (NewT.refl _) hF.1))
        · exact fun a wx li hT hF hJ hx K hK => have hK := fun v w' (hN : NewT wx w') hv => hK v w' (PW.new hT hN HSZ.out) (JL.new hJ (by decide) (by simp) hN (fun h => PartAt.new h hN) (fun h => PartAt.new h hN)) hv; rely_wp rfl (opr_pick_true rfl hF.1 (hK _ _ (NewT.refl _) hF.2.1))
        · exact fun a wx li hT hF hJ hx K hK => have hK := fun v w' (hN : NewT wx w') hv => hK v w' (PW.new hT hN HSZ.out) (JL.new hJ (by decide) (by simp) hN (fun h => PartAt.new h hN) (fun h => PartAt.new h hN)) hv; rely_wp rfl (opr_move (.inl rfl) (hK _ _ (NewT.refl _) hF.1))
        · exact fun a wx li hT hF hJ hx K hK => have hK := fun v w' (hN : NewT wx w') hv => hK v w' (PW.new hT hN HSZ.out) (JL.new hJ (by decide) (by simp) hN (fun h => PartAt.new h hN) (fun h => PartAt.new h hN)) hv; rely_wp (rely_guard hF.2.1) (opr_move (.inl rfl) (hK _ _ (NewT.refl _) hF.1))
        · exact fun a wx li hT hF hJ hx K hK => have hK := fun v w' (hN : NewT wx w') hv => hK v w' (PW.new hT hN HSZ.out) (JL.new hJ (by decide) (by simp) hN (fun h => PartAt.new h hN) (fun h => PartAt.new h hN)) hv; rely_wp (rely_guard hF.2.1) (opr_not rfl hF.1 (hK _ _ (NewT.refl _) rfl))
        · exact fun a wx li hT hF hJ hx K hK => have hK := fun v w' (hN : NewT wx w') hv => hK v w' (PW.new hT hN HSZ.out) (JL.new hJ (by decide) (by simp) hN (fun h => PartAt.new h hN) (fun h => PartAt.new h hN)) hv; rely_wp rfl (opr_pick_true rfl hF.1 (hK _ _ (NewT.refl _) hF.2.1))
        · exact fun a wx li hT hF hJ hx K hK => have hK := fun v w' (hN : NewT wx w') hv => hK v w' (PW.new hT hN HSZ.out) (JL.new hJ (by decide) (by simp) hN (fun h => PartAt.new h hN) (fun h => PartAt.new h hN)) hv; rely_wp rfl (opr_move (.inl rfl) (hK _ _ (NewT.refl _) hF.1))
        · exact fun a wx li hT hF hJ hx K hK => have hK := fun v w' (hN : NewT wx w') hv => hK v w' (PW.new hT hN HSZ.out) (JL.new hJ (by decide) (by simp) hN (fun h => PartAt.new h hN) (fun h => PartAt.new h hN)) hv; rely_wp (rely_guard hF.2.1) (opr_fldCl7 rfl hF.1 (hK _ _ (NewT.refl _) rfl))
        · exact fun a wx li hT hF hJ hx K hK => have hK := fun v w' (hN : NewT wx w') hv => hK v w' (PW.new hT hN HSZ.out) (JL.new hJ (by decide) (by simp) hN (fun h => PartAt.new h hN) (fun h => PartAt.new h hN)) hv; rely_wp (rely_guard hF.2.1) (opr_ldQ (hT.row Rga.out (by have h_0 := HGK.out; have h_1 := HLO.out; have h_2 := HGgc.out; have h_3 := HGga.out; have h_4 := HGgb.out; have h_5 := HGgz.out; omega)) (by decide) rfl rfl hF.1 (hK _ _ (NewT.refl _) rfl))
        · exact fun a wx li hT hF hJ hx K hK => have hK := fun v w' (hN : NewT wx w') hv => hK v w' (PW.new hT hN HSZ.out) (JL.new hJ (by decide) (by simp) hN (fun h => PartAt.new h hN) (fun h => PartAt.new h hN)) hv; rely_wp rfl (opr_pick_true rfl hF.1 (hK _ _ (NewT.refl _) hF.2.1))
        · exact fun a wx li hT hF hJ hx K hK => have hK := fun v w' (hN : NewT wx w') hv => hK v w' (PW.new hT hN HSZ.out) (JL.new hJ (by decide) (by simp) hN (fun h => PartAt.new h hN) (fun h => PartAt.new h hN)) hv; rely_wp rfl (opr_move (.inl rfl) (hK _ _ (NewT.refl _) hF.1))
        · exact fun a wx li hT hF hJ hx K hK => have hK := fun v w' (hN : NewT wx w') hv => hK v w' (PW.new hT hN HSZ.out) (JL.new hJ (by decide) (by simp) hN (fun h => PartAt.new h hN) (fun h => PartAt.new h hN)) hv; rely_wp (rely_guard hF.2.1) (opr_fldCl7 rfl hF.1 (hK _ _ (NewT.refl _) rfl))
        · exact fun a wx li hT hF hJ hx K hK => have hK := fun v w' (hN : NewT wx w') hv => hK v w' (PW.new hT hN HSZ.out) (JL.new hJ (by decide) (by simp) hN (fun h => PartAt.new h hN) (fun h => PartAt.new h hN)) hv; rely_wp (rely_guard hF.2.1) (opr_ldQ (hT.row Rgb.out (by have h_0 := HGK.out; have h_1 := HLO.out; have h_2 := HGgc.out; have h_3 := HGga.out; have h_4 := HGgb.out; have h_5 := HGgz.out; omega)) (by decide) rfl rfl hF.1 (hK _ _ (NewT.refl _) rfl))
        · exact fun a wx li hT hF hJ hx K hK => have hK := fun v w' (hN : NewT wx w') hv => hK v w' (PW.new hT hN HSZ.out) (JL.new hJ (by decide) (by simp) hN (fun h => PartAt.new h hN) (fun h => PartAt.new h hN)) hv; rely_wp rfl (opr_pick_true rfl hF.1 (hK _ _ (NewT.refl _) hF.2.1))
        · exact fun a wx li hT hF hJ hx K hK => have hK := fun v w' (hN : NewT wx w') hv => hK v w' (PW.new hT hN HSZ.out) (JL.new hJ (by decide) (by simp) hN (fun h => PartAt.new h hN) (fun h => PartAt.new h hN)) hv; rely_wp rfl (opr_move (.inl rfl) (hK _ _ (NewT.refl _) hF.1))
        · exact fun a wx li hT hF hJ hx K hK => have hK := fun v w' (hN : NewT wx w') hv => hK v w' (PW.new hT hN HSZ.out) (JL.new hJ (by decide) (by simp) hN (fun h => PartAt.new h hN) (fun h => PartAt.new h hN)) hv; rely_wp (rely_guard hF.2.1) (opr_fldCl6 rfl hF.1 (hK _ _ (NewT.refl _) rfl))
        · exact fun a wx li hT hF hJ hx K hK => have hK := fun v w' (hN : NewT wx w') hv => hK v w' (PW.new hT hN HSZ.out) (JL.new hJ (by decide) (by simp) hN (fun h => PartAt.new h hN) (fun h => PartAt.new h hN)) hv; rely_wp (rely_guard hF.2.1) (opr_ldQ (hT.row Rga.out (by have h_0 := HGK.out; have h_1 := HLO.out; have h_2 := HGgc.out; have h_3 := HGga.out; have h_4 := HGgb.out; have h_5 := HGgz.out; omega)) (by decide) rfl rfl hF.1 (hK _ _ (NewT.refl _) rfl))
        · exact fun a wx li hT hF hJ hx K hK => have hK := fun v w' (hN : NewT wx w') hv => hK v w' (PW.new hT hN HSZ.out) (JL.new hJ (by decide) (by simp) hN (fun h => PartAt.new h hN) (fun h => PartAt.new h hN)) hv; rely_wp rfl (opr_pick_true rfl hF.1 (hK _ _ (NewT.refl _) hF.2.1))
        · exact fun a wx li hT hF hJ hx K hK => have hK := fun v w' (hN : NewT wx w') hv => hK v w' (PW.new hT hN HSZ.out) (JL.new hJ (by decide) (by simp) hN (fun h => PartAt.new h hN) (fun h => PartAt.new h hN)) hv; rely_wp rfl (opr_move (.inl rfl) (hK _ _ (NewT.refl _) hF.1))
        · exact fun a wx li hT hF hJ hx K hK => have hK := fun v w' (hN : NewT wx w') hv => hK v w' (PW.new hT hN HSZ.out) (JL.new hJ (by decide) (by simp) hN (fun h => PartAt.new h hN) (fun h => PartAt.new h hN)) hv; rely_wp (rely_guard hF.2.1) (opr_move (.inl rfl) (hK _ _ (NewT.refl _) hF.1))
        · exact fun a wx li hT hF hJ hx K hK => have hK := fun v w' (hN : NewT wx w') hv => hK v w' (PW.new hT hN HSZ.out) (JL.new hJ (by decide) (by simp) hN (fun h => PartAt.new h hN) (fun h => PartAt.new h hN)) hv; rely_wp (rely_guard hF.2.1) (opr_cv ((JL.ent hJ).elim fun _ h => Entries_n wx h HLL.out.1) rfl Tryd.func16 (by kernel_rfl) (by kernel_rfl) (evs1 hF.1) hK)
        · intro a wx li hT hF hJ hx K hK
          replace hK := fun v w' (hN : NewT wx w') hv => hK v w' (PW.new hT hN HSZ.out) (JL.new hJ (by decide) (by simp) hN (fun h => PartAt.new h hN) (fun h => PartAt.new h hN)) hv
          obtain ⟨f54, f52, _⟩ := hF
          replace f54 := show (svLen 1).pred (a.tmps.getD 54 undef) wx from f54
          have f52 : a.tmps.getD 52 undef = .bool true := f52
          refine rely_wp (rely_guard f52) ?_
          obtain ⟨A1, c1, hv1⟩ := f54
          exact opr_len rfl Tryd.underlying38 hv1 (hK _ _ (NewT.refl _) rfl)
        · exact fun a wx li hT hF hJ hx K hK => have hK := fun v w' (hN : NewT wx w') hv => hK v w' (PW.new hT hN HSZ.out) (JL.new hJ (by decide) (by simp) hN (fun h => PartAt.new h hN) (fun h => PartAt.new h hN)) hv; rely_wp (rely_guard hF.2.1) (opr_cmp (b := true) (.inl ⟨rfl, (by rfl)⟩) Tryd.underlying3 rfl hF.1 rfl (hK _ _ (NewT.refl _) rfl))
        · exact fun a wx li hT hF hJ hx K hK => have hK := fun v w' (hN : NewT wx w') hv => hK v w' (PW.new hT hN HSZ.out) (JL.new hJ (by decide) (by simp) hN (fun h => PartAt.new h hN) (fun h => PartAt.new h hN)) hv; rely_wp rfl (opr_pick_true rfl hF.1 (hK _ _ (NewT.refl _) hF.2.1))
        · exact fun a wx li hT hF hJ hx K hK => have hK := fun v w' (hN : NewT wx w') hv => hK v w' (PW.new hT hN HSZ.out) (JL.new hJ (by decide) (by simp) hN (fun h => PartAt.new h hN) (fun h => PartAt.new h hN)) hv; rely_wp rfl (opr_move (.inl rfl) (hK _ _ (NewT.refl _) hF.1))
        · exact fun a wx li hT hF hJ hx K hK => have hK := fun v w' (hN : NewT wx w') hv => hK v w' (PW.new hT hN HSZ.out) (JL.new hJ (by decide) (by simp) hN (fun h => PartAt.new h hN) (fun h => PartAt.new h hN)) hv; rely_wp (rely_guard hF.2.1) (opr_ldY (hT.row Rgk.out (by have h_0 := HGK.out; have h_1 := HLO.out; have h_2 := HGgc.out; have h_3 := HGga.out; have h_4 := HGgb.out; have h_5 := HGgz.out; omega)) rfl hF.1 (hK _ _ (NewT.refl _) rfl))
        · exact fun a wx li hT hF hJ hx K hK => have hK := fun v w' (hN : NewT wx w') hv => hK v w' (PW.new hT hN HSZ.out) (JL.new hJ (by decide) (by simp) hN (fun h => PartAt.new h hN) (fun h => PartAt.new h hN)) hv; rely_wp (rely_guard hF.2.1) (opr_ldCl (hT.row Rga.out (by have h_0 := HGK.out; have h_1 := HLO.out; have h_2 := HGgc.out; have h_3 := HGga.out; have h_4 := HGgb.out; have h_5 := HGgz.out; omega)) rfl hF.1 (hK _ _ (NewT.refl _) rfl))
        · exact fun a wx li hT hF hJ hx K hK => have hK := fun v w' (hN : NewT wx w') hv => hK v w' (PW.new hT hN HSZ.out) (JL.new hJ (by decide) (by simp) hN (fun h => PartAt.new h hN) (fun h => PartAt.new h hN)) hv; rely_wp (rely_guard hF.2.1) (opr_cv (pReceipt_cv (ansC kf ps ws 2 0 exC true) 2 wx) rfl Tryd.func20 (by kernel_rfl) (by kernel_rfl) (evs2 hF.1 rfl) hK)
        · exact fun a wx li hT hF hJ hx K hK => have hK := fun v w' (hN : NewT wx w') hv => hK v w' (PW.new hT hN HSZ.out) (JL.new hJ (by decide) (by simp) hN (fun h => PartAt.new h hN) (fun h => PartAt.new h hN)) hv; rely_wp (rely_guard hF.2.2.1) (opr_cv (HH1.out ▸ Holds_cv hX _ _ ps ws 2 (recC (ansC kf ps ws 2 0 exC true) 2) wx ((NewT.of (HM.out.out.trans (hT.below.mono (by have h_0 := HGK.out; have h_1 := HLO.out; have h_2 := HGgc.out; have h_3 := HGga.out; have h_4 := HGgb.out; have h_5 := HGgz.out; omega)))).tables HTT.out) (⟨pv, wv, rfl, (NewT.of (HM.out.out.trans (hT.below.mono (by have h_0 := HGK.out; have h_1 := HLO.out; have h_2 := HGgc.out; have h_3 := HGga.out; have h_4 := HGgb.out; have h_5 := HGgz.out; omega)))).hs HP.out, (NewT.of (HM.out.out.trans (hT.below.mono (by have h_0 := HGK.out; have h_1 := HLO.out; have h_2 := HGgc.out; have h_3 := HGga.out; have h_4 := HGgb.out; have h_5 := HGgz.out; omega)))).hs HW.out⟩ : KeysV wx (.agg (rowA 3 (keyF pv wv 2))) ps ws 2) hF.2.1) rfl Tryd.func22 (by kernel_rfl) (by kernel_rfl) (evs2 hF.1 rfl) hK)
        · exact fun a wx li hT hF hJ hx K hK => have hK := fun v w' (hN : NewT wx w') hv => hK v w' (PW.new hT hN HSZ.out) (JL.new hJ (by decide) (by simp) hN (fun h => PartAt.new h hN) (fun h => PartAt.new h hN)) hv; rely_wp rfl (opr_pick_true rfl hF.1 (hK _ _ (NewT.refl _) hF.2.1))
        · exact fun a wx li hT hF hJ hx K hK => have hK := fun v w' (hN : NewT wx w') hv => hK v w' (PW.new hT hN HSZ.out) (JL.new hJ (by decide) (by simp) hN (fun h => PartAt.new h hN) (fun h => PartAt.new h hN)) hv; rely_wp rfl (opr_move (.inl rfl) (hK _ _ (NewT.refl _) hF.1))
        · exact fun a wx li hT hF hJ hx K hK => have hK := fun v w' (hN : NewT wx w') hv => hK v w' (PW.new hT hN HSZ.out) (JL.new hJ (by decide) (by simp) hN (fun h => PartAt.new h hN) (fun h => PartAt.new h hN)) hv; rely_wp (rely_guard hF.2.1) (opr_move (.inl rfl) (hK _ _ (NewT.refl _) hF.1))
        · intro a wx li hT hF hJ hx K hK
          obtain ⟨f65, f64, _⟩ := hF
          have f65 : a.tmps.getD 65 undef = .pointer (some ⟨gp, 0, none⟩) := f65
          have f64 : a.tmps.getD 64 undef = .bool true := f64
          refine rely_wp (rely_guard f64) ?_
          refine opr_call rfl Tryd.func14 (by kernel_rfl) (by kernel_rfl) (vs := #[.pointer (some ⟨gp, 0, none⟩)]) (by simp only [List.map_toArray, List.map_cons, List.map_nil, eval_tmp, f65]) ((Rotate_c wx (by decide) (hJ.pre hx.no)).mono ?_)
          rintro ex w4 ⟨rfl, hP4, hA4⟩
          exact ⟨_, rfl, hK _ _ (hT.pt hP4) (JL.call hJ hx (by decide) (by simp) hA4 (fun b F hb hr => hP4.row hr (.inr (Nat.le_trans HPW.out hb)))) rfl⟩
        · exact fun a wx li hT hF hJ hx K hK => have hK := fun v w' (hN : NewT wx w') hv => hK v w' (PW.new hT hN HSZ.out) (JL.new hJ (by decide) (by simp) hN (fun h => PartAt.new h hN) (fun h => PartAt.new h hN)) hv; rely_wp rfl (opr_pick_true rfl hF.1 (hK _ _ (NewT.refl _) hF.2.1))
        · exact fun a wx li hT hF hJ hx K hK => have hK := fun v w' (hN : NewT wx w') hv => hK v w' (PW.new hT hN HSZ.out) (JL.new hJ (by decide) (by simp) hN (fun h => PartAt.new h hN) (fun h => PartAt.new h hN)) hv; rely_wp rfl (opr_move (.inl rfl) (hK _ _ (NewT.refl _) hF.1))
        · exact fun a wx li hT hF hJ hx K hK => have hK := fun v w' (hN : NewT wx w') hv => hK v w' (PW.new hT hN HSZ.out) (JL.new hJ (by decide) (by simp) hN (fun h => PartAt.new h hN) (fun h => PartAt.new h hN)) hv; rely_wp (rely_guard hF.2.1) (opr_move (.inl rfl) (hK _ _ (NewT.refl _) hF.1))
        · exact fun a wx li hT hF hJ hx K hK => have hK := fun v w' (hN : NewT wx w') hv => hK v w' (PW.new hT hN HSZ.out) (JL.new hJ (by decide) (by simp) hN (fun h => PartAt.new h hN) (fun h => PartAt.new h hN)) hv; rely_wp (rely_guard hF.2.1) (opr_cv (Epoch_a wx (hJ.post (hx.closed 35 34 (by kernel_rfl) (hx.closed 36 35 (by kernel_rfl) (hx.waits 36 (by kernel_rfl)))))) rfl Tryd.func15 (by kernel_rfl) (by kernel_rfl) (evs1 hF.1) hK)
        · exact fun a wx li hT hF hJ hx K hK => have hK := fun v w' (hN : NewT wx w') hv => hK v w' (PW.new hT hN HSZ.out) (JL.new hJ (by decide) (by simp) hN (fun h => PartAt.new h hN) (fun h => PartAt.new h hN)) hv; rely_wp (rely_guard hF.2.1) (opr_cmp (b := true) (.inl ⟨rfl, (by rfl)⟩) Tryd.underlying3 rfl hF.1 rfl (hK _ _ (NewT.refl _) rfl))
        · exact fun a wx li hT hF hJ hx K hK => have hK := fun v w' (hN : NewT wx w') hv => hK v w' (PW.new hT hN HSZ.out) (JL.new hJ (by decide) (by simp) hN (fun h => PartAt.new h hN) (fun h => PartAt.new h hN)) hv; rely_wp rfl (opr_pick_true rfl hF.1 (hK _ _ (NewT.refl _) hF.2.1))
        · exact fun a wx li hT hF hJ hx K hK => have hK := fun v w' (hN : NewT wx w') hv => hK v w' (PW.new hT hN HSZ.out) (JL.new hJ (by decide) (by simp) hN (fun h => PartAt.new h hN) (fun h => PartAt.new h hN)) hv; rely_wp rfl (opr_move (.inl rfl) (hK _ _ (NewT.refl _) hF.1))
        · exact fun a wx li hT hF hJ hx K hK => have hK := fun v w' (hN : NewT wx w') hv => hK v w' (PW.new hT hN HSZ.out) (JL.new hJ (by decide) (by simp) hN (fun h => PartAt.new h hN) (fun h => PartAt.new h hN)) hv; rely_wp (rely_guard hF.2.1) (opr_ldY (hT.row Rgk.out (by have h_0 := HGK.out; have h_1 := HLO.out; have h_2 := HGgc.out; have h_3 := HGga.out; have h_4 := HGgb.out; have h_5 := HGgz.out; omega)) rfl hF.1 (hK _ _ (NewT.refl _) rfl))
        · exact fun a wx li hT hF hJ hx K hK => have hK := fun v w' (hN : NewT wx w') hv => hK v w' (PW.new hT hN HSZ.out) (JL.new hJ (by decide) (by simp) hN (fun h => PartAt.new h hN) (fun h => PartAt.new h hN)) hv; rely_wp (rely_guard hF.2.1) (opr_cv (New_no _ ps ws 2 2 wx (⟨pv, wv, rfl, (NewT.of (HM.out.out.trans (hT.below.mono (by have h_0 := HGK.out; have h_1 := HLO.out; have h_2 := HGgc.out; have h_3 := HGga.out; have h_4 := HGgb.out; have h_5 := HGgz.out; omega)))).hs HP.out, (NewT.of (HM.out.out.trans (hT.below.mono (by have h_0 := HGK.out; have h_1 := HLO.out; have h_2 := HGgc.out; have h_3 := HGga.out; have h_4 := HGgb.out; have h_5 := HGgz.out; omega)))).hs HW.out⟩ : KeysV wx (.agg (rowA 3 (keyF pv wv 2))) ps ws 2) HK2.out) rfl Tryd.func11 (by kernel_rfl) (by kernel_rfl) (evs2 hF.1 rfl) hK)
        · exact fun a wx li hT hF hJ hx K hK => have hK := fun v w' (hN : NewT wx w') hv => hK v w' (PW.new hT hN HSZ.out) (JL.new hJ (by decide) (by simp) hN (fun h => PartAt.new h hN) (fun h => PartAt.new h hN)) hv; rely_wp (rely_guard hF.2.1) (opr_eqPz rfl hF.1 (hK _ _ (NewT.refl _) rfl))
        · exact fun a wx li hT hF hJ hx K hK => have hK := fun v w' (hN : NewT wx w') hv => hK v w' (PW.new hT hN HSZ.out) (JL.new hJ (by decide) (by simp) hN (fun h => PartAt.new h hN) (fun h => PartAt.new h hN)) hv; rely_wp rfl (opr_pick_true rfl hF.1 (hK _ _ (NewT.refl _) hF.2.1))
        · intro w30 k30
          iterate 22 (intro u h; obtain rfl := Eq.symm (h (by simp)); clear h)
          intro _ _
          iterate 6 (intro u h; obtain rfl := Eq.symm (h (by simp)); clear h)
          intro _ _
          iterate 16 (intro u h; obtain rfl := Eq.symm (h (by simp)); clear h)
          refine relyEnd_nil rfl ?_
          intro hJ
          simp only [Act.put, List.setIfInBounds_toArray, List.set_cons_zero, List.set_cons_succ]
          refine opr_move (.inr rfl) ?_
          go_simp
          have hNN : NewT w w30 := NewT.trans _ _ _ HBW.out (NewT.of (HM.out.out.trans (k30.below.mono (by have h_0 := HGK.out; have h_1 := HLO.out; have h_2 := HGgc.out; have h_3 := HGga.out; have h_4 := HGgb.out; have h_5 := HGgz.out; omega))))
          clear hJ
          go_wp2
          go_ret
          exact ⟨_, rfl, hNN, rfl⟩
theorem alive13_cv (w : World) (hT : Tables w) : Cv 9 #[] w (.eq (.bool true)) := by
  obtain ⟨kf, tg, pf, hX⟩ := keyH_ex
  exact alive13_any hX w hT
end Go.Proofs.YtchpmdcacpjojaaDoor
/- Flags that differ. -/
namespace Go.Proofs.YtchpmdcacpjojaaDoor
open Go Go.RowKit
set_option maxRecDepth 8000
set_option linter.all false
section
variable {a : Act} {w : World} {o : Oper} {K : Act → World → Prop} {Q : Exit → Act → World → Prop} {x y : Operand}
theorem opr_neqQ {p q b : Bool} {t2 : TypeId} (hb : (p != q) = b) (ho : o.op = .binOp .neq 4 x y t2) (hx : a.eval x = .bool p) (hy : a.eval y = .bool q) (h : K (a.put o.dst (.bool b)) w) : o.wp Tryd.prog a w K Q := by
  obtain ⟨dst, op', type, pos, after, guard⟩ := o
  simp only at ho
  subst ho hb
  refine opr_val (s := do eqGuard .neq 4 x y (a.eval x) (a.eval y); binOp .neq 4 (a.eval x) (a.eval y)) rfl ?_ h
  rw [hx, hy]
  cases p <;> cases q <;> simp [go_sem]
end
end Go.Proofs.YtchpmdcacpjojaaDoor
/- The law PartOnce, walked: of each step a call is applied at most once, and its compensation at most once. -/
namespace Go.Proofs.YtchpmdcacpjojaaDoor
open Go Go.RowKit
set_option maxRecDepth 8000
set_option linter.all false
def undF (s t : Int) (y : En) : Bool := (((y.saga == s) && (y.step == t)) && y.back) && y.good
theorem take_anyS {α : Type} {f : α → Bool} {l : List α} {k : Nat} {x : α} (hx : l[k]? = some x) : (l.take (k + 1)).any f = ((l.take k).any f || f x) := by
  rw [List.take_add_one, hx, List.any_append]; simp
theorem any_has {L : List En} {s t : Int} {b : Bool} : L.any (isE s t b) = (hasE L s t b).isSome := by
  unfold hasE
  rw [Option.isSome_map, Bool.eq_iff_iff, List.find?_isSome]
  simp
theorem once_facts {kf : Hs → List Int → Hs} {ps ws : List Hs} {need n : Int} {L L2 : List En} {c x : Cl} {r b : Bool} (h : OkE L) (hb : itsB n c = b) (hx : takeC kf ps ws need n 0 L c r = x) (hL : takeL n L c r = L2) :
    (b = false → L2 = L) ∧ (b = true → OkE L2 ∧ (∃ M, L2 = L ++ M) ∧ (x.saga = c.saga ∧ x.step = c.step ∧ x.back = c.back) ∧ (∀ e ∈ L, isE c.saga c.step c.back e = true → e.good = x.good) ∧
      ∀ hd ud, L.any (isE c.saga c.step c.back) = hd → L.any (undF c.saga c.step) = ud → (L2.length ≤ L.length + 1) ∧ (hd = true → (L2.length : Int) = (L.length : Int)) ∧ (x.good = true → hd = false → (L2.length : Int) = (L.length : Int) + 1) ∧ (x.back = false → ud = true → hd = false → x.good = false)) := by
  refine ⟨fun h1 => by rw [← hL]; unfold takeL; rw [hb, h1]; rfl, fun h1 => ?_⟩
  subst h1
  have e1 : x = ansC kf ps ws need 0 c (goodE L c r) := by rw [← hx]; unfold takeC; rw [if_pos hb]
  have e2 : L2 = keepL L c r := by rw [← hL]; unfold takeL; rw [if_pos hb]
  have hg : x.good = goodE L c r := by rw [e1]; rfl
  subst e2
  refine ⟨okE_keep h c r, keep_pre L c r, by rw [e1]; exact ⟨rfl, rfl, rfl⟩, fun e he hi => ?_, fun hd ud hhd hud => ⟨keep_len L c r, fun k => ?_, fun k1 k2 => ?_, fun k1 k2 k3 => ?_⟩⟩
  · obtain ⟨a1, a2, a3⟩ := (isE_iff _ _ _ _).1 hi
    have := h e he
    rw [a1, a2, a3] at this
    rw [hg]; unfold goodE; rw [this]; rfl
  · rw [any_has, k] at hhd
    rw [keep_has L c r hhd]
  · rw [any_has, k2] at hhd
    have hn : hasE L c.saga c.step c.back = none := by simpa using hhd
    rw [hg] at k1
    rcases good_put k1 with k | k
    · rw [hn] at k; cases k
    · unfold keepL; rw [hn, if_neg (by simp), if_pos k]; simp
  · rw [any_has, k3] at hhd
    have hn : hasE L c.saga c.step c.back = none := by simpa using hhd
    rw [k2, List.any_eq_true] at hud
    obtain ⟨e, he, hu⟩ := hud
    simp only [undF, Bool.and_eq_true, beq_iff_eq] at hu
    obtain ⟨⟨⟨a1, a2⟩, a3⟩, a4⟩ := hu
    have := h e he
    rw [a1, a2, a3, a4] at this
    rw [hg]
    unfold goodE goodN undE
    rw [hn, this]
    have hbk : c.back = false := by rw [e1] at k1; exact k1
    rw [hbk]
    simp
theorem once_again {kf : Hs → List Int → Hs} {ps ws : List Hs} {need n : Int} {L L2 : List En} {c x x2 : Cl} {r r2 : Bool} (hb : itsB n c = true) (hx : takeC kf ps ws need n 0 L c r = x) (hL : takeL n L c r = L2) (hx2 : takeC kf ps ws need n 0 L2 c r2 = x2) (hg : x.good = true) : x2.good = true := by
  have e1 : x.good = goodE L c r := by rw [← hx]; unfold takeC; rw [if_pos hb]; rfl
  have e2 : L2 = keepL L c r := by rw [← hL]; unfold takeL; rw [if_pos hb]
  have e3 : x2.good = goodE L2 c r2 := by rw [← hx2]; unfold takeC; rw [if_pos hb]; rfl
  rw [e3, e2]
  exact (good_stays (e1 ▸ hg) c rfl rfl rfl r2).1
set_option maxHeartbeats 4000000 in
theorem PartOnce_walk (v v2 : Value) (ps ws : List Hs) (need n : Int) (l : List Ac) (w : World) (hT : Tables w) (hk : KeysV w v ps ws need) (hl : RdL 43 acE w v2 l) : Calls Tryd.prog 5 #[v, .int .i64 n, v2] w fun e w' => e = .returned (.bool true) ∧ Below w.heap.size w w' := by
  obtain ⟨kf, tg, pf, hX⟩ := keyH_ex
  obtain ⟨pv, wv, rfl, hpv, hwv⟩ := hk
  have HTT := Lib.hid hT
  have HPP := Lib.hid hpv
  have HWW := Lib.hid hwv
  have HL := Lib.hid hl
  clear hl
  clear hT hpv hwv
  go_enter Tryd.func5, Tryd.ntmps5
  go_upto_region 1 with fail
  have r_gk := rowIs_box w 24 3 (keyF pv wv need)
  have hN : NewT w (w.alloc (.cells (rowA 3 (keyF pv wv need)) 24)) := NewT.alloc _ _
  change Code.wp _ _ _ _ (w.alloc (.cells (rowA 3 (keyF pv wv need)) 24))
  generalize (w.alloc (.cells (rowA 3 (keyF pv wv need)) 24)) = W0 at r_gk hN ⊢
  obtain ⟨gk, h_gk⟩ : ∃ g_, w.heap.size = g_ := ⟨_, rfl⟩
  have HG : Hid (w.heap.size ≤ gk) := Lib.hid (by omega)
  rw [h_gk] at r_gk
  simp only [h_gk]
  have Rgk := Lib.hid r_gk
  have HM := Lib.hid hN
  clear r_gk hN h_gk
  go_upto_region 1 with fail
  refine wp_region_steps0 NewT [SV.eq (.bool true), SV.eq (.bool false)] [([], none), ([(19, some 0)], none)] 211 2 rfl rfl (by kernel_rfl) NewT.trans (NewT.refl _) (Nat.le_of_ble_eq_true rfl) ⟨?_, ?_, trivial⟩ ?_
  · exact fun a wx hT hF K hK => rely_wp rfl (opr_cv (alive13_cv wx ((NewT.trans _ _ _ HM.out hT).tables HTT.out)) rfl Tryd.func9 (by kernel_rfl) (by kernel_rfl) evs0 hK)
  · exact fun a wx hT hF K hK => rely_wp rfl (opr_not rfl hF.1 (hK _ _ (NewT.refl _) rfl))
  · intro w1 k1
    iterate 2 (intro u h; obtain rfl := Eq.symm (h (by simp)); clear h)
    refine relyEnd_nil rfl ?_
    refine wpList_end rfl ?_
    simp only [Act.put, List.setIfInBounds_toArray, List.set_cons_zero, List.set_cons_succ]
    go_simp
    replace Rgk := Lib.hid (k1.row Rgk.out)
    replace HM := Lib.hid (NewT.trans _ _ _ HM.out k1)
    clear k1
    go_upto_region 3 with fail
    obtain ⟨q1_3, Q1_3⟩ : ∃ bq_, ((!(fewB ps ws (List.length (l)))) || (!(hasB ps ws need n 0))) = bq_ := ⟨_, rfl⟩
    refine wp_region_steps0 NewT [SV.eq (.agg (rowA 3 (keyF pv wv need))), SV.eq (v2), SV.eq (.bool (fewB ps ws (List.length (l)))), SV.eq (.bool (!(fewB ps ws (List.length (l))))), SV.eq (.bool (!(fewB ps ws (List.length (l))))), svIf ((!(!(fewB ps ws (List.length (l)))))) (SV.eq (.agg (rowA 3 (keyF pv wv need)))), svIf ((!(!(fewB ps ws (List.length (l)))))) (SV.eq (.int .i64 (n))), svIf ((!(!(fewB ps ws (List.length (l)))))) (SV.eq (.bool (hasB ps ws need n 0))), svIf ((!(!(fewB ps ws (List.length (l)))))) (SV.eq (.bool (!(hasB ps ws need n 0)))), SV.eq (.bool (q1_3))] [([(3, none)], none), ([(2, none)], none), ([(21, some 0), (22, some 1)], none), ([(23, some 2)], none), ([(24, some 3)], none), ([(3, none), (25, some 4)], some (25, false)), ([(1, none), (25, some 4)], some (25, false)), ([(26, some 5), (27, some 6), (25, some 4)], some (25, false)), ([(28, some 7), (25, some 4)], some (25, false)), ([(25, some 4), (29, some 8)], none)] 211 10 rfl rfl (by kernel_rfl) NewT.trans (NewT.refl _) (Nat.le_of_ble_eq_true rfl) ⟨?_, ?_, ?_, ?_, ?_, ?_, ?_, ?_, ?_, ?_, trivial⟩ ?_
    · exact fun a wx hT hF K hK => rely_wp rfl (opr_ldY (hT.row Rgk.out) rfl hF.1 (hK _ _ (NewT.refl _) rfl))
    · exact fun a wx hT hF K hK => rely_wp rfl (opr_move (.inl rfl) (hK _ _ (NewT.refl _) hF.1))
    · exact fun a wx hT hF K hK => rely_wp rfl (opr_cv (few_cv _ _ ps ws need l wx (⟨pv, wv, rfl, (NewT.trans _ _ _ HM.out hT).hs HPP.out, (NewT.trans _ _ _ HM.out hT).hs HWW.out⟩ : KeysV wx (.agg (rowA 3 (keyF pv wv need))) ps ws need) (HL.out.new (NewT.trans _ _ _ HM.out hT))) rfl Tryd.func10 (by kernel_rfl) (by kernel_rfl) (evs2 hF.1 hF.2.1) hK)
    · exact fun a wx hT hF K hK => rely_wp rfl (opr_not rfl hF.1 (hK _ _ (NewT.refl _) rfl))
    · exact fun a wx hT hF K hK => rely_wp rfl (opr_move (.inl rfl) (hK _ _ (NewT.refl _) hF.1))
    · exact fun a wx hT hF K hK => rely_if (rely_gf hF.2.1) (NewT.refl _) hK fun hE hK => opr_ldY (hT.row Rgk.out) rfl hF.1 (hK _ _ (NewT.refl _) rfl)
    · exact fun a wx hT hF K hK => rely_if (rely_gf hF.2.1) (NewT.refl _) hK fun hE hK => opr_move (.inl rfl) (hK _ _ (NewT.refl _) hF.1)
    · exact fun a wx hT hF K hK => rely_if (rely_gf hF.2.2.1) (NewT.refl _) hK fun hE hK => opr_cv (RKnown_cv _ ps ws need n 0 wx (⟨pv, wv, rfl, (NewT.trans _ _ _ HM.out hT).hs HPP.out, (NewT.trans _ _ _ HM.out hT).hs HWW.out⟩ : KeysV wx (.agg (rowA 3 (keyF pv wv need))) ps ws need)) rfl Tryd.func12 (by kernel_rfl) (by kernel_rfl) (evs3 (hF.1 hE) (hF.2.1 hE) rfl) hK
    · exact fun a wx hT hF K hK => rely_if (rely_gf hF.2.1) (NewT.refl _) hK fun hE hK => opr_not rfl (hF.1 hE) (hK _ _ (NewT.refl _) rfl)
    · exact fun a wx hT hF K hK => rely_wp rfl (opr_pick_b rfl hF.1 (fun hb => hK _ _ (NewT.refl _) (pn_or1 Q1_3 hb)) (fun hb => hK _ _ (NewT.refl _) (pn_or0 Q1_3 (hF.2.1 (bnot hb)) hb)))
    · intro w2 k2
      iterate 5 (intro u h; obtain rfl := Eq.symm (h (by simp)); clear h)
      iterate 4 (intro _ _)
      intro u h; obtain rfl := Eq.symm (h (by simp)); clear h
      subst Q1_3
      refine relyEnd_nil rfl ?_
      refine wpList_end rfl ?_
      simp only [Act.put, List.setIfInBounds_toArray, List.set_cons_zero, List.set_cons_succ]
      go_simp
      replace Rgk := Lib.hid (k2.row Rgk.out)
      replace HM := Lib.hid (NewT.trans _ _ _ HM.out k2)
      clear k2
      cases hb : (((!(fewB ps ws (List.length (l)))) || (!(hasB ps ws need n 0))))
      · simp only [Bool.or_eq_false_iff, Bool.not_eq_false'] at hb
        have HKN : Hid (hasB ps ws need n 0 = true) := Lib.hid hb.2
        have HLE : Hid (l.length ≤ 60) := Lib.hid (by have h1 := hb.1; simp only [fewB, Bool.and_eq_true, decide_eq_true_eq] at h1; omega)
        clear hb
        go_upto_region 5 with fail
        refine wp_region_steps0 NewT [SV.eq (.agg (rowA 3 (keyF pv wv need))), SV.eq (.int .i64 (n)), svPart w2.heap.size n ps ws need, svPart w2.heap.size n ps ws need] [([(3, none)], none), ([(1, none)], none), ([(31, some 0), (32, some 1)], none), ([(33, some 2)], none)] 211 4 rfl rfl (by kernel_rfl) NewT.trans (NewT.refl _) (Nat.le_of_ble_eq_true rfl) ⟨?_, ?_, ?_, ?_, trivial⟩ ?_
        · exact fun a wx hT hF K hK => rely_wp rfl (opr_ldY (hT.row Rgk.out) rfl hF.1 (hK _ _ (NewT.refl _) rfl))
        · exact fun a wx hT hF K hK => rely_wp rfl (opr_move (.inl rfl) (hK _ _ (NewT.refl _) hF.1))
        · exact fun a wx hT hF K hK => rely_wp rfl (opr_cv (New_yes w2.heap.size _ ps ws need n wx hT.out.size (⟨pv, wv, rfl, (NewT.trans _ _ _ HM.out hT).hs HPP.out, (NewT.trans _ _ _ HM.out hT).hs HWW.out⟩ : KeysV wx (.agg (rowA 3 (keyF pv wv need))) ps ws need) HKN.out) rfl Tryd.func11 (by kernel_rfl) (by kernel_rfl) (evs2 hF.1 hF.2.1) hK)
        · exact fun a wx hT hF K hK => rely_wp rfl (opr_move (.inr rfl) (hK _ _ (NewT.refl _) hF.1))
        · intro w3 k3
          iterate 2 (intro u h; obtain rfl := Eq.symm (h (by simp)); clear h)
          intro _ _
          intro u7 h; have g7 := h (by simp); clear h; replace g7 := show (svPart w2.heap.size n ps ws need).pred u7 w3 from g7
          refine relyEnd_nil rfl ?_
          refine wpList_end rfl ?_
          simp only [Act.put, List.setIfInBounds_toArray, List.set_cons_zero, List.set_cons_succ]
          go_simp
          obtain ⟨gp, hi, hv2, hPA⟩ := g7
          subst hv2
          obtain ⟨lo, hlo⟩ : ∃ x, w2.heap.size = x := ⟨_, rfl⟩
          have HLO : Hid (2 ≤ lo ∧ gk < lo ∧ lo ≤ hi ∧ w.heap.size ≤ lo) := Lib.hid (by rw [hlo] at hPA; have h1 := hPA.lt; have h2 := HTT.out.size; have h3 := HM.out.out.size; have h_gk := Rgk.out.lt; omega)
          rw [hlo] at hPA
          have HPA := Lib.hid hPA
          clear hPA hlo
          replace Rgk := Lib.hid (k3.row Rgk.out)
          replace HM := Lib.hid (NewT.trans _ _ _ HM.out k3)
          clear k3
          go_wp2
          go_loopw [8] (fun i wr => ∃ (k : Nat) (L : List En), k ≤ l.length ∧ i = .int .i64 (k : Int) ∧ Hid (NewT w wr) ∧ Hid (PartAt wr lo hi gp n 0 ps ws need L) ∧ Hid (L.length ≤ 2 * k) ∧ Hid (OkE L)) (fun i _ => l.length - (intOf i).toNat)
          case atStart => exact ⟨0, [], by omega, rfl, HM, HPA, Lib.hid (by simp), Lib.hid okE_nil⟩
          case round =>
            clear HM HPA Rgk
            obtain ⟨k, L, hk, rfl, HM, HPA, HLK, HOK⟩ := hrel
            by_cases hlt : k < l.length
            rotate_left
            · have HGE : Hid (¬ (k : Int) < (l.length : Int)) := Lib.hid (by omega)
              clear hlt
              go_upto_region 7 with fail
              refine wp_region_steps0 NewT [SV.eq (.int .i64 ((k : Int))), SV.eq (v2), SV.eq (.int .i64 ((List.length (l) : Int))), SV.eq (.bool false)] [([(8, none)], none), ([(2, none)], none), ([(35, some 1)], none), ([(34, some 0), (36, some 2)], none)] 211 4 rfl rfl (by kernel_rfl) NewT.trans (NewT.refl _) (Nat.le_of_ble_eq_true rfl) ⟨?_, ?_, ?_, ?_, trivial⟩ ?_
              · exact fun a wx hT hF K hK => rely_wp rfl (opr_move (.inl rfl) (hK _ _ (NewT.refl _) hF.1))
              · exact fun a wx hT hF K hK => rely_wp rfl (opr_move (.inl rfl) (hK _ _ (NewT.refl _) hF.1))
              · intro a wx hT hF K hK
                obtain ⟨f35, _⟩ := hF
                have f35 : a.tmps.getD 35 undef = v2 := f35
                refine rely_wp rfl ?_
                exact opr_lenL rfl actEl (by rw [eval_tmp, f35]; exact (HL.out.new (NewT.trans _ _ _ HM.out hT))) (hK _ _ (NewT.refl _) rfl)
              · exact fun a wx hT hF K hK => rely_wp rfl (opr_cmp (b := false) (.inr (.inr (.inr (.inl ⟨rfl, (by exact decide_eq_false HGE.out)⟩)))) Tryd.underlying3 rfl hF.1 hF.2.1 (hK _ _ (NewT.refl _) rfl))
              · intro w4 k4
                iterate 4 (intro u h; obtain rfl := Eq.symm (h (by simp)); clear h)
                refine relyEnd_nil rfl ?_
                refine wpList_end rfl ?_
                simp only [Act.put, List.setIfInBounds_toArray, List.set_cons_zero, List.set_cons_succ]
                go_simp
                replace HPA := Lib.hid (HPA.out.new k4)
                replace HM := Lib.hid (NewT.trans _ _ _ HM.out k4)
                clear k4
                go_wp2
                go_ret
                exact ⟨rfl, HM.out.out⟩
            · obtain ⟨y, hy⟩ : ∃ y, l[k]? = some y := ⟨_, List.getElem?_eq_getElem hlt⟩
              obtain ⟨lb, lof, lc, hv, hcc⟩ := acts_at HL.out hy
              have HLB : Hid (lb < w.heap.size) := Lib.hid (cell_lt (hcc 0 (by omega)))
              have HC0 : Hid (w.cell? ⟨lb, lof + k * 43, none⟩ = some (.int .i64 y.kind)) := Lib.hid (hcc 0 (by omega))
              have HC1 : Hid (∀ j, j < 41 → w.cell? ⟨lb, lof + k * 43 + 1 + j, none⟩ = some (clF y.c j)) := Lib.hid (fun j hj => by rw [Nat.add_assoc, hcc (1 + j) (by omega), acF_c _ _ hj])
              have HC2 : Hid (w.cell? ⟨lb, lof + k * 43 + 42, none⟩ = some (.bool y.r)) := Lib.hid (hcc 42 (by omega))
              have HKL := Lib.hid hlt
              have HYL := Lib.hid hy
              have HGE : Hid ((k : Int) < (l.length : Int)) := Lib.hid (by omega)
              obtain ⟨x, hx⟩ : ∃ x, takeC kf ps ws need n 0 L y.c y.r = x := ⟨_, rfl⟩
              obtain ⟨b, hb⟩ : ∃ b, itsB n y.c = b := ⟨_, rfl⟩
              obtain ⟨L2, hL2⟩ : ∃ M, takeL n L y.c y.r = M := ⟨_, rfl⟩
              have HX := Lib.hid hx
              have HB := Lib.hid hb
              have HL2 := Lib.hid hL2
              have HLL : Hid (L.length ≤ 1000 ∧ L2.length ≤ L.length + 1 ∧ L2.length ≤ 1000) := Lib.hid (by have h1 := HLK.out; have h2 := HLE.out; have h3 := take_len n L y.c y.r; rw [hL2] at h3; omega)
              have HF := Lib.hid (once_facts HOK.out hb hx hL2)
              subst hv
              clear hcc hy hlt hx hb hL2
              go_upto_region 7 with fail
              refine wp_region_steps0 NewT [SV.eq (.int .i64 ((k : Int))), SV.eq ((.slice (some ⟨lb, lof, none⟩) l.length lc)), SV.eq (.int .i64 ((List.length (l) : Int))), SV.eq (.bool true)] [([(8, none)], none), ([(2, none)], none), ([(35, some 1)], none), ([(34, some 0), (36, some 2)], none)] 211 4 rfl rfl (by kernel_rfl) NewT.trans (NewT.refl _) (Nat.le_of_ble_eq_true rfl) ⟨?_, ?_, ?_, ?_, trivial⟩ ?_
              · exact fun a wx hT hF K hK => rely_wp rfl (opr_move (.inl rfl) (hK _ _ (NewT.refl _) hF.1))
              · exact fun a wx hT hF K hK => rely_wp rfl (opr_move (.inl rfl) (hK _ _ (NewT.refl _) hF.1))
              · intro a wx hT hF K hK
                obtain ⟨f35, _⟩ := hF
                have f35 : a.tmps.getD 35 undef = (.slice (some ⟨lb, lof, none⟩) l.length lc) := f35
                refine rely_wp rfl ?_
                exact opr_lenL rfl actEl (by rw [eval_tmp, f35]; exact (HL.out.new (NewT.trans _ _ _ HM.out hT))) (hK _ _ (NewT.refl _) rfl)
              · exact fun a wx hT hF K hK => rely_wp rfl (opr_cmp (b := true) (.inr (.inr (.inr (.inl ⟨rfl, (by exact decide_eq_true HGE.out)⟩)))) Tryd.underlying3 rfl hF.1 hF.2.1 (hK _ _ (NewT.refl _) rfl))
              · intro w5 k5
                iterate 4 (intro u h; obtain rfl := Eq.symm (h (by simp)); clear h)
                refine relyEnd_nil rfl ?_
                refine wpList_end rfl ?_
                simp only [Act.put, List.setIfInBounds_toArray, List.set_cons_zero, List.set_cons_succ]
                go_simp
                replace HPA := Lib.hid (HPA.out.new k5)
                replace HM := Lib.hid (NewT.trans _ _ _ HM.out k5)
                clear k5
                go_upto_region 9 with fail
                refine wp_region_steps0 NewT [SV.eq (.pointer (some ⟨gp, 0, none⟩)), svEs hi L, svEs hi L] [([(7, none)], none), ([(40, some 0)], none), ([(41, some 1)], none)] 211 3 rfl rfl (by kernel_rfl) NewT.trans (NewT.refl _) (Nat.le_of_ble_eq_true rfl) ⟨?_, ?_, ?_, trivial⟩ ?_
                · exact fun a wx hT hF K hK => rely_wp rfl (opr_move (.inl rfl) (hK _ _ (NewT.refl _) hF.1))
                · exact fun a wx hT hF K hK => rely_wp rfl (opr_cv (Entries_a hi wx (HPA.out.new hT) (by have := HLL.out; omega) (Nat.le_trans HPA.out.lt.2.2 hT.out.size)) rfl Tryd.func16 (by kernel_rfl) (by kernel_rfl) (evs1 hF.1) hK)
                · exact fun a wx hT hF K hK => rely_wp rfl (opr_move (.inr rfl) (hK _ _ (NewT.refl _) hF.1))
                · intro w6 k6
                  intro u h; obtain rfl := Eq.symm (h (by simp)); clear h
                  intro _ _
                  intro u9 h; have g9 := h (by simp); clear h; replace g9 := show (svEs hi L).pred u9 w6 from g9
                  refine relyEnd_nil rfl ?_
                  refine wpList_end rfl ?_
                  simp only [Act.put, List.setIfInBounds_toArray, List.set_cons_zero, List.set_cons_succ]
                  go_simp
                  have HWA := Lib.hid (show RdEy hi w6 u9 L from g9)
                  clear g9
                  replace HPA := Lib.hid (HPA.out.new k6)
                  replace HM := Lib.hid (NewT.trans _ _ _ HM.out k6)
                  clear k6
                  go_upto_region 10 with fail
                  have HPW : Hid (hi ≤ w6.heap.size) := Lib.hid HPA.out.lt.2.2
                  have HSZ : Hid (lo ≤ w6.heap.size) := Lib.hid (by have := HPA.out.lt; omega)
                  have HTW := Lib.hid (HM.out.tables HTT.out)
                  refine wp_region_relyL (PW w6 lo hi) (JL 11 15 16 10 (fun w => PartAt w lo hi gp n 0 ps ws need L) (fun w => PartAt w lo hi gp n 0 ps ws need L2) w6 34 41 (clF x)) [SV.eq (.pointer (some ⟨gp, 0, none⟩)), SV.eq ((.slice (some ⟨lb, lof, none⟩) l.length lc)), SV.eq (.int .i64 ((k : Int))), SV.eq (.pointer (some ⟨lb, lof + k * 43, none⟩)), SV.eq (.pointer (some ⟨lb, lof + k * 43 + 1, none⟩)), SV.eq (.agg (rowA 41 (clF y.c))), SV.eq ((.slice (some ⟨lb, lof, none⟩) l.length lc)), SV.eq (.int .i64 ((k : Int))), SV.eq (.pointer (some ⟨lb, lof + k * 43, none⟩)), SV.eq (.pointer (some ⟨lb, lof + k * 43 + 42, none⟩)), SV.eq (.bool (y.r)), SV.eq ((.tuple #[.agg (rowA 41 (clF x)), .bool b])), SV.eq ((.tuple #[.agg (rowA 41 (clF x)), .bool b])), SV.eq (.agg (rowA 41 (clF x))), SV.eq (.bool (b)), svPtV, SV.any] [([(7, none)], none), ([(2, none)], none), ([(8, none)], none), ([(44, some 1), (45, some 2)], none), ([(46, some 3)], none), ([(47, some 4)], none), ([(2, none)], none), ([(8, none)], none), ([(49, some 6), (50, some 7)], none), ([(51, some 8)], none), ([(52, some 9)], none), ([(43, some 0), (48, some 5), (53, some 10)], none), ([(54, some 11)], none), ([(42, some 12)], none), ([(42, some 12)], none), ([], none), ([(10, some 15), (55, some 13)], none)] 211 rfl (by kernel_rfl) rfl (by kernel_rfl) (by kernel_rfl) rfl PW.trans (PW.drew _) (JL.start (HPA.out.drew) _) (Nat.le_of_ble_eq_true rfl) ⟨?_, ?_, ?_, ?_, ?_, ?_, ?_, ?_, ?_, ?_, ?_, ?_, ?_, ?_, ?_, ?_, ?_, trivial⟩ ?_
                  · exact fun a wx li hT hF hJ hx K hK => have hK := fun v w' (hN : NewT wx w') hv => hK v w' (PW.new hT hN HSZ.out) (JL.new hJ (by decide) (by simp) hN (fun h => PartAt.new h hN) (fun h => PartAt.new h hN)) hv; rely_wp rfl (opr_move (.inl rfl) (hK _ _ (NewT.refl _) hF.1))
                  · exact fun a wx li hT hF hJ hx K hK => have hK := fun v w' (hN : NewT wx w') hv => hK v w' (PW.new hT hN HSZ.out) (JL.new hJ (by decide) (by simp) hN (fun h => PartAt.new h hN) (fun h => PartAt.new h hN)) hv; rely_wp rfl (opr_move (.inl rfl) (hK _ _ (NewT.refl _) hF.1))
                  · exact fun a wx li hT hF hJ hx K hK => have hK := fun v w' (hN : NewT wx w') hv => hK v w' (PW.new hT hN HSZ.out) (JL.new hJ (by decide) (by simp) hN (fun h => PartAt.new h hN) (fun h => PartAt.new h hN)) hv; rely_wp rfl (opr_move (.inl rfl) (hK _ _ (NewT.refl _) hF.1))
                  · exact fun a wx li hT hF hJ hx K hK => have hK := fun v w' (hN : NewT wx w') hv => hK v w' (PW.new hT hN HSZ.out) (JL.new hJ (by decide) (by simp) hN (fun h => PartAt.new h hN) (fun h => PartAt.new h hN)) hv; rely_wp rfl (opr_idxB actEl HKL.out rfl rfl hF.1 hF.2.1 (hK _ _ (NewT.refl _) rfl))
                  · exact fun a wx li hT hF hJ hx K hK => have hK := fun v w' (hN : NewT wx w') hv => hK v w' (PW.new hT hN HSZ.out) (JL.new hJ (by decide) (by simp) hN (fun h => PartAt.new h hN) (fun h => PartAt.new h hN)) hv; rely_wp rfl (opr_fldAc1 rfl hF.1 (hK _ _ (NewT.refl _) rfl))
                  · exact fun a wx li hT hF hJ hx K hK => have hK := fun v w' (hN : NewT wx w') hv => hK v w' (PW.new hT hN HSZ.out) (JL.new hJ (by decide) (by simp) hN (fun h => PartAt.new h hN) (fun h => PartAt.new h hN)) hv; rely_wp rfl (opr_ldClC (c := y.c) (fun j hj => (hT.cell ((HM.out.out.cell (cell_lt (HC1.out j hj))).trans (HC1.out j hj)) (.inl (Nat.lt_of_lt_of_le HLB.out HLO.out.2.2.2)))) rfl hF.1 (hK _ _ (NewT.refl _) rfl))
                  · exact fun a wx li hT hF hJ hx K hK => have hK := fun v w' (hN : NewT wx w') hv => hK v w' (PW.new hT hN HSZ.out) (JL.new hJ (by decide) (by simp) hN (fun h => PartAt.new h hN) (fun h => PartAt.new h hN)) hv; rely_wp rfl (opr_move (.inl rfl) (hK _ _ (NewT.refl _) hF.1))
                  · exact fun a wx li hT hF hJ hx K hK => have hK := fun v w' (hN : NewT wx w') hv => hK v w' (PW.new hT hN HSZ.out) (JL.new hJ (by decide) (by simp) hN (fun h => PartAt.new h hN) (fun h => PartAt.new h hN)) hv; rely_wp rfl (opr_move (.inl rfl) (hK _ _ (NewT.refl _) hF.1))
                  · exact fun a wx li hT hF hJ hx K hK => have hK := fun v w' (hN : NewT wx w') hv => hK v w' (PW.new hT hN HSZ.out) (JL.new hJ (by decide) (by simp) hN (fun h => PartAt.new h hN) (fun h => PartAt.new h hN)) hv; rely_wp rfl (opr_idxB actEl HKL.out rfl rfl hF.1 hF.2.1 (hK _ _ (NewT.refl _) rfl))
                  · exact fun a wx li hT hF hJ hx K hK => have hK := fun v w' (hN : NewT wx w') hv => hK v w' (PW.new hT hN HSZ.out) (JL.new hJ (by decide) (by simp) hN (fun h => PartAt.new h hN) (fun h => PartAt.new h hN)) hv; rely_wp rfl (opr_fldAc2 rfl hF.1 (hK _ _ (NewT.refl _) rfl))
                  · exact fun a wx li hT hF hJ hx K hK => have hK := fun v w' (hN : NewT wx w') hv => hK v w' (PW.new hT hN HSZ.out) (JL.new hJ (by decide) (by simp) hN (fun h => PartAt.new h hN) (fun h => PartAt.new h hN)) hv; rely_wp rfl (opr_ld1 Tryd.underlying4 rfl rfl hF.1 ((hT.cell ((HM.out.out.cell (cell_lt (HC2.out))).trans (HC2.out)) (.inl (Nat.lt_of_lt_of_le HLB.out HLO.out.2.2.2)))) (hK _ _ (NewT.refl _) rfl))
                  · intro a wx li hT hF hJ hx K hK
                    obtain ⟨f43, f48, f53, _⟩ := hF
                    have f43 : a.tmps.getD 43 undef = .pointer (some ⟨gp, 0, none⟩) := f43
                    have f48 : a.tmps.getD 48 undef = .agg (rowA 41 (clF y.c)) := f48
                    have f53 : a.tmps.getD 53 undef = .bool (y.r) := f53
                    refine rely_wp rfl ?_
                    refine opr_call rfl Tryd.func13 (by kernel_rfl) (by kernel_rfl) (vs := #[.pointer (some ⟨gp, 0, none⟩), .agg (rowA 41 (clF y.c)), .bool y.r]) (by simp only [List.map_toArray, List.map_cons, List.map_nil, eval_tmp, f43, f48, f53]) ((Take_k hX wx (hT.tables HTW.out HLO.out.1) HLO.out.1 (hJ.pre hx.no) HB.out HX.out HL2.out).mono ?_)
                    rintro ex w4 ⟨rfl, hP4, hA4⟩
                    exact ⟨_, rfl, hK _ _ (hT.pt hP4) (JL.call hJ hx (by decide) (by simp) hA4 (fun b F hb hr => hP4.row hr (.inr (Nat.le_trans HPW.out hb)))) rfl⟩
                  · exact fun a wx li hT hF hJ hx K hK => have hK := fun v w' (hN : NewT wx w') hv => hK v w' (PW.new hT hN HSZ.out) (JL.new hJ (by decide) (by simp) hN (fun h => PartAt.new h hN) (fun h => PartAt.new h hN)) hv; rely_wp rfl (opr_move (.inl rfl) (hK _ _ (NewT.refl _) hF.1))
                  · exact fun a wx li hT hF hJ hx K hK => have hK := fun v w' (hN : NewT wx w') hv => hK v w' (PW.new hT hN HSZ.out) (JL.new hJ (by decide) (by simp) hN (fun h => PartAt.new h hN) (fun h => PartAt.new h hN)) hv; rely_wp rfl (opr_ext rfl hF.1 rfl (hK _ _ (NewT.refl _) rfl))
                  · exact fun a wx li hT hF hJ hx K hK => have hK := fun v w' (hN : NewT wx w') hv => hK v w' (PW.new hT hN HSZ.out) (JL.new hJ (by decide) (by simp) hN (fun h => PartAt.new h hN) (fun h => PartAt.new h hN)) hv; rely_wp rfl (opr_ext rfl hF.1 rfl (hK _ _ (NewT.refl _) rfl))
                  · intro a wx li hT hF hJ hx K hK
                    refine rely_wp rfl ?_
                    refine opr_allocV rfl run_alloc_cl ?_
                    exact hK _ _ (PW.new hT (NewT.alloc _ _) HSZ.out) (JL.alloc hJ hx (by decide) hT.below.size (fun h => PartAt.new h (NewT.alloc _ _)) (fun h => PartAt.new h (NewT.alloc _ _))) ⟨_, rfl⟩
                  · intro a wx li hT hF hJ hx K hK
                    obtain ⟨f10, f55, _⟩ := hF
                    replace f10 := show (svPtV).pred (a.tmps.getD 10 undef) wx from f10
                    have f55 : a.tmps.getD 55 undef = .agg (rowA 41 (clF x)) := f55
                    refine rely_wp rfl ?_
                    obtain ⟨bv, hbv⟩ := f10
                    obtain ⟨hb2, F0, hb3, _⟩ := hJ.var (hx.waits 15 (by kernel_rfl)) bv hbv
                    refine opr_putmB (g := bv) (o0 := 0) (m := 41) (f := clF x) (F := clF x) rfl hbv f55 hb3 (by decide) info_cl (clF_one _) (put_allN _ _ _) ?_
                    intro w' hR hO hr2
                    exact hK _ _ (hT.store hb2 HSZ.out hR) (JL.store hJ hx (by decide) (hx.waits 15 (by kernel_rfl)) hbv hb2 hr2 (fun h => h.of hR.size fun k _ hk => hO k (by have := h.lt; omega) (by have := HPW.out; omega)) (fun h => h.of hR.size fun k _ hk => hO k (by have := h.lt; omega) (by have := HPW.out; omega))) trivial
                  · intro w7 k7
                    iterate 15 (intro u h; obtain rfl := Eq.symm (h (by simp)); clear h)
                    intro u h; obtain ⟨p10, hv⟩ := (h (by simp)); clear h; subst hv
                    intro _ _
                    refine relyEnd_nil rfl ?_
                    intro hJ
                    simp only [Act.put, List.setIfInBounds_toArray, List.set_cons_zero, List.set_cons_succ]
                    obtain ⟨hBw, hbz, hrz⟩ := JL.at (g := p10) hJ (by decide) (by kernel_rfl)
                    refine opr_move (.inr rfl) ?_
                    go_simp
                    clear hJ
                    obtain ⟨ga, h_ga⟩ : ∃ g_, p10 = g_ := ⟨_, rfl⟩
                    rw [h_ga] at hbz hrz
                    simp only [h_ga]
                    clear h_ga
                    have HGga : Hid (hi ≤ ga ∧ w.heap.size ≤ ga) := Lib.hid ⟨Nat.le_trans HPA.out.lt.2.2 hbz, Nat.le_trans HM.out.out.size hbz⟩
                    replace HM := Lib.hid (NewT.of (HM.out.out.trans (k7.below.mono (by have h_0 := HG.out; have h_1 := HLO.out; omega))))
                    replace HPA := Lib.hid hBw
                    replace HWA := Lib.hid (HWA.out.pt k7.end (Nat.le_refl _))
                    have Rga := Lib.hid hrz
                    clear hrz hBw hbz k7 HPW HSZ HTW
                    go_upto_region 11 with fail
                    refine wp_region_steps0 NewT [SV.eq (.pointer (some ⟨gp, 0, none⟩)), svEs hi L2, svEs hi L2] [([(7, none)], none), ([(57, some 0)], none), ([(58, some 1)], none)] 211 3 rfl rfl (by kernel_rfl) NewT.trans (NewT.refl _) (Nat.le_of_ble_eq_true rfl) ⟨?_, ?_, ?_, trivial⟩ ?_
                    · exact fun a wx hT hF K hK => rely_wp rfl (opr_move (.inl rfl) (hK _ _ (NewT.refl _) hF.1))
                    · exact fun a wx hT hF K hK => rely_wp rfl (opr_cv (Entries_a hi wx (HPA.out.new hT) (by have := HLL.out; omega) (Nat.le_trans HPA.out.lt.2.2 hT.out.size)) rfl Tryd.func16 (by kernel_rfl) (by kernel_rfl) (evs1 hF.1) hK)
                    · exact fun a wx hT hF K hK => rely_wp rfl (opr_move (.inr rfl) (hK _ _ (NewT.refl _) hF.1))
                    · intro w8 k8
                      intro u h; obtain rfl := Eq.symm (h (by simp)); clear h
                      intro _ _
                      intro u12 h; have g12 := h (by simp); clear h; replace g12 := show (svEs hi L2).pred u12 w8 from g12
                      refine relyEnd_nil rfl ?_
                      refine wpList_end rfl ?_
                      simp only [Act.put, List.setIfInBounds_toArray, List.set_cons_zero, List.set_cons_succ]
                      go_simp
                      have HNO := Lib.hid (show RdEy hi w8 u12 L2 from g12)
                      clear g12
                      replace Rga := Lib.hid (k8.row Rga.out)
                      replace HPA := Lib.hid (HPA.out.new k8)
                      replace HWA := Lib.hid (HWA.out.new k8)
                      replace HM := Lib.hid (NewT.trans _ _ _ HM.out k8)
                      clear k8
                      cases b
                      · have HL0 : Hid (L2 = L) := Lib.hid (HF.out.1 rfl)
                        go_upto_region 12 with fail
                        refine wp_region_steps0 NewT [SV.eq (.bool false), SV.eq (.bool true)] [([(11, none)], none), ([(59, some 0)], none)] 211 2 rfl rfl (by kernel_rfl) NewT.trans (NewT.refl _) (Nat.le_of_ble_eq_true rfl) ⟨?_, ?_, trivial⟩ ?_
                        · exact fun a wx hT hF K hK => rely_wp rfl (opr_move (.inl rfl) (hK _ _ (NewT.refl _) hF.1))
                        · exact fun a wx hT hF K hK => rely_wp rfl (opr_not rfl hF.1 (hK _ _ (NewT.refl _) rfl))
                        · intro w9 k9
                          iterate 2 (intro u h; obtain rfl := Eq.symm (h (by simp)); clear h)
                          refine relyEnd_nil rfl ?_
                          refine wpList_end rfl ?_
                          simp only [Act.put, List.setIfInBounds_toArray, List.set_cons_zero, List.set_cons_succ]
                          go_simp
                          replace Rga := Lib.hid (k9.row Rga.out)
                          replace HPA := Lib.hid (HPA.out.new k9)
                          replace HWA := Lib.hid (HWA.out.new k9)
                          replace HNO := Lib.hid (HNO.out.new k9)
                          replace HM := Lib.hid (NewT.trans _ _ _ HM.out k9)
                          clear k9
                          go_upto_region 13 with fail
                          refine wp_region_steps0 NewT [SV.eq (u12), SV.eq (.int .i64 ((List.length (L2) : Int))), SV.eq (u9), SV.eq (.int .i64 ((List.length (L) : Int))), SV.eq (.bool false)] [([(12, none)], none), ([(61, some 0)], none), ([(9, none)], none), ([(63, some 2)], none), ([(62, some 1), (64, some 3)], none)] 211 5 rfl rfl (by kernel_rfl) NewT.trans (NewT.refl _) (Nat.le_of_ble_eq_true rfl) ⟨?_, ?_, ?_, ?_, ?_, trivial⟩ ?_
                          · exact fun a wx hT hF K hK => rely_wp rfl (opr_move (.inl rfl) (hK _ _ (NewT.refl _) hF.1))
                          · intro a wx hT hF K hK
                            obtain ⟨f61, _⟩ := hF
                            have f61 : a.tmps.getD 61 undef = u12 := f61
                            refine rely_wp rfl ?_
                            exact opr_lenL rfl entEl (by rw [eval_tmp, f61]; exact ((HNO.out.new hT).1)) (hK _ _ (NewT.refl _) rfl)
                          · exact fun a wx hT hF K hK => rely_wp rfl (opr_move (.inl rfl) (hK _ _ (NewT.refl _) hF.1))
                          · intro a wx hT hF K hK
                            obtain ⟨f63, _⟩ := hF
                            have f63 : a.tmps.getD 63 undef = u9 := f63
                            refine rely_wp rfl ?_
                            exact opr_lenL rfl entEl (by rw [eval_tmp, f63]; exact ((HWA.out.new hT).1)) (hK _ _ (NewT.refl _) rfl)
                          · exact fun a wx hT hF K hK => rely_wp rfl (opr_cmp (b := false) (.inr (.inl ⟨rfl, (by have := HL0.out; subst this; exact bne_self_eq_false _)⟩)) Tryd.underlying3 rfl hF.1 hF.2.1 (hK _ _ (NewT.refl _) rfl))
                          · intro w10 k10
                            iterate 5 (intro u h; obtain rfl := Eq.symm (h (by simp)); clear h)
                            refine relyEnd_nil rfl ?_
                            refine wpList_end rfl ?_
                            simp only [Act.put, List.setIfInBounds_toArray, List.set_cons_zero, List.set_cons_succ]
                            go_simp
                            replace Rga := Lib.hid (k10.row Rga.out)
                            replace HPA := Lib.hid (HPA.out.new k10)
                            replace HWA := Lib.hid (HWA.out.new k10)
                            replace HNO := Lib.hid (HNO.out.new k10)
                            replace HM := Lib.hid (NewT.trans _ _ _ HM.out k10)
                            clear k10
                            have hk2 := HGE.out
                            have hk3 := HLE.out
                            have HLK2 : Hid (L.length ≤ 2 * (k + 1)) := Lib.hid (by have := HLK.out; omega)
                            replace HPA := Lib.hid (HL0.out ▸ HPA.out)
                            go_wp2
                            go_roundw
                            case rel => exact ⟨k + 1, L, by omega, by go_num, by first | exact HM | trivial, by first | exact HPA | trivial, HLK2, HOK⟩
                            case measure => simp [intOf]; omega
                      · have HF2 := Lib.hid (HF.out.2 rfl)
                        go_upto_region 12 with fail
                        refine wp_region_steps0 NewT [SV.eq (.bool true), SV.eq (.bool false)] [([(11, none)], none), ([(59, some 0)], none)] 211 2 rfl rfl (by kernel_rfl) NewT.trans (NewT.refl _) (Nat.le_of_ble_eq_true rfl) ⟨?_, ?_, trivial⟩ ?_
                        · exact fun a wx hT hF K hK => rely_wp rfl (opr_move (.inl rfl) (hK _ _ (NewT.refl _) hF.1))
                        · exact fun a wx hT hF K hK => rely_wp rfl (opr_not rfl hF.1 (hK _ _ (NewT.refl _) rfl))
                        · intro w11 k11
                          iterate 2 (intro u h; obtain rfl := Eq.symm (h (by simp)); clear h)
                          refine relyEnd_nil rfl ?_
                          refine wpList_end rfl ?_
                          simp only [Act.put, List.setIfInBounds_toArray, List.set_cons_zero, List.set_cons_succ]
                          go_simp
                          replace Rga := Lib.hid (k11.row Rga.out)
                          replace HPA := Lib.hid (HPA.out.new k11)
                          replace HWA := Lib.hid (HWA.out.new k11)
                          replace HNO := Lib.hid (HNO.out.new k11)
                          replace HM := Lib.hid (NewT.trans _ _ _ HM.out k11)
                          clear k11
                          have HBM := HM
                          go_wp2
                          go_loopw [13, 14, 15] (fun h u i wr => ∃ j : Nat, j ≤ L.length ∧ i = .int .i64 (j : Int) ∧ h = .bool ((List.take j L).any (isE y.c.saga y.c.step y.c.back)) ∧ u = .bool ((List.take j L).any (undF y.c.saga y.c.step)) ∧ Hid (NewT w11 wr)) (fun _ _ i _ => L.length - (intOf i).toNat)
                          case atStart => exact ⟨0, by omega, rfl, rfl, rfl, Lib.hid (NewT.refl _)⟩
                          case round =>
                            clear HM
                            obtain ⟨j, hj, rfl, rfl, rfl, HM⟩ := hrel
                            by_cases hjt : j < L.length
                            rotate_left
                            · obtain rfl : j = L.length := by omega
                              have HGE2 : Hid (¬ (L.length : Int) < (L.length : Int)) := Lib.hid (by omega)
                              clear hjt hj
                              replace Rga := Lib.hid (HM.out.row Rga.out)
                              replace HPA := Lib.hid (HPA.out.new HM.out)
                              go_upto_region 17 with fail
                              refine wp_region_steps0 NewT [SV.eq (.int .i64 ((L.length : Int))), SV.eq (u9), SV.eq (.int .i64 ((List.length (L) : Int))), SV.eq (.bool false)] [([(15, none)], none), ([(9, none)], none), ([(67, some 1)], none), ([(66, some 0), (68, some 2)], none)] 211 4 rfl rfl (by kernel_rfl) NewT.trans (NewT.refl _) (Nat.le_of_ble_eq_true rfl) ⟨?_, ?_, ?_, ?_, trivial⟩ ?_
                              · exact fun a wx hT hF K hK => rely_wp rfl (opr_move (.inl rfl) (hK _ _ (NewT.refl _) hF.1))
                              · exact fun a wx hT hF K hK => rely_wp rfl (opr_move (.inl rfl) (hK _ _ (NewT.refl _) hF.1))
                              · intro a wx hT hF K hK
                                obtain ⟨f67, _⟩ := hF
                                have f67 : a.tmps.getD 67 undef = u9 := f67
                                refine rely_wp rfl ?_
                                exact opr_lenL rfl entEl (by rw [eval_tmp, f67]; exact (((HWA.out.new HM.out).new hT).1)) (hK _ _ (NewT.refl _) rfl)
                              · exact fun a wx hT hF K hK => rely_wp rfl (opr_cmp (b := false) (.inr (.inr (.inr (.inl ⟨rfl, (by exact decide_eq_false HGE2.out)⟩)))) Tryd.underlying3 rfl hF.1 hF.2.1 (hK _ _ (NewT.refl _) rfl))
                              · intro w12 k12
                                iterate 4 (intro u h; obtain rfl := Eq.symm (h (by simp)); clear h)
                                refine relyEnd_nil rfl ?_
                                refine wpList_end rfl ?_
                                simp only [Act.put, List.setIfInBounds_toArray, List.set_cons_zero, List.set_cons_succ]
                                go_simp
                                replace Rga := Lib.hid (k12.row Rga.out)
                                replace HPA := Lib.hid (HPA.out.new k12)
                                replace HM := Lib.hid (NewT.trans _ _ _ HM.out k12)
                                clear k12
                                obtain ⟨hd, hhd⟩ : ∃ z, L.any (isE y.c.saga y.c.step y.c.back) = z := ⟨_, rfl⟩
                                obtain ⟨ud, hud⟩ : ∃ z, L.any (undF y.c.saga y.c.step) = z := ⟨_, rfl⟩
                                rw [hhd, hud]
                                have HFF := Lib.hid (HF2.out.2.2.2.2 hd ud hhd hud)
                                clear hhd hud
                                go_upto_region 27 with fail
                                obtain ⟨q1_27, Q1_27⟩ : ∃ bq_, (hd && (((List.length (L2) : Int)) != ((List.length (L) : Int)))) = bq_ := ⟨_, rfl⟩
                                obtain ⟨q2_27, Q2_27⟩ : ∃ bq_, ((decide (((List.length L : Int) + 1) < ((List.length (L2) : Int)))) || q1_27) = bq_ := ⟨_, rfl⟩
                                obtain ⟨q3_27, Q3_27⟩ : ∃ bq_, ((x.good && (!hd)) && (((List.length (L2) : Int)) != ((List.length L : Int) + 1))) = bq_ := ⟨_, rfl⟩
                                obtain ⟨q4_27, Q4_27⟩ : ∃ bq_, ((((!x.back) && ud) && (!hd)) && x.good) = bq_ := ⟨_, rfl⟩
                                refine wp_region_steps0 NewT [SV.eq (u12), SV.eq (.int .i64 ((List.length (L2) : Int))), SV.eq (u9), SV.eq (.int .i64 ((List.length (L) : Int))), SV.eq (.int .i64 ((List.length L : Int) + 1)), SV.eq (.bool (decide (((List.length L : Int) + 1) < ((List.length (L2) : Int))))), SV.eq (.bool (decide (((List.length L : Int) + 1) < ((List.length (L2) : Int))))), svIf ((!(decide (((List.length L : Int) + 1) < ((List.length (L2) : Int)))))) (SV.eq (.bool (hd))), SV.eq (gV ((!(decide (((List.length L : Int) + 1) < ((List.length (L2) : Int)))))) (hd)), svIf (((!(decide (((List.length L : Int) + 1) < ((List.length (L2) : Int)))))) && hd) (SV.eq (u12)), svIf (((!(decide (((List.length L : Int) + 1) < ((List.length (L2) : Int)))))) && hd) (SV.eq (.int .i64 ((List.length (L2) : Int)))), svIf (((!(decide (((List.length L : Int) + 1) < ((List.length (L2) : Int)))))) && hd) (SV.eq (u9)), svIf (((!(decide (((List.length L : Int) + 1) < ((List.length (L2) : Int)))))) && hd) (SV.eq (.int .i64 ((List.length (L) : Int)))), svIf (((!(decide (((List.length L : Int) + 1) < ((List.length (L2) : Int)))))) && hd) (SV.eq (.bool (((List.length (L2) : Int)) != ((List.length (L) : Int))))), svIf ((!(decide (((List.length L : Int) + 1) < ((List.length (L2) : Int)))))) (SV.eq (.bool (q1_27))), SV.eq (.bool (q2_27)), SV.eq (.bool (q2_27)), svIf ((!q2_27)) (SV.eq (.pointer (some ⟨ga, 7, none⟩))), svIf ((!q2_27)) (SV.eq (.bool (x.good))), SV.eq (gV ((!q2_27)) (x.good)), svIf (((!q2_27)) && x.good) (SV.eq (.bool (hd))), svIf (((!q2_27)) && x.good) (SV.eq (.bool (!hd))), svIf ((!q2_27)) (SV.eq (.bool (x.good && (!hd)))), SV.eq (gV ((!q2_27)) (x.good && (!hd))), svIf (((!q2_27)) && (x.good && (!hd))) (SV.eq (u12)), svIf (((!q2_27)) && (x.good && (!hd))) (SV.eq (.int .i64 ((List.length (L2) : Int)))), svIf (((!q2_27)) && (x.good && (!hd))) (SV.eq (u9)), svIf (((!q2_27)) && (x.good && (!hd))) (SV.eq (.int .i64 ((List.length (L) : Int)))), svIf (((!q2_27)) && (x.good && (!hd))) (SV.eq (.int .i64 ((List.length L : Int) + 1))), svIf (((!q2_27)) && (x.good && (!hd))) (SV.eq (.bool (((List.length (L2) : Int)) != ((List.length L : Int) + 1)))), svIf ((!q2_27)) (SV.eq (.bool (q3_27))), SV.eq (.bool (q2_27 || q3_27)), SV.eq (.bool (q2_27 || q3_27)), svIf ((!(q2_27 || q3_27))) (SV.eq (.pointer (some ⟨ga, 3, none⟩))), svIf ((!(q2_27 || q3_27))) (SV.eq (.bool (x.back))), svIf ((!(q2_27 || q3_27))) (SV.eq (.bool (!x.back))), SV.eq (gV ((!(q2_27 || q3_27))) (!x.back)), svIf (((!(q2_27 || q3_27))) && (!x.back)) (SV.eq (.bool (ud))), svIf ((!(q2_27 || q3_27))) (SV.eq (.bool ((!x.back) && ud))), SV.eq (gV ((!(q2_27 || q3_27))) ((!x.back) && ud)), svIf (((!(q2_27 || q3_27))) && ((!x.back) && ud)) (SV.eq (.bool (hd))), svIf (((!(q2_27 || q3_27))) && ((!x.back) && ud)) (SV.eq (.bool (!hd))), svIf ((!(q2_27 || q3_27))) (SV.eq (.bool (((!x.back) && ud) && (!hd)))), SV.eq (gV ((!(q2_27 || q3_27))) (((!x.back) && ud) && (!hd))), svIf (((!(q2_27 || q3_27))) && (((!x.back) && ud) && (!hd))) (SV.eq (.pointer (some ⟨ga, 7, none⟩))), svIf (((!(q2_27 || q3_27))) && (((!x.back) && ud) && (!hd))) (SV.eq (.bool (x.good))), svIf ((!(q2_27 || q3_27))) (SV.eq (.bool (q4_27))), SV.eq (.bool ((q2_27 || q3_27) || q4_27))] [([(12, none)], none), ([(136, some 0)], none), ([(9, none)], none), ([(138, some 2)], none), ([(139, some 3)], none), ([(137, some 1), (140, some 4)], none), ([(141, some 5)], none), ([(13, none), (142, some 6)], some (142, false)), ([(143, some 7), (142, some 6)], some (142, false)), ([(12, none), (144, some 8)], some (144, true)), ([(145, some 9), (144, some 8)], some (144, true)), ([(9, none), (144, some 8)], some (144, true)), ([(147, some 11), (144, some 8)], some (144, true)), ([(146, some 10), (148, some 12), (144, some 8)], some (144, true)), ([(144, some 8), (149, some 13), (142, some 6)], some (142, false)), ([(142, some 6), (150, some 14)], none), ([(151, some 15)], none), ([(10, none), (152, some 16)], some (152, false)), ([(153, some 17), (152, some 16)], some (152, false)), ([(154, some 18), (152, some 16)], some (152, false)), ([(13, none), (155, some 19)], some (155, true)), ([(156, some 20), (155, some 19)], some (155, true)), ([(155, some 19), (157, some 21), (152, some 16)], some (152, false)), ([(158, some 22), (152, some 16)], some (152, false)), ([(12, none), (159, some 23)], some (159, true)), ([(160, some 24), (159, some 23)], some (159, true)), ([(9, none), (159, some 23)], some (159, true)), ([(162, some 26), (159, some 23)], some (159, true)), ([(163, some 27), (159, some 23)], some (159, true)), ([(161, some 25), (164, some 28), (159, some 23)], some (159, true)), ([(159, some 23), (165, some 29), (152, some 16)], some (152, false)), ([(152, some 16), (166, some 30)], none), ([(167, some 31)], none), ([(10, none), (168, some 32)], some (168, false)), ([(169, some 33), (168, some 32)], some (168, false)), ([(170, some 34), (168, some 32)], some (168, false)), ([(171, some 35), (168, some 32)], some (168, false)), ([(14, none), (172, some 36)], some (172, true)), ([(172, some 36), (173, some 37), (168, some 32)], some (168, false)), ([(174, some 38), (168, some 32)], some (168, false)), ([(13, none), (175, some 39)], some (175, true)), ([(176, some 40), (175, some 39)], some (175, true)), ([(175, some 39), (177, some 41), (168, some 32)], some (168, false)), ([(178, some 42), (168, some 32)], some (168, false)), ([(10, none), (179, some 43)], some (179, true)), ([(180, some 44), (179, some 43)], some (179, true)), ([(179, some 43), (181, some 45), (168, some 32)], some (168, false)), ([(168, some 32), (182, some 46)], none)] 211 48 rfl rfl (by kernel_rfl) NewT.trans (NewT.refl _) (Nat.le_of_ble_eq_true rfl) ⟨?_, ?_, ?_, ?_, ?_, ?_, ?_, ?_, ?_, ?_, ?_, ?_, ?_, ?_, ?_, ?_, ?_, ?_, ?_, ?_, ?_, ?_, ?_, ?_, ?_, ?_, ?_, ?_, ?_, ?_, ?_, ?_, ?_, ?_, ?_, ?_, ?_, ?_, ?_, ?_, ?_, ?_, ?_, ?_, ?_, ?_, ?_, ?_, trivial⟩ ?_
                                · exact fun a wx hT hF K hK => rely_wp rfl (opr_move (.inl rfl) (hK _ _ (NewT.refl _) hF.1))
                                · intro a wx hT hF K hK
                                  obtain ⟨f136, _⟩ := hF
                                  have f136 : a.tmps.getD 136 undef = u12 := f136
                                  refine rely_wp rfl ?_
                                  exact opr_lenL rfl entEl (by rw [eval_tmp, f136]; exact (((HNO.out.new HM.out).new hT).1)) (hK _ _ (NewT.refl _) rfl)
                                · exact fun a wx hT hF K hK => rely_wp rfl (opr_move (.inl rfl) (hK _ _ (NewT.refl _) hF.1))
                                · intro a wx hT hF K hK
                                  obtain ⟨f138, _⟩ := hF
                                  have f138 : a.tmps.getD 138 undef = u9 := f138
                                  refine rely_wp rfl ?_
                                  exact opr_lenL rfl entEl (by rw [eval_tmp, f138]; exact (((HWA.out.new HM.out).new hT).1)) (hK _ _ (NewT.refl _) rfl)
                                · exact fun a wx hT hF K hK => rely_wp rfl (opr_add (r := (List.length L : Int) + 1) Tryd.underlying3 (by have := HLL.out; unfold wrap64; omega) rfl hF.1 rfl (hK _ _ (NewT.refl _) rfl))
                                · exact fun a wx hT hF K hK => rely_wp rfl (opr_cmp (b := decide (((List.length L : Int) + 1) < ((List.length (L2) : Int)))) (.inr (.inr (.inr (.inr (.inl ⟨rfl, rfl⟩))))) Tryd.underlying3 rfl hF.1 hF.2.1 (hK _ _ (NewT.refl _) rfl))
                                · exact fun a wx hT hF K hK => rely_wp rfl (opr_move (.inl rfl) (hK _ _ (NewT.refl _) hF.1))
                                · exact fun a wx hT hF K hK => rely_if (rely_gf hF.2.1) (NewT.refl _) hK fun hE hK => opr_move (.inl rfl) (hK _ _ (NewT.refl _) hF.1)
                                · exact fun a wx hT hF K hK => rely_ifg (rely_gf hF.2.1) (NewT.refl _) hK fun hE hK => opr_move (.inl rfl) (hK _ _ (NewT.refl _) (hF.1 hE))
                                · exact fun a wx hT hF K hK => rely_if (rely_ggt hF.2.1) (NewT.refl _) hK fun hE hK => opr_move (.inl rfl) (hK _ _ (NewT.refl _) hF.1)
                                · intro a wx hT hF K hK
                                  obtain ⟨f145, f144, _⟩ := hF
                                  have f145 : (((!(decide (((List.length L : Int) + 1) < ((List.length (L2) : Int)))))) && hd) = true → a.tmps.getD 145 undef = u12 := f145
                                  have f144 : a.tmps.getD 144 undef = gV ((!(decide (((List.length L : Int) + 1) < ((List.length (L2) : Int)))))) (hd) := f144
                                  refine rely_if (rely_ggt f144) (NewT.refl _) hK (fun hE hK => ?_)
                                  exact opr_lenL rfl entEl (by rw [eval_tmp, (f145 hE)]; exact (((HNO.out.new HM.out).new hT).1)) (hK _ _ (NewT.refl _) rfl)
                                · exact fun a wx hT hF K hK => rely_if (rely_ggt hF.2.1) (NewT.refl _) hK fun hE hK => opr_move (.inl rfl) (hK _ _ (NewT.refl _) hF.1)
                                · intro a wx hT hF K hK
                                  obtain ⟨f147, f144, _⟩ := hF
                                  have f147 : (((!(decide (((List.length L : Int) + 1) < ((List.length (L2) : Int)))))) && hd) = true → a.tmps.getD 147 undef = u9 := f147
                                  have f144 : a.tmps.getD 144 undef = gV ((!(decide (((List.length L : Int) + 1) < ((List.length (L2) : Int)))))) (hd) := f144
                                  refine rely_if (rely_ggt f144) (NewT.refl _) hK (fun hE hK => ?_)
                                  exact opr_lenL rfl entEl (by rw [eval_tmp, (f147 hE)]; exact (((HWA.out.new HM.out).new hT).1)) (hK _ _ (NewT.refl _) rfl)
                                · exact fun a wx hT hF K hK => rely_if (rely_ggt hF.2.2.1) (NewT.refl _) hK fun hE hK => opr_cmp (b := ((List.length (L2) : Int)) != ((List.length (L) : Int))) (.inr (.inl ⟨rfl, rfl⟩)) Tryd.underlying3 rfl (hF.1 hE) (hF.2.1 hE) (hK _ _ (NewT.refl _) rfl)
                                · exact fun a wx hT hF K hK => rely_if (rely_gf hF.2.2.1) (NewT.refl _) hK fun hE hK => opr_pick_b rfl (hF.1.trans (gV_on hE)) (fun hb => hK _ _ (NewT.refl _) (pn_and1 Q1_27 (hF.2.1 (band hE hb)) hb)) (fun hb => hK _ _ (NewT.refl _) (pn_and0 Q1_27 hb))
                                · exact fun a wx hT hF K hK => rely_wp rfl (opr_pick_b rfl hF.1 (fun hb => hK _ _ (NewT.refl _) (pn_or1 Q2_27 hb)) (fun hb => hK _ _ (NewT.refl _) (pn_or0 Q2_27 (hF.2.1 (bnot hb)) hb)))
                                · exact fun a wx hT hF K hK => rely_wp rfl (opr_move (.inl rfl) (hK _ _ (NewT.refl _) hF.1))
                                · exact fun a wx hT hF K hK => rely_if (rely_gf hF.2.1) (NewT.refl _) hK fun hE hK => opr_fldCl7 rfl hF.1 (hK _ _ (NewT.refl _) rfl)
                                · exact fun a wx hT hF K hK => rely_if (rely_gf hF.2.1) (NewT.refl _) hK fun hE hK => opr_ldQ (hT.row Rga.out) (by decide) rfl rfl (hF.1 hE) (hK _ _ (NewT.refl _) rfl)
                                · exact fun a wx hT hF K hK => rely_ifg (rely_gf hF.2.1) (NewT.refl _) hK fun hE hK => opr_move (.inl rfl) (hK _ _ (NewT.refl _) (hF.1 hE))
                                · exact fun a wx hT hF K hK => rely_if (rely_ggt hF.2.1) (NewT.refl _) hK fun hE hK => opr_move (.inl rfl) (hK _ _ (NewT.refl _) hF.1)
                                · exact fun a wx hT hF K hK => rely_if (rely_ggt hF.2.1) (NewT.refl _) hK fun hE hK => opr_not rfl (hF.1 hE) (hK _ _ (NewT.refl _) rfl)
                                · exact fun a wx hT hF K hK => rely_if (rely_gf hF.2.2.1) (NewT.refl _) hK fun hE hK => opr_pick_b rfl (hF.1.trans (gV_on hE)) (fun hb => hK _ _ (NewT.refl _) (pk_and1 (hF.2.1 (band hE hb)) hb)) (fun hb => hK _ _ (NewT.refl _) (pk_and0 hb))
                                · exact fun a wx hT hF K hK => rely_ifg (rely_gf hF.2.1) (NewT.refl _) hK fun hE hK => opr_move (.inl rfl) (hK _ _ (NewT.refl _) (hF.1 hE))
                                · exact fun a wx hT hF K hK => rely_if (rely_ggt hF.2.1) (NewT.refl _) hK fun hE hK => opr_move (.inl rfl) (hK _ _ (NewT.refl _) hF.1)
                                · intro a wx hT hF K hK
                                  obtain ⟨f160, f159, _⟩ := hF
                                  have f160 : (((!q2_27)) && (x.good && (!hd))) = true → a.tmps.getD 160 undef = u12 := f160
                                  have f159 : a.tmps.getD 159 undef = gV ((!q2_27)) (x.good && (!hd)) := f159
                                  refine rely_if (rely_ggt f159) (NewT.refl _) hK (fun hE hK => ?_)
                                  exact opr_lenL rfl entEl (by rw [eval_tmp, (f160 hE)]; exact (((HNO.out.new HM.out).new hT).1)) (hK _ _ (NewT.refl _) rfl)
                                · exact fun a wx hT hF K hK => rely_if (rely_ggt hF.2.1) (NewT.refl _) hK fun hE hK => opr_move (.inl rfl) (hK _ _ (NewT.refl _) hF.1)
                                · intro a wx hT hF K hK
                                  obtain ⟨f162, f159, _⟩ := hF
                                  have f162 : (((!q2_27)) && (x.good && (!hd))) = true → a.tmps.getD 162 undef = u9 := f162
                                  have f159 : a.tmps.getD 159 undef = gV ((!q2_27)) (x.good && (!hd)) := f159
                                  refine rely_if (rely_ggt f159) (NewT.refl _) hK (fun hE hK => ?_)
                                  exact opr_lenL rfl entEl (by rw [eval_tmp, (f162 hE)]; exact (((HWA.out.new HM.out).new hT).1)) (hK _ _ (NewT.refl _) rfl)
                                · exact fun a wx hT hF K hK => rely_if (rely_ggt hF.2.1) (NewT.refl _) hK fun hE hK => opr_add (r := (List.length L : Int) + 1) Tryd.underlying3 (by have := HLL.out; unfold wrap64; omega) rfl (hF.1 hE) rfl (hK _ _ (NewT.refl _) rfl)
                                · exact fun a wx hT hF K hK => rely_if (rely_ggt hF.2.2.1) (NewT.refl _) hK fun hE hK => opr_cmp (b := ((List.length (L2) : Int)) != ((List.length L : Int) + 1)) (.inr (.inl ⟨rfl, rfl⟩)) Tryd.underlying3 rfl (hF.1 hE) (hF.2.1 hE) (hK _ _ (NewT.refl _) rfl)
                                · exact fun a wx hT hF K hK => rely_if (rely_gf hF.2.2.1) (NewT.refl _) hK fun hE hK => opr_pick_b rfl (hF.1.trans (gV_on hE)) (fun hb => hK _ _ (NewT.refl _) (pn_and1 Q3_27 (hF.2.1 (band hE hb)) hb)) (fun hb => hK _ _ (NewT.refl _) (pn_and0 Q3_27 hb))
                                · exact fun a wx hT hF K hK => rely_wp rfl (opr_pick_b rfl hF.1 (fun hb => hK _ _ (NewT.refl _) (pk_or1 hb)) (fun hb => hK _ _ (NewT.refl _) (pk_or0 (hF.2.1 (bnot hb)) hb)))
                                · exact fun a wx hT hF K hK => rely_wp rfl (opr_move (.inl rfl) (hK _ _ (NewT.refl _) hF.1))
                                · exact fun a wx hT hF K hK => rely_if (rely_gf hF.2.1) (NewT.refl _) hK fun hE hK => opr_fldCl3 rfl hF.1 (hK _ _ (NewT.refl _) rfl)
                                · exact fun a wx hT hF K hK => rely_if (rely_gf hF.2.1) (NewT.refl _) hK fun hE hK => opr_ldQ (hT.row Rga.out) (by decide) rfl rfl (hF.1 hE) (hK _ _ (NewT.refl _) rfl)
                                · exact fun a wx hT hF K hK => rely_if (rely_gf hF.2.1) (NewT.refl _) hK fun hE hK => opr_not rfl (hF.1 hE) (hK _ _ (NewT.refl _) rfl)
                                · exact fun a wx hT hF K hK => rely_ifg (rely_gf hF.2.1) (NewT.refl _) hK fun hE hK => opr_move (.inl rfl) (hK _ _ (NewT.refl _) (hF.1 hE))
                                · exact fun a wx hT hF K hK => rely_if (rely_ggt hF.2.1) (NewT.refl _) hK fun hE hK => opr_move (.inl rfl) (hK _ _ (NewT.refl _) hF.1)
                                · exact fun a wx hT hF K hK => rely_if (rely_gf hF.2.2.1) (NewT.refl _) hK fun hE hK => opr_pick_b rfl (hF.1.trans (gV_on hE)) (fun hb => hK _ _ (NewT.refl _) (pk_and1 (hF.2.1 (band hE hb)) hb)) (fun hb => hK _ _ (NewT.refl _) (pk_and0 hb))
                                · exact fun a wx hT hF K hK => rely_ifg (rely_gf hF.2.1) (NewT.refl _) hK fun hE hK => opr_move (.inl rfl) (hK _ _ (NewT.refl _) (hF.1 hE))
                                · exact fun a wx hT hF K hK => rely_if (rely_ggt hF.2.1) (NewT.refl _) hK fun hE hK => opr_move (.inl rfl) (hK _ _ (NewT.refl _) hF.1)
                                · exact fun a wx hT hF K hK => rely_if (rely_ggt hF.2.1) (NewT.refl _) hK fun hE hK => opr_not rfl (hF.1 hE) (hK _ _ (NewT.refl _) rfl)
                                · exact fun a wx hT hF K hK => rely_if (rely_gf hF.2.2.1) (NewT.refl _) hK fun hE hK => opr_pick_b rfl (hF.1.trans (gV_on hE)) (fun hb => hK _ _ (NewT.refl _) (pk_and1 (hF.2.1 (band hE hb)) hb)) (fun hb => hK _ _ (NewT.refl _) (pk_and0 hb))
                                · exact fun a wx hT hF K hK => rely_ifg (rely_gf hF.2.1) (NewT.refl _) hK fun hE hK => opr_move (.inl rfl) (hK _ _ (NewT.refl _) (hF.1 hE))
                                · exact fun a wx hT hF K hK => rely_if (rely_ggt hF.2.1) (NewT.refl _) hK fun hE hK => opr_fldCl7 rfl hF.1 (hK _ _ (NewT.refl _) rfl)
                                · exact fun a wx hT hF K hK => rely_if (rely_ggt hF.2.1) (NewT.refl _) hK fun hE hK => opr_ldQ (hT.row Rga.out) (by decide) rfl rfl (hF.1 hE) (hK _ _ (NewT.refl _) rfl)
                                · exact fun a wx hT hF K hK => rely_if (rely_gf hF.2.2.1) (NewT.refl _) hK fun hE hK => opr_pick_b rfl (hF.1.trans (gV_on hE)) (fun hb => hK _ _ (NewT.refl _) (pn_and1 Q4_27 (hF.2.1 (band hE hb)) hb)) (fun hb => hK _ _ (NewT.refl _) (pn_and0 Q4_27 hb))
                                · exact fun a wx hT hF K hK => rely_wp rfl (opr_pick_b rfl hF.1 (fun hb => hK _ _ (NewT.refl _) (pk_or1 hb)) (fun hb => hK _ _ (NewT.refl _) (pk_or0 (hF.2.1 (bnot hb)) hb)))
                                · intro w13 k13
                                  iterate 7 (intro u h; obtain rfl := Eq.symm (h (by simp)); clear h)
                                  iterate 8 (intro _ _)
                                  iterate 2 (intro u h; obtain rfl := Eq.symm (h (by simp)); clear h)
                                  iterate 14 (intro _ _)
                                  iterate 2 (intro u h; obtain rfl := Eq.symm (h (by simp)); clear h)
                                  iterate 14 (intro _ _)
                                  intro u h; obtain rfl := Eq.symm (h (by simp)); clear h
                                  subst Q4_27 Q3_27 Q2_27 Q1_27
                                  refine relyEnd_nil rfl ?_
                                  refine wpList_end rfl ?_
                                  simp only [Act.put, List.setIfInBounds_toArray, List.set_cons_zero, List.set_cons_succ]
                                  go_simp
                                  replace Rga := Lib.hid (k13.row Rga.out)
                                  replace HPA := Lib.hid (HPA.out.new k13)
                                  replace HM := Lib.hid (NewT.trans _ _ _ HM.out k13)
                                  clear k13
                                  cases hb : ((((decide (((List.length L : Int) + 1) < ((List.length (L2) : Int)))) || (hd && (((List.length (L2) : Int)) != ((List.length (L) : Int))))) || ((x.good && (!hd)) && (((List.length (L2) : Int)) != ((List.length L : Int) + 1)))) || ((((!x.back) && ud) && (!hd)) && x.good))
                                  rotate_left
                                  · exfalso
                                    have h1 := HFF.out
                                    revert hb
                                    obtain ⟨f1, f2, f3, f4⟩ := h1
                                    have f1' : decide ((L.length : Int) + 1 < (L2.length : Int)) = false := decide_eq_false (by omega)
                                    simp only [f1']
                                    cases hd <;> cases ud <;> cases hg : x.good <;> cases hbk : x.back <;> simp_all
                                  · clear hb
                                    obtain ⟨x2, hx2⟩ : ∃ z, takeC kf ps ws need n 0 L2 y.c (!y.r) = z := ⟨_, rfl⟩
                                    obtain ⟨L3, hL3⟩ : ∃ M, takeL n L2 y.c (!y.r) = M := ⟨_, rfl⟩
                                    have HX2 := Lib.hid hx2
                                    have HL3 := Lib.hid hL3
                                    have HG3 : Hid ((x.good = true → x2.good = true) ∧ OkE L3 ∧ L3.length ≤ 2 * (k + 1)) := Lib.hid ⟨fun hg => once_again HB.out HX.out HL2.out hx2 hg, by rw [← hL3]; exact okE_take HF2.out.1 n y.c _, by have h1 := take_len n L2 y.c (!y.r); rw [hL3] at h1; have h2 := HLK.out; have h3 := HLL.out; omega⟩
                                    clear hx2 hL3
                                    replace HM := Lib.hid (NewT.trans _ _ _ HBM.out HM.out)
                                    go_upto_region 29 with fail
                                    have HPW : Hid (hi ≤ w13.heap.size) := Lib.hid HPA.out.lt.2.2
                                    have HSZ : Hid (lo ≤ w13.heap.size) := Lib.hid (by have := HPA.out.lt; omega)
                                    have HTW := Lib.hid (HM.out.tables HTT.out)
                                    refine wp_region_relyL (PW w13 lo hi) (JL 12 16 17 17 (fun w => PartAt w lo hi gp n 0 ps ws need L2) (fun w => PartAt w lo hi gp n 0 ps ws need L3) w13 34 41 (clF x2)) [SV.eq (.pointer (some ⟨gp, 0, none⟩)), SV.eq ((.slice (some ⟨lb, lof, none⟩) l.length lc)), SV.eq (.int .i64 ((k : Int))), SV.eq (.pointer (some ⟨lb, lof + k * 43, none⟩)), SV.eq (.pointer (some ⟨lb, lof + k * 43 + 1, none⟩)), SV.eq (.agg (rowA 41 (clF y.c))), SV.eq ((.slice (some ⟨lb, lof, none⟩) l.length lc)), SV.eq (.int .i64 ((k : Int))), SV.eq (.pointer (some ⟨lb, lof + k * 43, none⟩)), SV.eq (.pointer (some ⟨lb, lof + k * 43 + 42, none⟩)), SV.eq (.bool (y.r)), SV.eq (.bool (!y.r)), SV.eq ((.tuple #[.agg (rowA 41 (clF x2)), .bool true])), SV.eq ((.tuple #[.agg (rowA 41 (clF x2)), .bool true])), SV.eq (.agg (rowA 41 (clF x2))), SV.eq (.bool true), svPtV, SV.any] [([(7, none)], none), ([(2, none)], none), ([(8, none)], none), ([(186, some 1), (187, some 2)], none), ([(188, some 3)], none), ([(189, some 4)], none), ([(2, none)], none), ([(8, none)], none), ([(191, some 6), (192, some 7)], none), ([(193, some 8)], none), ([(194, some 9)], none), ([(195, some 10)], none), ([(185, some 0), (190, some 5), (196, some 11)], none), ([(197, some 12)], none), ([(184, some 13)], none), ([(184, some 13)], none), ([], none), ([(17, some 16), (198, some 14)], none)] 211 rfl (by kernel_rfl) rfl (by kernel_rfl) (by kernel_rfl) rfl PW.trans (PW.drew _) (JL.start (HPA.out.drew) _) (Nat.le_of_ble_eq_true rfl) ⟨?_, ?_, ?_, ?_, ?_, ?_, ?_, ?_, ?_, ?_, ?_, ?_, ?_, ?_, ?_, ?_, ?_, ?_, trivial⟩ ?_
                                    · exact fun a wx li hT hF hJ hx K hK => have hK := fun v w' (hN : NewT wx w') hv => hK v w' (PW.new hT hN HSZ.out) (JL.new hJ (by decide) (by simp) hN (fun h => PartAt.new h hN) (fun h => PartAt.new h hN)) hv; rely_wp rfl (opr_move (.inl rfl) (hK _ _ (NewT.refl _) hF.1))
                                    · exact fun a wx li hT hF hJ hx K hK => have hK := fun v w' (hN : NewT wx w') hv => hK v w' (PW.new hT hN HSZ.out) (JL.new hJ (by decide) (by simp) hN (fun h => PartAt.new h hN) (fun h => PartAt.new h hN)) hv; rely_wp rfl (opr_move (.inl rfl) (hK _ _ (NewT.refl _) hF.1))
                                    · exact fun a wx li hT hF hJ hx K hK => have hK := fun v w' (hN : NewT wx w') hv => hK v w' (PW.new hT hN HSZ.out) (JL.new hJ (by decide) (by simp) hN (fun h => PartAt.new h hN) (fun h => PartAt.new h hN)) hv; rely_wp rfl (opr_move (.inl rfl) (hK _ _ (NewT.refl _) hF.1))
                                    · exact fun a wx li hT hF hJ hx K hK => have hK := fun v w' (hN : NewT wx w') hv => hK v w' (PW.new hT hN HSZ.out) (JL.new hJ (by decide) (by simp) hN (fun h => PartAt.new h hN) (fun h => PartAt.new h hN)) hv; rely_wp rfl (opr_idxB actEl HKL.out rfl rfl hF.1 hF.2.1 (hK _ _ (NewT.refl _) rfl))
                                    · exact fun a wx li hT hF hJ hx K hK => have hK := fun v w' (hN : NewT wx w') hv => hK v w' (PW.new hT hN HSZ.out) (JL.new hJ (by decide) (by simp) hN (fun h => PartAt.new h hN) (fun h => PartAt.new h hN)) hv; rely_wp rfl (opr_fldAc1 rfl hF.1 (hK _ _ (NewT.refl _) rfl))
                                    · exact fun a wx li hT hF hJ hx K hK => have hK := fun v w' (hN : NewT wx w') hv => hK v w' (PW.new hT hN HSZ.out) (JL.new hJ (by decide) (by simp) hN (fun h => PartAt.new h hN) (fun h => PartAt.new h hN)) hv; rely_wp rfl (opr_ldClC (c := y.c) (fun j hj => (hT.cell ((HM.out.out.cell (cell_lt (HC1.out j hj))).trans (HC1.out j hj)) (.inl (Nat.lt_of_lt_of_le HLB.out HLO.out.2.2.2)))) rfl hF.1 (hK _ _ (NewT.refl _) rfl))
                                    · exact fun a wx li hT hF hJ hx K hK => have hK := fun v w' (hN : NewT wx w') hv => hK v w' (PW.new hT hN HSZ.out) (JL.new hJ (by decide) (by simp) hN (fun h => PartAt.new h hN) (fun h => PartAt.new h hN)) hv; rely_wp rfl (opr_move (.inl rfl) (hK _ _ (NewT.refl _) hF.1))
                                    · exact fun a wx li hT hF hJ hx K hK => have hK := fun v w' (hN : NewT wx w') hv => hK v w' (PW.new hT hN HSZ.out) (JL.new hJ (by decide) (by simp) hN (fun h => PartAt.new h hN) (fun h => PartAt.new h hN)) hv; rely_wp rfl (opr_move (.inl rfl) (hK _ _ (NewT.refl _) hF.1))
                                    · exact fun a wx li hT hF hJ hx K hK => have hK := fun v w' (hN : NewT wx w') hv => hK v w' (PW.new hT hN HSZ.out) (JL.new hJ (by decide) (by simp) hN (fun h => PartAt.new h hN) (fun h => PartAt.new h hN)) hv; rely_wp rfl (opr_idxB actEl HKL.out rfl rfl hF.1 hF.2.1 (hK _ _ (NewT.refl _) rfl))
                                    · exact fun a wx li hT hF hJ hx K hK => have hK := fun v w' (hN : NewT wx w') hv => hK v w' (PW.new hT hN HSZ.out) (JL.new hJ (by decide) (by simp) hN (fun h => PartAt.new h hN) (fun h => PartAt.new h hN)) hv; rely_wp rfl (opr_fldAc2 rfl hF.1 (hK _ _ (NewT.refl _) rfl))
                                    · exact fun a wx li hT hF hJ hx K hK => have hK := fun v w' (hN : NewT wx w') hv => hK v w' (PW.new hT hN HSZ.out) (JL.new hJ (by decide) (by simp) hN (fun h => PartAt.new h hN) (fun h => PartAt.new h hN)) hv; rely_wp rfl (opr_ld1 Tryd.underlying4 rfl rfl hF.1 ((hT.cell ((HM.out.out.cell (cell_lt (HC2.out))).trans (HC2.out)) (.inl (Nat.lt_of_lt_of_le HLB.out HLO.out.2.2.2)))) (hK _ _ (NewT.refl _) rfl))
                                    · exact fun a wx li hT hF hJ hx K hK => have hK := fun v w' (hN : NewT wx w') hv => hK v w' (PW.new hT hN HSZ.out) (JL.new hJ (by decide) (by simp) hN (fun h => PartAt.new h hN) (fun h => PartAt.new h hN)) hv; rely_wp rfl (opr_not rfl hF.1 (hK _ _ (NewT.refl _) rfl))
                                    · intro a wx li hT hF hJ hx K hK
                                      obtain ⟨f185, f190, f196, _⟩ := hF
                                      have f185 : a.tmps.getD 185 undef = .pointer (some ⟨gp, 0, none⟩) := f185
                                      have f190 : a.tmps.getD 190 undef = .agg (rowA 41 (clF y.c)) := f190
                                      have f196 : a.tmps.getD 196 undef = .bool (!y.r) := f196
                                      refine rely_wp rfl ?_
                                      refine opr_call rfl Tryd.func13 (by kernel_rfl) (by kernel_rfl) (vs := #[.pointer (some ⟨gp, 0, none⟩), .agg (rowA 41 (clF y.c)), .bool (!y.r)]) (by simp only [List.map_toArray, List.map_cons, List.map_nil, eval_tmp, f185, f190, f196]) ((Take_k hX wx (hT.tables HTW.out HLO.out.1) HLO.out.1 (hJ.pre hx.no) HB.out HX2.out HL3.out).mono ?_)
                                      rintro ex w4 ⟨rfl, hP4, hA4⟩
                                      exact ⟨_, rfl, hK _ _ (hT.pt hP4) (JL.call hJ hx (by decide) (by simp) hA4 (fun b F hb hr => hP4.row hr (.inr (Nat.le_trans HPW.out hb)))) rfl⟩
                                    · exact fun a wx li hT hF hJ hx K hK => have hK := fun v w' (hN : NewT wx w') hv => hK v w' (PW.new hT hN HSZ.out) (JL.new hJ (by decide) (by simp) hN (fun h => PartAt.new h hN) (fun h => PartAt.new h hN)) hv; rely_wp rfl (opr_move (.inl rfl) (hK _ _ (NewT.refl _) hF.1))
                                    · exact fun a wx li hT hF hJ hx K hK => have hK := fun v w' (hN : NewT wx w') hv => hK v w' (PW.new hT hN HSZ.out) (JL.new hJ (by decide) (by simp) hN (fun h => PartAt.new h hN) (fun h => PartAt.new h hN)) hv; rely_wp rfl (opr_ext rfl hF.1 rfl (hK _ _ (NewT.refl _) rfl))
                                    · exact fun a wx li hT hF hJ hx K hK => have hK := fun v w' (hN : NewT wx w') hv => hK v w' (PW.new hT hN HSZ.out) (JL.new hJ (by decide) (by simp) hN (fun h => PartAt.new h hN) (fun h => PartAt.new h hN)) hv; rely_wp rfl (opr_ext rfl hF.1 rfl (hK _ _ (NewT.refl _) rfl))
                                    · intro a wx li hT hF hJ hx K hK
                                      refine rely_wp rfl ?_
                                      refine opr_allocV rfl run_alloc_cl ?_
                                      exact hK _ _ (PW.new hT (NewT.alloc _ _) HSZ.out) (JL.alloc hJ hx (by decide) hT.below.size (fun h => PartAt.new h (NewT.alloc _ _)) (fun h => PartAt.new h (NewT.alloc _ _))) ⟨_, rfl⟩
                                    · intro a wx li hT hF hJ hx K hK
                                      obtain ⟨f17, f198, _⟩ := hF
                                      replace f17 := show (svPtV).pred (a.tmps.getD 17 undef) wx from f17
                                      have f198 : a.tmps.getD 198 undef = .agg (rowA 41 (clF x2)) := f198
                                      refine rely_wp rfl ?_
                                      obtain ⟨bv, hbv⟩ := f17
                                      obtain ⟨hb2, F0, hb3, _⟩ := hJ.var (hx.waits 16 (by kernel_rfl)) bv hbv
                                      refine opr_putmB (g := bv) (o0 := 0) (m := 41) (f := clF x2) (F := clF x2) rfl hbv f198 hb3 (by decide) info_cl (clF_one _) (put_allN _ _ _) ?_
                                      intro w' hR hO hr2
                                      exact hK _ _ (hT.store hb2 HSZ.out hR) (JL.store hJ hx (by decide) (hx.waits 16 (by kernel_rfl)) hbv hb2 hr2 (fun h => h.of hR.size fun k _ hk => hO k (by have := h.lt; omega) (by have := HPW.out; omega)) (fun h => h.of hR.size fun k _ hk => hO k (by have := h.lt; omega) (by have := HPW.out; omega))) trivial
                                    · intro w14 k14
                                      iterate 16 (intro u h; obtain rfl := Eq.symm (h (by simp)); clear h)
                                      intro u h; obtain ⟨p17, hv⟩ := (h (by simp)); clear h; subst hv
                                      intro _ _
                                      refine relyEnd_nil rfl ?_
                                      intro hJ
                                      simp only [Act.put, List.setIfInBounds_toArray, List.set_cons_zero, List.set_cons_succ]
                                      obtain ⟨hBw, hbz, hrz⟩ := JL.at (g := p17) hJ (by decide) (by kernel_rfl)
                                      refine opr_move (.inr rfl) ?_
                                      go_simp
                                      clear hJ
                                      obtain ⟨gb, h_gb⟩ : ∃ g_, p17 = g_ := ⟨_, rfl⟩
                                      rw [h_gb] at hbz hrz
                                      simp only [h_gb]
                                      clear h_gb
                                      have HGgb : Hid (ga < gb ∧ hi ≤ gb ∧ w.heap.size ≤ gb) := Lib.hid ⟨Nat.lt_of_lt_of_le Rga.out.lt hbz, Nat.le_trans HPA.out.lt.2.2 hbz, Nat.le_trans HM.out.out.size hbz⟩
                                      replace Rga := Lib.hid (k14.row Rga.out (by have h_0 := HG.out; have h_1 := HLO.out; have h_2 := HGga.out; omega))
                                      replace HM := Lib.hid (NewT.of (HM.out.out.trans (k14.below.mono (by have h_0 := HG.out; have h_1 := HLO.out; have h_2 := HGga.out; omega))))
                                      replace HPA := Lib.hid hBw
                                      have Rgb := Lib.hid hrz
                                      clear hrz hBw hbz k14 HPW HSZ HTW
                                      go_upto_region 30 with fail
                                      refine wp_region_steps0 NewT [SV.eq (.bool true), SV.eq (.bool false), SV.eq (.bool false), SV.eq (.pointer (some ⟨ga, 7, none⟩)), SV.eq (.bool (x.good)), SV.eq (.bool (x.good)), svIf (x.good) (SV.eq (.pointer (some ⟨gb, 7, none⟩))), svIf (x.good) (SV.eq (.bool (x2.good))), svIf (x.good) (SV.eq (.bool (!x2.good))), SV.eq (.bool (x.good && (!x2.good))), SV.eq (.bool (x.good && (!x2.good)))] [([(18, none)], none), ([(200, some 0)], none), ([(201, some 1)], none), ([(10, none), (202, some 2)], some (202, false)), ([(203, some 3), (202, some 2)], some (202, false)), ([(204, some 4), (202, some 2)], some (202, false)), ([(17, none), (205, some 5)], some (205, true)), ([(206, some 6), (205, some 5)], some (205, true)), ([(207, some 7), (205, some 5)], some (205, true)), ([(205, some 5), (208, some 8), (202, some 2)], some (202, false)), ([(202, some 2), (209, some 9)], none)] 211 11 rfl rfl (by kernel_rfl) NewT.trans (NewT.refl _) (Nat.le_of_ble_eq_true rfl) ⟨?_, ?_, ?_, ?_, ?_, ?_, ?_, ?_, ?_, ?_, ?_, trivial⟩ ?_
                                      · exact fun a wx hT hF K hK => rely_wp rfl (opr_move (.inl rfl) (hK _ _ (NewT.refl _) hF.1))
                                      · exact fun a wx hT hF K hK => rely_wp rfl (opr_not rfl hF.1 (hK _ _ (NewT.refl _) rfl))
                                      · exact fun a wx hT hF K hK => rely_wp rfl (opr_move (.inl rfl) (hK _ _ (NewT.refl _) hF.1))
                                      · exact fun a wx hT hF K hK => rely_wp (rely_guard hF.2.1) (opr_fldCl7 rfl hF.1 (hK _ _ (NewT.refl _) rfl))
                                      · exact fun a wx hT hF K hK => rely_wp (rely_guard hF.2.1) (opr_ldQ (hT.row Rga.out) (by decide) rfl rfl hF.1 (hK _ _ (NewT.refl _) rfl))
                                      · exact fun a wx hT hF K hK => rely_wp (rely_guard hF.2.1) (opr_move (.inl rfl) (hK _ _ (NewT.refl _) hF.1))
                                      · exact fun a wx hT hF K hK => rely_if (rely_gt hF.2.1) (NewT.refl _) hK fun hE hK => opr_fldCl7 rfl hF.1 (hK _ _ (NewT.refl _) rfl)
                                      · exact fun a wx hT hF K hK => rely_if (rely_gt hF.2.1) (NewT.refl _) hK fun hE hK => opr_ldQ (hT.row Rgb.out) (by decide) rfl rfl (hF.1 hE) (hK _ _ (NewT.refl _) rfl)
                                      · exact fun a wx hT hF K hK => rely_if (rely_gt hF.2.1) (NewT.refl _) hK fun hE hK => opr_not rfl (hF.1 hE) (hK _ _ (NewT.refl _) rfl)
                                      · exact fun a wx hT hF K hK => rely_wp (rely_guard hF.2.2.1) (opr_pick_b rfl hF.1 (fun hb => hK _ _ (NewT.refl _) (pk_and1 (hF.2.1 hb) hb)) (fun hb => hK _ _ (NewT.refl _) (pk_and0 hb)))
                                      · exact fun a wx hT hF K hK => rely_wp rfl (opr_pick_false rfl hF.1 (hK _ _ (NewT.refl _) hF.2.1))
                                      · intro w15 k15
                                        iterate 6 (intro u h; obtain rfl := Eq.symm (h (by simp)); clear h)
                                        iterate 3 (intro _ _)
                                        iterate 2 (intro u h; obtain rfl := Eq.symm (h (by simp)); clear h)
                                        refine relyEnd_nil rfl ?_
                                        refine wpList_end rfl ?_
                                        simp only [Act.put, List.setIfInBounds_toArray, List.set_cons_zero, List.set_cons_succ]
                                        go_simp
                                        replace Rga := Lib.hid (k15.row Rga.out)
                                        replace Rgb := Lib.hid (k15.row Rgb.out)
                                        replace HPA := Lib.hid (HPA.out.new k15)
                                        replace HM := Lib.hid (NewT.trans _ _ _ HM.out k15)
                                        clear k15
                                        cases hb : (x.good && (!x2.good))
                                        rotate_left
                                        · exfalso
                                          have h1 := HG3.out.1
                                          revert hb
                                          cases hg : x.good <;> cases hg2 : x2.good <;> simp_all
                                        · clear hb
                                          have hk2 := HGE.out
                                          have hk3 := HLE.out
                                          go_wp2
                                          go_roundw
                                          case rel => exact ⟨k + 1, L3, by omega, by go_num, by first | exact HM | trivial, by first | exact HPA | trivial, Lib.hid HG3.out.2.2, Lib.hid HG3.out.2.1⟩
                                          case measure => simp [intOf]; omega
                            · obtain ⟨e, he⟩ : ∃ e, L[j]? = some e := ⟨_, List.getElem?_eq_getElem hjt⟩
                              have HEE := Lib.hid he
                              have HE2 : Hid (L2[j]? = some e) := Lib.hid (by obtain ⟨M, hM⟩ := HF2.out.2.1; rw [hM, List.getElem?_append_left hjt]; exact he)
                              have HGE2 : Hid ((j : Int) < (L.length : Int)) := Lib.hid (by omega)
                              have HXE : Hid (isE y.c.saga y.c.step y.c.back e = true → e.good = x.good) := Lib.hid (fun h => HF2.out.2.2.2.1 e (List.mem_of_getElem? he) h)
                              obtain ⟨xs, xt, xb⟩ := HF2.out.2.2.1
                              have HXS := Lib.hid xs
                              have HXT := Lib.hid xt
                              have HXB := Lib.hid xb
                              clear he hjt xs xt xb
                              replace Rga := Lib.hid (HM.out.row Rga.out)
                              go_upto_region 17 with fail
                              refine wp_region_steps0 NewT [SV.eq (.int .i64 ((j : Int))), SV.eq (u9), SV.eq (.int .i64 ((List.length (L) : Int))), SV.eq (.bool true)] [([(15, none)], none), ([(9, none)], none), ([(67, some 1)], none), ([(66, some 0), (68, some 2)], none)] 211 4 rfl rfl (by kernel_rfl) NewT.trans (NewT.refl _) (Nat.le_of_ble_eq_true rfl) ⟨?_, ?_, ?_, ?_, trivial⟩ ?_
                              · exact fun a wx hT hF K hK => rely_wp rfl (opr_move (.inl rfl) (hK _ _ (NewT.refl _) hF.1))
                              · exact fun a wx hT hF K hK => rely_wp rfl (opr_move (.inl rfl) (hK _ _ (NewT.refl _) hF.1))
                              · intro a wx hT hF K hK
                                obtain ⟨f67, _⟩ := hF
                                have f67 : a.tmps.getD 67 undef = u9 := f67
                                refine rely_wp rfl ?_
                                exact opr_lenL rfl entEl (by rw [eval_tmp, f67]; exact (((HWA.out.new HM.out).new hT).1)) (hK _ _ (NewT.refl _) rfl)
                              · exact fun a wx hT hF K hK => rely_wp rfl (opr_cmp (b := true) (.inr (.inr (.inr (.inl ⟨rfl, (by exact decide_eq_true HGE2.out)⟩)))) Tryd.underlying3 rfl hF.1 hF.2.1 (hK _ _ (NewT.refl _) rfl))
                              · intro w16 k16
                                iterate 4 (intro u h; obtain rfl := Eq.symm (h (by simp)); clear h)
                                refine relyEnd_nil rfl ?_
                                refine wpList_end rfl ?_
                                simp only [Act.put, List.setIfInBounds_toArray, List.set_cons_zero, List.set_cons_succ]
                                go_simp
                                replace Rga := Lib.hid (k16.row Rga.out)
                                replace HM := Lib.hid (NewT.trans _ _ _ HM.out k16)
                                clear k16
                                go_upto_region 19 with fail
                                refine wp_region_rely (NewT) [SV.eq (u9), SV.eq (.int .i64 ((j : Int))), svEl 4 eyE (e), SV.eq (.agg (rowA 4 (eyF e))), SV.eq (u12), SV.eq (.int .i64 ((j : Int))), svEl 4 eyE (e), SV.eq (.agg (rowA 4 (eyF e)))] [([(9, none)], none), ([(15, none)], none), ([(72, some 0), (73, some 1)], none), ([(74, some 2)], none), ([(12, none)], none), ([(15, none)], none), ([(76, some 4), (77, some 5)], none), ([(78, some 6)], none)] 211 rfl (by kernel_rfl) rfl (by kernel_rfl) (by kernel_rfl) rfl NewT.trans (NewT.drew _) (Nat.le_of_ble_eq_true rfl) ⟨?_, ?_, ?_, ?_, ?_, ?_, ?_, ?_, trivial⟩ ?_
                                · exact fun a wx hT hF K hK => rely_wp rfl (opr_move (.inl rfl) (hK _ _ (NewT.refl _) hF.1))
                                · exact fun a wx hT hF K hK => rely_wp rfl (opr_move (.inl rfl) (hK _ _ (NewT.refl _) hF.1))
                                · intro a wx hT hF K hK
                                  obtain ⟨f72, f73, _⟩ := hF
                                  have f72 : a.tmps.getD 72 undef = u9 := f72
                                  have f73 : a.tmps.getD 73 undef = .int .i64 ((j : Int)) := f73
                                  refine rely_wp rfl ?_
                                  exact opr_idxL (i := j) (p := e) entEl (HEE.out) (rfl) rfl (by rw [eval_tmp, f72]; exact (((HWA.out.new HM.out).new hT).1)) f73 (fun v hv => hK v _ (NewT.refl _) hv)
                                · exact fun a wx hT hF K hK => rely_wp rfl (opr_ldEe rfl hF.1 (hK _ _ (NewT.refl _) rfl))
                                · exact fun a wx hT hF K hK => rely_wp rfl (opr_move (.inl rfl) (hK _ _ (NewT.refl _) hF.1))
                                · exact fun a wx hT hF K hK => rely_wp rfl (opr_move (.inl rfl) (hK _ _ (NewT.refl _) hF.1))
                                · intro a wx hT hF K hK
                                  obtain ⟨f76, f77, _⟩ := hF
                                  have f76 : a.tmps.getD 76 undef = u12 := f76
                                  have f77 : a.tmps.getD 77 undef = .int .i64 ((j : Int)) := f77
                                  refine rely_wp rfl ?_
                                  exact opr_idxL (i := j) (p := e) entEl (HE2.out) (rfl) rfl (by rw [eval_tmp, f76]; exact (((HNO.out.new HM.out).new hT).1)) f77 (fun v hv => hK v _ (NewT.refl _) hv)
                                · exact fun a wx hT hF K hK => rely_wp rfl (opr_ldEe rfl hF.1 (hK _ _ (NewT.refl _) rfl))
                                · intro w17 k17
                                  iterate 2 (intro u h; obtain rfl := Eq.symm (h (by simp)); clear h)
                                  intro _ _
                                  iterate 3 (intro u h; obtain rfl := Eq.symm (h (by simp)); clear h)
                                  intro _ _
                                  intro u h; obtain rfl := Eq.symm (h (by simp)); clear h
                                  refine relyEnd_nil rfl ?_
                                  simp only [Act.put, List.setIfInBounds_toArray, List.set_cons_zero, List.set_cons_succ]
                                  refine opr_neqEy (p := e) (q := e) rfl rfl rfl ?_
                                  rw [show eqE4 e e = true from (eqE4_iff e e).2 rfl]
                                  go_simp
                                  replace Rga := Lib.hid (k17.row Rga.out)
                                  replace HM := Lib.hid (NewT.trans _ _ _ HM.out k17)
                                  clear k17
                                  go_upto_region 21 with fail
                                  obtain ⟨q1_21, Q1_21⟩ : ∃ bq_, ((e.saga == x.saga) && (e.step == x.step)) = bq_ := ⟨_, rfl⟩
                                  refine wp_region_rely (NewT) [SV.eq (u9), SV.eq (.int .i64 ((j : Int))), svEl 4 eyE (e), svIpD (e.saga), SV.eq (.int .i64 (e.saga)), SV.eq (.pointer (some ⟨ga, 0, none⟩)), SV.eq (.int .i64 (x.saga)), SV.eq (.bool (e.saga == x.saga)), SV.eq (.bool (e.saga == x.saga)), svIf (e.saga == x.saga) (SV.eq (u9)), svIf (e.saga == x.saga) (SV.eq (.int .i64 ((j : Int)))), svIf (e.saga == x.saga) (svEl 4 eyE (e)), svIf (e.saga == x.saga) (svIpD (e.step)), svIf (e.saga == x.saga) (SV.eq (.int .i64 (e.step))), svIf (e.saga == x.saga) (SV.eq (.pointer (some ⟨ga, 1, none⟩))), svIf (e.saga == x.saga) (SV.eq (.int .i64 (x.step))), svIf (e.saga == x.saga) (SV.eq (.bool (e.step == x.step))), SV.eq (.bool (q1_21))] [([(9, none)], none), ([(15, none)], none), ([(81, some 0), (82, some 1)], none), ([(83, some 2)], none), ([(84, some 3)], none), ([(10, none)], none), ([(86, some 5)], none), ([(85, some 4), (87, some 6)], none), ([(88, some 7)], none), ([(9, none), (89, some 8)], some (89, true)), ([(15, none), (89, some 8)], some (89, true)), ([(90, some 9), (91, some 10), (89, some 8)], some (89, true)), ([(92, some 11), (89, some 8)], some (89, true)), ([(93, some 12), (89, some 8)], some (89, true)), ([(10, none), (89, some 8)], some (89, true)), ([(95, some 14), (89, some 8)], some (89, true)), ([(94, some 13), (96, some 15), (89, some 8)], some (89, true)), ([(89, some 8), (97, some 16)], none)] 211 rfl (by kernel_rfl) rfl (by kernel_rfl) (by kernel_rfl) rfl NewT.trans (NewT.drew _) (Nat.le_of_ble_eq_true rfl) ⟨?_, ?_, ?_, ?_, ?_, ?_, ?_, ?_, ?_, ?_, ?_, ?_, ?_, ?_, ?_, ?_, ?_, ?_, trivial⟩ ?_
                                  · exact fun a wx hT hF K hK => rely_wp rfl (opr_move (.inl rfl) (hK _ _ (NewT.refl _) hF.1))
                                  · exact fun a wx hT hF K hK => rely_wp rfl (opr_move (.inl rfl) (hK _ _ (NewT.refl _) hF.1))
                                  · intro a wx hT hF K hK
                                    obtain ⟨f81, f82, _⟩ := hF
                                    have f81 : a.tmps.getD 81 undef = u9 := f81
                                    have f82 : a.tmps.getD 82 undef = .int .i64 ((j : Int)) := f82
                                    refine rely_wp rfl ?_
                                    exact opr_idxL (i := j) (p := e) entEl (HEE.out) (rfl) rfl (by rw [eval_tmp, f81]; exact (((HWA.out.new HM.out).new hT).1)) f82 (fun v hv => hK v _ (NewT.refl _) hv)
                                  · exact fun a wx hT hF K hK => rely_wp rfl (opr_fldEe0 rfl hF.1 (fun u hu => hK u _ (NewT.refl _) hu))
                                  · exact fun a wx hT hF K hK => rely_wp rfl (opr_ldIpD rfl hF.1 (hK _ _ (NewT.refl _) rfl))
                                  · exact fun a wx hT hF K hK => rely_wp rfl (opr_fldCl0 rfl hF.1 (hK _ _ (NewT.refl _) rfl))
                                  · exact fun a wx hT hF K hK => rely_wp rfl (opr_ldI (hT.row Rga.out) (by decide) rfl rfl hF.1 (hK _ _ (NewT.refl _) rfl))
                                  · exact fun a wx hT hF K hK => rely_wp rfl (opr_cmp (b := e.saga == x.saga) (.inl ⟨rfl, rfl⟩) Tryd.underlying3 rfl hF.1 hF.2.1 (hK _ _ (NewT.refl _) rfl))
                                  · exact fun a wx hT hF K hK => rely_wp rfl (opr_move (.inl rfl) (hK _ _ (NewT.refl _) hF.1))
                                  · exact fun a wx hT hF K hK => rely_if (rely_gt hF.2.1) (NewT.refl _) hK fun hE hK => opr_move (.inl rfl) (hK _ _ (NewT.refl _) hF.1)
                                  · exact fun a wx hT hF K hK => rely_if (rely_gt hF.2.1) (NewT.refl _) hK fun hE hK => opr_move (.inl rfl) (hK _ _ (NewT.refl _) hF.1)
                                  · intro a wx hT hF K hK
                                    obtain ⟨f90, f91, f89, _⟩ := hF
                                    have f90 : (e.saga == x.saga) = true → a.tmps.getD 90 undef = u9 := f90
                                    have f91 : (e.saga == x.saga) = true → a.tmps.getD 91 undef = .int .i64 ((j : Int)) := f91
                                    have f89 : a.tmps.getD 89 undef = .bool (e.saga == x.saga) := f89
                                    refine rely_if (rely_gt f89) (NewT.refl _) hK (fun hE hK => ?_)
                                    exact opr_idxL (i := j) (p := e) entEl (HEE.out) (rfl) rfl (by rw [eval_tmp, (f90 hE)]; exact (((HWA.out.new HM.out).new hT).1)) (f91 hE) (fun v hv => hK v _ (NewT.refl _) hv)
                                  · exact fun a wx hT hF K hK => rely_if (rely_gt hF.2.1) (NewT.refl _) hK fun hE hK => opr_fldEe1 rfl (hF.1 hE) (fun u hu => hK u _ (NewT.refl _) hu)
                                  · exact fun a wx hT hF K hK => rely_if (rely_gt hF.2.1) (NewT.refl _) hK fun hE hK => opr_ldIpD rfl (hF.1 hE) (hK _ _ (NewT.refl _) rfl)
                                  · exact fun a wx hT hF K hK => rely_if (rely_gt hF.2.1) (NewT.refl _) hK fun hE hK => opr_fldCl1 rfl hF.1 (hK _ _ (NewT.refl _) rfl)
                                  · exact fun a wx hT hF K hK => rely_if (rely_gt hF.2.1) (NewT.refl _) hK fun hE hK => opr_ldI (hT.row Rga.out) (by decide) rfl rfl (hF.1 hE) (hK _ _ (NewT.refl _) rfl)
                                  · exact fun a wx hT hF K hK => rely_if (rely_gt hF.2.2.1) (NewT.refl _) hK fun hE hK => opr_cmp (b := e.step == x.step) (.inl ⟨rfl, rfl⟩) Tryd.underlying3 rfl (hF.1 hE) (hF.2.1 hE) (hK _ _ (NewT.refl _) rfl)
                                  · exact fun a wx hT hF K hK => rely_wp rfl (opr_pick_b rfl hF.1 (fun hb => hK _ _ (NewT.refl _) (pn_and1 Q1_21 (hF.2.1 hb) hb)) (fun hb => hK _ _ (NewT.refl _) (pn_and0 Q1_21 hb)))
                                  · intro w18 k18
                                    iterate 2 (intro u h; obtain rfl := Eq.symm (h (by simp)); clear h)
                                    iterate 2 (intro _ _)
                                    iterate 5 (intro u h; obtain rfl := Eq.symm (h (by simp)); clear h)
                                    iterate 8 (intro _ _)
                                    intro u h; obtain rfl := Eq.symm (h (by simp)); clear h
                                    subst Q1_21
                                    refine relyEnd_nil rfl ?_
                                    simp only [Act.put, List.setIfInBounds_toArray, List.set_cons_zero, List.set_cons_succ]
                                    refine opr_move (.inr rfl) ?_
                                    go_simp
                                    replace Rga := Lib.hid (k18.row Rga.out)
                                    replace HM := Lib.hid (NewT.trans _ _ _ HM.out k18)
                                    clear k18
                                    rw [HXS.out, HXT.out]
                                    obtain ⟨sm, hsm⟩ : ∃ z, ((e.saga == y.c.saga) && (e.step == y.c.step)) = z := ⟨_, rfl⟩
                                    rw [hsm]
                                    have HSM := Lib.hid hsm
                                    clear hsm
                                    go_upto_region 22 with fail
                                    refine wp_region_rely (NewT) [SV.eq (.bool (sm)), SV.eq (.bool (sm)), svIf sm (SV.eq (u9)), svIf sm (SV.eq (.int .i64 ((j : Int)))), svIf sm (svEl 4 eyE (e)), svIf sm (svBp (e.back)), svIf sm (SV.eq (.bool (e.back))), svIf sm (SV.eq (.pointer (some ⟨ga, 3, none⟩))), svIf sm (SV.eq (.bool (x.back))), svIf sm (SV.eq (.bool (e.back == x.back)))] [([(16, none)], none), ([(99, some 0)], none), ([(9, none), (100, some 1)], some (100, true)), ([(15, none), (100, some 1)], some (100, true)), ([(101, some 2), (102, some 3), (100, some 1)], some (100, true)), ([(103, some 4), (100, some 1)], some (100, true)), ([(104, some 5), (100, some 1)], some (100, true)), ([(10, none), (100, some 1)], some (100, true)), ([(106, some 7), (100, some 1)], some (100, true)), ([(105, some 6), (107, some 8), (100, some 1)], some (100, true))] 211 rfl (by kernel_rfl) rfl (by kernel_rfl) (by kernel_rfl) rfl NewT.trans (NewT.drew _) (Nat.le_of_ble_eq_true rfl) ⟨?_, ?_, ?_, ?_, ?_, ?_, ?_, ?_, ?_, ?_, trivial⟩ ?_
                                    · exact fun a wx hT hF K hK => rely_wp rfl (opr_move (.inl rfl) (hK _ _ (NewT.refl _) hF.1))
                                    · exact fun a wx hT hF K hK => rely_wp rfl (opr_move (.inl rfl) (hK _ _ (NewT.refl _) hF.1))
                                    · exact fun a wx hT hF K hK => rely_if (rely_gt hF.2.1) (NewT.refl _) hK fun hE hK => opr_move (.inl rfl) (hK _ _ (NewT.refl _) hF.1)
                                    · exact fun a wx hT hF K hK => rely_if (rely_gt hF.2.1) (NewT.refl _) hK fun hE hK => opr_move (.inl rfl) (hK _ _ (NewT.refl _) hF.1)
                                    · intro a wx hT hF K hK
                                      obtain ⟨f101, f102, f100, _⟩ := hF
                                      have f101 : sm = true → a.tmps.getD 101 undef = u9 := f101
                                      have f102 : sm = true → a.tmps.getD 102 undef = .int .i64 ((j : Int)) := f102
                                      have f100 : a.tmps.getD 100 undef = .bool (sm) := f100
                                      refine rely_if (rely_gt f100) (NewT.refl _) hK (fun hE hK => ?_)
                                      exact opr_idxL (i := j) (p := e) entEl (HEE.out) (rfl) rfl (by rw [eval_tmp, (f101 hE)]; exact (((HWA.out.new HM.out).new hT).1)) (f102 hE) (fun v hv => hK v _ (NewT.refl _) hv)
                                    · exact fun a wx hT hF K hK => rely_if (rely_gt hF.2.1) (NewT.refl _) hK fun hE hK => opr_fldEe2 rfl (hF.1 hE) (fun u hu => hK u _ (NewT.refl _) hu)
                                    · exact fun a wx hT hF K hK => rely_if (rely_gt hF.2.1) (NewT.refl _) hK fun hE hK => opr_ldBp rfl (hF.1 hE) (hK _ _ (NewT.refl _) rfl)
                                    · exact fun a wx hT hF K hK => rely_if (rely_gt hF.2.1) (NewT.refl _) hK fun hE hK => opr_fldCl3 rfl hF.1 (hK _ _ (NewT.refl _) rfl)
                                    · exact fun a wx hT hF K hK => rely_if (rely_gt hF.2.1) (NewT.refl _) hK fun hE hK => opr_ldQ (hT.row Rga.out) (by decide) rfl rfl (hF.1 hE) (hK _ _ (NewT.refl _) rfl)
                                    · exact fun a wx hT hF K hK => rely_if (rely_gt hF.2.2.1) (NewT.refl _) hK fun hE hK => opr_eqlQ (b := e.back == x.back) (rfl) rfl (hF.1 hE) (hF.2.1 hE) (hK _ _ (NewT.refl _) rfl)
                                    · intro w19 k19
                                      iterate 2 (intro u h; obtain rfl := Eq.symm (h (by simp)); clear h)
                                      iterate 7 (intro _ _)
                                      intro u108 h; have g108 := h (by simp); clear h; replace g108 := show (svIf sm (SV.eq (.bool (e.back == x.back)))).pred u108 w19 from g108
                                      refine relyEnd_nil rfl ?_
                                      simp only [Act.put, List.setIfInBounds_toArray, List.set_cons_zero, List.set_cons_succ]
                                      refine opr_pick_and (b := sm) (e := e.back == x.back) rfl rfl (fun hb => g108 hb) ?_
                                      go_simp
                                      replace Rga := Lib.hid (k19.row Rga.out)
                                      replace HM := Lib.hid (NewT.trans _ _ _ HM.out k19)
                                      clear k19
                                      cases hb : (sm && (e.back == x.back))
                                      · have HIE : Hid (isE y.c.saga y.c.step y.c.back e = false) := Lib.hid (by unfold isE; rw [HSM.out, ← HXB.out]; exact hb)
                                        clear hb
                                        go_upto_region 26 with fail
                                        obtain ⟨q1_26, Q1_26⟩ : ∃ bq_, (((List.take j L).any (undF y.c.saga y.c.step)) || ((sm && e.back) && e.good)) = bq_ := ⟨_, rfl⟩
                                        refine wp_region_steps0 NewT [SV.eq (.bool ((List.take j L).any (undF y.c.saga y.c.step))), SV.eq (.bool ((List.take j L).any (undF y.c.saga y.c.step))), svIf ((!((List.take j L).any (undF y.c.saga y.c.step)))) (SV.eq (.bool (sm))), SV.eq (gV ((!((List.take j L).any (undF y.c.saga y.c.step)))) (sm)), svIf (((!((List.take j L).any (undF y.c.saga y.c.step)))) && sm) (SV.eq (u9)), svIf (((!((List.take j L).any (undF y.c.saga y.c.step)))) && sm) (SV.eq (.int .i64 ((j : Int)))), svIf (((!((List.take j L).any (undF y.c.saga y.c.step)))) && sm) (svEl 4 eyE (e)), svIf (((!((List.take j L).any (undF y.c.saga y.c.step)))) && sm) (svBp (e.back)), svIf (((!((List.take j L).any (undF y.c.saga y.c.step)))) && sm) (SV.eq (.bool (e.back))), svIf ((!((List.take j L).any (undF y.c.saga y.c.step)))) (SV.eq (.bool (sm && e.back))), SV.eq (gV ((!((List.take j L).any (undF y.c.saga y.c.step)))) (sm && e.back)), svIf (((!((List.take j L).any (undF y.c.saga y.c.step)))) && (sm && e.back)) (SV.eq (u9)), svIf (((!((List.take j L).any (undF y.c.saga y.c.step)))) && (sm && e.back)) (SV.eq (.int .i64 ((j : Int)))), svIf (((!((List.take j L).any (undF y.c.saga y.c.step)))) && (sm && e.back)) (svEl 4 eyE (e)), svIf (((!((List.take j L).any (undF y.c.saga y.c.step)))) && (sm && e.back)) (svBp (e.good)), svIf (((!((List.take j L).any (undF y.c.saga y.c.step)))) && (sm && e.back)) (SV.eq (.bool (e.good))), svIf ((!((List.take j L).any (undF y.c.saga y.c.step)))) (SV.eq (.bool ((sm && e.back) && e.good))), SV.eq (.bool (q1_26)), SV.eq (.bool (q1_26))] [([(14, none)], none), ([(118, some 0)], none), ([(16, none), (119, some 1)], some (119, false)), ([(120, some 2), (119, some 1)], some (119, false)), ([(9, none), (121, some 3)], some (121, true)), ([(15, none), (121, some 3)], some (121, true)), ([(122, some 4), (123, some 5), (121, some 3)], some (121, true)), ([(124, some 6), (121, some 3)], some (121, true)), ([(125, some 7), (121, some 3)], some (121, true)), ([(121, some 3), (126, some 8), (119, some 1)], some (119, false)), ([(127, some 9), (119, some 1)], some (119, false)), ([(9, none), (128, some 10)], some (128, true)), ([(15, none), (128, some 10)], some (128, true)), ([(129, some 11), (130, some 12), (128, some 10)], some (128, true)), ([(131, some 13), (128, some 10)], some (128, true)), ([(132, some 14), (128, some 10)], some (128, true)), ([(128, some 10), (133, some 15), (119, some 1)], some (119, false)), ([(119, some 1), (134, some 16)], none), ([(135, some 17)], none)] 211 19 rfl rfl (by kernel_rfl) NewT.trans (NewT.refl _) (Nat.le_of_ble_eq_true rfl) ⟨?_, ?_, ?_, ?_, ?_, ?_, ?_, ?_, ?_, ?_, ?_, ?_, ?_, ?_, ?_, ?_, ?_, ?_, ?_, trivial⟩ ?_
                                        · exact fun a wx hT hF K hK => rely_wp rfl (opr_move (.inl rfl) (hK _ _ (NewT.refl _) hF.1))
                                        · exact fun a wx hT hF K hK => rely_wp rfl (opr_move (.inl rfl) (hK _ _ (NewT.refl _) hF.1))
                                        · exact fun a wx hT hF K hK => rely_if (rely_gf hF.2.1) (NewT.refl _) hK fun hE hK => opr_move (.inl rfl) (hK _ _ (NewT.refl _) hF.1)
                                        · exact fun a wx hT hF K hK => rely_ifg (rely_gf hF.2.1) (NewT.refl _) hK fun hE hK => opr_move (.inl rfl) (hK _ _ (NewT.refl _) (hF.1 hE))
                                        · exact fun a wx hT hF K hK => rely_if (rely_ggt hF.2.1) (NewT.refl _) hK fun hE hK => opr_move (.inl rfl) (hK _ _ (NewT.refl _) hF.1)
                                        · exact fun a wx hT hF K hK => rely_if (rely_ggt hF.2.1) (NewT.refl _) hK fun hE hK => opr_move (.inl rfl) (hK _ _ (NewT.refl _) hF.1)
                                        · intro a wx hT hF K hK
                                          obtain ⟨f122, f123, f121, _⟩ := hF
                                          have f122 : (((!((List.take j L).any (undF y.c.saga y.c.step)))) && sm) = true → a.tmps.getD 122 undef = u9 := f122
                                          have f123 : (((!((List.take j L).any (undF y.c.saga y.c.step)))) && sm) = true → a.tmps.getD 123 undef = .int .i64 ((j : Int)) := f123
                                          have f121 : a.tmps.getD 121 undef = gV ((!((List.take j L).any (undF y.c.saga y.c.step)))) (sm) := f121
                                          refine rely_if (rely_ggt f121) (NewT.refl _) hK (fun hE hK => ?_)
                                          exact opr_idxL (i := j) (p := e) entEl (HEE.out) (rfl) rfl (by rw [eval_tmp, (f122 hE)]; exact (((HWA.out.new HM.out).new hT).1)) (f123 hE) (fun v hv => hK v _ (NewT.refl _) hv)
                                        · exact fun a wx hT hF K hK => rely_if (rely_ggt hF.2.1) (NewT.refl _) hK fun hE hK => opr_fldEe2 rfl (hF.1 hE) (fun u hu => hK u _ (NewT.refl _) hu)
                                        · exact fun a wx hT hF K hK => rely_if (rely_ggt hF.2.1) (NewT.refl _) hK fun hE hK => opr_ldBp rfl (hF.1 hE) (hK _ _ (NewT.refl _) rfl)
                                        · exact fun a wx hT hF K hK => rely_if (rely_gf hF.2.2.1) (NewT.refl _) hK fun hE hK => opr_pick_b rfl (hF.1.trans (gV_on hE)) (fun hb => hK _ _ (NewT.refl _) (pk_and1 (hF.2.1 (band hE hb)) hb)) (fun hb => hK _ _ (NewT.refl _) (pk_and0 hb))
                                        · exact fun a wx hT hF K hK => rely_ifg (rely_gf hF.2.1) (NewT.refl _) hK fun hE hK => opr_move (.inl rfl) (hK _ _ (NewT.refl _) (hF.1 hE))
                                        · exact fun a wx hT hF K hK => rely_if (rely_ggt hF.2.1) (NewT.refl _) hK fun hE hK => opr_move (.inl rfl) (hK _ _ (NewT.refl _) hF.1)
                                        · exact fun a wx hT hF K hK => rely_if (rely_ggt hF.2.1) (NewT.refl _) hK fun hE hK => opr_move (.inl rfl) (hK _ _ (NewT.refl _) hF.1)
                                        · intro a wx hT hF K hK
                                          obtain ⟨f129, f130, f128, _⟩ := hF
                                          have f129 : (((!((List.take j L).any (undF y.c.saga y.c.step)))) && (sm && e.back)) = true → a.tmps.getD 129 undef = u9 := f129
                                          have f130 : (((!((List.take j L).any (undF y.c.saga y.c.step)))) && (sm && e.back)) = true → a.tmps.getD 130 undef = .int .i64 ((j : Int)) := f130
                                          have f128 : a.tmps.getD 128 undef = gV ((!((List.take j L).any (undF y.c.saga y.c.step)))) (sm && e.back) := f128
                                          refine rely_if (rely_ggt f128) (NewT.refl _) hK (fun hE hK => ?_)
                                          exact opr_idxL (i := j) (p := e) entEl (HEE.out) (rfl) rfl (by rw [eval_tmp, (f129 hE)]; exact (((HWA.out.new HM.out).new hT).1)) (f130 hE) (fun v hv => hK v _ (NewT.refl _) hv)
                                        · exact fun a wx hT hF K hK => rely_if (rely_ggt hF.2.1) (NewT.refl _) hK fun hE hK => opr_fldEe3 rfl (hF.1 hE) (fun u hu => hK u _ (NewT.refl _) hu)
                                        · exact fun a wx hT hF K hK => rely_if (rely_ggt hF.2.1) (NewT.refl _) hK fun hE hK => opr_ldBp rfl (hF.1 hE) (hK _ _ (NewT.refl _) rfl)
                                        · exact fun a wx hT hF K hK => rely_if (rely_gf hF.2.2.1) (NewT.refl _) hK fun hE hK => opr_pick_b rfl (hF.1.trans (gV_on hE)) (fun hb => hK _ _ (NewT.refl _) (pk_and1 (hF.2.1 (band hE hb)) hb)) (fun hb => hK _ _ (NewT.refl _) (pk_and0 hb))
                                        · exact fun a wx hT hF K hK => rely_wp rfl (opr_pick_b rfl hF.1 (fun hb => hK _ _ (NewT.refl _) (pn_or1 Q1_26 hb)) (fun hb => hK _ _ (NewT.refl _) (pn_or0 Q1_26 (hF.2.1 (bnot hb)) hb)))
                                        · exact fun a wx hT hF K hK => rely_wp rfl (opr_move (.inr rfl) (hK _ _ (NewT.refl _) hF.1))
                                        · intro w20 k20
                                          iterate 2 (intro u h; obtain rfl := Eq.symm (h (by simp)); clear h)
                                          iterate 15 (intro _ _)
                                          iterate 2 (intro u h; obtain rfl := Eq.symm (h (by simp)); clear h)
                                          subst Q1_26
                                          refine relyEnd_nil rfl ?_
                                          refine wpList_end rfl ?_
                                          simp only [Act.put, List.setIfInBounds_toArray, List.set_cons_zero, List.set_cons_succ]
                                          go_simp
                                          replace Rga := Lib.hid (k20.row Rga.out)
                                          replace HM := Lib.hid (NewT.trans _ _ _ HM.out k20)
                                          clear k20
                                          have hj2 := HGE2.out
                                          have hj3 := HLL.out
                                          have HAN : Hid ((List.take (j + 1) L).any (isE y.c.saga y.c.step y.c.back) = (List.take j L).any (isE y.c.saga y.c.step y.c.back)) := Lib.hid (by rw [take_anyS HEE.out, HIE.out]; simp)
                                          have HUN : Hid ((List.take (j + 1) L).any (undF y.c.saga y.c.step) = ((((List.take j L).any (undF y.c.saga y.c.step)) || ((sm && e.back) && e.good)))) := Lib.hid (by rw [take_anyS HEE.out]; unfold undF; rw [HSM.out])
                                          go_wp2
                                          go_roundw
                                          case rel => exact ⟨j + 1, by omega, by go_num, by rw [HAN.out], by first | rw [HUN.out] | (rw [← HUN.out]), by first | exact HM | trivial⟩
                                          case measure => simp [intOf]; omega
                                      · have HIE : Hid (isE y.c.saga y.c.step y.c.back e = true) := Lib.hid (by unfold isE; rw [HSM.out, ← HXB.out]; exact hb)
                                        clear hb
                                        go_upto_region 24 with fail
                                        refine wp_region_rely (NewT) [SV.eq (u9), SV.eq (.int .i64 ((j : Int))), svEl 4 eyE (e), svBp (e.good), SV.eq (.bool (e.good)), SV.eq (.pointer (some ⟨ga, 7, none⟩)), SV.eq (.bool (x.good))] [([(9, none)], none), ([(15, none)], none), ([(110, some 0), (111, some 1)], none), ([(112, some 2)], none), ([(113, some 3)], none), ([(10, none)], none), ([(115, some 5)], none)] 211 rfl (by kernel_rfl) rfl (by kernel_rfl) (by kernel_rfl) rfl NewT.trans (NewT.drew _) (Nat.le_of_ble_eq_true rfl) ⟨?_, ?_, ?_, ?_, ?_, ?_, ?_, trivial⟩ ?_
                                        · exact fun a wx hT hF K hK => rely_wp rfl (opr_move (.inl rfl) (hK _ _ (NewT.refl _) hF.1))
                                        · exact fun a wx hT hF K hK => rely_wp rfl (opr_move (.inl rfl) (hK _ _ (NewT.refl _) hF.1))
                                        · intro a wx hT hF K hK
                                          obtain ⟨f110, f111, _⟩ := hF
                                          have f110 : a.tmps.getD 110 undef = u9 := f110
                                          have f111 : a.tmps.getD 111 undef = .int .i64 ((j : Int)) := f111
                                          refine rely_wp rfl ?_
                                          exact opr_idxL (i := j) (p := e) entEl (HEE.out) (rfl) rfl (by rw [eval_tmp, f110]; exact (((HWA.out.new HM.out).new hT).1)) f111 (fun v hv => hK v _ (NewT.refl _) hv)
                                        · exact fun a wx hT hF K hK => rely_wp rfl (opr_fldEe3 rfl hF.1 (fun u hu => hK u _ (NewT.refl _) hu))
                                        · exact fun a wx hT hF K hK => rely_wp rfl (opr_ldBp rfl hF.1 (hK _ _ (NewT.refl _) rfl))
                                        · exact fun a wx hT hF K hK => rely_wp rfl (opr_fldCl7 rfl hF.1 (hK _ _ (NewT.refl _) rfl))
                                        · exact fun a wx hT hF K hK => rely_wp rfl (opr_ldQ (hT.row Rga.out) (by decide) rfl rfl hF.1 (hK _ _ (NewT.refl _) rfl))
                                        · intro w21 k21
                                          iterate 2 (intro u h; obtain rfl := Eq.symm (h (by simp)); clear h)
                                          iterate 2 (intro _ _)
                                          iterate 3 (intro u h; obtain rfl := Eq.symm (h (by simp)); clear h)
                                          refine relyEnd_nil rfl ?_
                                          simp only [Act.put, List.setIfInBounds_toArray, List.set_cons_zero, List.set_cons_succ]
                                          refine opr_neqQ (p := e.good) (q := x.good) (b := false) (by rw [HXE.out HIE.out]; exact bne_self_eq_false _) rfl rfl rfl ?_
                                          go_simp
                                          replace Rga := Lib.hid (k21.row Rga.out)
                                          replace HM := Lib.hid (NewT.trans _ _ _ HM.out k21)
                                          clear k21
                                          go_upto_region 26 with fail
                                          obtain ⟨q1_26, Q1_26⟩ : ∃ bq_, (((List.take j L).any (undF y.c.saga y.c.step)) || ((sm && e.back) && e.good)) = bq_ := ⟨_, rfl⟩
                                          refine wp_region_steps0 NewT [SV.eq (.bool ((List.take j L).any (undF y.c.saga y.c.step))), SV.eq (.bool ((List.take j L).any (undF y.c.saga y.c.step))), svIf ((!((List.take j L).any (undF y.c.saga y.c.step)))) (SV.eq (.bool (sm))), SV.eq (gV ((!((List.take j L).any (undF y.c.saga y.c.step)))) (sm)), svIf (((!((List.take j L).any (undF y.c.saga y.c.step)))) && sm) (SV.eq (u9)), svIf (((!((List.take j L).any (undF y.c.saga y.c.step)))) && sm) (SV.eq (.int .i64 ((j : Int)))), svIf (((!((List.take j L).any (undF y.c.saga y.c.step)))) && sm) (svEl 4 eyE (e)), svIf (((!((List.take j L).any (undF y.c.saga y.c.step)))) && sm) (svBp (e.back)), svIf (((!((List.take j L).any (undF y.c.saga y.c.step)))) && sm) (SV.eq (.bool (e.back))), svIf ((!((List.take j L).any (undF y.c.saga y.c.step)))) (SV.eq (.bool (sm && e.back))), SV.eq (gV ((!((List.take j L).any (undF y.c.saga y.c.step)))) (sm && e.back)), svIf (((!((List.take j L).any (undF y.c.saga y.c.step)))) && (sm && e.back)) (SV.eq (u9)), svIf (((!((List.take j L).any (undF y.c.saga y.c.step)))) && (sm && e.back)) (SV.eq (.int .i64 ((j : Int)))), svIf (((!((List.take j L).any (undF y.c.saga y.c.step)))) && (sm && e.back)) (svEl 4 eyE (e)), svIf (((!((List.take j L).any (undF y.c.saga y.c.step)))) && (sm && e.back)) (svBp (e.good)), svIf (((!((List.take j L).any (undF y.c.saga y.c.step)))) && (sm && e.back)) (SV.eq (.bool (e.good))), svIf ((!((List.take j L).any (undF y.c.saga y.c.step)))) (SV.eq (.bool ((sm && e.back) && e.good))), SV.eq (.bool (q1_26)), SV.eq (.bool (q1_26))] [([(14, none)], none), ([(118, some 0)], none), ([(16, none), (119, some 1)], some (119, false)), ([(120, some 2), (119, some 1)], some (119, false)), ([(9, none), (121, some 3)], some (121, true)), ([(15, none), (121, some 3)], some (121, true)), ([(122, some 4), (123, some 5), (121, some 3)], some (121, true)), ([(124, some 6), (121, some 3)], some (121, true)), ([(125, some 7), (121, some 3)], some (121, true)), ([(121, some 3), (126, some 8), (119, some 1)], some (119, false)), ([(127, some 9), (119, some 1)], some (119, false)), ([(9, none), (128, some 10)], some (128, true)), ([(15, none), (128, some 10)], some (128, true)), ([(129, some 11), (130, some 12), (128, some 10)], some (128, true)), ([(131, some 13), (128, some 10)], some (128, true)), ([(132, some 14), (128, some 10)], some (128, true)), ([(128, some 10), (133, some 15), (119, some 1)], some (119, false)), ([(119, some 1), (134, some 16)], none), ([(135, some 17)], none)] 211 19 rfl rfl (by kernel_rfl) NewT.trans (NewT.refl _) (Nat.le_of_ble_eq_true rfl) ⟨?_, ?_, ?_, ?_, ?_, ?_, ?_, ?_, ?_, ?_, ?_, ?_, ?_, ?_, ?_, ?_, ?_, ?_, ?_, trivial⟩ ?_
                                          · exact fun a wx hT hF K hK => rely_wp rfl (opr_move (.inl rfl) (hK _ _ (NewT.refl _) hF.1))
                                          · exact fun a wx hT hF K hK => rely_wp rfl (opr_move (.inl rfl) (hK _ _ (NewT.refl _) hF.1))
                                          · exact fun a wx hT hF K hK => rely_if (rely_gf hF.2.1) (NewT.refl _) hK fun hE hK => opr_move (.inl rfl) (hK _ _ (NewT.refl _) hF.1)
                                          · exact fun a wx hT hF K hK => rely_ifg (rely_gf hF.2.1) (NewT.refl _) hK fun hE hK => opr_move (.inl rfl) (hK _ _ (NewT.refl _) (hF.1 hE))
                                          · exact fun a wx hT hF K hK => rely_if (rely_ggt hF.2.1) (NewT.refl _) hK fun hE hK => opr_move (.inl rfl) (hK _ _ (NewT.refl _) hF.1)
                                          · exact fun a wx hT hF K hK => rely_if (rely_ggt hF.2.1) (NewT.refl _) hK fun hE hK => opr_move (.inl rfl) (hK _ _ (NewT.refl _) hF.1)
                                          · intro a wx hT hF K hK
                                            obtain ⟨f122, f123, f121, _⟩ := hF
                                            have f122 : (((!((List.take j L).any (undF y.c.saga y.c.step)))) && sm) = true → a.tmps.getD 122 undef = u9 := f122
                                            have f123 : (((!((List.take j L).any (undF y.c.saga y.c.step)))) && sm) = true → a.tmps.getD 123 undef = .int .i64 ((j : Int)) := f123
                                            have f121 : a.tmps.getD 121 undef = gV ((!((List.take j L).any (undF y.c.saga y.c.step)))) (sm) := f121
                                            refine rely_if (rely_ggt f121) (NewT.refl _) hK (fun hE hK => ?_)
                                            exact opr_idxL (i := j) (p := e) entEl (HEE.out) (rfl) rfl (by rw [eval_tmp, (f122 hE)]; exact (((HWA.out.new HM.out).new hT).1)) (f123 hE) (fun v hv => hK v _ (NewT.refl _) hv)
                                          · exact fun a wx hT hF K hK => rely_if (rely_ggt hF.2.1) (NewT.refl _) hK fun hE hK => opr_fldEe2 rfl (hF.1 hE) (fun u hu => hK u _ (NewT.refl _) hu)
                                          · exact fun a wx hT hF K hK => rely_if (rely_ggt hF.2.1) (NewT.refl _) hK fun hE hK => opr_ldBp rfl (hF.1 hE) (hK _ _ (NewT.refl _) rfl)
                                          · exact fun a wx hT hF K hK => rely_if (rely_gf hF.2.2.1) (NewT.refl _) hK fun hE hK => opr_pick_b rfl (hF.1.trans (gV_on hE)) (fun hb => hK _ _ (NewT.refl _) (pk_and1 (hF.2.1 (band hE hb)) hb)) (fun hb => hK _ _ (NewT.refl _) (pk_and0 hb))
                                          · exact fun a wx hT hF K hK => rely_ifg (rely_gf hF.2.1) (NewT.refl _) hK fun hE hK => opr_move (.inl rfl) (hK _ _ (NewT.refl _) (hF.1 hE))
                                          · exact fun a wx hT hF K hK => rely_if (rely_ggt hF.2.1) (NewT.refl _) hK fun hE hK => opr_move (.inl rfl) (hK _ _ (NewT.refl _) hF.1)
                                          · exact fun a wx hT hF K hK => rely_if (rely_ggt hF.2.1) (NewT.refl _) hK fun hE hK => opr_move (.inl rfl) (hK _ _ (NewT.refl _) hF.1)
                                          · intro a wx hT hF K hK
                                            obtain ⟨f129, f130, f128, _⟩ := hF
                                            have f129 : (((!((List.take j L).any (undF y.c.saga y.c.step)))) && (sm && e.back)) = true → a.tmps.getD 129 undef = u9 := f129
                                            have f130 : (((!((List.take j L).any (undF y.c.saga y.c.step)))) && (sm && e.back)) = true → a.tmps.getD 130 undef = .int .i64 ((j : Int)) := f130
                                            have f128 : a.tmps.getD 128 undef = gV ((!((List.take j L).any (undF y.c.saga y.c.step)))) (sm && e.back) := f128
                                            refine rely_if (rely_ggt f128) (NewT.refl _) hK (fun hE hK => ?_)
                                            exact opr_idxL (i := j) (p := e) entEl (HEE.out) (rfl) rfl (by rw [eval_tmp, (f129 hE)]; exact (((HWA.out.new HM.out).new hT).1)) (f130 hE) (fun v hv => hK v _ (NewT.refl _) hv)
                                          · exact fun a wx hT hF K hK => rely_if (rely_ggt hF.2.1) (NewT.refl _) hK fun hE hK => opr_fldEe3 rfl (hF.1 hE) (fun u hu => hK u _ (NewT.refl _) hu)
                                          · exact fun a wx hT hF K hK => rely_if (rely_ggt hF.2.1) (NewT.refl _) hK fun hE hK => opr_ldBp rfl (hF.1 hE) (hK _ _ (NewT.refl _) rfl)
                                          · exact fun a wx hT hF K hK => rely_if (rely_gf hF.2.2.1) (NewT.refl _) hK fun hE hK => opr_pick_b rfl (hF.1.trans (gV_on hE)) (fun hb => hK _ _ (NewT.refl _) (pk_and1 (hF.2.1 (band hE hb)) hb)) (fun hb => hK _ _ (NewT.refl _) (pk_and0 hb))
                                          · exact fun a wx hT hF K hK => rely_wp rfl (opr_pick_b rfl hF.1 (fun hb => hK _ _ (NewT.refl _) (pn_or1 Q1_26 hb)) (fun hb => hK _ _ (NewT.refl _) (pn_or0 Q1_26 (hF.2.1 (bnot hb)) hb)))
                                          · exact fun a wx hT hF K hK => rely_wp rfl (opr_move (.inr rfl) (hK _ _ (NewT.refl _) hF.1))
                                          · intro w22 k22
                                            iterate 2 (intro u h; obtain rfl := Eq.symm (h (by simp)); clear h)
                                            iterate 15 (intro _ _)
                                            iterate 2 (intro u h; obtain rfl := Eq.symm (h (by simp)); clear h)
                                            subst Q1_26
                                            refine relyEnd_nil rfl ?_
                                            refine wpList_end rfl ?_
                                            simp only [Act.put, List.setIfInBounds_toArray, List.set_cons_zero, List.set_cons_succ]
                                            go_simp
                                            replace Rga := Lib.hid (k22.row Rga.out)
                                            replace HM := Lib.hid (NewT.trans _ _ _ HM.out k22)
                                            clear k22
                                            have hj2 := HGE2.out
                                            have hj3 := HLL.out
                                            have HAN : Hid ((List.take (j + 1) L).any (isE y.c.saga y.c.step y.c.back) = true) := Lib.hid (by rw [take_anyS HEE.out, HIE.out]; simp)
                                            have HUN : Hid ((List.take (j + 1) L).any (undF y.c.saga y.c.step) = ((((List.take j L).any (undF y.c.saga y.c.step)) || ((sm && e.back) && e.good)))) := Lib.hid (by rw [take_anyS HEE.out]; unfold undF; rw [HSM.out])
                                            go_wp2
                                            go_roundw
                                            case rel => exact ⟨j + 1, by omega, by go_num, by rw [HAN.out], by first | rw [HUN.out] | (rw [← HUN.out]), by first | exact HM | trivial⟩
                                            case measure => simp [intOf]; omega
      · clear hb
        go_wp2
        go_ret
        exact ⟨rfl, HM.out.out⟩
end Go.Proofs.YtchpmdcacpjojaaDoor
/- The two tables, out of the rows' own condition; the row's last step where the world has new blocks alone; the shapes of the arguments. -/
namespace Go.Proofs.YtchpmdcacpjojaaDoor
open Go.ChangeShapes Go.WideShapes Go.ChangeAt Go.WideMaps Go.WideElems Go.RowKit
set_option maxRecDepth 8000
set_option linter.all false

theorem gK : Tryd.prog.globalNamed "inspeximus/api.K" = some 1 := by kernel_rfl
theorem gF : Tryd.prog.globalNamed "inspeximus/api.First" = some 0 := by kernel_rfl
theorem tK : (Tryd.prog.globals[1]?).map (·.type) = some 126 := by kernel_rfl
theorem tF : (Tryd.prog.globals[0]?).map (·.type) = some 117 := by kernel_rfl
def laid2 : List (String × DataW Unit) := [("inspeximus/api.K", Rows.laid_inspeximus_api_K), ("inspeximus/api.First", Rows.laid_inspeximus_api_First)]
def kInts : List Int := kTab.map fun (n : Nat) => (n : Int)
def fInts : List Int := fTab.map fun (n : Nat) => (n : Int)
theorem tables_of_laid {W : World} (h : laidMetH Tryd.prog laid2 W) : Tables W := by
  rw [MakeChecks.laidMetH_plain _ _ _ (by kernel_rfl)] at h
  have hK : Lib.TabIs Tryd.prog W "inspeximus/api.K" .u32 kInts := Lib.tabIs_of_head gK tK Tryd.underlying126 Tryd.underlying116 (by kernel_rfl) (by kernel_rfl) h
  have hF : Lib.TabIs Tryd.prog W "inspeximus/api.First" .u32 fInts := Lib.tabIs_of_head gF tF Tryd.underlying117 Tryd.underlying116 (by kernel_rfl) (by kernel_rfl) (laidMet.tail h)
  have hs : 1 < W.heap.size := World.block_lt_of_cell? _ _ (hK.cell gK 0 (by decide))
  refine ⟨hs, fun i hi => ?_, fun i hi => ?_⟩
  · rw [hK.cell gK i (by simpa [kInts, kTab] using hi)]
    have h : ∀ i : Fin 64, kInts.getD i.val 0 = uN (Kc i.val) := by decide +kernel
    rw [h ⟨i, hi⟩]
  · rw [hF.cell gF i (by simpa [fInts, fTab] using hi)]
    have h : ∀ i : Fin 8, fInts.getD i.val 0 = uN (Fc i.val) := by decide +kernel
    rw [h ⟨i, hi⟩]
/-- The door's own heap meets the condition. -/
theorem door_met (os : Os) (args : Array Value) : laidMetH Tryd.prog laid2 ((World.doorLaid Tryd.prog 400 os).forCall (fun _ _ => 0) ⟨#[], args, []⟩).memory :=
  laidMetH_of_parts3 (fuel := 8) (laidMet_of_run' 8 (by kernel_rfl) (by kernel_rfl)) (by kernel_rfl) (by kernel_rfl)
end Go.Proofs.YtchpmdcacpjojaaDoor
/- (all of it lies in EP now) -/
/- The laws' arguments, opened: arrays of numbers by value, slices of bytes. -/
namespace Go.Proofs.YtchpmdcacpjojaaDoor
open Go.ChangeShapes Go.WideShapes Go.ChangeAt Go.WideMaps Go.WideElems Go.RowKit
set_option maxRecDepth 8000
set_option linter.all false

end Go.Proofs.YtchpmdcacpjojaaDoor
/- Laws of five and of six arguments: each of them read. No program is named. -/
namespace Go.Proofs.YtchpmdcacpjojaaDoor
open Go Go.ChangeShapes Go.RowKit
set_option maxRecDepth 8000
set_option linter.all false
section
variable {H : Type} {enc : TypeId × Value → H} {P : Program} {w : World} {base : Nat} {spare : Nat → Bool} {held : Bool}
end
end Go.Proofs.YtchpmdcacpjojaaDoor
/- The laws' arguments, opened: keys and checkpoints by value. -/
namespace Go.Proofs.YtchpmdcacpjojaaDoor
open Go Go.ChangeShapes Go.WideShapes Go.ChangeAt Go.WideMaps Go.WideElems Go.RowKit
set_option maxRecDepth 8000
set_option linter.all false
theorem hashTy : HashTy Tryd.prog 32 5 := ⟨Tryd.underlying32, Tryd.underlying5, by kernel_rfl, by kernel_rfl⟩
theorem keysTy : ∃ f0 f1 f2, KeysTy Tryd.prog 24 32 5 f0 f1 f2 :=
  ⟨_, _, _, Tryd.underlying24, by kernel_rfl, rfl, rfl, rfl, Tryd.underlying22, Tryd.underlying22, Tryd.underlying3, by kernel_rfl, by kernel_rfl, by kernel_rfl, hashTy⟩
section
variable {H : Type} {enc : TypeId × Value → H} {w : World} {base : Nat} {spare : Nat → Bool} {held : Bool} {r : Reach} {b0 : Nat} {v : Value} {d : DataW H} {p : List MemPlace}
theorem open_keysA (hv : Value.okWide Tryd.prog w r b0 24 v) (h : DataW.Trod enc Tryd.prog w base spare held 24 v d p) : ∃ ps ws need, KeysV w v ps ws need ∧ (Lit.int .i64 need).wf = true := by
  obtain ⟨_, _, _, K⟩ := keysTy
  exact open_keys K hv h
end
end Go.Proofs.YtchpmdcacpjojaaDoor
/- Arguments that are calls, slices of calls, slices of acts, opened. -/
namespace Go.Proofs.YtchpmdcacpjojaaDoor
open Go Go.ChangeShapes Go.WideShapes Go.ChangeAt Go.WideMaps Go.WideElems Go.RowKit
set_option maxRecDepth 8000
set_option linter.all false
section
variable {H : Type} {enc : TypeId × Value → H} {w : World} {base : Nat} {spare : Nat → Bool} {held : Bool} {r : Reach} {b0 : Nat} {v : Value} {d : DataW H} {p : List MemPlace} {n : Nat} {cs : Array Value}
theorem call_of {fs : Array Field} (hs : Tryd.prog.underlying 34 = some (.struct fs)) (hsz : cs.size = 41) (hf : ∀ (i : Nat) (f : Field), fs[i]? = some f → ∃ y, DataW.trod enc Tryd.prog w base spare held n f.type ((cs.toList.drop f.offset).take (Tryd.prog.cellsOf f.type)) = some y) : ∃ c : Cl, cs = rowA 41 (clF c) := by
  rw [Tryd.underlying34] at hs
  cases hs
  obtain ⟨z0, e0, _⟩ := field_int (ty := 3) (o := 0) Tryd.underlying3 (by kernel_rfl) (hf 0 _ rfl)
  obtain ⟨z1, e1, _⟩ := field_int (ty := 3) (o := 1) Tryd.underlying3 (by kernel_rfl) (hf 1 _ rfl)
  obtain ⟨z2, e2, _⟩ := field_int (ty := 3) (o := 2) Tryd.underlying3 (by kernel_rfl) (hf 2 _ rfl)
  obtain ⟨z4, e4, _⟩ := field_int (ty := 3) (o := 4) Tryd.underlying3 (by kernel_rfl) (hf 4 _ rfl)
  obtain ⟨z5, e5, _⟩ := field_int (ty := 3) (o := 5) Tryd.underlying3 (by kernel_rfl) (hf 5 _ rfl)
  obtain ⟨z8, e8, _⟩ := field_int (ty := 3) (o := 8) Tryd.underlying3 (by kernel_rfl) (hf 8 _ rfl)
  obtain ⟨b3, e3⟩ := field_bool (ty := 4) (o := 3) Tryd.underlying4 (by kernel_rfl) (hf 3 _ rfl)
  obtain ⟨b6, e6⟩ := field_bool (ty := 4) (o := 6) Tryd.underlying4 (by kernel_rfl) (hf 6 _ rfl)
  obtain ⟨b7, e7⟩ := field_bool (ty := 4) (o := 7) Tryd.underlying4 (by kernel_rfl) (hf 7 _ rfl)
  obtain ⟨t, ht⟩ := field_hash (ty := 32) (o := 9) (m := 32) Tryd.underlying32 Tryd.underlying5 (by kernel_rfl) (by kernel_rfl) (hf 9 _ rfl)
  refine ⟨⟨z0, z1, z2, b3, z4, z5, b6, b7, z8, t⟩, ?_⟩
  apply Array.ext_getElem?
  intro i
  by_cases hi : i < 41
  · rw [rowA_at _ _ _ hi]
    by_cases h9 : i < 9
    · have : i = 0 ∨ i = 1 ∨ i = 2 ∨ i = 3 ∨ i = 4 ∨ i = 5 ∨ i = 6 ∨ i = 7 ∨ i = 8 := by omega
      rcases this with rfl | rfl | rfl | rfl | rfl | rfl | rfl | rfl | rfl <;> simpa [clF]
    · obtain ⟨j, rfl⟩ : ∃ j, i = 9 + j := ⟨i - 9, by omega⟩
      rw [clF_tag _ _ (by omega), ht j (by omega)]
      rfl
  · rw [Array.getElem?_eq_none (by omega), Array.getElem?_eq_none (by rw [rowA_size]; omega)]
theorem act_of {fs : Array Field} (hs : Tryd.prog.underlying 44 = some (.struct fs)) (hsz : cs.size = 43) (hf : ∀ (i : Nat) (f : Field), fs[i]? = some f → ∃ y, DataW.trod enc Tryd.prog w base spare held n f.type ((cs.toList.drop f.offset).take (Tryd.prog.cellsOf f.type)) = some y) : ∃ x : Ac, cs = rowA 43 (acF x) := by
  rw [Tryd.underlying44] at hs
  cases hs
  obtain ⟨z, e0, _⟩ := field_int (ty := 3) (o := 0) Tryd.underlying3 (by kernel_rfl) (hf 0 _ rfl)
  obtain ⟨b, e2⟩ := field_bool (ty := 4) (o := 42) Tryd.underlying4 (by kernel_rfl) (hf 2 _ rfl)
  obtain ⟨y, hy⟩ := hf 1 _ rfl
  have hc41 : Tryd.prog.cellsOf 34 = 41 := by kernel_rfl
  replace hy : DataW.trod enc Tryd.prog w base spare held n 34 ((cs.toList.drop 1).take (Tryd.prog.cellsOf 34)) = some y := hy
  rw [hc41] at hy
  obtain ⟨xs, k, _, _, _, hxl, hel⟩ := DataW.trod_struct Tryd.underlying34 hy
  obtain ⟨c, hc⟩ := call_of (cs := ((cs.toList.drop 1).take 41).toArray) (n := k) (enc := enc) (w := w) (base := base) (spare := spare) (held := held) Tryd.underlying34 (by simp; omega) (fun j f hj => by
    have hlt : j < xs.length := by rw [hxl]; exact (Array.getElem?_eq_some_iff.1 hj).1
    exact ⟨xs[j], by rw [← List.getElem?_eq_getElem hlt]; simpa using hel j f hj⟩)
  refine ⟨⟨z, c, b⟩, ?_⟩
  apply Array.ext_getElem?
  intro i
  by_cases hi : i < 43
  · rw [rowA_at _ _ _ hi]
    by_cases h0 : i = 0
    · subst h0; simpa [acF] using e0
    · by_cases h1 : i < 42
      · obtain ⟨j, rfl⟩ : ∃ j, i = 1 + j := ⟨i - 1, by omega⟩
        have h3 := congrArg (fun z => z[j]?) hc
        simp only [rowA_at _ _ _ (show j < 41 by omega)] at h3
        unfold acF
        rw [if_neg (by omega), if_pos (by omega), show 1 + j - 1 = j by omega, ← h3]
        simp [show j < 41 by omega, Nat.add_comm 1 j]
      · obtain rfl : i = 42 := by omega
        simpa [acF] using e2
  · rw [Array.getElem?_eq_none (by omega), Array.getElem?_eq_none (by rw [rowA_size]; omega)]
theorem open_actsA (hv : Value.okWide Tryd.prog w r b0 25 v) (h : DataW.Trod enc Tryd.prog w base spare held 25 v d p) : ∃ l : List Ac, RdL 43 acE w v l := by
  obtain ⟨a0, len, cap, rfl⟩ := okWide_slice Tryd.underlying25 hv
  obtain ⟨fuel, hf⟩ := h
  have hce : Tryd.prog.cellsOf 44 = 43 := by kernel_rfl
  rcases Go.Deep.open_slice Tryd.underlying25 hf with ⟨hcs, _⟩ | ⟨a, len', cap', m, n, D, Pl, hcs, _, hl, hm, hmm, _, hx⟩
  · simp [Value.cells] at hcs
    obtain ⟨rfl, rfl, rfl⟩ := hcs
    exact ⟨[], rdL_nil w⟩
  · simp [Value.cells] at hcs
    obtain ⟨rfl, rfl, rfl⟩ := hcs
    have hlm : len ≤ m := by rw [hmm]; split <;> omega
    have each : ∀ i, i < len → ∃ q : Ac, ∀ j, j < 43 → w.cell? (a.add (i * 43 + j)) = some (acF q j) := fun i hi => by
      obtain ⟨cs', h1, h2⟩ := hx i (by omega)
      rw [hce] at h1
      obtain ⟨_, hlen, hcell⟩ := World.cells?_some h1
      obtain ⟨xs, k, _, _, _, hxl, hel⟩ := DataW.trod_struct Tryd.underlying44 h2
      obtain ⟨c, hc⟩ := act_of (cs := cs'.toArray) (n := k) (enc := enc) (w := w) (base := base) (spare := spare) (held := held) Tryd.underlying44 (by simpa using hlen) (fun j f hj => by
        have hlt : j < xs.length := by rw [hxl]; exact (Array.getElem?_eq_some_iff.1 hj).1
        exact ⟨xs[j], by rw [← List.getElem?_eq_getElem hlt]; simpa using hel j f hj⟩)
      refine ⟨c, fun j hj => ?_⟩
      have := hcell j (by omega)
      rw [Go.Deep.add_add] at this
      rw [this]
      have h3 := congrArg (fun z => z[j]?) hc
      simp only [rowA_at _ _ _ hj] at h3
      simpa using h3
    haveI : Inhabited Ac := ⟨⟨0, zC, false⟩⟩
    obtain ⟨q, hq⟩ := Go.Deep.choose_lt each
    have hlen : ((List.range len).map fun i => acF (q i)).length = len := by simp
    refine ⟨(List.range len).map q, (List.range len).map fun i => acF (q i), ⟨some a, cap, by rw [hlen], by rw [hlen]; exact hl, hm, fun h0 => ?_⟩, by simp, fun i x hx' => ?_⟩
    · rw [hlen] at h0
      obtain ⟨b, off, spot⟩ := a
      have hspot : spot = none := by simpa [Addr.add] using World.cell?_spot (hq 0 h0 0 (by omega))
      subst hspot
      refine ⟨b, off, rfl, fun i f hf' j hj => ?_⟩
      have hi : i < len := by have := (List.getElem?_eq_some_iff.1 hf').1; simpa using this
      simp [hi] at hf'
      subst hf'
      have := hq i hi j hj
      rw [Go.WideShapes.add_plain] at this
      rw [Nat.add_assoc]; exact this
    · have hi : i < len := by have := (List.getElem?_eq_some_iff.1 hx').1; simpa using this
      simp [hi] at hx'
      subst hx'
      exact ⟨acF (q i), by simp [hi], rfl⟩
end
end Go.Proofs.YtchpmdcacpjojaaDoor
