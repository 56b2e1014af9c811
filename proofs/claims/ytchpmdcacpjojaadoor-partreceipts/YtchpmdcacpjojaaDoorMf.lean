/- The laws' question whether package part answers as the document's example: alive. -/
import Derived.Test.YtchpmdcacpjojaaDoorMe
import Derived.Test.YtchpmdcacpjojaaDoorMd
import Derived.Test.YtchpmdcacpjojaaDoorMc
import Derived.Test.YtchpmdcacpjojaaDoorRows
import Derived.Test.YtchpmdcacpjojaaDoorMa
import Derived.Test.YtchpmdcacpjojaaDoorMb
import Derived.ProofKit
import Derived.LaidMore
import Derived.OpenShut
import Derived.Stop.Joined
import Derived.Lib.LaidTab
import Derived.Stop.LaidErr
import Derived.Carry
import Derived.Deep.Slices
set_option linter.all false
namespace Go.Proofs.YtchpmdcacpjojaaDoor
open Go Go.RowKit
set_option maxRecDepth 8000
set_option linter.all false
def exC : Cl := ⟨0, 0, 1, false, 1, 1, false, false, 0, z32⟩
def exD : Cl := ⟨0, 0, 1, false, 0, 1, false, false, 0, z32⟩
def exE0 : En := ⟨0, 0, false, true⟩
theorem bld_exC (w : World) : (Instr.build 34 #[(4, .int .i64 1), (5, .int .i64 1), (2, .int .i64 1)]).run Tryd.prog w = .ok (.agg (rowA 41 (clF exC))) w := by kernel_rfl
theorem bld_exD (w : World) : (Instr.build 34 #[(4, .int .i64 0), (5, .int .i64 1), (2, .int .i64 1)]).run Tryd.prog w = .ok (.agg (rowA 41 (clF exD))) w := by kernel_rfl
theorem ex_its : itsB 1 exC = true := by decide
theorem ex_no : itsB 1 exD = false := by decide
theorem ex_t1 (kf : Hs → List Int → Hs) (ps ws : List Hs) (need : Int) : takeC kf ps ws need 1 0 [] exC false = ansC kf ps ws need 0 exC true := by unfold takeC; rw [if_pos ex_its]; rfl
theorem ex_t2 (kf : Hs → List Int → Hs) (ps ws : List Hs) (need : Int) : takeC kf ps ws need 1 0 [exE0] exC true = ansC kf ps ws need 0 exC true := by unfold takeC; rw [if_pos ex_its]; rfl
theorem ex_t3 (kf : Hs → List Int → Hs) (ps ws : List Hs) (need : Int) : takeC kf ps ws need 1 0 [exE0] exD false = zC := by unfold takeC; rw [ex_no]; rfl
theorem ex_l1 : takeL 1 [] exC false = [exE0] := by unfold takeL; rw [if_pos ex_its]; rfl
theorem ex_l2 : takeL 1 [exE0] exC true = [exE0] := by unfold takeL; rw [if_pos ex_its]; rfl
theorem ex_l3 : takeL 1 [exE0] exD false = [exE0] := by unfold takeL; rw [ex_no]; rfl
theorem JL.ent {ic ia is p : Nat} {W : World} {t m : Nat} {G : Nat → Value} {li : Array Bool} {a : Act} {w : World} {lo hi g : Nat} {n e e2 : Int} {ps ws : List Hs} {need : Int} {L : List En} (h : JL ic ia is p (fun w => PartAt w lo hi g n e ps ws need L) (fun w => PartAt w lo hi g n e2 ps ws need L) W t m G li a w) : ∃ e', PartAt w lo hi g n e' ps ws need L := by
  cases hc : li.getD ic false with
  | false => exact ⟨_, h.pre hc⟩
  | true => exact ⟨_, h.post hc⟩
set_option maxHeartbeats 4000000 in
theorem alive13_any {kf : Hs → List Int → Hs} {tg : Hs → Hs → Hs} {pf : Int → Hs → Hs} (hX : KeyH kf tg pf) (w : World) (hT : Tables w) : Cv 9 #[] w (.eq (.bool true)) := by
  unfold Cv
  have HTT := Lib.hid hT
  have hfew := Few_cv
  have h1 : hasB [oneH 1, oneH 2] [oneH 3, oneH 4, oneH 5] 2 1 0 = true := by decide
  have h2 : hasB [oneH 1, oneH 2] [oneH 3, oneH 4, oneH 5] 2 2 0 = false := by decide
  obtain ⟨ps, hps⟩ : ∃ x, x = [oneH 1, oneH 2] := ⟨_, rfl⟩
  obtain ⟨ws, hws⟩ : ∃ x, x = [oneH 3, oneH 4, oneH 5] := ⟨_, rfl⟩
  rw [← hps, ← hws] at hfew h1 h2
  have HFEW := Lib.hid hfew
  have HK1 := Lib.hid h1
  have HK2 := Lib.hid h2
  have HH1 : Hid (holdsB kf ps ws 2 (recC (ansC kf ps ws 2 0 exC true) 2) = true) := Lib.hid (holds_ans ex_its h1 (by decide) (by decide))
  clear hT hfew h1 h2 hps hws
  go_enter Tryd.func9, Tryd.ntmps9
  have HM := Lib.hid (NewT.refl w)
  go_upto_region 1 with fail
  go_upto_region 1 with fail
  refine wp_region_steps0 NewT [svKeys ps ws 2] [([], none)] 78 1 rfl rfl (by kernel_rfl) NewT.trans (NewT.refl _) (Nat.le_of_ble_eq_true rfl) ⟨?_, trivial⟩ ?_
  · exact fun a wx hT hF K hK => rely_wp rfl (opr_cv (HFEW.out wx) rfl Tryd.func23 (by kernel_rfl) (by kernel_rfl) evs0 hK)
  · intro w1 k1
    intro u10 h; have g10 := h (by simp); clear h; replace g10 := show (svKeys ps ws 2).pred u10 w1 from g10
    refine relyEnd_nil rfl ?_
    simp only [Act.put, List.setIfInBounds_toArray, List.set_cons_zero, List.set_cons_succ]
    obtain ⟨pv, wv, hv10, hpv, hwv⟩ := g10
    subst hv10
    refine wpList_new (n := 3) (f := keyF pv wv 2) rfl rfl rfl rfl rfl rfl (by first | (simp; done) | simp [Act.put]) run_alloc_ky info_ky (keyF_one hpv hwv) rfl ?_
    intro W1 hn1 rr1
    refine wpList_end rfl ?_
    simp only [Act.put, List.setIfInBounds_toArray, List.set_cons_zero, List.set_cons_succ]
    go_simp
    have HP := Lib.hid (hn1.hs hpv)
    have HW := Lib.hid (hn1.hs hwv)
    have HBW := Lib.hid (NewT.trans _ _ _ HM.out (NewT.trans _ _ _ k1 hn1))
    clear hpv hwv
    obtain ⟨gk, h_gk⟩ : ∃ g_, w1.heap.size = g_ := ⟨_, rfl⟩
    rw [h_gk] at rr1
    simp only [h_gk]
    have HGgk : Hid (w.heap.size ≤ gk) := Lib.hid (by rw [← h_gk]; exact (NewT.trans _ _ _ HM.out k1).out.size)
    have q1 := NewT.trans _ _ _ k1 hn1
    clear k1 hn1 h_gk
    replace HM := Lib.hid (NewT.trans _ _ _ HM.out q1)
    clear q1
    have Rgk := Lib.hid rr1
    clear rr1
    replace HTT := Lib.hid (HBW.out.tables HTT.out)
    replace HM := Lib.hid (NewT.refl W1)
    have HGK : Hid (gk < W1.heap.size ∧ 2 ≤ W1.heap.size) := Lib.hid ⟨Rgk.out.lt, HTT.out.size⟩
    clear HGgk
    go_upto_region 2 with fail
    refine wp_region_steps0 NewT [SV.eq (.agg (rowA 3 (keyF pv wv 2))), svPart W1.heap.size 1 ps ws 2, svPart W1.heap.size 1 ps ws 2] [([(1, none)], none), ([(11, some 0)], none), ([(12, some 1)], none)] 78 3 rfl rfl (by kernel_rfl) NewT.trans (NewT.refl _) (Nat.le_of_ble_eq_true rfl) ⟨?_, ?_, ?_, trivial⟩ ?_
    · exact fun a wx hT hF K hK => rely_wp rfl (opr_ldY (hT.row Rgk.out) rfl hF.1 (hK _ _ (NewT.refl _) rfl))
    · exact fun a wx hT hF K hK => rely_wp rfl (opr_cv (New_yes W1.heap.size _ ps ws 2 1 wx (NewT.trans _ _ _ HM.out hT).out.size (⟨pv, wv, rfl, (NewT.trans _ _ _ HM.out hT).hs HP.out, (NewT.trans _ _ _ HM.out hT).hs HW.out⟩ : KeysV wx (.agg (rowA 3 (keyF pv wv 2))) ps ws 2) HK1.out) rfl Tryd.func11 (by kernel_rfl) (by kernel_rfl) (evs2 hF.1 rfl) hK)
    · exact fun a wx hT hF K hK => rely_wp rfl (opr_move (.inr rfl) (hK _ _ (NewT.refl _) hF.1))
    · intro w2 k2
      intro u h; obtain rfl := Eq.symm (h (by simp)); clear h
      intro _ _
      intro u2 h; have g2 := h (by simp); clear h; replace g2 := show (svPart W1.heap.size 1 ps ws 2).pred u2 w2 from g2
      refine relyEnd_nil rfl ?_
      refine wpList_end rfl ?_
      simp only [Act.put, List.setIfInBounds_toArray, List.set_cons_zero, List.set_cons_succ]
      go_simp
      obtain ⟨gp, hi, hv2, hPA⟩ := g2
      subst hv2
      obtain ⟨lo, hlo⟩ : ∃ x, W1.heap.size = x := ⟨_, rfl⟩
      have HLO : Hid (2 ≤ lo ∧ gk < lo ∧ lo ≤ hi ∧ W1.heap.size = lo) := Lib.hid (by have h1 := HGK.out; have h2 := hPA.lt; omega)
      rw [hlo] at hPA
      have HPA := Lib.hid hPA
      clear hPA hlo
      replace Rgk := Lib.hid (k2.row Rgk.out)
      replace HM := Lib.hid (NewT.trans _ _ _ HM.out k2)
      clear k2
      go_upto_region 3 with fail
      refine wp_region_steps0 NewT [SV.eq (.agg (rowA 41 (clF exC)))] [([], none)] 78 1 rfl rfl (by kernel_rfl) NewT.trans (NewT.refl _) (Nat.le_of_ble_eq_true rfl) ⟨?_, trivial⟩ ?_
      · intro a wx hT hF K hK
        refine rely_wp rfl ?_
        exact opr_build (pv := #[(4, .int .i64 (1)), (5, .int .i64 (1)), (2, .int .i64 (1))]) rfl (by simp only [List.map_toArray, List.map_cons, List.map_nil, eval_tmp, eval_const]) (bld_exC wx) (hK _ _ (NewT.refl _) rfl)
      · intro w3 k3
        intro u h; obtain rfl := Eq.symm (h (by simp)); clear h
        refine relyEnd_nil rfl ?_
        simp only [Act.put, List.setIfInBounds_toArray, List.set_cons_zero, List.set_cons_succ]
        refine wpList_new (n := 41) (f := clF exC) rfl rfl rfl rfl rfl rfl (by first | (simp; done) | simp [Act.put]) run_alloc_cl info_cl (clF_one _) rfl ?_
        intro W3 hn3 rr3
        refine wpList_end rfl ?_
        simp only [Act.put, List.setIfInBounds_toArray, List.set_cons_zero, List.set_cons_succ]
        go_simp
        obtain ⟨gc, h_gc⟩ : ∃ g_, w3.heap.size = g_ := ⟨_, rfl⟩
        rw [h_gc] at rr3
        simp only [h_gc]
        have HGgc : Hid (gk < gc ∧ hi ≤ gc ∧ W1.heap.size ≤ gc) := Lib.hid (by rw [← h_gc]; exact ⟨(k3.row Rgk.out).lt, Nat.le_trans HPA.out.lt.2.2 k3.out.size, (NewT.trans _ _ _ HM.out k3).out.size⟩)
        have q3 := NewT.trans _ _ _ k3 hn3
        clear k3 hn3 h_gc
        replace Rgk := Lib.hid (q3.row Rgk.out)
        replace HPA := Lib.hid (HPA.out.new q3)
        replace HM := Lib.hid (NewT.trans _ _ _ HM.out q3)
        clear q3
        have Rgc := Lib.hid rr3
        clear rr3
        have HLL : Hid (([exE0] : List En).length ≤ 1000000 ∧ ([] : List En).length ≤ 1000000) := Lib.hid (by decide)
        go_upto_region 4 with fail
        refine wp_region_lit ?_
        refine wpList_plain rfl (fun K hK => ?_)
        refine opr_move (.inl rfl) (hK _ _ ?_)
        clear hK K
        simp only [Act.put, List.setIfInBounds_toArray, List.set_cons_zero, List.set_cons_succ]
        refine wpList_plain rfl (fun K hK => ?_)
        refine opr_ldCl Rgc.out rfl rfl (hK _ _ ?_)
        clear hK K
        simp only [Act.put, List.setIfInBounds_toArray, List.set_cons_zero, List.set_cons_succ]
        refine wpList_plain rfl (fun K hK => ?_)
        refine opr_call rfl Tryd.func13 (by kernel_rfl) (by kernel_rfl) (vs := #[.pointer (some ⟨gp, 0, none⟩), .agg (rowA 41 (clF exC)), .bool false]) (by simp only [List.map_toArray, List.map_cons, List.map_nil]; rfl) ((Take_k hX W3 (HM.out.tables HTT.out) HLO.out.1 HPA.out ex_its (ex_t1 kf ps ws 2) ex_l1).mono ?_)
        rintro ex wt4 ⟨rfl, hP4, hA4⟩
        refine ⟨_, rfl, hK _ _ ?_⟩
        clear hK K
        replace Rgk := Lib.hid (hP4.row Rgk.out (by have h_0 := HGK.out; have h_1 := HLO.out; have h_2 := HGgc.out; omega))
        replace Rgc := Lib.hid (hP4.row Rgc.out (by have h_0 := HGK.out; have h_1 := HLO.out; have h_2 := HGgc.out; omega))
        replace HM := Lib.hid (NewT.of (HM.out.out.trans (hP4.below.mono (by have h_0 := HGK.out; have h_1 := HLO.out; have h_2 := HGgc.out; omega))))
        replace HPA := Lib.hid hA4
        clear hP4 hA4
        simp only [Act.put, List.setIfInBounds_toArray, List.set_cons_zero, List.set_cons_succ]
        refine wpList_plain rfl (fun K hK => ?_)
        refine opr_move (.inl rfl) (hK _ _ ?_)
        clear hK K
        simp only [Act.put, List.setIfInBounds_toArray, List.set_cons_zero, List.set_cons_succ]
        refine wpList_plain rfl (fun K hK => ?_)
        refine opr_ext rfl rfl rfl (hK _ _ ?_)
        clear hK K
        simp only [Act.put, List.setIfInBounds_toArray, List.set_cons_zero, List.set_cons_succ]
        refine wpList_plain rfl (fun K hK => ?_)
        refine opr_ext rfl rfl rfl (hK _ _ ?_)
        clear hK K
        simp only [Act.put, List.setIfInBounds_toArray, List.set_cons_zero, List.set_cons_succ]
        refine wpList_new (n := 41) (f := clF ((ansC kf ps ws 2 0 exC true))) rfl rfl rfl rfl rfl rfl (by first | (simp; done) | simp [Act.put]) run_alloc_cl info_cl (clF_one _) rfl ?_
        intro W4 hn4 rr4
        simp only [Act.put, List.setIfInBounds_toArray, List.set_cons_zero, List.set_cons_succ]
        refine wpList_plain rfl (fun K hK => ?_)
        refine opr_move (.inr rfl) (hK _ _ ?_)
        clear hK K
        simp only [Act.put, List.setIfInBounds_toArray, List.set_cons_zero, List.set_cons_succ]
        refine wpList_end rfl ?_
        go_simp
        obtain ⟨ga, h_ga⟩ : ∃ g_, wt4.heap.size = g_ := ⟨_, rfl⟩
        rw [h_ga] at rr4
        simp only [h_ga]
        have HGga : Hid (gk < ga ∧ gc < ga ∧ hi ≤ ga ∧ W1.heap.size ≤ ga) := Lib.hid (by rw [← h_ga]; exact ⟨Rgk.out.lt, Rgc.out.lt, HPA.out.lt.2.2, HM.out.out.size⟩)
        clear h_ga
        replace Rgk := Lib.hid (hn4.row Rgk.out)
        replace Rgc := Lib.hid (hn4.row Rgc.out)
        replace HPA := Lib.hid (HPA.out.new hn4)
        replace HM := Lib.hid (NewT.trans _ _ _ HM.out hn4)
        clear hn4
        have Rga := Lib.hid rr4
        clear rr4
        go_upto_region 5 with fail
        refine wp_region_lit ?_
        refine wpList_plain rfl (fun K hK => ?_)
        refine opr_move (.inl rfl) (hK _ _ ?_)
        clear hK K
        simp only [Act.put, List.setIfInBounds_toArray, List.set_cons_zero, List.set_cons_succ]
        refine wpList_plain rfl (fun K hK => ?_)
        refine opr_ldCl Rgc.out rfl rfl (hK _ _ ?_)
        clear hK K
        simp only [Act.put, List.setIfInBounds_toArray, List.set_cons_zero, List.set_cons_succ]
        refine wpList_plain rfl (fun K hK => ?_)
        refine opr_call rfl Tryd.func13 (by kernel_rfl) (by kernel_rfl) (vs := #[.pointer (some ⟨gp, 0, none⟩), .agg (rowA 41 (clF exC)), .bool true]) (by simp only [List.map_toArray, List.map_cons, List.map_nil]; rfl) ((Take_k hX W4 (HM.out.tables HTT.out) HLO.out.1 HPA.out ex_its (ex_t2 kf ps ws 2) ex_l2).mono ?_)
        rintro ex wt5 ⟨rfl, hP5, hA5⟩
        refine ⟨_, rfl, hK _ _ ?_⟩
        clear hK K
        replace Rgk := Lib.hid (hP5.row Rgk.out (by have h_0 := HGK.out; have h_1 := HLO.out; have h_2 := HGgc.out; have h_3 := HGga.out; omega))
        replace Rgc := Lib.hid (hP5.row Rgc.out (by have h_0 := HGK.out; have h_1 := HLO.out; have h_2 := HGgc.out; have h_3 := HGga.out; omega))
        replace Rga := Lib.hid (hP5.row Rga.out (by have h_0 := HGK.out; have h_1 := HLO.out; have h_2 := HGgc.out; have h_3 := HGga.out; omega))
        replace HM := Lib.hid (NewT.of (HM.out.out.trans (hP5.below.mono (by have h_0 := HGK.out; have h_1 := HLO.out; have h_2 := HGgc.out; have h_3 := HGga.out; omega))))
        replace HPA := Lib.hid hA5
        clear hP5 hA5
        simp only [Act.put, List.setIfInBounds_toArray, List.set_cons_zero, List.set_cons_succ]
        refine wpList_plain rfl (fun K hK => ?_)
        refine opr_move (.inl rfl) (hK _ _ ?_)
        clear hK K
        simp only [Act.put, List.setIfInBounds_toArray, List.set_cons_zero, List.set_cons_succ]
        refine wpList_plain rfl (fun K hK => ?_)
        refine opr_ext rfl rfl rfl (hK _ _ ?_)
        clear hK K
        simp only [Act.put, List.setIfInBounds_toArray, List.set_cons_zero, List.set_cons_succ]
        refine wpList_plain rfl (fun K hK => ?_)
        refine opr_ext rfl rfl rfl (hK _ _ ?_)
        clear hK K
        simp only [Act.put, List.setIfInBounds_toArray, List.set_cons_zero, List.set_cons_succ]
        refine wpList_new (n := 41) (f := clF ((ansC kf ps ws 2 0 exC true))) rfl rfl rfl rfl rfl rfl (by first | (simp; done) | simp [Act.put]) run_alloc_cl info_cl (clF_one _) rfl ?_
        intro W5 hn5 rr5
        simp only [Act.put, List.setIfInBounds_toArray, List.set_cons_zero, List.set_cons_succ]
        refine wpList_plain rfl (fun K hK => ?_)
        refine opr_move (.inr rfl) (hK _ _ ?_)
        clear hK K
        simp only [Act.put, List.setIfInBounds_toArray, List.set_cons_zero, List.set_cons_succ]
        refine wpList_end rfl ?_
        go_simp
        obtain ⟨gb, h_gb⟩ : ∃ g_, wt5.heap.size = g_ := ⟨_, rfl⟩
        rw [h_gb] at rr5
        simp only [h_gb]
        have HGgb : Hid (gk < gb ∧ gc < gb ∧ ga < gb ∧ hi ≤ gb ∧ W1.heap.size ≤ gb) := Lib.hid (by rw [← h_gb]; exact ⟨Rgk.out.lt, Rgc.out.lt, Rga.out.lt, HPA.out.lt.2.2, HM.out.out.size⟩)
        clear h_gb
        replace Rgk := Lib.hid (hn5.row Rgk.out)
        replace Rgc := Lib.hid (hn5.row Rgc.out)
        replace Rga := Lib.hid (hn5.row Rga.out)
        replace HPA := Lib.hid (HPA.out.new hn5)
        replace HM := Lib.hid (NewT.trans _ _ _ HM.out hn5)
        clear hn5
        have Rgb := Lib.hid rr5
        clear rr5
        go_upto_region 6 with fail
        refine wp_region_lit ?_
        refine wpList_plain rfl (fun K hK => ?_)
        refine opr_move (.inl rfl) (hK _ _ ?_)
        clear hK K
        simp only [Act.put, List.setIfInBounds_toArray, List.set_cons_zero, List.set_cons_succ]
        refine wpList_plain rfl (fun K hK => ?_)
        refine opr_build (pv := #[(4, .int .i64 0), (5, .int .i64 1), (2, .int .i64 1)]) rfl (by simp only [List.map_toArray, List.map_cons, List.map_nil, eval_const]) (bld_exD _) (hK _ _ ?_)
        clear hK K
        simp only [Act.put, List.setIfInBounds_toArray, List.set_cons_zero, List.set_cons_succ]
        refine wpList_plain rfl (fun K hK => ?_)
        refine opr_call rfl Tryd.func13 (by kernel_rfl) (by kernel_rfl) (vs := #[.pointer (some ⟨gp, 0, none⟩), .agg (rowA 41 (clF exD)), .bool false]) (by simp only [List.map_toArray, List.map_cons, List.map_nil]; rfl) ((Take_k hX W5 (HM.out.tables HTT.out) HLO.out.1 HPA.out ex_no (ex_t3 kf ps ws 2) ex_l3).mono ?_)
        rintro ex wt6 ⟨rfl, hP6, hA6⟩
        refine ⟨_, rfl, hK _ _ ?_⟩
        clear hK K
        replace Rgk := Lib.hid (hP6.row Rgk.out (by have h_0 := HGK.out; have h_1 := HLO.out; have h_2 := HGgc.out; have h_3 := HGga.out; have h_4 := HGgb.out; omega))
        replace Rgc := Lib.hid (hP6.row Rgc.out (by have h_0 := HGK.out; have h_1 := HLO.out; have h_2 := HGgc.out; have h_3 := HGga.out; have h_4 := HGgb.out; omega))
        replace Rga := Lib.hid (hP6.row Rga.out (by have h_0 := HGK.out; have h_1 := HLO.out; have h_2 := HGgc.out; have h_3 := HGga.out; have h_4 := HGgb.out; omega))
        replace Rgb := Lib.hid (hP6.row Rgb.out (by have h_0 := HGK.out; have h_1 := HLO.out; have h_2 := HGgc.out; have h_3 := HGga.out; have h_4 := HGgb.out; omega))
        replace HM := Lib.hid (NewT.of (HM.out.out.trans (hP6.below.mono (by have h_0 := HGK.out; have h_1 := HLO.out; have h_2 := HGgc.out; have h_3 := HGga.out; have h_4 := HGgb.out; omega))))
        replace HPA := Lib.hid hA6
        clear hP6 hA6
        simp only [Act.put, List.setIfInBounds_toArray, List.set_cons_zero, List.set_cons_succ]
        refine wpList_plain rfl (fun K hK => ?_)
        refine opr_move (.inl rfl) (hK _ _ ?_)
        clear hK K
        simp only [Act.put, List.setIfInBounds_toArray, List.set_cons_zero, List.set_cons_succ]
        refine wpList_plain rfl (fun K hK => ?_)
        refine opr_ext rfl rfl rfl (hK _ _ ?_)
        clear hK K
        simp only [Act.put, List.setIfInBounds_toArray, List.set_cons_zero, List.set_cons_succ]
        refine wpList_plain rfl (fun K hK => ?_)
        refine opr_ext rfl rfl rfl (hK _ _ ?_)
        clear hK K
        simp only [Act.put, List.setIfInBounds_toArray, List.set_cons_zero, List.set_cons_succ]
        refine wpList_new (n := 41) (f := clF zC) rfl rfl rfl rfl rfl rfl (by first | (simp; done) | simp [Act.put]) run_alloc_cl info_cl (clF_one _) rfl ?_
        intro W6 hn6 rr6
        simp only [Act.put, List.setIfInBounds_toArray, List.set_cons_zero, List.set_cons_succ]
        refine wpList_plain rfl (fun K hK => ?_)
        refine opr_move (.inr rfl) (hK _ _ ?_)
        clear hK K
        simp only [Act.put, List.setIfInBounds_toArray, List.set_cons_zero, List.set_cons_succ]
        refine wpList_end rfl ?_
        go_simp
        obtain ⟨gz, h_gz⟩ : ∃ g_, wt6.heap.size = g_ := ⟨_, rfl⟩
        rw [h_gz] at rr6
        simp only [h_gz]
        have HGgz : Hid (gk < gz ∧ gc < gz ∧ ga < gz ∧ gb < gz ∧ hi ≤ gz ∧ W1.heap.size ≤ gz) := Lib.hid (by rw [← h_gz]; exact ⟨Rgk.out.lt, Rgc.out.lt, Rga.out.lt, Rgb.out.lt, HPA.out.lt.2.2, HM.out.out.size⟩)
        clear h_gz
        replace Rgk := Lib.hid (hn6.row Rgk.out)
        replace Rgc := Lib.hid (hn6.row Rgc.out)
        replace Rga := Lib.hid (hn6.row Rga.out)
        replace Rgb := Lib.hid (hn6.row Rgb.out)
        replace HPA := Lib.hid (HPA.out.new hn6)
        replace HM := Lib.hid (NewT.trans _ _ _ HM.out hn6)
        clear hn6
        have Rgz := Lib.hid rr6
        clear rr6
        have HSZ : Hid (lo ≤ W6.heap.size) := Lib.hid (by have h1 := HPA.out.lt; omega)
        have HPW : Hid (hi ≤ W6.heap.size) := Lib.hid HPA.out.lt.2.2
        go_upto_region 7 with fail
        refine wp_region_relyL (PW W6 lo hi) (JL 34 5001 5002 5000 (fun w => PartAt w lo hi gp 1 0 ps ws 2 [exE0]) (fun w => PartAt w lo hi gp 1 1 ps ws 2 [exE0]) W6 0 0 (fun _ => undef)) [SV.eq (.bool true), SV.eq (.bool true), SV.eq (.bool true), SV.eq (.bool true), SV.eq (.bool true), SV.eq (.bool false), SV.eq (.bool true), SV.eq (.bool true), SV.eq (.bool true), SV.eq (.pointer (some ⟨ga, 7, none⟩)), SV.eq (.bool true), SV.eq (.bool true), SV.eq (.bool true), SV.eq (.pointer (some ⟨gb, 7, none⟩)), SV.eq (.bool true), SV.eq (.bool true), SV.eq (.bool true), SV.eq (.pointer (some ⟨ga, 6, none⟩)), SV.eq (.bool true), SV.eq (.bool true), SV.eq (.bool true), SV.eq (.pointer (some ⟨gp, 0, none⟩)), svLen 1, SV.eq (.int .i64 (1)), SV.eq (.bool true), SV.eq (.bool true), SV.eq (.bool true), SV.eq (.agg (rowA 3 (keyF pv wv 2))), SV.eq (.agg (rowA 41 (clF ((ansC kf ps ws 2 0 exC true))))), svRecP (recC (ansC kf ps ws 2 0 exC true) 2) (recC_nil _ _), SV.eq (.bool true), SV.eq (.bool true), SV.eq (.bool true), SV.eq (.pointer (some ⟨gp, 0, none⟩)), SV.eq (.bool true), SV.eq (.bool true), SV.eq (.bool true), SV.eq (.pointer (some ⟨gp, 0, none⟩)), SV.eq (.int .i64 (1)), SV.eq (.bool true), SV.eq (.bool true), SV.eq (.bool true), SV.eq (.agg (rowA 3 (keyF pv wv 2))), SV.eq (.pointer none), SV.eq (.bool true), SV.eq (.bool true)] [([(5, none)], none), ([(32, some 0)], none), ([(7, none), (33, some 1)], some (33, true)), ([(33, some 1), (34, some 2)], none), ([(35, some 3)], none), ([(9, none), (36, some 4)], some (36, true)), ([(37, some 5), (36, some 4)], some (36, true)), ([(36, some 4), (38, some 6)], none), ([(39, some 7)], none), ([(4, none), (40, some 8)], some (40, true)), ([(41, some 9), (40, some 8)], some (40, true)), ([(40, some 8), (42, some 10)], none), ([(43, some 11)], none), ([(6, none), (44, some 12)], some (44, true)), ([(45, some 13), (44, some 12)], some (44, true)), ([(44, some 12), (46, some 14)], none), ([(47, some 15)], none), ([(4, none), (48, some 16)], some (48, true)), ([(49, some 17), (48, some 16)], some (48, true)), ([(48, some 16), (50, some 18)], none), ([(51, some 19)], none), ([(2, none), (52, some 20)], some (52, true)), ([(53, some 21), (52, some 20)], some (52, true)), ([(54, some 22), (52, some 20)], some (52, true)), ([(55, some 23), (52, some 20)], some (52, true)), ([(52, some 20), (56, some 24)], none), ([(57, some 25)], none), ([(1, none), (58, some 26)], some (58, true)), ([(4, none), (58, some 26)], some (58, true)), ([(60, some 28), (58, some 26)], some (58, true)), ([(59, some 27), (61, some 29), (58, some 26)], some (58, true)), ([(58, some 26), (62, some 30)], none), ([(63, some 31)], none), ([(2, none), (64, some 32)], some (64, true)), ([(65, some 33), (64, some 32)], some (64, true)), ([(64, some 32), (66, some 34)], none), ([(67, some 35)], none), ([(2, none), (68, some 36)], some (68, true)), ([(69, some 37), (68, some 36)], some (68, true)), ([(70, some 38), (68, some 36)], some (68, true)), ([(68, some 36), (71, some 39)], none), ([(72, some 40)], none), ([(1, none), (73, some 41)], some (73, true)), ([(74, some 42), (73, some 41)], some (73, true)), ([(75, some 43), (73, some 41)], some (73, true)), ([(73, some 41), (76, some 44)], none)] 78 rfl (by kernel_rfl) rfl (by kernel_rfl) (by kernel_rfl) rfl PW.trans (PW.drew _) (JL.start (HPA.out.drew) _) (Nat.le_of_ble_eq_true rfl) ⟨?_, ?_, ?_, ?_, ?_, ?_, ?_, ?_, ?_, ?_, ?_, ?_, ?_, ?_, ?_, ?_, ?_, ?_, ?_, ?_, ?_, ?_, ?_, ?_, ?_, ?_, ?_, ?_, ?_, ?_, ?_, ?_, ?_, ?_, ?_, ?_, ?_, ?_, ?_, ?_, ?_, ?_, ?_, ?_, ?_, ?_, trivial⟩ ?_
        · exact fun a wx li hT hF hJ hx K hK => have hK := fun v w' (hN : NewT wx w') hv => hK v w' (PW.new hT hN HSZ.out) (JL.new hJ (by decide) (by simp) hN (fun h => PartAt.new h hN) (fun h => PartAt.new h hN)) hv; rely_wp rfl (opr_move (.inl rfl) (hK _ _ (NewT.refl _) hF.1))
        · exact fun a wx li hT hF hJ hx K hK => have hK := fun v w' (hN : NewT wx w') hv => hK v w' (PW.new hT hN HSZ.out) (JL.new hJ (by decide) (by simp) hN (fun h => PartAt.new h hN) (fun h => PartAt.new h hN)) hv; rely_wp rfl (opr_move (.inl rfl) (hK _ _ (NewT.refl _) hF.1))
        · exact fun a wx li hT hF hJ hx K hK => have hK := fun v w' (hN : NewT wx w') hv => hK v w' (PW.new hT hN HSZ.out) (JL.new hJ (by decide) (by simp) hN (fun h => PartAt.new h hN) (fun h => PartAt.new h hN)) hv; rely_wp (rely_guard hF.2.1) (opr_move (.inl rfl) (hK _ _ (NewT.refl _) hF.1))
        · exact fun a wx li hT hF hJ hx K hK => have hK := fun v w' (hN : NewT wx w') hv => hK v w' (PW.new hT hN HSZ.out) (JL.new hJ (by decide) (by simp) hN (fun h => PartAt.new h hN) (fun h => PartAt.new h hN)) hv; rely_wp rfl (opr_pick_true rfl hF.1 (hK _ _ (NewT.refl _) hF.2.1))
        · exact fun a wx li hT hF hJ hx K hK => have hK := fun v w' (hN : NewT wx w') hv => hK v w' (PW.new hT hN HSZ.out) (JL.new hJ (by decide) (by simp) hN (fun h => PartAt.new h hN) (fun h => PartAt.new h hN)) hv; rely_wp rfl (opr_move (.inl rfl) (hK _ _ (NewT.refl _) hF.1))
        · exact fun a wx li hT hF hJ hx K hK => have hK := fun v w' (hN : NewT wx w') hv => hK v w' (PW.new hT hN HSZ.out) (JL.new hJ (by decide) (by simp) hN (fun h => PartAt.new h hN) (fun h => PartAt.new h hN)) hv; rely_wp (rely_guard hF.2.1) (opr_move (.inl rfl) (hK _ _ (NewT.refl _) hF.1))
        · exact fun a wx li hT hF hJ hx K hK => have hK := fun v w' (hN : NewT wx w') hv => hK v w' (PW.new hT hN HSZ.out) (JL.new hJ (by decide) (by simp) hN (fun h => PartAt.new h hN) (fun h => PartAt.new h hN)) hv; rely_wp (rely_guard hF.2.1) (opr_not rfl hF.1 (hK _ _ (NewT.refl _) rfl))
        · exact fun a wx li hT hF hJ hx K hK => have hK := fun v w' (hN : NewT wx w') hv => hK v w' (PW.new hT hN HSZ.out) (JL.new hJ (by decide) (by simp) hN (fun h => PartAt.new h hN) (fun h => PartAt.new h hN)) hv; rely_wp rfl (opr_pick_true rfl hF.1 (hK _ _ (NewT.refl _) hF.2.1))
        · exact fun a wx li hT hF hJ hx K hK => have hK := fun v w' (hN : NewT wx w') hv => hK v w' (PW.new hT hN HSZ.out) (JL.new hJ (by decide) (by simp) hN (fun h => PartAt.new h hN) (fun h => PartAt.new h hN)) hv; rely_wp rfl (opr_move (.inl rfl) (hK _ _ (NewT.refl _) hF.1))
        · exact fun a wx li hT hF hJ hx K hK => have hK := fun v w' (hN : NewT wx w') hv => hK v w' (PW.new hT hN HSZ.out) (JL.new hJ (by decide) (by simp) hN (fun h => PartAt.new h hN) (fun h => PartAt.new h hN)) hv; rely_wp (rely_guard hF.2.1) (opr_fldCl7 rfl hF.1 (hK _ _ (NewT.refl _) rfl))
        · exact fun a wx li hT hF hJ hx K hK => have hK := fun v w' (hN : NewT wx w') hv => hK v w' (PW.new hT hN HSZ.out) (JL.new hJ (by decide) (by simp) hN (fun h => PartAt.new h hN) (fun h => PartAt.new h hN)) hv; rely_wp (rely_guard hF.2.1) (opr_ldQ (hT.row Rga.out (by have h_0 := HGK.out; have h_1 := HLO.out; have h_2 := HGgc.out; have h_3 := HGga.out; have h_4 := HGgb.out; have h_5 := HGgz.out; omega)) (by decide) rfl rfl hF.1 (hK _ _ (NewT.refl _) rfl))
        · exact fun a wx li hT hF hJ hx K hK => have hK := fun v w' (hN : NewT wx w') hv => hK v w' (PW.new hT hN HSZ.out) (JL.new hJ (by decide) (by simp) hN (fun h => PartAt.new h hN) (fun h => PartAt.new h hN)) hv; rely_wp rfl (opr_pick_true rfl hF.1 (hK _ _ (NewT.refl _) hF.2.1))
        · exact fun a wx li hT hF hJ hx K hK => have hK := fun v w' (hN : NewT wx w') hv => hK v w' (PW.new hT hN HSZ.out) (JL.new hJ (by decide) (by simp) hN (fun h => PartAt.new h hN) (fun h => PartAt.new h hN)) hv; rely_wp rfl (opr_move (.inl rfl) (hK _ _ (NewT.refl _) hF.1))
        · exact fun a wx li hT hF hJ hx K hK => have hK := fun v w' (hN : NewT wx w') hv => hK v w' (PW.new hT hN HSZ.out) (JL.new hJ (by decide) (by simp) hN (fun h => PartAt.new h hN) (fun h => PartAt.new h hN)) hv; rely_wp (rely_guard hF.2.1) (opr_fldCl7 rfl hF.1 (hK _ _ (NewT.refl _) rfl))
        · exact fun a wx li hT hF hJ hx K hK => have hK := fun v w' (hN : NewT wx w') hv => hK v w' (PW.new hT hN HSZ.out) (JL.new hJ (by decide) (by simp) hN (fun h => PartAt.new h hN) (fun h => PartAt.new h hN)) hv; rely_wp (rely_guard hF.2.1) (opr_ldQ (hT.row Rgb.out (by have h_0 := HGK.out; have h_1 := HLO.out; have h_2 := HGgc.out; have h_3 := HGga.out; have h_4 := HGgb.out; have h_5 := HGgz.out; omega)) (by decide) rfl rfl hF.1 (hK _ _ (NewT.refl _) rfl))
        · exact fun a wx li hT hF hJ hx K hK => have hK := fun v w' (hN : NewT wx w') hv => hK v w' (PW.new hT hN HSZ.out) (JL.new hJ (by decide) (by simp) hN (fun h => PartAt.new h hN) (fun h => PartAt.new h hN)) hv; rely_wp rfl (opr_pick_true rfl hF.1 (hK _ _ (NewT.refl _) hF.2.1))
        · exact fun a wx li hT hF hJ hx K hK => have hK := fun v w' (hN : NewT wx w') hv => hK v w' (PW.new hT hN HSZ.out) (JL.new hJ (by decide) (by simp) hN (fun h => PartAt.new h hN) (fun h => PartAt.new h hN)) hv; rely_wp rfl (opr_move (.inl rfl) (hK _ _ (NewT.refl _) hF.1))
        · exact fun a wx li hT hF hJ hx K hK => have hK := fun v w' (hN : NewT wx w') hv => hK v w' (PW.new hT hN HSZ.out) (JL.new hJ (by decide) (by simp) hN (fun h => PartAt.new h hN) (fun h => PartAt.new h hN)) hv; rely_wp (rely_guard hF.2.1) (opr_fldCl6 rfl hF.1 (hK _ _ (NewT.refl _) rfl))
        · exact fun a wx li hT hF hJ hx K hK => have hK := fun v w' (hN : NewT wx w') hv => hK v w' (PW.new hT hN HSZ.out) (JL.new hJ (by decide) (by simp) hN (fun h => PartAt.new h hN) (fun h => PartAt.new h hN)) hv; rely_wp (rely_guard hF.2.1) (opr_ldQ (hT.row Rga.out (by have h_0 := HGK.out; have h_1 := HLO.out; have h_2 := HGgc.out; have h_3 := HGga.out; have h_4 := HGgb.out; have h_5 := HGgz.out; omega)) (by decide) rfl rfl hF.1 (hK _ _ (NewT.refl _) rfl))
        · exact fun a wx li hT hF hJ hx K hK => have hK := fun v w' (hN : NewT wx w') hv => hK v w' (PW.new hT hN HSZ.out) (JL.new hJ (by decide) (by simp) hN (fun h => PartAt.new h hN) (fun h => PartAt.new h hN)) hv; rely_wp rfl (opr_pick_true rfl hF.1 (hK _ _ (NewT.refl _) hF.2.1))
        · exact fun a wx li hT hF hJ hx K hK => have hK := fun v w' (hN : NewT wx w') hv => hK v w' (PW.new hT hN HSZ.out) (JL.new hJ (by decide) (by simp) hN (fun h => PartAt.new h hN) (fun h => PartAt.new h hN)) hv; rely_wp rfl (opr_move (.inl rfl) (hK _ _ (NewT.refl _) hF.1))
        · exact fun a wx li hT hF hJ hx K hK => have hK := fun v w' (hN : NewT wx w') hv => hK v w' (PW.new hT hN HSZ.out) (JL.new hJ (by decide) (by simp) hN (fun h => PartAt.new h hN) (fun h => PartAt.new h hN)) hv; rely_wp (rely_guard hF.2.1) (opr_move (.inl rfl) (hK _ _ (NewT.refl _) hF.1))
        · exact fun a wx li hT hF hJ hx K hK => have hK := fun v w' (hN : NewT wx w') hv => hK v w' (PW.new hT hN HSZ.out) (JL.new hJ (by decide) (by simp) hN (fun h => PartAt.new h hN) (fun h => PartAt.new h hN)) hv; rely_wp (rely_guard hF.2.1) (opr_cv ((JL.ent hJ).elim fun _ h => Entries_n wx h HLL.out.1) rfl Tryd.func16 (by kernel_rfl) (by kernel_rfl) (evs1 hF.1) hK)
        · intro a wx li hT hF hJ hx K hK
          replace hK := fun v w' (hN : NewT wx w') hv => hK v w' (PW.new hT hN HSZ.out) (JL.new hJ (by decide) (by simp) hN (fun h => PartAt.new h hN) (fun h => PartAt.new h hN)) hv
          obtain ⟨f54, f52, _⟩ := hF
          replace f54 := show (svLen 1).pred (a.tmps.getD 54 undef) wx from f54
          have f52 : a.tmps.getD 52 undef = .bool true := f52
          refine rely_wp (rely_guard f52) ?_
          obtain ⟨A1, c1, hv1⟩ := f54
          exact opr_len rfl Tryd.underlying38 hv1 (hK _ _ (NewT.refl _) rfl)
        · exact fun a wx li hT hF hJ hx K hK => have hK := fun v w' (hN : NewT wx w') hv => hK v w' (PW.new hT hN HSZ.out) (JL.new hJ (by decide) (by simp) hN (fun h => PartAt.new h hN) (fun h => PartAt.new h hN)) hv; rely_wp (rely_guard hF.2.1) (opr_cmp (b := true) (.inl ⟨rfl, (by rfl)⟩) Tryd.underlying3 rfl hF.1 rfl (hK _ _ (NewT.refl _) rfl))
        · exact fun a wx li hT hF hJ hx K hK => have hK := fun v w' (hN : NewT wx w') hv => hK v w' (PW.new hT hN HSZ.out) (JL.new hJ (by decide) (by simp) hN (fun h => PartAt.new h hN) (fun h => PartAt.new h hN)) hv; rely_wp rfl (opr_pick_true rfl hF.1 (hK _ _ (NewT.refl _) hF.2.1))
        · exact fun a wx li hT hF hJ hx K hK => have hK := fun v w' (hN : NewT wx w') hv => hK v w' (PW.new hT hN HSZ.out) (JL.new hJ (by decide) (by simp) hN (fun h => PartAt.new h hN) (fun h => PartAt.new h hN)) hv; rely_wp rfl (opr_move (.inl rfl) (hK _ _ (NewT.refl _) hF.1))
        · exact fun a wx li hT hF hJ hx K hK => have hK := fun v w' (hN : NewT wx w') hv => hK v w' (PW.new hT hN HSZ.out) (JL.new hJ (by decide) (by simp) hN (fun h => PartAt.new h hN) (fun h => PartAt.new h hN)) hv; rely_wp (rely_guard hF.2.1) (opr_ldY (hT.row Rgk.out (by have h_0 := HGK.out; have h_1 := HLO.out; have h_2 := HGgc.out; have h_3 := HGga.out; have h_4 := HGgb.out; have h_5 := HGgz.out; omega)) rfl hF.1 (hK _ _ (NewT.refl _) rfl))
        · exact fun a wx li hT hF hJ hx K hK => have hK := fun v w' (hN : NewT wx w') hv => hK v w' (PW.new hT hN HSZ.out) (JL.new hJ (by decide) (by simp) hN (fun h => PartAt.new h hN) (fun h => PartAt.new h hN)) hv; rely_wp (rely_guard hF.2.1) (opr_ldCl (hT.row Rga.out (by have h_0 := HGK.out; have h_1 := HLO.out; have h_2 := HGgc.out; have h_3 := HGga.out; have h_4 := HGgb.out; have h_5 := HGgz.out; omega)) rfl hF.1 (hK _ _ (NewT.refl _) rfl))
        · exact fun a wx li hT hF hJ hx K hK => have hK := fun v w' (hN : NewT wx w') hv => hK v w' (PW.new hT hN HSZ.out) (JL.new hJ (by decide) (by simp) hN (fun h => PartAt.new h hN) (fun h => PartAt.new h hN)) hv; rely_wp (rely_guard hF.2.1) (opr_cv (pReceipt_cv (ansC kf ps ws 2 0 exC true) 2 wx) rfl Tryd.func20 (by kernel_rfl) (by kernel_rfl) (evs2 hF.1 rfl) hK)
        · exact fun a wx li hT hF hJ hx K hK => have hK := fun v w' (hN : NewT wx w') hv => hK v w' (PW.new hT hN HSZ.out) (JL.new hJ (by decide) (by simp) hN (fun h => PartAt.new h hN) (fun h => PartAt.new h hN)) hv; rely_wp (rely_guard hF.2.2.1) (opr_cv (HH1.out ▸ Holds_cv hX _ _ ps ws 2 (recC (ansC kf ps ws 2 0 exC true) 2) wx ((NewT.of (HM.out.out.trans (hT.below.mono (by have h_0 := HGK.out; have h_1 := HLO.out; have h_2 := HGgc.out; have h_3 := HGga.out; have h_4 := HGgb.out; have h_5 := HGgz.out; omega)))).tables HTT.out) (⟨pv, wv, rfl, (NewT.of (HM.out.out.trans (hT.below.mono (by have h_0 := HGK.out; have h_1 := HLO.out; have h_2 := HGgc.out; have h_3 := HGga.out; have h_4 := HGgb.out; have h_5 := HGgz.out; omega)))).hs HP.out, (NewT.of (HM.out.out.trans (hT.below.mono (by have h_0 := HGK.out; have h_1 := HLO.out; have h_2 := HGgc.out; have h_3 := HGga.out; have h_4 := HGgb.out; have h_5 := HGgz.out; omega)))).hs HW.out⟩ : KeysV wx (.agg (rowA 3 (keyF pv wv 2))) ps ws 2) hF.2.1) rfl Tryd.func22 (by kernel_rfl) (by kernel_rfl) (evs2 hF.1 rfl) hK)
        · exact fun a wx li hT hF hJ hx K hK => have hK := fun v w' (hN : NewT wx w') hv => hK v w' (PW.new hT hN HSZ.out) (JL.new hJ (by decide) (by simp) hN (fun h => PartAt.new h hN) (fun h => PartAt.new h hN)) hv; rely_wp rfl (opr_pick_true rfl hF.1 (hK _ _ (NewT.refl _) hF.2.1))
        · exact fun a wx li hT hF hJ hx K hK => have hK := fun v w' (hN : NewT wx w') hv => hK v w' (PW.new hT hN HSZ.out) (JL.new hJ (by decide) (by simp) hN (fun h => PartAt.new h hN) (fun h => PartAt.new h hN)) hv; rely_wp rfl (opr_move (.inl rfl) (hK _ _ (NewT.refl _) hF.1))
        · exact fun a wx li hT hF hJ hx K hK => have hK := fun v w' (hN : NewT wx w') hv => hK v w' (PW.new hT hN HSZ.out) (JL.new hJ (by decide) (by simp) hN (fun h => PartAt.new h hN) (fun h => PartAt.new h hN)) hv; rely_wp (rely_guard hF.2.1) (opr_move (.inl rfl) (hK _ _ (NewT.refl _) hF.1))
        · intro a wx li hT hF hJ hx K hK
          obtain ⟨f65, f64, _⟩ := hF
          have f65 : a.tmps.getD 65 undef = .pointer (some ⟨gp, 0, none⟩) := f65
          have f64 : a.tmps.getD 64 undef = .bool true := f64
          refine rely_wp (rely_guard f64) ?_
          refine opr_call rfl Tryd.func14 (by kernel_rfl) (by kernel_rfl) (vs := #[.pointer (some ⟨gp, 0, none⟩)]) (by simp only [List.map_toArray, List.map_cons, List.map_nil, eval_tmp, f65]) ((Rotate_c wx (by decide) (hJ.pre hx.no)).mono ?_)
          rintro ex w4 ⟨rfl, hP4, hA4⟩
          exact ⟨_, rfl, hK _ _ (hT.pt hP4) (JL.call hJ hx (by decide) (by simp) hA4 (fun b F hb hr => hP4.row hr (.inr (Nat.le_trans HPW.out hb)))) rfl⟩
        · exact fun a wx li hT hF hJ hx K hK => have hK := fun v w' (hN : NewT wx w') hv => hK v w' (PW.new hT hN HSZ.out) (JL.new hJ (by decide) (by simp) hN (fun h => PartAt.new h hN) (fun h => PartAt.new h hN)) hv; rely_wp rfl (opr_pick_true rfl hF.1 (hK _ _ (NewT.refl _) hF.2.1))
        · exact fun a wx li hT hF hJ hx K hK => have hK := fun v w' (hN : NewT wx w') hv => hK v w' (PW.new hT hN HSZ.out) (JL.new hJ (by decide) (by simp) hN (fun h => PartAt.new h hN) (fun h => PartAt.new h hN)) hv; rely_wp rfl (opr_move (.inl rfl) (hK _ _ (NewT.refl _) hF.1))
        · exact fun a wx li hT hF hJ hx K hK => have hK := fun v w' (hN : NewT wx w') hv => hK v w' (PW.new hT hN HSZ.out) (JL.new hJ (by decide) (by simp) hN (fun h => PartAt.new h hN) (fun h => PartAt.new h hN)) hv; rely_wp (rely_guard hF.2.1) (opr_move (.inl rfl) (hK _ _ (NewT.refl _) hF.1))
        · exact fun a wx li hT hF hJ hx K hK => have hK := fun v w' (hN : NewT wx w') hv => hK v w' (PW.new hT hN HSZ.out) (JL.new hJ (by decide) (by simp) hN (fun h => PartAt.new h hN) (fun h => PartAt.new h hN)) hv; rely_wp (rely_guard hF.2.1) (opr_cv (Epoch_a wx (hJ.post (hx.closed 35 34 (by kernel_rfl) (hx.closed 36 35 (by kernel_rfl) (hx.waits 36 (by kernel_rfl)))))) rfl Tryd.func15 (by kernel_rfl) (by kernel_rfl) (evs1 hF.1) hK)
        · exact fun a wx li hT hF hJ hx K hK => have hK := fun v w' (hN : NewT wx w') hv => hK v w' (PW.new hT hN HSZ.out) (JL.new hJ (by decide) (by simp) hN (fun h => PartAt.new h hN) (fun h => PartAt.new h hN)) hv; rely_wp (rely_guard hF.2.1) (opr_cmp (b := true) (.inl ⟨rfl, (by rfl)⟩) Tryd.underlying3 rfl hF.1 rfl (hK _ _ (NewT.refl _) rfl))
        · exact fun a wx li hT hF hJ hx K hK => have hK := fun v w' (hN : NewT wx w') hv => hK v w' (PW.new hT hN HSZ.out) (JL.new hJ (by decide) (by simp) hN (fun h => PartAt.new h hN) (fun h => PartAt.new h hN)) hv; rely_wp rfl (opr_pick_true rfl hF.1 (hK _ _ (NewT.refl _) hF.2.1))
        · exact fun a wx li hT hF hJ hx K hK => have hK := fun v w' (hN : NewT wx w') hv => hK v w' (PW.new hT hN HSZ.out) (JL.new hJ (by decide) (by simp) hN (fun h => PartAt.new h hN) (fun h => PartAt.new h hN)) hv; rely_wp rfl (opr_move (.inl rfl) (hK _ _ (NewT.refl _) hF.1))
        · exact fun a wx li hT hF hJ hx K hK => have hK := fun v w' (hN : NewT wx w') hv => hK v w' (PW.new hT hN HSZ.out) (JL.new hJ (by decide) (by simp) hN (fun h => PartAt.new h hN) (fun h => PartAt.new h hN)) hv; rely_wp (rely_guard hF.2.1) (opr_ldY (hT.row Rgk.out (by have h_0 := HGK.out; have h_1 := HLO.out; have h_2 := HGgc.out; have h_3 := HGga.out; have h_4 := HGgb.out; have h_5 := HGgz.out; omega)) rfl hF.1 (hK _ _ (NewT.refl _) rfl))
        · exact fun a wx li hT hF hJ hx K hK => have hK := fun v w' (hN : NewT wx w') hv => hK v w' (PW.new hT hN HSZ.out) (JL.new hJ (by decide) (by simp) hN (fun h => PartAt.new h hN) (fun h => PartAt.new h hN)) hv; rely_wp (rely_guard hF.2.1) (opr_cv (New_no _ ps ws 2 2 wx (⟨pv, wv, rfl, (NewT.of (HM.out.out.trans (hT.below.mono (by have h_0 := HGK.out; have h_1 := HLO.out; have h_2 := HGgc.out; have h_3 := HGga.out; have h_4 := HGgb.out; have h_5 := HGgz.out; omega)))).hs HP.out, (NewT.of (HM.out.out.trans (hT.below.mono (by have h_0 := HGK.out; have h_1 := HLO.out; have h_2 := HGgc.out; have h_3 := HGga.out; have h_4 := HGgb.out; have h_5 := HGgz.out; omega)))).hs HW.out⟩ : KeysV wx (.agg (rowA 3 (keyF pv wv 2))) ps ws 2) HK2.out) rfl Tryd.func11 (by kernel_rfl) (by kernel_rfl) (evs2 hF.1 rfl) hK)
        · exact fun a wx li hT hF hJ hx K hK => have hK := fun v w' (hN : NewT wx w') hv => hK v w' (PW.new hT hN HSZ.out) (JL.new hJ (by decide) (by simp) hN (fun h => PartAt.new h hN) (fun h => PartAt.new h hN)) hv; rely_wp (rely_guard hF.2.1) (opr_eqPz rfl hF.1 (hK _ _ (NewT.refl _) rfl))
        · exact fun a wx li hT hF hJ hx K hK => have hK := fun v w' (hN : NewT wx w') hv => hK v w' (PW.new hT hN HSZ.out) (JL.new hJ (by decide) (by simp) hN (fun h => PartAt.new h hN) (fun h => PartAt.new h hN)) hv; rely_wp rfl (opr_pick_true rfl hF.1 (hK _ _ (NewT.refl _) hF.2.1))
        · intro w30 k30
          iterate 22 (intro u h; obtain rfl := Eq.symm (h (by simp)); clear h)
          intro _ _
          iterate 6 (intro u h; obtain rfl := Eq.symm (h (by simp)); clear h)
          intro _ _
          iterate 16 (intro u h; obtain rfl := Eq.symm (h (by simp)); clear h)
          refine relyEnd_nil rfl ?_
          intro hJ
          simp only [Act.put, List.setIfInBounds_toArray, List.set_cons_zero, List.set_cons_succ]
          refine opr_move (.inr rfl) ?_
          go_simp
          have hNN : NewT w w30 := NewT.trans _ _ _ HBW.out (NewT.of (HM.out.out.trans (k30.below.mono (by have h_0 := HGK.out; have h_1 := HLO.out; have h_2 := HGgc.out; have h_3 := HGga.out; have h_4 := HGgb.out; have h_5 := HGgz.out; omega))))
          clear hJ
          go_wp2
          go_ret
          exact ⟨_, rfl, hNN, rfl⟩
theorem alive13_cv (w : World) (hT : Tables w) : Cv 9 #[] w (.eq (.bool true)) := by
  obtain ⟨kf, tg, pf, hX⟩ := keyH_ex
  exact alive13_any hX w hT
end Go.Proofs.YtchpmdcacpjojaaDoor
/- The reference's receipt that an answer says. -/
namespace Go.Proofs.YtchpmdcacpjojaaDoor
open Go Go.RowKit
set_option maxRecDepth 8000
set_option linter.all false
set_option maxHeartbeats 1000000 in
theorem rReceipt_cv (c : Cl) (seq : Int) (w : World) : Cv 21 #[.agg (rowA 41 (clF c)), .int .i64 seq] w (svRec (recC c seq)) := by
  unfold Cv
  go_enter Tryd.func21, Tryd.ntmps21
  go_upto_region 1 with fail
  have r_g1 := (rowIs_box w 34 41 (clF c)).alloc (.cells (rowA 109 (recF zR (.slice none 0 0) (.slice none 0 0))) 51)
  have r_g2 := rowIs_box (w.alloc (.cells (rowA 41 (clF c)) 34)) 51 109 (recF zR (.slice none 0 0) (.slice none 0 0))
  rw [World.size_alloc] at r_g2
  have hN : NewT w ((w.alloc (.cells (rowA 41 (clF c)) 34)).alloc (.cells (rowA 109 (recF zR (.slice none 0 0) (.slice none 0 0))) 51)) := (NewT.trans _ _ _ (NewT.alloc _ _) (NewT.alloc _ _))
  change Code.wp _ _ _ _ ((w.alloc (.cells (rowA 41 (clF c)) 34)).alloc (.cells (rowA 109 (recF zR (.slice none 0 0) (.slice none 0 0))) 51))
  generalize ((w.alloc (.cells (rowA 41 (clF c)) 34)).alloc (.cells (rowA 109 (recF zR (.slice none 0 0) (.slice none 0 0))) 51)) = W0 at r_g1 r_g2 hN ⊢
  obtain ⟨g1, h_g1⟩ : ∃ g_, w.heap.size = g_ := ⟨_, rfl⟩
  obtain ⟨g2, h_g2⟩ : ∃ g_, w.heap.size + 1 = g_ := ⟨_, rfl⟩
  have HG : Hid (w.heap.size ≤ g1 ∧ g1 < g2) := Lib.hid (by omega)
  rw [h_g1] at r_g1
  rw [h_g2] at r_g2
  try rw [h_g2]
  simp only [h_g1]
  have Rg1 := Lib.hid r_g1
  have Rg2 := Lib.hid r_g2
  have HM := Lib.hid hN
  clear r_g1 r_g2 hN h_g1 h_g2
  go_upto_region 1 with fail
  refine wp_region_lit ?_
  refine wpList_plain rfl (fun K hK => ?_)
  refine opr_allocV rfl run_alloc_rec (hK _ _ ?_)
  clear hK K
  refine wpList_end rfl ?_
  simp only [Act.put, List.setIfInBounds_toArray, List.set_cons_zero, List.set_cons_succ]
  have hn1 := NewT.alloc W0 (.cells (rowA 109 (recF zR (.slice none 0 0) (.slice none 0 0))) 51)
  have rr1 := rowIs_box W0 51 109 (recF zR (.slice none 0 0) (.slice none 0 0))
  obtain ⟨g3, h_g3⟩ : ∃ g_, W0.heap.size = g_ := ⟨_, rfl⟩
  rw [h_g3] at rr1
  simp only [h_g3]
  generalize W0.alloc (.cells (rowA 109 (recF zR (.slice none 0 0) (.slice none 0 0))) 51) = W1 at *
  go_simp
  have HGg3 : Hid (g1 < g3 ∧ g2 < g3 ∧ w.heap.size ≤ g3) := Lib.hid (by rw [← h_g3]; exact ⟨Rg1.out.lt, Rg2.out.lt, HM.out.out.size⟩)
  clear h_g3
  replace Rg1 := Lib.hid (hn1.row Rg1.out)
  replace Rg2 := Lib.hid (hn1.row Rg2.out)
  replace HM := Lib.hid (NewT.trans _ _ _ HM.out hn1)
  clear hn1
  have Rg3 := Lib.hid rr1
  clear rr1
  go_upto_region 2 with fail
  refine wp_region_steps0 NewT [SV.eq (.pointer (some ⟨g1, 6, none⟩)), SV.eq (.bool (c.ans)), SV.eq (.bool (!c.ans))] [([(2, none)], none), ([(6, some 0)], none), ([(7, some 1)], none)] 38 3 rfl rfl (by kernel_rfl) NewT.trans (NewT.refl _) (Nat.le_of_ble_eq_true rfl) ⟨?_, ?_, ?_, trivial⟩ ?_
  · exact fun a wx hT hF K hK => rely_wp rfl (opr_fldCl6 rfl hF.1 (hK _ _ (NewT.refl _) rfl))
  · exact fun a wx hT hF K hK => rely_wp rfl (opr_ldQ (hT.row Rg1.out) (by decide) rfl rfl hF.1 (hK _ _ (NewT.refl _) rfl))
  · exact fun a wx hT hF K hK => rely_wp rfl (opr_not rfl hF.1 (hK _ _ (NewT.refl _) rfl))
  · intro w2 k2
    iterate 3 (intro u h; obtain rfl := Eq.symm (h (by simp)); clear h)
    refine relyEnd_nil rfl ?_
    refine wpList_end rfl ?_
    simp only [Act.put, List.setIfInBounds_toArray, List.set_cons_zero, List.set_cons_succ]
    go_simp
    replace Rg1 := Lib.hid (k2.row Rg1.out)
    replace Rg2 := Lib.hid (k2.row Rg2.out)
    replace Rg3 := Lib.hid (k2.row Rg3.out)
    replace HM := Lib.hid (NewT.trans _ _ _ HM.out k2)
    clear k2
    cases hb : c.ans
    · have HE : Hid (recC c seq = zR) := Lib.hid (by unfold recC; rw [hb]; rfl)
      clear hb
      go_upto_region 3 with fail
      refine wp_region_steps0 NewT [SV.eq (.agg (rowA 109 (recF zR (.slice none 0 0) (.slice none 0 0))))] [([(5, none)], none)] 38 1 rfl rfl (by kernel_rfl) NewT.trans (NewT.refl _) (Nat.le_of_ble_eq_true rfl) ⟨?_, trivial⟩ ?_
      · exact fun a wx hT hF K hK => rely_wp rfl (opr_ldR (hT.row Rg3.out) rfl hF.1 (hK _ _ (NewT.refl _) rfl))
      · intro w3 k3
        intro u h; obtain rfl := Eq.symm (h (by simp)); clear h
        refine relyEnd_nil rfl ?_
        simp only [Act.put, List.setIfInBounds_toArray, List.set_cons_zero, List.set_cons_succ]
        refine wpList_plain rfl (fun K hK => ?_)
        refine opr_putm (g := g2) (o0 := 0) (m := 109) (f := recF zR (.slice none 0 0) (.slice none 0 0)) (F := recF zR (.slice none 0 0) (.slice none 0 0)) rfl rfl rfl (k3.row Rg2.out) (by decide) info_rec (recF_one _ _ _ rfl rfl) (put_allN _ _ _) ?_
        intro W3 hR3 rr3
        refine hK _ _ ?_
        clear hK K
        refine wpList_end rfl ?_
        simp only [Act.put, List.setIfInBounds_toArray, List.set_cons_zero, List.set_cons_succ]
        go_simp
        replace Rg2 := Lib.hid rr3
        replace Rg1 := Lib.hid (hR3.row (by have h_0 := HG.out; have h_1 := HGg3.out; omega) (k3.row Rg1.out))
        replace Rg3 := Lib.hid (hR3.row (by have h_0 := HG.out; have h_1 := HGg3.out; omega) (k3.row Rg3.out))
        replace HM := Lib.hid (NewT.rt (NewT.trans _ _ _ HM.out k3) hR3 (by have h_0 := HG.out; have h_1 := HGg3.out; omega))
        clear k3 hR3 rr3
        go_wp2
        exact bodyPost_ret (results_agg rfl _ rfl Rg2.out Tryd.underlying51 rfl info_rec) rfl ⟨_, rfl, HM.out, by show RecV _ _ _; rw [HE.out]; exact ⟨(.slice none 0 0), (.slice none 0 0), rfl, rdP_nil _, rdV_nil _ _⟩⟩
    · have HB := Lib.hid hb
      clear hb
      go_upto_region 4 with fail
      refine wp_region_steps0 NewT [SV.eq (.pointer (some ⟨g3, 0, none⟩))] [([(5, none)], none)] 38 1 rfl rfl (by kernel_rfl) NewT.trans (NewT.refl _) (Nat.le_of_ble_eq_true rfl) ⟨?_, trivial⟩ ?_
      · exact fun a wx hT hF K hK => rely_wp rfl (opr_fldR (by decide) rfl hF.1 (hK _ _ (NewT.refl _) rfl))
      · intro w4 k4
        intro u h; obtain rfl := Eq.symm (h (by simp)); clear h
        refine relyEnd_nil rfl ?_
        simp only [Act.put, List.setIfInBounds_toArray, List.set_cons_zero, List.set_cons_succ]
        refine wpList_plain rfl (fun K hK => ?_)
        refine opr_put1 (g := g3) (o0 := 0) (v := .int .i64 3) (F := recF ({ zR with kind := 3 } : Rc) (.slice none 0 0) (.slice none 0 0)) rfl rfl rfl (k4.row Rg3.out) (by decide) info_i1 rfl (fun i _ => rs_kind zR (.slice none 0 0) (.slice none 0 0) i 3) ?_
        intro W4 hR4 rr4
        refine hK _ _ ?_
        clear hK K
        refine wpList_end rfl ?_
        simp only [Act.put, List.setIfInBounds_toArray, List.set_cons_zero, List.set_cons_succ]
        go_simp
        replace Rg3 := Lib.hid rr4
        replace Rg1 := Lib.hid (hR4.row (by have h_0 := HG.out; have h_1 := HGg3.out; omega) (k4.row Rg1.out))
        replace Rg2 := Lib.hid (hR4.row (by have h_0 := HG.out; have h_1 := HGg3.out; omega) (k4.row Rg2.out))
        replace HM := Lib.hid (NewT.rt (NewT.trans _ _ _ HM.out k4) hR4 (by have h_0 := HG.out; have h_1 := HGg3.out; omega))
        clear k4 hR4 rr4
        go_upto_region 5 with fail
        refine wp_region_steps0 NewT [SV.eq (.pointer (some ⟨g1, 0, none⟩)), SV.eq (.int .i64 (c.saga)), SV.eq (.pointer (some ⟨g3, 1, none⟩))] [([(2, none)], none), ([(11, some 0)], none), ([(5, none)], none)] 38 3 rfl rfl (by kernel_rfl) NewT.trans (NewT.refl _) (Nat.le_of_ble_eq_true rfl) ⟨?_, ?_, ?_, trivial⟩ ?_
        · exact fun a wx hT hF K hK => rely_wp rfl (opr_fldCl0 rfl hF.1 (hK _ _ (NewT.refl _) rfl))
        · exact fun a wx hT hF K hK => rely_wp rfl (opr_ldI (hT.row Rg1.out) (by decide) rfl rfl hF.1 (hK _ _ (NewT.refl _) rfl))
        · exact fun a wx hT hF K hK => rely_wp rfl (opr_fldR (by decide) rfl hF.1 (hK _ _ (NewT.refl _) rfl))
        · intro w5 k5
          iterate 3 (intro u h; obtain rfl := Eq.symm (h (by simp)); clear h)
          refine relyEnd_nil rfl ?_
          simp only [Act.put, List.setIfInBounds_toArray, List.set_cons_zero, List.set_cons_succ]
          refine wpList_plain rfl (fun K hK => ?_)
          refine opr_put1 (g := g3) (o0 := 1) (v := .int .i64 c.saga) (F := recF ({ zR with kind := 3, saga := c.saga } : Rc) (.slice none 0 0) (.slice none 0 0)) rfl rfl rfl (k5.row Rg3.out) (by decide) info_i1 rfl (fun i _ => rs_saga ({ zR with kind := 3 } : Rc) (.slice none 0 0) (.slice none 0 0) i c.saga) ?_
          intro W5 hR5 rr5
          refine hK _ _ ?_
          clear hK K
          refine wpList_end rfl ?_
          simp only [Act.put, List.setIfInBounds_toArray, List.set_cons_zero, List.set_cons_succ]
          go_simp
          replace Rg3 := Lib.hid rr5
          replace Rg1 := Lib.hid (hR5.row (by have h_0 := HG.out; have h_1 := HGg3.out; omega) (k5.row Rg1.out))
          replace Rg2 := Lib.hid (hR5.row (by have h_0 := HG.out; have h_1 := HGg3.out; omega) (k5.row Rg2.out))
          replace HM := Lib.hid (NewT.rt (NewT.trans _ _ _ HM.out k5) hR5 (by have h_0 := HG.out; have h_1 := HGg3.out; omega))
          clear k5 hR5 rr5
          go_upto_region 6 with fail
          refine wp_region_steps0 NewT [SV.eq (.int .i64 (seq)), SV.eq (.pointer (some ⟨g3, 2, none⟩))] [([(1, none)], none), ([(5, none)], none)] 38 2 rfl rfl (by kernel_rfl) NewT.trans (NewT.refl _) (Nat.le_of_ble_eq_true rfl) ⟨?_, ?_, trivial⟩ ?_
          · exact fun a wx hT hF K hK => rely_wp rfl (opr_move (.inl rfl) (hK _ _ (NewT.refl _) hF.1))
          · exact fun a wx hT hF K hK => rely_wp rfl (opr_fldR (by decide) rfl hF.1 (hK _ _ (NewT.refl _) rfl))
          · intro w6 k6
            iterate 2 (intro u h; obtain rfl := Eq.symm (h (by simp)); clear h)
            refine relyEnd_nil rfl ?_
            simp only [Act.put, List.setIfInBounds_toArray, List.set_cons_zero, List.set_cons_succ]
            refine wpList_plain rfl (fun K hK => ?_)
            refine opr_put1 (g := g3) (o0 := 2) (v := .int .i64 seq) (F := recF ({ zR with kind := 3, saga := c.saga, seq := seq } : Rc) (.slice none 0 0) (.slice none 0 0)) rfl rfl rfl (k6.row Rg3.out) (by decide) info_i1 rfl (fun i _ => rs_seq ({ zR with kind := 3, saga := c.saga } : Rc) (.slice none 0 0) (.slice none 0 0) i seq) ?_
            intro W6 hR6 rr6
            refine hK _ _ ?_
            clear hK K
            refine wpList_end rfl ?_
            simp only [Act.put, List.setIfInBounds_toArray, List.set_cons_zero, List.set_cons_succ]
            go_simp
            replace Rg3 := Lib.hid rr6
            replace Rg1 := Lib.hid (hR6.row (by have h_0 := HG.out; have h_1 := HGg3.out; omega) (k6.row Rg1.out))
            replace Rg2 := Lib.hid (hR6.row (by have h_0 := HG.out; have h_1 := HGg3.out; omega) (k6.row Rg2.out))
            replace HM := Lib.hid (NewT.rt (NewT.trans _ _ _ HM.out k6) hR6 (by have h_0 := HG.out; have h_1 := HGg3.out; omega))
            clear k6 hR6 rr6
            go_upto_region 7 with fail
            refine wp_region_steps0 NewT [SV.eq (.pointer (some ⟨g1, 1, none⟩)), SV.eq (.int .i64 (c.step)), SV.eq (.pointer (some ⟨g3, 3, none⟩))] [([(2, none)], none), ([(16, some 0)], none), ([(5, none)], none)] 38 3 rfl rfl (by kernel_rfl) NewT.trans (NewT.refl _) (Nat.le_of_ble_eq_true rfl) ⟨?_, ?_, ?_, trivial⟩ ?_
            · exact fun a wx hT hF K hK => rely_wp rfl (opr_fldCl1 rfl hF.1 (hK _ _ (NewT.refl _) rfl))
            · exact fun a wx hT hF K hK => rely_wp rfl (opr_ldI (hT.row Rg1.out) (by decide) rfl rfl hF.1 (hK _ _ (NewT.refl _) rfl))
            · exact fun a wx hT hF K hK => rely_wp rfl (opr_fldR (by decide) rfl hF.1 (hK _ _ (NewT.refl _) rfl))
            · intro w7 k7
              iterate 3 (intro u h; obtain rfl := Eq.symm (h (by simp)); clear h)
              refine relyEnd_nil rfl ?_
              simp only [Act.put, List.setIfInBounds_toArray, List.set_cons_zero, List.set_cons_succ]
              refine wpList_plain rfl (fun K hK => ?_)
              refine opr_put1 (g := g3) (o0 := 3) (v := .int .i64 c.step) (F := recF ({ zR with kind := 3, saga := c.saga, seq := seq, step := c.step } : Rc) (.slice none 0 0) (.slice none 0 0)) rfl rfl rfl (k7.row Rg3.out) (by decide) info_i1 rfl (fun i _ => rs_step ({ zR with kind := 3, saga := c.saga, seq := seq } : Rc) (.slice none 0 0) (.slice none 0 0) i c.step) ?_
              intro W7 hR7 rr7
              refine hK _ _ ?_
              clear hK K
              refine wpList_end rfl ?_
              simp only [Act.put, List.setIfInBounds_toArray, List.set_cons_zero, List.set_cons_succ]
              go_simp
              replace Rg3 := Lib.hid rr7
              replace Rg1 := Lib.hid (hR7.row (by have h_0 := HG.out; have h_1 := HGg3.out; omega) (k7.row Rg1.out))
              replace Rg2 := Lib.hid (hR7.row (by have h_0 := HG.out; have h_1 := HGg3.out; omega) (k7.row Rg2.out))
              replace HM := Lib.hid (NewT.rt (NewT.trans _ _ _ HM.out k7) hR7 (by have h_0 := HG.out; have h_1 := HGg3.out; omega))
              clear k7 hR7 rr7
              go_upto_region 8 with fail
              refine wp_region_steps0 NewT [SV.eq (.pointer (some ⟨g1, 2, none⟩)), SV.eq (.int .i64 (c.tr)), SV.eq (.pointer (some ⟨g3, 4, none⟩))] [([(2, none)], none), ([(19, some 0)], none), ([(5, none)], none)] 38 3 rfl rfl (by kernel_rfl) NewT.trans (NewT.refl _) (Nat.le_of_ble_eq_true rfl) ⟨?_, ?_, ?_, trivial⟩ ?_
              · exact fun a wx hT hF K hK => rely_wp rfl (opr_fldCl2 rfl hF.1 (hK _ _ (NewT.refl _) rfl))
              · exact fun a wx hT hF K hK => rely_wp rfl (opr_ldI (hT.row Rg1.out) (by decide) rfl rfl hF.1 (hK _ _ (NewT.refl _) rfl))
              · exact fun a wx hT hF K hK => rely_wp rfl (opr_fldR (by decide) rfl hF.1 (hK _ _ (NewT.refl _) rfl))
              · intro w8 k8
                iterate 3 (intro u h; obtain rfl := Eq.symm (h (by simp)); clear h)
                refine relyEnd_nil rfl ?_
                simp only [Act.put, List.setIfInBounds_toArray, List.set_cons_zero, List.set_cons_succ]
                refine wpList_plain rfl (fun K hK => ?_)
                refine opr_put1 (g := g3) (o0 := 4) (v := .int .i64 c.tr) (F := recF ({ zR with kind := 3, saga := c.saga, seq := seq, step := c.step, tr := c.tr } : Rc) (.slice none 0 0) (.slice none 0 0)) rfl rfl rfl (k8.row Rg3.out) (by decide) info_i1 rfl (fun i _ => rs_tr ({ zR with kind := 3, saga := c.saga, seq := seq, step := c.step } : Rc) (.slice none 0 0) (.slice none 0 0) i c.tr) ?_
                intro W8 hR8 rr8
                refine hK _ _ ?_
                clear hK K
                refine wpList_end rfl ?_
                simp only [Act.put, List.setIfInBounds_toArray, List.set_cons_zero, List.set_cons_succ]
                go_simp
                replace Rg3 := Lib.hid rr8
                replace Rg1 := Lib.hid (hR8.row (by have h_0 := HG.out; have h_1 := HGg3.out; omega) (k8.row Rg1.out))
                replace Rg2 := Lib.hid (hR8.row (by have h_0 := HG.out; have h_1 := HGg3.out; omega) (k8.row Rg2.out))
                replace HM := Lib.hid (NewT.rt (NewT.trans _ _ _ HM.out k8) hR8 (by have h_0 := HG.out; have h_1 := HGg3.out; omega))
                clear k8 hR8 rr8
                go_upto_region 9 with fail
                refine wp_region_steps0 NewT [SV.eq (.pointer (some ⟨g1, 3, none⟩)), SV.eq (.bool (c.back)), SV.eq (.pointer (some ⟨g3, 5, none⟩))] [([(2, none)], none), ([(22, some 0)], none), ([(5, none)], none)] 38 3 rfl rfl (by kernel_rfl) NewT.trans (NewT.refl _) (Nat.le_of_ble_eq_true rfl) ⟨?_, ?_, ?_, trivial⟩ ?_
                · exact fun a wx hT hF K hK => rely_wp rfl (opr_fldCl3 rfl hF.1 (hK _ _ (NewT.refl _) rfl))
                · exact fun a wx hT hF K hK => rely_wp rfl (opr_ldQ (hT.row Rg1.out) (by decide) rfl rfl hF.1 (hK _ _ (NewT.refl _) rfl))
                · exact fun a wx hT hF K hK => rely_wp rfl (opr_fldR (by decide) rfl hF.1 (hK _ _ (NewT.refl _) rfl))
                · intro w9 k9
                  iterate 3 (intro u h; obtain rfl := Eq.symm (h (by simp)); clear h)
                  refine relyEnd_nil rfl ?_
                  simp only [Act.put, List.setIfInBounds_toArray, List.set_cons_zero, List.set_cons_succ]
                  refine wpList_plain rfl (fun K hK => ?_)
                  refine opr_put1 (g := g3) (o0 := 5) (v := .bool c.back) (F := recF ({ zR with kind := 3, saga := c.saga, seq := seq, step := c.step, tr := c.tr, back := c.back } : Rc) (.slice none 0 0) (.slice none 0 0)) rfl rfl rfl (k9.row Rg3.out) (by decide) info_b1 rfl (fun i _ => rs_back ({ zR with kind := 3, saga := c.saga, seq := seq, step := c.step, tr := c.tr } : Rc) (.slice none 0 0) (.slice none 0 0) i c.back) ?_
                  intro W9 hR9 rr9
                  refine hK _ _ ?_
                  clear hK K
                  refine wpList_end rfl ?_
                  simp only [Act.put, List.setIfInBounds_toArray, List.set_cons_zero, List.set_cons_succ]
                  go_simp
                  replace Rg3 := Lib.hid rr9
                  replace Rg1 := Lib.hid (hR9.row (by have h_0 := HG.out; have h_1 := HGg3.out; omega) (k9.row Rg1.out))
                  replace Rg2 := Lib.hid (hR9.row (by have h_0 := HG.out; have h_1 := HGg3.out; omega) (k9.row Rg2.out))
                  replace HM := Lib.hid (NewT.rt (NewT.trans _ _ _ HM.out k9) hR9 (by have h_0 := HG.out; have h_1 := HGg3.out; omega))
                  clear k9 hR9 rr9
                  go_upto_region 10 with fail
                  refine wp_region_steps0 NewT [SV.eq (.pointer (some ⟨g1, 7, none⟩)), SV.eq (.bool (c.good)), SV.eq (.pointer (some ⟨g3, 6, none⟩))] [([(2, none)], none), ([(25, some 0)], none), ([(5, none)], none)] 38 3 rfl rfl (by kernel_rfl) NewT.trans (NewT.refl _) (Nat.le_of_ble_eq_true rfl) ⟨?_, ?_, ?_, trivial⟩ ?_
                  · exact fun a wx hT hF K hK => rely_wp rfl (opr_fldCl7 rfl hF.1 (hK _ _ (NewT.refl _) rfl))
                  · exact fun a wx hT hF K hK => rely_wp rfl (opr_ldQ (hT.row Rg1.out) (by decide) rfl rfl hF.1 (hK _ _ (NewT.refl _) rfl))
                  · exact fun a wx hT hF K hK => rely_wp rfl (opr_fldR (by decide) rfl hF.1 (hK _ _ (NewT.refl _) rfl))
                  · intro w10 k10
                    iterate 3 (intro u h; obtain rfl := Eq.symm (h (by simp)); clear h)
                    refine relyEnd_nil rfl ?_
                    simp only [Act.put, List.setIfInBounds_toArray, List.set_cons_zero, List.set_cons_succ]
                    refine wpList_plain rfl (fun K hK => ?_)
                    refine opr_put1 (g := g3) (o0 := 6) (v := .bool c.good) (F := recF ({ zR with kind := 3, saga := c.saga, seq := seq, step := c.step, tr := c.tr, back := c.back, good := c.good } : Rc) (.slice none 0 0) (.slice none 0 0)) rfl rfl rfl (k10.row Rg3.out) (by decide) info_b1 rfl (fun i _ => rs_good ({ zR with kind := 3, saga := c.saga, seq := seq, step := c.step, tr := c.tr, back := c.back } : Rc) (.slice none 0 0) (.slice none 0 0) i c.good) ?_
                    intro W10 hR10 rr10
                    refine hK _ _ ?_
                    clear hK K
                    refine wpList_end rfl ?_
                    simp only [Act.put, List.setIfInBounds_toArray, List.set_cons_zero, List.set_cons_succ]
                    go_simp
                    replace Rg3 := Lib.hid rr10
                    replace Rg1 := Lib.hid (hR10.row (by have h_0 := HG.out; have h_1 := HGg3.out; omega) (k10.row Rg1.out))
                    replace Rg2 := Lib.hid (hR10.row (by have h_0 := HG.out; have h_1 := HGg3.out; omega) (k10.row Rg2.out))
                    replace HM := Lib.hid (NewT.rt (NewT.trans _ _ _ HM.out k10) hR10 (by have h_0 := HG.out; have h_1 := HGg3.out; omega))
                    clear k10 hR10 rr10
                    go_upto_region 11 with fail
                    refine wp_region_steps0 NewT [SV.eq (.pointer (some ⟨g1, 4, none⟩)), SV.eq (.int .i64 (c.part)), SV.eq (.pointer (some ⟨g3, 8, none⟩))] [([(2, none)], none), ([(28, some 0)], none), ([(5, none)], none)] 38 3 rfl rfl (by kernel_rfl) NewT.trans (NewT.refl _) (Nat.le_of_ble_eq_true rfl) ⟨?_, ?_, ?_, trivial⟩ ?_
                    · exact fun a wx hT hF K hK => rely_wp rfl (opr_fldCl4 rfl hF.1 (hK _ _ (NewT.refl _) rfl))
                    · exact fun a wx hT hF K hK => rely_wp rfl (opr_ldI (hT.row Rg1.out) (by decide) rfl rfl hF.1 (hK _ _ (NewT.refl _) rfl))
                    · exact fun a wx hT hF K hK => rely_wp rfl (opr_fldR (by decide) rfl hF.1 (hK _ _ (NewT.refl _) rfl))
                    · intro w11 k11
                      iterate 3 (intro u h; obtain rfl := Eq.symm (h (by simp)); clear h)
                      refine relyEnd_nil rfl ?_
                      simp only [Act.put, List.setIfInBounds_toArray, List.set_cons_zero, List.set_cons_succ]
                      refine wpList_plain rfl (fun K hK => ?_)
                      refine opr_put1 (g := g3) (o0 := 8) (v := .int .i64 c.part) (F := recF ({ zR with kind := 3, saga := c.saga, seq := seq, step := c.step, tr := c.tr, back := c.back, good := c.good, part := c.part } : Rc) (.slice none 0 0) (.slice none 0 0)) rfl rfl rfl (k11.row Rg3.out) (by decide) info_i1 rfl (fun i _ => rs_part ({ zR with kind := 3, saga := c.saga, seq := seq, step := c.step, tr := c.tr, back := c.back, good := c.good } : Rc) (.slice none 0 0) (.slice none 0 0) i c.part) ?_
                      intro W11 hR11 rr11
                      refine hK _ _ ?_
                      clear hK K
                      refine wpList_end rfl ?_
                      simp only [Act.put, List.setIfInBounds_toArray, List.set_cons_zero, List.set_cons_succ]
                      go_simp
                      replace Rg3 := Lib.hid rr11
                      replace Rg1 := Lib.hid (hR11.row (by have h_0 := HG.out; have h_1 := HGg3.out; omega) (k11.row Rg1.out))
                      replace Rg2 := Lib.hid (hR11.row (by have h_0 := HG.out; have h_1 := HGg3.out; omega) (k11.row Rg2.out))
                      replace HM := Lib.hid (NewT.rt (NewT.trans _ _ _ HM.out k11) hR11 (by have h_0 := HG.out; have h_1 := HGg3.out; omega))
                      clear k11 hR11 rr11
                      go_upto_region 12 with fail
                      refine wp_region_steps0 NewT [SV.eq (.pointer (some ⟨g1, 8, none⟩)), SV.eq (.int .i64 (c.ep)), SV.eq (.pointer (some ⟨g3, 9, none⟩))] [([(2, none)], none), ([(31, some 0)], none), ([(5, none)], none)] 38 3 rfl rfl (by kernel_rfl) NewT.trans (NewT.refl _) (Nat.le_of_ble_eq_true rfl) ⟨?_, ?_, ?_, trivial⟩ ?_
                      · exact fun a wx hT hF K hK => rely_wp rfl (opr_fldCl8 rfl hF.1 (hK _ _ (NewT.refl _) rfl))
                      · exact fun a wx hT hF K hK => rely_wp rfl (opr_ldI (hT.row Rg1.out) (by decide) rfl rfl hF.1 (hK _ _ (NewT.refl _) rfl))
                      · exact fun a wx hT hF K hK => rely_wp rfl (opr_fldR (by decide) rfl hF.1 (hK _ _ (NewT.refl _) rfl))
                      · intro w12 k12
                        iterate 3 (intro u h; obtain rfl := Eq.symm (h (by simp)); clear h)
                        refine relyEnd_nil rfl ?_
                        simp only [Act.put, List.setIfInBounds_toArray, List.set_cons_zero, List.set_cons_succ]
                        refine wpList_plain rfl (fun K hK => ?_)
                        refine opr_put1 (g := g3) (o0 := 9) (v := .int .i64 c.ep) (F := recF ({ zR with kind := 3, saga := c.saga, seq := seq, step := c.step, tr := c.tr, back := c.back, good := c.good, part := c.part, epoch := c.ep } : Rc) (.slice none 0 0) (.slice none 0 0)) rfl rfl rfl (k12.row Rg3.out) (by decide) info_i1 rfl (fun i _ => rs_epoch ({ zR with kind := 3, saga := c.saga, seq := seq, step := c.step, tr := c.tr, back := c.back, good := c.good, part := c.part } : Rc) (.slice none 0 0) (.slice none 0 0) i c.ep) ?_
                        intro W12 hR12 rr12
                        refine hK _ _ ?_
                        clear hK K
                        refine wpList_end rfl ?_
                        simp only [Act.put, List.setIfInBounds_toArray, List.set_cons_zero, List.set_cons_succ]
                        go_simp
                        replace Rg3 := Lib.hid rr12
                        replace Rg1 := Lib.hid (hR12.row (by have h_0 := HG.out; have h_1 := HGg3.out; omega) (k12.row Rg1.out))
                        replace Rg2 := Lib.hid (hR12.row (by have h_0 := HG.out; have h_1 := HGg3.out; omega) (k12.row Rg2.out))
                        replace HM := Lib.hid (NewT.rt (NewT.trans _ _ _ HM.out k12) hR12 (by have h_0 := HG.out; have h_1 := HGg3.out; omega))
                        clear k12 hR12 rr12
                        go_upto_region 13 with fail
                        refine wp_region_steps0 NewT [SV.eq (.pointer (some ⟨g1, 9, none⟩)), SV.eq (.agg (rowA 32 (bF (c.tag)))), SV.eq (.pointer (some ⟨g3, 10, none⟩))] [([(2, none)], none), ([(34, some 0)], none), ([(5, none)], none)] 38 3 rfl rfl (by kernel_rfl) NewT.trans (NewT.refl _) (Nat.le_of_ble_eq_true rfl) ⟨?_, ?_, ?_, trivial⟩ ?_
                        · exact fun a wx hT hF K hK => rely_wp rfl (opr_fldCl9 rfl hF.1 (hK _ _ (NewT.refl _) rfl))
                        · exact fun a wx hT hF K hK => rely_wp rfl (opr_ldH (hT.row Rg1.out) (by decide) (clF_tag _) rfl hF.1 (hK _ _ (NewT.refl _) rfl))
                        · exact fun a wx hT hF K hK => rely_wp rfl (opr_fldR (by decide) rfl hF.1 (hK _ _ (NewT.refl _) rfl))
                        · intro w13 k13
                          iterate 3 (intro u h; obtain rfl := Eq.symm (h (by simp)); clear h)
                          refine relyEnd_nil rfl ?_
                          simp only [Act.put, List.setIfInBounds_toArray, List.set_cons_zero, List.set_cons_succ]
                          refine wpList_plain rfl (fun K hK => ?_)
                          refine opr_putm (g := g3) (o0 := 10) (m := 32) (f := bF c.tag) (F := recF ({ zR with kind := 3, saga := c.saga, seq := seq, step := c.step, tr := c.tr, back := c.back, good := c.good, part := c.part, epoch := c.ep, tag := c.tag } : Rc) (.slice none 0 0) (.slice none 0 0)) rfl rfl rfl (k13.row Rg3.out) (by decide) info31 (fun _ => rfl) (fun i hi => rs_tag ({ zR with kind := 3, saga := c.saga, seq := seq, step := c.step, tr := c.tr, back := c.back, good := c.good, part := c.part, epoch := c.ep } : Rc) (.slice none 0 0) (.slice none 0 0) i c.tag hi) ?_
                          intro W13 hR13 rr13
                          refine hK _ _ ?_
                          clear hK K
                          refine wpList_end rfl ?_
                          simp only [Act.put, List.setIfInBounds_toArray, List.set_cons_zero, List.set_cons_succ]
                          go_simp
                          replace Rg3 := Lib.hid rr13
                          replace Rg1 := Lib.hid (hR13.row (by have h_0 := HG.out; have h_1 := HGg3.out; omega) (k13.row Rg1.out))
                          replace Rg2 := Lib.hid (hR13.row (by have h_0 := HG.out; have h_1 := HGg3.out; omega) (k13.row Rg2.out))
                          replace HM := Lib.hid (NewT.rt (NewT.trans _ _ _ HM.out k13) hR13 (by have h_0 := HG.out; have h_1 := HGg3.out; omega))
                          clear k13 hR13 rr13
                          have HE : Hid (recC c seq = ({ zR with kind := 3, saga := c.saga, seq := seq, step := c.step, tr := c.tr, back := c.back, good := c.good, part := c.part, epoch := c.ep, tag := c.tag } : Rc)) := Lib.hid (by unfold recC; rw [HB.out]; rfl)
                          go_upto_region 14 with fail
                          refine wp_region_steps0 NewT [SV.eq (.agg (rowA 109 (recF ({ zR with kind := 3, saga := c.saga, seq := seq, step := c.step, tr := c.tr, back := c.back, good := c.good, part := c.part, epoch := c.ep, tag := c.tag } : Rc) (.slice none 0 0) (.slice none 0 0))))] [([(5, none)], none)] 38 1 rfl rfl (by kernel_rfl) NewT.trans (NewT.refl _) (Nat.le_of_ble_eq_true rfl) ⟨?_, trivial⟩ ?_
                          · exact fun a wx hT hF K hK => rely_wp rfl (opr_ldR (hT.row Rg3.out) rfl hF.1 (hK _ _ (NewT.refl _) rfl))
                          · intro w14 k14
                            intro u h; obtain rfl := Eq.symm (h (by simp)); clear h
                            refine relyEnd_nil rfl ?_
                            simp only [Act.put, List.setIfInBounds_toArray, List.set_cons_zero, List.set_cons_succ]
                            refine wpList_plain rfl (fun K hK => ?_)
                            refine opr_putm (g := g2) (o0 := 0) (m := 109) (f := recF ({ zR with kind := 3, saga := c.saga, seq := seq, step := c.step, tr := c.tr, back := c.back, good := c.good, part := c.part, epoch := c.ep, tag := c.tag } : Rc) (.slice none 0 0) (.slice none 0 0)) (F := recF ({ zR with kind := 3, saga := c.saga, seq := seq, step := c.step, tr := c.tr, back := c.back, good := c.good, part := c.part, epoch := c.ep, tag := c.tag } : Rc) (.slice none 0 0) (.slice none 0 0)) rfl rfl rfl (k14.row Rg2.out) (by decide) info_rec (recF_one _ _ _ rfl rfl) (put_allN _ _ _) ?_
                            intro W14 hR14 rr14
                            refine hK _ _ ?_
                            clear hK K
                            refine wpList_end rfl ?_
                            simp only [Act.put, List.setIfInBounds_toArray, List.set_cons_zero, List.set_cons_succ]
                            go_simp
                            replace Rg2 := Lib.hid rr14
                            replace Rg1 := Lib.hid (hR14.row (by have h_0 := HG.out; have h_1 := HGg3.out; omega) (k14.row Rg1.out))
                            replace Rg3 := Lib.hid (hR14.row (by have h_0 := HG.out; have h_1 := HGg3.out; omega) (k14.row Rg3.out))
                            replace HM := Lib.hid (NewT.rt (NewT.trans _ _ _ HM.out k14) hR14 (by have h_0 := HG.out; have h_1 := HGg3.out; omega))
                            clear k14 hR14 rr14
                            go_wp2
                            exact bodyPost_ret (results_agg rfl _ rfl Rg2.out Tryd.underlying51 rfl info_rec) rfl ⟨_, rfl, HM.out, by show RecV _ _ _; rw [HE.out]; exact ⟨(.slice none 0 0), (.slice none 0 0), rfl, rdP_nil _, rdV_nil _ _⟩⟩
end Go.Proofs.YtchpmdcacpjojaaDoor
/- A region in which a participant is made and asked, beside a variable that is made and stored into. -/
namespace Go.Proofs.YtchpmdcacpjojaaDoor
open Go Go.RowKit
set_option maxRecDepth 8000
set_option linter.all false
theorem MapAt.neRow {w : World} {m b n : Nat} {t : TypeId} {F : Nat → Value} {L : List En} (h : MapAt w m L) (hr : w.rowIs b t n F) : b ≠ m := by
  intro e
  subst e
  obtain ⟨o, ho, hc⟩ := hr
  rw [show w.heap[b]? = _ from h] at ho
  cases ho
/-- A participant that is made (operation i, slot q) and asked (j); beside it a variable (ia, slot p) that is stored into (is). -/
structure JR (i j ia is q p : Nat) (W : World) (X : World → Nat → Prop) (t n : Nat) (G : Nat → Value) (li : Array Bool) (a : Act) (w : World) : Prop where
  one : li.getD j false = false → li.getD i false = true → ∀ g, a.tmps.getD q undef = .pointer (some ⟨g, 0, none⟩) → X w g
  ord : li.getD is false = true → li.getD ia false = true
  var : li.getD ia false = true → ∀ b, a.tmps.getD p undef = .pointer (some ⟨b, 0, none⟩) → W.heap.size ≤ b ∧ ∃ F, w.rowIs b t n F ∧ (li.getD is false = true → F = G)
section
variable {i j ia is q p : Nat} {W : World} {X : World → Nat → Prop} {t n : Nat} {G : Nat → Value} {li : Array Bool} {a : Act} {w w' : World} {v : Value}
theorem JR.start (m : Nat) : JR i j ia is q p W X t n G (Array.replicate m false) a w :=
  ⟨fun _ h => (by rw [getD_replicate_false] at h; cases h), fun h => (by rw [getD_replicate_false] at h; cases h), fun h => (by rw [getD_replicate_false] at h; cases h)⟩
theorem JR.other {o : Option Tmp} (h : JR i j ia is q p W X t n G li a w) {m : Nat} (hm : m ≠ i ∧ m ≠ j ∧ m ≠ ia ∧ m ≠ is) (ho : o ≠ some q ∧ o ≠ some p) (hN : NewT w w') (hX : ∀ {g}, X w g → X w' g) : JR i j ia is q p W X t n G (li.setIfInBounds m true) (a.put o v) w' := by
  obtain ⟨h1, h2, h3, h4⟩ := hm
  obtain ⟨o1, o2⟩ := ho
  refine ⟨?_, ?_, ?_⟩
  · rw [gset _ h1, gset _ h2, put_ne o1]; exact fun k1 k2 g hg => hX (h.one k1 k2 g hg)
  · rw [gset _ h3, gset _ h4]; exact h.ord
  · rw [gset _ h3, gset _ h4, put_ne o2]
    intro k b e1
    obtain ⟨e2, F, e3, e4⟩ := h.var k b e1
    exact ⟨e2, F, hN.row e3, e4⟩
theorem JR.made {ops : Array Oper} {g0 : Nat} (h : JR i j ia is q p W X t n G li a w) (_hx : LNext ops i li) (hne : i ≠ j ∧ i ≠ ia ∧ i ≠ is ∧ q ≠ p) (hN : NewT w w') (hp : X w' g0) : JR i j ia is q p W X t n G (li.setIfInBounds i true) (a.put (some q) (.pointer (some ⟨g0, 0, none⟩))) w' := by
  obtain ⟨h1, h2, h3, h4⟩ := hne
  refine ⟨fun _ _ g hg => ?_, ?_, ?_⟩
  · have e : g = g0 := by
      by_cases hq : q < a.tmps.size
      · simp [Act.put, hq] at hg; exact hg.symm
      · simp [Act.put, hq] at hg; cases hg
    subst e; exact hp
  · rw [gset _ h2, gset _ h3]; exact h.ord
  · rw [gset _ h2, gset _ h3, put_ne (by simp [h4])]
    intro k b e1
    obtain ⟨e2, F, e3, e4⟩ := h.var k b e1
    exact ⟨e2, F, hN.row e3, e4⟩
theorem JR.asked {ops : Array Oper} {o : Option Tmp} (h : JR i j ia is q p W X t n G li a w) (hx : LNext ops j li) (hne : j ≠ ia ∧ j ≠ is) (ho : o ≠ some p) (hr : ∀ b F, W.heap.size ≤ b → w.rowIs b t n F → w'.rowIs b t n F) : JR i j ia is q p W X t n G (li.setIfInBounds j true) (a.put o v) w' := by
  obtain ⟨h1, h2⟩ := hne
  refine ⟨?_, ?_, ?_⟩
  · rw [gset_same _ hx.lt]; exact fun k => by cases k
  · rw [gset _ h1, gset _ h2]; exact h.ord
  · rw [gset _ h1, gset _ h2, put_ne ho]
    intro k b e1
    obtain ⟨e2, F, e3, e4⟩ := h.var k b e1
    exact ⟨e2, F, hr b F e2 e3, e4⟩
theorem JR.alloc {ops : Array Oper} (h : JR i j ia is q p W X t n G li a w) (hx : LNext ops ia li) (hne : ia ≠ i ∧ ia ≠ j ∧ ia ≠ is ∧ p ≠ q) {F0 : Nat → Value} (hW : W.heap.size ≤ w.heap.size) (hX : ∀ {g}, X w g → X (w.alloc (.cells (rowA n F0) t)) g) : JR i j ia is q p W X t n G (li.setIfInBounds ia true) (a.put (some p) (.pointer (some ⟨w.heap.size, 0, none⟩))) (w.alloc (.cells (rowA n F0) t)) := by
  obtain ⟨h1, h2, h3, h4⟩ := hne
  have hs : li.getD is false = false := by
    cases hc : li.getD is false with
    | false => rfl
    | true => have := h.ord hc; rw [hx.no] at this; cases this
  refine ⟨?_, ?_, ?_⟩
  · rw [gset _ h1, gset _ h2, put_ne (by simp [h4])]; exact fun k1 k2 g hg => hX (h.one k1 k2 g hg)
  · rw [gset _ h3, hs]; exact fun k => by cases k
  · rw [gset _ h3, hs]
    intro _ b hb
    have e : b = w.heap.size := by
      by_cases hp : p < a.tmps.size
      · simp [Act.put, hp] at hb; exact hb.symm
      · simp [Act.put, hp] at hb; cases hb
    subst e
    exact ⟨hW, F0, rowIs_box w t n F0, fun k => by cases k⟩
theorem JR.store {ops : Array Oper} {b : Nat} (h : JR i j ia is q p W X t n G li a w) (_hx : LNext ops is li) (hne : is ≠ i ∧ is ≠ j ∧ is ≠ ia) (hj : li.getD j false = true) (hia : li.getD ia false = true) (h1 : a.tmps.getD p undef = .pointer (some ⟨b, 0, none⟩)) (h2 : W.heap.size ≤ b) (h3 : w'.rowIs b t n G) : JR i j ia is q p W X t n G (li.setIfInBounds is true) (a.put none v) w' := by
  obtain ⟨n1, n2, n3⟩ := hne
  have _ := h
  refine ⟨?_, ?_, ?_⟩
  · rw [gset _ n2, hj]; exact fun k => by cases k
  · rw [gset _ n3]; exact fun _ => hia
  · rw [gset _ n3]
    intro _ b' hb'
    have e : a.tmps.getD p undef = .pointer (some ⟨b', 0, none⟩) := hb'
    rw [h1] at e
    cases e
    exact ⟨h2, G, h3, fun _ => rfl⟩
theorem JR.at {g m : Nat} (h : ∃ li : Array Bool, (∀ j, j < m → li.getD j false = true) ∧ JR i j ia is q p W X t n G li a w) (hm : ia < m ∧ is < m) (hg : a.tmps.getD p undef = .pointer (some ⟨g, 0, none⟩)) : W.heap.size ≤ g ∧ w.rowIs g t n G := by
  obtain ⟨li, hl, hJ⟩ := h
  obtain ⟨e2, F, e3, e4⟩ := hJ.var (hl _ hm.1) g hg
  obtain rfl := e4 (hl _ hm.2)
  exact ⟨e2, e3⟩
end
end Go.Proofs.YtchpmdcacpjojaaDoor
/- The law PartReceipts, walked: the receipt that every call says is the document's, and it holds, if it is a participant's answer. -/
namespace Go.Proofs.YtchpmdcacpjojaaDoor
open Go Go.RowKit
set_option maxRecDepth 8000
set_option linter.all false
theorem same_self (x : Rc) : sameB x x = true := (sameB_iff x x).2 (by constructor <;> first | rfl | exact fun _ _ => rfl)
set_option maxHeartbeats 4000000 in
theorem PartReceipts_walk (v : Value) (ps ws : List Hs) (need n : Int) (c : Cl) (seq : Int) (r : Bool) (w : World) (hT : Tables w) (hk : KeysV w v ps ws need) : Calls Tryd.prog 4 #[v, .int .i64 n, .agg (rowA 41 (clF c)), .int .i64 seq, .bool r] w fun e w' => e = .returned (.bool true) ∧ Below w.heap.size w w' := by
  obtain ⟨kf, tg, pf, hX⟩ := keyH_ex
  obtain ⟨pv, wv, rfl, hpv, hwv⟩ := hk
  have HTT := Lib.hid hT
  have HPP := Lib.hid hpv
  have HWW := Lib.hid hwv
  clear hT hpv hwv
  go_enter Tryd.func4, Tryd.ntmps4
  go_upto_region 1 with fail
  have r_gk := (rowIs_box w 24 3 (keyF pv wv need)).alloc (.cells (rowA 41 (clF c)) 34)
  have r_gc := rowIs_box (w.alloc (.cells (rowA 3 (keyF pv wv need)) 24)) 34 41 (clF c)
  rw [World.size_alloc] at r_gc
  have hN : NewT w ((w.alloc (.cells (rowA 3 (keyF pv wv need)) 24)).alloc (.cells (rowA 41 (clF c)) 34)) := (NewT.trans _ _ _ (NewT.alloc _ _) (NewT.alloc _ _))
  change Code.wp _ _ _ _ ((w.alloc (.cells (rowA 3 (keyF pv wv need)) 24)).alloc (.cells (rowA 41 (clF c)) 34))
  generalize ((w.alloc (.cells (rowA 3 (keyF pv wv need)) 24)).alloc (.cells (rowA 41 (clF c)) 34)) = W0 at r_gk r_gc hN ⊢
  obtain ⟨gk, h_gk⟩ : ∃ g_, w.heap.size = g_ := ⟨_, rfl⟩
  obtain ⟨gc, h_gc⟩ : ∃ g_, w.heap.size + 1 = g_ := ⟨_, rfl⟩
  have HG : Hid (w.heap.size ≤ gk ∧ gk < gc) := Lib.hid (by omega)
  rw [h_gk] at r_gk
  rw [h_gc] at r_gc
  try rw [h_gc]
  simp only [h_gk]
  have Rgk := Lib.hid r_gk
  have Rgc := Lib.hid r_gc
  have HM := Lib.hid hN
  clear r_gk r_gc hN h_gk h_gc
  go_upto_region 1 with fail
  refine wp_region_steps0 NewT [SV.eq (.bool true), SV.eq (.bool false)] [([], none), ([(13, some 0)], none)] 52 2 rfl rfl (by kernel_rfl) NewT.trans (NewT.refl _) (Nat.le_of_ble_eq_true rfl) ⟨?_, ?_, trivial⟩ ?_
  · exact fun a wx hT hF K hK => rely_wp rfl (opr_cv (alive13_cv wx ((NewT.trans _ _ _ HM.out hT).tables HTT.out)) rfl Tryd.func9 (by kernel_rfl) (by kernel_rfl) evs0 hK)
  · exact fun a wx hT hF K hK => rely_wp rfl (opr_not rfl hF.1 (hK _ _ (NewT.refl _) rfl))
  · intro w1 k1
    iterate 2 (intro u h; obtain rfl := Eq.symm (h (by simp)); clear h)
    refine relyEnd_nil rfl ?_
    refine wpList_end rfl ?_
    simp only [Act.put, List.setIfInBounds_toArray, List.set_cons_zero, List.set_cons_succ]
    go_simp
    replace Rgk := Lib.hid (k1.row Rgk.out)
    replace Rgc := Lib.hid (k1.row Rgc.out)
    replace HM := Lib.hid (NewT.trans _ _ _ HM.out k1)
    clear k1
    go_upto_region 3 with fail
    refine wp_region_steps0 NewT [SV.eq (.agg (rowA 3 (keyF pv wv need))), SV.eq (.bool (fewB ps ws (List.length ([] : List Ac)))), SV.eq (.bool (!(fewB ps ws (List.length ([] : List Ac)))))] [([(5, none)], none), ([(15, some 0)], none), ([(16, some 1)], none)] 52 3 rfl rfl (by kernel_rfl) NewT.trans (NewT.refl _) (Nat.le_of_ble_eq_true rfl) ⟨?_, ?_, ?_, trivial⟩ ?_
    · exact fun a wx hT hF K hK => rely_wp rfl (opr_ldY (hT.row Rgk.out) rfl hF.1 (hK _ _ (NewT.refl _) rfl))
    · exact fun a wx hT hF K hK => rely_wp rfl (opr_cv (few_cv _ _ ps ws need [] wx (⟨pv, wv, rfl, (NewT.trans _ _ _ HM.out hT).hs HPP.out, (NewT.trans _ _ _ HM.out hT).hs HWW.out⟩ : KeysV wx (.agg (rowA 3 (keyF pv wv need))) ps ws need) (rdL_nil wx)) rfl Tryd.func10 (by kernel_rfl) (by kernel_rfl) (evs2 hF.1 rfl) hK)
    · exact fun a wx hT hF K hK => rely_wp rfl (opr_not rfl hF.1 (hK _ _ (NewT.refl _) rfl))
    · intro w2 k2
      iterate 3 (intro u h; obtain rfl := Eq.symm (h (by simp)); clear h)
      refine relyEnd_nil rfl ?_
      refine wpList_end rfl ?_
      simp only [Act.put, List.setIfInBounds_toArray, List.set_cons_zero, List.set_cons_succ]
      go_simp
      replace Rgk := Lib.hid (k2.row Rgk.out)
      replace Rgc := Lib.hid (k2.row Rgc.out)
      replace HM := Lib.hid (NewT.trans _ _ _ HM.out k2)
      clear k2
      cases hb : (!(fewB ps ws (List.length ([] : List Ac))))
      · clear hb
        go_upto_region 5 with fail
        refine wp_region_rely (NewT) [SV.eq (.agg (rowA 41 (clF c))), SV.eq (.int .i64 (seq)), svRec (recC c seq), SV.eq (.agg (rowA 41 (clF c))), SV.eq (.int .i64 (seq)), svRec (recC c seq), SV.eq (.bool true)] [([(7, none)], none), ([(3, none)], none), ([(18, some 0), (19, some 1)], none), ([(7, none)], none), ([(3, none)], none), ([(21, some 3), (22, some 4)], none), ([(20, some 2), (23, some 5)], none)] 52 rfl (by kernel_rfl) rfl (by kernel_rfl) (by kernel_rfl) rfl NewT.trans (NewT.drew _) (Nat.le_of_ble_eq_true rfl) ⟨?_, ?_, ?_, ?_, ?_, ?_, ?_, trivial⟩ ?_
        · exact fun a wx hT hF K hK => rely_wp rfl (opr_ldCl (hT.row Rgc.out) rfl hF.1 (hK _ _ (NewT.refl _) rfl))
        · exact fun a wx hT hF K hK => rely_wp rfl (opr_move (.inl rfl) (hK _ _ (NewT.refl _) hF.1))
        · exact fun a wx hT hF K hK => rely_wp rfl (opr_cv (pReceipt_cv c seq wx) rfl Tryd.func20 (by kernel_rfl) (by kernel_rfl) (evs2 hF.1 hF.2.1) hK)
        · exact fun a wx hT hF K hK => rely_wp rfl (opr_ldCl (hT.row Rgc.out) rfl hF.1 (hK _ _ (NewT.refl _) rfl))
        · exact fun a wx hT hF K hK => rely_wp rfl (opr_move (.inl rfl) (hK _ _ (NewT.refl _) hF.1))
        · exact fun a wx hT hF K hK => rely_wp rfl (opr_cv (rReceipt_cv c seq wx) rfl Tryd.func21 (by kernel_rfl) (by kernel_rfl) (evs2 hF.1 hF.2.1) hK)
        · exact fun a wx hT hF K hK => rely_wp rfl (opr_cv (same_self (recC c seq) ▸ RSame_cv _ _ (recC c seq) (recC c seq) wx hF.1 hF.2.1 (by rw [(recC_nil c seq).2]; decide) (by rw [(recC_nil c seq).2]; decide)) rfl Tryd.func19 (by kernel_rfl) (by kernel_rfl) (evs2 rfl rfl) hK)
        · intro w3 k3
          iterate 2 (intro u h; obtain rfl := Eq.symm (h (by simp)); clear h)
          intro _ _
          iterate 2 (intro u h; obtain rfl := Eq.symm (h (by simp)); clear h)
          intro _ _
          intro u h; obtain rfl := Eq.symm (h (by simp)); clear h
          refine relyEnd_nil rfl ?_
          simp only [Act.put, List.setIfInBounds_toArray, List.set_cons_zero, List.set_cons_succ]
          refine opr_not rfl rfl ?_
          go_simp
          replace Rgk := Lib.hid (k3.row Rgk.out)
          replace Rgc := Lib.hid (k3.row Rgc.out)
          replace HM := Lib.hid (NewT.trans _ _ _ HM.out k3)
          clear k3
          cases hk : hasB ps ws need n 0
          · have HKN := Lib.hid hk
            clear hk
            go_upto_region 7 with fail
            refine wp_region_relyA0 (BelT w3) (JV 11 w3 34 41 (clF zC) (fun _ F => F = clF zC)) [SV.eq (.agg (rowA 3 (keyF pv wv need))), SV.eq (.int .i64 (n)), SV.eq (.pointer none), SV.eq (.agg (rowA 41 (clF c))), SV.eq (.bool (r)), SV.eq ((.tuple #[.agg (rowA 41 (clF zC)), .bool false])), SV.eq ((.tuple #[.agg (rowA 41 (clF zC)), .bool false])), SV.eq (.agg (rowA 41 (clF zC))), SV.eq (.bool false), svPtV, SV.any] [([(5, none)], none), ([(1, none)], none), ([(27, some 0), (28, some 1)], none), ([(7, none)], none), ([(4, none)], none), ([(29, some 2), (30, some 3), (31, some 4)], none), ([(32, some 5)], none), ([(26, some 6)], none), ([(26, some 6)], none), ([], none), ([(11, some 9), (33, some 7)], none)] [none, none, none, none, none, none, none, none, none, some 0, some 1] [9, 10] 52 rfl (by kernel_rfl) rfl (by kernel_rfl) (by kernel_rfl) rfl (by kernel_rfl) (BelT.trans w3) (BelT.drew w3 _) (.inl rfl) (Nat.le_of_ble_eq_true rfl) ⟨?_, ?_, ?_, ?_, ?_, ?_, ?_, ?_, ?_, ?_, ?_, trivial⟩ ?_
            · intro a wx hT hF K hK
              replace hT : NewT w3 wx := hT
              replace hK := fun v w' (hN : NewT wx w') hv => hK v w' (BelT.new hT hN) (fun k h => JV.keep h (by simp) hN (fun F h => h)) hv
              obtain ⟨f5, _⟩ := hF
              have f5 : a.tmps.getD 5 undef = .pointer (some ⟨gk, 0, none⟩) := f5
              refine rely_wp rfl ?_
              exact opr_ldY (hT.row Rgk.out) rfl f5 (hK _ _ (NewT.refl _) rfl)
            · intro a wx hT hF K hK
              replace hT : NewT w3 wx := hT
              replace hK := fun v w' (hN : NewT wx w') hv => hK v w' (BelT.new hT hN) (fun k h => JV.keep h (by simp) hN (fun F h => h)) hv
              obtain ⟨f1, _⟩ := hF
              have f1 : a.tmps.getD 1 undef = .int .i64 (n) := f1
              refine rely_wp rfl ?_
              exact opr_move (.inl rfl) (hK _ _ (NewT.refl _) f1)
            · intro a wx hT hF K hK
              replace hT : NewT w3 wx := hT
              replace hK := fun v w' (hN : NewT wx w') hv => hK v w' (BelT.new hT hN) (fun k h => JV.keep h (by simp) hN (fun F h => h)) hv
              obtain ⟨f27, f28, _⟩ := hF
              have f27 : a.tmps.getD 27 undef = .agg (rowA 3 (keyF pv wv need)) := f27
              have f28 : a.tmps.getD 28 undef = .int .i64 (n) := f28
              refine rely_wp rfl ?_
              exact opr_cv (New_no _ ps ws need n wx (⟨pv, wv, rfl, (NewT.trans _ _ _ HM.out hT).hs HPP.out, (NewT.trans _ _ _ HM.out hT).hs HWW.out⟩ : KeysV wx (.agg (rowA 3 (keyF pv wv need))) ps ws need) HKN.out) rfl Tryd.func11 (by kernel_rfl) (by kernel_rfl) (by simp only [List.map_toArray, List.map_cons, List.map_nil, eval_tmp, f27, f28]) hK
            · intro a wx hT hF K hK
              replace hT : NewT w3 wx := hT
              replace hK := fun v w' (hN : NewT wx w') hv => hK v w' (BelT.new hT hN) (fun k h => JV.keep h (by simp) hN (fun F h => h)) hv
              obtain ⟨f7, _⟩ := hF
              have f7 : a.tmps.getD 7 undef = .pointer (some ⟨gc, 0, none⟩) := f7
              refine rely_wp rfl ?_
              exact opr_ldCl (hT.row Rgc.out) rfl f7 (hK _ _ (NewT.refl _) rfl)
            · intro a wx hT hF K hK
              replace hT : NewT w3 wx := hT
              replace hK := fun v w' (hN : NewT wx w') hv => hK v w' (BelT.new hT hN) (fun k h => JV.keep h (by simp) hN (fun F h => h)) hv
              obtain ⟨f4, _⟩ := hF
              have f4 : a.tmps.getD 4 undef = .bool (r) := f4
              refine rely_wp rfl ?_
              exact opr_move (.inl rfl) (hK _ _ (NewT.refl _) f4)
            · intro a wx hT hF K hK
              replace hT : NewT w3 wx := hT
              replace hK := fun v w' (hN : NewT wx w') hv => hK v w' (BelT.new hT hN) (fun k h => JV.keep h (by simp) hN (fun F h => h)) hv
              obtain ⟨f29, f30, f31, _⟩ := hF
              have f29 : a.tmps.getD 29 undef = .pointer none := f29
              have f30 : a.tmps.getD 30 undef = .agg (rowA 41 (clF c)) := f30
              have f31 : a.tmps.getD 31 undef = .bool (r) := f31
              refine rely_wp rfl ?_
              exact opr_cv (Take_nil c r wx) rfl Tryd.func13 (by kernel_rfl) (by kernel_rfl) (by simp only [List.map_toArray, List.map_cons, List.map_nil, eval_tmp, f29, f30, f31]) hK
            · intro a wx hT hF K hK
              replace hT : NewT w3 wx := hT
              replace hK := fun v w' (hN : NewT wx w') hv => hK v w' (BelT.new hT hN) (fun k h => JV.keep h (by simp) hN (fun F h => h)) hv
              obtain ⟨f32, _⟩ := hF
              have f32 : a.tmps.getD 32 undef = (.tuple #[.agg (rowA 41 (clF zC)), .bool false]) := f32
              refine rely_wp rfl ?_
              exact opr_move (.inl rfl) (hK _ _ (NewT.refl _) f32)
            · intro a wx hT hF K hK
              replace hT : NewT w3 wx := hT
              replace hK := fun v w' (hN : NewT wx w') hv => hK v w' (BelT.new hT hN) (fun k h => JV.keep h (by simp) hN (fun F h => h)) hv
              obtain ⟨f26, _⟩ := hF
              have f26 : a.tmps.getD 26 undef = (.tuple #[.agg (rowA 41 (clF zC)), .bool false]) := f26
              refine rely_wp rfl ?_
              exact opr_ext rfl f26 rfl (hK _ _ (NewT.refl _) rfl)
            · intro a wx hT hF K hK
              replace hT : NewT w3 wx := hT
              replace hK := fun v w' (hN : NewT wx w') hv => hK v w' (BelT.new hT hN) (fun k h => JV.keep h (by simp) hN (fun F h => h)) hv
              obtain ⟨f26, _⟩ := hF
              have f26 : a.tmps.getD 26 undef = (.tuple #[.agg (rowA 41 (clF zC)), .bool false]) := f26
              refine rely_wp rfl ?_
              exact opr_ext rfl f26 rfl (hK _ _ (NewT.refl _) rfl)
            · intro a wx hT hF hJ K hK
              replace hT : NewT w3 wx := hT
              refine rely_wp rfl ?_
              refine opr_allocV rfl run_alloc_cl ?_
              exact hK _ _ (BelT.new hT (NewT.alloc _ _)) (JV.make hT) ⟨_, rfl⟩
            · intro a wx hT hF hJ K hK
              replace hT : NewT w3 wx := hT
              obtain ⟨f11, f33, _⟩ := hF
              replace f11 := show (svPtV).pred (a.tmps.getD 11 undef) wx from f11
              have f33 : a.tmps.getD 33 undef = .agg (rowA 41 (clF zC)) := f33
              refine rely_wp rfl ?_
              obtain ⟨gv, hgv⟩ := f11
              obtain ⟨hB1, hr1⟩ := JV.at1 hJ hgv
              refine opr_putm (g := gv) (o0 := 0) (m := 41) (f := clF zC) (F := clF zC) rfl hgv f33 hr1 (by decide) info_cl (clF_one _) (put_allN _ _ _) ?_
              intro w' hR hr2
              exact hK _ _ (BelT.rt hB1 hR) (JV.mk2 hgv hB1 hr2 (rfl)) trivial
            · intro w4 k4
              iterate 9 (intro u h; obtain rfl := Eq.symm (h (by simp)); clear h)
              intro u h; obtain ⟨p11, hv⟩ := (h (by simp)); clear h; subst hv
              intro _ _
              refine relyEnd_nil rfl ?_
              intro hJ
              simp only [Act.put, List.setIfInBounds_toArray, List.set_cons_zero, List.set_cons_succ]
              obtain ⟨Fz, hBz, hrz, hGz⟩ := JV.at2 (g := p11) hJ (by kernel_rfl)
              refine opr_move (.inr rfl) ?_
              go_simp
              subst hGz
              replace k4 : NewT w3 w4 := k4
              obtain ⟨ga, h_ga⟩ : ∃ g_, p11 = g_ := ⟨_, rfl⟩
              rw [h_ga] at hrz hBz
              simp only [h_ga]
              have HGga : Hid (gk < ga ∧ gc < ga ∧ w.heap.size ≤ ga) := Lib.hid ⟨Nat.lt_of_lt_of_le Rgk.out.lt hBz, Nat.lt_of_lt_of_le Rgc.out.lt hBz, Nat.le_trans HM.out.out.size hBz⟩
              clear h_ga hBz hJ
              replace Rgk := Lib.hid (k4.row Rgk.out)
              replace Rgc := Lib.hid (k4.row Rgc.out)
              replace HM := Lib.hid (NewT.trans _ _ _ HM.out k4)
              clear k4
              have Rga := Lib.hid hrz
              clear hrz
              go_upto_region 8 with fail
              refine wp_region_rely (NewT) [SV.eq (.bool false), SV.eq (.bool true), SV.eq (.bool true), SV.eq (undef), SV.eq (undef), SV.eq (.bool true), SV.eq (.bool true), SV.eq (undef), SV.eq (undef), SV.eq (.bool true), SV.eq (.bool true), SV.eq (undef), SV.eq (undef), SV.eq (undef), SV.eq (undef), SV.eq (undef), SV.eq (.bool true)] [([(12, none)], none), ([(35, some 0)], none), ([(36, some 1)], none), ([(3, none), (37, some 2)], some (37, false)), ([(38, some 3), (37, some 2)], some (37, false)), ([(37, some 2), (39, some 4)], none), ([(40, some 5)], none), ([(3, none), (41, some 6)], some (41, false)), ([(42, some 7), (41, some 6)], some (41, false)), ([(41, some 6), (43, some 8)], none), ([(44, some 9)], none), ([(5, none), (45, some 10)], some (45, false)), ([(11, none), (45, some 10)], some (45, false)), ([(3, none), (45, some 10)], some (45, false)), ([(47, some 12), (48, some 13), (45, some 10)], some (45, false)), ([(46, some 11), (49, some 14), (45, some 10)], some (45, false)), ([(45, some 10), (50, some 15)], none)] 52 rfl (by kernel_rfl) rfl (by kernel_rfl) (by kernel_rfl) rfl NewT.trans (NewT.drew _) (Nat.le_of_ble_eq_true rfl) ⟨?_, ?_, ?_, ?_, ?_, ?_, ?_, ?_, ?_, ?_, ?_, ?_, ?_, ?_, ?_, ?_, ?_, trivial⟩ ?_
              · exact fun a wx hT hF K hK => rely_wp rfl (opr_move (.inl rfl) (hK _ _ (NewT.refl _) hF.1))
              · exact fun a wx hT hF K hK => rely_wp rfl (opr_not rfl hF.1 (hK _ _ (NewT.refl _) rfl))
              · exact fun a wx hT hF K hK => rely_wp rfl (opr_move (.inl rfl) (hK _ _ (NewT.refl _) hF.1))
              · exact fun a wx hT hF K hK => rely_skip (rely_guard_no hF.2.1 (by decide)) (hK _ _ (NewT.refl _) rfl)
              · exact fun a wx hT hF K hK => rely_skip (rely_guard_no hF.2.1 (by decide)) (hK _ _ (NewT.refl _) rfl)
              · exact fun a wx hT hF K hK => rely_wp rfl (opr_pick_true rfl hF.1 (hK _ _ (NewT.refl _) rfl))
              · exact fun a wx hT hF K hK => rely_wp rfl (opr_move (.inl rfl) (hK _ _ (NewT.refl _) hF.1))
              · exact fun a wx hT hF K hK => rely_skip (rely_guard_no hF.2.1 (by decide)) (hK _ _ (NewT.refl _) rfl)
              · exact fun a wx hT hF K hK => rely_skip (rely_guard_no hF.2.1 (by decide)) (hK _ _ (NewT.refl _) rfl)
              · exact fun a wx hT hF K hK => rely_wp rfl (opr_pick_true rfl hF.1 (hK _ _ (NewT.refl _) rfl))
              · exact fun a wx hT hF K hK => rely_wp rfl (opr_move (.inl rfl) (hK _ _ (NewT.refl _) hF.1))
              · exact fun a wx hT hF K hK => rely_skip (rely_guard_no hF.2.1 (by decide)) (hK _ _ (NewT.refl _) rfl)
              · exact fun a wx hT hF K hK => rely_skip (rely_guard_no hF.2.1 (by decide)) (hK _ _ (NewT.refl _) rfl)
              · exact fun a wx hT hF K hK => rely_skip (rely_guard_no hF.2.1 (by decide)) (hK _ _ (NewT.refl _) rfl)
              · exact fun a wx hT hF K hK => rely_skip (rely_guard_no hF.2.2.1 (by decide)) (hK _ _ (NewT.refl _) rfl)
              · exact fun a wx hT hF K hK => rely_skip (rely_guard_no hF.2.2.1 (by decide)) (hK _ _ (NewT.refl _) rfl)
              · exact fun a wx hT hF K hK => rely_wp rfl (opr_pick_true rfl hF.1 (hK _ _ (NewT.refl _) rfl))
              · intro w5 k5
                iterate 17 (intro u h; obtain rfl := Eq.symm (h (by simp)); clear h)
                refine relyEnd_nil rfl ?_
                simp only [Act.put, List.setIfInBounds_toArray, List.set_cons_zero, List.set_cons_succ]
                refine opr_move (.inr rfl) ?_
                go_simp
                replace Rgk := Lib.hid (k5.row Rgk.out)
                replace Rgc := Lib.hid (k5.row Rgc.out)
                replace Rga := Lib.hid (k5.row Rga.out)
                replace HM := Lib.hid (NewT.trans _ _ _ HM.out k5)
                clear k5
                go_wp2
                go_ret
                exact ⟨rfl, HM.out.out⟩
          · have HKN := Lib.hid hk
            clear hk
            go_upto_region 7 with fail
            have HTW := Lib.hid (HM.out.tables HTT.out)
            refine wp_region_relyL (BelT w3) (JR 2 5 9 10 29 11 w3 (fun w g => ∃ lo hi, w3.heap.size ≤ lo ∧ PartAt w lo hi g n 0 ps ws need []) 34 41 (clF (takeC kf ps ws need n 0 [] c r))) [SV.eq (.agg (rowA 3 (keyF pv wv need))), SV.eq (.int .i64 (n)), svPtV, SV.eq (.agg (rowA 41 (clF c))), SV.eq (.bool (r)), SV.eq ((.tuple #[.agg (rowA 41 (clF (takeC kf ps ws need n 0 [] c r))), .bool (itsB n c)])), SV.eq ((.tuple #[.agg (rowA 41 (clF (takeC kf ps ws need n 0 [] c r))), .bool (itsB n c)])), SV.eq (.agg (rowA 41 (clF (takeC kf ps ws need n 0 [] c r)))), SV.eq (.bool (itsB n c)), svPtV, SV.any] [([(5, none)], none), ([(1, none)], none), ([(27, some 0), (28, some 1)], none), ([(7, none)], none), ([(4, none)], none), ([(29, some 2), (30, some 3), (31, some 4)], none), ([(32, some 5)], none), ([(26, some 6)], none), ([(26, some 6)], none), ([], none), ([(11, some 9), (33, some 7)], none)] 52 rfl (by kernel_rfl) rfl (by kernel_rfl) (by kernel_rfl) rfl (BelT.trans w3) (BelT.drew w3 _) (JR.start _) (Nat.le_of_ble_eq_true rfl) ⟨?_, ?_, ?_, ?_, ?_, ?_, ?_, ?_, ?_, ?_, ?_, trivial⟩ ?_
            · intro a wx li hT hF hJ hx K hK
              replace hT : NewT w3 wx := hT
              replace hK := fun v w' (hN : NewT wx w') hv => hK v w' (BelT.new hT hN) ((JR.other hJ (by decide) (by simp) hN (fun {g} h => let ⟨lo, hi, h1, h2⟩ := h; ⟨lo, hi, h1, h2.new hN⟩))) hv
              obtain ⟨f5, _⟩ := hF
              have f5 : a.tmps.getD 5 undef = .pointer (some ⟨gk, 0, none⟩) := f5
              refine rely_wp rfl ?_
              exact opr_ldY (hT.row Rgk.out) rfl f5 (hK _ _ (NewT.refl _) rfl)
            · intro a wx li hT hF hJ hx K hK
              replace hT : NewT w3 wx := hT
              replace hK := fun v w' (hN : NewT wx w') hv => hK v w' (BelT.new hT hN) ((JR.other hJ (by decide) (by simp) hN (fun {g} h => let ⟨lo, hi, h1, h2⟩ := h; ⟨lo, hi, h1, h2.new hN⟩))) hv
              obtain ⟨f1, _⟩ := hF
              have f1 : a.tmps.getD 1 undef = .int .i64 (n) := f1
              refine rely_wp rfl ?_
              exact opr_move (.inl rfl) (hK _ _ (NewT.refl _) f1)
            · intro a wx li hT hF hJ hx K hK
              replace hT : NewT w3 wx := hT
              obtain ⟨f27, f28, _⟩ := hF
              have f27 : a.tmps.getD 27 undef = .agg (rowA 3 (keyF pv wv need)) := f27
              have f28 : a.tmps.getD 28 undef = .int .i64 (n) := f28
              refine rely_wp rfl ?_
              refine opr_cv ((New_yes wx.heap.size _ ps ws need n wx (Nat.le_refl _) (⟨pv, wv, rfl, (NewT.trans _ _ _ HM.out hT).hs HPP.out, (NewT.trans _ _ _ HM.out hT).hs HWW.out⟩ : KeysV wx (.agg (rowA 3 (keyF pv wv need))) ps ws need) HKN.out)) rfl Tryd.func11 (by kernel_rfl) (by kernel_rfl) (by simp only [List.map_toArray, List.map_cons, List.map_nil, eval_tmp, f27, f28]) (fun v w' hN hv => ?_)
              obtain ⟨g0, hi0, hv0, hp0⟩ := hv
              subst hv0
              exact hK _ _ (BelT.new hT hN) (JR.made hJ hx (by decide) hN ⟨_, _, hT.out.size, hp0⟩) ⟨g0, rfl⟩
            · intro a wx li hT hF hJ hx K hK
              replace hT : NewT w3 wx := hT
              replace hK := fun v w' (hN : NewT wx w') hv => hK v w' (BelT.new hT hN) ((JR.other hJ (by decide) (by simp) hN (fun {g} h => let ⟨lo, hi, h1, h2⟩ := h; ⟨lo, hi, h1, h2.new hN⟩))) hv
              obtain ⟨f7, _⟩ := hF
              have f7 : a.tmps.getD 7 undef = .pointer (some ⟨gc, 0, none⟩) := f7
              refine rely_wp rfl ?_
              exact opr_ldCl (hT.row Rgc.out) rfl f7 (hK _ _ (NewT.refl _) rfl)
            · intro a wx li hT hF hJ hx K hK
              replace hT : NewT w3 wx := hT
              replace hK := fun v w' (hN : NewT wx w') hv => hK v w' (BelT.new hT hN) ((JR.other hJ (by decide) (by simp) hN (fun {g} h => let ⟨lo, hi, h1, h2⟩ := h; ⟨lo, hi, h1, h2.new hN⟩))) hv
              obtain ⟨f4, _⟩ := hF
              have f4 : a.tmps.getD 4 undef = .bool (r) := f4
              refine rely_wp rfl ?_
              exact opr_move (.inl rfl) (hK _ _ (NewT.refl _) f4)
            · intro a wx li hT hF hJ hx K hK
              replace hT : NewT w3 wx := hT
              obtain ⟨f29, f30, f31, _⟩ := hF
              replace f29 := show (svPtV).pred (a.tmps.getD 29 undef) wx from f29
              have f30 : a.tmps.getD 30 undef = .agg (rowA 41 (clF c)) := f30
              have f31 : a.tmps.getD 31 undef = .bool (r) := f31
              refine rely_wp rfl ?_
              obtain ⟨g0, hg0⟩ := f29
              obtain ⟨lo, hi, hlo, hPA⟩ := hJ.one hx.no (hx.waits 2 (by kernel_rfl)) g0 hg0
              refine opr_call rfl Tryd.func13 (by kernel_rfl) (by kernel_rfl) (vs := #[.pointer (some ⟨g0, 0, none⟩), .agg (rowA 41 (clF c)), .bool r]) (by simp only [List.map_toArray, List.map_cons, List.map_nil, eval_tmp, hg0, f30, f31]) ((Take_b hX c r wx (hT.tables HTW.out) (Nat.le_trans HTW.out.size hlo) hPA).mono ?_)
              rintro ex w4 ⟨rfl, hP4, hA4, m4, hm4, hk4⟩
              exact ⟨_, rfl, hK _ _ (hP4.below.mono hlo) (JR.asked hJ hx (by decide) (by simp) (fun b F hb hr => row_of (hk4 b hr.lt (hm4.neRow hr)) hr)) rfl⟩
            · intro a wx li hT hF hJ hx K hK
              replace hT : NewT w3 wx := hT
              replace hK := fun v w' (hN : NewT wx w') hv => hK v w' (BelT.new hT hN) ((JR.other hJ (by decide) (by simp) hN (fun {g} h => let ⟨lo, hi, h1, h2⟩ := h; ⟨lo, hi, h1, h2.new hN⟩))) hv
              obtain ⟨f32, _⟩ := hF
              have f32 : a.tmps.getD 32 undef = (.tuple #[.agg (rowA 41 (clF (takeC kf ps ws need n 0 [] c r))), .bool (itsB n c)]) := f32
              refine rely_wp rfl ?_
              exact opr_move (.inl rfl) (hK _ _ (NewT.refl _) f32)
            · intro a wx li hT hF hJ hx K hK
              replace hT : NewT w3 wx := hT
              replace hK := fun v w' (hN : NewT wx w') hv => hK v w' (BelT.new hT hN) ((JR.other hJ (by decide) (by simp) hN (fun {g} h => let ⟨lo, hi, h1, h2⟩ := h; ⟨lo, hi, h1, h2.new hN⟩))) hv
              obtain ⟨f26, _⟩ := hF
              have f26 : a.tmps.getD 26 undef = (.tuple #[.agg (rowA 41 (clF (takeC kf ps ws need n 0 [] c r))), .bool (itsB n c)]) := f26
              refine rely_wp rfl ?_
              exact opr_ext rfl f26 rfl (hK _ _ (NewT.refl _) rfl)
            · intro a wx li hT hF hJ hx K hK
              replace hT : NewT w3 wx := hT
              replace hK := fun v w' (hN : NewT wx w') hv => hK v w' (BelT.new hT hN) ((JR.other hJ (by decide) (by simp) hN (fun {g} h => let ⟨lo, hi, h1, h2⟩ := h; ⟨lo, hi, h1, h2.new hN⟩))) hv
              obtain ⟨f26, _⟩ := hF
              have f26 : a.tmps.getD 26 undef = (.tuple #[.agg (rowA 41 (clF (takeC kf ps ws need n 0 [] c r))), .bool (itsB n c)]) := f26
              refine rely_wp rfl ?_
              exact opr_ext rfl f26 rfl (hK _ _ (NewT.refl _) rfl)
            · intro a wx li hT hF hJ hx K hK
              replace hT : NewT w3 wx := hT
              refine rely_wp rfl ?_
              refine opr_allocV rfl run_alloc_cl ?_
              exact hK _ _ (BelT.new hT (NewT.alloc _ _)) (JR.alloc hJ hx (by decide) hT.out.size (fun {g} ⟨lo, hi, h1, h2⟩ => ⟨lo, hi, h1, h2.new (NewT.alloc _ _)⟩)) ⟨_, rfl⟩
            · intro a wx li hT hF hJ hx K hK
              replace hT : NewT w3 wx := hT
              obtain ⟨f11, f33, _⟩ := hF
              replace f11 := show (svPtV).pred (a.tmps.getD 11 undef) wx from f11
              have f33 : a.tmps.getD 33 undef = .agg (rowA 41 (clF (takeC kf ps ws need n 0 [] c r))) := f33
              refine rely_wp rfl ?_
              obtain ⟨bv, hbv⟩ := f11
              obtain ⟨hb2, F0, hb3, _⟩ := hJ.var (hx.waits 9 (by kernel_rfl)) bv hbv
              refine opr_putmB (g := bv) (o0 := 0) (m := 41) (f := clF (takeC kf ps ws need n 0 [] c r)) (F := clF (takeC kf ps ws need n 0 [] c r)) rfl hbv f33 hb3 (by decide) info_cl (clF_one _) (put_allN _ _ _) ?_
              intro w' hR hO hr2
              exact hK _ _ (BelT.rt hb2 hR) (JR.store hJ hx (by decide) (hx.closed 6 5 (by kernel_rfl) (hx.closed 7 6 (by kernel_rfl) (hx.waits 7 (by kernel_rfl)))) (hx.waits 9 (by kernel_rfl)) hbv hb2 hr2) trivial
            · intro w6 k6
              iterate 2 (intro u h; obtain rfl := Eq.symm (h (by simp)); clear h)
              intro u h; obtain ⟨p29, hv⟩ := (h (by simp)); clear h; subst hv
              iterate 6 (intro u h; obtain rfl := Eq.symm (h (by simp)); clear h)
              intro u h; obtain ⟨p11, hv⟩ := (h (by simp)); clear h; subst hv
              intro _ _
              refine relyEnd_nil rfl ?_
              intro hJ
              simp only [Act.put, List.setIfInBounds_toArray, List.set_cons_zero, List.set_cons_succ]
              obtain ⟨hbz, hrz⟩ := JR.at (g := p11) hJ (by decide) (by kernel_rfl)
              refine opr_move (.inr rfl) ?_
              go_simp
              clear hJ
              replace k6 : NewT w3 w6 := k6
              obtain ⟨ga, h_ga⟩ : ∃ g_, p11 = g_ := ⟨_, rfl⟩
              rw [h_ga] at hbz hrz
              simp only [h_ga]
              clear h_ga hbz
              replace Rgk := Lib.hid (k6.row Rgk.out)
              replace Rgc := Lib.hid (k6.row Rgc.out)
              replace HM := Lib.hid (NewT.trans _ _ _ HM.out k6)
              clear k6
              have Rga := Lib.hid hrz
              clear hrz HTW
              go_upto_region 8 with fail
              obtain ⟨q1_8, Q1_8⟩ : ∃ bq_, ((!(itsB n c)) || (decide (seq < 1))) = bq_ := ⟨_, rfl⟩
              obtain ⟨q2_8, Q2_8⟩ : ∃ bq_, ((q1_8 || (decide (400 < seq))) || (holdsB kf ps ws need (recC (takeC kf ps ws need n 0 [] c r) seq))) = bq_ := ⟨_, rfl⟩
              refine wp_region_rely (NewT) [SV.eq (.bool (itsB n c)), SV.eq (.bool (!(itsB n c))), SV.eq (.bool (!(itsB n c))), svIf ((!(!(itsB n c)))) (SV.eq (.int .i64 (seq))), svIf ((!(!(itsB n c)))) (SV.eq (.bool (decide (seq < 1)))), SV.eq (.bool (q1_8)), SV.eq (.bool (q1_8)), svIf ((!q1_8)) (SV.eq (.int .i64 (seq))), svIf ((!q1_8)) (SV.eq (.bool (decide (400 < seq)))), SV.eq (.bool (q1_8 || (decide (400 < seq)))), SV.eq (.bool (q1_8 || (decide (400 < seq)))), svIf ((!(q1_8 || (decide (400 < seq))))) (SV.eq (.agg (rowA 3 (keyF pv wv need)))), svIf ((!(q1_8 || (decide (400 < seq))))) (SV.eq (.agg (rowA 41 (clF (takeC kf ps ws need n 0 [] c r))))), svIf ((!(q1_8 || (decide (400 < seq))))) (SV.eq (.int .i64 (seq))), svIf ((!(q1_8 || (decide (400 < seq))))) (svRec (recC (takeC kf ps ws need n 0 [] c r) seq)), svIf ((!(q1_8 || (decide (400 < seq))))) (SV.eq (.bool (holdsB kf ps ws need (recC (takeC kf ps ws need n 0 [] c r) seq)))), SV.eq (.bool (q2_8))] [([(12, none)], none), ([(35, some 0)], none), ([(36, some 1)], none), ([(3, none), (37, some 2)], some (37, false)), ([(38, some 3), (37, some 2)], some (37, false)), ([(37, some 2), (39, some 4)], none), ([(40, some 5)], none), ([(3, none), (41, some 6)], some (41, false)), ([(42, some 7), (41, some 6)], some (41, false)), ([(41, some 6), (43, some 8)], none), ([(44, some 9)], none), ([(5, none), (45, some 10)], some (45, false)), ([(11, none), (45, some 10)], some (45, false)), ([(3, none), (45, some 10)], some (45, false)), ([(47, some 12), (48, some 13), (45, some 10)], some (45, false)), ([(46, some 11), (49, some 14), (45, some 10)], some (45, false)), ([(45, some 10), (50, some 15)], none)] 52 rfl (by kernel_rfl) rfl (by kernel_rfl) (by kernel_rfl) rfl NewT.trans (NewT.drew _) (Nat.le_of_ble_eq_true rfl) ⟨?_, ?_, ?_, ?_, ?_, ?_, ?_, ?_, ?_, ?_, ?_, ?_, ?_, ?_, ?_, ?_, ?_, trivial⟩ ?_
              · exact fun a wx hT hF K hK => rely_wp rfl (opr_move (.inl rfl) (hK _ _ (NewT.refl _) hF.1))
              · exact fun a wx hT hF K hK => rely_wp rfl (opr_not rfl hF.1 (hK _ _ (NewT.refl _) rfl))
              · exact fun a wx hT hF K hK => rely_wp rfl (opr_move (.inl rfl) (hK _ _ (NewT.refl _) hF.1))
              · exact fun a wx hT hF K hK => rely_if (rely_gf hF.2.1) (NewT.refl _) hK fun hE hK => opr_move (.inl rfl) (hK _ _ (NewT.refl _) hF.1)
              · exact fun a wx hT hF K hK => rely_if (rely_gf hF.2.1) (NewT.refl _) hK fun hE hK => opr_cmp (b := decide (seq < 1)) (.inr (.inr (.inr (.inl ⟨rfl, rfl⟩)))) Tryd.underlying3 rfl (hF.1 hE) rfl (hK _ _ (NewT.refl _) rfl)
              · exact fun a wx hT hF K hK => rely_wp rfl (opr_pick_b rfl hF.1 (fun hb => hK _ _ (NewT.refl _) (pn_or1 Q1_8 hb)) (fun hb => hK _ _ (NewT.refl _) (pn_or0 Q1_8 (hF.2.1 (bnot hb)) hb)))
              · exact fun a wx hT hF K hK => rely_wp rfl (opr_move (.inl rfl) (hK _ _ (NewT.refl _) hF.1))
              · exact fun a wx hT hF K hK => rely_if (rely_gf hF.2.1) (NewT.refl _) hK fun hE hK => opr_move (.inl rfl) (hK _ _ (NewT.refl _) hF.1)
              · exact fun a wx hT hF K hK => rely_if (rely_gf hF.2.1) (NewT.refl _) hK fun hE hK => opr_cmp (b := decide (400 < seq)) (.inr (.inr (.inr (.inr (.inl ⟨rfl, rfl⟩))))) Tryd.underlying3 rfl (hF.1 hE) rfl (hK _ _ (NewT.refl _) rfl)
              · exact fun a wx hT hF K hK => rely_wp rfl (opr_pick_b rfl hF.1 (fun hb => hK _ _ (NewT.refl _) (pk_or1 hb)) (fun hb => hK _ _ (NewT.refl _) (pk_or0 (hF.2.1 (bnot hb)) hb)))
              · exact fun a wx hT hF K hK => rely_wp rfl (opr_move (.inl rfl) (hK _ _ (NewT.refl _) hF.1))
              · exact fun a wx hT hF K hK => rely_if (rely_gf hF.2.1) (NewT.refl _) hK fun hE hK => opr_ldY (hT.row Rgk.out) rfl hF.1 (hK _ _ (NewT.refl _) rfl)
              · exact fun a wx hT hF K hK => rely_if (rely_gf hF.2.1) (NewT.refl _) hK fun hE hK => opr_ldCl (hT.row Rga.out) rfl hF.1 (hK _ _ (NewT.refl _) rfl)
              · exact fun a wx hT hF K hK => rely_if (rely_gf hF.2.1) (NewT.refl _) hK fun hE hK => opr_move (.inl rfl) (hK _ _ (NewT.refl _) hF.1)
              · exact fun a wx hT hF K hK => rely_if (rely_gf hF.2.2.1) (NewT.refl _) hK fun hE hK => opr_cv (pReceipt_cv (takeC kf ps ws need n 0 [] c r) seq wx) rfl Tryd.func20 (by kernel_rfl) (by kernel_rfl) (evs2 (hF.1 hE) (hF.2.1 hE)) hK
              · exact fun a wx hT hF K hK => rely_if (rely_gf hF.2.2.1) (NewT.refl _) hK fun hE hK => opr_cv (Holds_cv hX _ _ ps ws need (recC (takeC kf ps ws need n 0 [] c r) seq) wx ((NewT.trans _ _ _ HM.out hT).tables HTT.out) (⟨pv, wv, rfl, (NewT.trans _ _ _ HM.out hT).hs HPP.out, (NewT.trans _ _ _ HM.out hT).hs HWW.out⟩ : KeysV wx (.agg (rowA 3 (keyF pv wv need))) ps ws need) (hF.2.1 hE)) rfl Tryd.func22 (by kernel_rfl) (by kernel_rfl) (evs2 (hF.1 hE) rfl) hK
              · exact fun a wx hT hF K hK => rely_wp rfl (opr_pick_b rfl hF.1 (fun hb => hK _ _ (NewT.refl _) (pn_or1 Q2_8 hb)) (fun hb => hK _ _ (NewT.refl _) (pn_or0 Q2_8 (hF.2.1 (bnot hb)) hb)))
              · intro w7 k7
                iterate 3 (intro u h; obtain rfl := Eq.symm (h (by simp)); clear h)
                iterate 2 (intro _ _)
                iterate 2 (intro u h; obtain rfl := Eq.symm (h (by simp)); clear h)
                iterate 2 (intro _ _)
                iterate 2 (intro u h; obtain rfl := Eq.symm (h (by simp)); clear h)
                iterate 5 (intro _ _)
                intro u h; obtain rfl := Eq.symm (h (by simp)); clear h
                subst Q2_8 Q1_8
                refine relyEnd_nil rfl ?_
                simp only [Act.put, List.setIfInBounds_toArray, List.set_cons_zero, List.set_cons_succ]
                refine opr_move (.inr rfl) ?_
                go_simp
                replace Rgk := Lib.hid (k7.row Rgk.out)
                replace Rgc := Lib.hid (k7.row Rgc.out)
                replace Rga := Lib.hid (k7.row Rga.out)
                replace HM := Lib.hid (NewT.trans _ _ _ HM.out k7)
                clear k7
                have HFIN : (((((!(itsB n c)) || (decide (seq < 1))) || (decide (400 < seq))) || (holdsB kf ps ws need (recC (takeC kf ps ws need n 0 [] c r) seq)))) = true := by
                  cases hi : itsB n c
                  · simp [hi]
                  · by_cases h1 : seq < 1
                    · simp [h1]
                    · by_cases h2 : 400 < seq
                      · simp [h2]
                      · have h3 := holds_ans (kf := kf) (g := goodE [] c r) (need := need) (seq := seq) hi HKN.out (e := 0) (by decide) (by omega)
                        rw [show takeC kf ps ws need n 0 [] c r = ansC kf ps ws need 0 c (goodE [] c r) from by unfold takeC; rw [if_pos hi], h3]
                        simp
                go_wp2
                go_ret
                exact ⟨rfl, HM.out.out⟩
      · clear hb
        go_wp2
        go_ret
        exact ⟨rfl, HM.out.out⟩
end Go.Proofs.YtchpmdcacpjojaaDoor
/- The two tables, out of the rows' own condition; the row's last step where the world has new blocks alone; the shapes of the arguments. -/
namespace Go.Proofs.YtchpmdcacpjojaaDoor
open Go.ChangeShapes Go.WideShapes Go.ChangeAt Go.WideMaps Go.WideElems Go.RowKit
set_option maxRecDepth 8000
set_option linter.all false

theorem gK : Tryd.prog.globalNamed "inspeximus/api.K" = some 1 := by kernel_rfl
theorem gF : Tryd.prog.globalNamed "inspeximus/api.First" = some 0 := by kernel_rfl
theorem tK : (Tryd.prog.globals[1]?).map (·.type) = some 126 := by kernel_rfl
theorem tF : (Tryd.prog.globals[0]?).map (·.type) = some 117 := by kernel_rfl
def laid2 : List (String × DataW Unit) := [("inspeximus/api.K", Rows.laid_inspeximus_api_K), ("inspeximus/api.First", Rows.laid_inspeximus_api_First)]
def kInts : List Int := kTab.map fun (n : Nat) => (n : Int)
def fInts : List Int := fTab.map fun (n : Nat) => (n : Int)
theorem tables_of_laid {W : World} (h : laidMetH Tryd.prog laid2 W) : Tables W := by
  rw [MakeChecks.laidMetH_plain _ _ _ (by kernel_rfl)] at h
  have hK : Lib.TabIs Tryd.prog W "inspeximus/api.K" .u32 kInts := Lib.tabIs_of_head gK tK Tryd.underlying126 Tryd.underlying116 (by kernel_rfl) (by kernel_rfl) h
  have hF : Lib.TabIs Tryd.prog W "inspeximus/api.First" .u32 fInts := Lib.tabIs_of_head gF tF Tryd.underlying117 Tryd.underlying116 (by kernel_rfl) (by kernel_rfl) (laidMet.tail h)
  have hs : 1 < W.heap.size := World.block_lt_of_cell? _ _ (hK.cell gK 0 (by decide))
  refine ⟨hs, fun i hi => ?_, fun i hi => ?_⟩
  · rw [hK.cell gK i (by simpa [kInts, kTab] using hi)]
    have h : ∀ i : Fin 64, kInts.getD i.val 0 = uN (Kc i.val) := by decide +kernel
    rw [h ⟨i, hi⟩]
  · rw [hF.cell gF i (by simpa [fInts, fTab] using hi)]
    have h : ∀ i : Fin 8, fInts.getD i.val 0 = uN (Fc i.val) := by decide +kernel
    rw [h ⟨i, hi⟩]
/-- The door's own heap meets the condition. -/
theorem door_met (os : Os) (args : Array Value) : laidMetH Tryd.prog laid2 ((World.doorLaid Tryd.prog 400 os).forCall (fun _ _ => 0) ⟨#[], args, []⟩).memory :=
  laidMetH_of_parts3 (fuel := 8) (laidMet_of_run' 8 (by kernel_rfl) (by kernel_rfl)) (by kernel_rfl) (by kernel_rfl)
end Go.Proofs.YtchpmdcacpjojaaDoor
/- (all of it lies in EP now) -/
/- The laws' arguments, opened: arrays of numbers by value, slices of bytes. -/
namespace Go.Proofs.YtchpmdcacpjojaaDoor
open Go.ChangeShapes Go.WideShapes Go.ChangeAt Go.WideMaps Go.WideElems Go.RowKit
set_option maxRecDepth 8000
set_option linter.all false

end Go.Proofs.YtchpmdcacpjojaaDoor
/- Laws of five and of six arguments: each of them read. No program is named. -/
namespace Go.Proofs.YtchpmdcacpjojaaDoor
open Go Go.ChangeShapes Go.RowKit
set_option maxRecDepth 8000
set_option linter.all false
section
variable {H : Type} {enc : TypeId × Value → H} {P : Program} {w : World} {base : Nat} {spare : Nat → Bool} {held : Bool}
theorem trodAll_five {t0 t1 t2 t3 t4 : TypeId} {args : Array Value} {ds : List (DataW H)} {ps : List MemPlace} (h : DataW.TrodAll enc P w base spare held [t0, t1, t2, t3, t4] args.toList ds ps) :
    ∃ v0 v1 v2 v3 v4 d0 d1 d2 d3 d4 p0 p1 p2 p3 p4, args = #[v0, v1, v2, v3, v4] ∧ ds = [d0, d1, d2, d3, d4] ∧ ps = p0 ++ p1 ++ p2 ++ p3 ++ p4 ∧ DataW.Trod enc P w base spare held t0 v0 d0 p0 ∧ DataW.Trod enc P w base spare held t1 v1 d1 p1 ∧ DataW.Trod enc P w base spare held t2 v2 d2 p2 ∧ DataW.Trod enc P w base spare held t3 v3 d3 p3 ∧ DataW.Trod enc P w base spare held t4 v4 d4 p4 := by
  obtain ⟨v0, vs0, d0, ds0, p0, q0, hargs, rfl, rfl, hd0, hr0⟩ := trodAll_cons h
  obtain ⟨v1, vs1, d1, ds1, p1, q1, rfl, rfl, rfl, hd1, hr1⟩ := trodAll_cons hr0
  obtain ⟨v2, vs2, d2, ds2, p2, q2, rfl, rfl, rfl, hd2, hr2⟩ := trodAll_cons hr1
  obtain ⟨v3, vs3, d3, ds3, p3, q3, rfl, rfl, rfl, hd3, hr3⟩ := trodAll_cons hr2
  obtain ⟨v4, vs4, d4, ds4, p4, q4, rfl, rfl, rfl, hd4, hr4⟩ := trodAll_cons hr3
  obtain ⟨rfl, rfl, rfl⟩ := trodAll_nil hr4
  exact ⟨v0, v1, v2, v3, v4, d0, d1, d2, d3, d4, p0, p1, p2, p3, p4, by cases args; simp_all, rfl, by simp, hd0, hd1, hd2, hd3, hd4⟩
end
end Go.Proofs.YtchpmdcacpjojaaDoor
/- The laws' arguments, opened: keys and checkpoints by value. -/
namespace Go.Proofs.YtchpmdcacpjojaaDoor
open Go Go.ChangeShapes Go.WideShapes Go.ChangeAt Go.WideMaps Go.WideElems Go.RowKit
set_option maxRecDepth 8000
set_option linter.all false
theorem hashTy : HashTy Tryd.prog 32 5 := ⟨Tryd.underlying32, Tryd.underlying5, by kernel_rfl, by kernel_rfl⟩
theorem keysTy : ∃ f0 f1 f2, KeysTy Tryd.prog 24 32 5 f0 f1 f2 :=
  ⟨_, _, _, Tryd.underlying24, by kernel_rfl, rfl, rfl, rfl, Tryd.underlying22, Tryd.underlying22, Tryd.underlying3, by kernel_rfl, by kernel_rfl, by kernel_rfl, hashTy⟩
section
variable {H : Type} {enc : TypeId × Value → H} {w : World} {base : Nat} {spare : Nat → Bool} {held : Bool} {r : Reach} {b0 : Nat} {v : Value} {d : DataW H} {p : List MemPlace}
theorem open_keysA (hv : Value.okWide Tryd.prog w r b0 24 v) (h : DataW.Trod enc Tryd.prog w base spare held 24 v d p) : ∃ ps ws need, KeysV w v ps ws need ∧ (Lit.int .i64 need).wf = true := by
  obtain ⟨_, _, _, K⟩ := keysTy
  exact open_keys K hv h
end
end Go.Proofs.YtchpmdcacpjojaaDoor
/- Arguments that are calls, slices of calls, slices of acts, opened. -/
namespace Go.Proofs.YtchpmdcacpjojaaDoor
open Go Go.ChangeShapes Go.WideShapes Go.ChangeAt Go.WideMaps Go.WideElems Go.RowKit
set_option maxRecDepth 8000
set_option linter.all false
section
variable {H : Type} {enc : TypeId × Value → H} {w : World} {base : Nat} {spare : Nat → Bool} {held : Bool} {r : Reach} {b0 : Nat} {v : Value} {d : DataW H} {p : List MemPlace} {n : Nat} {cs : Array Value}
theorem call_of {fs : Array Field} (hs : Tryd.prog.underlying 34 = some (.struct fs)) (hsz : cs.size = 41) (hf : ∀ (i : Nat) (f : Field), fs[i]? = some f → ∃ y, DataW.trod enc Tryd.prog w base spare held n f.type ((cs.toList.drop f.offset).take (Tryd.prog.cellsOf f.type)) = some y) : ∃ c : Cl, cs = rowA 41 (clF c) := by
  rw [Tryd.underlying34] at hs
  cases hs
  obtain ⟨z0, e0, _⟩ := field_int (ty := 3) (o := 0) Tryd.underlying3 (by kernel_rfl) (hf 0 _ rfl)
  obtain ⟨z1, e1, _⟩ := field_int (ty := 3) (o := 1) Tryd.underlying3 (by kernel_rfl) (hf 1 _ rfl)
  obtain ⟨z2, e2, _⟩ := field_int (ty := 3) (o := 2) Tryd.underlying3 (by kernel_rfl) (hf 2 _ rfl)
  obtain ⟨z4, e4, _⟩ := field_int (ty := 3) (o := 4) Tryd.underlying3 (by kernel_rfl) (hf 4 _ rfl)
  obtain ⟨z5, e5, _⟩ := field_int (ty := 3) (o := 5) Tryd.underlying3 (by kernel_rfl) (hf 5 _ rfl)
  obtain ⟨z8, e8, _⟩ := field_int (ty := 3) (o := 8) Tryd.underlying3 (by kernel_rfl) (hf 8 _ rfl)
  obtain ⟨b3, e3⟩ := field_bool (ty := 4) (o := 3) Tryd.underlying4 (by kernel_rfl) (hf 3 _ rfl)
  obtain ⟨b6, e6⟩ := field_bool (ty := 4) (o := 6) Tryd.underlying4 (by kernel_rfl) (hf 6 _ rfl)
  obtain ⟨b7, e7⟩ := field_bool (ty := 4) (o := 7) Tryd.underlying4 (by kernel_rfl) (hf 7 _ rfl)
  obtain ⟨t, ht⟩ := field_hash (ty := 32) (o := 9) (m := 32) Tryd.underlying32 Tryd.underlying5 (by kernel_rfl) (by kernel_rfl) (hf 9 _ rfl)
  refine ⟨⟨z0, z1, z2, b3, z4, z5, b6, b7, z8, t⟩, ?_⟩
  apply Array.ext_getElem?
  intro i
  by_cases hi : i < 41
  · rw [rowA_at _ _ _ hi]
    by_cases h9 : i < 9
    · have : i = 0 ∨ i = 1 ∨ i = 2 ∨ i = 3 ∨ i = 4 ∨ i = 5 ∨ i = 6 ∨ i = 7 ∨ i = 8 := by omega
      rcases this with rfl | rfl | rfl | rfl | rfl | rfl | rfl | rfl | rfl <;> simpa [clF]
    · obtain ⟨j, rfl⟩ : ∃ j, i = 9 + j := ⟨i - 9, by omega⟩
      rw [clF_tag _ _ (by omega), ht j (by omega)]
      rfl
  · rw [Array.getElem?_eq_none (by omega), Array.getElem?_eq_none (by rw [rowA_size]; omega)]
/-- A call by value. -/
theorem open_callA (hv : Value.okWide Tryd.prog w r b0 34 v) (h : DataW.Trod enc Tryd.prog w base spare held 34 v d p) : ∃ c : Cl, v = .agg (rowA 41 (clF c)) := by
  obtain ⟨cs, n, rfl, hsz, hf⟩ := open_fields Tryd.underlying34 hv h
  obtain ⟨c, hc⟩ := call_of (enc := enc) (w := w) (base := base) (spare := spare) (held := held) Tryd.underlying34 (hsz.trans (by kernel_rfl)) hf
  exact ⟨c, by rw [hc]⟩
end
end Go.Proofs.YtchpmdcacpjojaaDoor
