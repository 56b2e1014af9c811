/- The laws' question whether package keys answers as the document's example. -/
import Derived.Test.YtcfogkimjbgjgaaDoorMe
set_option linter.all false
namespace Go.Proofs.YtcfogkimjbgjgaaDoor
open Go Go.RowKit
set_option maxRecDepth 8000
set_option linter.all false
set_option maxHeartbeats 1000000 in
theorem Few_cv (w : World) : Cv 25 #[] w (svKeys [oneH 1, oneH 2] [oneH 3, oneH 4, oneH 5] 2) := by
  unfold Cv
  go_enter Tryd.func25, Tryd.ntmps25
  go_upto_region 1 with fail
  have r0 := rowIs_box w 24 3 (keyF (.slice none 0 0) (.slice none 0 0) 0)
  have hN := NewT.alloc w (.cells (rowA 3 (keyF (.slice none 0 0) (.slice none 0 0) 0)) 24)
  change Code.wp _ _ _ _ (w.alloc (.cells (rowA 3 (keyF (.slice none 0 0) (.slice none 0 0) 0)) 24))
  generalize w.alloc (.cells (rowA 3 (keyF (.slice none 0 0) (.slice none 0 0) 0)) 24) = W0 at r0 hN ⊢
  have R0 := Lib.hid r0
  have HN := Lib.hid hN
  clear r0 hN
  refine wp_region_steps0 NewT [SV.eq (.agg (rowA 32 (bF (oneH 1)))), SV.eq (.agg (rowA 32 (bF (oneH 2)))), svH ([oneH 1, oneH 2]), SV.eq (.agg (rowA 32 (bF (oneH 3)))), SV.eq (.agg (rowA 32 (bF (oneH 4)))), SV.eq (.agg (rowA 32 (bF (oneH 5)))), svH ([oneH 3, oneH 4, oneH 5]), svKeys [oneH 1, oneH 2] [oneH 3, oneH 4, oneH 5] 2] [([], none), ([], none), ([(1, some 0), (2, some 1)], none), ([], none), ([], none), ([], none), ([(4, some 3), (5, some 4), (6, some 5)], none), ([(3, some 2), (7, some 6)], none)] 9 8 rfl rfl (by kernel_rfl) NewT.trans (NewT.refl _) (Nat.le_of_ble_eq_true rfl) ⟨?_, ?_, ?_, ?_, ?_, ?_, ?_, ?_, trivial⟩ ?_
  · intro a wx hT hF K hK
    refine rely_wp rfl ?_
    exact opr_build (pv := #[(0, .int .u8 1)]) rfl (by simp only [List.map_toArray, List.map_cons, List.map_nil, eval_const]) (run_bld_one 1 wx) (hK _ _ (NewT.refl _) rfl)
  · intro a wx hT hF K hK
    refine rely_wp rfl ?_
    exact opr_build (pv := #[(0, .int .u8 2)]) rfl (by simp only [List.map_toArray, List.map_cons, List.map_nil, eval_const]) (run_bld_one 2 wx) (hK _ _ (NewT.refl _) rfl)
  · exact fun a wx hT hF K hK => rely_wp rfl (opr_bsH2 rfl hF.1 hF.2.1 hK)
  · intro a wx hT hF K hK
    refine rely_wp rfl ?_
    exact opr_build (pv := #[(0, .int .u8 3)]) rfl (by simp only [List.map_toArray, List.map_cons, List.map_nil, eval_const]) (run_bld_one 3 wx) (hK _ _ (NewT.refl _) rfl)
  · intro a wx hT hF K hK
    refine rely_wp rfl ?_
    exact opr_build (pv := #[(0, .int .u8 4)]) rfl (by simp only [List.map_toArray, List.map_cons, List.map_nil, eval_const]) (run_bld_one 4 wx) (hK _ _ (NewT.refl _) rfl)
  · intro a wx hT hF K hK
    refine rely_wp rfl ?_
    exact opr_build (pv := #[(0, .int .u8 5)]) rfl (by simp only [List.map_toArray, List.map_cons, List.map_nil, eval_const]) (run_bld_one 5 wx) (hK _ _ (NewT.refl _) rfl)
  · exact fun a wx hT hF K hK => rely_wp rfl (opr_bsH3 rfl hF.1 hF.2.1 hF.2.2.1 hK)
  · exact fun a wx hT hF K hK => rely_wp rfl (opr_bldY rfl hF.1 hF.2.1 (fun u hu => hK u _ (NewT.refl _) hu))
  · intro wx hT
    iterate 2 (intro u h; obtain rfl := Eq.symm (h (by simp)); clear h)
    intro _ _
    iterate 3 (intro u h; obtain rfl := Eq.symm (h (by simp)); clear h)
    intro _ _
    intro u8 h; have g8 := h (by simp); clear h; replace g8 := show (svKeys [oneH 1, oneH 2] [oneH 3, oneH 4, oneH 5] 2).pred u8 wx from g8
    refine relyEnd_nil rfl ?_
    simp only [Act.put, List.setIfInBounds_toArray, List.set_cons_zero, List.set_cons_succ]
    obtain ⟨pv, wv, rfl, hpv, hwv⟩ := g8
    have q0 := hT.row R0.out
    refine wpList_plain rfl (fun K hK => ?_)
    refine opr_putm (g := w.heap.size) (o0 := 0) (m := 3) (f := keyF pv wv 2) (F := keyF pv wv 2) rfl rfl rfl q0 (by decide) info_ky (keyF_one hpv hwv) (fun i hi => by rw [if_pos (by omega), Nat.sub_zero]) ?_
    intro w9 hR9 r9
    refine hK _ _ ?_
    refine wpList_end rfl ?_
    simp only [Act.put, List.setIfInBounds_toArray, List.set_cons_zero, List.set_cons_succ]
    go_simp
    go_wp2
    exact bodyPost_ret (results_agg rfl _ rfl r9 Tryd.underlying24 rfl info_ky) rfl ⟨_, rfl, NewT.rt (NewT.trans _ _ _ HN.out hT) hR9 (Nat.le_refl _), pv, wv, rfl, hpv.apart q0 (fun i z => keyF_no _ _ _ _ _ _ _ i z) hR9, hwv.apart q0 (fun i z => keyF_no _ _ _ _ _ _ _ i z) hR9⟩

/-- The receipt of the example. -/
def aX0 : Rc := { zR with kind := 3, seq := 2, tr := 1, good := true, part := 1 }
theorem build_aX (w : World) : (Instr.build 30 #[(0, .int .i64 3), (2, .int .i64 2), (4, .int .i64 1), (6, .bool true), (8, .int .i64 1)]).run Tryd.prog w = .ok (.agg (rowA 109 (recF aX0 (.slice none 0 0) (.slice none 0 0)))) w := by kernel_rfl
theorem ne_good : eqH (tagL (digL (tagL (digL (oneH 2)) (wordsL [1, 0]))) (wordsL [2, 0, 0, 0, 0])) (tagL (digL (tagL (digL (oneH 2)) (wordsL [1, 0]))) (wordsL [2, 0, 0, 0, 1])) = false := by decide +kernel
theorem ne_part : eqH (tagL (digL (oneH 1)) (wordsL [1, 1])) (tagL (digL (oneH 1)) (wordsL [1, 2])) = false := by decide +kernel
theorem check_list {ps ws : List Hs} {need size : Int} {sg : Nat → Hs} {l : List (Int × Hs)} (hm : mayB ps ws need = true) (hs : inR size 0 400 = true) (h1 : ∀ s ∈ l, ∃ i : Nat, i < ws.length ∧ s.1 = (i : Int) ∧ eqH (sg i) s.2 = true) (h2 : (l.map (·.1)).Nodup) : checkI ps ws need size sg l = if need ≤ l.length then 0 else 8 := by
  have hg : okTo ws.length sg l l.length = true := okTo_good (fun s hs => by
    obtain ⟨i, hi, e, q⟩ := h1 s hs
    rw [e, Int.toNat_natCast]
    exact ⟨(inR_iff _ _ _).2 ⟨by omega, by omega⟩, q⟩) h2 _
  unfold checkI
  rw [hm, hs, hg]
  by_cases h : need ≤ l.length
  · rw [if_pos h]; simp [h]
  · rw [if_neg h]; simp [h]
theorem signH_eq (tg : Hs → Hs → Hs) (pf : Int → Hs → Hs) {ps ws : List Hs} {need size : Int} {root : Hs} {i : Nat} (hm : mayB ps ws need = true) (hs : inR size 0 400 = true) (hi : i < ws.length) : signH tg pf ps ws need (i : Int) size root = sgH tg pf ws size root i := by
  unfold signH
  rw [(mayS_iff _ _ _ _ _).2 ⟨hm, ⟨by omega, by omega⟩, (inR_iff _ _ _).1 hs⟩, if_pos rfl, Int.toNat_natCast]
section
variable {kf : Hs → List Int → Hs} {tg : Hs → Hs → Hs} {pf : Int → Hs → Hs}
theorem al_may : mayB [oneH 1, oneH 2] [oneH 3, oneH 4, oneH 5] 2 = true := by kernel_rfl
theorem al_holds : holdsB kf [oneH 1, oneH 2] [oneH 3, oneH 4, oneH 5] 2 { aX0 with tag := recpH kf [oneH 1, oneH 2] [oneH 3, oneH 4, oneH 5] 2 aX0 } = true := by
  unfold holdsB
  rw [show recpH kf [oneH 1, oneH 2] [oneH 3, oneH 4, oneH 5] 2 { aX0 with tag := recpH kf [oneH 1, oneH 2] [oneH 3, oneH 4, oneH 5] 2 aX0 } = recpH kf [oneH 1, oneH 2] [oneH 3, oneH 4, oneH 5] 2 aX0 from rfl, eqH_same, Bool.and_true]
  kernel_rfl
theorem al_not (hX : KeyH kf tg pf) : holdsB kf [oneH 1, oneH 2] [oneH 3, oneH 4, oneH 5] 2 { { aX0 with tag := recpH kf [oneH 1, oneH 2] [oneH 3, oneH 4, oneH 5] 2 aX0 } with good := false } = false := by
  unfold holdsB
  have e1 : recpH kf [oneH 1, oneH 2] [oneH 3, oneH 4, oneH 5] 2 { { aX0 with tag := recpH kf [oneH 1, oneH 2] [oneH 3, oneH 4, oneH 5] 2 aX0 } with good := false } = kf (kf (oneH 2) [1, 0]) [2, 0, 0, 0, 0] := by kernel_rfl
  have e2 : recpH kf [oneH 1, oneH 2] [oneH 3, oneH 4, oneH 5] 2 aX0 = kf (kf (oneH 2) [1, 0]) [2, 0, 0, 0, 1] := by kernel_rfl
  have h : eqH (kf (kf (oneH 2) [1, 0]) [2, 0, 0, 0, 0]) (kf (kf (oneH 2) [1, 0]) [2, 0, 0, 0, 1]) = false := by
    rw [← hX.key, ← hX.key, ← hX.key]; exact ne_good
  rw [e1]
  show (_ && eqH _ (recpH kf [oneH 1, oneH 2] [oneH 3, oneH 4, oneH 5] 2 aX0)) = false
  rw [e2, h, Bool.and_false]
theorem al_ne (hX : KeyH kf tg pf) : (!eqH (partH kf [oneH 1, oneH 2] [oneH 3, oneH 4, oneH 5] 2 0 1) (partH kf [oneH 1, oneH 2] [oneH 3, oneH 4, oneH 5] 2 0 2)) = true := by
  have e1 : partH kf [oneH 1, oneH 2] [oneH 3, oneH 4, oneH 5] 2 0 1 = kf (oneH 1) [1, 1] := by kernel_rfl
  have e2 : partH kf [oneH 1, oneH 2] [oneH 3, oneH 4, oneH 5] 2 0 2 = kf (oneH 1) [1, 2] := by kernel_rfl
  rw [e1, e2, ← hX.key, ← hX.key, ne_part]; rfl
theorem al_none : eqH (partH kf [oneH 1, oneH 2] [oneH 3, oneH 4, oneH 5] 2 2 0) z32 = true := by
  rw [show partH kf [oneH 1, oneH 2] [oneH 3, oneH 4, oneH 5] 2 2 0 = z32 from by kernel_rfl, eqH_same]
theorem al_chk1 (root : Hs) : checkI [oneH 1, oneH 2] [oneH 3, oneH 4, oneH 5] 2 3 (sgH tg pf [oneH 3, oneH 4, oneH 5] 3 root) [(1, signH tg pf [oneH 1, oneH 2] [oneH 3, oneH 4, oneH 5] 2 1 3 root)] = 8 := by
  rw [check_list al_may rfl (fun s hs => by
    simp only [List.mem_singleton] at hs
    subst hs
    exact ⟨1, by simp, rfl, by rw [show ((1 : Int)) = ((1 : Nat) : Int) from rfl, signH_eq tg pf al_may rfl (by simp), eqH_same]⟩) (by simp)]
  rfl
theorem al_chk2 (root : Hs) : checkI [oneH 1, oneH 2] [oneH 3, oneH 4, oneH 5] 2 3 (sgH tg pf [oneH 3, oneH 4, oneH 5] 3 root) [(1, signH tg pf [oneH 1, oneH 2] [oneH 3, oneH 4, oneH 5] 2 1 3 root), (0, signH tg pf [oneH 1, oneH 2] [oneH 3, oneH 4, oneH 5] 2 0 3 root)] = 0 := by
  rw [check_list al_may rfl (fun s hs => by
    simp only [List.mem_cons, List.not_mem_nil, or_false] at hs
    rcases hs with rfl | rfl
    · exact ⟨1, by simp, rfl, by rw [show ((1 : Int)) = ((1 : Nat) : Int) from rfl, signH_eq tg pf al_may rfl (by simp), eqH_same]⟩
    · exact ⟨0, by simp, rfl, by rw [show ((0 : Int)) = ((0 : Nat) : Int) from rfl, signH_eq tg pf al_may rfl (by simp), eqH_same]⟩) (by simp)]
  rfl
end
end Go.Proofs.YtcfogkimjbgjgaaDoor
/- The laws' question whether package keys answers as the document's example: alive. -/
namespace Go.Proofs.YtcfogkimjbgjgaaDoor
open Go Go.RowKit
set_option maxRecDepth 8000
set_option linter.all false
theorem RdSB.rds {B : Nat} {w : World} {v : Value} {l : List (Int × Hs)} (h : RdSB B w v l) : RdS w v l := h.1
theorem recV_nil (w : World) (x : Rc) (hs : x.steps = []) (hd : x.data = []) : RecV w (.agg (rowA 109 (recF x (.slice none 0 0) (.slice none 0 0)))) x := ⟨_, _, rfl, by rw [hs]; exact rdP_nil w, by rw [hd]; exact rd_nil w []⟩
set_option maxHeartbeats 4000000 in
theorem alive10_c (w : World) (hT : Tables w) : Cv 10 #[] w (.eq (.bool true)) := by
  obtain ⟨kf, tg, pf, hX⟩ := keyH_ex
  unfold Cv
  have HT := Lib.hid hT
  clear hT
  obtain ⟨ps, hps⟩ := hid_ex [oneH 1, oneH 2]
  obtain ⟨ws, hws⟩ := hid_ex [oneH 3, oneH 4, oneH 5]
  obtain ⟨need, hneed⟩ := hid_ex (2 : Int)
  obtain ⟨root, hroot⟩ := hid_ex (oneH 9)
  have HFEW : Hid (∀ w, Cv 25 #[] w (svKeys ps ws need)) := Lib.hid (by rw [← hps.out, ← hws.out, ← hneed.out]; exact Few_cv)
  have HR9 : Hid (∀ w, (Instr.build 26 #[(0, .int .u8 9)]).run Tryd.prog w = .ok (.agg (rowA 32 (bF root))) w) := Lib.hid (by rw [← hroot.out]; exact run_bld_one 9)
  obtain ⟨t1, HT1⟩ := hid_ex (signH tg pf ps ws need 1 3 root)
  obtain ⟨t0, HT0⟩ := hid_ex (signH tg pf ps ws need 0 3 root)
  obtain ⟨tr, HTR⟩ := hid_ex (recpH kf ps ws need aX0)
  have HC1 : Hid (checkI ps ws need 3 (sgH tg pf ws 3 root) [(1, t1)] = 8) := Lib.hid (by rw [← HT1.out, ← hps.out, ← hws.out, ← hneed.out]; exact al_chk1 root)
  have HC2 : Hid (checkI ps ws need 3 (sgH tg pf ws 3 root) [(1, t1), (0, t0)] = 0) := Lib.hid (by rw [← HT1.out, ← HT0.out, ← hps.out, ← hws.out, ← hneed.out]; exact al_chk2 root)
  have HMAY : Hid (mayB ps ws need = true) := Lib.hid (by rw [← hps.out, ← hws.out, ← hneed.out]; exact al_may)
  have HH1 : Hid (holdsB kf ps ws need ({ aX0 with tag := tr }) = true) := Lib.hid (by rw [← HTR.out, ← hps.out, ← hws.out, ← hneed.out]; exact al_holds)
  have HH2 : Hid (holdsB kf ps ws need ({ ({ aX0 with tag := tr }) with good := false }) = false) := Lib.hid (by rw [← HTR.out, ← hps.out, ← hws.out, ← hneed.out]; exact al_not hX)
  have HNE : Hid ((!eqH (partH kf ps ws need 0 1) (partH kf ps ws need 0 2)) = true) := Lib.hid (by rw [← hps.out, ← hws.out, ← hneed.out]; exact al_ne hX)
  have HNO : Hid (eqH (partH kf ps ws need 2 0) z32 = true) := Lib.hid (by rw [← hps.out, ← hws.out, ← hneed.out]; exact al_none)
  obtain ⟨x0, hx0⟩ := hid_ex aX0
  obtain ⟨x1, hx1⟩ := hid_ex ({ aX0 with tag := tr })
  obtain ⟨y1, hy1⟩ := hid_ex ({ ({ aX0 with tag := tr }) with good := false })
  have HBX : Hid (∀ w, (Instr.build 30 #[(0, .int .i64 3), (2, .int .i64 2), (4, .int .i64 1), (6, .bool true), (8, .int .i64 1)]).run Tryd.prog w = .ok (.agg (rowA 109 (recF x0 (.slice none 0 0) (.slice none 0 0)))) w) := Lib.hid (by rw [← hx0.out]; exact build_aX)
  have HE0 : Hid (x0.steps = [] ∧ x0.data = []) := Lib.hid (by rw [← hx0.out]; exact ⟨rfl, rfl⟩)
  have HE1 : Hid (x1.steps = [] ∧ x1.data = []) := Lib.hid (by rw [← hx1.out]; exact ⟨rfl, rfl⟩)
  have HE2 : Hid (y1.steps = [] ∧ y1.data = []) := Lib.hid (by rw [← hy1.out]; exact ⟨rfl, rfl⟩)
  have HSX : Hid (∀ i, i < 109 → recF x1 (.slice none 0 0) (.slice none 0 0) i = if 10 ≤ i ∧ i < 10 + 32 then bF tr (i - 10) else recF x0 (.slice none 0 0) (.slice none 0 0) i) := Lib.hid (by rw [← hx1.out, ← hx0.out]; exact fun i hi => rs_tag aX0 (.slice none 0 0) (.slice none 0 0) i tr hi)
  have HSY : Hid (∀ i, i < 109 → recF y1 (.slice none 0 0) (.slice none 0 0) i = if i = 6 then .bool false else recF x1 (.slice none 0 0) (.slice none 0 0) i) := Lib.hid (by rw [← hy1.out, ← hx1.out]; exact fun i _ => rs_good _ (.slice none 0 0) (.slice none 0 0) i false)
  replace HTR : Hid (recpH kf ps ws need x0 = tr) := Lib.hid (by rw [← hx0.out]; exact HTR.out)
  replace HH1 : Hid (holdsB kf ps ws need x1 = true) := Lib.hid (by rw [← hx1.out]; exact HH1.out)
  replace HH2 : Hid (holdsB kf ps ws need y1 = false) := Lib.hid (by rw [← hy1.out]; exact HH2.out)
  clear hps hws hneed hroot hx0 hx1 hy1
  go_enter Tryd.func10, Tryd.ntmps10
  go_upto_region 1 with fail
  refine wp_region_steps0 NewT [svKeys ps ws need] [([], none)] 72 1 rfl rfl (by kernel_rfl) NewT.trans (NewT.refl _) (Nat.le_of_ble_eq_true rfl) ⟨?_, trivial⟩ ?_
  · exact fun a wx hT hF K hK => rely_wp rfl (opr_cv (HFEW.out wx) rfl Tryd.func25 (by kernel_rfl) (by kernel_rfl) evs0 hK)
  · intro w1 k1
    intro u7 h; have g7 := h (by simp); clear h; replace g7 := show (svKeys ps ws need).pred u7 w1 from g7
    refine relyEnd_nil rfl ?_
    simp only [Act.put, List.setIfInBounds_toArray, List.set_cons_zero, List.set_cons_succ]
    obtain ⟨pv, wv, rfl, hpv, hwv⟩ := g7
    refine wpList_new (n := 3) (f := keyF pv wv need) rfl rfl rfl rfl rfl rfl (by first | (simp; done) | simp [Act.put]) run_alloc_ky info_ky (keyF_one hpv hwv) rfl ?_
    intro w2 hn2 r1
    refine wpList_end rfl ?_
    simp only [Act.put, List.setIfInBounds_toArray, List.set_cons_zero, List.set_cons_succ]
    go_simp
    obtain ⟨g1, hg1⟩ : ∃ g1, w1.heap.size = g1 := ⟨_, rfl⟩
    rw [hg1] at r1 ⊢
    have HNW := Lib.hid (NewT.trans _ _ _ k1 hn2)
    have HWG : Hid (w.heap.size ≤ w2.heap.size) := Lib.hid HNW.out.out.size
    have HK : Hid (KeysV w2 (.agg (rowA 3 (keyF pv wv need))) ps ws need) := Lib.hid ⟨pv, wv, rfl, hn2.hs hpv, hn2.hs hwv⟩
    have HP := Lib.hid (hn2.hs hpv)
    have HW := Lib.hid (hn2.hs hwv)
    have HG1 : Hid (g1 < w2.heap.size) := Lib.hid r1.lt
    have RK := Lib.hid r1
    replace HT := Lib.hid (HNW.out.tables HT.out)
    have HM : Hid (NewT w2 w2) := Lib.hid (NewT.refl _)
    clear k1 hn2 hpv hwv r1 hg1
    go_upto_region 2 with fail
    refine wp_region_steps0 NewT [SV.eq (.agg (rowA 32 (bF (root)))), SV.eq ((.agg (rowA 34 (ptF 3 root (.slice none 0 0)))))] [([], none), ([(8, some 0)], none)] 72 2 rfl rfl (by kernel_rfl) NewT.trans (NewT.refl _) (Nat.le_of_ble_eq_true rfl) ⟨?_, ?_, trivial⟩ ?_
    · intro a wx hT hF K hK
      refine rely_wp rfl ?_
      exact opr_build (pv := #[(0, .int .u8 9)]) rfl (by simp only [List.map_toArray, List.map_cons, List.map_nil, eval_const]) (HR9.out wx) (hK _ _ (NewT.refl _) rfl)
    · exact fun a wx hT hF K hK => rely_wp rfl (opr_bldZ rfl rfl hF.1 (hK _ _ (NewT.refl _) rfl))
    · intro w2a k2
      iterate 2 (intro u h; obtain rfl := Eq.symm (h (by simp)); clear h)
      refine relyEnd_nil rfl ?_
      simp only [Act.put, List.setIfInBounds_toArray, List.set_cons_zero, List.set_cons_succ]
      refine wpList_new (n := 34) (f := ptF 3 root (.slice none 0 0)) rfl rfl rfl rfl rfl rfl (by first | (simp; done) | simp [Act.put]) run_alloc_pt info_pt (ptF_one (l := []) (rdS_nil w2a)) rfl ?_
      intro w3 hn3 rp
      refine wpList_end rfl ?_
      simp only [Act.put, List.setIfInBounds_toArray, List.set_cons_zero, List.set_cons_succ]
      go_simp
      have k3 := NewT.trans _ _ _ k2 hn3
      obtain ⟨g2, hg2⟩ : ∃ g2, w2a.heap.size = g2 := ⟨_, rfl⟩
      rw [hg2] at rp ⊢
      have HG2 : Hid (w2.heap.size ≤ g2) := Lib.hid (by rw [← hg2]; exact k2.out.size)
      have RP := Lib.hid rp
      replace RK := Lib.hid (k3.row RK.out)
      replace HM := Lib.hid (NewT.trans _ _ _ HM.out k3)
      clear k2 k3 hn3 rp hg2
      go_upto_region 3 with fail
      refine wp_region_steps0 NewT [SV.eq (.agg (rowA 3 (keyF pv wv need))), SV.eq (.agg (rowA 34 (ptF 3 root (.slice none 0 0)))), SV.eq (.agg (rowA 32 (bF (t1)))), SV.eq ((.agg (rowA 33 (sigF (1, t1))))), svGB (g2 + 1) [(1, t1)], SV.eq (.pointer (some ⟨g2, 33, none⟩))] [([(1, none)], none), ([(2, none)], none), ([(10, some 0), (11, some 1)], none), ([(12, some 2)], none), ([(13, some 3)], none), ([(2, none)], none)] 72 6 rfl rfl (by kernel_rfl) NewT.trans (NewT.refl _) (Nat.le_of_ble_eq_true rfl) ⟨?_, ?_, ?_, ?_, ?_, ?_, trivial⟩ ?_
      · exact fun a wx hT hF K hK => rely_wp rfl (opr_ldY (hT.row RK.out) rfl hF.1 (hK _ _ (NewT.refl _) rfl))
      · exact fun a wx hT hF K hK => rely_wp rfl (opr_ldZ (hT.row RP.out) rfl hF.1 (hK _ _ (NewT.refl _) rfl))
      · exact fun a wx hT hF K hK => rely_wp rfl (opr_cv (HT1.out ▸ Sign_cv hX _ _ ps ws need 1 3 root [] wx ((NewT.trans _ _ _ HM.out hT).tables HT.out) ((NewT.trans _ _ _ HM.out hT).keysV HK.out) (⟨(.slice none 0 0), rfl, rdS_nil wx⟩ : PointV wx (.agg (rowA 34 (ptF 3 root (.slice none 0 0)))) 3 root [])) rfl Tryd.func20 (by kernel_rfl) (by kernel_rfl) (evs3 hF.1 rfl hF.2.1) hK)
      · exact fun a wx hT hF K hK => rely_wp rfl (opr_bldX rfl rfl hF.1 (hK _ _ (NewT.refl _) rfl))
      · exact fun a wx hT hF K hK => rely_wp rfl (opr_bsG1F (B := g2 + 1) (Nat.lt_of_lt_of_le RP.out.lt hT.out.size) rfl hF.1 hK)
      · exact fun a wx hT hF K hK => rely_wp rfl (opr_fldZ2 rfl hF.1 (hK _ _ (NewT.refl _) rfl))
      · intro w4 k4
        iterate 4 (intro u h; obtain rfl := Eq.symm (h (by simp)); clear h)
        intro u14 h; have g14 := h (by simp); clear h; replace g14 := show (svGB (g2 + 1) [(1, t1)]).pred u14 w4 from g14
        intro u h; obtain rfl := Eq.symm (h (by simp)); clear h
        refine relyEnd_nil rfl ?_
        simp only [Act.put, List.setIfInBounds_toArray, List.set_cons_zero, List.set_cons_succ]
        obtain ⟨⟨A14, hv14⟩, hx14⟩ := g14
        subst hv14
        refine wpList_plain rfl (fun K hK => ?_)
        refine opr_put1 (g := g2) (o0 := 33) (F := ptF 3 root (.slice A14 1 1)) rfl rfl rfl (k4.row RP.out) (by decide) info_ssl1 rfl (fun i hi => ptF_sigs _ _ _ _ i hi) ?_
        intro w5 hR5 rp5
        refine hK _ _ ?_
        refine wpList_end rfl ?_
        simp only [Act.put, List.setIfInBounds_toArray, List.set_cons_zero, List.set_cons_succ]
        go_simp
        have HG := Lib.hid (hx14.rt (Nat.lt_succ_self _) hR5)
        have HPT : Hid (PointV w5 (.agg (rowA 34 (ptF 3 root (.slice A14 1 1)))) 3 root [(1, t1)]) := Lib.hid ⟨_, rfl, HG.out.1⟩
        replace RP := Lib.hid rp5
        replace RK := Lib.hid (hR5.row (by have := HG1.out; have := HG2.out; omega) (k4.row RK.out))
        replace HM := Lib.hid (NewT.rt (NewT.trans _ _ _ HM.out k4) hR5 (by have := HG2.out; omega))
        clear k4 hR5 rp5 hx14
        go_upto_region 4 with fail
        refine wp_region_steps0 NewT [SV.eq (.agg (rowA 3 (keyF pv wv need))), SV.eq (.agg (rowA 34 (ptF 3 root (.slice A14 1 1)))), SV.eq (.int .i64 (8)), SV.eq (.int .i64 (8))] [([(1, none)], none), ([(2, none)], none), ([(16, some 0), (17, some 1)], none), ([(18, some 2)], none)] 72 4 rfl rfl (by kernel_rfl) NewT.trans (NewT.refl _) (Nat.le_of_ble_eq_true rfl) ⟨?_, ?_, ?_, ?_, trivial⟩ ?_
        · exact fun a wx hT hF K hK => rely_wp rfl (opr_ldY (hT.row RK.out) rfl hF.1 (hK _ _ (NewT.refl _) rfl))
        · exact fun a wx hT hF K hK => rely_wp rfl (opr_ldZ (hT.row RP.out) rfl hF.1 (hK _ _ (NewT.refl _) rfl))
        · exact fun a wx hT hF K hK => rely_wp rfl (opr_cv (HC1.out ▸ Check_cv hX _ _ ps ws need 3 root [(1, t1)] wx ((NewT.trans _ _ _ HM.out hT).tables HT.out) ((NewT.trans _ _ _ HM.out hT).keysV HK.out) (hT.pointV HPT.out)) rfl Tryd.func22 (by kernel_rfl) (by kernel_rfl) (evs2 hF.1 hF.2.1) hK)
        · exact fun a wx hT hF K hK => rely_wp rfl (opr_move (.inr rfl) (hK _ _ (NewT.refl _) hF.1))
        · intro w6 k6
          iterate 4 (intro u h; obtain rfl := Eq.symm (h (by simp)); clear h)
          refine relyEnd_nil rfl ?_
          refine wpList_end rfl ?_
          simp only [Act.put, List.setIfInBounds_toArray, List.set_cons_zero, List.set_cons_succ]
          go_simp
          replace HG := Lib.hid (HG.out.new k6)
          replace HPT := Lib.hid (k6.pointV HPT.out)
          replace RK := Lib.hid (k6.row RK.out)
          replace RP := Lib.hid (k6.row RP.out)
          replace HM := Lib.hid (NewT.trans _ _ _ HM.out k6)
          clear k6
          go_upto_region 5 with fail
          refine wp_region_rely (NewT) [SV.eq (.pointer (some ⟨g2, 33, none⟩)), SV.eq ((.slice A14 1 1)), SV.eq (.agg (rowA 3 (keyF pv wv need))), SV.eq (.agg (rowA 34 (ptF 3 root (.slice A14 1 1)))), SV.eq (.agg (rowA 32 (bF (t0)))), SV.eq ((.agg (rowA 33 (sigF (0, t0))))), svGB (g2 + 1) [(0, t0)], svGN (g2 + 1) ([(1, t1)] ++ [(0, t0)]), SV.eq (.pointer (some ⟨g2, 33, none⟩))] [([(2, none)], none), ([(19, some 0)], none), ([(1, none)], none), ([(2, none)], none), ([(21, some 2), (22, some 3)], none), ([(23, some 4)], none), ([(24, some 5)], none), ([(20, some 1), (25, some 6)], none), ([(2, none)], none)] 72 rfl (by kernel_rfl) rfl (by kernel_rfl) (by kernel_rfl) rfl NewT.trans (NewT.drew _) (Nat.le_of_ble_eq_true rfl) ⟨?_, ?_, ?_, ?_, ?_, ?_, ?_, ?_, ?_, trivial⟩ ?_
          · exact fun a wx hT hF K hK => rely_wp rfl (opr_fldZ2 rfl hF.1 (hK _ _ (NewT.refl _) rfl))
          · exact fun a wx hT hF K hK => rely_wp rfl (opr_ldGs (hT.row RP.out) (by decide) rfl rfl hF.1 (hK _ _ (NewT.refl _) rfl))
          · exact fun a wx hT hF K hK => rely_wp rfl (opr_ldY (hT.row RK.out) rfl hF.1 (hK _ _ (NewT.refl _) rfl))
          · exact fun a wx hT hF K hK => rely_wp rfl (opr_ldZ (hT.row RP.out) rfl hF.1 (hK _ _ (NewT.refl _) rfl))
          · exact fun a wx hT hF K hK => rely_wp rfl (opr_cv (HT0.out ▸ Sign_cv hX _ _ ps ws need 0 3 root [(1, t1)] wx ((NewT.trans _ _ _ HM.out hT).tables HT.out) ((NewT.trans _ _ _ HM.out hT).keysV HK.out) (hT.pointV HPT.out)) rfl Tryd.func20 (by kernel_rfl) (by kernel_rfl) (evs3 hF.1 rfl hF.2.1) hK)
          · exact fun a wx hT hF K hK => rely_wp rfl (opr_bldX rfl rfl hF.1 (hK _ _ (NewT.refl _) rfl))
          · exact fun a wx hT hF K hK => rely_wp rfl (opr_bsG1F (B := g2 + 1) (Nat.lt_of_lt_of_le RP.out.lt hT.out.size) rfl hF.1 hK)
          · intro a wx hT hF K hK
            obtain ⟨f20, f25, _⟩ := hF
            have f20 : a.tmps.getD 20 undef = (.slice A14 1 1) := f20
            replace f25 := show (svGB (g2 + 1) [(0, t0)]).pred (a.tmps.getD 25 undef) wx from f25
            refine rely_wp rfl ?_
            exact opr_appGF (B := g2 + 1) (Nat.lt_of_lt_of_le RP.out.lt hT.out.size) (by simp) (by simp) rfl (by rw [eval_tmp, f20]; exact ⟨⟨_, rfl⟩, hT.sigs HG.out.1⟩) f25.2.1 hK
          · exact fun a wx hT hF K hK => rely_wp rfl (opr_fldZ2 rfl hF.1 (hK _ _ (NewT.refl _) rfl))
          · intro w7 k7
            iterate 6 (intro u h; obtain rfl := Eq.symm (h (by simp)); clear h)
            intro _ _
            intro u26 h; have g26 := h (by simp); clear h; replace g26 := show (svGN (g2 + 1) ([(1, t1)] ++ [(0, t0)])).pred u26 w7 from g26
            intro u h; obtain rfl := Eq.symm (h (by simp)); clear h
            refine relyEnd_nil rfl ?_
            simp only [Act.put, List.setIfInBounds_toArray, List.set_cons_zero, List.set_cons_succ]
            obtain ⟨A26, c26, hv26⟩ := rdS_form (RdSB.rds g26)
            subst hv26
            refine opr_put1 (g := g2) (o0 := 33) (F := ptF 3 root (.slice A26 (List.length ([((1 : Int), t1)] ++ [((0 : Int), t0)])) c26)) rfl rfl rfl (k7.row RP.out) (by decide) info_ssl1 rfl (fun i hi => ptF_sigs _ _ _ _ i hi) ?_
            intro w8 hR8 rp8
            go_simp
            replace HG := Lib.hid (RdSB.rt g26 (Nat.lt_succ_self _) hR8)
            replace HPT : Hid (PointV w8 (.agg (rowA 34 (ptF 3 root (.slice A26 2 c26)))) 3 root [(1, t1), (0, t0)]) := Lib.hid ⟨_, rfl, HG.out.1⟩
            replace RP : Hid (w8.rowIs g2 40 34 (ptF 3 root (.slice A26 2 c26))) := Lib.hid rp8
            replace RK := Lib.hid (hR8.row (by have := HG1.out; have := HG2.out; omega) (k7.row RK.out))
            replace HM := Lib.hid (NewT.rt (NewT.trans _ _ _ HM.out k7) hR8 (by have := HG2.out; omega))
            clear k7 hR8 rp8 g26
            go_upto_region 6 with fail
            refine wp_region_steps0 NewT [SV.eq (.agg (rowA 3 (keyF pv wv need))), SV.eq (.agg (rowA 34 (ptF 3 root (.slice A26 2 c26)))), SV.eq (.int .i64 (0)), SV.eq (.int .i64 (0))] [([(1, none)], none), ([(2, none)], none), ([(28, some 0), (29, some 1)], none), ([(30, some 2)], none)] 72 4 rfl rfl (by kernel_rfl) NewT.trans (NewT.refl _) (Nat.le_of_ble_eq_true rfl) ⟨?_, ?_, ?_, ?_, trivial⟩ ?_
            · exact fun a wx hT hF K hK => rely_wp rfl (opr_ldY (hT.row RK.out) rfl hF.1 (hK _ _ (NewT.refl _) rfl))
            · exact fun a wx hT hF K hK => rely_wp rfl (opr_ldZ (hT.row RP.out) rfl hF.1 (hK _ _ (NewT.refl _) rfl))
            · exact fun a wx hT hF K hK => rely_wp rfl (opr_cv (HC2.out ▸ Check_cv hX _ _ ps ws need 3 root [(1, t1), (0, t0)] wx ((NewT.trans _ _ _ HM.out hT).tables HT.out) ((NewT.trans _ _ _ HM.out hT).keysV HK.out) (hT.pointV HPT.out)) rfl Tryd.func22 (by kernel_rfl) (by kernel_rfl) (evs2 hF.1 hF.2.1) hK)
            · exact fun a wx hT hF K hK => rely_wp rfl (opr_move (.inr rfl) (hK _ _ (NewT.refl _) hF.1))
            · intro w9 k9
              iterate 4 (intro u h; obtain rfl := Eq.symm (h (by simp)); clear h)
              refine relyEnd_nil rfl ?_
              refine wpList_end rfl ?_
              simp only [Act.put, List.setIfInBounds_toArray, List.set_cons_zero, List.set_cons_succ]
              go_simp
              replace RK := Lib.hid (k9.row RK.out)
              replace HM := Lib.hid (NewT.trans _ _ _ HM.out k9)
              clear k9 HG HPT RP
              go_upto_region 7 with fail
              refine wp_region_steps0 NewT [SV.eq ((.agg (rowA 109 (recF x0 (.slice none 0 0) (.slice none 0 0)))))] [([], none)] 72 1 rfl rfl (by kernel_rfl) NewT.trans (NewT.refl _) (Nat.le_of_ble_eq_true rfl) ⟨?_, trivial⟩ ?_
              · intro a wx hT hF K hK
                refine rely_wp rfl ?_
                exact opr_build (pv := #[(0, .int .i64 3), (2, .int .i64 2), (4, .int .i64 1), (6, .bool true), (8, .int .i64 1)]) rfl (by simp only [List.map_toArray, List.map_cons, List.map_nil, eval_const]) (HBX.out wx) (hK _ _ (NewT.refl _) rfl)
              · intro wa ka
                intro u h; obtain rfl := Eq.symm (h (by simp)); clear h
                refine relyEnd_nil rfl ?_
                simp only [Act.put, List.setIfInBounds_toArray, List.set_cons_zero, List.set_cons_succ]
                refine wpList_new (n := 109) (f := recF x0 (.slice none 0 0) (.slice none 0 0)) rfl rfl rfl rfl rfl rfl (by first | (simp; done) | simp [Act.put]) run_alloc_rec info_rec (recF_one _ _ _ rfl rfl) rfl ?_
                intro wb hnb r5
                refine wpList_end rfl ?_
                simp only [Act.put, List.setIfInBounds_toArray, List.set_cons_zero, List.set_cons_succ]
                go_simp
                have kb := NewT.trans _ _ _ ka hnb
                obtain ⟨g5, hg5⟩ : ∃ g5, wa.heap.size = g5 := ⟨_, rfl⟩
                rw [hg5] at r5 ⊢
                have HG5 : Hid (w2.heap.size ≤ g5) := Lib.hid (by rw [← hg5]; exact (NewT.trans _ _ _ HM.out ka).out.size)
                have RX := Lib.hid r5
                replace RK := Lib.hid (kb.row RK.out)
                replace HM := Lib.hid (NewT.trans _ _ _ HM.out kb)
                clear ka kb hnb r5 hg5
                go_upto_region 8 with fail
                refine wp_region_steps0 NewT [SV.eq (.agg (rowA 3 (keyF pv wv need))), SV.eq (.agg (rowA 109 (recF x0 (.slice none 0 0) (.slice none 0 0)))), SV.eq (.agg (rowA 32 (bF (tr)))), SV.eq (.pointer (some ⟨g5, 10, none⟩))] [([(1, none)], none), ([(5, none)], none), ([(32, some 0), (33, some 1)], none), ([(5, none)], none)] 72 4 rfl rfl (by kernel_rfl) NewT.trans (NewT.refl _) (Nat.le_of_ble_eq_true rfl) ⟨?_, ?_, ?_, ?_, trivial⟩ ?_
                · exact fun a wx hT hF K hK => rely_wp rfl (opr_ldY (hT.row RK.out) rfl hF.1 (hK _ _ (NewT.refl _) rfl))
                · exact fun a wx hT hF K hK => rely_wp rfl (opr_ldR (hT.row RX.out) rfl hF.1 (hK _ _ (NewT.refl _) rfl))
                · exact fun a wx hT hF K hK => rely_wp rfl (opr_cv (HTR.out ▸ Receipt_cv hX _ _ ps ws need x0 wx ((NewT.trans _ _ _ HM.out hT).tables HT.out) ((NewT.trans _ _ _ HM.out hT).keysV HK.out) (recV_nil wx x0 HE0.out.1 HE0.out.2)) rfl Tryd.func16 (by kernel_rfl) (by kernel_rfl) (evs2 hF.1 hF.2.1) hK)
                · exact fun a wx hT hF K hK => rely_wp rfl (opr_fldR (by decide) rfl hF.1 (hK _ _ (NewT.refl _) rfl))
                · intro wc kc
                  iterate 4 (intro u h; obtain rfl := Eq.symm (h (by simp)); clear h)
                  refine relyEnd_nil rfl ?_
                  simp only [Act.put, List.setIfInBounds_toArray, List.set_cons_zero, List.set_cons_succ]
                  refine wpList_plain rfl (fun K hK => ?_)
                  refine opr_putm (g := g5) (o0 := 10) (m := 32) (f := bF tr) (F := recF x1 (.slice none 0 0) (.slice none 0 0)) rfl rfl rfl (kc.row RX.out) (by decide) info31 (fun _ => rfl) HSX.out ?_
                  intro wd hRd rxd
                  refine hK _ _ ?_
                  refine wpList_end rfl ?_
                  simp only [Act.put, List.setIfInBounds_toArray, List.set_cons_zero, List.set_cons_succ]
                  go_simp
                  replace RX := Lib.hid rxd
                  replace RK := Lib.hid (hRd.row (by have := HG1.out; have := HG5.out; omega) (kc.row RK.out))
                  replace HM := Lib.hid (NewT.rt (NewT.trans _ _ _ HM.out kc) hRd (by have := HG5.out; omega))
                  clear kc hRd rxd
                  go_upto_region 9 with fail
                  refine wp_region_steps0 NewT [SV.eq (.agg (rowA 109 (recF x1 (.slice none 0 0) (.slice none 0 0))))] [([(5, none)], none)] 72 1 rfl rfl (by kernel_rfl) NewT.trans (NewT.refl _) (Nat.le_of_ble_eq_true rfl) ⟨?_, trivial⟩ ?_
                  · exact fun a wx hT hF K hK => rely_wp rfl (opr_ldR (hT.row RX.out) rfl hF.1 (hK _ _ (NewT.refl _) rfl))
                  · intro we ke
                    intro u h; obtain rfl := Eq.symm (h (by simp)); clear h
                    refine relyEnd_nil rfl ?_
                    simp only [Act.put, List.setIfInBounds_toArray, List.set_cons_zero, List.set_cons_succ]
                    refine wpList_new (n := 109) (f := recF x1 (.slice none 0 0) (.slice none 0 0)) rfl rfl rfl rfl rfl rfl (by first | (simp; done) | simp [Act.put]) run_alloc_rec info_rec (recF_one _ _ _ rfl rfl) rfl ?_
                    intro wf hnf r6
                    refine wpList_end rfl ?_
                    simp only [Act.put, List.setIfInBounds_toArray, List.set_cons_zero, List.set_cons_succ]
                    go_simp
                    have kf' := NewT.trans _ _ _ ke hnf
                    obtain ⟨g6, hg6⟩ : ∃ g6, we.heap.size = g6 := ⟨_, rfl⟩
                    rw [hg6] at r6 ⊢
                    have HG6 : Hid (w2.heap.size ≤ g6) := Lib.hid (by rw [← hg6]; exact (NewT.trans _ _ _ HM.out ke).out.size)
                    have HG56 : Hid (g5 < g6) := Lib.hid (by rw [← hg6]; exact (ke.row RX.out).lt)
                    have RY := Lib.hid r6
                    replace RK := Lib.hid (kf'.row RK.out)
                    replace RX := Lib.hid (kf'.row RX.out)
                    replace HM := Lib.hid (NewT.trans _ _ _ HM.out kf')
                    clear ke kf' hnf r6 hg6
                    go_upto_region 10 with fail
                    refine wp_region_steps0 NewT [SV.eq (.pointer (some ⟨g6, 6, none⟩))] [([(6, none)], none)] 72 1 rfl rfl (by kernel_rfl) NewT.trans (NewT.refl _) (Nat.le_of_ble_eq_true rfl) ⟨?_, trivial⟩ ?_
                    · exact fun a wx hT hF K hK => rely_wp rfl (opr_fldR (by decide) rfl hF.1 (hK _ _ (NewT.refl _) rfl))
                    · intro wg kg
                      intro u h; obtain rfl := Eq.symm (h (by simp)); clear h
                      refine relyEnd_nil rfl ?_
                      simp only [Act.put, List.setIfInBounds_toArray, List.set_cons_zero, List.set_cons_succ]
                      refine wpList_plain rfl (fun K hK => ?_)
                      refine opr_put1 (g := g6) (o0 := 6) (v := .bool false) (F := recF y1 (.slice none 0 0) (.slice none 0 0)) rfl rfl rfl (kg.row RY.out) (by decide) info_b1 rfl HSY.out ?_
                      intro wh hRh ryh
                      refine hK _ _ ?_
                      refine wpList_end rfl ?_
                      simp only [Act.put, List.setIfInBounds_toArray, List.set_cons_zero, List.set_cons_succ]
                      go_simp
                      replace RY := Lib.hid ryh
                      replace RK := Lib.hid (hRh.row (by have := HG1.out; have := HG6.out; omega) (kg.row RK.out))
                      replace RX := Lib.hid (hRh.row (by have := HG56.out; omega) (kg.row RX.out))
                      replace HM := Lib.hid (NewT.rt (NewT.trans _ _ _ HM.out kg) hRh (by have := HG6.out; omega))
                      clear kg hRh ryh
                      go_upto_region 11 with fail
                      refine wp_region_rely (NewT) [SV.eq (.int .i64 (8)), SV.eq (.bool true), SV.eq (.bool true), SV.eq (.int .i64 (0)), SV.eq (.bool true), SV.eq (.bool true), SV.eq (.bool true), SV.eq (.agg (rowA 3 (keyF pv wv need))), SV.eq (.bool true), SV.eq (.bool true), SV.eq (.bool true), SV.eq (.agg (rowA 3 (keyF pv wv need))), SV.eq (.agg (rowA 109 (recF x1 (.slice none 0 0) (.slice none 0 0)))), SV.eq (.bool true), SV.eq (.bool true), SV.eq (.bool true), SV.eq (.agg (rowA 3 (keyF pv wv need))), SV.eq (.agg (rowA 109 (recF y1 (.slice none 0 0) (.slice none 0 0)))), SV.eq (.bool false), SV.eq (.bool true), SV.eq (.bool true), SV.eq (.bool true), SV.eq (.agg (rowA 3 (keyF pv wv need))), SV.eq (.agg (rowA 32 (bF (partH kf ps ws need 0 1)))), SV.eq (.agg (rowA 3 (keyF pv wv need))), SV.eq (.agg (rowA 32 (bF (partH kf ps ws need 0 2)))), SV.eq (.bool true), SV.eq (.bool true), SV.eq (.bool true), SV.eq (.agg (rowA 3 (keyF pv wv need))), SV.eq (.agg (rowA 32 (bF (partH kf ps ws need 2 0)))), SV.eq (.agg (rowA 32 (bF (z32)))), SV.eq (.bool true), SV.eq (.bool true)] [([(3, none)], none), ([(38, some 0)], none), ([(39, some 1)], none), ([(4, none), (40, some 2)], some (40, true)), ([(41, some 3), (40, some 2)], some (40, true)), ([(40, some 2), (42, some 4)], none), ([(43, some 5)], none), ([(1, none), (44, some 6)], some (44, true)), ([(45, some 7), (44, some 6)], some (44, true)), ([(44, some 6), (46, some 8)], none), ([(47, some 9)], none), ([(1, none), (48, some 10)], some (48, true)), ([(5, none), (48, some 10)], some (48, true)), ([(49, some 11), (50, some 12), (48, some 10)], some (48, true)), ([(48, some 10), (51, some 13)], none), ([(52, some 14)], none), ([(1, none), (53, some 15)], some (53, true)), ([(6, none), (53, some 15)], some (53, true)), ([(54, some 16), (55, some 17), (53, some 15)], some (53, true)), ([(56, some 18), (53, some 15)], some (53, true)), ([(53, some 15), (57, some 19)], none), ([(58, some 20)], none), ([(1, none), (59, some 21)], some (59, true)), ([(60, some 22), (59, some 21)], some (59, true)), ([(1, none), (59, some 21)], some (59, true)), ([(62, some 24), (59, some 21)], some (59, true)), ([(61, some 23), (63, some 25), (59, some 21)], some (59, true)), ([(59, some 21), (64, some 26)], none), ([(65, some 27)], none), ([(1, none), (66, some 28)], some (66, true)), ([(67, some 29), (66, some 28)], some (66, true)), ([(66, some 28)], some (66, true)), ([(68, some 30), (69, some 31), (66, some 28)], some (66, true)), ([(66, some 28), (70, some 32)], none)] 72 rfl (by kernel_rfl) rfl (by kernel_rfl) (by kernel_rfl) rfl NewT.trans (NewT.drew _) (Nat.le_of_ble_eq_true rfl) ⟨?_, ?_, ?_, ?_, ?_, ?_, ?_, ?_, ?_, ?_, ?_, ?_, ?_, ?_, ?_, ?_, ?_, ?_, ?_, ?_, ?_, ?_, ?_, ?_, ?_, ?_, ?_, ?_, ?_, ?_, ?_, ?_, ?_, ?_, trivial⟩ ?_
                      · exact fun a wx hT hF K hK => rely_wp rfl (opr_move (.inl rfl) (hK _ _ (NewT.refl _) hF.1))
                      · exact fun a wx hT hF K hK => rely_wp rfl (opr_cmp (b := true) (.inl ⟨rfl, (by decide)⟩) Tryd.underlying42 rfl hF.1 rfl (hK _ _ (NewT.refl _) rfl))
                      · exact fun a wx hT hF K hK => rely_wp rfl (opr_move (.inl rfl) (hK _ _ (NewT.refl _) hF.1))
                      · exact fun a wx hT hF K hK => rely_wp (rely_guard hF.2.1) (opr_move (.inl rfl) (hK _ _ (NewT.refl _) hF.1))
                      · exact fun a wx hT hF K hK => rely_wp (rely_guard hF.2.1) (opr_cmp (b := true) (.inl ⟨rfl, (by decide)⟩) Tryd.underlying42 rfl hF.1 rfl (hK _ _ (NewT.refl _) rfl))
                      · exact fun a wx hT hF K hK => rely_wp rfl (opr_pick_true rfl hF.1 (hK _ _ (NewT.refl _) hF.2.1))
                      · exact fun a wx hT hF K hK => rely_wp rfl (opr_move (.inl rfl) (hK _ _ (NewT.refl _) hF.1))
                      · exact fun a wx hT hF K hK => rely_wp (rely_guard hF.2.1) (opr_ldY (hT.row RK.out) rfl hF.1 (hK _ _ (NewT.refl _) rfl))
                      · exact fun a wx hT hF K hK => rely_wp (rely_guard hF.2.1) (opr_cv (HMAY.out ▸ May_cv _ ps ws need wx ((NewT.trans _ _ _ HM.out hT).keysV HK.out)) rfl Tryd.func12 (by kernel_rfl) (by kernel_rfl) (evs1 hF.1) hK)
                      · exact fun a wx hT hF K hK => rely_wp rfl (opr_pick_true rfl hF.1 (hK _ _ (NewT.refl _) hF.2.1))
                      · exact fun a wx hT hF K hK => rely_wp rfl (opr_move (.inl rfl) (hK _ _ (NewT.refl _) hF.1))
                      · exact fun a wx hT hF K hK => rely_wp (rely_guard hF.2.1) (opr_ldY (hT.row RK.out) rfl hF.1 (hK _ _ (NewT.refl _) rfl))
                      · exact fun a wx hT hF K hK => rely_wp (rely_guard hF.2.1) (opr_ldR (hT.row RX.out) rfl hF.1 (hK _ _ (NewT.refl _) rfl))
                      · exact fun a wx hT hF K hK => rely_wp (rely_guard hF.2.2.1) (opr_cv (HH1.out ▸ Holds_cv hX _ _ ps ws need x1 wx ((NewT.trans _ _ _ HM.out hT).tables HT.out) ((NewT.trans _ _ _ HM.out hT).keysV HK.out) (recV_nil wx x1 HE1.out.1 HE1.out.2)) rfl Tryd.func18 (by kernel_rfl) (by kernel_rfl) (evs2 hF.1 hF.2.1) hK)
                      · exact fun a wx hT hF K hK => rely_wp rfl (opr_pick_true rfl hF.1 (hK _ _ (NewT.refl _) hF.2.1))
                      · exact fun a wx hT hF K hK => rely_wp rfl (opr_move (.inl rfl) (hK _ _ (NewT.refl _) hF.1))
                      · exact fun a wx hT hF K hK => rely_wp (rely_guard hF.2.1) (opr_ldY (hT.row RK.out) rfl hF.1 (hK _ _ (NewT.refl _) rfl))
                      · exact fun a wx hT hF K hK => rely_wp (rely_guard hF.2.1) (opr_ldR (hT.row RY.out) rfl hF.1 (hK _ _ (NewT.refl _) rfl))
                      · exact fun a wx hT hF K hK => rely_wp (rely_guard hF.2.2.1) (opr_cv (HH2.out ▸ Holds_cv hX _ _ ps ws need y1 wx ((NewT.trans _ _ _ HM.out hT).tables HT.out) ((NewT.trans _ _ _ HM.out hT).keysV HK.out) (recV_nil wx y1 HE2.out.1 HE2.out.2)) rfl Tryd.func18 (by kernel_rfl) (by kernel_rfl) (evs2 hF.1 hF.2.1) hK)
                      · exact fun a wx hT hF K hK => rely_wp (rely_guard hF.2.1) (opr_not rfl hF.1 (hK _ _ (NewT.refl _) rfl))
                      · exact fun a wx hT hF K hK => rely_wp rfl (opr_pick_true rfl hF.1 (hK _ _ (NewT.refl _) hF.2.1))
                      · exact fun a wx hT hF K hK => rely_wp rfl (opr_move (.inl rfl) (hK _ _ (NewT.refl _) hF.1))
                      · exact fun a wx hT hF K hK => rely_wp (rely_guard hF.2.1) (opr_ldY (hT.row RK.out) rfl hF.1 (hK _ _ (NewT.refl _) rfl))
                      · exact fun a wx hT hF K hK => rely_wp (rely_guard hF.2.1) (opr_cv (Part_cv hX _ ps ws need 0 1 wx ((NewT.trans _ _ _ HM.out hT).tables HT.out) ((NewT.trans _ _ _ HM.out hT).keysV HK.out)) rfl Tryd.func14 (by kernel_rfl) (by kernel_rfl) (evs3 hF.1 rfl rfl) hK)
                      · exact fun a wx hT hF K hK => rely_wp (rely_guard hF.2.1) (opr_ldY (hT.row RK.out) rfl hF.1 (hK _ _ (NewT.refl _) rfl))
                      · exact fun a wx hT hF K hK => rely_wp (rely_guard hF.2.1) (opr_cv (Part_cv hX _ ps ws need 0 2 wx ((NewT.trans _ _ _ HM.out hT).tables HT.out) ((NewT.trans _ _ _ HM.out hT).keysV HK.out)) rfl Tryd.func14 (by kernel_rfl) (by kernel_rfl) (evs3 hF.1 rfl rfl) hK)
                      · exact fun a wx hT hF K hK => rely_wp (rely_guard hF.2.2.1) (opr_neq_hash (b := true) rfl hF.1 hF.2.1 (HNE.out) (hK _ _ (NewT.refl _) rfl))
                      · exact fun a wx hT hF K hK => rely_wp rfl (opr_pick_true rfl hF.1 (hK _ _ (NewT.refl _) hF.2.1))
                      · exact fun a wx hT hF K hK => rely_wp rfl (opr_move (.inl rfl) (hK _ _ (NewT.refl _) hF.1))
                      · exact fun a wx hT hF K hK => rely_wp (rely_guard hF.2.1) (opr_ldY (hT.row RK.out) rfl hF.1 (hK _ _ (NewT.refl _) rfl))
                      · exact fun a wx hT hF K hK => rely_wp (rely_guard hF.2.1) (opr_cv (Part_cv hX _ ps ws need 2 0 wx ((NewT.trans _ _ _ HM.out hT).tables HT.out) ((NewT.trans _ _ _ HM.out hT).keysV HK.out)) rfl Tryd.func14 (by kernel_rfl) (by kernel_rfl) (evs3 hF.1 rfl rfl) hK)
                      · exact fun a wx hT hF K hK => rely_wp (rely_guard hF.1) (opr_build (pv := #[]) rfl (by simp) (build_z32 wx) (hK _ _ (NewT.refl _) rfl))
                      · exact fun a wx hT hF K hK => rely_wp (rely_guard hF.2.2.1) (opr_eql_hash (b := true) rfl hF.1 hF.2.1 (HNO.out) (hK _ _ (NewT.refl _) rfl))
                      · exact fun a wx hT hF K hK => rely_wp rfl (opr_pick_true rfl hF.1 (hK _ _ (NewT.refl _) hF.2.1))
                      · intro wi ki
                        iterate 34 (intro u h; obtain rfl := Eq.symm (h (by simp)); clear h)
                        refine relyEnd_nil rfl ?_
                        simp only [Act.put, List.setIfInBounds_toArray, List.set_cons_zero, List.set_cons_succ]
                        refine opr_move (.inr rfl) ?_
                        go_simp
                        go_wp2
                        go_ret
                        exact ⟨_, rfl, NewT.trans _ _ _ HNW.out (NewT.trans _ _ _ HM.out ki), rfl⟩
end Go.Proofs.YtcfogkimjbgjgaaDoor
