/- Layer 6's own example: the law's function alive returns true. -/
import Derived.Test.YtoigjcadncecpaaDoorMd
set_option linter.all false
namespace Go.Proofs.YtoigjcadncecpaaDoor
open Go Go.RowKit
set_option maxRecDepth 8000
set_option linter.all false
/-- A hash of one byte that isn't 0. -/
def oneB (c : UInt8) : Hs := fun i => bif Nat.beq i 0 then c else 0
theorem run_bld1 (w : World) : (Instr.build 29 #[(0, .int .u8 1)]).run Tryd.prog w = .ok (.agg (rowA 32 (bF (oneB 1)))) w := by kernel_rfl
theorem run_bld2 (w : World) : (Instr.build 29 #[(0, .int .u8 2)]).run Tryd.prog w = .ok (.agg (rowA 32 (bF (oneB 2)))) w := by kernel_rfl
theorem run_bld3 (w : World) : (Instr.build 29 #[(0, .int .u8 3)]).run Tryd.prog w = .ok (.agg (rowA 32 (bF (oneB 3)))) w := by kernel_rfl
theorem run_bsH3 (d e h : Hs) (w : World) : (Instr.buildSlice 22 3 #[(0, .agg (rowA 32 (bF d))), (1, .agg (rowA 32 (bF e))), (2, .agg (rowA 32 (bF h)))]).run Tryd.prog w = .ok (.slice (some ⟨w.heap.size, 0, none⟩) 3 3) (w.alloc (.cells (rowA 96 fun i => bif Nat.blt i 32 then bF d i else bif Nat.blt i 64 then bF e (i - 32) else bF h (i - 64)) 29)) := by kernel_rfl
theorem rdH_three (d e h : Hs) (w : World) : RdH (w.alloc (.cells (rowA 96 fun i => bif Nat.blt i 32 then bF d i else bif Nat.blt i 64 then bF e (i - 32) else bF h (i - 64)) 29)) (.slice (some ⟨w.heap.size, 0, none⟩) 3 3) [d, e, h] := by
  refine rdH_row (l := [d, e, h]) (rowIs_box w 29 96 _) (by simp) (by simp [maxLen]) fun i f he j hj => ?_
  have hi : i < 3 := (List.getElem?_eq_some_iff.1 he).1
  have blt : ∀ m n : Nat, Nat.blt m n = decide (m < n) := fun m n => by
    cases hb : Nat.blt m n
    · symm; rw [decide_eq_false_iff_not]; intro h; rw [← Nat.blt_eq, hb] at h; cases h
    · rw [Nat.blt_eq] at hb; simp [hb]
  have hi' : i = 0 ∨ i = 1 ∨ i = 2 := by omega
  rcases hi' with rfl | rfl | rfl
  · simp at he; subst he
    simp only [blt]; rw [decide_eq_true (by omega), show 0 * 32 + j = j by omega]; rfl
  · simp at he; subst he
    simp only [blt]; rw [decide_eq_false (by omega), decide_eq_true (by omega), show 1 * 32 + j - 32 = j by omega]; rfl
  · simp at he; subst he
    simp only [blt]; rw [decide_eq_false (by omega), decide_eq_false (by omega), show 2 * 32 + j - 64 = j by omega]; rfl
theorem rootM_2 {node : Hs → Hs → Hs} {z : Hs} (p q : Hs) : rootM node z [p, q] = node p q := by
  have := rootM_app node z [p] [q] 0 rfl (by simp) (by simp)
  simpa [rootM_one] using this
theorem rootM_3 {node : Hs → Hs → Hs} {z : Hs} (p q r : Hs) : rootM node z [p, q, r] = node (node p q) r := by
  have := rootM_app node z [p, q] [r] 1 rfl (by simp) (by simp)
  simpa [rootM_one, rootM_2] using this
theorem splitN_3 : splitN 3 = 2 := by decide +kernel
theorem path_3 {node : Hs → Hs → Hs} {z : Hs} (p q r : Hs) : pathM node z [p, q, r] 2 = [node p q] := by
  rw [pathM_r _ _ _ _ (by simp) (by show ¬ 2 < splitN 3; rw [splitN_3]; omega)]
  show pathM node z (List.drop (splitN 3) [p, q, r]) (2 - splitN 3) ++ [rootM node z (List.take (splitN 3) [p, q, r])] = _
  rw [splitN_3, pathM_few _ _ _ _ (by simp), List.nil_append, show List.take 2 [p, q, r] = [p, q] from rfl, rootM_2]
theorem sub_3 {node : Hs → Hs → Hs} {z : Hs} (p q r : Hs) : subM node z 2 [p, q, r] true = [r] := by
  rw [subM_l _ _ _ _ _ (by simp) (by simp) (by show 2 ≤ splitN 3; rw [splitN_3]; omega)]
  show subM node z 2 (List.take (splitN 3) [p, q, r]) true ++ [rootM node z (List.drop (splitN 3) [p, q, r])] = _
  rw [splitN_3, subM_all _ _ _ _ _ (.inl (by simp)), if_pos rfl, List.nil_append, show List.drop 2 [p, q, r] = [r] from rfl, rootM_one]
theorem inner_is : digL (shaL Kc Fc ([1] ++ (digL (oneB 1) ++ (digL (oneB 2) ++ [])))) = [127, 80, 117, 78, 227, 143, 160, 51, 23, 237, 95, 254, 79, 42, 217, 20, 128, 133, 79, 170, 249, 85, 136, 108, 215, 128, 243, 116, 250, 101, 130, 246] := by decide +kernel
theorem outer_ne : eqH (shaL Kc Fc ([1] ++ ([127, 80, 117, 78, 227, 143, 160, 51, 23, 237, 95, 254, 79, 42, 217, 20, 128, 133, 79, 170, 249, 85, 136, 108, 215, 128, 243, 116, 250, 101, 130, 246] ++ (digL (oneB 2) ++ [])))) (shaL Kc Fc ([1] ++ ([127, 80, 117, 78, 227, 143, 160, 51, 23, 237, 95, 254, 79, 42, 217, 20, 128, 133, 79, 170, 249, 85, 136, 108, 215, 128, 243, 116, 250, 101, 130, 246] ++ (digL (oneB 3) ++ [])))) = false := by decide +kernel
theorem alive_ne {node : Hs → Hs → Hs} {z : Hs} (hX : TreeH node z) : eqH (node (node (oneB 1) (oneB 2)) (oneB 2)) (node (node (oneB 1) (oneB 2)) (oneB 3)) = false := by
  rw [← hX.node (node (oneB 1) (oneB 2)) (oneB 2), ← hX.node (node (oneB 1) (oneB 2)) (oneB 3), ← hX.node (oneB 1) (oneB 2), inner_is]
  exact outer_ne
set_option maxHeartbeats 8000000 in
theorem alive6_any (w : World) (hT : Tables w) : Calls Tryd.prog 10 #[] w fun e w' => e = .returned (.bool true) ∧ Below w.heap.size w w' := by
  obtain ⟨node, z, hX⟩ := tree_ex
  have hne := alive_ne hX
  have hb1 := run_bld1
  have hb2 := run_bld2
  have hb3 := run_bld3
  obtain ⟨h1, e1⟩ : ∃ h, oneB 1 = h := ⟨_, rfl⟩
  obtain ⟨h2, e2⟩ : ∃ h, oneB 2 = h := ⟨_, rfl⟩
  obtain ⟨h3, e3⟩ : ∃ h, oneB 3 = h := ⟨_, rfl⟩
  rw [e1] at hb1 hne
  rw [e2] at hb2 hne
  rw [e3] at hb3 hne
  clear e1 e2 e3
  have hbs := run_bsH3 h1 h2 h3
  have HP : Hid (∀ (v : Value) (w : World), Tables w → RdH w v [h1, h2, h3] → Cv 11 #[v, .int .i64 2] w (svPq [node h1 h2] true)) := Lib.hid fun v w hT hl => by
    have := Path_good hX v [h1, h2, h3] 2 w hT hl (by simp) (by simp)
    rw [path_3] at this; exact this
  have HQ : Hid (∀ (v : Value) (w : World), Tables w → RdH w v [h1, h2, h3] → Cv 13 #[v, .int .i64 2] w (svPq [h3] true)) := Lib.hid fun v w hT hl => by
    have := Prove_good hX v [h1, h2, h3] 2 w hT hl (by simp) (by simp) (by simp)
    rw [sub_3] at this; exact this
  have HI1 : Hid (∀ (v : Value) (w : World), Tables w → RdH w v [node h1 h2] → Cv 20 #[.agg (rowA 32 (bF h3)), .int .i64 2, .int .i64 3, v, .agg (rowA 32 (bF (rootM node z [h1, h2, h3])))] w (.eq (.bool true))) := Lib.hid fun v w hT hl => by
    have h := In_cv hX h3 (rootM node z [h1, h2, h3]) 2 3 v [node h1 h2] w hT hl (by simp)
    have e := comes_set (node := node) (z := z) (fun _ => 0) [h1, h2, h3] 2 h3 (by simp) (by simp)
    rw [path_3] at e
    have e1 : okP 2 3 [node h1 h2].length = true := e.1
    have e2 : comesM node (fun _ => 0) h3 2 3 [node h1 h2] = rootM node z [h1, h2, h3] := e.2
    rw [e1, e2, eqH_same] at h
    exact h
  have HI2 : Hid (∀ (v : Value) (w : World), Tables w → RdH w v [node h1 h2] → Cv 20 #[.agg (rowA 32 (bF h2)), .int .i64 2, .int .i64 3, v, .agg (rowA 32 (bF (rootM node z [h1, h2, h3])))] w (.eq (.bool false))) := Lib.hid fun v w hT hl => by
    have h := In_cv hX h2 (rootM node z [h1, h2, h3]) 2 3 v [node h1 h2] w hT hl (by simp)
    have e := comes_set (node := node) (z := z) (fun _ => 0) [h1, h2, h3] 2 h2 (by simp) (by simp)
    rw [path_3] at e
    have e2 : comesM node (fun _ => 0) h2 2 3 [node h1 h2] = rootM node z [h1, h2, h2] := e.2
    rw [e2] at h
    rw [show eqH (rootM node z [h1, h2, h2]) (rootM node z [h1, h2, h3]) = false by rw [rootM_3, rootM_3]; exact hne, Bool.and_false] at h
    exact h
  have HB : Hid (∀ (v : Value) (w : World), Tables w → RdH w v [h3] → Cv 22 #[.int .i64 2, .int .i64 3, .agg (rowA 32 (bF (rootM node z (List.take 2 [h1, h2, h3])))), .agg (rowA 32 (bF (rootM node z [h1, h2, h3]))), v] w (.eq (.bool true))) := Lib.hid fun v w hT hl => by
    have h := Begins_cv hX (rootM node z (List.take 2 [h1, h2, h3])) (rootM node z [h1, h2, h3]) 2 3 v [h3] w hT hl (by simp)
    have e := both_root (node := node) (z := z) (fun _ => 0) [h1, h2, h3] 2 (by simp) (by simp) (by simp)
    rw [sub_3] at e
    have e1 : okB 2 3 [h3].length = true := e.1
    have e2 : bothM node (fun _ => 0) (rootM node z (List.take 2 [h1, h2, h3])) 2 3 [h3] = (rootM node z (List.take 2 [h1, h2, h3]), rootM node z [h1, h2, h3]) := e.2
    unfold begM at h
    rw [if_neg (by decide), e1, e2, eqH_same, eqH_same] at h
    exact h
  have HT := Lib.hid hT
  clear hT hne
  go_enter Tryd.func10, Tryd.ntmps10
  go_upto_region 1 with fail
  refine wp_region_lit ?_
  refine wpList_plain rfl (fun K hK => ?_)
  refine opr_val (s := Instr.build 29 #[(0, .int .u8 1)]) (by simp [execOp, eval_const]) (hb1 _) (hK _ _ ?_)
  clear hK K
  refine wpList_plain rfl (fun K hK => ?_)
  refine opr_val (s := Instr.build 29 #[(0, .int .u8 2)]) (by simp [execOp, eval_const]) (hb2 _) (hK _ _ ?_)
  clear hK K
  refine wpList_plain rfl (fun K hK => ?_)
  refine opr_val (s := Instr.build 29 #[(0, .int .u8 3)]) (by simp [execOp, eval_const]) (hb3 _) (hK _ _ ?_)
  clear hK K
  simp only [Act.put, List.setIfInBounds_toArray, List.set_cons_zero, List.set_cons_succ]
  refine wpList_plain rfl (fun K hK => ?_)
  refine opr_val (s := Instr.buildSlice 22 3 #[(0, .agg (rowA 32 (bF h1))), (1, .agg (rowA 32 (bF h2))), (2, .agg (rowA 32 (bF h3)))]) (by simp [execOp]; rfl) (hbs _) (hK _ _ ?_)
  clear hK K
  refine wpList_plain rfl (fun K hK => ?_)
  refine opr_move (.inr rfl) (hK _ _ ?_)
  refine wpList_end rfl ?_
  simp only [Act.put, List.setIfInBounds_toArray, List.set_cons_zero, List.set_cons_succ]
  go_simp
  have hN := NewT.alloc w (.cells (rowA 96 fun i => bif Nat.blt i 32 then bF h1 i else bif Nat.blt i 64 then bF h2 (i - 32) else bF h3 (i - 64)) 29)
  have hl := rdH_three h1 h2 h3 w
  generalize w.alloc (.cells (rowA 96 fun i => bif Nat.blt i 32 then bF h1 i else bif Nat.blt i 64 then bF h2 (i - 32) else bF h3 (i - 64)) 29) = W0 at hN hl ⊢
  obtain ⟨v, ev⟩ : ∃ v, Value.slice (some ⟨w.heap.size, 0, none⟩) 3 3 = v := ⟨_, rfl⟩
  rw [ev] at hl ⊢
  have HL := Lib.hid hl
  have HN := Lib.hid hN
  replace HT := Lib.hid (hN.tables HT.out)
  clear hl hN ev hb1 hb2 hb3 hbs
  go_upto_region 2 with fail
  refine wp_region_steps0 NewT [SV.eq (v), svPq [node h1 h2] true, svPq [node h1 h2] true, svH ([node h1 h2]), SV.eq (.bool true), svH ([node h1 h2]), SV.eq (.bool true)] [([(1, none)], none), ([(11, some 0)], none), ([(12, some 1)], none), ([(10, some 2)], none), ([(10, some 2)], none), ([(13, some 3)], none), ([(14, some 4)], none)] 78 7 rfl rfl (by kernel_rfl) NewT.trans (NewT.refl _) (Nat.le_of_ble_eq_true rfl) ⟨?_, ?_, ?_, ?_, ?_, ?_, ?_, trivial⟩ ?_
  · intro a wx hT hF K hK
    obtain ⟨f1, _⟩ := hF
    have f1 : a.tmps.getD 1 undef = v := f1
    refine rely_wp rfl ?_
    exact opr_move (.inl rfl) (hK _ _ (NewT.refl _) f1)
  · intro a wx hT hF K hK
    obtain ⟨f11, _⟩ := hF
    have f11 : a.tmps.getD 11 undef = v := f11
    refine rely_wp rfl ?_
    exact opr_cv (HP.out _ wx (hT.tables HT.out) (hT.hs HL.out)) rfl Tryd.func11 (by kernel_rfl) (by kernel_rfl) (by simp only [List.map_toArray, List.map_cons, List.map_nil, eval_tmp, eval_const, f11]) hK
  · intro a wx hT hF K hK
    obtain ⟨f12, _⟩ := hF
    replace f12 := show (svPq [node h1 h2] true).pred (a.tmps.getD 12 undef) wx from f12
    refine rely_wp rfl ?_
    exact opr_move (.inl rfl) (hK _ _ (NewT.refl _) f12)
  · intro a wx hT hF K hK
    obtain ⟨f10, _⟩ := hF
    replace f10 := show (svPq [node h1 h2] true).pred (a.tmps.getD 10 undef) wx from f10
    refine rely_wp rfl ?_
    exact opr_extP0 rfl f10 (fun u hu => hK u _ (NewT.refl _) hu)
  · intro a wx hT hF K hK
    obtain ⟨f10, _⟩ := hF
    replace f10 := show (svPq [node h1 h2] true).pred (a.tmps.getD 10 undef) wx from f10
    refine rely_wp rfl ?_
    exact opr_extP1 rfl f10 (hK _ _ (NewT.refl _) rfl)
  · intro a wx hT hF K hK
    obtain ⟨f13, _⟩ := hF
    replace f13 := show (svH ([node h1 h2])).pred (a.tmps.getD 13 undef) wx from f13
    refine rely_wp rfl ?_
    exact opr_move (.inr rfl) (hK _ _ (NewT.refl _) f13)
  · intro a wx hT hF K hK
    obtain ⟨f14, _⟩ := hF
    have f14 : a.tmps.getD 14 undef = .bool true := f14
    refine rely_wp rfl ?_
    exact opr_move (.inr rfl) (hK _ _ (NewT.refl _) f14)
  · intro w2 k2
    intro u h; obtain rfl := Eq.symm (h (by simp)); clear h
    intro _ _
    intro _ _
    intro _ _
    intro u h; obtain rfl := Eq.symm (h (by simp)); clear h
    intro u2 h; have g2 := h (by simp); clear h; replace g2 := show (svH ([node h1 h2])).pred u2 w2 from g2
    intro u h; obtain rfl := Eq.symm (h (by simp)); clear h
    refine relyEnd_nil rfl ?_
    refine wpList_end rfl ?_
    simp only [Act.put, List.setIfInBounds_toArray, List.set_cons_zero, List.set_cons_succ]
    go_simp
    have HU2 := Lib.hid (show RdH w2 u2 [node h1 h2] from g2)
    replace HL := Lib.hid (k2.hs HL.out)
    replace HT := Lib.hid (k2.tables HT.out)
    replace HN := Lib.hid (NewT.trans _ _ _ HN.out k2)
    clear k2 g2 HP
    go_upto_region 3 with fail
    refine wp_region_steps0 NewT [SV.eq (v), svPq [h3] true, svPq [h3] true, svH ([h3]), SV.eq (.bool true), svH ([h3]), SV.eq (.bool true)] [([(1, none)], none), ([(16, some 0)], none), ([(17, some 1)], none), ([(15, some 2)], none), ([(15, some 2)], none), ([(18, some 3)], none), ([(19, some 4)], none)] 78 7 rfl rfl (by kernel_rfl) NewT.trans (NewT.refl _) (Nat.le_of_ble_eq_true rfl) ⟨?_, ?_, ?_, ?_, ?_, ?_, ?_, trivial⟩ ?_
    · intro a wx hT hF K hK
      obtain ⟨f1, _⟩ := hF
      have f1 : a.tmps.getD 1 undef = v := f1
      refine rely_wp rfl ?_
      exact opr_move (.inl rfl) (hK _ _ (NewT.refl _) f1)
    · intro a wx hT hF K hK
      obtain ⟨f16, _⟩ := hF
      have f16 : a.tmps.getD 16 undef = v := f16
      refine rely_wp rfl ?_
      exact opr_cv (HQ.out _ wx (hT.tables HT.out) (hT.hs HL.out)) rfl Tryd.func13 (by kernel_rfl) (by kernel_rfl) (by simp only [List.map_toArray, List.map_cons, List.map_nil, eval_tmp, eval_const, f16]) hK
    · intro a wx hT hF K hK
      obtain ⟨f17, _⟩ := hF
      replace f17 := show (svPq [h3] true).pred (a.tmps.getD 17 undef) wx from f17
      refine rely_wp rfl ?_
      exact opr_move (.inl rfl) (hK _ _ (NewT.refl _) f17)
    · intro a wx hT hF K hK
      obtain ⟨f15, _⟩ := hF
      replace f15 := show (svPq [h3] true).pred (a.tmps.getD 15 undef) wx from f15
      refine rely_wp rfl ?_
      exact opr_extP0 rfl f15 (fun u hu => hK u _ (NewT.refl _) hu)
    · intro a wx hT hF K hK
      obtain ⟨f15, _⟩ := hF
      replace f15 := show (svPq [h3] true).pred (a.tmps.getD 15 undef) wx from f15
      refine rely_wp rfl ?_
      exact opr_extP1 rfl f15 (hK _ _ (NewT.refl _) rfl)
    · intro a wx hT hF K hK
      obtain ⟨f18, _⟩ := hF
      replace f18 := show (svH ([h3])).pred (a.tmps.getD 18 undef) wx from f18
      refine rely_wp rfl ?_
      exact opr_move (.inr rfl) (hK _ _ (NewT.refl _) f18)
    · intro a wx hT hF K hK
      obtain ⟨f19, _⟩ := hF
      have f19 : a.tmps.getD 19 undef = .bool true := f19
      refine rely_wp rfl ?_
      exact opr_move (.inr rfl) (hK _ _ (NewT.refl _) f19)
    · intro w3 k3
      intro u h; obtain rfl := Eq.symm (h (by simp)); clear h
      intro _ _
      intro _ _
      intro _ _
      intro u h; obtain rfl := Eq.symm (h (by simp)); clear h
      intro u4 h; have g4 := h (by simp); clear h; replace g4 := show (svH ([h3])).pred u4 w3 from g4
      intro u h; obtain rfl := Eq.symm (h (by simp)); clear h
      refine relyEnd_nil rfl ?_
      refine wpList_end rfl ?_
      simp only [Act.put, List.setIfInBounds_toArray, List.set_cons_zero, List.set_cons_succ]
      go_simp
      have HU4 := Lib.hid (show RdH w3 u4 [h3] from g4)
      replace HU2 := Lib.hid (k3.hs HU2.out)
      replace HL := Lib.hid (k3.hs HL.out)
      replace HT := Lib.hid (k3.tables HT.out)
      replace HN := Lib.hid (NewT.trans _ _ _ HN.out k3)
      clear k3 g4 HQ
      go_upto_region 4 with fail
      refine wp_region_steps0 NewT [SV.eq (u2), SV.eq (.int .i64 ((List.length ([node h1 h2]) : Int))), SV.eq (.bool false), SV.eq (.bool false), SV.eq (u4), SV.eq (.int .i64 ((List.length ([h3]) : Int))), SV.eq (.bool false), SV.eq (.bool false)] [([(2, none)], none), ([(20, some 0)], none), ([(21, some 1)], none), ([(22, some 2)], none), ([(4, none), (23, some 3)], some (23, false)), ([(24, some 4), (23, some 3)], some (23, false)), ([(25, some 5), (23, some 3)], some (23, false)), ([(23, some 3), (26, some 6)], none)] 78 8 rfl rfl (by kernel_rfl) NewT.trans (NewT.refl _) (Nat.le_of_ble_eq_true rfl) ⟨?_, ?_, ?_, ?_, ?_, ?_, ?_, ?_, trivial⟩ ?_
      · intro a wx hT hF K hK
        obtain ⟨f2, _⟩ := hF
        have f2 : a.tmps.getD 2 undef = u2 := f2
        refine rely_wp rfl ?_
        exact opr_move (.inl rfl) (hK _ _ (NewT.refl _) f2)
      · intro a wx hT hF K hK
        obtain ⟨f20, _⟩ := hF
        have f20 : a.tmps.getD 20 undef = u2 := f20
        refine rely_wp rfl ?_
        exact opr_len_h rfl (by rw [eval_tmp, f20]; exact (hT.hs HU2.out)) (hK _ _ (NewT.refl _) rfl)
      · intro a wx hT hF K hK
        obtain ⟨f21, _⟩ := hF
        have f21 : a.tmps.getD 21 undef = .int .i64 ((List.length ([node h1 h2]) : Int)) := f21
        refine rely_wp rfl ?_
        exact opr_cmp (b := false) (.inr (.inl ⟨rfl, (by rfl)⟩)) Tryd.underlying3 rfl f21 rfl (hK _ _ (NewT.refl _) rfl)
      · intro a wx hT hF K hK
        obtain ⟨f22, _⟩ := hF
        have f22 : a.tmps.getD 22 undef = .bool false := f22
        refine rely_wp rfl ?_
        exact opr_move (.inl rfl) (hK _ _ (NewT.refl _) f22)
      · intro a wx hT hF K hK
        obtain ⟨f4, f23, _⟩ := hF
        have f4 : a.tmps.getD 4 undef = u4 := f4
        have f23 : a.tmps.getD 23 undef = .bool false := f23
        refine rely_wp (rely_guard f23) ?_
        exact opr_move (.inl rfl) (hK _ _ (NewT.refl _) f4)
      · intro a wx hT hF K hK
        obtain ⟨f24, f23, _⟩ := hF
        have f24 : a.tmps.getD 24 undef = u4 := f24
        have f23 : a.tmps.getD 23 undef = .bool false := f23
        refine rely_wp (rely_guard f23) ?_
        exact opr_len_h rfl (by rw [eval_tmp, f24]; exact (hT.hs HU4.out)) (hK _ _ (NewT.refl _) rfl)
      · intro a wx hT hF K hK
        obtain ⟨f25, f23, _⟩ := hF
        have f25 : a.tmps.getD 25 undef = .int .i64 ((List.length ([h3]) : Int)) := f25
        have f23 : a.tmps.getD 23 undef = .bool false := f23
        refine rely_wp (rely_guard f23) ?_
        exact opr_cmp (b := false) (.inr (.inl ⟨rfl, (by rfl)⟩)) Tryd.underlying3 rfl f25 rfl (hK _ _ (NewT.refl _) rfl)
      · intro a wx hT hF K hK
        obtain ⟨f23, f26, _⟩ := hF
        have f23 : a.tmps.getD 23 undef = .bool false := f23
        have f26 : a.tmps.getD 26 undef = .bool false := f26
        refine rely_wp rfl ?_
        exact opr_pick_false rfl f23 (hK _ _ (NewT.refl _) f26)
      · intro w4 k4
        intro u h; obtain rfl := Eq.symm (h (by simp)); clear h
        intro u h; obtain rfl := Eq.symm (h (by simp)); clear h
        intro u h; obtain rfl := Eq.symm (h (by simp)); clear h
        intro u h; obtain rfl := Eq.symm (h (by simp)); clear h
        intro u h; obtain rfl := Eq.symm (h (by simp)); clear h
        intro u h; obtain rfl := Eq.symm (h (by simp)); clear h
        intro u h; obtain rfl := Eq.symm (h (by simp)); clear h
        intro u h; obtain rfl := Eq.symm (h (by simp)); clear h
        refine relyEnd_nil rfl ?_
        refine wpList_end rfl ?_
        simp only [Act.put, List.setIfInBounds_toArray, List.set_cons_zero, List.set_cons_succ]
        go_simp
        replace HU2 := Lib.hid (k4.hs HU2.out)
        replace HU4 := Lib.hid (k4.hs HU4.out)
        replace HL := Lib.hid (k4.hs HL.out)
        replace HT := Lib.hid (k4.tables HT.out)
        replace HN := Lib.hid (NewT.trans _ _ _ HN.out k4)
        clear k4
        go_upto_region 6 with fail
        refine wp_region_rely (NewT) [SV.eq (.bool true), SV.eq (.bool true), SV.eq (.bool true), SV.eq (.bool true), SV.eq (.bool true), SV.eq (u2), svP (node h1 h2), SV.eq (.agg (rowA 32 (bF (node h1 h2)))), SV.eq (v), svH (List.take 2 ([h1, h2, h3])), SV.eq (.agg (rowA 32 (bF (rootM node z (List.take 2 ([h1, h2, h3])))))), SV.eq (.bool true), SV.eq (.bool true), SV.eq (.bool true), SV.eq (u4), svP (h3), SV.eq (.agg (rowA 32 (bF (h3)))), SV.eq (v), svP (h3), SV.eq (.agg (rowA 32 (bF (h3)))), SV.eq (.bool true), SV.eq (.bool true), SV.eq (.bool true), SV.eq (v), svP (h3), SV.eq (.agg (rowA 32 (bF (h3)))), SV.eq (u2), SV.eq (v), SV.eq (.agg (rowA 32 (bF (rootM node z ([h1, h2, h3]))))), SV.eq (.bool true), SV.eq (.bool true), SV.eq (.bool true), SV.eq (v), svP (h2), SV.eq (.agg (rowA 32 (bF (h2)))), SV.eq (u2), SV.eq (v), SV.eq (.agg (rowA 32 (bF (rootM node z ([h1, h2, h3]))))), SV.eq (.bool false), SV.eq (.bool true), SV.eq (.bool true), SV.eq (.bool true), SV.eq (v), svH (List.take 2 ([h1, h2, h3])), SV.eq (.agg (rowA 32 (bF (rootM node z (List.take 2 ([h1, h2, h3])))))), SV.eq (v), SV.eq (.agg (rowA 32 (bF (rootM node z ([h1, h2, h3]))))), SV.eq (u4), SV.eq (.bool true), SV.eq (.bool true)] [([(3, none)], none), ([(28, some 0)], none), ([(5, none), (29, some 1)], some (29, true)), ([(29, some 1), (30, some 2)], none), ([(31, some 3)], none), ([(2, none), (32, some 4)], some (32, true)), ([(33, some 5), (32, some 4)], some (32, true)), ([(34, some 6), (32, some 4)], some (32, true)), ([(1, none), (32, some 4)], some (32, true)), ([(36, some 8), (32, some 4)], some (32, true)), ([(37, some 9), (32, some 4)], some (32, true)), ([(35, some 7), (38, some 10), (32, some 4)], some (32, true)), ([(32, some 4), (39, some 11)], none), ([(40, some 12)], none), ([(4, none), (41, some 13)], some (41, true)), ([(42, some 14), (41, some 13)], some (41, true)), ([(43, some 15), (41, some 13)], some (41, true)), ([(1, none), (41, some 13)], some (41, true)), ([(45, some 17), (41, some 13)], some (41, true)), ([(46, some 18), (41, some 13)], some (41, true)), ([(44, some 16), (47, some 19), (41, some 13)], some (41, true)), ([(41, some 13), (48, some 20)], none), ([(49, some 21)], none), ([(1, none), (50, some 22)], some (50, true)), ([(51, some 23), (50, some 22)], some (50, true)), ([(52, some 24), (50, some 22)], some (50, true)), ([(2, none), (50, some 22)], some (50, true)), ([(1, none), (50, some 22)], some (50, true)), ([(55, some 27), (50, some 22)], some (50, true)), ([(53, some 25), (54, some 26), (56, some 28), (50, some 22)], some (50, true)), ([(50, some 22), (57, some 29)], none), ([(58, some 30)], none), ([(1, none), (59, some 31)], some (59, true)), ([(60, some 32), (59, some 31)], some (59, true)), ([(61, some 33), (59, some 31)], some (59, true)), ([(2, none), (59, some 31)], some (59, true)), ([(1, none), (59, some 31)], some (59, true)), ([(64, some 36), (59, some 31)], some (59, true)), ([(62, some 34), (63, some 35), (65, some 37), (59, some 31)], some (59, true)), ([(66, some 38), (59, some 31)], some (59, true)), ([(59, some 31), (67, some 39)], none), ([(68, some 40)], none), ([(1, none), (69, some 41)], some (69, true)), ([(70, some 42), (69, some 41)], some (69, true)), ([(71, some 43), (69, some 41)], some (69, true)), ([(1, none), (69, some 41)], some (69, true)), ([(73, some 45), (69, some 41)], some (69, true)), ([(4, none), (69, some 41)], some (69, true)), ([(72, some 44), (74, some 46), (75, some 47), (69, some 41)], some (69, true)), ([(69, some 41), (76, some 48)], none)] 78 rfl (by kernel_rfl) rfl (by kernel_rfl) (by kernel_rfl) rfl NewT.trans (NewT.drew _) (Nat.le_of_ble_eq_true rfl) ⟨?_, ?_, ?_, ?_, ?_, ?_, ?_, ?_, ?_, ?_, ?_, ?_, ?_, ?_, ?_, ?_, ?_, ?_, ?_, ?_, ?_, ?_, ?_, ?_, ?_, ?_, ?_, ?_, ?_, ?_, ?_, ?_, ?_, ?_, ?_, ?_, ?_, ?_, ?_, ?_, ?_, ?_, ?_, ?_, ?_, ?_, ?_, ?_, ?_, ?_, trivial⟩ ?_
        · intro a wx hT hF K hK
          obtain ⟨f3, _⟩ := hF
          have f3 : a.tmps.getD 3 undef = .bool true := f3
          refine rely_wp rfl ?_
          exact opr_move (.inl rfl) (hK _ _ (NewT.refl _) f3)
        · intro a wx hT hF K hK
          obtain ⟨f28, _⟩ := hF
          have f28 : a.tmps.getD 28 undef = .bool true := f28
          refine rely_wp rfl ?_
          exact opr_move (.inl rfl) (hK _ _ (NewT.refl _) f28)
        · intro a wx hT hF K hK
          obtain ⟨f5, f29, _⟩ := hF
          have f5 : a.tmps.getD 5 undef = .bool true := f5
          have f29 : a.tmps.getD 29 undef = .bool true := f29
          refine rely_wp (rely_guard f29) ?_
          exact opr_move (.inl rfl) (hK _ _ (NewT.refl _) f5)
        · intro a wx hT hF K hK
          obtain ⟨f29, f30, _⟩ := hF
          have f29 : a.tmps.getD 29 undef = .bool true := f29
          have f30 : a.tmps.getD 30 undef = .bool true := f30
          refine rely_wp rfl ?_
          exact opr_pick_true rfl f29 (hK _ _ (NewT.refl _) f30)
        · intro a wx hT hF K hK
          obtain ⟨f31, _⟩ := hF
          have f31 : a.tmps.getD 31 undef = .bool true := f31
          refine rely_wp rfl ?_
          exact opr_move (.inl rfl) (hK _ _ (NewT.refl _) f31)
        · intro a wx hT hF K hK
          obtain ⟨f2, f32, _⟩ := hF
          have f2 : a.tmps.getD 2 undef = u2 := f2
          have f32 : a.tmps.getD 32 undef = .bool true := f32
          refine rely_wp (rely_guard f32) ?_
          exact opr_move (.inl rfl) (hK _ _ (NewT.refl _) f2)
        · intro a wx hT hF K hK
          obtain ⟨f33, f32, _⟩ := hF
          have f33 : a.tmps.getD 33 undef = u2 := f33
          have f32 : a.tmps.getD 32 undef = .bool true := f32
          refine rely_wp (rely_guard f32) ?_
          exact opr_idxH (i := 0) (d := node h1 h2) (rfl) (rfl) rfl (by rw [eval_tmp, f33]; exact (hT.hs HU2.out)) rfl (fun v hv => hK v _ (NewT.refl _) hv)
        · intro a wx hT hF K hK
          obtain ⟨f34, f32, _⟩ := hF
          replace f34 := show (svP (node h1 h2)).pred (a.tmps.getD 34 undef) wx from f34
          have f32 : a.tmps.getD 32 undef = .bool true := f32
          refine rely_wp (rely_guard f32) ?_
          exact opr_ldP rfl f34 (hK _ _ (NewT.refl _) rfl)
        · intro a wx hT hF K hK
          obtain ⟨f1, f32, _⟩ := hF
          have f1 : a.tmps.getD 1 undef = v := f1
          have f32 : a.tmps.getD 32 undef = .bool true := f32
          refine rely_wp (rely_guard f32) ?_
          exact opr_move (.inl rfl) (hK _ _ (NewT.refl _) f1)
        · intro a wx hT hF K hK
          obtain ⟨f36, f32, _⟩ := hF
          have f36 : a.tmps.getD 36 undef = v := f36
          have f32 : a.tmps.getD 32 undef = .bool true := f32
          refine rely_wp (rely_guard f32) ?_
          exact opr_toH (k := 2) (by simp) (rfl) rfl (by rw [eval_tmp, f36]; exact (hT.hs HL.out)) rfl (fun v hv => hK v _ (NewT.refl _) hv)
        · intro a wx hT hF K hK
          obtain ⟨f37, f32, _⟩ := hF
          replace f37 := show (svH (List.take 2 ([h1, h2, h3]))).pred (a.tmps.getD 37 undef) wx from f37
          have f32 : a.tmps.getD 32 undef = .bool true := f32
          refine rely_wp (rely_guard f32) ?_
          exact opr_cv (Root_cv hX _ _ (List.take 2 ([h1, h2, h3])) wx (hT.tables HT.out) (f37) (Nat.le_refl _) (by simp)) rfl Tryd.func24 (by kernel_rfl) (by kernel_rfl) (by simp only [List.map_toArray, List.map_cons, List.map_nil, eval_tmp]) hK
        · intro a wx hT hF K hK
          obtain ⟨f35, f38, f32, _⟩ := hF
          have f35 : a.tmps.getD 35 undef = .agg (rowA 32 (bF (node h1 h2))) := f35
          have f38 : a.tmps.getD 38 undef = .agg (rowA 32 (bF (rootM node z (List.take 2 ([h1, h2, h3]))))) := f38
          have f32 : a.tmps.getD 32 undef = .bool true := f32
          refine rely_wp (rely_guard f32) ?_
          exact opr_eql_hash (b := true) rfl f35 f38 ((by rw [show List.take 2 [h1, h2, h3] = [h1, h2] from rfl, rootM_2]; exact eqH_same _)) (hK _ _ (NewT.refl _) rfl)
        · intro a wx hT hF K hK
          obtain ⟨f32, f39, _⟩ := hF
          have f32 : a.tmps.getD 32 undef = .bool true := f32
          have f39 : a.tmps.getD 39 undef = .bool true := f39
          refine rely_wp rfl ?_
          exact opr_pick_true rfl f32 (hK _ _ (NewT.refl _) f39)
        · intro a wx hT hF K hK
          obtain ⟨f40, _⟩ := hF
          have f40 : a.tmps.getD 40 undef = .bool true := f40
          refine rely_wp rfl ?_
          exact opr_move (.inl rfl) (hK _ _ (NewT.refl _) f40)
        · intro a wx hT hF K hK
          obtain ⟨f4, f41, _⟩ := hF
          have f4 : a.tmps.getD 4 undef = u4 := f4
          have f41 : a.tmps.getD 41 undef = .bool true := f41
          refine rely_wp (rely_guard f41) ?_
          exact opr_move (.inl rfl) (hK _ _ (NewT.refl _) f4)
        · intro a wx hT hF K hK
          obtain ⟨f42, f41, _⟩ := hF
          have f42 : a.tmps.getD 42 undef = u4 := f42
          have f41 : a.tmps.getD 41 undef = .bool true := f41
          refine rely_wp (rely_guard f41) ?_
          exact opr_idxH (i := 0) (d := h3) (rfl) (rfl) rfl (by rw [eval_tmp, f42]; exact (hT.hs HU4.out)) rfl (fun v hv => hK v _ (NewT.refl _) hv)
        · intro a wx hT hF K hK
          obtain ⟨f43, f41, _⟩ := hF
          replace f43 := show (svP (h3)).pred (a.tmps.getD 43 undef) wx from f43
          have f41 : a.tmps.getD 41 undef = .bool true := f41
          refine rely_wp (rely_guard f41) ?_
          exact opr_ldP rfl f43 (hK _ _ (NewT.refl _) rfl)
        · intro a wx hT hF K hK
          obtain ⟨f1, f41, _⟩ := hF
          have f1 : a.tmps.getD 1 undef = v := f1
          have f41 : a.tmps.getD 41 undef = .bool true := f41
          refine rely_wp (rely_guard f41) ?_
          exact opr_move (.inl rfl) (hK _ _ (NewT.refl _) f1)
        · intro a wx hT hF K hK
          obtain ⟨f45, f41, _⟩ := hF
          have f45 : a.tmps.getD 45 undef = v := f45
          have f41 : a.tmps.getD 41 undef = .bool true := f41
          refine rely_wp (rely_guard f41) ?_
          exact opr_idxH (i := 2) (d := h3) (rfl) (rfl) rfl (by rw [eval_tmp, f45]; exact (hT.hs HL.out)) rfl (fun v hv => hK v _ (NewT.refl _) hv)
        · intro a wx hT hF K hK
          obtain ⟨f46, f41, _⟩ := hF
          replace f46 := show (svP (h3)).pred (a.tmps.getD 46 undef) wx from f46
          have f41 : a.tmps.getD 41 undef = .bool true := f41
          refine rely_wp (rely_guard f41) ?_
          exact opr_ldP rfl f46 (hK _ _ (NewT.refl _) rfl)
        · intro a wx hT hF K hK
          obtain ⟨f44, f47, f41, _⟩ := hF
          have f44 : a.tmps.getD 44 undef = .agg (rowA 32 (bF (h3))) := f44
          have f47 : a.tmps.getD 47 undef = .agg (rowA 32 (bF (h3))) := f47
          have f41 : a.tmps.getD 41 undef = .bool true := f41
          refine rely_wp (rely_guard f41) ?_
          exact opr_eql_hash (b := true) rfl f44 f47 (eqH_same _) (hK _ _ (NewT.refl _) rfl)
        · intro a wx hT hF K hK
          obtain ⟨f41, f48, _⟩ := hF
          have f41 : a.tmps.getD 41 undef = .bool true := f41
          have f48 : a.tmps.getD 48 undef = .bool true := f48
          refine rely_wp rfl ?_
          exact opr_pick_true rfl f41 (hK _ _ (NewT.refl _) f48)
        · intro a wx hT hF K hK
          obtain ⟨f49, _⟩ := hF
          have f49 : a.tmps.getD 49 undef = .bool true := f49
          refine rely_wp rfl ?_
          exact opr_move (.inl rfl) (hK _ _ (NewT.refl _) f49)
        · intro a wx hT hF K hK
          obtain ⟨f1, f50, _⟩ := hF
          have f1 : a.tmps.getD 1 undef = v := f1
          have f50 : a.tmps.getD 50 undef = .bool true := f50
          refine rely_wp (rely_guard f50) ?_
          exact opr_move (.inl rfl) (hK _ _ (NewT.refl _) f1)
        · intro a wx hT hF K hK
          obtain ⟨f51, f50, _⟩ := hF
          have f51 : a.tmps.getD 51 undef = v := f51
          have f50 : a.tmps.getD 50 undef = .bool true := f50
          refine rely_wp (rely_guard f50) ?_
          exact opr_idxH (i := 2) (d := h3) (rfl) (rfl) rfl (by rw [eval_tmp, f51]; exact (hT.hs HL.out)) rfl (fun v hv => hK v _ (NewT.refl _) hv)
        · intro a wx hT hF K hK
          obtain ⟨f52, f50, _⟩ := hF
          replace f52 := show (svP (h3)).pred (a.tmps.getD 52 undef) wx from f52
          have f50 : a.tmps.getD 50 undef = .bool true := f50
          refine rely_wp (rely_guard f50) ?_
          exact opr_ldP rfl f52 (hK _ _ (NewT.refl _) rfl)
        · intro a wx hT hF K hK
          obtain ⟨f2, f50, _⟩ := hF
          have f2 : a.tmps.getD 2 undef = u2 := f2
          have f50 : a.tmps.getD 50 undef = .bool true := f50
          refine rely_wp (rely_guard f50) ?_
          exact opr_move (.inl rfl) (hK _ _ (NewT.refl _) f2)
        · intro a wx hT hF K hK
          obtain ⟨f1, f50, _⟩ := hF
          have f1 : a.tmps.getD 1 undef = v := f1
          have f50 : a.tmps.getD 50 undef = .bool true := f50
          refine rely_wp (rely_guard f50) ?_
          exact opr_move (.inl rfl) (hK _ _ (NewT.refl _) f1)
        · intro a wx hT hF K hK
          obtain ⟨f55, f50, _⟩ := hF
          have f55 : a.tmps.getD 55 undef = v := f55
          have f50 : a.tmps.getD 50 undef = .bool true := f50
          refine rely_wp (rely_guard f50) ?_
          exact opr_cv (Root_cv hX _ _ ([h1, h2, h3]) wx (hT.tables HT.out) ((hT.hs HL.out)) (Nat.le_refl _) (by simp)) rfl Tryd.func24 (by kernel_rfl) (by kernel_rfl) (by simp only [List.map_toArray, List.map_cons, List.map_nil, eval_tmp, f55]) hK
        · intro a wx hT hF K hK
          obtain ⟨f53, f54, f56, f50, _⟩ := hF
          have f53 : a.tmps.getD 53 undef = .agg (rowA 32 (bF (h3))) := f53
          have f54 : a.tmps.getD 54 undef = u2 := f54
          have f56 : a.tmps.getD 56 undef = .agg (rowA 32 (bF (rootM node z ([h1, h2, h3])))) := f56
          have f50 : a.tmps.getD 50 undef = .bool true := f50
          refine rely_wp (rely_guard f50) ?_
          exact opr_cv (HI1.out _ wx (hT.tables HT.out) (hT.hs HU2.out)) rfl Tryd.func20 (by kernel_rfl) (by kernel_rfl) (by simp only [List.map_toArray, List.map_cons, List.map_nil, eval_tmp, eval_const, f53, f54, f56]) hK
        · intro a wx hT hF K hK
          obtain ⟨f50, f57, _⟩ := hF
          have f50 : a.tmps.getD 50 undef = .bool true := f50
          have f57 : a.tmps.getD 57 undef = .bool true := f57
          refine rely_wp rfl ?_
          exact opr_pick_true rfl f50 (hK _ _ (NewT.refl _) f57)
        · intro a wx hT hF K hK
          obtain ⟨f58, _⟩ := hF
          have f58 : a.tmps.getD 58 undef = .bool true := f58
          refine rely_wp rfl ?_
          exact opr_move (.inl rfl) (hK _ _ (NewT.refl _) f58)
        · intro a wx hT hF K hK
          obtain ⟨f1, f59, _⟩ := hF
          have f1 : a.tmps.getD 1 undef = v := f1
          have f59 : a.tmps.getD 59 undef = .bool true := f59
          refine rely_wp (rely_guard f59) ?_
          exact opr_move (.inl rfl) (hK _ _ (NewT.refl _) f1)
        · intro a wx hT hF K hK
          obtain ⟨f60, f59, _⟩ := hF
          have f60 : a.tmps.getD 60 undef = v := f60
          have f59 : a.tmps.getD 59 undef = .bool true := f59
          refine rely_wp (rely_guard f59) ?_
          exact opr_idxH (i := 1) (d := h2) (rfl) (rfl) rfl (by rw [eval_tmp, f60]; exact (hT.hs HL.out)) rfl (fun v hv => hK v _ (NewT.refl _) hv)
        · intro a wx hT hF K hK
          obtain ⟨f61, f59, _⟩ := hF
          replace f61 := show (svP (h2)).pred (a.tmps.getD 61 undef) wx from f61
          have f59 : a.tmps.getD 59 undef = .bool true := f59
          refine rely_wp (rely_guard f59) ?_
          exact opr_ldP rfl f61 (hK _ _ (NewT.refl _) rfl)
        · intro a wx hT hF K hK
          obtain ⟨f2, f59, _⟩ := hF
          have f2 : a.tmps.getD 2 undef = u2 := f2
          have f59 : a.tmps.getD 59 undef = .bool true := f59
          refine rely_wp (rely_guard f59) ?_
          exact opr_move (.inl rfl) (hK _ _ (NewT.refl _) f2)
        · intro a wx hT hF K hK
          obtain ⟨f1, f59, _⟩ := hF
          have f1 : a.tmps.getD 1 undef = v := f1
          have f59 : a.tmps.getD 59 undef = .bool true := f59
          refine rely_wp (rely_guard f59) ?_
          exact opr_move (.inl rfl) (hK _ _ (NewT.refl _) f1)
        · intro a wx hT hF K hK
          obtain ⟨f64, f59, _⟩ := hF
          have f64 : a.tmps.getD 64 undef = v := f64
          have f59 : a.tmps.getD 59 undef = .bool true := f59
          refine rely_wp (rely_guard f59) ?_
          exact opr_cv (Root_cv hX _ _ ([h1, h2, h3]) wx (hT.tables HT.out) ((hT.hs HL.out)) (Nat.le_refl _) (by simp)) rfl Tryd.func24 (by kernel_rfl) (by kernel_rfl) (by simp only [List.map_toArray, List.map_cons, List.map_nil, eval_tmp, f64]) hK
        · intro a wx hT hF K hK
          obtain ⟨f62, f63, f65, f59, _⟩ := hF
          have f62 : a.tmps.getD 62 undef = .agg (rowA 32 (bF (h2))) := f62
          have f63 : a.tmps.getD 63 undef = u2 := f63
          have f65 : a.tmps.getD 65 undef = .agg (rowA 32 (bF (rootM node z ([h1, h2, h3])))) := f65
          have f59 : a.tmps.getD 59 undef = .bool true := f59
          refine rely_wp (rely_guard f59) ?_
          exact opr_cv (HI2.out _ wx (hT.tables HT.out) (hT.hs HU2.out)) rfl Tryd.func20 (by kernel_rfl) (by kernel_rfl) (by simp only [List.map_toArray, List.map_cons, List.map_nil, eval_tmp, eval_const, f62, f63, f65]) hK
        · intro a wx hT hF K hK
          obtain ⟨f66, f59, _⟩ := hF
          have f66 : a.tmps.getD 66 undef = .bool false := f66
          have f59 : a.tmps.getD 59 undef = .bool true := f59
          refine rely_wp (rely_guard f59) ?_
          exact opr_not rfl f66 (hK _ _ (NewT.refl _) rfl)
        · intro a wx hT hF K hK
          obtain ⟨f59, f67, _⟩ := hF
          have f59 : a.tmps.getD 59 undef = .bool true := f59
          have f67 : a.tmps.getD 67 undef = .bool true := f67
          refine rely_wp rfl ?_
          exact opr_pick_true rfl f59 (hK _ _ (NewT.refl _) f67)
        · intro a wx hT hF K hK
          obtain ⟨f68, _⟩ := hF
          have f68 : a.tmps.getD 68 undef = .bool true := f68
          refine rely_wp rfl ?_
          exact opr_move (.inl rfl) (hK _ _ (NewT.refl _) f68)
        · intro a wx hT hF K hK
          obtain ⟨f1, f69, _⟩ := hF
          have f1 : a.tmps.getD 1 undef = v := f1
          have f69 : a.tmps.getD 69 undef = .bool true := f69
          refine rely_wp (rely_guard f69) ?_
          exact opr_move (.inl rfl) (hK _ _ (NewT.refl _) f1)
        · intro a wx hT hF K hK
          obtain ⟨f70, f69, _⟩ := hF
          have f70 : a.tmps.getD 70 undef = v := f70
          have f69 : a.tmps.getD 69 undef = .bool true := f69
          refine rely_wp (rely_guard f69) ?_
          exact opr_toH (k := 2) (by simp) (rfl) rfl (by rw [eval_tmp, f70]; exact (hT.hs HL.out)) rfl (fun v hv => hK v _ (NewT.refl _) hv)
        · intro a wx hT hF K hK
          obtain ⟨f71, f69, _⟩ := hF
          replace f71 := show (svH (List.take 2 ([h1, h2, h3]))).pred (a.tmps.getD 71 undef) wx from f71
          have f69 : a.tmps.getD 69 undef = .bool true := f69
          refine rely_wp (rely_guard f69) ?_
          exact opr_cv (Root_cv hX _ _ (List.take 2 ([h1, h2, h3])) wx (hT.tables HT.out) (f71) (Nat.le_refl _) (by simp)) rfl Tryd.func24 (by kernel_rfl) (by kernel_rfl) (by simp only [List.map_toArray, List.map_cons, List.map_nil, eval_tmp]) hK
        · intro a wx hT hF K hK
          obtain ⟨f1, f69, _⟩ := hF
          have f1 : a.tmps.getD 1 undef = v := f1
          have f69 : a.tmps.getD 69 undef = .bool true := f69
          refine rely_wp (rely_guard f69) ?_
          exact opr_move (.inl rfl) (hK _ _ (NewT.refl _) f1)
        · intro a wx hT hF K hK
          obtain ⟨f73, f69, _⟩ := hF
          have f73 : a.tmps.getD 73 undef = v := f73
          have f69 : a.tmps.getD 69 undef = .bool true := f69
          refine rely_wp (rely_guard f69) ?_
          exact opr_cv (Root_cv hX _ _ ([h1, h2, h3]) wx (hT.tables HT.out) ((hT.hs HL.out)) (Nat.le_refl _) (by simp)) rfl Tryd.func24 (by kernel_rfl) (by kernel_rfl) (by simp only [List.map_toArray, List.map_cons, List.map_nil, eval_tmp, f73]) hK
        · intro a wx hT hF K hK
          obtain ⟨f4, f69, _⟩ := hF
          have f4 : a.tmps.getD 4 undef = u4 := f4
          have f69 : a.tmps.getD 69 undef = .bool true := f69
          refine rely_wp (rely_guard f69) ?_
          exact opr_move (.inl rfl) (hK _ _ (NewT.refl _) f4)
        · intro a wx hT hF K hK
          obtain ⟨f72, f74, f75, f69, _⟩ := hF
          have f72 : a.tmps.getD 72 undef = .agg (rowA 32 (bF (rootM node z (List.take 2 ([h1, h2, h3]))))) := f72
          have f74 : a.tmps.getD 74 undef = .agg (rowA 32 (bF (rootM node z ([h1, h2, h3])))) := f74
          have f75 : a.tmps.getD 75 undef = u4 := f75
          have f69 : a.tmps.getD 69 undef = .bool true := f69
          refine rely_wp (rely_guard f69) ?_
          exact opr_cv (HB.out _ wx (hT.tables HT.out) (hT.hs HU4.out)) rfl Tryd.func22 (by kernel_rfl) (by kernel_rfl) (by simp only [List.map_toArray, List.map_cons, List.map_nil, eval_tmp, eval_const, f72, f74, f75]) hK
        · intro a wx hT hF K hK
          obtain ⟨f69, f76, _⟩ := hF
          have f69 : a.tmps.getD 69 undef = .bool true := f69
          have f76 : a.tmps.getD 76 undef = .bool true := f76
          refine rely_wp rfl ?_
          exact opr_pick_true rfl f69 (hK _ _ (NewT.refl _) f76)
        · intro w6 k6
          intro u h; obtain rfl := Eq.symm (h (by simp)); clear h
          intro u h; obtain rfl := Eq.symm (h (by simp)); clear h
          intro u h; obtain rfl := Eq.symm (h (by simp)); clear h
          intro u h; obtain rfl := Eq.symm (h (by simp)); clear h
          intro u h; obtain rfl := Eq.symm (h (by simp)); clear h
          intro u h; obtain rfl := Eq.symm (h (by simp)); clear h
          intro _ _
          intro u h; obtain rfl := Eq.symm (h (by simp)); clear h
          intro u h; obtain rfl := Eq.symm (h (by simp)); clear h
          intro _ _
          intro u h; obtain rfl := Eq.symm (h (by simp)); clear h
          intro u h; obtain rfl := Eq.symm (h (by simp)); clear h
          intro u h; obtain rfl := Eq.symm (h (by simp)); clear h
          intro u h; obtain rfl := Eq.symm (h (by simp)); clear h
          intro u h; obtain rfl := Eq.symm (h (by simp)); clear h
          intro _ _
          intro u h; obtain rfl := Eq.symm (h (by simp)); clear h
          intro u h; obtain rfl := Eq.symm (h (by simp)); clear h
          intro _ _
          intro u h; obtain rfl := Eq.symm (h (by simp)); clear h
          intro u h; obtain rfl := Eq.symm (h (by simp)); clear h
          intro u h; obtain rfl := Eq.symm (h (by simp)); clear h
          intro u h; obtain rfl := Eq.symm (h (by simp)); clear h
          intro u h; obtain rfl := Eq.symm (h (by simp)); clear h
          intro _ _
          intro u h; obtain rfl := Eq.symm (h (by simp)); clear h
          intro u h; obtain rfl := Eq.symm (h (by simp)); clear h
          intro u h; obtain rfl := Eq.symm (h (by simp)); clear h
          intro u h; obtain rfl := Eq.symm (h (by simp)); clear h
          intro u h; obtain rfl := Eq.symm (h (by simp)); clear h
          intro u h; obtain rfl := Eq.symm (h (by simp)); clear h
          intro u h; obtain rfl := Eq.symm (h (by simp)); clear h
          intro u h; obtain rfl := Eq.symm (h (by simp)); clear h
          intro _ _
          intro u h; obtain rfl := Eq.symm (h (by simp)); clear h
          intro u h; obtain rfl := Eq.symm (h (by simp)); clear h
          intro u h; obtain rfl := Eq.symm (h (by simp)); clear h
          intro u h; obtain rfl := Eq.symm (h (by simp)); clear h
          intro u h; obtain rfl := Eq.symm (h (by simp)); clear h
          intro u h; obtain rfl := Eq.symm (h (by simp)); clear h
          intro u h; obtain rfl := Eq.symm (h (by simp)); clear h
          intro u h; obtain rfl := Eq.symm (h (by simp)); clear h
          intro u h; obtain rfl := Eq.symm (h (by simp)); clear h
          intro _ _
          intro u h; obtain rfl := Eq.symm (h (by simp)); clear h
          intro u h; obtain rfl := Eq.symm (h (by simp)); clear h
          intro u h; obtain rfl := Eq.symm (h (by simp)); clear h
          intro u h; obtain rfl := Eq.symm (h (by simp)); clear h
          intro u h; obtain rfl := Eq.symm (h (by simp)); clear h
          intro u h; obtain rfl := Eq.symm (h (by simp)); clear h
          refine relyEnd_nil rfl ?_
          simp only [Act.put, List.setIfInBounds_toArray, List.set_cons_zero, List.set_cons_succ]
          refine opr_move (.inr rfl) ?_
          go_simp
          go_wp2
          go_ret
          exact ⟨rfl, (NewT.trans _ _ _ HN.out k6).out⟩
end Go.Proofs.YtoigjcadncecpaaDoor
/- What the laws of layer 6 share: what Begins, In and Comes say of a list's own proofs and paths. -/
namespace Go.Proofs.YtoigjcadncecpaaDoor
open Go Go.RowKit
set_option maxRecDepth 8000
set_option linter.all false
theorem eqH_comm (d e : Hs) : eqH d e = eqH e d := by
  unfold eqH
  congr 1; funext i
  exact Bool.eq_iff_iff.2 ⟨fun h => by simpa using (by simpa using h : bN (d i) = bN (e i)).symm, fun h => by simpa using (by simpa using h : bN (e i) = bN (d i)).symm⟩
theorem Beg_0 {node : Hs → Hs → Hs} {z : Hs} (hX : TreeH node z) (other : Hs) (n : Nat) (hn : n ≤ 1000) (w : World) (hT : Tables w) : Cv 22 #[.int .i64 0, .int .i64 (n : Int), .agg (rowA 32 (bF z)), .agg (rowA 32 (bF other)), .slice none 0 0] w (.eq (.bool true)) := by
  have h := Begins_cv hX z other 0 (n : Int) _ [] w hT (rdH_nil w) (by simp)
  have e : begM node z 0 (n : Int) z other [] = true := by
    unfold begM beg0; rw [if_pos rfl, eqH_same]; simp; omega
  rw [e] at h; exact h
theorem Beg_01 {node : Hs → Hs → Hs} {z : Hs} (hX : TreeH node z) (other d : Hs) (n : Nat) (u : Value) (w : World) (hT : Tables w) (hu : RdH w u [d]) : Cv 22 #[.int .i64 0, .int .i64 (n : Int), .agg (rowA 32 (bF z)), .agg (rowA 32 (bF other)), u] w (.eq (.bool false)) := by
  have h := Begins_cv hX z other 0 (n : Int) _ [d] w hT hu (by simp)
  have e : begM node z 0 (n : Int) z other [d] = false := by
    unfold begM beg0; rw [if_pos rfl]; simp
  rw [e] at h; exact h
theorem beg_list {node : Hs → Hs → Hs} {z : Hs} (l : List Hs) (m : Nat) (all : Hs) (h1 : 1 ≤ m) (hm : m ≤ l.length) (hn : l.length ≤ 1048576) : begM node z (m : Int) (l.length : Int) (rootM node z (l.take m)) all (subM node z m l true) = eqH (rootM node z l) all := by
  obtain ⟨e1, e2⟩ := both_root (node := node) (z := z) (fun _ => 0) l m h1 hm hn
  unfold begM
  rw [if_neg (by omega), e1, e2, eqH_same]; rfl
theorem Beg_list {node : Hs → Hs → Hs} {z : Hs} (hX : TreeH node z) (l : List Hs) (m : Nat) (all : Hs) (u : Value) (w : World) (hT : Tables w) (h1 : 1 ≤ m) (hm : m ≤ l.length) (hn : l.length ≤ 1000) (hu : RdH w u (subM node z m l true)) : Cv 22 #[.int .i64 (m : Int), .int .i64 (l.length : Int), .agg (rowA 32 (bF (rootM node z (l.take m)))), .agg (rowA 32 (bF all)), u] w (.eq (.bool (eqH (rootM node z l) all))) := by
  have h := Begins_cv hX (rootM node z (l.take m)) all (m : Int) (l.length : Int) _ _ w hT hu (Nat.le_trans (subM_short _ _ _ (by omega)) (by omega))
  rw [beg_list l m all h1 hm (by omega)] at h; exact h
theorem Beg_all {node : Hs → Hs → Hs} {z : Hs} (hX : TreeH node z) (l : List Hs) (all : Hs) (w : World) (hT : Tables w) (h1 : 1 ≤ l.length) (hn : l.length ≤ 1000) : Cv 22 #[.int .i64 (l.length : Int), .int .i64 (l.length : Int), .agg (rowA 32 (bF (rootM node z l))), .agg (rowA 32 (bF all)), .slice none 0 0] w (.eq (.bool (eqH (rootM node z l) all))) := by
  have h := Beg_list hX l l.length all (.slice none 0 0) w hT h1 (Nat.le_refl _) hn (by rw [subM_all _ _ _ _ _ (.inl (Nat.le_refl _)), if_pos rfl]; exact rdH_nil w)
  rw [List.take_length] at h; exact h
end Go.Proofs.YtoigjcadncecpaaDoor
