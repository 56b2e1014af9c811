/- Package rec: what receipts and steps are read from. -/
import Derived.Test.YthgblcpekhiphaaDoorMe
import Derived.Test.YthgblcpekhiphaaDoorMc
import Derived.Test.YthgblcpekhiphaaDoorMb
set_option linter.all false
namespace Go.Proofs.YthgblcpekhiphaaDoor
open Go Go.RowKit
set_option maxRecDepth 8000
set_option maxHeartbeats 2000000 in
theorem readReceipt_cv (R : Nat) (x : Rc) (rest : List UInt8) (w : World) (h : Rdr w R (rcL x ++ rest) 0) (h0 : 0 ≤ x.saga ∧ x.saga ≤ 2147483647) (h1 : 0 ≤ x.seq ∧ x.seq ≤ 2147483647) (h2 : 0 ≤ x.step ∧ x.step ≤ 2147483647) (h3 : 0 ≤ x.tr ∧ x.tr ≤ 2147483647) (h4 : 0 ≤ x.part ∧ x.part ≤ 2147483647) (h5 : 0 ≤ x.epoch ∧ x.epoch ≤ 2147483647) (hl : rest.length ≤ 700000) :
    Calls Tryd.prog 61 #[.pointer (some ⟨R, 0, none⟩)] w fun e w' => e = .returned (.agg (rowA 109 (recF ({ tryR x with good := x.good, part := x.part, epoch := x.epoch, tag := x.tag }) (.slice none 0 0) (.slice none 0 0)))) ∧ RT R w w' ∧ Rdr w' R rest 0 := by
  have hRl := h.lt
  rw [show rcL x ++ rest = callL x ++ (fB x.good :: (numI x.part ++ (numI x.epoch ++ (hL x.tag ++ rest)))) by unfold rcL; simp only [List.append_assoc, List.cons_append]] at h
  have Hr := Lib.hid h
  have n4 := numI_length x.part
  have n5 := numI_length x.epoch
  clear h
  go_enter Tryd.func61, Tryd.ntmps61
  go_upto_region 1 with fail
  have r2 := rowIs_box w 27 109 (recF zR (.slice none 0 0) (.slice none 0 0))
  have hN := NewT.alloc w (.cells (rowA 109 (recF zR (.slice none 0 0) (.slice none 0 0))) 27)
  have hsz : w.heap.size < (w.alloc (.cells (rowA 109 (recF zR (.slice none 0 0) (.slice none 0 0))) 27)).heap.size := by simp
  change Code.wp _ _ _ _ (w.alloc (.cells (rowA 109 (recF zR (.slice none 0 0) (.slice none 0 0))) 27))
  generalize w.alloc (.cells (rowA 109 (recF zR (.slice none 0 0) (.slice none 0 0))) 27) = W0 at r2 hN hsz ⊢
  replace Hr := Lib.hid (Rdr.new Hr.out hN)
  have hne : w.heap.size ≠ R := by omega
  refine wp_region_steps (RT R) (fun k w => Rdr w R (([callL x ++ (fB x.good :: (numI x.part ++ (numI x.epoch ++ (hL x.tag ++ rest)))), callL x ++ (fB x.good :: (numI x.part ++ (numI x.epoch ++ (hL x.tag ++ rest)))), fB x.good :: (numI x.part ++ (numI x.epoch ++ (hL x.tag ++ rest)))] : List (List UInt8)).getD k []) 0) [SV.eq (.pointer (some ⟨R, 0, none⟩)), SV.eq (.agg (rowA 109 (recF (tryR x) (.slice none 0 0) (.slice none 0 0))))] [([(0, none)], none), ([(4, some 0)], none)] 19 2 rfl rfl (by kernel_rfl) RT.trans (RT.refl _ _) Hr.out (Nat.le_of_ble_eq_true rfl) ⟨?_, ?_, trivial⟩ ?_
  · intro a wx hT hF hJ K hK
    replace hK := fun v w' (hN : NewT wx w') c => hK v w' (RT.new (Rdr.lt hJ) hN) (Rdr.new hJ hN) c
    obtain ⟨f0, _⟩ := hF
    have f0 : a.tmps.getD 0 undef = .pointer (some ⟨R, 0, none⟩) := f0
    refine rely_wp rfl ?_
    exact opr_move (.inl rfl) (hK _ _ (NewT.refl _) f0)
  · intro a wx hT hF hJ K hK
    obtain ⟨f4, _⟩ := hF
    have f4 : a.tmps.getD 4 undef = .pointer (some ⟨R, 0, none⟩) := f4
    refine rely_wp rfl ?_
    refine opr_call rfl Tryd.func59 (by kernel_rfl) (by kernel_rfl) (by simp only [List.map_toArray, List.map_cons, List.map_nil, eval_tmp, f4]) ((readTry_cv R x _ wx (show Rdr wx R (callL x ++ (fB x.good :: (numI x.part ++ (numI x.epoch ++ (hL x.tag ++ rest))))) 0 from hJ) h0 h1 h2 h3 (by first | omega | (simp; omega) | (simp [hL_length]; omega))).mono ?_)
    rintro e w' ⟨rfl, hT', hr⟩
    exact ⟨_, rfl, hK _ _ hT' hr rfl⟩
  · intro e1 k1 hJ
    intro u h; obtain rfl := Eq.symm (h (by simp)); clear h
    intro u h; obtain rfl := Eq.symm (h (by simp)); clear h
    refine relyEnd_nil rfl ?_
    simp only [Act.put, List.setIfInBounds_toArray, List.set_cons_zero, List.set_cons_succ]
    refine wpList_new (n := 109) rfl rfl rfl rfl rfl rfl (by simp) run_alloc_rec info_rec (recF_one _ _ _ rfl rfl) rfl ?_
    intro w1 hn1 r3
    refine wpList_end rfl ?_
    simp only [Act.put, List.setIfInBounds_toArray, List.set_cons_zero, List.set_cons_succ]
    go_simp
    have X2 := Lib.hid (hn1.row (k1.row hne r2))
    have X3 := Lib.hid r3
    have HJ1 := Lib.hid (Rdr.new (show Rdr e1 R (fB x.good :: (numI x.part ++ (numI x.epoch ++ (hL x.tag ++ rest)))) 0 from hJ) hn1)
    have HRT0 := Lib.hid (RT.trans _ _ _ (RT.trans _ _ _ (RT.new hRl hN) k1) (RT.new (Rdr.lt (show Rdr e1 R (fB x.good :: (numI x.part ++ (numI x.epoch ++ (hL x.tag ++ rest)))) 0 from hJ)) hn1))
    have hG : w.heap.size < e1.heap.size := Nat.lt_of_lt_of_le hsz k1.size
    clear hJ r3 r2 hN hsz k1 hn1 Hr
    generalize e1.heap.size = G at X3 hG ⊢
    have hGR : G ≠ R := by omega
    have hne2 : w.heap.size ≠ G := by omega
    go_upto_region 2 with fail
    refine wp_region_steps (RT R) (fun k w => Rdr w R (([fB x.good :: (numI x.part ++ (numI x.epoch ++ (hL x.tag ++ rest))), fB x.good :: (numI x.part ++ (numI x.epoch ++ (hL x.tag ++ rest))), numI x.part ++ (numI x.epoch ++ (hL x.tag ++ rest))] : List (List UInt8)).getD k []) 0) [SV.eq (.pointer (some ⟨R, 0, none⟩)), SV.eq (.bool (x.good))] [([(0, none)], none), ([(6, some 0)], none)] 19 2 rfl rfl (by kernel_rfl) RT.trans (RT.refl _ _) HJ1.out (Nat.le_of_ble_eq_true rfl) ⟨?_, ?_, trivial⟩ ?_
    · intro a wx hT hF hJ K hK
      replace hK := fun v w' (hN : NewT wx w') c => hK v w' (RT.new (Rdr.lt hJ) hN) (Rdr.new hJ hN) c
      obtain ⟨f0, _⟩ := hF
      have f0 : a.tmps.getD 0 undef = .pointer (some ⟨R, 0, none⟩) := f0
      refine rely_wp rfl ?_
      exact opr_move (.inl rfl) (hK _ _ (NewT.refl _) f0)
    · intro a wx hT hF hJ K hK
      obtain ⟨f6, _⟩ := hF
      have f6 : a.tmps.getD 6 undef = .pointer (some ⟨R, 0, none⟩) := f6
      refine rely_wp rfl ?_
      refine opr_call rfl Tryd.func80 (by kernel_rfl) (by kernel_rfl) (by simp only [List.map_toArray, List.map_cons, List.map_nil, eval_tmp, f6]) ((RFlag_put R x.good _ wx (show Rdr wx R (fB x.good :: (numI x.part ++ (numI x.epoch ++ (hL x.tag ++ rest)))) 0 from hJ) (by first | omega | (simp; omega) | (simp [hL_length]; omega))).mono ?_)
      rintro e w' ⟨rfl, hT', hr⟩
      exact ⟨_, rfl, hK _ _ hT' hr rfl⟩
    · intro e2 k2 hJ
      intro u h; obtain rfl := Eq.symm (h (by simp)); clear h
      intro u h; obtain rfl := Eq.symm (h (by simp)); clear h
      refine relyEnd_nil rfl ?_
      simp only [Act.put, List.setIfInBounds_toArray, List.set_cons_zero, List.set_cons_succ]
      refine wpList_plain rfl (fun K hK => ?_)
      refine opr_fldR (by decide) rfl rfl (hK _ _ ?_)
      clear hK K
      refine wpList_plain rfl (fun K hK => ?_)
      refine opr_put1 rfl rfl rfl (k2.row hGR X3.out) (by decide) info_b1 rfl (fun i _ => rs_good (tryR x) (.slice none 0 0) (.slice none 0 0) i _) ?_
      intro e3 k3 r4
      refine hK _ _ ?_
      clear hK K
      refine wpList_end rfl ?_
      go_simp
      have HJ2 := Lib.hid (Rdr.rt (show Rdr e2 R (numI x.part ++ (numI x.epoch ++ (hL x.tag ++ rest))) 0 from hJ) k3 (by omega))
      clear hJ
      go_upto_region 3 with fail
      refine wp_region_steps (RT R) (fun k w => Rdr w R (([numI x.part ++ (numI x.epoch ++ (hL x.tag ++ rest)), numI x.part ++ (numI x.epoch ++ (hL x.tag ++ rest)), numI x.epoch ++ (hL x.tag ++ rest), numI x.epoch ++ (hL x.tag ++ rest), hL x.tag ++ rest, hL x.tag ++ rest, rest] : List (List UInt8)).getD k []) 0) [SV.eq (.pointer (some ⟨R, 0, none⟩)), SV.eq (.int .i64 (x.part)), SV.eq (.pointer (some ⟨R, 0, none⟩)), SV.eq (.int .i64 (x.epoch)), SV.eq (.pointer (some ⟨R, 0, none⟩)), SV.eq (.agg (rowA 32 (bF (x.tag))))] [([(0, none)], none), ([(9, some 0)], none), ([(0, none)], none), ([(11, some 2)], none), ([(0, none)], none), ([(13, some 4)], none)] 19 6 rfl rfl (by kernel_rfl) RT.trans (RT.refl _ _) HJ2.out (Nat.le_of_ble_eq_true rfl) ⟨?_, ?_, ?_, ?_, ?_, ?_, trivial⟩ ?_
      · intro a wx hT hF hJ K hK
        replace hK := fun v w' (hN : NewT wx w') c => hK v w' (RT.new (Rdr.lt hJ) hN) (Rdr.new hJ hN) c
        obtain ⟨f0, _⟩ := hF
        have f0 : a.tmps.getD 0 undef = .pointer (some ⟨R, 0, none⟩) := f0
        refine rely_wp rfl ?_
        exact opr_move (.inl rfl) (hK _ _ (NewT.refl _) f0)
      · intro a wx hT hF hJ K hK
        obtain ⟨f9, _⟩ := hF
        have f9 : a.tmps.getD 9 undef = .pointer (some ⟨R, 0, none⟩) := f9
        refine rely_wp rfl ?_
        refine opr_call rfl Tryd.func44 (by kernel_rfl) (by kernel_rfl) (by simp only [List.map_toArray, List.map_cons, List.map_nil, eval_tmp, f9]) ((RNum_put R x.part _ wx (show Rdr wx R (numI x.part ++ (numI x.epoch ++ (hL x.tag ++ rest))) 0 from hJ) (by omega) (by first | omega | (simp; omega) | (simp [hL_length]; omega))).mono ?_)
        rintro e w' ⟨rfl, hT', hr⟩
        exact ⟨_, rfl, hK _ _ hT' hr rfl⟩
      · intro a wx hT hF hJ K hK
        replace hK := fun v w' (hN : NewT wx w') c => hK v w' (RT.new (Rdr.lt hJ) hN) (Rdr.new hJ hN) c
        obtain ⟨f0, _⟩ := hF
        have f0 : a.tmps.getD 0 undef = .pointer (some ⟨R, 0, none⟩) := f0
        refine rely_wp rfl ?_
        exact opr_move (.inl rfl) (hK _ _ (NewT.refl _) f0)
      · intro a wx hT hF hJ K hK
        obtain ⟨f11, _⟩ := hF
        have f11 : a.tmps.getD 11 undef = .pointer (some ⟨R, 0, none⟩) := f11
        refine rely_wp rfl ?_
        refine opr_call rfl Tryd.func44 (by kernel_rfl) (by kernel_rfl) (by simp only [List.map_toArray, List.map_cons, List.map_nil, eval_tmp, f11]) ((RNum_put R x.epoch _ wx (show Rdr wx R (numI x.epoch ++ (hL x.tag ++ rest)) 0 from hJ) (by omega) (by first | omega | (simp; omega) | (simp [hL_length]; omega))).mono ?_)
        rintro e w' ⟨rfl, hT', hr⟩
        exact ⟨_, rfl, hK _ _ hT' hr rfl⟩
      · intro a wx hT hF hJ K hK
        replace hK := fun v w' (hN : NewT wx w') c => hK v w' (RT.new (Rdr.lt hJ) hN) (Rdr.new hJ hN) c
        obtain ⟨f0, _⟩ := hF
        have f0 : a.tmps.getD 0 undef = .pointer (some ⟨R, 0, none⟩) := f0
        refine rely_wp rfl ?_
        exact opr_move (.inl rfl) (hK _ _ (NewT.refl _) f0)
      · intro a wx hT hF hJ K hK
        obtain ⟨f13, _⟩ := hF
        have f13 : a.tmps.getD 13 undef = .pointer (some ⟨R, 0, none⟩) := f13
        refine rely_wp rfl ?_
        refine opr_call rfl Tryd.func81 (by kernel_rfl) (by kernel_rfl) (by simp only [List.map_toArray, List.map_cons, List.map_nil, eval_tmp, f13]) ((RHash_put R x.tag _ wx (show Rdr wx R (hL x.tag ++ rest) 0 from hJ)).mono ?_)
        rintro e w' ⟨rfl, hT', hr⟩
        exact ⟨_, rfl, hK _ _ hT' hr rfl⟩
      · intro e4 k4 hJ
        intro u h; obtain rfl := Eq.symm (h (by simp)); clear h
        intro u h; obtain rfl := Eq.symm (h (by simp)); clear h
        intro u h; obtain rfl := Eq.symm (h (by simp)); clear h
        intro u h; obtain rfl := Eq.symm (h (by simp)); clear h
        intro u h; obtain rfl := Eq.symm (h (by simp)); clear h
        intro u h; obtain rfl := Eq.symm (h (by simp)); clear h
        refine relyEnd_nil rfl ?_
        simp only [Act.put, List.setIfInBounds_toArray, List.set_cons_zero, List.set_cons_succ]
        refine wpList_plain rfl (fun K hK => ?_)
        refine opr_fldR (by decide) rfl rfl (hK _ _ ?_)
        clear hK K
        refine wpList_plain rfl (fun K hK => ?_)
        refine opr_put1 rfl rfl rfl (k4.row hGR r4) (by decide) info_i1 rfl (fun i _ => rs_part ({ tryR x with good := x.good }) (.slice none 0 0) (.slice none 0 0) i _) ?_
        intro e5 k5 r5
        refine hK _ _ ?_
        clear hK K
        refine wpList_plain rfl (fun K hK => ?_)
        refine opr_fldR (by decide) rfl rfl (hK _ _ ?_)
        clear hK K
        refine wpList_plain rfl (fun K hK => ?_)
        refine opr_put1 rfl rfl rfl r5 (by decide) info_i1 rfl (fun i _ => rs_epoch ({ tryR x with good := x.good, part := x.part }) (.slice none 0 0) (.slice none 0 0) i _) ?_
        intro e6 k6 r6
        refine hK _ _ ?_
        clear hK K
        refine wpList_plain rfl (fun K hK => ?_)
        refine opr_fldR (by decide) rfl rfl (hK _ _ ?_)
        clear hK K
        refine wpList_plain rfl (fun K hK => ?_)
        refine opr_putm rfl rfl rfl r6 (by decide) info31 (fun _ => rfl) (fun i hi => rs_tag ({ tryR x with good := x.good, part := x.part, epoch := x.epoch }) (.slice none 0 0) (.slice none 0 0) i _ hi) ?_
        intro e7 k7 r7
        refine hK _ _ ?_
        clear hK K
        refine wpList_end rfl ?_
        go_simp
        have HJ3 := Lib.hid (Rdr.rt (Rdr.rt (Rdr.rt (show Rdr e4 R rest 0 from hJ) k5 (by omega)) k6 (by omega)) k7 (by omega))
        have HRT : Hid (RT R w e7) := Lib.hid (RT.late2 (RT.late2 (RT.late2 (RT.trans _ _ _ (RT.late2 (RT.trans _ _ _ HRT0.out k2) (Nat.le_of_lt hG) hRl k3) k4) (Nat.le_of_lt hG) hRl k5) (Nat.le_of_lt hG) hRl k6) (Nat.le_of_lt hG) hRl k7)
        have HX2 : Hid (e7.rowIs w.heap.size 27 109 (recF zR (.slice none 0 0) (.slice none 0 0))) := Lib.hid (k7.row hne2 (k6.row hne2 (k5.row hne2 (k4.row hne (k3.row hne2 (k2.row hne X2.out))))))
        clear hJ
        go_upto_region 4 with fail
        refine wp_region_steps0 NewT [SV.eq (.agg (rowA 109 (recF ({ tryR x with good := x.good, part := x.part, epoch := x.epoch, tag := x.tag }) (.slice none 0 0) (.slice none 0 0))))] [([(3, none)], none)] 19 1 rfl rfl (by kernel_rfl) NewT.trans (NewT.refl _) (Nat.le_of_ble_eq_true rfl) ⟨?_, trivial⟩ ?_
        · intro a wx hT hF K hK
          obtain ⟨f3, _⟩ := hF
          have f3 : a.tmps.getD 3 undef = .pointer (some ⟨G, 0, none⟩) := f3
          refine rely_wp rfl ?_
          exact opr_ldR (hT.row r7) rfl f3 (hK _ _ (NewT.refl _) rfl)
        · intro wf kf
          intro u h; obtain rfl := Eq.symm (h (by simp)); clear h
          refine relyEnd_nil rfl ?_
          simp only [Act.put, List.setIfInBounds_toArray, List.set_cons_zero, List.set_cons_succ]
          refine wpList_plain rfl (fun K hK => ?_)
          refine opr_putm rfl rfl rfl (kf.row HX2.out) (by decide) info_rec (recF_one _ _ _ rfl rfl) (put_all _ _) ?_
          intro wq hTq rq
          refine hK _ _ ?_
          refine wpList_end rfl ?_
          go_simp
          go_wp2
          exact bodyPost_ret (results_agg rfl _ rfl rq Tryd.underlying27 rfl info_rec) rfl ⟨rfl, RT.late2 (RT.trans _ _ _ (HRT.out) (RT.new (Nat.lt_of_lt_of_le hRl HRT.out.size) kf)) (Nat.le_refl _) hRl hTq, Rdr.rt (HJ3.out.new kf) hTq hRl⟩
theorem build_step (s : Int × Int) (w : World) : (Instr.build 46 #[(0, .int .i64 s.1), (1, .int .i64 s.2)]).run Tryd.prog w = .ok (.agg (rowA 2 (stepF s))) w := by kernel_rfl
theorem run_bsS (s : Int × Int) (w : World) : (Instr.buildSlice 24 1 #[(0, .agg (rowA 2 (stepF s)))]).run Tryd.prog w = .ok (.slice (some ⟨w.heap.size, 0, none⟩) 1 1) (w.alloc (.cells #[.int .i64 s.1, .int .i64 s.2] 46)) := by kernel_rfl
theorem opr_bsS {a : Act} {w : World} {o : Oper} {K : Act → World → Prop} {Q : Exit → Act → World → Prop} {x : Operand} {s : Int × Int} (ho : o.op = .buildSlice 24 1 #[(0, x)]) (hx : a.eval x = .agg (rowA 2 (stepF s))) (h : K (a.put o.dst (.slice (some ⟨w.heap.size, 0, none⟩) 1 1)) (w.alloc (.cells #[.int .i64 s.1, .int .i64 s.2] 46))) : o.wp Tryd.prog a w K Q := by
  obtain ⟨dst, op, type, pos, after, guard⟩ := o
  simp only at ho
  subst ho
  exact opr_val (s := Instr.buildSlice 24 1 #[(0, a.eval x)]) (by simp [execOp]) (by rw [hx]; exact run_bsS s w) h
theorem rdP_one (s : Int × Int) (w : World) : RdP (w.alloc (.cells #[.int .i64 s.1, .int .i64 s.2] 46)) (.slice (some ⟨w.heap.size, 0, none⟩) 1 1) [s] := by
  refine ⟨some ⟨w.heap.size, 0, none⟩, 1, rfl, Nat.le_refl _, by unfold maxLen; omega, fun _ => ⟨w.heap.size, 0, rfl, fun i hi => ?_⟩⟩
  obtain rfl : i = 0 := by simpa using hi
  exact ⟨by rw [cell_new_fr _ _ _ _ _ _ rfl]; rfl, by rw [cell_new_fr _ _ _ _ _ _ rfl]; rfl⟩
theorem rt_grown {R : Nat} {W w w' : World} {L : List Nat} (h : RT R W w) (hK : KeepBut L w w') (hL : ∀ k ∈ L, W.heap.size ≤ k) (hR : R < W.heap.size) (hB : Below W.heap.size w w') : RT R W w' :=
  ⟨h.below.trans (hB.mono (Nat.le_of_lt hR)), Nat.le_trans h.keep.1 hK.1, fun k o hk ho hc => hK.2 k o (fun hm => by have := hL k hm; have := (Array.getElem?_eq_some_iff.1 ho).1; omega) (h.keep.2 k o hk ho hc) hc⟩
theorem drop_step (l : List (Int × Int)) (k : Nat) (hk : k < l.length) (rest : List UInt8) : stepsL (l.drop k) ++ rest = numI (l.getD k (0, 0)).1 ++ (numI (l.getD k (0, 0)).2 ++ (stepsL (l.drop (k + 1)) ++ rest)) := by
  have e : l.drop k = l.getD k (0, 0) :: l.drop (k + 1) := by rw [List.drop_eq_getElem_cons hk]; simp [List.getD, hk]
  rw [e]
  simp only [stepsL, List.flatMap_cons, List.append_assoc]
set_option maxHeartbeats 2000000 in
theorem readSteps_cv (R : Nat) (l : List (Int × Int)) (rest : List UInt8) (w : World) (h : Rdr w R (numI l.length ++ (stepsL l ++ rest)) 0) (hn : l.length ≤ 6) (hs : l.all stepOk = true) (hl : rest.length ≤ 700000) :
    Calls Tryd.prog 79 #[.pointer (some ⟨R, 0, none⟩)] w fun e w' => ∃ v, e = .returned v ∧ RdPB w' w.heap.size v l ∧ RT R w w' ∧ Rdr w' R rest 0 := by
  have hRl := h.lt
  have Hr := Lib.hid h
  have hsl := stepsL_len l
  have Hs := Lib.hid hs
  clear h hs
  generalize hnn : l.length = n at *
  have Hn := Lib.hid hnn
  clear hnn
  have i0 : ¬ (6 : Int) < (n : Int) := by omega
  go_enter Tryd.func79, Tryd.ntmps79
  go_wp2_with (go_at_call 44; refine (RNum_put R n _ w Hr.out (by omega) (by simp; omega)).mono ?_; rintro _ w1 ⟨rfl, hT1, hr1⟩; have Hr1 := Lib.hid hr1; clear hr1)
  go_loopw [4, 12] (fun v i wr => ∃ k : Nat, k ≤ n ∧ i = .int .i64 k ∧ wr.ownsRow w.heap.size 46 2 v (l.take k).length (pc (l.take k)) ∧ RT R w wr ∧ Rdr wr R (stepsL (l.drop k) ++ rest) 0) (fun _ i _ => n - (intOf i).toNat)
  case atStart => exact ⟨0, by omega, rfl, World.ownsRow_nil _ _ _ _, hT1, by simpa using Hr1.out⟩
  case round =>
    obtain ⟨k, hk, rfl, hown, qT, hz⟩ := hrel
    clear hT1 Hr1
    by_cases hlt : k < n
    · have hkl : k < l.length := by rw [Hn.out]; exact hlt
      rw [drop_step l k hkl rest] at hz
      have hok : stepOk (l.getD k (0, 0)) = true := List.all_eq_true.1 Hs.out _ (by simp [List.getD, hkl])
      simp only [stepOk, Bool.and_eq_true, inR_iff] at hok
      have Htk : Hid (l.take (k + 1) = l.take k ++ [l.getD k (0, 0)]) := Lib.hid (by rw [List.take_add_one, List.getElem?_eq_getElem hkl]; simp [List.getD, hkl])
      have htl : (l.take k).length ≤ 6 := by simp; omega
      generalize l.getD k (0, 0) = s at hz hok Htk
      have hzl : (stepsL (l.drop (k + 1)) ++ rest).length ≤ 800000 := by have := stepsL_len (l.drop (k + 1)); simp at this ⊢; have := Hn.out; omega
      generalize hzz : stepsL (l.drop (k + 1)) ++ rest = z at hz hzl
      have HZ := Lib.hid hzz
      clear hzz
      have Hz := Lib.hid hz
      clear hz
      have n1 := numI_length s.1
      have n2 := numI_length s.2
      have it : (k : Int) < (n : Int) := by omega
      have hs1 : 0 ≤ s.1 ∧ s.1 ≤ 2147483647 := by omega
      have hs2 : 0 ≤ s.2 ∧ s.2 ≤ 2147483647 := by omega
      clear hok
      go_upto_region 8 with fail
      refine wp_region_steps (RT R) (fun k w => Rdr w R (([numI s.1 ++ (numI s.2 ++ z), numI s.1 ++ (numI s.2 ++ z), numI s.1 ++ (numI s.2 ++ z), numI s.2 ++ z, numI s.2 ++ z, z, z] : List (List UInt8)).getD k []) 0) [SV.eq (u4), SV.eq (.pointer (some ⟨R, 0, none⟩)), SV.eq (.int .i64 (s.1)), SV.eq (.pointer (some ⟨R, 0, none⟩)), SV.eq (.int .i64 (s.2)), SV.eq (.agg (rowA 2 (stepF s)))] [([(4, none)], none), ([(0, none)], none), ([(15, some 1)], none), ([(0, none)], none), ([(17, some 3)], none), ([(16, some 2), (18, some 4)], none)] 24 6 rfl rfl (by kernel_rfl) RT.trans (RT.refl _ _) Hz.out (Nat.le_of_ble_eq_true rfl) ⟨?_, ?_, ?_, ?_, ?_, ?_, trivial⟩ ?_
      · intro a wx hT hF hJ K hK
        replace hK := fun v w' (hN : NewT wx w') c => hK v w' (RT.new (Rdr.lt hJ) hN) (Rdr.new hJ hN) c
        obtain ⟨f4, _⟩ := hF
        have f4 : a.tmps.getD 4 undef = u4 := f4
        refine rely_wp rfl ?_
        exact opr_move (.inl rfl) (hK _ _ (NewT.refl _) f4)
      · intro a wx hT hF hJ K hK
        replace hK := fun v w' (hN : NewT wx w') c => hK v w' (RT.new (Rdr.lt hJ) hN) (Rdr.new hJ hN) c
        obtain ⟨f0, _⟩ := hF
        have f0 : a.tmps.getD 0 undef = .pointer (some ⟨R, 0, none⟩) := f0
        refine rely_wp rfl ?_
        exact opr_move (.inl rfl) (hK _ _ (NewT.refl _) f0)
      · intro a wx hT hF hJ K hK
        obtain ⟨f15, _⟩ := hF
        have f15 : a.tmps.getD 15 undef = .pointer (some ⟨R, 0, none⟩) := f15
        refine rely_wp rfl ?_
        refine opr_call rfl Tryd.func44 (by kernel_rfl) (by kernel_rfl) (by simp only [List.map_toArray, List.map_cons, List.map_nil, eval_tmp, f15]) ((RNum_put R s.1 _ wx (show Rdr wx R (numI s.1 ++ (numI s.2 ++ z)) 0 from hJ) (by omega) (by first | omega | (simp; omega) | (simp [hL_length]; omega))).mono ?_)
        rintro e w' ⟨rfl, hT', hr⟩
        exact ⟨_, rfl, hK _ _ hT' hr rfl⟩
      · intro a wx hT hF hJ K hK
        replace hK := fun v w' (hN : NewT wx w') c => hK v w' (RT.new (Rdr.lt hJ) hN) (Rdr.new hJ hN) c
        obtain ⟨f0, _⟩ := hF
        have f0 : a.tmps.getD 0 undef = .pointer (some ⟨R, 0, none⟩) := f0
        refine rely_wp rfl ?_
        exact opr_move (.inl rfl) (hK _ _ (NewT.refl _) f0)
      · intro a wx hT hF hJ K hK
        obtain ⟨f17, _⟩ := hF
        have f17 : a.tmps.getD 17 undef = .pointer (some ⟨R, 0, none⟩) := f17
        refine rely_wp rfl ?_
        refine opr_call rfl Tryd.func44 (by kernel_rfl) (by kernel_rfl) (by simp only [List.map_toArray, List.map_cons, List.map_nil, eval_tmp, f17]) ((RNum_put R s.2 _ wx (show Rdr wx R (numI s.2 ++ z) 0 from hJ) (by omega) (by first | omega | (simp; omega) | (simp [hL_length]; omega))).mono ?_)
        rintro e w' ⟨rfl, hT', hr⟩
        exact ⟨_, rfl, hK _ _ hT' hr rfl⟩
      · intro a wx hT hF hJ K hK
        replace hK := fun v w' (hN : NewT wx w') c => hK v w' (RT.new (Rdr.lt hJ) hN) (Rdr.new hJ hN) c
        obtain ⟨f16, f18, _⟩ := hF
        have f16 : a.tmps.getD 16 undef = .int .i64 (s.1) := f16
        have f18 : a.tmps.getD 18 undef = .int .i64 (s.2) := f18
        refine rely_wp rfl ?_
        exact opr_build rfl (by simp only [List.map_toArray, List.map_cons, List.map_nil, eval_tmp, f16, f18]) (build_step s wx) (hK _ _ (NewT.refl _) rfl)
      · intro e8 k8 hJ
        intro u h; obtain rfl := Eq.symm (h (by simp)); clear h
        intro u h; obtain rfl := Eq.symm (h (by simp)); clear h
        intro u h; obtain rfl := Eq.symm (h (by simp)); clear h
        intro u h; obtain rfl := Eq.symm (h (by simp)); clear h
        intro u h; obtain rfl := Eq.symm (h (by simp)); clear h
        intro u h; obtain rfl := Eq.symm (h (by simp)); clear h
        refine relyEnd_nil rfl ?_
        simp only [Act.put, List.setIfInBounds_toArray, List.set_cons_zero, List.set_cons_succ]
        replace hJ : Rdr e8 R z 0 := hJ
        have hNa := NewT.alloc e8 (.cells #[.int .i64 s.1, .int .i64 s.2] 46)
        obtain ⟨v', w', hr, ho', hg⟩ := run_append_steps (ownsRow_new (ownsRow_rt hown k8 hRl) hNa) (rdP_one s e8) (fun n c h => by cases h) (by simp; omega) (Nat.le_trans (Nat.le_trans (RT.size qT) k8.size) hNa.out.size) 24
        have hK2 : KeepBut u4.ownBlock.toList (e8.alloc (.cells #[.int .i64 s.1, .int .i64 s.2] 46)) w' := keepBut_grown hg (fun k h => by simp [h])
        have hGb : ∀ k ∈ u4.ownBlock.toList, w.heap.size ≤ k := fun k hk => by simp at hk; exact (hown.lt k hk).1
        have hJ2 : Rdr w' R z 0 := (hJ.new hNa).keep (fun k hk => by have := hGb k hk; omega) hK2
        have qT2 : RT R w w' := rt_grown (RT.trans _ _ _ (RT.trans _ _ _ qT k8) (RT.new hJ.lt hNa)) hK2 hGb hRl (Below.grown (Below.refl w.heap.size _) hg (Nat.le_trans (Nat.le_trans (RT.size qT) k8.size) hNa.out.size) (fun k hk => (hown.lt k hk).1))
        have Ho := Lib.hid ho'
        clear ho' hg hK2 hJ hNa
        refine wpList_plain rfl (fun K hK => ?_)
        refine opr_bsS rfl rfl (hK _ _ ?_)
        clear hK K
        refine wpList_plain rfl (fun K hK => ?_)
        refine opr_append rfl rfl rfl hr (hK _ _ ?_)
        clear hK K hr
        refine wpList_plain rfl (fun K hK => ?_)
        refine opr_move (.inr rfl) (hK _ _ ?_)
        clear hK K
        refine wpList_end rfl ?_
        go_simp
        go_wp2
        go_roundw
        case rel => exact ⟨k + 1, by omega, by go_num, by rw [Htk.out]; exact Ho.out, qT2, by rw [HZ.out]; exact hJ2⟩
        case measure => simp [intOf]; omega
    · obtain rfl : k = n := by omega
      have Ho : Hid (wr.ownsRow w.heap.size 46 2 u4 l.length (pc l)) := Lib.hid (by rw [← Hn.out, List.take_length] at hown; exact hown)
      have Hz2 : Hid (Rdr wr R rest 0) := Lib.hid (by rw [← Hn.out, List.drop_length] at hz; simpa [stepsL] using hz)
      clear hown hz
      go_wp2
      go_ret
      refine ⟨_, rfl, ⟨rdP_own Ho.out, fun _ a n c e => ?_⟩, qT, Hz2.out⟩
      rcases Ho.out.2 with ⟨h, _⟩ | ⟨g, cap, cur, h, hb, _⟩
      · have e' := h.symm.trans e; cases e'
      · have e' := h.symm.trans e; cases e'; exact hb
end Go.Proofs.YthgblcpekhiphaaDoor
/- Records whose lists lie in blocks from some place on: what reading makes. -/
namespace Go.Proofs.YthgblcpekhiphaaDoor
open Go Go.RowKit
set_option maxRecDepth 8000
def RecVB (w : World) (B : Nat) (v : Value) (x : Rc) : Prop := ∃ sv dv, v = .agg (rowA 109 (recF x sv dv)) ∧ RdPB w B sv x.steps ∧ RdVB w B dv x.data
theorem RecVB.out {w : World} {B : Nat} {v : Value} {x : Rc} (h : RecVB w B v x) : RecV w v x := by
  obtain ⟨sv, dv, h1, h2, h3⟩ := h
  exact ⟨sv, dv, h1, h2.1, h3.out⟩
theorem RecVB.rt {w w' : World} {B R : Nat} {v : Value} {x : Rc} (h : RecVB w B v x) (hT : RT R w w') (hR : R < B) : RecVB w' B v x := by
  obtain ⟨sv, dv, h1, h2, h3⟩ := h
  exact ⟨sv, dv, h1, h2.rt hT hR, h3.rt hT hR⟩
theorem RecVB.new {w w' : World} {B : Nat} {v : Value} {x : Rc} (h : RecVB w B v x) (hT : NewT w w') : RecVB w' B v x := by
  obtain ⟨sv, dv, h1, h2, h3⟩ := h
  exact ⟨sv, dv, h1, h2.new hT, h3.new hT⟩
theorem RecVB.mono {w : World} {B B' : Nat} {v : Value} {x : Rc} (h : RecVB w B v x) (hB : B' ≤ B) : RecVB w B' v x := by
  obtain ⟨sv, dv, h1, h2, h3⟩ := h
  exact ⟨sv, dv, h1, h2.mono hB, h3.mono hB⟩
theorem RdVB.nil (w : World) (B : Nat) : RdVB w B (.slice none 0 0) [] := fun _ _ => rdV_nil _ _
theorem RdPB.nil (w : World) (B : Nat) : RdPB w B (.slice none 0 0) [] := ⟨rdP_nil w, fun _ a n c h => by cases h⟩
def svPB (R B : Nat) (l : List (Int × Int)) : SV (RT R) := ⟨fun v w => R < B ∧ RdPB w B v l, fun _ _ _ h hT => ⟨h.1, h.2.rt hT h.1⟩⟩
def svVB (R B : Nat) (l : List UInt8) : SV (RT R) := ⟨fun v w => R < B ∧ RdVB w B v l, fun _ _ _ h hT => ⟨h.1, h.2.rt hT h.1⟩⟩
def svRecB (R B : Nat) (x : Rc) : SV (RT R) := ⟨fun v w => R < B ∧ RecVB w B v x, fun _ _ _ h hT => ⟨h.1, h.2.rt hT h.1⟩⟩
/-- Steps that lie ahead of block g stay, whatever becomes of that. -/
theorem RdPB.ahead {w : World} {B : Nat} {v : Value} {l : List (Int × Int)} (h : RdPB w B v l) {g : Nat} (hg : w.heap.size ≤ g) : 0 < l.length → ∀ a n c, v = .slice (some a) n c → a.block ≠ g := by
  intro h0 a n c e
  obtain ⟨⟨A, cap, rfl, h1, h2, h3⟩, _⟩ := h
  obtain ⟨b, o, rfl, hc⟩ := h3 h0
  cases e
  have := World.block_lt_of_cell? _ _ (hc 0 h0).1
  simp at this ⊢
  omega
theorem RdPB.rt2 {R B : Nat} {w w' : World} {v : Value} {l : List (Int × Int)} (h : RdPB w B v l) (hT : RT R w w') (hR : 0 < l.length → ∀ a n c, v = .slice (some a) n c → a.block ≠ R) : RdPB w' B v l := ⟨hT.pairs h.1 hR, h.2⟩
/-- Bytes that lie ahead of block g stay, whatever becomes of that. -/
theorem RdVB.rt2 {R B : Nat} {w w' : World} {v : Value} {l : List UInt8} (h : RdVB w B v l) (hT : RT R w w') (hR : w.heap.size ≤ R) : RdVB w' B v l := fun L hL =>
  (((h L hL).more (L' := R :: L) fun k hk hn hm => by rcases List.mem_cons.1 hm with rfl | hm; omega; exact hn hm).keep (hT.keep.more (by simp))).less (fun k hk => by simp [hk])
/-- Bytes outside the blocks of L, and in blocks from B on. -/
def RdVX (w : World) (B g : Nat) (v : Value) (l : List UInt8) : Prop := ∀ L, (∀ k ∈ L, k < B ∨ k = g) → RdV w L v l
theorem RdVB.ahead {w : World} {B : Nat} {v : Value} {l : List UInt8} (h : RdVB w B v l) {g : Nat} (hg : w.heap.size ≤ g) : RdVX w B g v l := fun L hL =>
  (h (L.filter (· < B)) (fun k hk => by simp at hk; exact hk.2)).more fun k hk hn hm => by
    rcases hL k hm with h1 | h1
    · exact hn (by simp [hm, h1])
    · omega
theorem RdVX.rt {R B g : Nat} {w w' : World} {v : Value} {l : List UInt8} (h : RdVX w B g v l) (hT : RT R w w') (hR : R < B ∨ R = g) : RdVX w' B g v l := fun L hL =>
  ((h (R :: L) (fun k hk => by rcases List.mem_cons.1 hk with rfl | hk; exact hR; exact hL k hk)).keep (hT.keep.more (by simp))).less (fun k hk => by simp [hk])
theorem RdVX.new {B g : Nat} {w w' : World} {v : Value} {l : List UInt8} (h : RdVX w B g v l) (hT : NewT w w') : RdVX w' B g v l := fun L hL => hT.rd (h L hL)
theorem RdVX.out {B g : Nat} {w : World} {v : Value} {l : List UInt8} (h : RdVX w B g v l) : RdVB w B v l := fun L hL => h L fun k hk => .inl (hL k hk)
/-- Steps outside block g, and in blocks from B on. -/
def RdPX (w : World) (B g : Nat) (v : Value) (l : List (Int × Int)) : Prop := RdPB w B v l ∧ (0 < l.length → ∀ a n c, v = .slice (some a) n c → a.block ≠ g)
theorem RdPB.aheadX {w : World} {B : Nat} {v : Value} {l : List (Int × Int)} (h : RdPB w B v l) {g : Nat} (hg : w.heap.size ≤ g) : RdPX w B g v l := ⟨h, h.ahead hg⟩
theorem RdPX.rt {R B g : Nat} {w w' : World} {v : Value} {l : List (Int × Int)} (h : RdPX w B g v l) (hT : RT R w w') (hR : R < B ∨ R = g) : RdPX w' B g v l := by
  refine ⟨h.1.rt2 hT fun h0 a n c e => ?_, h.2⟩
  rcases hR with hR | rfl
  · have := h.1.2 h0 a n c e; omega
  · exact h.2 h0 a n c e
theorem RdPX.new {B g : Nat} {w w' : World} {v : Value} {l : List (Int × Int)} (h : RdPX w B g v l) (hT : NewT w w') : RdPX w' B g v l := ⟨h.1.new hT, h.2⟩
def begR (x : Rc) : Rc := if x.gone then { zR with saga := x.saga, gone := x.gone, steps := x.steps, com := x.com } else { zR with saga := x.saga, gone := x.gone, steps := x.steps, salt := x.salt, data := x.data }
end Go.Proofs.YthgblcpekhiphaaDoor
/- Package rec: what a Begin is read from. -/
namespace Go.Proofs.YthgblcpekhiphaaDoor
open Go Go.RowKit
set_option maxRecDepth 8000
theorem build_begin (a : Int) (A0 : Option Addr) (n c : Nat) (e : Bool) (w : World) : (Instr.build 27 #[(1, .int .i64 a), (11, .slice A0 n c), (14, .bool e)]).run Tryd.prog w = .ok (.agg (rowA 109 (recF { zR with saga := a, gone := e } (.slice A0 n c) (.slice none 0 0)))) w := by kernel_rfl
set_option maxHeartbeats 4000000 in
theorem readBegin_cv (R : Nat) (x : Rc) (rest : List UInt8) (w : World) (h : Rdr w R ((hdL x ++ payL x) ++ rest) 0) (h0 : 0 ≤ x.saga ∧ x.saga ≤ 2147483647) (h6 : x.steps.length ≤ 6) (hok : x.steps.all stepOk = true) (h60 : x.data.length ≤ 60) (hl : rest.length ≤ 600000) :
    Calls Tryd.prog 57 #[.pointer (some ⟨R, 0, none⟩)] w fun e w' => ∃ v, e = .returned v ∧ RecVB w' (w.heap.size + 1) v (begR x) ∧ RT R w w' ∧ Rdr w' R rest 0 := by
  have hRl := h.lt
  obtain ⟨pz, hpz⟩ : ∃ pz, (if x.gone then hL x.com else hL x.salt ++ (numI x.data.length ++ x.data)) = pz := ⟨_, rfl⟩
  have hpl : pz.length ≤ 200 := by rw [← hpz]; have := numI_length x.data.length; split <;> simp [hL_length]; omega
  have HPZ := Lib.hid hpz
  rw [show (hdL x ++ payL x) ++ rest = numI x.saga ++ (numI x.steps.length ++ (stepsL x.steps ++ (fB x.gone :: (pz ++ rest)))) by unfold hdL payL; rw [hpz]; simp only [List.append_assoc, List.cons_append]] at h
  have Hr := Lib.hid h
  have Hok := Lib.hid hok
  have n0 := numI_length x.saga
  have n1 := numI_length x.steps.length
  have n2 := stepsL_len x.steps
  have n3 := numI_length x.data.length
  clear h hok hpz
  go_enter Tryd.func57, Tryd.ntmps57
  go_upto_region 1 with fail
  have r2 := rowIs_box w 27 109 (recF zR (.slice none 0 0) (.slice none 0 0))
  have hN := NewT.alloc w (.cells (rowA 109 (recF zR (.slice none 0 0) (.slice none 0 0))) 27)
  have hsz : w.heap.size < (w.alloc (.cells (rowA 109 (recF zR (.slice none 0 0) (.slice none 0 0))) 27)).heap.size := by simp
  change Code.wp _ _ _ _ (w.alloc (.cells (rowA 109 (recF zR (.slice none 0 0) (.slice none 0 0))) 27))
  generalize w.alloc (.cells (rowA 109 (recF zR (.slice none 0 0) (.slice none 0 0))) 27) = W0 at r2 hN hsz ⊢
  replace Hr := Lib.hid (Rdr.new Hr.out hN)
  have hne : w.heap.size ≠ R := by omega
  refine wp_region_steps (RT R) (fun k w => Rdr w R (([numI x.saga ++ (numI x.steps.length ++ (stepsL x.steps ++ (fB x.gone :: (pz ++ rest)))), numI x.saga ++ (numI x.steps.length ++ (stepsL x.steps ++ (fB x.gone :: (pz ++ rest)))), numI x.steps.length ++ (stepsL x.steps ++ (fB x.gone :: (pz ++ rest))), numI x.steps.length ++ (stepsL x.steps ++ (fB x.gone :: (pz ++ rest))), fB x.gone :: (pz ++ rest), fB x.gone :: (pz ++ rest), pz ++ rest] : List (List UInt8)).getD k []) 0) [SV.eq (.pointer (some ⟨R, 0, none⟩)), SV.eq (.int .i64 (x.saga)), SV.eq (.pointer (some ⟨R, 0, none⟩)), svPB R (w.heap.size + 1) x.steps, SV.eq (.pointer (some ⟨R, 0, none⟩)), SV.eq (.bool (x.gone))] [([(0, none)], none), ([(4, some 0)], none), ([(0, none)], none), ([(6, some 2)], none), ([(0, none)], none), ([(8, some 4)], none)] 23 6 rfl rfl (by kernel_rfl) RT.trans (RT.refl _ _) Hr.out (Nat.le_of_ble_eq_true rfl) ⟨?_, ?_, ?_, ?_, ?_, ?_, trivial⟩ ?_
  · intro a wx hT hF hJ K hK
    replace hK := fun v w' (hN : NewT wx w') c => hK v w' (RT.new (Rdr.lt hJ) hN) (Rdr.new hJ hN) c
    obtain ⟨f0, _⟩ := hF
    have f0 : a.tmps.getD 0 undef = .pointer (some ⟨R, 0, none⟩) := f0
    refine rely_wp rfl ?_
    exact opr_move (.inl rfl) (hK _ _ (NewT.refl _) f0)
  · intro a wx hT hF hJ K hK
    obtain ⟨f4, _⟩ := hF
    have f4 : a.tmps.getD 4 undef = .pointer (some ⟨R, 0, none⟩) := f4
    refine rely_wp rfl ?_
    refine opr_call rfl Tryd.func44 (by kernel_rfl) (by kernel_rfl) (by simp only [List.map_toArray, List.map_cons, List.map_nil, eval_tmp, f4]) ((RNum_put R x.saga _ wx (show Rdr wx R (numI x.saga ++ (numI x.steps.length ++ (stepsL x.steps ++ (fB x.gone :: (pz ++ rest))))) 0 from hJ) (by omega) (by first | omega | (simp; omega) | (simp [hL_length]; omega))).mono ?_)
    rintro e w' ⟨rfl, hT', hr⟩
    exact ⟨_, rfl, hK _ _ hT' hr rfl⟩
  · intro a wx hT hF hJ K hK
    replace hK := fun v w' (hN : NewT wx w') c => hK v w' (RT.new (Rdr.lt hJ) hN) (Rdr.new hJ hN) c
    obtain ⟨f0, _⟩ := hF
    have f0 : a.tmps.getD 0 undef = .pointer (some ⟨R, 0, none⟩) := f0
    refine rely_wp rfl ?_
    exact opr_move (.inl rfl) (hK _ _ (NewT.refl _) f0)
  · intro a wx hT hF hJ K hK
    obtain ⟨f6, _⟩ := hF
    have f6 : a.tmps.getD 6 undef = .pointer (some ⟨R, 0, none⟩) := f6
    refine rely_wp rfl ?_
    refine opr_call rfl Tryd.func79 (by kernel_rfl) (by kernel_rfl) (by simp only [List.map_toArray, List.map_cons, List.map_nil, eval_tmp, f6]) ((readSteps_cv R x.steps _ wx (show Rdr wx R (numI x.steps.length ++ (stepsL x.steps ++ (fB x.gone :: (pz ++ rest)))) 0 from hJ) (by omega) Hok.out (by first | omega | (simp; omega) | (simp [hL_length]; omega))).mono ?_)
    rintro e w' ⟨v, rfl, hv, hT', hr⟩
    exact ⟨_, rfl, hK _ _ hT' hr ⟨by omega, hv.mono (by have := hT.size; omega)⟩⟩
  · intro a wx hT hF hJ K hK
    replace hK := fun v w' (hN : NewT wx w') c => hK v w' (RT.new (Rdr.lt hJ) hN) (Rdr.new hJ hN) c
    obtain ⟨f0, _⟩ := hF
    have f0 : a.tmps.getD 0 undef = .pointer (some ⟨R, 0, none⟩) := f0
    refine rely_wp rfl ?_
    exact opr_move (.inl rfl) (hK _ _ (NewT.refl _) f0)
  · intro a wx hT hF hJ K hK
    obtain ⟨f8, _⟩ := hF
    have f8 : a.tmps.getD 8 undef = .pointer (some ⟨R, 0, none⟩) := f8
    refine rely_wp rfl ?_
    refine opr_call rfl Tryd.func80 (by kernel_rfl) (by kernel_rfl) (by simp only [List.map_toArray, List.map_cons, List.map_nil, eval_tmp, f8]) ((RFlag_put R x.gone _ wx (show Rdr wx R (fB x.gone :: (pz ++ rest)) 0 from hJ) (by first | omega | (simp; omega) | (simp [hL_length]; omega))).mono ?_)
    rintro e w' ⟨rfl, hT', hr⟩
    exact ⟨_, rfl, hK _ _ hT' hr rfl⟩
  · intro e1 k1 hJ
    intro u h; obtain rfl := Eq.symm (h (by simp)); clear h
    intro u h; obtain rfl := Eq.symm (h (by simp)); clear h
    intro u h; obtain rfl := Eq.symm (h (by simp)); clear h
    intro u7 h; have g7 := h (by simp); clear h; replace g7 := show (svPB R (w.heap.size + 1) x.steps).pred u7 e1 from g7
    intro u h; obtain rfl := Eq.symm (h (by simp)); clear h
    intro u h; obtain rfl := Eq.symm (h (by simp)); clear h
    refine relyEnd_nil rfl ?_
    simp only [Act.put, List.setIfInBounds_toArray, List.set_cons_zero, List.set_cons_succ]
    obtain ⟨_, G7⟩ := g7
    obtain ⟨A7, c7, e7, _⟩ := id G7.1
    subst e7
    refine wpList_plain rfl (fun K hK => ?_)
    refine opr_build (pv := #[(1, .int .i64 x.saga), (11, .slice A7 x.steps.length c7), (14, .bool x.gone)]) rfl (by simp only [List.map_toArray, List.map_cons, List.map_nil]; rfl) (build_begin _ _ _ _ _ _) (hK _ _ ?_)
    clear hK K
    refine wpList_new (n := 109) rfl rfl rfl rfl rfl rfl (by first | (simp; done) | simp [Act.put]) run_alloc_rec info_rec (recF_one _ _ _ rfl rfl) rfl ?_
    intro w1 hn1 r3
    refine wpList_end rfl ?_
    simp only [Act.put, List.setIfInBounds_toArray, List.set_cons_zero, List.set_cons_succ]
    go_simp
    have X2 := Lib.hid (hn1.row (k1.row hne r2))
    have X3 := Lib.hid r3
    have HJ1 := Lib.hid (Rdr.new (show Rdr e1 R (pz ++ rest) 0 from hJ) hn1)
    have HRT0 := Lib.hid (RT.trans _ _ _ (RT.trans _ _ _ (RT.new hRl hN) k1) (RT.new (Rdr.lt (show Rdr e1 R (pz ++ rest) 0 from hJ)) hn1))
    have hG : w.heap.size < e1.heap.size := Nat.lt_of_lt_of_le hsz k1.size
    have hGl : e1.heap.size < w1.heap.size := r3.lt
    have HP0 := Lib.hid ((G7.aheadX (Nat.le_refl _)).new hn1)
    have c14 : w1.cell? ⟨e1.heap.size, 76, none⟩ = some (.bool x.gone) := r3.cell (i := 76) (by omega)
    clear hJ r3 r2 hN hsz k1 hn1 Hr G7
    generalize e1.heap.size = G at X3 hG c14 HP0 hGl ⊢
    have hGR : G ≠ R := by omega
    have hne2 : w.heap.size ≠ G := by omega
    cases hg : x.gone
    · have HB : Hid (begR x = { zR with saga := x.saga, gone := x.gone, steps := x.steps, salt := x.salt, data := x.data }) := Lib.hid (by unfold begR; rw [hg]; rfl)
      rw [hg] at c14
      replace HJ1 : Hid (Rdr w1 R (hL x.salt ++ (numI x.data.length ++ (x.data ++ rest))) 0) := Lib.hid (by have := HJ1.out; rw [← HPZ.out, hg] at this; simpa using this)
      have HG := Lib.hid hg
      clear hg
      go_upto_region 4 with fail
      clear c14
      refine wp_region_steps (RT R) (fun k w => Rdr w R (([hL x.salt ++ (numI x.data.length ++ (x.data ++ rest)), hL x.salt ++ (numI x.data.length ++ (x.data ++ rest)), numI x.data.length ++ (x.data ++ rest), numI x.data.length ++ (x.data ++ rest), rest] : List (List UInt8)).getD k []) 0) [SV.eq (.pointer (some ⟨R, 0, none⟩)), SV.eq (.agg (rowA 32 (bF (x.salt)))), SV.eq (.pointer (some ⟨R, 0, none⟩)), svVB R (G + 1) x.data] [([(0, none)], none), ([(16, some 0)], none), ([(0, none)], none), ([(18, some 2)], none)] 23 4 rfl rfl (by kernel_rfl) RT.trans (RT.refl _ _) HJ1.out (Nat.le_of_ble_eq_true rfl) ⟨?_, ?_, ?_, ?_, trivial⟩ ?_
      · intro a wx hT hF hJ K hK
        replace hK := fun v w' (hN : NewT wx w') c => hK v w' (RT.new (Rdr.lt hJ) hN) (Rdr.new hJ hN) c
        obtain ⟨f0, _⟩ := hF
        have f0 : a.tmps.getD 0 undef = .pointer (some ⟨R, 0, none⟩) := f0
        refine rely_wp rfl ?_
        exact opr_move (.inl rfl) (hK _ _ (NewT.refl _) f0)
      · intro a wx hT hF hJ K hK
        obtain ⟨f16, _⟩ := hF
        have f16 : a.tmps.getD 16 undef = .pointer (some ⟨R, 0, none⟩) := f16
        refine rely_wp rfl ?_
        refine opr_call rfl Tryd.func81 (by kernel_rfl) (by kernel_rfl) (by simp only [List.map_toArray, List.map_cons, List.map_nil, eval_tmp, f16]) ((RHash_put R x.salt _ wx (show Rdr wx R (hL x.salt ++ (numI x.data.length ++ (x.data ++ rest))) 0 from hJ)).mono ?_)
        rintro e w' ⟨rfl, hT', hr⟩
        exact ⟨_, rfl, hK _ _ hT' hr rfl⟩
      · intro a wx hT hF hJ K hK
        replace hK := fun v w' (hN : NewT wx w') c => hK v w' (RT.new (Rdr.lt hJ) hN) (Rdr.new hJ hN) c
        obtain ⟨f0, _⟩ := hF
        have f0 : a.tmps.getD 0 undef = .pointer (some ⟨R, 0, none⟩) := f0
        refine rely_wp rfl ?_
        exact opr_move (.inl rfl) (hK _ _ (NewT.refl _) f0)
      · intro a wx hT hF hJ K hK
        obtain ⟨f18, _⟩ := hF
        have f18 : a.tmps.getD 18 undef = .pointer (some ⟨R, 0, none⟩) := f18
        refine rely_wp rfl ?_
        refine opr_call rfl Tryd.func82 (by kernel_rfl) (by kernel_rfl) (by simp only [List.map_toArray, List.map_cons, List.map_nil, eval_tmp, eval_const, f18]) ((RBytes_put R x.data rest 60 wx (show Rdr wx R (numI x.data.length ++ (x.data ++ rest)) 0 from hJ) (by omega) (by omega) (by first | omega | (simp; omega) | (simp [hL_length]; omega))).mono ?_)
        rintro e w' ⟨u, rfl, hu, hT', hr⟩
        exact ⟨_, rfl, hK _ _ hT' hr ⟨by omega, hu.mono (by have := hT.size; omega)⟩⟩
      · intro e2 k2 hJ
        intro u h; obtain rfl := Eq.symm (h (by simp)); clear h
        intro u h; obtain rfl := Eq.symm (h (by simp)); clear h
        intro u h; obtain rfl := Eq.symm (h (by simp)); clear h
        intro u19 h; have g19 := h (by simp); clear h; replace g19 := show (svVB R (G + 1) x.data).pred u19 e2 from g19
        refine relyEnd_nil rfl ?_
        simp only [Act.put, List.setIfInBounds_toArray, List.set_cons_zero, List.set_cons_succ]
        obtain ⟨_, G19⟩ := g19
        refine wpList_plain rfl (fun K hK => ?_)
        refine opr_fldR (by decide) rfl rfl (hK _ _ ?_)
        clear hK K
        refine wpList_plain rfl (fun K hK => ?_)
        refine opr_putm rfl rfl rfl (k2.row hGR X3.out) (by decide) info31 (fun _ => rfl) (fun i hi => rs_salt ({ zR with saga := x.saga, gone := x.gone }) (.slice A7 x.steps.length c7) (.slice none 0 0) i _ hi) ?_
        intro e3 k3 r4
        refine hK _ _ ?_
        clear hK K
        refine wpList_plain rfl (fun K hK => ?_)
        refine opr_fldR (by decide) rfl rfl (hK _ _ ?_)
        clear hK K
        refine wpList_plain rfl (fun K hK => ?_)
        refine opr_put1 rfl rfl rfl r4 (by decide) info_d1 (oneR G19.out) (fun i _ => rs_data ({ zR with saga := x.saga, gone := x.gone, salt := x.salt }) (.slice A7 x.steps.length c7) (.slice none 0 0) i _) ?_
        intro e4 k4 r5
        refine hK _ _ ?_
        clear hK K
        refine wpList_end rfl ?_
        go_simp
        have HJ3 := Lib.hid (Rdr.rt (Rdr.rt (show Rdr e2 R rest 0 from hJ) k3 (by omega)) k4 (by omega))
        have HRT : Hid (RT R w e4) := Lib.hid (RT.late2 (RT.late2 (RT.trans _ _ _ HRT0.out k2) (Nat.le_of_lt hG) hRl k3) (Nat.le_of_lt hG) hRl k4)
        have HX2 : Hid (e4.rowIs w.heap.size 27 109 (recF zR (.slice none 0 0) (.slice none 0 0))) := Lib.hid (k4.row hne2 (k3.row hne2 (k2.row hne X2.out)))
        have HP := Lib.hid (((HP0.out.rt k2 (.inl (by omega))).rt k3 (.inr rfl)).rt k4 (.inr rfl))
        have HV := Lib.hid ((G19.rt k3 (Nat.lt_succ_self _)).rt k4 (Nat.lt_succ_self _))
        clear hJ G19
        go_upto_region 5 with fail
        refine wp_region_steps0 NewT [SV.eq (.agg (rowA 109 (recF ({ zR with saga := x.saga, gone := x.gone, salt := x.salt }) (.slice A7 x.steps.length c7) u19)))] [([(3, none)], none)] 23 1 rfl rfl (by kernel_rfl) NewT.trans (NewT.refl _) (Nat.le_of_ble_eq_true rfl) ⟨?_, trivial⟩ ?_
        · intro a wx hT hF K hK
          obtain ⟨f3, _⟩ := hF
          have f3 : a.tmps.getD 3 undef = .pointer (some ⟨G, 0, none⟩) := f3
          refine rely_wp rfl ?_
          exact opr_ldR (hT.row r5) rfl f3 (hK _ _ (NewT.refl _) rfl)
        · intro wf kf
          intro u h; obtain rfl := Eq.symm (h (by simp)); clear h
          refine relyEnd_nil rfl ?_
          simp only [Act.put, List.setIfInBounds_toArray, List.set_cons_zero, List.set_cons_succ]
          refine wpList_plain rfl (fun K hK => ?_)
          refine opr_putm rfl rfl rfl (kf.row HX2.out) (by decide) info_rec (recF_one _ _ _ rfl (oneR HV.out.out)) (put_all _ _) ?_
          intro wq hTq rq
          refine hK _ _ ?_
          refine wpList_end rfl ?_
          go_simp
          go_wp2
          refine bodyPost_ret (results_agg rfl _ rfl rq Tryd.underlying27 rfl info_rec) rfl ⟨_, rfl, ?_, RT.late2 (RT.trans _ _ _ HRT.out (RT.new (Nat.lt_of_lt_of_le hRl HRT.out.size) kf)) (Nat.le_refl _) hRl hTq, Rdr.rt (HJ3.out.new kf) hTq hRl⟩
          rw [HB.out]
          exact ⟨(.slice A7 x.steps.length c7), u19, rfl, ((HP.out.new kf).rt hTq (by omega)).1, ((HV.out.new kf).rt hTq (by omega)).mono (by omega)⟩
    · have HB : Hid (begR x = { zR with saga := x.saga, gone := x.gone, steps := x.steps, com := x.com }) := Lib.hid (by unfold begR; rw [hg]; rfl)
      rw [hg] at c14
      replace HJ1 : Hid (Rdr w1 R (hL x.com ++ rest) 0) := Lib.hid (by have := HJ1.out; rw [← HPZ.out, hg] at this; simpa using this)
      have HG := Lib.hid hg
      clear hg
      go_upto_region 3 with fail
      clear c14
      refine wp_region_steps (RT R) (fun k w => Rdr w R (([hL x.com ++ rest, hL x.com ++ rest, rest] : List (List UInt8)).getD k []) 0) [SV.eq (.pointer (some ⟨R, 0, none⟩)), SV.eq (.agg (rowA 32 (bF (x.com))))] [([(0, none)], none), ([(13, some 0)], none)] 23 2 rfl rfl (by kernel_rfl) RT.trans (RT.refl _ _) HJ1.out (Nat.le_of_ble_eq_true rfl) ⟨?_, ?_, trivial⟩ ?_
      · intro a wx hT hF hJ K hK
        replace hK := fun v w' (hN : NewT wx w') c => hK v w' (RT.new (Rdr.lt hJ) hN) (Rdr.new hJ hN) c
        obtain ⟨f0, _⟩ := hF
        have f0 : a.tmps.getD 0 undef = .pointer (some ⟨R, 0, none⟩) := f0
        refine rely_wp rfl ?_
        exact opr_move (.inl rfl) (hK _ _ (NewT.refl _) f0)
      · intro a wx hT hF hJ K hK
        obtain ⟨f13, _⟩ := hF
        have f13 : a.tmps.getD 13 undef = .pointer (some ⟨R, 0, none⟩) := f13
        refine rely_wp rfl ?_
        refine opr_call rfl Tryd.func81 (by kernel_rfl) (by kernel_rfl) (by simp only [List.map_toArray, List.map_cons, List.map_nil, eval_tmp, f13]) ((RHash_put R x.com _ wx (show Rdr wx R (hL x.com ++ rest) 0 from hJ)).mono ?_)
        rintro e w' ⟨rfl, hT', hr⟩
        exact ⟨_, rfl, hK _ _ hT' hr rfl⟩
      · intro e2 k2 hJ
        intro u h; obtain rfl := Eq.symm (h (by simp)); clear h
        intro u h; obtain rfl := Eq.symm (h (by simp)); clear h
        refine relyEnd_nil rfl ?_
        simp only [Act.put, List.setIfInBounds_toArray, List.set_cons_zero, List.set_cons_succ]
        refine wpList_plain rfl (fun K hK => ?_)
        refine opr_fldR (by decide) rfl rfl (hK _ _ ?_)
        clear hK K
        refine wpList_plain rfl (fun K hK => ?_)
        refine opr_putm rfl rfl rfl (k2.row hGR X3.out) (by decide) info31 (fun _ => rfl) (fun i hi => rs_com ({ zR with saga := x.saga, gone := x.gone }) (.slice A7 x.steps.length c7) (.slice none 0 0) i _ hi) ?_
        intro e3 k3 r4
        refine hK _ _ ?_
        clear hK K
        refine wpList_end rfl ?_
        go_simp
        have HJ3 := Lib.hid (Rdr.rt (show Rdr e2 R rest 0 from hJ) k3 (by omega))
        have HRT : Hid (RT R w e3) := Lib.hid (RT.late2 (RT.trans _ _ _ HRT0.out k2) (Nat.le_of_lt hG) hRl k3)
        have HX2 : Hid (e3.rowIs w.heap.size 27 109 (recF zR (.slice none 0 0) (.slice none 0 0))) := Lib.hid (k3.row hne2 (k2.row hne X2.out))
        have HP := Lib.hid ((HP0.out.rt k2 (.inl (by omega))).rt k3 (.inr rfl))
        clear hJ
        go_upto_region 5 with fail
        refine wp_region_steps0 NewT [SV.eq (.agg (rowA 109 (recF ({ zR with saga := x.saga, gone := x.gone, com := x.com }) (.slice A7 x.steps.length c7) (.slice none 0 0))))] [([(3, none)], none)] 23 1 rfl rfl (by kernel_rfl) NewT.trans (NewT.refl _) (Nat.le_of_ble_eq_true rfl) ⟨?_, trivial⟩ ?_
        · intro a wx hT hF K hK
          obtain ⟨f3, _⟩ := hF
          have f3 : a.tmps.getD 3 undef = .pointer (some ⟨G, 0, none⟩) := f3
          refine rely_wp rfl ?_
          exact opr_ldR (hT.row r4) rfl f3 (hK _ _ (NewT.refl _) rfl)
        · intro wf kf
          intro u h; obtain rfl := Eq.symm (h (by simp)); clear h
          refine relyEnd_nil rfl ?_
          simp only [Act.put, List.setIfInBounds_toArray, List.set_cons_zero, List.set_cons_succ]
          refine wpList_plain rfl (fun K hK => ?_)
          refine opr_putm rfl rfl rfl (kf.row HX2.out) (by decide) info_rec (recF_one _ _ _ rfl rfl) (put_all _ _) ?_
          intro wq hTq rq
          refine hK _ _ ?_
          refine wpList_end rfl ?_
          go_simp
          go_wp2
          refine bodyPost_ret (results_agg rfl _ rfl rq Tryd.underlying27 rfl info_rec) rfl ⟨_, rfl, ?_, RT.late2 (RT.trans _ _ _ HRT.out (RT.new (Nat.lt_of_lt_of_le hRl HRT.out.size) kf)) (Nat.le_refl _) hRl hTq, Rdr.rt (HJ3.out.new kf) hTq hRl⟩
          rw [HB.out]
          exact ⟨(.slice A7 x.steps.length c7), (.slice none 0 0), rfl, ((HP.out.new kf).rt hTq (by omega)).1, RdVB.nil _ _⟩
end Go.Proofs.YthgblcpekhiphaaDoor
/- Records read again, on lists: what is read is what a kind has alone, and that is right, and the same. -/
namespace Go.Proofs.YthgblcpekhiphaaDoor
open Go Go.RowKit
set_option maxRecDepth 8000
theorem hZ_same {d e : Nat → UInt8} (h : hL d = hL e) : hZ d = hZ e := by rw [Bool.eq_iff_iff, hZ_iff, hZ_iff, h]
theorem right_same {x y : Rc} (h : SameR x y) : rightB x = rightB y := by
  unfold rightB noCall noReceipt noBegin isCall
  rw [h.kind, h.saga, h.seq, h.step, h.tr, h.back, h.good, h.nd, h.part, h.epoch, h.steps, h.data, h.gone, hZ_same h.tag, hZ_same h.salt, hZ_same h.com]
theorem only_same (x : Rc) (h : rightB x = true) : SameR x (onlyR x) := by
  rw [← right_eq, Bool.and_eq_true, sameB_iff] at h
  exact h.2
theorem right_only (x : Rc) (h : rightB x = true) : rightB (onlyR x) = true := by rw [← right_same (only_same x h)]; exact h
theorem only_kind (x : Rc) : (onlyR x).kind = x.kind := by
  unfold onlyR
  repeat' split
  all_goals rfl
/-- What is read behind a kind. -/
def bodyR (x : Rc) : Rc := { onlyR x with kind := 0 }
theorem body_kind (x : Rc) (sv dv : Value) : recF { bodyR x with kind := x.kind } sv dv = recF (onlyR x) sv dv := by
  rw [show ({ bodyR x with kind := x.kind } : Rc) = onlyR x by unfold bodyR; rw [← only_kind x]]
theorem body_1 (x : Rc) (hk : x.kind = 1) : begR x = bodyR x := by
  unfold begR bodyR onlyR
  rw [if_pos hk]
  cases x.gone <;> rfl
theorem results_2 {P : Program} {w : World} {b : Nat} {t : TypeId} {n : Nat} {f : Nat → Value} {d : TypeDesc} {fn : Func} {p u : Tmp} {ty : TypeId} (hf : fn.results = #[.cell p ty, .tmp u]) (tmps : Array Value) (hp : tmps.getD p undef = .pointer (some ⟨b, 0, none⟩))
    (h : w.rowIs b t n f) (hu : P.underlying ty = some d) (hd : d.isRow = true) (hi : (P.info? ty).map (·.size) = some n) : (results fn tmps).run P w = .ok (.tuple #[.agg (rowA n f), tmps.getD u undef]) w := by
  have := run_loadVar_mid (P := P) w b 0 ty (rowA n f).toList d (rangeAt_row h) hu hd (by rw [hi, rowA_toList]; simp)
  have hp' : tmps[p]?.getD undef = .pointer (some ⟨b, 0, none⟩) := by simpa using hp
  simp [results, hf, hp', asAddr, this]
/-- A record and an error's number. -/
def svTup (x : Rc) (e : Int) : SV NewT := ⟨fun v w => ∃ r, v = .tuple #[r, .int .i64 e] ∧ RecV w r x, fun _ _ _ ⟨r, h1, h2⟩ hT => ⟨r, h1, hT.recV h2⟩⟩
/-- The function that reads a kind. -/
def rdF (k : Int) : Nat := if k = 1 then 57 else if k = 3 then 61 else if k = 2 ∨ k = 4 then 59 else if k = 5 then 63 else 65
theorem idx_kind (k : Int) (h : 1 ≤ k ∧ k ≤ 6) (w : World) : ∃ f : Nat → Value, f 2 = fnV (rdF k) ∧ (Instr.index 57 (.agg (rowA 21 formF)) (.int .i64 k)).run Tryd.prog w = .ok (.agg (rowA 3 f)) w := by
  have : k = 1 ∨ k = 2 ∨ k = 3 ∨ k = 4 ∨ k = 5 ∨ k = 6 := by omega
  rcases this with rfl | rfl | rfl | rfl | rfl | rfl
  · exact ⟨_, rfl, idx_1 w⟩
  · exact ⟨_, rfl, idx_2 w⟩
  · exact ⟨_, rfl, idx_3 w⟩
  · exact ⟨_, rfl, idx_4 w⟩
  · exact ⟨_, rfl, idx_5 w⟩
  · exact ⟨_, rfl, idx_6 w⟩
theorem rdF_fn (k : Int) (h : 1 ≤ k ∧ k ≤ 6) : ∃ fn, Tryd.prog.funcs[rdF k]? = some fn ∧ (fn.name == "runtime.NumGoroutine") = false ∧ fn.body.isNone = false := by
  have : k = 1 ∨ k = 2 ∨ k = 3 ∨ k = 4 ∨ k = 5 ∨ k = 6 := by omega
  rcases this with rfl | rfl | rfl | rfl | rfl | rfl
  · exact ⟨_, Tryd.func57, by kernel_rfl, by kernel_rfl⟩
  · exact ⟨_, Tryd.func59, by kernel_rfl, by kernel_rfl⟩
  · exact ⟨_, Tryd.func61, by kernel_rfl, by kernel_rfl⟩
  · exact ⟨_, Tryd.func59, by kernel_rfl, by kernel_rfl⟩
  · exact ⟨_, Tryd.func63, by kernel_rfl, by kernel_rfl⟩
  · exact ⟨_, Tryd.func65, by kernel_rfl, by kernel_rfl⟩
end Go.Proofs.YthgblcpekhiphaaDoor
/- Package rec: Read and Get, of what was put, and of an unknown kind. -/
namespace Go.Proofs.YthgblcpekhiphaaDoor
open Go Go.RowKit
set_option maxRecDepth 8000
theorem nums_range (x : Rc) (h : rightB x = true) : (x.kind = 1 → (0 ≤ x.saga ∧ x.saga ≤ 2147483647) ∧ x.steps.all stepOk = true) ∧ (x.kind = 2 ∨ x.kind = 4 ∨ x.kind = 3 → (0 ≤ x.saga ∧ x.saga ≤ 2147483647) ∧ (0 ≤ x.seq ∧ x.seq ≤ 2147483647) ∧ (0 ≤ x.step ∧ x.step ≤ 2147483647) ∧ (0 ≤ x.tr ∧ x.tr ≤ 2147483647)) ∧
    (x.kind = 3 → (0 ≤ x.part ∧ x.part ≤ 2147483647) ∧ (0 ≤ x.epoch ∧ x.epoch ≤ 2147483647)) ∧ (x.kind = 5 → (0 ≤ x.saga ∧ x.saga ≤ 2147483647) ∧ (0 ≤ x.seq ∧ x.seq ≤ 2147483647) ∧ (0 ≤ x.nd ∧ x.nd ≤ 2147483647)) ∧ (x.kind = 6 → (0 ≤ x.part ∧ x.part ≤ 2147483647) ∧ (0 ≤ x.epoch ∧ x.epoch ≤ 2147483647)) := by
  rw [← right_eq, Bool.and_eq_true] at h
  have h := h.1
  unfold inRg at h
  refine ⟨fun hk => ?_, fun hk => ?_, fun hk => ?_, fun hk => ?_, fun hk => ?_⟩
  · rw [if_pos hk] at h
    simp only [Bool.and_eq_true, stepsOk, inR_iff] at h
    exact ⟨by omega, h.1.2.2⟩
  · rw [if_neg (by omega)] at h
    by_cases h3 : x.kind = 3
    · rw [if_pos h3] at h
      simp only [Bool.and_eq_true, inR_iff] at h
      omega
    · rw [if_neg h3, if_pos (by omega)] at h
      simp only [Bool.and_eq_true, inR_iff] at h
      omega
  · rw [if_neg (by omega), if_pos hk] at h
    simp only [Bool.and_eq_true, Bool.not_eq_true', Bool.or_eq_false_iff, Bool.not_eq_false', inR_iff] at h
    omega
  · rw [if_neg (by omega), if_neg (by omega), if_neg (by omega), if_pos hk] at h
    simp only [Bool.and_eq_true, inR_iff] at h
    omega
  · rw [if_neg (by omega), if_neg (by omega), if_neg (by omega), if_neg (by omega), if_pos hk] at h
    simp only [Bool.and_eq_true, inR_iff] at h
    omega
theorem tail_1 (x : Rc) (hk : x.kind = 1) : tailL x (payL x) = hdL x ++ payL x := by unfold tailL hdL; rw [if_pos hk]; simp
theorem nilB {x : Rc} {w : World} {B : Nat} (hs : x.steps = []) (hd : x.data = []) : RecVB w B (.agg (rowA 109 (recF x (.slice none 0 0) (.slice none 0 0)))) x := ⟨_, _, rfl, by rw [hs]; exact RdPB.nil _ _, by rw [hd]; exact RdVB.nil _ _⟩
/-- Whatever kind it is: what stands behind the kind is read. -/
theorem readKind_cv (R : Nat) (x : Rc) (rest : List UInt8) (w : World) (hr : rightB x = true) (h : Rdr w R (tailL x (payL x) ++ rest) 0) (hl : rest.length ≤ 500000) :
    Calls Tryd.prog (rdF x.kind) #[.pointer (some ⟨R, 0, none⟩)] w fun e w' => ∃ v, e = .returned v ∧ RecVB w' (w.heap.size + 1) v (bodyR x) ∧ RT R w w' ∧ Rdr w' R rest 0 := by
  have hk6 := right_kind x hr
  obtain ⟨q1, q2, q3, q5, q6⟩ := nums_range x hr
  have hd := right_data x hr
  have hs := right_steps x hr
  by_cases k1 : x.kind = 1
  · rw [tail_1 x k1] at h
    rw [← body_1 x k1, show rdF x.kind = 57 by unfold rdF; rw [if_pos k1]]
    exact readBegin_cv R x rest w h (q1 k1).1 hs (q1 k1).2 hd (by omega)
  by_cases k3 : x.kind = 3
  · rw [tail_3 x _ k3] at h
    obtain ⟨a1, a2, a3, a4⟩ := q2 (.inr (.inr k3))
    obtain ⟨a5, a6⟩ := q3 k3
    rw [show rdF x.kind = 61 by unfold rdF; rw [if_neg k1, if_pos k3]]
    refine (readReceipt_cv R x rest w h a1 a2 a3 a4 a5 a6 (by omega)).mono ?_
    rintro e w' ⟨rfl, hT, hJ⟩
    refine ⟨_, rfl, ?_, hT, hJ⟩
    rw [show bodyR x = { tryR x with good := x.good, part := x.part, epoch := x.epoch, tag := x.tag } by unfold bodyR onlyR; rw [if_neg k1, if_pos k3]; rfl]
    exact nilB rfl rfl
  by_cases k2 : x.kind = 2 ∨ x.kind = 4
  · rw [tail_2 x _ k2] at h
    obtain ⟨a1, a2, a3, a4⟩ := q2 (by omega)
    rw [show rdF x.kind = 59 by unfold rdF; rw [if_neg k1, if_neg k3, if_pos k2]]
    refine (readTry_cv R x rest w h a1 a2 a3 a4 (by omega)).mono ?_
    rintro e w' ⟨rfl, hT, hJ⟩
    refine ⟨_, rfl, ?_, hT, hJ⟩
    rw [show bodyR x = tryR x by unfold bodyR onlyR; rw [if_neg k1, if_neg k3, if_pos k2]; rfl]
    exact nilB rfl rfl
  by_cases k5 : x.kind = 5
  · rw [tail_5 x _ k5] at h
    obtain ⟨a1, a2, a3⟩ := q5 k5
    rw [show rdF x.kind = 63 by unfold rdF; rw [if_neg k1, if_neg k3, if_neg k2, if_pos k5]]
    refine (readClosed_cv R x rest w h a1 a2 a3 (by omega)).mono ?_
    rintro e w' ⟨rfl, hT, hJ⟩
    refine ⟨_, rfl, ?_, hT, hJ⟩
    rw [show bodyR x = { zR with saga := x.saga, seq := x.seq, nd := x.nd } by unfold bodyR onlyR; rw [if_neg k1, if_neg k3, if_neg k2, if_pos k5]; rfl]
    exact nilB rfl rfl
  have k6 : x.kind = 6 := by omega
  rw [tail_6 x _ k6] at h
  obtain ⟨a1, a2⟩ := q6 k6
  rw [show rdF x.kind = 65 by unfold rdF; rw [if_neg k1, if_neg k3, if_neg k2, if_neg k5]]
  refine (readRotate_cv R x rest w h a1 a2 (by omega)).mono ?_
  rintro e w' ⟨rfl, hT, hJ⟩
  refine ⟨_, rfl, ?_, hT, hJ⟩
  rw [show bodyR x = { zR with part := x.part, epoch := x.epoch } by unfold bodyR onlyR; rw [if_neg k1, if_neg k3, if_neg k2, if_neg k5, if_pos k6]; rfl]
  exact nilB rfl rfl
theorem open_len (x : Rc) (hr : rightB x = true) : (openL x).length ≤ 1000 := by
  have hd := right_data x hr
  have hs := right_steps x hr
  have hk6 := right_kind x hr
  have n0 := numI_length x.kind
  have n1 := numI_length x.data.length
  unfold openL
  rw [List.length_append]
  by_cases k1 : x.kind = 1
  · rw [tail_1 x k1]
    have := hdL_len x (by omega)
    have : (payL x).length ≤ 200 := by unfold payL; split <;> simp [hL_length]; omega
    simp; omega
  by_cases k3 : x.kind = 3
  · rw [tail_3 x _ k3]; have := rcL_len x; omega
  by_cases k2 : x.kind = 2 ∨ x.kind = 4
  · rw [tail_2 x _ k2]; have := callL_len x; omega
  by_cases k5 : x.kind = 5
  · rw [tail_5 x _ k5]; have := clL_len x; omega
  rw [tail_6 x _ (by omega)]; have := roL_len x; omega
def svFm {R : Nat} (k : Nat) : SV (RT R) := ⟨fun v _ => ∃ f : Nat → Value, v = .agg (rowA 3 f) ∧ f 2 = fnV k, fun _ _ _ h _ => h⟩
set_option maxHeartbeats 4000000 in
theorem RRead_cv (R : Nat) (x : Rc) (rest : List UInt8) (w : World) (hr : rightB x = true) (h : Rdr w R (openL x ++ rest) 0) (hl : rest.length ≤ 400000) :
    Calls Tryd.prog 26 #[.pointer (some ⟨R, 0, none⟩)] w fun e w' => ∃ v, e = .returned v ∧ RecVB w' (w.heap.size + 1) v (onlyR x) ∧ RT R w w' ∧ Rdr w' R rest 0 := by
  have hRl := h.lt
  have hol := open_len x hr
  have htl : (tailL x (payL x)).length ≤ 1000 := by unfold openL at hol; simp at hol; omega
  rw [show openL x ++ rest = numI x.kind ++ (tailL x (payL x) ++ rest) by unfold openL; simp only [List.append_assoc]] at h
  have Hr := Lib.hid h
  have Hri := Lib.hid hr
  have hk6 := right_kind x hr
  have HW : Hid (inR x.kind 1 6 = true) := Lib.hid ((inR_iff _ _ _).2 hk6)
  have HR := Lib.hid (right_only x hr)
  clear h hr hol
  go_enter Tryd.func26, Tryd.ntmps26
  go_upto_region 1 with fail
  have r2 := rowIs_box w 27 109 (recF zR (.slice none 0 0) (.slice none 0 0))
  have hN := NewT.alloc w (.cells (rowA 109 (recF zR (.slice none 0 0) (.slice none 0 0))) 27)
  have hsz : w.heap.size < (w.alloc (.cells (rowA 109 (recF zR (.slice none 0 0) (.slice none 0 0))) 27)).heap.size := by simp
  change Code.wp _ _ _ _ (w.alloc (.cells (rowA 109 (recF zR (.slice none 0 0) (.slice none 0 0))) 27))
  generalize w.alloc (.cells (rowA 109 (recF zR (.slice none 0 0) (.slice none 0 0))) 27) = W0 at r2 hN hsz ⊢
  replace Hr := Lib.hid (Rdr.new Hr.out hN)
  have hne : w.heap.size ≠ R := by omega
  refine wp_region_steps (RT R) (fun k w => Rdr w R (([numI x.kind ++ (tailL x (payL x) ++ rest), numI x.kind ++ (tailL x (payL x) ++ rest), tailL x (payL x) ++ rest, tailL x (payL x) ++ rest] : List (List UInt8)).getD k []) 0) [SV.eq (.pointer (some ⟨R, 0, none⟩)), SV.eq (.int .i64 (x.kind)), SV.eq (.int .i64 (x.kind))] [([(0, none)], none), ([(5, some 0)], none), ([(6, some 1)], none)] 31 3 rfl rfl (by kernel_rfl) RT.trans (RT.refl _ _) Hr.out (Nat.le_of_ble_eq_true rfl) ⟨?_, ?_, ?_, trivial⟩ ?_
  · intro a wx hT hF hJ K hK
    replace hK := fun v w' (hN : NewT wx w') c => hK v w' (RT.new (Rdr.lt hJ) hN) (Rdr.new hJ hN) c
    obtain ⟨f0, _⟩ := hF
    have f0 : a.tmps.getD 0 undef = .pointer (some ⟨R, 0, none⟩) := f0
    refine rely_wp rfl ?_
    exact opr_move (.inl rfl) (hK _ _ (NewT.refl _) f0)
  · intro a wx hT hF hJ K hK
    obtain ⟨f5, _⟩ := hF
    have f5 : a.tmps.getD 5 undef = .pointer (some ⟨R, 0, none⟩) := f5
    refine rely_wp rfl ?_
    refine opr_call rfl Tryd.func44 (by kernel_rfl) (by kernel_rfl) (by simp only [List.map_toArray, List.map_cons, List.map_nil, eval_tmp, f5]) ((RNum_put R x.kind _ wx (show Rdr wx R (numI x.kind ++ (tailL x (payL x) ++ rest)) 0 from hJ) (by omega) (by first | omega | (simp; omega) | (simp [hL_length]; omega))).mono ?_)
    rintro e w' ⟨rfl, hT', hr⟩
    exact ⟨_, rfl, hK _ _ hT' hr rfl⟩
  · intro a wx hT hF hJ K hK
    replace hK := fun v w' (hN : NewT wx w') c => hK v w' (RT.new (Rdr.lt hJ) hN) (Rdr.new hJ hN) c
    obtain ⟨f6, _⟩ := hF
    have f6 : a.tmps.getD 6 undef = .int .i64 (x.kind) := f6
    refine rely_wp rfl ?_
    exact opr_move (.inr rfl) (hK _ _ (NewT.refl _) f6)
  · intro e1 k1 hJ
    intro u h; obtain rfl := Eq.symm (h (by simp)); clear h
    intro u h; obtain rfl := Eq.symm (h (by simp)); clear h
    intro u h; obtain rfl := Eq.symm (h (by simp)); clear h
    refine relyEnd_nil rfl ?_
    refine wpList_end rfl ?_
    simp only [Act.put, List.setIfInBounds_toArray, List.set_cons_zero, List.set_cons_succ]
    go_simp
    have HJ1 := Lib.hid (show Rdr e1 R (tailL x (payL x) ++ rest) 0 from hJ)
    clear hJ
    go_upto_region 2 with fail
    refine wp_region_steps0 NewT [SV.eq (.int .i64 (x.kind)), SV.eq (.bool true), SV.eq (.bool false)] [([(3, none)], none), ([(7, some 0)], none), ([(8, some 1)], none)] 31 3 rfl rfl (by kernel_rfl) NewT.trans (NewT.refl _) (Nat.le_of_ble_eq_true rfl) ⟨?_, ?_, ?_, trivial⟩ ?_
    · intro a wx hT hF K hK
      obtain ⟨f3, _⟩ := hF
      have f3 : a.tmps.getD 3 undef = .int .i64 (x.kind) := f3
      refine rely_wp rfl ?_
      exact opr_move (.inl rfl) (hK _ _ (NewT.refl _) f3)
    · intro a wx hT hF K hK
      obtain ⟨f7, _⟩ := hF
      have f7 : a.tmps.getD 7 undef = .int .i64 (x.kind) := f7
      refine rely_wp rfl ?_
      exact opr_cv (HW.out ▸ within_cv x.kind 1 6 wx) rfl Tryd.func45 (by kernel_rfl) (by kernel_rfl) (by simp only [List.map_toArray, List.map_cons, List.map_nil, eval_tmp, eval_const, f7]) hK
    · intro a wx hT hF K hK
      obtain ⟨f8, _⟩ := hF
      have f8 : a.tmps.getD 8 undef = .bool true := f8
      refine rely_wp rfl ?_
      exact opr_not rfl f8 (hK _ _ (NewT.refl _) rfl)
    · intro e2 k2
      intro u h; obtain rfl := Eq.symm (h (by simp)); clear h
      intro u h; obtain rfl := Eq.symm (h (by simp)); clear h
      intro u h; obtain rfl := Eq.symm (h (by simp)); clear h
      refine relyEnd_nil rfl ?_
      refine wpList_end rfl ?_
      simp only [Act.put, List.setIfInBounds_toArray, List.set_cons_zero, List.set_cons_succ]
      go_simp
      have HJ2 := Lib.hid (HJ1.out.new k2)
      have hsz2 : w.heap.size < e2.heap.size := Nat.lt_of_lt_of_le hsz (Nat.le_trans k1.size k2.out.size)
      have HRT2 := Lib.hid (RT.trans _ _ _ (RT.trans _ _ _ (RT.new hRl hN) k1) (RT.new HJ1.out.lt k2))
      have X2 := Lib.hid (NewT.row k2 (k1.row hne r2))
      clear hN r2 Hr HJ1 k1 k2 hsz
      go_upto_region 5 with fail
      refine wp_region_steps (RT R) (fun k w => Rdr w R (([tailL x (payL x) ++ rest, tailL x (payL x) ++ rest, tailL x (payL x) ++ rest, tailL x (payL x) ++ rest, tailL x (payL x) ++ rest, tailL x (payL x) ++ rest, rest] : List (List UInt8)).getD k []) 0) [SV.eq (.agg (rowA 21 (formF))), SV.eq (.int .i64 (x.kind)), svFm (rdF x.kind), SV.eq (fnV (rdF x.kind)), SV.eq (.pointer (some ⟨R, 0, none⟩)), svRecB R (w.heap.size + 1) (bodyR x)] [([], none), ([(3, none)], none), ([(13, some 0), (14, some 1)], none), ([(15, some 2)], none), ([(0, none)], none), ([(16, some 3), (17, some 4)], none)] 31 6 rfl rfl (by kernel_rfl) RT.trans (RT.refl _ _) HJ2.out (Nat.le_of_ble_eq_true rfl) ⟨?_, ?_, ?_, ?_, ?_, ?_, trivial⟩ ?_
      · intro a wx hT hF hJ K hK
        replace hK := fun v w' (hN : NewT wx w') c => hK v w' (RT.new (Rdr.lt hJ) hN) (Rdr.new hJ hN) c
        refine rely_wp rfl ?_
        exact opr_cv (forms_cv wx) rfl Tryd.func39 (by kernel_rfl) (by kernel_rfl) (by simp only [List.map_toArray, List.map_nil]) hK
      · intro a wx hT hF hJ K hK
        replace hK := fun v w' (hN : NewT wx w') c => hK v w' (RT.new (Rdr.lt hJ) hN) (Rdr.new hJ hN) c
        obtain ⟨f3, _⟩ := hF
        have f3 : a.tmps.getD 3 undef = .int .i64 (x.kind) := f3
        refine rely_wp rfl ?_
        exact opr_move (.inl rfl) (hK _ _ (NewT.refl _) f3)
      · intro a wx hT hF hJ K hK
        replace hK := fun v w' (hN : NewT wx w') c => hK v w' (RT.new (Rdr.lt hJ) hN) (Rdr.new hJ hN) c
        obtain ⟨f13, f14, _⟩ := hF
        have f13 : a.tmps.getD 13 undef = .agg (rowA 21 (formF)) := f13
        have f14 : a.tmps.getD 14 undef = .int .i64 (x.kind) := f14
        refine rely_wp rfl ?_
        obtain ⟨ff, hff, hrun⟩ := idx_kind x.kind hk6 wx
        exact opr_idx rfl f13 f14 hrun (hK _ _ (NewT.refl _) ⟨ff, rfl, hff⟩)
      · intro a wx hT hF hJ K hK
        replace hK := fun v w' (hN : NewT wx w') c => hK v w' (RT.new (Rdr.lt hJ) hN) (Rdr.new hJ hN) c
        obtain ⟨f15, _⟩ := hF
        replace f15 := show (svFm (rdF x.kind)).pred (a.tmps.getD 15 undef) wx from f15
        refine rely_wp rfl ?_
        obtain ⟨ff, hff, hf2⟩ := f15
        exact opr_fieldv rfl hff (fldv_2 ff _ hf2 wx) (hK _ _ (NewT.refl _) rfl)
      · intro a wx hT hF hJ K hK
        replace hK := fun v w' (hN : NewT wx w') c => hK v w' (RT.new (Rdr.lt hJ) hN) (Rdr.new hJ hN) c
        obtain ⟨f0, _⟩ := hF
        have f0 : a.tmps.getD 0 undef = .pointer (some ⟨R, 0, none⟩) := f0
        refine rely_wp rfl ?_
        exact opr_move (.inl rfl) (hK _ _ (NewT.refl _) f0)
      · intro a wx hT hF hJ K hK
        obtain ⟨f16, f17, _⟩ := hF
        have f16 : a.tmps.getD 16 undef = fnV (rdF x.kind) := f16
        have f17 : a.tmps.getD 17 undef = .pointer (some ⟨R, 0, none⟩) := f17
        refine rely_wp rfl ?_
        obtain ⟨fn, hf1, hf2, hf3⟩ := rdF_fn x.kind hk6
        refine opr_callv rfl f16 hf1 hf2 hf3 (by simp only [List.map_toArray, List.map_cons, List.map_nil, eval_tmp, f17]; rfl) (Calls.mono (readKind_cv R x rest wx Hri.out (show Rdr wx R (tailL x (payL x) ++ rest) 0 from hJ) (by omega)) ?_)
        rintro e w' ⟨v, rfl, hv, hT', hr⟩
        exact ⟨v, rfl, hK _ _ hT' hr ⟨by omega, hv.mono (by have := hT.size; omega)⟩⟩
      · intro e5 k5 hJ
        intro u h; obtain rfl := Eq.symm (h (by simp)); clear h
        intro u h; obtain rfl := Eq.symm (h (by simp)); clear h
        intro _ _
        intro u h; obtain rfl := Eq.symm (h (by simp)); clear h
        intro u h; obtain rfl := Eq.symm (h (by simp)); clear h
        intro u18 h; have g18 := h (by simp); clear h; replace g18 := show (svRecB R (w.heap.size + 1) (bodyR x)).pred u18 e5 from g18
        refine relyEnd_nil rfl ?_
        simp only [Act.put, List.setIfInBounds_toArray, List.set_cons_zero, List.set_cons_succ]
        obtain ⟨_, sv, dv, e18, G18, V18⟩ := g18
        subst e18
        refine wpList_new (n := 109) rfl rfl rfl rfl rfl rfl (by simp) run_alloc_rec info_rec (recF_one _ _ _ (oneP G18.1) (oneR V18.out)) rfl ?_
        intro w6 hn6 r4
        refine wpList_end rfl ?_
        simp only [Act.put, List.setIfInBounds_toArray, List.set_cons_zero, List.set_cons_succ]
        go_simp
        have HJ5 := Lib.hid (Rdr.new (show Rdr e5 R rest 0 from hJ) hn6)
        have HRT5 := Lib.hid (RT.trans _ _ _ (RT.trans _ _ _ HRT2.out k5) (RT.new (Rdr.lt (show Rdr e5 R rest 0 from hJ)) hn6))
        have X4 := Lib.hid r4
        have X5 := Lib.hid (hn6.row (k5.row hne X2.out))
        have hG : w.heap.size < e5.heap.size := Nat.lt_of_lt_of_le hsz2 k5.size
        have HP0 := Lib.hid ((G18.aheadX (Nat.le_refl _)).new hn6)
        have HV0 := Lib.hid ((V18.ahead (Nat.le_refl _)).new hn6)
        clear hJ r4 hn6 G18 V18 X2
        generalize e5.heap.size = G at X4 hG HP0 HV0 ⊢
        have hne2 : w.heap.size ≠ G := by omega
        go_upto_region 6 with fail
        refine wp_region_steps0 NewT [SV.eq (.int .i64 (x.kind))] [([(3, none)], none)] 31 1 rfl rfl (by kernel_rfl) NewT.trans (NewT.refl _) (Nat.le_of_ble_eq_true rfl) ⟨?_, trivial⟩ ?_
        · intro a wx hT hF K hK
          obtain ⟨f3, _⟩ := hF
          have f3 : a.tmps.getD 3 undef = .int .i64 (x.kind) := f3
          refine rely_wp rfl ?_
          exact opr_move (.inl rfl) (hK _ _ (NewT.refl _) f3)
        · intro e6 k6
          intro u h; obtain rfl := Eq.symm (h (by simp)); clear h
          refine relyEnd_nil rfl ?_
          simp only [Act.put, List.setIfInBounds_toArray, List.set_cons_zero, List.set_cons_succ]
          refine wpList_plain rfl (fun K hK => ?_)
          refine opr_fldR (by decide) rfl rfl (hK _ _ ?_)
          clear hK K
          refine wpList_plain rfl (fun K hK => ?_)
          refine opr_put1 rfl rfl rfl (k6.row X4.out) (by decide) info_i1 rfl (fun i _ => rs_kind (bodyR x) sv dv i _) ?_
          intro e7 k7 r7
          refine hK _ _ ?_
          clear hK K
          refine wpList_end rfl ?_
          go_simp
          rw [body_kind] at r7
          have Y4 := Lib.hid r7
          have HRT := Lib.hid (RT.late2 (RT.trans _ _ _ HRT5.out (RT.new HJ5.out.lt k6)) (Nat.le_of_lt hG) hRl k7)
          have HX2 := Lib.hid (k7.row hne2 (NewT.row k6 X5.out))
          have HP := Lib.hid ((HP0.out.new k6).rt k7 (.inr rfl))
          have HV := Lib.hid ((HV0.out.new k6).rt k7 (.inr rfl))
          have HJ7 := Lib.hid ((HJ5.out.new k6).rt k7 (by omega))
          have HX7 : Hid (RecV e7 (.agg (rowA 109 (recF (onlyR x) sv dv))) (onlyR x)) := Lib.hid ⟨sv, dv, rfl, HP.out.1.1, HV.out.out.out⟩
          clear r7 HP0 HV0 HJ5 X5 X4 HRT5
          go_upto_region 7 with fail
          refine wp_region_steps0 NewT [SV.eq (.agg (rowA 109 (recF (onlyR x) sv dv))), SV.eq (.bool true), SV.eq (.bool false)] [([(4, none)], none), ([(21, some 0)], none), ([(22, some 1)], none)] 31 3 rfl rfl (by kernel_rfl) NewT.trans (NewT.refl _) (Nat.le_of_ble_eq_true rfl) ⟨?_, ?_, ?_, trivial⟩ ?_
          · intro a wx hT hF K hK
            obtain ⟨f4, _⟩ := hF
            have f4 : a.tmps.getD 4 undef = .pointer (some ⟨G, 0, none⟩) := f4
            refine rely_wp rfl ?_
            exact opr_ldR (hT.row Y4.out) rfl f4 (hK _ _ (NewT.refl _) rfl)
          · intro a wx hT hF K hK
            obtain ⟨f21, _⟩ := hF
            have f21 : a.tmps.getD 21 undef = .agg (rowA 109 (recF (onlyR x) sv dv)) := f21
            refine rely_wp rfl ?_
            exact opr_cv (HR.out ▸ Right_cv _ (onlyR x) wx (hT.recV HX7.out)) rfl Tryd.func11 (by kernel_rfl) (by kernel_rfl) (by simp only [List.map_toArray, List.map_cons, List.map_nil, eval_tmp, f21]) hK
          · intro a wx hT hF K hK
            obtain ⟨f22, _⟩ := hF
            have f22 : a.tmps.getD 22 undef = .bool true := f22
            refine rely_wp rfl ?_
            exact opr_not rfl f22 (hK _ _ (NewT.refl _) rfl)
          · intro e8 k8
            intro u h; obtain rfl := Eq.symm (h (by simp)); clear h
            intro u h; obtain rfl := Eq.symm (h (by simp)); clear h
            intro u h; obtain rfl := Eq.symm (h (by simp)); clear h
            refine relyEnd_nil rfl ?_
            refine wpList_end rfl ?_
            simp only [Act.put, List.setIfInBounds_toArray, List.set_cons_zero, List.set_cons_succ]
            go_simp
            have HJ8 := Lib.hid (HJ7.out.new k8)
            go_upto_region 9 with fail
            refine wp_region_steps0 NewT [SV.eq (.pointer (some ⟨R, 0, none⟩)), SV.eq (.int .i64 (0)), SV.eq (.bool false)] [([(0, none)], none), ([(26, some 0)], none), ([(27, some 1)], none)] 31 3 rfl rfl (by kernel_rfl) NewT.trans (NewT.refl _) (Nat.le_of_ble_eq_true rfl) ⟨?_, ?_, ?_, trivial⟩ ?_
            · intro a wx hT hF K hK
              obtain ⟨f0, _⟩ := hF
              have f0 : a.tmps.getD 0 undef = .pointer (some ⟨R, 0, none⟩) := f0
              refine rely_wp rfl ?_
              exact opr_move (.inl rfl) (hK _ _ (NewT.refl _) f0)
            · intro a wx hT hF K hK
              obtain ⟨f26, _⟩ := hF
              have f26 : a.tmps.getD 26 undef = .pointer (some ⟨R, 0, none⟩) := f26
              refine rely_wp rfl ?_
              exact opr_cv (Bad_any R rest 0 wx (HJ8.out.new hT)) rfl Tryd.func47 (by kernel_rfl) (by kernel_rfl) (by simp only [List.map_toArray, List.map_cons, List.map_nil, eval_tmp, f26]) hK
            · intro a wx hT hF K hK
              obtain ⟨f27, _⟩ := hF
              have f27 : a.tmps.getD 27 undef = .int .i64 (0) := f27
              refine rely_wp rfl ?_
              exact opr_cmp (b := false) (.inr (.inl ⟨rfl, (by decide)⟩)) Tryd.underlying36 rfl f27 rfl (hK _ _ (NewT.refl _) rfl)
            · intro e9 k9
              intro u h; obtain rfl := Eq.symm (h (by simp)); clear h
              intro u h; obtain rfl := Eq.symm (h (by simp)); clear h
              intro u h; obtain rfl := Eq.symm (h (by simp)); clear h
              refine relyEnd_nil rfl ?_
              refine wpList_end rfl ?_
              simp only [Act.put, List.setIfInBounds_toArray, List.set_cons_zero, List.set_cons_succ]
              go_simp
              go_upto_region 11 with fail
              refine wp_region_steps0 NewT [SV.eq (.agg (rowA 109 (recF (onlyR x) sv dv)))] [([(4, none)], none)] 31 1 rfl rfl (by kernel_rfl) NewT.trans (NewT.refl _) (Nat.le_of_ble_eq_true rfl) ⟨?_, trivial⟩ ?_
              · intro a wx hT hF K hK
                obtain ⟨f4, _⟩ := hF
                have f4 : a.tmps.getD 4 undef = .pointer (some ⟨G, 0, none⟩) := f4
                refine rely_wp rfl ?_
                exact opr_ldR (hT.row (NewT.row k9 (NewT.row k8 Y4.out))) rfl f4 (hK _ _ (NewT.refl _) rfl)
              · intro wf kf
                intro u h; obtain rfl := Eq.symm (h (by simp)); clear h
                refine relyEnd_nil rfl ?_
                simp only [Act.put, List.setIfInBounds_toArray, List.set_cons_zero, List.set_cons_succ]
                refine wpList_plain rfl (fun K hK => ?_)
                refine opr_putm rfl rfl rfl (kf.row (NewT.row k9 (NewT.row k8 HX2.out))) (by decide) info_rec (recF_one _ _ _ (oneP HP.out.1.1) (oneR HV.out.out.out)) (put_all _ _) ?_
                intro wq hTq rq
                refine hK _ _ ?_
                refine wpList_end rfl ?_
                go_simp
                go_wp2
                have hN9 := NewT.trans _ _ _ k8 (NewT.trans _ _ _ k9 kf)
                refine bodyPost_ret (results_agg rfl _ rfl rq Tryd.underlying27 rfl info_rec) rfl ⟨_, rfl, ?_, RT.late2 (RT.trans _ _ _ HRT.out (RT.new (Nat.lt_of_lt_of_le hRl HRT.out.size) hN9)) (Nat.le_refl _) hRl hTq, Rdr.rt (HJ7.out.new hN9) hTq hRl⟩
                exact ⟨sv, dv, rfl, ((HP.out.new hN9).rt hTq (.inl (by omega))).1, ((HV.out.new hN9).rt hTq (.inl (by omega))).out⟩
end Go.Proofs.YthgblcpekhiphaaDoor
/- Package rec: Get, of what was put, and of an unknown kind. -/
namespace Go.Proofs.YthgblcpekhiphaaDoor
open Go Go.RowKit
set_option maxRecDepth 8000
theorem Done_0 (R : Nat) (w : World) (h : Rdr w R [] 0) : Cv 43 #[.pointer (some ⟨R, 0, none⟩)] w (.eq (.int .i64 0)) := by simpa using Done_any R [] 0 w h
theorem Done_2 (R : Nat) (w : World) (h : Rdr w R [] 2) : Cv 43 #[.pointer (some ⟨R, 0, none⟩)] w (.eq (.int .i64 2)) := by simpa using Done_any R [] 2 w h
theorem build_zero (w : World) : (Instr.build 27 #[]).run Tryd.prog w = .ok (.agg (rowA 109 (recF zR (.slice none 0 0) (.slice none 0 0)))) w := by kernel_rfl
theorem nine : outN [9] = (9, [], 0) := by decide +kernel
set_option maxHeartbeats 1000000 in
/-- An unknown kind. -/
theorem RRead_nine (R : Nat) (w : World) (h : Rdr w R [9] 0) :
    Calls Tryd.prog 26 #[.pointer (some ⟨R, 0, none⟩)] w fun e w' => e = .returned (.agg (rowA 109 (recF zR (.slice none 0 0) (.slice none 0 0)))) ∧ RT R w w' ∧ Rdr w' R [] 2 := by
  have hRl := h.lt
  have Hr := Lib.hid h
  have HW : inR 9 1 6 = false := by decide
  clear h
  go_enter Tryd.func26, Tryd.ntmps26
  go_upto_region 1 with fail
  have r2 := rowIs_box w 27 109 (recF zR (.slice none 0 0) (.slice none 0 0))
  have hN := NewT.alloc w (.cells (rowA 109 (recF zR (.slice none 0 0) (.slice none 0 0))) 27)
  change Code.wp _ _ _ _ (w.alloc (.cells (rowA 109 (recF zR (.slice none 0 0) (.slice none 0 0))) 27))
  generalize w.alloc (.cells (rowA 109 (recF zR (.slice none 0 0) (.slice none 0 0))) 27) = W0 at r2 hN ⊢
  replace Hr := Lib.hid (Rdr.new Hr.out hN)
  have hne : w.heap.size ≠ R := by omega
  go_upto_region 4 with (first
    | (go_at_call 44; refine (RNum_good R [9] W0 Hr.out (by decide)).mono ?_; rintro _ w1 ⟨rfl, hT1, hr1⟩; rw [nine] at hr1 ⊢; simp only at hr1 ⊢; have Hr1 := Lib.hid hr1; clear hr1)
    | (go_at_call 45; refine (within_cv 9 1 6 w1).eq.mono ?_; rintro _ w2 ⟨rfl, hB2⟩; rw [HW]; have Hr2 := Lib.hid (Hr1.out.new hB2))
    | (go_at_call 46; refine (Fail_good R [] 2 (by decide) w2 Hr2.out).mono ?_; rintro _ w3 ⟨rfl, hT3, hr3⟩; have Hr3 := Lib.hid hr3; clear hr3))
  have X2 := Lib.hid (hT3.row hne (NewT.row hB2 (hT1.row hne r2)))
  have HRT := Lib.hid (RT.trans _ _ _ (RT.trans _ _ _ (RT.trans _ _ _ (RT.new hRl hN) hT1) (RT.new Hr1.out.lt hB2)) hT3)
  refine wp_region_steps0 NewT [SV.eq (.agg (rowA 109 (recF zR (.slice none 0 0) (.slice none 0 0))))] [([], none)] 31 1 rfl rfl (by kernel_rfl) NewT.trans (NewT.refl _) (Nat.le_of_ble_eq_true rfl) ⟨?_, trivial⟩ ?_
  · intro a wx hT hF K hK
    refine rely_wp rfl ?_
    exact opr_build (pv := #[]) rfl (by simp) (build_zero wx) (hK _ _ (NewT.refl _) rfl)
  · intro wf kf
    intro u h; obtain rfl := Eq.symm (h (by simp)); clear h
    refine relyEnd_nil rfl ?_
    simp only [Act.put, List.setIfInBounds_toArray, List.set_cons_zero, List.set_cons_succ]
    refine wpList_plain rfl (fun K hK => ?_)
    refine opr_putm rfl rfl rfl (kf.row X2.out) (by decide) info_rec (recF_one _ _ _ rfl rfl) (put_all _ _) ?_
    intro wq hTq rq
    refine hK _ _ ?_
    refine wpList_end rfl ?_
    go_simp
    go_wp2
    exact bodyPost_ret (results_agg rfl _ rfl rq Tryd.underlying27 rfl info_rec) rfl ⟨rfl, RT.late2 (RT.trans _ _ _ HRT.out (RT.new Hr3.out.lt kf)) (Nat.le_refl _) hRl hTq, Rdr.rt (Hr3.out.new kf) hTq hRl⟩
set_option maxHeartbeats 4000000 in
theorem Get_cv (v : Value) (x : Rc) (hri : rightB x = true) (w : World) (h : RdV w [] v (openL x)) : Cv 23 #[v] w (svTup (onlyR x) 0) := by
  unfold Cv
  have HV := Lib.hid h
  clear h
  go_enter Tryd.func23, Tryd.ntmps23
  go_upto_region 1 with fail
  have r2 := rowIs_box w 27 109 (recF zR (.slice none 0 0) (.slice none 0 0))
  have hN := NewT.alloc w (.cells (rowA 109 (recF zR (.slice none 0 0) (.slice none 0 0))) 27)
  have hsz : w.heap.size < (w.alloc (.cells (rowA 109 (recF zR (.slice none 0 0) (.slice none 0 0))) 27)).heap.size := by simp
  change Code.wp _ _ _ _ (w.alloc (.cells (rowA 109 (recF zR (.slice none 0 0) (.slice none 0 0))) 27))
  generalize w.alloc (.cells (rowA 109 (recF zR (.slice none 0 0) (.slice none 0 0))) 27) = W0 at r2 hN hsz ⊢
  have HV0 := Lib.hid (hN.rd HV.out)
  refine wp_region_steps0 NewT [svRd (openL x), svRdr W0 (openL x), svRdr W0 (openL x)] [([(0, none)], none), ([(7, some 0)], none), ([(8, some 1)], none)] 18 3 rfl rfl (by kernel_rfl) NewT.trans (NewT.refl _) (Nat.le_of_ble_eq_true rfl) ⟨?_, ?_, ?_, trivial⟩ ?_
  · intro a wx hT hF K hK
    obtain ⟨f0, _⟩ := hF
    have f0 : a.tmps.getD 0 undef = v := f0
    refine rely_wp rfl ?_
    exact opr_move (.inl rfl) (hK _ _ (NewT.refl _) (by rw [eval_tmp, f0]; exact hT.rd HV0.out))
  · intro a wx hT hF K hK
    obtain ⟨f7, _⟩ := hF
    replace f7 := show (svRd (openL x)).pred (a.tmps.getD 7 undef) wx from f7
    refine rely_wp rfl ?_
    exact opr_cv (Read_cv _ (openL x) wx W0 f7 (by have := open_len x hri; omega) hT.out.size) rfl Tryd.func24 (by kernel_rfl) (by kernel_rfl) (by simp only [List.map_toArray, List.map_cons, List.map_nil, eval_tmp]) hK
  · intro a wx hT hF K hK
    obtain ⟨f8, _⟩ := hF
    replace f8 := show (svRdr W0 (openL x)).pred (a.tmps.getD 8 undef) wx from f8
    refine rely_wp rfl ?_
    exact opr_move (.inr rfl) (hK _ _ (NewT.refl _) f8)
  · intro w1 k1
    intro _ _
    intro _ _
    intro u4 h; have g4 := h (by simp); clear h; replace g4 := show (svRdr W0 (openL x)).pred u4 w1 from g4
    refine relyEnd_nil rfl ?_
    refine wpList_end rfl ?_
    simp only [Act.put, List.setIfInBounds_toArray, List.set_cons_zero, List.set_cons_succ]
    go_simp
    obtain ⟨R, rfl, hR, hr1⟩ := g4
    have HJ1 := Lib.hid hr1
    have X2 := Lib.hid (k1.row r2)
    have HN1 := Lib.hid (NewT.trans _ _ _ hN k1)
    have hne : w.heap.size ≠ R := by omega
    have hRl := hr1.lt
    clear hr1 r2 hN HV HV0
    go_upto_region 2 with fail
    refine wp_region_steps (RT R) (fun k w => Rdr w R (([openL x, openL x, []] : List (List UInt8)).getD k []) 0) [SV.eq (.pointer (some ⟨R, 0, none⟩)), svRecB R (R + 1) (onlyR x)] [([(4, none)], none), ([(9, some 0)], none)] 18 2 rfl rfl (by kernel_rfl) RT.trans (RT.refl _ _) HJ1.out (Nat.le_of_ble_eq_true rfl) ⟨?_, ?_, trivial⟩ ?_
    · intro a wx hT hF hJ K hK
      replace hK := fun v w' (hN : NewT wx w') c => hK v w' (RT.new (Rdr.lt hJ) hN) (Rdr.new hJ hN) c
      obtain ⟨f4, _⟩ := hF
      have f4 : a.tmps.getD 4 undef = .pointer (some ⟨R, 0, none⟩) := f4
      refine rely_wp rfl ?_
      exact opr_move (.inl rfl) (hK _ _ (NewT.refl _) f4)
    · intro a wx hT hF hJ K hK
      obtain ⟨f9, _⟩ := hF
      have f9 : a.tmps.getD 9 undef = .pointer (some ⟨R, 0, none⟩) := f9
      refine rely_wp rfl ?_
      refine opr_call rfl Tryd.func26 (by kernel_rfl) (by kernel_rfl) (by simp only [List.map_toArray, List.map_cons, List.map_nil, eval_tmp, f9]) ((RRead_cv R x [] wx hri (by rw [List.append_nil]; exact (show Rdr wx R (openL x) 0 from hJ)) (by simp)).mono ?_)
      rintro e w' ⟨v, rfl, hv, hT', hr⟩
      exact ⟨_, rfl, hK _ _ hT' hr ⟨by omega, hv.mono (by have := hT.size; omega)⟩⟩
    · intro e2 k2 hJ
      intro u h; obtain rfl := Eq.symm (h (by simp)); clear h
      intro u10 h; have g10 := h (by simp); clear h; replace g10 := show (svRecB R (R + 1) (onlyR x)).pred u10 e2 from g10
      refine relyEnd_nil rfl ?_
      simp only [Act.put, List.setIfInBounds_toArray, List.set_cons_zero, List.set_cons_succ]
      obtain ⟨_, sv, dv, e10, G10, V10⟩ := g10
      subst e10
      refine wpList_new (n := 109) rfl rfl rfl rfl rfl rfl (by simp) run_alloc_rec info_rec (recF_one _ _ _ (oneP G10.1) (oneR V10.out)) rfl ?_
      intro w3 hn3 r5
      refine wpList_end rfl ?_
      simp only [Act.put, List.setIfInBounds_toArray, List.set_cons_zero, List.set_cons_succ]
      go_simp
      have HJ3 := Lib.hid (Rdr.new (show Rdr e2 R [] 0 from hJ) hn3)
      have HN3 := Lib.hid (NewT.trans _ _ _ (HN1.out.rt k2 (by omega)) hn3)
      have X5 := Lib.hid r5
      have X22 := Lib.hid (hn3.row (k2.row hne X2.out))
      have hG : w.heap.size < e2.heap.size := Nat.lt_of_lt_of_le hsz (Nat.le_trans k1.out.size k2.size)
      have HP := Lib.hid (G10.new hn3)
      have HV := Lib.hid (V10.new hn3)
      clear hJ r5 hn3 G10 V10 X2 HN1
      generalize e2.heap.size = G at X5 hG ⊢
      go_upto_region 3 with fail
      refine wp_region_steps0 NewT [SV.eq (.pointer (some ⟨R, 0, none⟩)), SV.eq (.int .i64 (0)), SV.eq (.int .i64 (0))] [([(4, none)], none), ([(11, some 0)], none), ([(12, some 1)], none)] 18 3 rfl rfl (by kernel_rfl) NewT.trans (NewT.refl _) (Nat.le_of_ble_eq_true rfl) ⟨?_, ?_, ?_, trivial⟩ ?_
      · intro a wx hT hF K hK
        obtain ⟨f4, _⟩ := hF
        have f4 : a.tmps.getD 4 undef = .pointer (some ⟨R, 0, none⟩) := f4
        refine rely_wp rfl ?_
        exact opr_move (.inl rfl) (hK _ _ (NewT.refl _) f4)
      · intro a wx hT hF K hK
        obtain ⟨f11, _⟩ := hF
        have f11 : a.tmps.getD 11 undef = .pointer (some ⟨R, 0, none⟩) := f11
        refine rely_wp rfl ?_
        exact opr_cv (Done_0 R wx (HJ3.out.new hT)) rfl Tryd.func43 (by kernel_rfl) (by kernel_rfl) (by simp only [List.map_toArray, List.map_cons, List.map_nil, eval_tmp, f11]) hK
      · intro a wx hT hF K hK
        obtain ⟨f12, _⟩ := hF
        have f12 : a.tmps.getD 12 undef = .int .i64 (0) := f12
        refine rely_wp rfl ?_
        exact opr_move (.inr rfl) (hK _ _ (NewT.refl _) f12)
      · intro e4 k4
        intro u h; obtain rfl := Eq.symm (h (by simp)); clear h
        intro u h; obtain rfl := Eq.symm (h (by simp)); clear h
        intro u h; obtain rfl := Eq.symm (h (by simp)); clear h
        refine relyEnd_nil rfl ?_
        refine wpList_end rfl ?_
        simp only [Act.put, List.setIfInBounds_toArray, List.set_cons_zero, List.set_cons_succ]
        go_simp
        go_upto_region 4 with fail
        refine wp_region_steps0 NewT [SV.eq (.int .i64 (0)), SV.eq (.bool false)] [([(6, none)], none), ([(13, some 0)], none)] 18 2 rfl rfl (by kernel_rfl) NewT.trans (NewT.refl _) (Nat.le_of_ble_eq_true rfl) ⟨?_, ?_, trivial⟩ ?_
        · intro a wx hT hF K hK
          obtain ⟨f6, _⟩ := hF
          have f6 : a.tmps.getD 6 undef = .int .i64 (0) := f6
          refine rely_wp rfl ?_
          exact opr_move (.inl rfl) (hK _ _ (NewT.refl _) f6)
        · intro a wx hT hF K hK
          obtain ⟨f13, _⟩ := hF
          have f13 : a.tmps.getD 13 undef = .int .i64 (0) := f13
          refine rely_wp rfl ?_
          exact opr_cmp (b := false) (.inr (.inl ⟨rfl, (by decide)⟩)) Tryd.underlying36 rfl f13 rfl (hK _ _ (NewT.refl _) rfl)
        · intro e5 k5
          intro u h; obtain rfl := Eq.symm (h (by simp)); clear h
          intro u h; obtain rfl := Eq.symm (h (by simp)); clear h
          refine relyEnd_nil rfl ?_
          refine wpList_end rfl ?_
          simp only [Act.put, List.setIfInBounds_toArray, List.set_cons_zero, List.set_cons_succ]
          go_simp
          go_upto_region 6 with fail
          refine wp_region_steps0 NewT [SV.eq (.agg (rowA 109 (recF (onlyR x) sv dv)))] [([(5, none)], none)] 18 1 rfl rfl (by kernel_rfl) NewT.trans (NewT.refl _) (Nat.le_of_ble_eq_true rfl) ⟨?_, trivial⟩ ?_
          · intro a wx hT hF K hK
            obtain ⟨f5, _⟩ := hF
            have f5 : a.tmps.getD 5 undef = .pointer (some ⟨G, 0, none⟩) := f5
            refine rely_wp rfl ?_
            exact opr_ldR (hT.row (NewT.row k5 (NewT.row k4 X5.out))) rfl f5 (hK _ _ (NewT.refl _) rfl)
          · intro wf kf
            intro u h; obtain rfl := Eq.symm (h (by simp)); clear h
            refine relyEnd_nil rfl ?_
            simp only [Act.put, List.setIfInBounds_toArray, List.set_cons_zero, List.set_cons_succ]
            refine wpList_plain rfl (fun K hK => ?_)
            refine opr_putm rfl rfl rfl (kf.row (NewT.row k5 (NewT.row k4 X22.out))) (by decide) info_rec (recF_one _ _ _ (oneP HP.out.1) (oneR HV.out.out)) (put_all _ _) ?_
            intro wq hTq rq
            refine hK _ _ ?_
            clear hK K
            refine wpList_plain rfl (fun K hK => ?_)
            refine opr_move (.inr rfl) (hK _ _ ?_)
            clear hK K
            refine wpList_end rfl ?_
            go_simp
            go_wp2
            have hN9 := NewT.trans _ _ _ k4 (NewT.trans _ _ _ k5 kf)
            have hNq : NewT w wq := (NewT.trans _ _ _ HN3.out hN9).rt hTq (Nat.le_refl _)
            refine bodyPost_ret (results_2 rfl _ rfl rq Tryd.underlying27 rfl info_rec) rfl ⟨_, rfl, hNq, _, rfl, ?_⟩
            exact ⟨sv, dv, rfl, ((HP.out.new hN9).rt hTq (by omega)).1, ((HV.out.new hN9).rt hTq (by omega)).out⟩
set_option maxHeartbeats 4000000 in
theorem Get_nine (v : Value)  (w : World) (h : RdV w [] v ([9])) : Cv 23 #[v] w (svTup zR 2) := by
  unfold Cv
  have HV := Lib.hid h
  clear h
  go_enter Tryd.func23, Tryd.ntmps23
  go_upto_region 1 with fail
  have r2 := rowIs_box w 27 109 (recF zR (.slice none 0 0) (.slice none 0 0))
  have hN := NewT.alloc w (.cells (rowA 109 (recF zR (.slice none 0 0) (.slice none 0 0))) 27)
  have hsz : w.heap.size < (w.alloc (.cells (rowA 109 (recF zR (.slice none 0 0) (.slice none 0 0))) 27)).heap.size := by simp
  change Code.wp _ _ _ _ (w.alloc (.cells (rowA 109 (recF zR (.slice none 0 0) (.slice none 0 0))) 27))
  generalize w.alloc (.cells (rowA 109 (recF zR (.slice none 0 0) (.slice none 0 0))) 27) = W0 at r2 hN hsz ⊢
  have HV0 := Lib.hid (hN.rd HV.out)
  refine wp_region_steps0 NewT [svRd ([9]), svRdr W0 ([9]), svRdr W0 ([9])] [([(0, none)], none), ([(7, some 0)], none), ([(8, some 1)], none)] 18 3 rfl rfl (by kernel_rfl) NewT.trans (NewT.refl _) (Nat.le_of_ble_eq_true rfl) ⟨?_, ?_, ?_, trivial⟩ ?_
  · intro a wx hT hF K hK
    obtain ⟨f0, _⟩ := hF
    have f0 : a.tmps.getD 0 undef = v := f0
    refine rely_wp rfl ?_
    exact opr_move (.inl rfl) (hK _ _ (NewT.refl _) (by rw [eval_tmp, f0]; exact hT.rd HV0.out))
  · intro a wx hT hF K hK
    obtain ⟨f7, _⟩ := hF
    replace f7 := show (svRd ([9])).pred (a.tmps.getD 7 undef) wx from f7
    refine rely_wp rfl ?_
    exact opr_cv (Read_cv _ ([9]) wx W0 f7 (by decide) hT.out.size) rfl Tryd.func24 (by kernel_rfl) (by kernel_rfl) (by simp only [List.map_toArray, List.map_cons, List.map_nil, eval_tmp]) hK
  · intro a wx hT hF K hK
    obtain ⟨f8, _⟩ := hF
    replace f8 := show (svRdr W0 ([9])).pred (a.tmps.getD 8 undef) wx from f8
    refine rely_wp rfl ?_
    exact opr_move (.inr rfl) (hK _ _ (NewT.refl _) f8)
  · intro w1 k1
    intro _ _
    intro _ _
    intro u4 h; have g4 := h (by simp); clear h; replace g4 := show (svRdr W0 ([9])).pred u4 w1 from g4
    refine relyEnd_nil rfl ?_
    refine wpList_end rfl ?_
    simp only [Act.put, List.setIfInBounds_toArray, List.set_cons_zero, List.set_cons_succ]
    go_simp
    obtain ⟨R, rfl, hR, hr1⟩ := g4
    have HJ1 := Lib.hid hr1
    have X2 := Lib.hid (k1.row r2)
    have HN1 := Lib.hid (NewT.trans _ _ _ hN k1)
    have hne : w.heap.size ≠ R := by omega
    have hRl := hr1.lt
    clear hr1 r2 hN HV HV0
    go_upto_region 2 with fail
    refine wp_region_steps (RT R) (fun k w => Rdr w R (([[9], [9], []] : List (List UInt8)).getD k []) (if k ≤ 1 then 0 else 2)) [SV.eq (.pointer (some ⟨R, 0, none⟩)), svRecB R (R + 1) zR] [([(4, none)], none), ([(9, some 0)], none)] 18 2 rfl rfl (by kernel_rfl) RT.trans (RT.refl _ _) HJ1.out (Nat.le_of_ble_eq_true rfl) ⟨?_, ?_, trivial⟩ ?_
    · intro a wx hT hF hJ K hK
      replace hK := fun v w' (hN : NewT wx w') c => hK v w' (RT.new (Rdr.lt hJ) hN) (Rdr.new hJ hN) c
      obtain ⟨f4, _⟩ := hF
      have f4 : a.tmps.getD 4 undef = .pointer (some ⟨R, 0, none⟩) := f4
      refine rely_wp rfl ?_
      exact opr_move (.inl rfl) (hK _ _ (NewT.refl _) f4)
    · intro a wx hT hF hJ K hK
      obtain ⟨f9, _⟩ := hF
      have f9 : a.tmps.getD 9 undef = .pointer (some ⟨R, 0, none⟩) := f9
      refine rely_wp rfl ?_
      refine opr_call rfl Tryd.func26 (by kernel_rfl) (by kernel_rfl) (by simp only [List.map_toArray, List.map_cons, List.map_nil, eval_tmp, f9]) ((RRead_nine R wx (show Rdr wx R ([9]) 0 from hJ)).mono ?_)
      rintro e w' ⟨rfl, hT', hr⟩
      exact ⟨_, rfl, hK _ _ hT' hr ⟨by omega, nilB rfl rfl⟩⟩
    · intro e2 k2 hJ
      intro u h; obtain rfl := Eq.symm (h (by simp)); clear h
      intro u10 h; have g10 := h (by simp); clear h; replace g10 := show (svRecB R (R + 1) zR).pred u10 e2 from g10
      refine relyEnd_nil rfl ?_
      simp only [Act.put, List.setIfInBounds_toArray, List.set_cons_zero, List.set_cons_succ]
      obtain ⟨_, sv, dv, e10, G10, V10⟩ := g10
      subst e10
      refine wpList_new (n := 109) rfl rfl rfl rfl rfl rfl (by simp) run_alloc_rec info_rec (recF_one _ _ _ (oneP G10.1) (oneR V10.out)) rfl ?_
      intro w3 hn3 r5
      refine wpList_end rfl ?_
      simp only [Act.put, List.setIfInBounds_toArray, List.set_cons_zero, List.set_cons_succ]
      go_simp
      have HJ3 := Lib.hid (Rdr.new (show Rdr e2 R [] 2 from hJ) hn3)
      have HN3 := Lib.hid (NewT.trans _ _ _ (HN1.out.rt k2 (by omega)) hn3)
      have X5 := Lib.hid r5
      have X22 := Lib.hid (hn3.row (k2.row hne X2.out))
      have hG : w.heap.size < e2.heap.size := Nat.lt_of_lt_of_le hsz (Nat.le_trans k1.out.size k2.size)
      have HP := Lib.hid (G10.new hn3)
      have HV := Lib.hid (V10.new hn3)
      clear hJ r5 hn3 G10 V10 X2 HN1
      generalize e2.heap.size = G at X5 hG ⊢
      go_upto_region 3 with fail
      refine wp_region_steps0 NewT [SV.eq (.pointer (some ⟨R, 0, none⟩)), SV.eq (.int .i64 (2)), SV.eq (.int .i64 (2))] [([(4, none)], none), ([(11, some 0)], none), ([(12, some 1)], none)] 18 3 rfl rfl (by kernel_rfl) NewT.trans (NewT.refl _) (Nat.le_of_ble_eq_true rfl) ⟨?_, ?_, ?_, trivial⟩ ?_
      · intro a wx hT hF K hK
        obtain ⟨f4, _⟩ := hF
        have f4 : a.tmps.getD 4 undef = .pointer (some ⟨R, 0, none⟩) := f4
        refine rely_wp rfl ?_
        exact opr_move (.inl rfl) (hK _ _ (NewT.refl _) f4)
      · intro a wx hT hF K hK
        obtain ⟨f11, _⟩ := hF
        have f11 : a.tmps.getD 11 undef = .pointer (some ⟨R, 0, none⟩) := f11
        refine rely_wp rfl ?_
        exact opr_cv (Done_2 R wx (HJ3.out.new hT)) rfl Tryd.func43 (by kernel_rfl) (by kernel_rfl) (by simp only [List.map_toArray, List.map_cons, List.map_nil, eval_tmp, f11]) hK
      · intro a wx hT hF K hK
        obtain ⟨f12, _⟩ := hF
        have f12 : a.tmps.getD 12 undef = .int .i64 (2) := f12
        refine rely_wp rfl ?_
        exact opr_move (.inr rfl) (hK _ _ (NewT.refl _) f12)
      · intro e4 k4
        intro u h; obtain rfl := Eq.symm (h (by simp)); clear h
        intro u h; obtain rfl := Eq.symm (h (by simp)); clear h
        intro u h; obtain rfl := Eq.symm (h (by simp)); clear h
        refine relyEnd_nil rfl ?_
        refine wpList_end rfl ?_
        simp only [Act.put, List.setIfInBounds_toArray, List.set_cons_zero, List.set_cons_succ]
        go_simp
        go_upto_region 4 with fail
        refine wp_region_steps0 NewT [SV.eq (.int .i64 (2)), SV.eq (.bool true)] [([(6, none)], none), ([(13, some 0)], none)] 18 2 rfl rfl (by kernel_rfl) NewT.trans (NewT.refl _) (Nat.le_of_ble_eq_true rfl) ⟨?_, ?_, trivial⟩ ?_
        · intro a wx hT hF K hK
          obtain ⟨f6, _⟩ := hF
          have f6 : a.tmps.getD 6 undef = .int .i64 (2) := f6
          refine rely_wp rfl ?_
          exact opr_move (.inl rfl) (hK _ _ (NewT.refl _) f6)
        · intro a wx hT hF K hK
          obtain ⟨f13, _⟩ := hF
          have f13 : a.tmps.getD 13 undef = .int .i64 (2) := f13
          refine rely_wp rfl ?_
          exact opr_cmp (b := true) (.inr (.inl ⟨rfl, (by decide)⟩)) Tryd.underlying36 rfl f13 rfl (hK _ _ (NewT.refl _) rfl)
        · intro e5 k5
          intro u h; obtain rfl := Eq.symm (h (by simp)); clear h
          intro u h; obtain rfl := Eq.symm (h (by simp)); clear h
          refine relyEnd_nil rfl ?_
          refine wpList_end rfl ?_
          simp only [Act.put, List.setIfInBounds_toArray, List.set_cons_zero, List.set_cons_succ]
          go_simp
          go_upto_region 5 with fail
          refine wp_region_steps0 NewT [SV.eq (.agg (rowA 109 (recF zR (.slice none 0 0) (.slice none 0 0)))), SV.eq (.int .i64 (2))] [([], none), ([(6, none)], none)] 18 2 rfl rfl (by kernel_rfl) NewT.trans (NewT.refl _) (Nat.le_of_ble_eq_true rfl) ⟨?_, ?_, trivial⟩ ?_
          · intro a wx hT hF K hK
            refine rely_wp rfl ?_
            exact opr_build (pv := #[]) rfl (by simp) (build_zero wx) (hK _ _ (NewT.refl _) rfl)
          · intro a wx hT hF K hK
            obtain ⟨f6, _⟩ := hF
            have f6 : a.tmps.getD 6 undef = .int .i64 (2) := f6
            refine rely_wp rfl ?_
            exact opr_move (.inl rfl) (hK _ _ (NewT.refl _) f6)
          · intro wf kf
            intro u h; obtain rfl := Eq.symm (h (by simp)); clear h
            intro u h; obtain rfl := Eq.symm (h (by simp)); clear h
            refine relyEnd_nil rfl ?_
            simp only [Act.put, List.setIfInBounds_toArray, List.set_cons_zero, List.set_cons_succ]
            refine wpList_plain rfl (fun K hK => ?_)
            refine opr_putm rfl rfl rfl (kf.row (NewT.row k5 (NewT.row k4 X22.out))) (by decide) info_rec (recF_one _ _ _ rfl rfl) (put_all _ _) ?_
            intro wq hTq rq
            refine hK _ _ ?_
            clear hK K
            refine wpList_plain rfl (fun K hK => ?_)
            refine opr_move (.inr rfl) (hK _ _ ?_)
            clear hK K
            refine wpList_end rfl ?_
            go_simp
            go_wp2
            have hN9 := NewT.trans _ _ _ k4 (NewT.trans _ _ _ k5 kf)
            have hNq : NewT w wq := (NewT.trans _ _ _ HN3.out hN9).rt hTq (Nat.le_refl _)
            exact bodyPost_ret (results_2 rfl _ rfl rq Tryd.underlying27 rfl info_rec) rfl ⟨_, rfl, hNq, _, rfl, ⟨_, _, rfl, rdP_nil _, rdV_nil _ _⟩⟩
end Go.Proofs.YthgblcpekhiphaaDoor
/- The reference's Num and Bytes, layer 3. -/
namespace Go.Proofs.YthgblcpekhiphaaDoor
open Go Go.RowKit
set_option maxRecDepth 8000

theorem Bytes_true (v1 v2 : Value) (l : List UInt8) (w : World) (h1 : RdV w [] v1 l) (h2 : RdV w [] v2 l) (hl : l.length ≤ 1000000) : Cv 19 #[v1, v2] w (.eq (.bool true)) := by
  have := Bytes_cv v1 v2 l l w h1 h2 hl hl
  simpa using this
end Go.Proofs.YthgblcpekhiphaaDoor
/- The document's example, layer 4: alive. -/
namespace Go.Proofs.YthgblcpekhiphaaDoor
open Go Go.RowKit
set_option maxRecDepth 8000
def xr : Rc := { zR with kind := 6, part := 1, epoch := 2 }
def xa : Rc := { zR with kind := 1, saga := 3, steps := [(1, 1)], data := [97] }
theorem xa_right : rightB xa = true := by decide +kernel
theorem zr_right : rightB zR = false := by decide +kernel
theorem xr_open : openB xr = [6, 1, 2] := by decide +kernel
theorem xa_same : sameB xa (onlyR xa) = true := by decide +kernel
theorem xa_red : redactB xa = redact cmC xa := redactB_right xa xa_right
theorem xa_sealed : sealedB (redactB xa) = sealedB xa := by
  unfold sealedB
  rw [xa_red, if_pos (right_redact cmC xa xa_right), if_pos xa_right, sealed_redact]
theorem red_gone (d : Nat → UInt8) : (openL { xa with gone := true, com := d, data := [], salt := fun _ => 0 }).length = 38 := by
  unfold openL tailL payL
  simp [xa, zR, hL_length, numI, numL, stepsL]
theorem xa_len : (openB (redactB xa)).length = 38 := by
  unfold openB
  rw [if_pos (by rw [xa_red]; exact right_redact cmC xa xa_right)]
  unfold redactB
  rw [if_pos (by rw [xa_right]; decide)]
  exact red_gone _
theorem xa_com : eqH (redactB xa).com (comB xa) = true := by
  have h : (redactB xa).com = comB xa := by
    unfold redactB comB
    rw [if_pos (by rw [xa_right]; decide), if_pos (by rw [xa_right]; decide)]
  rw [h]; exact eqH_same _
theorem xa_gone : (redactB xa).gone = true := by
  unfold redactB
  rw [if_pos (by rw [xa_right]; decide)]
theorem build_xr (w : World) : (Instr.build 27 #[(0, .int .i64 6), (8, .int .i64 1), (9, .int .i64 2)]).run Tryd.prog w = .ok (.agg (rowA 109 (recF xr (.slice none 0 0) (.slice none 0 0)))) w := by kernel_rfl
theorem build_xa (A1 : Option Addr) (n1 c1 : Nat) (A2 : Option Addr) (n2 c2 : Nat) (w : World) : (Instr.build 27 #[(0, .int .i64 1), (1, .int .i64 3), (11, .slice A1 n1 c1), (12, .slice A2 n2 c2)]).run Tryd.prog w = .ok (.agg (rowA 109 (recF xa (.slice A1 n1 c1) (.slice A2 n2 c2)))) w := by kernel_rfl
theorem run_bsb3 (w : World) : (Instr.buildSlice 25 3 #[(0, .int .u8 6), (1, .int .u8 1), (2, .int .u8 2)]).run Tryd.prog w = .ok (.slice (some ⟨w.heap.size, 0, none⟩) 3 3) (w.alloc (.cells #[.int .u8 6, .int .u8 1, .int .u8 2] 5)) := by kernel_rfl
theorem run_bsb9 (w : World) : (Instr.buildSlice 25 1 #[(0, .int .u8 9)]).run Tryd.prog w = .ok (.slice (some ⟨w.heap.size, 0, none⟩) 1 1) (w.alloc (.cells #[.int .u8 9] 5)) := by kernel_rfl
theorem rd_612 (w : World) : RdV (w.alloc (.cells #[.int .u8 6, .int .u8 1, .int .u8 2] 5)) [] (.slice (some ⟨w.heap.size, 0, none⟩) 3 3) [6, 1, 2] :=
  rdV_lit (l := [6, 1, 2]) (Nat.le_refl _) (by unfold maxLen; simp) fun i hi => by
    rw [cell_new_fr _ _ _ _ _ _ rfl]
    have : i = 0 ∨ i = 1 ∨ i = 2 := by simp at hi; omega
    rcases this with rfl | rfl | rfl <;> rfl
theorem rd_9 (w : World) : RdV (w.alloc (.cells #[.int .u8 9] 5)) [] (.slice (some ⟨w.heap.size, 0, none⟩) 1 1) [9] :=
  rdV_lit (l := [9]) (Nat.le_refl _) (by unfold maxLen; simp) fun i hi => by
    rw [cell_new_fr _ _ _ _ _ _ rfl]
    obtain rfl : i = 0 := by simpa using hi
    rfl
theorem rd_a (w : World) : RdV (w.alloc (.cells #[.int .u8 97] 5 (1, 2))) [] (.slice (some ⟨w.heap.size, 0, none⟩) 1 1) [97] :=
  rdV_lit (l := [97]) (Nat.le_refl _) (by unfold maxLen; simp) fun i hi => by
    rw [cell_new_fr _ _ _ _ _ _ rfl]
    obtain rfl : i = 0 := by simpa using hi
    rfl
section
variable {a : Act} {w : World} {o : Oper} {K : Act → World → Prop} {Q : Exit → Act → World → Prop} {x : Operand} {y : Rc} {e : Int}
theorem opr_ext0 (ho : o.op = .extract x 0) (hx : (svTup y e).pred (a.eval x) w) (h : ∀ r, RecV w r y → K (a.put o.dst r) w) : o.wp Tryd.prog a w K Q := by
  obtain ⟨r, hr, hv⟩ := hx
  obtain ⟨dst, op, type, pos, after, guard⟩ := o
  simp only at ho
  subst ho
  exact opr_val (s := Instr.extract (a.eval x) 0) rfl (by rw [hr]; simp [Instr.extract]) (h r hv)
theorem opr_ext1 (ho : o.op = .extract x 1) (hx : (svTup y e).pred (a.eval x) w) (h : K (a.put o.dst (.int .i64 e)) w) : o.wp Tryd.prog a w K Q := by
  obtain ⟨r, hr, hv⟩ := hx
  obtain ⟨dst, op, type, pos, after, guard⟩ := o
  simp only at ho
  subst ho
  exact opr_val (s := Instr.extract (a.eval x) 1) rfl (by rw [hr]; simp [Instr.extract]) h
theorem opr_bsb3 {v1 v2 v3 v : Value} {w' : World} (ho : o.op = .buildSlice 25 3 #[(0, .const v1), (1, .const v2), (2, .const v3)]) (hr : (Instr.buildSlice 25 3 #[(0, v1), (1, v2), (2, v3)]).run Tryd.prog w = .ok v w') (h : K (a.put o.dst v) w') : o.wp Tryd.prog a w K Q := by
  obtain ⟨dst, op, type, pos, after, guard⟩ := o
  simp only at ho
  subst ho
  exact opr_val (s := Instr.buildSlice 25 3 #[(0, a.eval (.const v1)), (1, a.eval (.const v2)), (2, a.eval (.const v3))]) (by simp [execOp]) hr h
theorem opr_bsb9 {v1 v : Value} {w' : World} (ho : o.op = .buildSlice 25 1 #[(0, .const v1)]) (hr : (Instr.buildSlice 25 1 #[(0, v1)]).run Tryd.prog w = .ok v w') (h : K (a.put o.dst v) w') : o.wp Tryd.prog a w K Q := by
  obtain ⟨dst, op, type, pos, after, guard⟩ := o
  simp only at ho
  subst ho
  exact opr_val (s := Instr.buildSlice 25 1 #[(0, a.eval (.const v1))]) (by simp [execOp]) hr h
end
theorem xa_sl : (sealedB xa).length ≤ 1000000 := by
  unfold sealedB
  rw [if_pos xa_right]
  unfold sealedL tailL
  simp [xa, zR, hL_length, numI, numL, stepsL]
attribute [local go_sem] conv_bytes
set_option maxHeartbeats 8000000 in
theorem alive4_any (w : World) (hT : Tables w) : Calls Tryd.prog 9 #[] w fun e w' => e = .returned (.bool true) ∧ Below w.heap.size w w' := by
  have HT := Lib.hid hT
  clear hT
  go_enter Tryd.func9, Tryd.ntmps9
  go_upto_region 1 with fail
  refine wp_region_steps0 NewT [SV.eq (.agg (rowA 109 (recF xr (.slice none 0 0) (.slice none 0 0)))), svRd ([6, 1, 2]), svRd ([6, 1, 2])] [([], none), ([(8, some 0)], none), ([(9, some 1)], none)] 77 3 rfl rfl (by kernel_rfl) NewT.trans (NewT.refl _) (Nat.le_of_ble_eq_true rfl) ⟨?_, ?_, ?_, trivial⟩ ?_
  · intro a wx hT hF K hK
    refine rely_wp rfl ?_
    exact opr_build rfl (by simp only [List.map_toArray, List.map_cons, List.map_nil, eval_const]) (build_xr wx) (hK _ _ (NewT.refl _) rfl)
  · intro a wx hT hF K hK
    obtain ⟨f8, _⟩ := hF
    have f8 : a.tmps.getD 8 undef = .agg (rowA 109 (recF xr (.slice none 0 0) (.slice none 0 0))) := f8
    refine rely_wp rfl ?_
    exact opr_cv (xr_open ▸ Open_cv _ xr wx ⟨_, _, rfl, rdP_nil _, rdV_nil _ _⟩) rfl Tryd.func22 (by kernel_rfl) (by kernel_rfl) (by simp only [List.map_toArray, List.map_cons, List.map_nil, eval_tmp, f8]) hK
  · intro a wx hT hF K hK
    obtain ⟨f9, _⟩ := hF
    replace f9 := show (svRd ([6, 1, 2])).pred (a.tmps.getD 9 undef) wx from f9
    refine rely_wp rfl ?_
    exact opr_move (.inr rfl) (hK _ _ (NewT.refl _) f9)
  · intro w1 k1
    intro u h; obtain rfl := Eq.symm (h (by simp)); clear h
    intro _ _
    intro u1 h; have g1 := h (by simp); clear h; replace g1 := show (svRd ([6, 1, 2])).pred u1 w1 from g1
    refine relyEnd_nil rfl ?_
    refine wpList_end rfl ?_
    simp only [Act.put, List.setIfInBounds_toArray, List.set_cons_zero, List.set_cons_succ]
    go_simp
    have H0 := Lib.hid g1
    go_upto_region 2 with fail
    refine wp_region_lit ?_
    refine wpList_plain rfl (fun K hK => ?_)
    refine opr_build rfl (by simp only [List.map_toArray, List.map_cons, List.map_nil, eval_const]) (build_step (1, 1) w1) (hK _ _ ?_)
    clear hK K
    refine wpList_plain rfl (fun K hK => ?_)
    refine opr_bsS rfl rfl (hK _ _ ?_)
    clear hK K
    have hNs := NewT.alloc w1 (.cells #[.int .i64 1, .int .i64 1] 46)
    have ps := rdP_one (1, 1) w1
    change wpList _ _ _ _ _ (w1.alloc (.cells #[.int .i64 1, .int .i64 1] 46))
    generalize w1.alloc (.cells #[.int .i64 1, .int .i64 1] 46) = w1s at hNs ps ⊢
    iterate 2 (refine wpList_plain rfl (fun K hK => ?_); go_simp; refine hK _ _ ?_; clear hK K)
    have hNb := NewT.alloc w1s (.cells #[.int .u8 97] 5 (1, 2))
    have pb := rd_a w1s
    change wpList _ _ _ _ _ (w1s.alloc (.cells #[.int .u8 97] 5 (1, 2)))
    generalize w1s.alloc (.cells #[.int .u8 97] 5 (1, 2)) = w1b at hNb pb ⊢
    refine wpList_plain rfl (fun K hK => ?_)
    refine opr_build rfl (by simp only [List.map_toArray, List.map_cons, List.map_nil, eval_const]; rfl) (build_xa _ _ _ _ _ _ w1b) (hK _ _ ?_)
    clear hK K
    refine wpList_new (n := 109) rfl rfl rfl rfl rfl rfl (by first | (simp; done) | simp [Act.put]) run_alloc_rec info_rec (recF_one _ _ _ rfl rfl) rfl ?_
    intro w2 hn2 r2
    refine wpList_end rfl ?_
    simp only [Act.put, List.setIfInBounds_toArray, List.set_cons_zero, List.set_cons_succ]
    go_simp
    have hNb2 := NewT.trans _ _ _ hNb hn2
    obtain ⟨sa, hsa⟩ : ∃ sa : Value, sa = .slice (some ⟨w1.heap.size, 0, none⟩) 1 1 := ⟨_, rfl⟩
    obtain ⟨da, hda⟩ : ∃ da : Value, da = .slice (some ⟨w1s.heap.size, 0, none⟩) 1 1 := ⟨_, rfl⟩
    rw [← hsa, ← hda] at r2
    rw [← hsa] at ps
    rw [← hda] at pb
    have HX2 : Hid (RecV w2 (.agg (rowA 109 (recF xa sa da))) xa) := Lib.hid ⟨sa, da, rfl, hNb2.pairs ps, hn2.rd pb⟩
    have X2 := Lib.hid r2
    have HN2 := Lib.hid (NewT.trans _ _ _ k1 (NewT.trans _ _ _ hNs hNb2))
    have HT2 := Lib.hid (HN2.out.tables HT.out)
    have H2 := Lib.hid (NewT.rd (NewT.trans _ _ _ hNs hNb2) H0.out)
    clear r2 ps pb hNs hNb hNb2 hn2 H0 HT k1 g1 hsa hda
    generalize w1b.heap.size = g2 at X2 ⊢
    go_upto_region 3 with fail
    refine wp_region_steps0 NewT [SV.eq (.agg (rowA 109 (recF xa sa da))), svRd (openL xa), svTup (onlyR xa) 0, svTup (onlyR xa) 0, svRec (onlyR xa), SV.eq (.int .i64 (0))] [([(2, none)], none), ([(16, some 0)], none), ([(17, some 1)], none), ([(18, some 2)], none), ([(15, some 3)], none), ([(15, some 3)], none)] 77 6 rfl rfl (by kernel_rfl) NewT.trans (NewT.refl _) (Nat.le_of_ble_eq_true rfl) ⟨?_, ?_, ?_, ?_, ?_, ?_, trivial⟩ ?_
    · intro a wx hT hF K hK
      obtain ⟨f2, _⟩ := hF
      have f2 : a.tmps.getD 2 undef = .pointer (some ⟨g2, 0, none⟩) := f2
      refine rely_wp rfl ?_
      exact opr_ldR (hT.row X2.out) rfl f2 (hK _ _ (NewT.refl _) rfl)
    · intro a wx hT hF K hK
      obtain ⟨f16, _⟩ := hF
      have f16 : a.tmps.getD 16 undef = .agg (rowA 109 (recF xa sa da)) := f16
      refine rely_wp rfl ?_
      exact opr_cv (show Cv _ _ _ (svRd (openL xa)) from (show openB xa = openL xa by unfold openB; rw [if_pos xa_right]) ▸ Open_cv _ xa wx (hT.recV HX2.out)) rfl Tryd.func22 (by kernel_rfl) (by kernel_rfl) (by simp only [List.map_toArray, List.map_cons, List.map_nil, eval_tmp, f16]) hK
    · intro a wx hT hF K hK
      obtain ⟨f17, _⟩ := hF
      replace f17 := show (svRd (openL xa)).pred (a.tmps.getD 17 undef) wx from f17
      refine rely_wp rfl ?_
      exact opr_cv (Get_cv _ xa xa_right wx f17) rfl Tryd.func23 (by kernel_rfl) (by kernel_rfl) (by simp only [List.map_toArray, List.map_cons, List.map_nil, eval_tmp]) hK
    · intro a wx hT hF K hK
      obtain ⟨f18, _⟩ := hF
      replace f18 := show (svTup (onlyR xa) 0).pred (a.tmps.getD 18 undef) wx from f18
      refine rely_wp rfl ?_
      exact opr_move (.inl rfl) (hK _ _ (NewT.refl _) f18)
    · intro a wx hT hF K hK
      obtain ⟨f15, _⟩ := hF
      replace f15 := show (svTup (onlyR xa) 0).pred (a.tmps.getD 15 undef) wx from f15
      refine rely_wp rfl ?_
      exact opr_ext0 rfl f15 (fun r hr => hK r _ (NewT.refl _) hr)
    · intro a wx hT hF K hK
      obtain ⟨f15, _⟩ := hF
      replace f15 := show (svTup (onlyR xa) 0).pred (a.tmps.getD 15 undef) wx from f15
      refine rely_wp rfl ?_
      exact opr_ext1 rfl f15 (hK _ _ (NewT.refl _) rfl)
    · intro e3 k3
      intro u h; obtain rfl := Eq.symm (h (by simp)); clear h
      intro _ _
      intro _ _
      intro _ _
      intro u19 h; have g19 := h (by simp); clear h; replace g19 := show (svRec (onlyR xa)).pred u19 e3 from g19
      intro u h; obtain rfl := Eq.symm (h (by simp)); clear h
      refine relyEnd_nil rfl ?_
      simp only [Act.put, List.setIfInBounds_toArray, List.set_cons_zero, List.set_cons_succ]
      obtain ⟨sb, db, e19, P19, V19⟩ := g19
      subst e19
      refine wpList_new (n := 109) rfl rfl rfl rfl rfl rfl (by first | (simp; done) | simp [Act.put]) run_alloc_rec info_rec (recF_one _ _ _ (oneP P19) (oneR V19)) rfl ?_
      intro w3 hn3 r3
      refine wpList_plain rfl (fun K hK => ?_)
      refine opr_move (.inr rfl) (hK _ _ ?_)
      clear hK K
      refine wpList_end rfl ?_
      simp only [Act.put, List.setIfInBounds_toArray, List.set_cons_zero, List.set_cons_succ]
      go_simp
      have HN3 := Lib.hid (NewT.trans _ _ _ k3 hn3)
      have HX3 : Hid (RecV w3 (.agg (rowA 109 (recF (onlyR xa) sb db))) (onlyR xa)) := Lib.hid ⟨sb, db, rfl, hn3.pairs P19, hn3.rd V19⟩
      have X3 := Lib.hid r3
      have H3 := Lib.hid (NewT.rd HN3.out H2.out)
      have Y20 := Lib.hid (NewT.row HN3.out X2.out)
      have HY20 := Lib.hid (NewT.recV HN3.out HX2.out)
      have HT3 := Lib.hid (NewT.tables HN3.out HT2.out)
      have HN30 := Lib.hid (NewT.trans _ _ _ HN2.out HN3.out)
      clear r3 P19 V19 H2 X2 HX2 HT2 HN2 HN3
      generalize e3.heap.size = g3 at X3 ⊢
      go_upto_region 4 with fail
      refine wp_region_steps0 NewT [svRd ([9]), svTup zR 2, svTup zR 2, svRec (zR), SV.eq (.int .i64 (2))] [([], none), ([(22, some 0)], none), ([(23, some 1)], none), ([(21, some 2)], none), ([(21, some 2)], none)] 77 5 rfl rfl (by kernel_rfl) NewT.trans (NewT.refl _) (Nat.le_of_ble_eq_true rfl) ⟨?_, ?_, ?_, ?_, ?_, trivial⟩ ?_
      · intro a wx hT hF K hK
        refine rely_wp rfl ?_
        exact opr_bsb9 rfl (run_bsb9 wx) (hK _ _ (NewT.alloc _ _) (rd_9 wx))
      · intro a wx hT hF K hK
        obtain ⟨f22, _⟩ := hF
        replace f22 := show (svRd ([9])).pred (a.tmps.getD 22 undef) wx from f22
        refine rely_wp rfl ?_
        exact opr_cv (Get_nine _ wx f22) rfl Tryd.func23 (by kernel_rfl) (by kernel_rfl) (by simp only [List.map_toArray, List.map_cons, List.map_nil, eval_tmp]) hK
      · intro a wx hT hF K hK
        obtain ⟨f23, _⟩ := hF
        replace f23 := show (svTup zR 2).pred (a.tmps.getD 23 undef) wx from f23
        refine rely_wp rfl ?_
        exact opr_move (.inl rfl) (hK _ _ (NewT.refl _) f23)
      · intro a wx hT hF K hK
        obtain ⟨f21, _⟩ := hF
        replace f21 := show (svTup zR 2).pred (a.tmps.getD 21 undef) wx from f21
        refine rely_wp rfl ?_
        exact opr_ext0 rfl f21 (fun r hr => hK r _ (NewT.refl _) hr)
      · intro a wx hT hF K hK
        obtain ⟨f21, _⟩ := hF
        replace f21 := show (svTup zR 2).pred (a.tmps.getD 21 undef) wx from f21
        refine rely_wp rfl ?_
        exact opr_ext1 rfl f21 (hK _ _ (NewT.refl _) rfl)
      · intro e4 k4
        intro _ _
        intro _ _
        intro _ _
        intro u24 h; have g24 := h (by simp); clear h; replace g24 := show (svRec (zR)).pred u24 e4 from g24
        intro u h; obtain rfl := Eq.symm (h (by simp)); clear h
        refine relyEnd_nil rfl ?_
        simp only [Act.put, List.setIfInBounds_toArray, List.set_cons_zero, List.set_cons_succ]
        obtain ⟨sc, dc, e24, P24, V24⟩ := g24
        subst e24
        refine wpList_new (n := 109) rfl rfl rfl rfl rfl rfl (by first | (simp; done) | simp [Act.put]) run_alloc_rec info_rec (recF_one _ _ _ (oneP P24) (oneR V24)) rfl ?_
        intro w4 hn4 r4
        refine wpList_plain rfl (fun K hK => ?_)
        refine opr_move (.inr rfl) (hK _ _ ?_)
        clear hK K
        refine wpList_end rfl ?_
        simp only [Act.put, List.setIfInBounds_toArray, List.set_cons_zero, List.set_cons_succ]
        go_simp
        have HN4 := Lib.hid (NewT.trans _ _ _ k4 hn4)
        have H4 := Lib.hid (NewT.rd HN4.out H3.out)
        have Y2 := Lib.hid (NewT.row HN4.out Y20.out)
        have HY2 := Lib.hid (NewT.recV HN4.out HY20.out)
        have Y3 := Lib.hid (NewT.row HN4.out X3.out)
        have HY3 := Lib.hid (NewT.recV HN4.out HX3.out)
        have HT4 := Lib.hid (NewT.tables HN4.out HT3.out)
        have HN40 := Lib.hid (NewT.trans _ _ _ HN30.out HN4.out)
        clear r4 P24 V24 H3 Y20 HY20 X3 HX3 HT3 HN30 HN4
        go_upto_region 5 with fail
        refine wp_region_steps0 NewT [SV.eq (.agg (rowA 109 (recF xa sa da))), svRec (redactB xa)] [([(2, none)], none), ([(26, some 0)], none)] 77 2 rfl rfl (by kernel_rfl) NewT.trans (NewT.refl _) (Nat.le_of_ble_eq_true rfl) ⟨?_, ?_, trivial⟩ ?_
        · intro a wx hT hF K hK
          obtain ⟨f2, _⟩ := hF
          have f2 : a.tmps.getD 2 undef = .pointer (some ⟨g2, 0, none⟩) := f2
          refine rely_wp rfl ?_
          exact opr_ldR (hT.row Y2.out) rfl f2 (hK _ _ (NewT.refl _) rfl)
        · intro a wx hT hF K hK
          obtain ⟨f26, _⟩ := hF
          have f26 : a.tmps.getD 26 undef = .agg (rowA 109 (recF xa sa da)) := f26
          refine rely_wp rfl ?_
          exact opr_cv (Redact_cv _ xa wx (hT.recV HY2.out) (hT.tables HT4.out) ⟨by decide, by decide⟩) rfl Tryd.func16 (by kernel_rfl) (by kernel_rfl) (by simp only [List.map_toArray, List.map_cons, List.map_nil, eval_tmp, f26]) hK
        · intro e5 k5
          intro u h; obtain rfl := Eq.symm (h (by simp)); clear h
          intro u27 h; have g27 := h (by simp); clear h; replace g27 := show (svRec (redactB xa)).pred u27 e5 from g27
          refine relyEnd_nil rfl ?_
          simp only [Act.put, List.setIfInBounds_toArray, List.set_cons_zero, List.set_cons_succ]
          obtain ⟨sd, dd, e27, P27, V27⟩ := g27
          subst e27
          refine wpList_new (n := 109) rfl rfl rfl rfl rfl rfl (by first | (simp; done) | simp [Act.put]) run_alloc_rec info_rec (recF_one _ _ _ (oneP P27) (oneR V27)) rfl ?_
          intro w5 hn5 r7
          refine wpList_end rfl ?_
          simp only [Act.put, List.setIfInBounds_toArray, List.set_cons_zero, List.set_cons_succ]
          go_simp
          have HN5 := Lib.hid (NewT.trans _ _ _ k5 hn5)
          have H1 := Lib.hid (NewT.rd HN5.out H4.out)
          have Z2 := Lib.hid (NewT.row HN5.out Y2.out)
          have HZ2 := Lib.hid (NewT.recV HN5.out HY2.out)
          have Z3 := Lib.hid (NewT.row HN5.out Y3.out)
          have HZ3 := Lib.hid (NewT.recV HN5.out HY3.out)
          have Z7 := Lib.hid r7
          have HZ7 : Hid (RecV w5 (.agg (rowA 109 (recF (redactB xa) sd dd))) (redactB xa)) := Lib.hid ⟨sd, dd, rfl, hn5.pairs P27, hn5.rd V27⟩
          have HT5 := Lib.hid (NewT.tables HN5.out HT4.out)
          have HN50 := Lib.hid (NewT.trans _ _ _ HN40.out HN5.out)
          clear r7 P27 V27 H4 Y2 HY2 Y3 HY3 HT4 HN40 HN5
          generalize e5.heap.size = g7 at Z7 ⊢
          go_upto_region 6 with fail
          refine wp_region_rely NewT [SV.eq (u1), svRd ([6, 1, 2]), SV.eq (.bool true), SV.eq (.bool true), SV.eq (.int .i64 (0)), SV.eq (.bool true), SV.eq (.bool true), SV.eq (.bool true), SV.eq (.int .i64 (2)), SV.eq (.bool true), SV.eq (.bool true), SV.eq (.bool true), SV.eq (.agg (rowA 109 (recF xa sa da))), SV.eq (.agg (rowA 109 (recF (onlyR xa) sb db))), SV.eq (.bool true), SV.eq (.bool true), SV.eq (.bool true), SV.eq (.agg (rowA 109 (recF xa sa da))), SV.eq (.bool true), SV.eq (.bool true), SV.eq (.bool true), SV.eq (.agg (rowA 109 (recF zR (.slice none 0 0) (.slice none 0 0)))), SV.eq (.bool false), SV.eq (.bool true), SV.eq (.bool true), SV.eq (.bool true), SV.eq (.pointer (some ⟨g7, 76, none⟩)), SV.eq (.bool true), SV.eq (.bool true), SV.eq (.bool true), SV.eq (.pointer (some ⟨g7, 77, none⟩)), SV.eq (.agg (rowA 32 (bF ((redactB xa).com)))), SV.eq (.agg (rowA 109 (recF xa sa da))), SV.eq (.agg (rowA 32 (bF (comB xa)))), SV.eq (.bool true), SV.eq (.bool true), SV.eq (.bool true), SV.eq (.agg (rowA 109 (recF xa sa da))), svRd (sealedB xa), SV.eq (.agg (rowA 109 (recF (redactB xa) sd dd))), svRd (sealedB xa), SV.eq (.bool true), SV.eq (.bool true), SV.eq (.bool true), SV.eq (.agg (rowA 109 (recF (redactB xa) sd dd))), svRd (openB (redactB xa)), SV.eq (.int .i64 (38)), SV.eq (.bool true), SV.eq (.bool true)] [([(1, none)], none), ([], none), ([(28, some 0), (29, some 1)], none), ([(30, some 2)], none), ([(4, none), (31, some 3)], some (31, true)), ([(32, some 4), (31, some 3)], some (31, true)), ([(31, some 3), (33, some 5)], none), ([(34, some 6)], none), ([(6, none), (35, some 7)], some (35, true)), ([(36, some 8), (35, some 7)], some (35, true)), ([(35, some 7), (37, some 9)], none), ([(38, some 10)], none), ([(2, none), (39, some 11)], some (39, true)), ([(3, none), (39, some 11)], some (39, true)), ([(40, some 12), (41, some 13), (39, some 11)], some (39, true)), ([(39, some 11), (42, some 14)], none), ([(43, some 15)], none), ([(2, none), (44, some 16)], some (44, true)), ([(45, some 17), (44, some 16)], some (44, true)), ([(44, some 16), (46, some 18)], none), ([(47, some 19)], none), ([(48, some 20)], some (48, true)), ([(49, some 21), (48, some 20)], some (48, true)), ([(50, some 22), (48, some 20)], some (48, true)), ([(48, some 20), (51, some 23)], none), ([(52, some 24)], none), ([(7, none), (53, some 25)], some (53, true)), ([(54, some 26), (53, some 25)], some (53, true)), ([(53, some 25), (55, some 27)], none), ([(56, some 28)], none), ([(7, none), (57, some 29)], some (57, true)), ([(58, some 30), (57, some 29)], some (57, true)), ([(2, none), (57, some 29)], some (57, true)), ([(60, some 32), (57, some 29)], some (57, true)), ([(59, some 31), (61, some 33), (57, some 29)], some (57, true)), ([(57, some 29), (62, some 34)], none), ([(63, some 35)], none), ([(2, none), (64, some 36)], some (64, true)), ([(65, some 37), (64, some 36)], some (64, true)), ([(7, none), (64, some 36)], some (64, true)), ([(67, some 39), (64, some 36)], some (64, true)), ([(66, some 38), (68, some 40), (64, some 36)], some (64, true)), ([(64, some 36), (69, some 41)], none), ([(70, some 42)], none), ([(7, none), (71, some 43)], some (71, true)), ([(72, some 44), (71, some 43)], some (71, true)), ([(73, some 45), (71, some 43)], some (71, true)), ([(74, some 46), (71, some 43)], some (71, true)), ([(71, some 43), (75, some 47)], none)] 77 rfl (by kernel_rfl) rfl (by kernel_rfl) (by kernel_rfl) rfl NewT.trans (NewT.drew _) (Nat.le_of_ble_eq_true rfl) ⟨?_, ?_, ?_, ?_, ?_, ?_, ?_, ?_, ?_, ?_, ?_, ?_, ?_, ?_, ?_, ?_, ?_, ?_, ?_, ?_, ?_, ?_, ?_, ?_, ?_, ?_, ?_, ?_, ?_, ?_, ?_, ?_, ?_, ?_, ?_, ?_, ?_, ?_, ?_, ?_, ?_, ?_, ?_, ?_, ?_, ?_, ?_, ?_, ?_, trivial⟩ ?_
          · intro a wx hT hF K hK
            obtain ⟨f1, _⟩ := hF
            have f1 : a.tmps.getD 1 undef = u1 := f1
            refine rely_wp rfl ?_
            exact opr_move (.inl rfl) (hK _ _ (NewT.refl _) f1)
          · intro a wx hT hF K hK
            refine rely_wp rfl ?_
            exact opr_bsb3 rfl (run_bsb3 wx) (hK _ _ (NewT.alloc _ _) (rd_612 wx))
          · intro a wx hT hF K hK
            obtain ⟨f28, f29, _⟩ := hF
            have f28 : a.tmps.getD 28 undef = u1 := f28
            replace f29 := show (svRd ([6, 1, 2])).pred (a.tmps.getD 29 undef) wx from f29
            refine rely_wp rfl ?_
            exact opr_cv (Bytes_true _ _ [6, 1, 2] wx (hT.rd H1.out) f29 (by decide)) rfl Tryd.func19 (by kernel_rfl) (by kernel_rfl) (by simp only [List.map_toArray, List.map_cons, List.map_nil, eval_tmp, f28]) hK
          · intro a wx hT hF K hK
            obtain ⟨f30, _⟩ := hF
            have f30 : a.tmps.getD 30 undef = .bool true := f30
            refine rely_wp rfl ?_
            exact opr_move (.inl rfl) (hK _ _ (NewT.refl _) f30)
          · intro a wx hT hF K hK
            obtain ⟨f4, f31, _⟩ := hF
            have f4 : a.tmps.getD 4 undef = .int .i64 (0) := f4
            have f31 : a.tmps.getD 31 undef = .bool true := f31
            refine rely_wp (rely_guard f31) ?_
            exact opr_move (.inl rfl) (hK _ _ (NewT.refl _) f4)
          · intro a wx hT hF K hK
            obtain ⟨f32, f31, _⟩ := hF
            have f32 : a.tmps.getD 32 undef = .int .i64 (0) := f32
            have f31 : a.tmps.getD 31 undef = .bool true := f31
            refine rely_wp (rely_guard f31) ?_
            exact opr_cmp (b := true) (.inl ⟨rfl, (by decide)⟩) Tryd.underlying36 rfl f32 rfl (hK _ _ (NewT.refl _) rfl)
          · intro a wx hT hF K hK
            obtain ⟨f31, f33, _⟩ := hF
            have f31 : a.tmps.getD 31 undef = .bool true := f31
            have f33 : a.tmps.getD 33 undef = .bool true := f33
            refine rely_wp rfl ?_
            exact opr_pick_true rfl f31 (hK _ _ (NewT.refl _) f33)
          · intro a wx hT hF K hK
            obtain ⟨f34, _⟩ := hF
            have f34 : a.tmps.getD 34 undef = .bool true := f34
            refine rely_wp rfl ?_
            exact opr_move (.inl rfl) (hK _ _ (NewT.refl _) f34)
          · intro a wx hT hF K hK
            obtain ⟨f6, f35, _⟩ := hF
            have f6 : a.tmps.getD 6 undef = .int .i64 (2) := f6
            have f35 : a.tmps.getD 35 undef = .bool true := f35
            refine rely_wp (rely_guard f35) ?_
            exact opr_move (.inl rfl) (hK _ _ (NewT.refl _) f6)
          · intro a wx hT hF K hK
            obtain ⟨f36, f35, _⟩ := hF
            have f36 : a.tmps.getD 36 undef = .int .i64 (2) := f36
            have f35 : a.tmps.getD 35 undef = .bool true := f35
            refine rely_wp (rely_guard f35) ?_
            exact opr_cmp (b := true) (.inl ⟨rfl, (by decide)⟩) Tryd.underlying36 rfl f36 rfl (hK _ _ (NewT.refl _) rfl)
          · intro a wx hT hF K hK
            obtain ⟨f35, f37, _⟩ := hF
            have f35 : a.tmps.getD 35 undef = .bool true := f35
            have f37 : a.tmps.getD 37 undef = .bool true := f37
            refine rely_wp rfl ?_
            exact opr_pick_true rfl f35 (hK _ _ (NewT.refl _) f37)
          · intro a wx hT hF K hK
            obtain ⟨f38, _⟩ := hF
            have f38 : a.tmps.getD 38 undef = .bool true := f38
            refine rely_wp rfl ?_
            exact opr_move (.inl rfl) (hK _ _ (NewT.refl _) f38)
          · intro a wx hT hF K hK
            obtain ⟨f2, f39, _⟩ := hF
            have f2 : a.tmps.getD 2 undef = .pointer (some ⟨g2, 0, none⟩) := f2
            have f39 : a.tmps.getD 39 undef = .bool true := f39
            refine rely_wp (rely_guard f39) ?_
            exact opr_ldR (hT.row Z2.out) rfl f2 (hK _ _ (NewT.refl _) rfl)
          · intro a wx hT hF K hK
            obtain ⟨f3, f39, _⟩ := hF
            have f3 : a.tmps.getD 3 undef = .pointer (some ⟨g3, 0, none⟩) := f3
            have f39 : a.tmps.getD 39 undef = .bool true := f39
            refine rely_wp (rely_guard f39) ?_
            exact opr_ldR (hT.row Z3.out) rfl f3 (hK _ _ (NewT.refl _) rfl)
          · intro a wx hT hF K hK
            obtain ⟨f40, f41, f39, _⟩ := hF
            have f40 : a.tmps.getD 40 undef = .agg (rowA 109 (recF xa sa da)) := f40
            have f41 : a.tmps.getD 41 undef = .agg (rowA 109 (recF (onlyR xa) sb db)) := f41
            have f39 : a.tmps.getD 39 undef = .bool true := f39
            refine rely_wp (rely_guard f39) ?_
            exact opr_cv (xa_same ▸ Same_cv _ _ xa (onlyR xa) wx (hT.recV HZ2.out) (hT.recV HZ3.out)) rfl Tryd.func18 (by kernel_rfl) (by kernel_rfl) (by simp only [List.map_toArray, List.map_cons, List.map_nil, eval_tmp, f40, f41]) hK
          · intro a wx hT hF K hK
            obtain ⟨f39, f42, _⟩ := hF
            have f39 : a.tmps.getD 39 undef = .bool true := f39
            have f42 : a.tmps.getD 42 undef = .bool true := f42
            refine rely_wp rfl ?_
            exact opr_pick_true rfl f39 (hK _ _ (NewT.refl _) f42)
          · intro a wx hT hF K hK
            obtain ⟨f43, _⟩ := hF
            have f43 : a.tmps.getD 43 undef = .bool true := f43
            refine rely_wp rfl ?_
            exact opr_move (.inl rfl) (hK _ _ (NewT.refl _) f43)
          · intro a wx hT hF K hK
            obtain ⟨f2, f44, _⟩ := hF
            have f2 : a.tmps.getD 2 undef = .pointer (some ⟨g2, 0, none⟩) := f2
            have f44 : a.tmps.getD 44 undef = .bool true := f44
            refine rely_wp (rely_guard f44) ?_
            exact opr_ldR (hT.row Z2.out) rfl f2 (hK _ _ (NewT.refl _) rfl)
          · intro a wx hT hF K hK
            obtain ⟨f45, f44, _⟩ := hF
            have f45 : a.tmps.getD 45 undef = .agg (rowA 109 (recF xa sa da)) := f45
            have f44 : a.tmps.getD 44 undef = .bool true := f44
            refine rely_wp (rely_guard f44) ?_
            exact opr_cv (xa_right ▸ Right_cv _ xa wx (hT.recV HZ2.out)) rfl Tryd.func11 (by kernel_rfl) (by kernel_rfl) (by simp only [List.map_toArray, List.map_cons, List.map_nil, eval_tmp, f45]) hK
          · intro a wx hT hF K hK
            obtain ⟨f44, f46, _⟩ := hF
            have f44 : a.tmps.getD 44 undef = .bool true := f44
            have f46 : a.tmps.getD 46 undef = .bool true := f46
            refine rely_wp rfl ?_
            exact opr_pick_true rfl f44 (hK _ _ (NewT.refl _) f46)
          · intro a wx hT hF K hK
            obtain ⟨f47, _⟩ := hF
            have f47 : a.tmps.getD 47 undef = .bool true := f47
            refine rely_wp rfl ?_
            exact opr_move (.inl rfl) (hK _ _ (NewT.refl _) f47)
          · intro a wx hT hF K hK
            obtain ⟨f48, _⟩ := hF
            have f48 : a.tmps.getD 48 undef = .bool true := f48
            refine rely_wp (rely_guard f48) ?_
            exact opr_build (pv := #[]) rfl (by simp) (build_zero wx) (hK _ _ (NewT.refl _) rfl)
          · intro a wx hT hF K hK
            obtain ⟨f49, f48, _⟩ := hF
            have f49 : a.tmps.getD 49 undef = .agg (rowA 109 (recF zR (.slice none 0 0) (.slice none 0 0))) := f49
            have f48 : a.tmps.getD 48 undef = .bool true := f48
            refine rely_wp (rely_guard f48) ?_
            exact opr_cv (zr_right ▸ Right_cv _ zR wx ⟨_, _, rfl, rdP_nil _, rdV_nil _ _⟩) rfl Tryd.func11 (by kernel_rfl) (by kernel_rfl) (by simp only [List.map_toArray, List.map_cons, List.map_nil, eval_tmp, f49]) hK
          · intro a wx hT hF K hK
            obtain ⟨f50, f48, _⟩ := hF
            have f50 : a.tmps.getD 50 undef = .bool false := f50
            have f48 : a.tmps.getD 48 undef = .bool true := f48
            refine rely_wp (rely_guard f48) ?_
            exact opr_not rfl f50 (hK _ _ (NewT.refl _) rfl)
          · intro a wx hT hF K hK
            obtain ⟨f48, f51, _⟩ := hF
            have f48 : a.tmps.getD 48 undef = .bool true := f48
            have f51 : a.tmps.getD 51 undef = .bool true := f51
            refine rely_wp rfl ?_
            exact opr_pick_true rfl f48 (hK _ _ (NewT.refl _) f51)
          · intro a wx hT hF K hK
            obtain ⟨f52, _⟩ := hF
            have f52 : a.tmps.getD 52 undef = .bool true := f52
            refine rely_wp rfl ?_
            exact opr_move (.inl rfl) (hK _ _ (NewT.refl _) f52)
          · intro a wx hT hF K hK
            obtain ⟨f7, f53, _⟩ := hF
            have f7 : a.tmps.getD 7 undef = .pointer (some ⟨g7, 0, none⟩) := f7
            have f53 : a.tmps.getD 53 undef = .bool true := f53
            refine rely_wp (rely_guard f53) ?_
            exact opr_fldR (by decide) rfl f7 (hK _ _ (NewT.refl _) rfl)
          · intro a wx hT hF K hK
            obtain ⟨f54, f53, _⟩ := hF
            have f54 : a.tmps.getD 54 undef = .pointer (some ⟨g7, 76, none⟩) := f54
            have f53 : a.tmps.getD 53 undef = .bool true := f53
            refine rely_wp (rely_guard f53) ?_
            exact opr_ldQ (hT.row Z7.out) (by decide) (show recF (redactB xa) sd dd 76 = .bool true by rw [← xa_gone]; rfl) rfl f54 (hK _ _ (NewT.refl _) rfl)
          · intro a wx hT hF K hK
            obtain ⟨f53, f55, _⟩ := hF
            have f53 : a.tmps.getD 53 undef = .bool true := f53
            have f55 : a.tmps.getD 55 undef = .bool true := f55
            refine rely_wp rfl ?_
            exact opr_pick_true rfl f53 (hK _ _ (NewT.refl _) f55)
          · intro a wx hT hF K hK
            obtain ⟨f56, _⟩ := hF
            have f56 : a.tmps.getD 56 undef = .bool true := f56
            refine rely_wp rfl ?_
            exact opr_move (.inl rfl) (hK _ _ (NewT.refl _) f56)
          · intro a wx hT hF K hK
            obtain ⟨f7, f57, _⟩ := hF
            have f7 : a.tmps.getD 7 undef = .pointer (some ⟨g7, 0, none⟩) := f7
            have f57 : a.tmps.getD 57 undef = .bool true := f57
            refine rely_wp (rely_guard f57) ?_
            exact opr_fldR (by decide) rfl f7 (hK _ _ (NewT.refl _) rfl)
          · intro a wx hT hF K hK
            obtain ⟨f58, f57, _⟩ := hF
            have f58 : a.tmps.getD 58 undef = .pointer (some ⟨g7, 77, none⟩) := f58
            have f57 : a.tmps.getD 57 undef = .bool true := f57
            refine rely_wp (rely_guard f57) ?_
            exact opr_ldH (hT.row Z7.out) (by decide) (recF_com (redactB xa) _ _) rfl f58 (hK _ _ (NewT.refl _) rfl)
          · intro a wx hT hF K hK
            obtain ⟨f2, f57, _⟩ := hF
            have f2 : a.tmps.getD 2 undef = .pointer (some ⟨g2, 0, none⟩) := f2
            have f57 : a.tmps.getD 57 undef = .bool true := f57
            refine rely_wp (rely_guard f57) ?_
            exact opr_ldR (hT.row Z2.out) rfl f2 (hK _ _ (NewT.refl _) rfl)
          · intro a wx hT hF K hK
            obtain ⟨f60, f57, _⟩ := hF
            have f60 : a.tmps.getD 60 undef = .agg (rowA 109 (recF xa sa da)) := f60
            have f57 : a.tmps.getD 57 undef = .bool true := f57
            refine rely_wp (rely_guard f57) ?_
            exact opr_cv (Com_cv _ xa wx (hT.recV HZ2.out) (hT.tables HT5.out)) rfl Tryd.func13 (by kernel_rfl) (by kernel_rfl) (by simp only [List.map_toArray, List.map_cons, List.map_nil, eval_tmp, f60]) hK
          · intro a wx hT hF K hK
            obtain ⟨f59, f61, f57, _⟩ := hF
            have f59 : a.tmps.getD 59 undef = .agg (rowA 32 (bF ((redactB xa).com))) := f59
            have f61 : a.tmps.getD 61 undef = .agg (rowA 32 (bF (comB xa))) := f61
            have f57 : a.tmps.getD 57 undef = .bool true := f57
            refine rely_wp (rely_guard f57) ?_
            exact opr_eql_hash (b := true) rfl f59 f61 (xa_com) (hK _ _ (NewT.refl _) rfl)
          · intro a wx hT hF K hK
            obtain ⟨f57, f62, _⟩ := hF
            have f57 : a.tmps.getD 57 undef = .bool true := f57
            have f62 : a.tmps.getD 62 undef = .bool true := f62
            refine rely_wp rfl ?_
            exact opr_pick_true rfl f57 (hK _ _ (NewT.refl _) f62)
          · intro a wx hT hF K hK
            obtain ⟨f63, _⟩ := hF
            have f63 : a.tmps.getD 63 undef = .bool true := f63
            refine rely_wp rfl ?_
            exact opr_move (.inl rfl) (hK _ _ (NewT.refl _) f63)
          · intro a wx hT hF K hK
            obtain ⟨f2, f64, _⟩ := hF
            have f2 : a.tmps.getD 2 undef = .pointer (some ⟨g2, 0, none⟩) := f2
            have f64 : a.tmps.getD 64 undef = .bool true := f64
            refine rely_wp (rely_guard f64) ?_
            exact opr_ldR (hT.row Z2.out) rfl f2 (hK _ _ (NewT.refl _) rfl)
          · intro a wx hT hF K hK
            obtain ⟨f65, f64, _⟩ := hF
            have f65 : a.tmps.getD 65 undef = .agg (rowA 109 (recF xa sa da)) := f65
            have f64 : a.tmps.getD 64 undef = .bool true := f64
            refine rely_wp (rely_guard f64) ?_
            exact opr_cv (Sealed_cv _ xa wx (hT.recV HZ2.out) (hT.tables HT5.out)) rfl Tryd.func20 (by kernel_rfl) (by kernel_rfl) (by simp only [List.map_toArray, List.map_cons, List.map_nil, eval_tmp, f65]) hK
          · intro a wx hT hF K hK
            obtain ⟨f7, f64, _⟩ := hF
            have f7 : a.tmps.getD 7 undef = .pointer (some ⟨g7, 0, none⟩) := f7
            have f64 : a.tmps.getD 64 undef = .bool true := f64
            refine rely_wp (rely_guard f64) ?_
            exact opr_ldR (hT.row Z7.out) rfl f7 (hK _ _ (NewT.refl _) rfl)
          · intro a wx hT hF K hK
            obtain ⟨f67, f64, _⟩ := hF
            have f67 : a.tmps.getD 67 undef = .agg (rowA 109 (recF (redactB xa) sd dd)) := f67
            have f64 : a.tmps.getD 64 undef = .bool true := f64
            refine rely_wp (rely_guard f64) ?_
            exact opr_cv (show Cv _ _ _ (svRd (sealedB xa)) from xa_sealed ▸ Sealed_cv _ (redactB xa) wx (hT.recV HZ7.out) (hT.tables HT5.out)) rfl Tryd.func20 (by kernel_rfl) (by kernel_rfl) (by simp only [List.map_toArray, List.map_cons, List.map_nil, eval_tmp, f67]) hK
          · intro a wx hT hF K hK
            obtain ⟨f66, f68, f64, _⟩ := hF
            replace f66 := show (svRd (sealedB xa)).pred (a.tmps.getD 66 undef) wx from f66
            replace f68 := show (svRd (sealedB xa)).pred (a.tmps.getD 68 undef) wx from f68
            have f64 : a.tmps.getD 64 undef = .bool true := f64
            refine rely_wp (rely_guard f64) ?_
            exact opr_cv (Bytes_true _ _ (sealedB xa) wx f66 f68 xa_sl) rfl Tryd.func19 (by kernel_rfl) (by kernel_rfl) (by simp only [List.map_toArray, List.map_cons, List.map_nil, eval_tmp]) hK
          · intro a wx hT hF K hK
            obtain ⟨f64, f69, _⟩ := hF
            have f64 : a.tmps.getD 64 undef = .bool true := f64
            have f69 : a.tmps.getD 69 undef = .bool true := f69
            refine rely_wp rfl ?_
            exact opr_pick_true rfl f64 (hK _ _ (NewT.refl _) f69)
          · intro a wx hT hF K hK
            obtain ⟨f70, _⟩ := hF
            have f70 : a.tmps.getD 70 undef = .bool true := f70
            refine rely_wp rfl ?_
            exact opr_move (.inl rfl) (hK _ _ (NewT.refl _) f70)
          · intro a wx hT hF K hK
            obtain ⟨f7, f71, _⟩ := hF
            have f7 : a.tmps.getD 7 undef = .pointer (some ⟨g7, 0, none⟩) := f7
            have f71 : a.tmps.getD 71 undef = .bool true := f71
            refine rely_wp (rely_guard f71) ?_
            exact opr_ldR (hT.row Z7.out) rfl f7 (hK _ _ (NewT.refl _) rfl)
          · intro a wx hT hF K hK
            obtain ⟨f72, f71, _⟩ := hF
            have f72 : a.tmps.getD 72 undef = .agg (rowA 109 (recF (redactB xa) sd dd)) := f72
            have f71 : a.tmps.getD 71 undef = .bool true := f71
            refine rely_wp (rely_guard f71) ?_
            exact opr_cv (Open_cv _ (redactB xa) wx (hT.recV HZ7.out)) rfl Tryd.func22 (by kernel_rfl) (by kernel_rfl) (by simp only [List.map_toArray, List.map_cons, List.map_nil, eval_tmp, f72]) hK
          · intro a wx hT hF K hK
            obtain ⟨f73, f71, _⟩ := hF
            replace f73 := show (svRd (openB (redactB xa))).pred (a.tmps.getD 73 undef) wx from f73
            have f71 : a.tmps.getD 71 undef = .bool true := f71
            refine rely_wp (rely_guard f71) ?_
            exact opr_len_rd rfl f73 (hK _ _ (NewT.refl _) (by rw [xa_len]; rfl))
          · intro a wx hT hF K hK
            obtain ⟨f74, f71, _⟩ := hF
            have f74 : a.tmps.getD 74 undef = .int .i64 (38) := f74
            have f71 : a.tmps.getD 71 undef = .bool true := f71
            refine rely_wp (rely_guard f71) ?_
            exact opr_cmp (b := true) (.inl ⟨rfl, (by decide)⟩) Tryd.underlying3 rfl f74 rfl (hK _ _ (NewT.refl _) rfl)
          · intro a wx hT hF K hK
            obtain ⟨f71, f75, _⟩ := hF
            have f71 : a.tmps.getD 71 undef = .bool true := f71
            have f75 : a.tmps.getD 75 undef = .bool true := f75
            refine rely_wp rfl ?_
            exact opr_pick_true rfl f71 (hK _ _ (NewT.refl _) f75)
          · intro wx hT
            intro u h; obtain rfl := Eq.symm (h (by simp)); clear h
            intro _ _
            intro u h; obtain rfl := Eq.symm (h (by simp)); clear h
            intro u h; obtain rfl := Eq.symm (h (by simp)); clear h
            intro u h; obtain rfl := Eq.symm (h (by simp)); clear h
            intro u h; obtain rfl := Eq.symm (h (by simp)); clear h
            intro u h; obtain rfl := Eq.symm (h (by simp)); clear h
            intro u h; obtain rfl := Eq.symm (h (by simp)); clear h
            intro u h; obtain rfl := Eq.symm (h (by simp)); clear h
            intro u h; obtain rfl := Eq.symm (h (by simp)); clear h
            intro u h; obtain rfl := Eq.symm (h (by simp)); clear h
            intro u h; obtain rfl := Eq.symm (h (by simp)); clear h
            intro u h; obtain rfl := Eq.symm (h (by simp)); clear h
            intro u h; obtain rfl := Eq.symm (h (by simp)); clear h
            intro u h; obtain rfl := Eq.symm (h (by simp)); clear h
            intro u h; obtain rfl := Eq.symm (h (by simp)); clear h
            intro u h; obtain rfl := Eq.symm (h (by simp)); clear h
            intro u h; obtain rfl := Eq.symm (h (by simp)); clear h
            intro u h; obtain rfl := Eq.symm (h (by simp)); clear h
            intro u h; obtain rfl := Eq.symm (h (by simp)); clear h
            intro u h; obtain rfl := Eq.symm (h (by simp)); clear h
            intro u h; obtain rfl := Eq.symm (h (by simp)); clear h
            intro u h; obtain rfl := Eq.symm (h (by simp)); clear h
            intro u h; obtain rfl := Eq.symm (h (by simp)); clear h
            intro u h; obtain rfl := Eq.symm (h (by simp)); clear h
            intro u h; obtain rfl := Eq.symm (h (by simp)); clear h
            intro u h; obtain rfl := Eq.symm (h (by simp)); clear h
            intro u h; obtain rfl := Eq.symm (h (by simp)); clear h
            intro u h; obtain rfl := Eq.symm (h (by simp)); clear h
            intro u h; obtain rfl := Eq.symm (h (by simp)); clear h
            intro u h; obtain rfl := Eq.symm (h (by simp)); clear h
            intro u h; obtain rfl := Eq.symm (h (by simp)); clear h
            intro u h; obtain rfl := Eq.symm (h (by simp)); clear h
            intro u h; obtain rfl := Eq.symm (h (by simp)); clear h
            intro u h; obtain rfl := Eq.symm (h (by simp)); clear h
            intro u h; obtain rfl := Eq.symm (h (by simp)); clear h
            intro u h; obtain rfl := Eq.symm (h (by simp)); clear h
            intro u h; obtain rfl := Eq.symm (h (by simp)); clear h
            intro _ _
            intro u h; obtain rfl := Eq.symm (h (by simp)); clear h
            intro _ _
            intro u h; obtain rfl := Eq.symm (h (by simp)); clear h
            intro u h; obtain rfl := Eq.symm (h (by simp)); clear h
            intro u h; obtain rfl := Eq.symm (h (by simp)); clear h
            intro u h; obtain rfl := Eq.symm (h (by simp)); clear h
            intro _ _
            intro u h; obtain rfl := Eq.symm (h (by simp)); clear h
            intro u h; obtain rfl := Eq.symm (h (by simp)); clear h
            intro u h; obtain rfl := Eq.symm (h (by simp)); clear h
            refine relyEnd_nil rfl ?_
            simp only [Act.put, List.setIfInBounds_toArray, List.set_cons_zero, List.set_cons_succ]
            refine opr_move (.inr rfl) ?_
            go_simp
            go_wp2
            go_ret
            exact ⟨rfl, (NewT.trans _ _ _ HN50.out hT).out⟩
end Go.Proofs.YthgblcpekhiphaaDoor
/- What layer 4's laws say, on lists. -/
namespace Go.Proofs.YthgblcpekhiphaaDoor
open Go Go.RowKit
set_option maxRecDepth 8000
def greatB (x : Rc) : Bool := decide ((30 : Int) < (x.steps.length : Int)) || decide ((300 : Int) < (x.data.length : Int))
theorem not_great (x : Rc) (h : greatB x = false) : x.steps.length ≤ 30 ∧ x.data.length ≤ 300 := by
  unfold greatB at h
  simp at h
  omega
end Go.Proofs.YthgblcpekhiphaaDoor
/- The laws' own bound, and alive as a contract. -/
namespace Go.Proofs.YthgblcpekhiphaaDoor
open Go Go.RowKit
set_option maxRecDepth 8000
set_option maxHeartbeats 400000 in
theorem Great_cv (v : Value) (x : Rc) (w : World) (h : RecV w v x) : Cv 10 #[v] w (.eq (.bool (greatB x))) := by
  obtain ⟨sv, dv, rfl, hs, hd⟩ := h
  unfold Cv
  have HX : Hid (RecV w (.agg (rowA 109 (recF x sv dv))) x) := Lib.hid ⟨sv, dv, rfl, hs, hd⟩
  have HS := Lib.hid hs
  have HD := Lib.hid hd
  clear hs hd
  go_enter Tryd.func10, Tryd.ntmps10
  go_upto_region 1 with fail
  have r1 := rowIs_box w 27 109 (recF x sv dv)
  have hN := NewT.alloc w (.cells (rowA 109 (recF x sv dv)) 27)
  change Code.wp _ _ _ _ (w.alloc (.cells (rowA 109 (recF x sv dv)) 27))
  generalize w.alloc (.cells (rowA 109 (recF x sv dv)) 27) = W0 at r1 hN ⊢
  have R1 := Lib.hid r1
  have HN := Lib.hid hN
  replace HX := Lib.hid (hN.recV HX.out)
  replace HS := Lib.hid (hN.pairs HS.out)
  replace HD := Lib.hid (hN.rd HD.out)
  clear r1 hN
  obtain ⟨q1_1, Q1_1⟩ : ∃ q, ((decide (30 < ((List.length (x.steps) : Int)))) || (decide (300 < ((List.length (x.data) : Int))))) = q := ⟨_, rfl⟩
  refine wp_region_steps0 NewT [SV.eq (.pointer (some ⟨w.heap.size, 42, none⟩)), SV.eq (sv), SV.eq (.int .i64 ((List.length (x.steps) : Int))), SV.eq (.bool (decide (30 < ((List.length (x.steps) : Int))))), SV.eq (.bool (decide (30 < ((List.length (x.steps) : Int))))), svIf ((!(decide (30 < ((List.length (x.steps) : Int)))))) (SV.eq (.pointer (some ⟨w.heap.size, 43, none⟩))), svIf ((!(decide (30 < ((List.length (x.steps) : Int)))))) (SV.eq (dv)), svIf ((!(decide (30 < ((List.length (x.steps) : Int)))))) (SV.eq (.int .i64 ((List.length (x.data) : Int)))), svIf ((!(decide (30 < ((List.length (x.steps) : Int)))))) (SV.eq (.bool (decide (300 < ((List.length (x.data) : Int)))))), SV.eq (.bool (q1_1)), SV.eq (.bool (q1_1))] [([(1, none)], none), ([(3, some 0)], none), ([(4, some 1)], none), ([(5, some 2)], none), ([(6, some 3)], none), ([(1, none), (7, some 4)], some (7, false)), ([(8, some 5), (7, some 4)], some (7, false)), ([(9, some 6), (7, some 4)], some (7, false)), ([(10, some 7), (7, some 4)], some (7, false)), ([(7, some 4), (11, some 8)], none), ([(12, some 9)], none)] 13 11 rfl rfl (by kernel_rfl) NewT.trans (NewT.refl _) (Nat.le_of_ble_eq_true rfl) ⟨?_, ?_, ?_, ?_, ?_, ?_, ?_, ?_, ?_, ?_, ?_, trivial⟩ ?_
  · intro a wx hT hF K hK
    obtain ⟨f1, _⟩ := hF
    have f1 : a.tmps.getD 1 undef = .pointer (some ⟨w.heap.size, 0, none⟩) := f1
    refine rely_wp rfl ?_
    exact opr_fldR (by decide) rfl f1 (hK _ _ (NewT.refl _) rfl)
  · intro a wx hT hF K hK
    obtain ⟨f3, _⟩ := hF
    have f3 : a.tmps.getD 3 undef = .pointer (some ⟨w.heap.size, 42, none⟩) := f3
    refine rely_wp rfl ?_
    exact opr_ldS (hT.row R1.out) (by decide) rfl rfl f3 (hK _ _ (NewT.refl _) rfl)
  · intro a wx hT hF K hK
    obtain ⟨f4, _⟩ := hF
    have f4 : a.tmps.getD 4 undef = sv := f4
    refine rely_wp rfl ?_
    exact opr_len_pairs rfl (by rw [eval_tmp, f4]; exact (hT.pairs HS.out)) (hK _ _ (NewT.refl _) rfl)
  · intro a wx hT hF K hK
    obtain ⟨f5, _⟩ := hF
    have f5 : a.tmps.getD 5 undef = .int .i64 ((List.length (x.steps) : Int)) := f5
    refine rely_wp rfl ?_
    exact opr_cmp (b := decide (30 < ((List.length (x.steps) : Int)))) (.inr (.inr (.inr (.inr (.inl ⟨rfl, rfl⟩))))) Tryd.underlying3 rfl f5 rfl (hK _ _ (NewT.refl _) rfl)
  · intro a wx hT hF K hK
    obtain ⟨f6, _⟩ := hF
    have f6 : a.tmps.getD 6 undef = .bool (decide (30 < ((List.length (x.steps) : Int)))) := f6
    refine rely_wp rfl ?_
    exact opr_move (.inl rfl) (hK _ _ (NewT.refl _) f6)
  · intro a wx hT hF K hK
    obtain ⟨f1, f7, _⟩ := hF
    have f1 : a.tmps.getD 1 undef = .pointer (some ⟨w.heap.size, 0, none⟩) := f1
    have f7 : a.tmps.getD 7 undef = .bool (decide (30 < ((List.length (x.steps) : Int)))) := f7
    refine rely_if (rely_gf f7) (NewT.refl _) hK (fun hE hK => ?_)
    exact opr_fldR (by decide) rfl f1 (hK _ _ (NewT.refl _) rfl)
  · intro a wx hT hF K hK
    obtain ⟨f8, f7, _⟩ := hF
    have f8 : ((!(decide (30 < ((List.length (x.steps) : Int)))))) = true → a.tmps.getD 8 undef = .pointer (some ⟨w.heap.size, 43, none⟩) := f8
    have f7 : a.tmps.getD 7 undef = .bool (decide (30 < ((List.length (x.steps) : Int)))) := f7
    refine rely_if (rely_gf f7) (NewT.refl _) hK (fun hE hK => ?_)
    exact opr_ldB (hT.row R1.out) (by decide) rfl rfl (f8 hE) (hK _ _ (NewT.refl _) rfl)
  · intro a wx hT hF K hK
    obtain ⟨f9, f7, _⟩ := hF
    have f9 : ((!(decide (30 < ((List.length (x.steps) : Int)))))) = true → a.tmps.getD 9 undef = dv := f9
    have f7 : a.tmps.getD 7 undef = .bool (decide (30 < ((List.length (x.steps) : Int)))) := f7
    refine rely_if (rely_gf f7) (NewT.refl _) hK (fun hE hK => ?_)
    exact opr_len_rd rfl (by rw [eval_tmp, (f9 hE)]; exact (hT.rd HD.out)) (hK _ _ (NewT.refl _) rfl)
  · intro a wx hT hF K hK
    obtain ⟨f10, f7, _⟩ := hF
    have f10 : ((!(decide (30 < ((List.length (x.steps) : Int)))))) = true → a.tmps.getD 10 undef = .int .i64 ((List.length (x.data) : Int)) := f10
    have f7 : a.tmps.getD 7 undef = .bool (decide (30 < ((List.length (x.steps) : Int)))) := f7
    refine rely_if (rely_gf f7) (NewT.refl _) hK (fun hE hK => ?_)
    exact opr_cmp (b := decide (300 < ((List.length (x.data) : Int)))) (.inr (.inr (.inr (.inr (.inl ⟨rfl, rfl⟩))))) Tryd.underlying3 rfl (f10 hE) rfl (hK _ _ (NewT.refl _) rfl)
  · intro a wx hT hF K hK
    obtain ⟨f7, f11, _⟩ := hF
    have f7 : a.tmps.getD 7 undef = .bool (decide (30 < ((List.length (x.steps) : Int)))) := f7
    have f11 : ((!(decide (30 < ((List.length (x.steps) : Int)))))) = true → a.tmps.getD 11 undef = .bool (decide (300 < ((List.length (x.data) : Int)))) := f11
    refine rely_wp rfl ?_
    exact opr_pick_b rfl f7 (fun hb => hK _ _ (NewT.refl _) (pn_or1 Q1_1 hb)) (fun hb => hK _ _ (NewT.refl _) (pn_or0 Q1_1 (f11 (bnot hb)) hb))
  · intro a wx hT hF K hK
    obtain ⟨f12, _⟩ := hF
    have f12 : a.tmps.getD 12 undef = .bool (q1_1) := f12
    refine rely_wp rfl ?_
    exact opr_move (.inr rfl) (hK _ _ (NewT.refl _) f12)
  · intro wx hT
    intro u h; obtain rfl := Eq.symm (h (by simp)); clear h
    intro u h; obtain rfl := Eq.symm (h (by simp)); clear h
    intro u h; obtain rfl := Eq.symm (h (by simp)); clear h
    intro u h; obtain rfl := Eq.symm (h (by simp)); clear h
    intro u h; obtain rfl := Eq.symm (h (by simp)); clear h
    intro _ _
    intro _ _
    intro _ _
    intro _ _
    intro u h; obtain rfl := Eq.symm (h (by simp)); clear h
    intro u h; obtain rfl := Eq.symm (h (by simp)); clear h
    subst Q1_1
    refine relyEnd_nil rfl ?_
    refine wpList_end rfl ?_
    simp only [Act.put, List.setIfInBounds_toArray, List.set_cons_zero, List.set_cons_succ]
    go_simp
    go_wp2
    go_ret
    exact ⟨_, rfl, NewT.trans _ _ _ HN.out hT, rfl⟩
theorem alive4_cv (w : World) (hT : Tables w) : Cv 9 #[] w (.eq (.bool true)) := Cv.of_eq (alive4_any w hT)
end Go.Proofs.YthgblcpekhiphaaDoor
