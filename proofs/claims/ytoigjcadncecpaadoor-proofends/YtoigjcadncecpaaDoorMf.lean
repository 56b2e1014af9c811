/- The law ProofEnds, walked: a list begins itself by no proof, and nothing begins every list. -/
import Derived.Test.YtoigjcadncecpaaDoorMe
set_option linter.all false
namespace Go.Proofs.YtoigjcadncecpaaDoor
open Go Go.RowKit
set_option maxRecDepth 8000
set_option linter.all false
set_option maxHeartbeats 4000000 in
theorem ProofEnds_walk (v : Value) (l : List Hs) (other : Hs) (w : World) (hT : Tables w) (hl : RdH w v l) : Calls Tryd.prog 9 #[v, .agg (rowA 32 (bF other))] w fun e w' => e = .returned (.bool true) ∧ Below w.heap.size w w' := by
  by_cases h60 : 60 < l.length
  · have t1 : decide ((60 : Int) < (l.length : Int)) = true := by simp; omega
    obtain ⟨node, z, hX⟩ := tree_ex
    have HT := Lib.hid hT
    have HL := Lib.hid hl
    obtain ⟨A, c, hv⟩ := rdH_form hl
    subst hv
    clear hT hl
    go_enter Tryd.func9, Tryd.ntmps9
    go_upto_region 1 with fail
    have rb := rowIs_box w 29 32 (bF other)
    have hN : NewT w (w.alloc (.cells (rowA 32 (bF other)) 29)) := (NewT.alloc _ _)
    change Code.wp _ _ _ _ (w.alloc (.cells (rowA 32 (bF other)) 29))
    generalize (w.alloc (.cells (rowA 32 (bF other)) 29)) = W0 at rb hN ⊢
    have RB := Lib.hid rb
    have HN := Lib.hid hN
    replace HT := Lib.hid (hN.tables HT.out)
    replace HL := Lib.hid (hN.hs HL.out)
    clear rb hN
    go_upto_region 4 with (go_at_call 10; refine (alive6_any _ HT.out).mono ?_; rintro _ w1 ⟨rfl, hA1⟩)
    go_wp2
    go_ret
    exact ⟨rfl, (NewT.trans _ _ _ HN.out (NewT.of hA1)).out⟩
  have t1 : decide ((60 : Int) < (l.length : Int)) = false := by simp; omega
  have HLEN : Hid (l.length ≤ 60) := Lib.hid (by omega)
  obtain ⟨node, z, hX⟩ := tree_ex
  have HT := Lib.hid hT
  have HL := Lib.hid hl
  obtain ⟨A, c, hv⟩ := rdH_form hl
  subst hv
  clear hT hl
  go_enter Tryd.func9, Tryd.ntmps9
  go_upto_region 1 with fail
  have rb := rowIs_box w 29 32 (bF other)
  have hN : NewT w (w.alloc (.cells (rowA 32 (bF other)) 29)) := (NewT.alloc _ _)
  change Code.wp _ _ _ _ (w.alloc (.cells (rowA 32 (bF other)) 29))
  generalize (w.alloc (.cells (rowA 32 (bF other)) 29)) = W0 at rb hN ⊢
  have RB := Lib.hid rb
  have HN := Lib.hid hN
  replace HT := Lib.hid (hN.tables HT.out)
  replace HL := Lib.hid (hN.hs HL.out)
  clear rb hN
  go_upto_region 5 with (go_at_call 10; refine (alive6_any _ HT.out).mono ?_; rintro _ w1 ⟨rfl, hA1⟩)
  replace RB := Lib.hid ((NewT.of hA1).row RB.out)
  have hn1 := NewT.of hA1
  replace HT := Lib.hid (hn1.tables HT.out)
  replace HL := Lib.hid (hn1.hs HL.out)
  replace HN := Lib.hid (NewT.trans _ _ _ HN.out hn1)
  obtain ⟨v, ev⟩ : ∃ v, Value.slice A l.length c = v := ⟨_, rfl⟩
  rw [ev] at HL ⊢
  clear ev hA1
  clear t1
  refine wp_region_steps0 NewT [SV.eq (v), SV.eq (.agg (rowA 32 (bF (rootM node z (l)))))] [([(0, none)], none), ([(11, some 0)], none)] 53 2 rfl rfl (by kernel_rfl) NewT.trans (NewT.refl _) (Nat.le_of_ble_eq_true rfl) ⟨?_, ?_, trivial⟩ ?_
  · intro a wx hT hF K hK
    obtain ⟨f0, _⟩ := hF
    have f0 : a.tmps.getD 0 undef = v := f0
    refine rely_wp rfl ?_
    exact opr_move (.inl rfl) (hK _ _ (NewT.refl _) f0)
  · intro a wx hT hF K hK
    obtain ⟨f11, _⟩ := hF
    have f11 : a.tmps.getD 11 undef = v := f11
    refine rely_wp rfl ?_
    exact opr_cv (Root_cv hX _ _ (l) wx (hT.tables HT.out) ((hT.hs HL.out)) (Nat.le_refl _) (by have := HLEN.out; omega)) rfl Tryd.func24 (by kernel_rfl) (by kernel_rfl) (by simp only [List.map_toArray, List.map_cons, List.map_nil, eval_tmp, f11]) hK
  · intro w2 k2
    intro u h; obtain rfl := Eq.symm (h (by simp)); clear h
    intro u h; obtain rfl := Eq.symm (h (by simp)); clear h
    refine relyEnd_nil rfl ?_
    simp only [Act.put, List.setIfInBounds_toArray, List.set_cons_zero, List.set_cons_succ]
    refine wpList_new (n := 32) rfl rfl rfl rfl rfl rfl (by simp) run_alloc_hash info31 (fun _ => rfl) rfl ?_
    intro w3 hn1 r5
    refine wpList_end rfl ?_
    simp only [Act.put, List.setIfInBounds_toArray, List.set_cons_zero, List.set_cons_succ]
    go_simp
    obtain ⟨p5, hp5⟩ : ∃ p, w2.heap.size = p := ⟨_, rfl⟩
    rw [hp5] at r5 ⊢
    have R5 := Lib.hid r5
    have k23 := NewT.trans _ _ _ k2 hn1
    clear k2 hn1 r5 hp5
    replace RB := Lib.hid (k23.row RB.out)
    replace HL := Lib.hid (k23.hs HL.out)
    replace HT := Lib.hid (k23.tables HT.out)
    replace HN := Lib.hid (NewT.trans _ _ _ HN.out k23)
    clear k23
    go_upto_region 6 with fail
    refine wp_region_rely (NewT) [SV.eq (v), SV.eq (.int .i64 ((List.length (l) : Int))), SV.eq (.agg (rowA 32 (bF (z)))), SV.eq (.agg (rowA 32 (bF (other)))), SV.eq (.bool true), SV.eq (.bool false), SV.eq (.bool false), SV.eq (v), SV.eq (.int .i64 ((List.length (l) : Int))), SV.eq (.agg (rowA 32 (bF (z)))), SV.eq (.agg (rowA 32 (bF (other)))), SV.eq (.agg (rowA 32 (bF (other)))), svH ([other]), SV.eq (.bool false)] [([(0, none)], none), ([(13, some 0)], none), ([], none), ([(3, none)], none), ([(14, some 1), (15, some 2), (16, some 3)], none), ([(17, some 4)], none), ([(18, some 5)], none), ([(0, none), (19, some 6)], some (19, false)), ([(20, some 7), (19, some 6)], some (19, false)), ([(19, some 6)], some (19, false)), ([(3, none), (19, some 6)], some (19, false)), ([(3, none), (19, some 6)], some (19, false)), ([(24, some 11), (19, some 6)], some (19, false)), ([(21, some 8), (22, some 9), (23, some 10), (25, some 12), (19, some 6)], some (19, false))] 53 rfl (by kernel_rfl) rfl (by kernel_rfl) (by kernel_rfl) rfl NewT.trans (NewT.drew _) (Nat.le_of_ble_eq_true rfl) ⟨?_, ?_, ?_, ?_, ?_, ?_, ?_, ?_, ?_, ?_, ?_, ?_, ?_, ?_, trivial⟩ ?_
    · intro a wx hT hF K hK
      obtain ⟨f0, _⟩ := hF
      have f0 : a.tmps.getD 0 undef = v := f0
      refine rely_wp rfl ?_
      exact opr_move (.inl rfl) (hK _ _ (NewT.refl _) f0)
    · intro a wx hT hF K hK
      obtain ⟨f13, _⟩ := hF
      have f13 : a.tmps.getD 13 undef = v := f13
      refine rely_wp rfl ?_
      exact opr_len_h rfl (by rw [eval_tmp, f13]; exact (hT.hs HL.out)) (hK _ _ (NewT.refl _) rfl)
    · intro a wx hT hF K hK
      refine rely_wp rfl ?_
      exact opr_cv (Root_nil hX wx (hT.tables HT.out)) rfl Tryd.func24 (by kernel_rfl) (by kernel_rfl) (by simp only [List.map_toArray, List.map_cons, List.map_nil, eval_const]) hK
    · intro a wx hT hF K hK
      obtain ⟨f3, _⟩ := hF
      have f3 : a.tmps.getD 3 undef = .pointer (some ⟨w.heap.size, 0, none⟩) := f3
      refine rely_wp rfl ?_
      exact opr_load_hash rfl f3 (hT.row RB.out) (hK _ _ (NewT.refl _) rfl)
    · intro a wx hT hF K hK
      obtain ⟨f14, f15, f16, _⟩ := hF
      have f14 : a.tmps.getD 14 undef = .int .i64 ((List.length (l) : Int)) := f14
      have f15 : a.tmps.getD 15 undef = .agg (rowA 32 (bF (z))) := f15
      have f16 : a.tmps.getD 16 undef = .agg (rowA 32 (bF (other))) := f16
      refine rely_wp rfl ?_
      exact opr_cv (Beg_0 hX other l.length (by have := HLEN.out; omega) wx (hT.tables HT.out)) rfl Tryd.func22 (by kernel_rfl) (by kernel_rfl) (by simp only [List.map_toArray, List.map_cons, List.map_nil, eval_tmp, eval_const, f14, f15, f16]) hK
    · intro a wx hT hF K hK
      obtain ⟨f17, _⟩ := hF
      have f17 : a.tmps.getD 17 undef = .bool true := f17
      refine rely_wp rfl ?_
      exact opr_not rfl f17 (hK _ _ (NewT.refl _) rfl)
    · intro a wx hT hF K hK
      obtain ⟨f18, _⟩ := hF
      have f18 : a.tmps.getD 18 undef = .bool false := f18
      refine rely_wp rfl ?_
      exact opr_move (.inl rfl) (hK _ _ (NewT.refl _) f18)
    · intro a wx hT hF K hK
      obtain ⟨f0, f19, _⟩ := hF
      have f0 : a.tmps.getD 0 undef = v := f0
      have f19 : a.tmps.getD 19 undef = .bool false := f19
      refine rely_wp (rely_guard f19) ?_
      exact opr_move (.inl rfl) (hK _ _ (NewT.refl _) f0)
    · intro a wx hT hF K hK
      obtain ⟨f20, f19, _⟩ := hF
      have f20 : a.tmps.getD 20 undef = v := f20
      have f19 : a.tmps.getD 19 undef = .bool false := f19
      refine rely_wp (rely_guard f19) ?_
      exact opr_len_h rfl (by rw [eval_tmp, f20]; exact (hT.hs HL.out)) (hK _ _ (NewT.refl _) rfl)
    · intro a wx hT hF K hK
      obtain ⟨f19, _⟩ := hF
      have f19 : a.tmps.getD 19 undef = .bool false := f19
      refine rely_wp (rely_guard f19) ?_
      exact opr_cv (Root_nil hX wx (hT.tables HT.out)) rfl Tryd.func24 (by kernel_rfl) (by kernel_rfl) (by simp only [List.map_toArray, List.map_cons, List.map_nil, eval_const]) hK
    · intro a wx hT hF K hK
      obtain ⟨f3, f19, _⟩ := hF
      have f3 : a.tmps.getD 3 undef = .pointer (some ⟨w.heap.size, 0, none⟩) := f3
      have f19 : a.tmps.getD 19 undef = .bool false := f19
      refine rely_wp (rely_guard f19) ?_
      exact opr_load_hash rfl f3 (hT.row RB.out) (hK _ _ (NewT.refl _) rfl)
    · intro a wx hT hF K hK
      obtain ⟨f3, f19, _⟩ := hF
      have f3 : a.tmps.getD 3 undef = .pointer (some ⟨w.heap.size, 0, none⟩) := f3
      have f19 : a.tmps.getD 19 undef = .bool false := f19
      refine rely_wp (rely_guard f19) ?_
      exact opr_load_hash rfl f3 (hT.row RB.out) (hK _ _ (NewT.refl _) rfl)
    · intro a wx hT hF K hK
      obtain ⟨f24, f19, _⟩ := hF
      have f24 : a.tmps.getD 24 undef = .agg (rowA 32 (bF (other))) := f24
      have f19 : a.tmps.getD 19 undef = .bool false := f19
      refine rely_wp (rely_guard f19) ?_
      exact opr_bsH1 rfl f24 hK
    · intro a wx hT hF K hK
      obtain ⟨f21, f22, f23, f25, f19, _⟩ := hF
      have f21 : a.tmps.getD 21 undef = .int .i64 ((List.length (l) : Int)) := f21
      have f22 : a.tmps.getD 22 undef = .agg (rowA 32 (bF (z))) := f22
      have f23 : a.tmps.getD 23 undef = .agg (rowA 32 (bF (other))) := f23
      replace f25 := show (svH ([other])).pred (a.tmps.getD 25 undef) wx from f25
      have f19 : a.tmps.getD 19 undef = .bool false := f19
      refine rely_wp (rely_guard f19) ?_
      exact opr_cv (Beg_01 hX other other l.length _ wx (hT.tables HT.out) f25) rfl Tryd.func22 (by kernel_rfl) (by kernel_rfl) (by simp only [List.map_toArray, List.map_cons, List.map_nil, eval_tmp, eval_const, f21, f22, f23]) hK
    · intro w4 k4
      intro u h; obtain rfl := Eq.symm (h (by simp)); clear h
      intro u h; obtain rfl := Eq.symm (h (by simp)); clear h
      intro u h; obtain rfl := Eq.symm (h (by simp)); clear h
      intro u h; obtain rfl := Eq.symm (h (by simp)); clear h
      intro u h; obtain rfl := Eq.symm (h (by simp)); clear h
      intro u h; obtain rfl := Eq.symm (h (by simp)); clear h
      intro u h; obtain rfl := Eq.symm (h (by simp)); clear h
      intro u h; obtain rfl := Eq.symm (h (by simp)); clear h
      intro u h; obtain rfl := Eq.symm (h (by simp)); clear h
      intro u h; obtain rfl := Eq.symm (h (by simp)); clear h
      intro u h; obtain rfl := Eq.symm (h (by simp)); clear h
      intro u h; obtain rfl := Eq.symm (h (by simp)); clear h
      intro _ _
      intro u h; obtain rfl := Eq.symm (h (by simp)); clear h
      refine relyEnd_nil rfl ?_
      simp only [Act.put, List.setIfInBounds_toArray, List.set_cons_zero, List.set_cons_succ]
      refine opr_pick_false rfl rfl ?_
      go_simp
      replace RB := Lib.hid (k4.row RB.out)
      replace R5 := Lib.hid (k4.row R5.out)
      replace HL := Lib.hid (k4.hs HL.out)
      replace HT := Lib.hid (k4.tables HT.out)
      replace HN := Lib.hid (NewT.trans _ _ _ HN.out k4)
      clear k4
      go_upto_region 8 with fail
      by_cases hz : l.length = 0
      · have HZ : Hid ((l.length : Int) = 0) := Lib.hid (by omega)
        refine wp_region_rely (NewT) [SV.eq (v), SV.eq (.int .i64 ((List.length (l) : Int))), SV.eq (.bool true), SV.eq (.bool true), SV.eq (undef), SV.eq (undef), SV.eq (undef), SV.eq (undef), SV.eq (undef), SV.eq (undef), SV.eq (undef), SV.eq (undef), SV.eq (undef), SV.eq (undef), SV.eq (undef), SV.eq (undef), SV.eq (undef), SV.eq (undef), SV.eq (undef), SV.eq (undef), SV.eq (undef), SV.eq (undef), SV.eq (undef), SV.eq (undef), SV.eq (.bool true)] [([(0, none)], none), ([(28, some 0)], none), ([(29, some 1)], none), ([(30, some 2)], none), ([(0, none), (31, some 3)], some (31, false)), ([(32, some 4), (31, some 3)], some (31, false)), ([(0, none), (31, some 3)], some (31, false)), ([(34, some 6), (31, some 3)], some (31, false)), ([(5, none), (31, some 3)], some (31, false)), ([(5, none), (31, some 3)], some (31, false)), ([(33, some 5), (35, some 7), (36, some 8), (37, some 9), (31, some 3)], some (31, false)), ([(38, some 10), (31, some 3)], some (31, false)), ([(0, none), (39, some 11)], some (39, true)), ([(40, some 12), (39, some 11)], some (39, true)), ([(0, none), (39, some 11)], some (39, true)), ([(42, some 14), (39, some 11)], some (39, true)), ([(5, none), (39, some 11)], some (39, true)), ([(3, none), (39, some 11)], some (39, true)), ([(41, some 13), (43, some 15), (44, some 16), (45, some 17), (39, some 11)], some (39, true)), ([(3, none), (39, some 11)], some (39, true)), ([(5, none), (39, some 11)], some (39, true)), ([(47, some 19), (48, some 20), (39, some 11)], some (39, true)), ([(46, some 18), (49, some 21), (39, some 11)], some (39, true)), ([(39, some 11), (50, some 22), (31, some 3)], some (31, false)), ([(31, some 3), (51, some 23)], none)] 53 rfl (by kernel_rfl) rfl (by kernel_rfl) (by kernel_rfl) rfl NewT.trans (NewT.drew _) (Nat.le_of_ble_eq_true rfl) ⟨?_, ?_, ?_, ?_, ?_, ?_, ?_, ?_, ?_, ?_, ?_, ?_, ?_, ?_, ?_, ?_, ?_, ?_, ?_, ?_, ?_, ?_, ?_, ?_, ?_, trivial⟩ ?_
        · intro a wx hT hF K hK
          obtain ⟨f0, _⟩ := hF
          have f0 : a.tmps.getD 0 undef = v := f0
          refine rely_wp rfl ?_
          exact opr_move (.inl rfl) (hK _ _ (NewT.refl _) f0)
        · intro a wx hT hF K hK
          obtain ⟨f28, _⟩ := hF
          have f28 : a.tmps.getD 28 undef = v := f28
          refine rely_wp rfl ?_
          exact opr_len_h rfl (by rw [eval_tmp, f28]; exact (hT.hs HL.out)) (hK _ _ (NewT.refl _) rfl)
        · intro a wx hT hF K hK
          obtain ⟨f29, _⟩ := hF
          have f29 : a.tmps.getD 29 undef = .int .i64 ((List.length (l) : Int)) := f29
          refine rely_wp rfl ?_
          exact opr_cmp (b := true) (.inl ⟨rfl, (by simp [HZ.out])⟩) Tryd.underlying3 rfl f29 rfl (hK _ _ (NewT.refl _) rfl)
        · intro a wx hT hF K hK
          obtain ⟨f30, _⟩ := hF
          have f30 : a.tmps.getD 30 undef = .bool true := f30
          refine rely_wp rfl ?_
          exact opr_move (.inl rfl) (hK _ _ (NewT.refl _) f30)
        · intro a wx hT hF K hK
          obtain ⟨f0, f31, _⟩ := hF
          have f0 : a.tmps.getD 0 undef = v := f0
          have f31 : a.tmps.getD 31 undef = .bool true := f31
          exact rely_skip (rely_guard_no f31 (by decide)) (hK _ _ (NewT.refl _) rfl)
        · intro a wx hT hF K hK
          obtain ⟨f32, f31, _⟩ := hF
          have f32 : a.tmps.getD 32 undef = undef := f32
          have f31 : a.tmps.getD 31 undef = .bool true := f31
          exact rely_skip (rely_guard_no f31 (by decide)) (hK _ _ (NewT.refl _) rfl)
        · intro a wx hT hF K hK
          obtain ⟨f0, f31, _⟩ := hF
          have f0 : a.tmps.getD 0 undef = v := f0
          have f31 : a.tmps.getD 31 undef = .bool true := f31
          exact rely_skip (rely_guard_no f31 (by decide)) (hK _ _ (NewT.refl _) rfl)
        · intro a wx hT hF K hK
          obtain ⟨f34, f31, _⟩ := hF
          have f34 : a.tmps.getD 34 undef = undef := f34
          have f31 : a.tmps.getD 31 undef = .bool true := f31
          exact rely_skip (rely_guard_no f31 (by decide)) (hK _ _ (NewT.refl _) rfl)
        · intro a wx hT hF K hK
          obtain ⟨f5, f31, _⟩ := hF
          have f5 : a.tmps.getD 5 undef = .pointer (some ⟨p5, 0, none⟩) := f5
          have f31 : a.tmps.getD 31 undef = .bool true := f31
          exact rely_skip (rely_guard_no f31 (by decide)) (hK _ _ (NewT.refl _) rfl)
        · intro a wx hT hF K hK
          obtain ⟨f5, f31, _⟩ := hF
          have f5 : a.tmps.getD 5 undef = .pointer (some ⟨p5, 0, none⟩) := f5
          have f31 : a.tmps.getD 31 undef = .bool true := f31
          exact rely_skip (rely_guard_no f31 (by decide)) (hK _ _ (NewT.refl _) rfl)
        · intro a wx hT hF K hK
          obtain ⟨f33, f35, f36, f37, f31, _⟩ := hF
          have f33 : a.tmps.getD 33 undef = undef := f33
          have f35 : a.tmps.getD 35 undef = undef := f35
          have f36 : a.tmps.getD 36 undef = undef := f36
          have f37 : a.tmps.getD 37 undef = undef := f37
          have f31 : a.tmps.getD 31 undef = .bool true := f31
          exact rely_skip (rely_guard_no f31 (by decide)) (hK _ _ (NewT.refl _) rfl)
        · intro a wx hT hF K hK
          obtain ⟨f38, f31, _⟩ := hF
          have f38 : a.tmps.getD 38 undef = undef := f38
          have f31 : a.tmps.getD 31 undef = .bool true := f31
          exact rely_skip (rely_guard_no f31 (by decide)) (hK _ _ (NewT.refl _) rfl)
        · intro a wx hT hF K hK
          obtain ⟨f0, f39, _⟩ := hF
          have f0 : a.tmps.getD 0 undef = v := f0
          have f39 : a.tmps.getD 39 undef = undef := f39
          exact rely_skip (rely_guard_undef f39) (hK _ _ (NewT.refl _) rfl)
        · intro a wx hT hF K hK
          obtain ⟨f40, f39, _⟩ := hF
          have f40 : a.tmps.getD 40 undef = undef := f40
          have f39 : a.tmps.getD 39 undef = undef := f39
          exact rely_skip (rely_guard_undef f39) (hK _ _ (NewT.refl _) rfl)
        · intro a wx hT hF K hK
          obtain ⟨f0, f39, _⟩ := hF
          have f0 : a.tmps.getD 0 undef = v := f0
          have f39 : a.tmps.getD 39 undef = undef := f39
          exact rely_skip (rely_guard_undef f39) (hK _ _ (NewT.refl _) rfl)
        · intro a wx hT hF K hK
          obtain ⟨f42, f39, _⟩ := hF
          have f42 : a.tmps.getD 42 undef = undef := f42
          have f39 : a.tmps.getD 39 undef = undef := f39
          exact rely_skip (rely_guard_undef f39) (hK _ _ (NewT.refl _) rfl)
        · intro a wx hT hF K hK
          obtain ⟨f5, f39, _⟩ := hF
          have f5 : a.tmps.getD 5 undef = .pointer (some ⟨p5, 0, none⟩) := f5
          have f39 : a.tmps.getD 39 undef = undef := f39
          exact rely_skip (rely_guard_undef f39) (hK _ _ (NewT.refl _) rfl)
        · intro a wx hT hF K hK
          obtain ⟨f3, f39, _⟩ := hF
          have f3 : a.tmps.getD 3 undef = .pointer (some ⟨w.heap.size, 0, none⟩) := f3
          have f39 : a.tmps.getD 39 undef = undef := f39
          exact rely_skip (rely_guard_undef f39) (hK _ _ (NewT.refl _) rfl)
        · intro a wx hT hF K hK
          obtain ⟨f41, f43, f44, f45, f39, _⟩ := hF
          have f41 : a.tmps.getD 41 undef = undef := f41
          have f43 : a.tmps.getD 43 undef = undef := f43
          have f44 : a.tmps.getD 44 undef = undef := f44
          have f45 : a.tmps.getD 45 undef = undef := f45
          have f39 : a.tmps.getD 39 undef = undef := f39
          exact rely_skip (rely_guard_undef f39) (hK _ _ (NewT.refl _) rfl)
        · intro a wx hT hF K hK
          obtain ⟨f3, f39, _⟩ := hF
          have f3 : a.tmps.getD 3 undef = .pointer (some ⟨w.heap.size, 0, none⟩) := f3
          have f39 : a.tmps.getD 39 undef = undef := f39
          exact rely_skip (rely_guard_undef f39) (hK _ _ (NewT.refl _) rfl)
        · intro a wx hT hF K hK
          obtain ⟨f5, f39, _⟩ := hF
          have f5 : a.tmps.getD 5 undef = .pointer (some ⟨p5, 0, none⟩) := f5
          have f39 : a.tmps.getD 39 undef = undef := f39
          exact rely_skip (rely_guard_undef f39) (hK _ _ (NewT.refl _) rfl)
        · intro a wx hT hF K hK
          obtain ⟨f47, f48, f39, _⟩ := hF
          have f47 : a.tmps.getD 47 undef = undef := f47
          have f48 : a.tmps.getD 48 undef = undef := f48
          have f39 : a.tmps.getD 39 undef = undef := f39
          exact rely_skip (rely_guard_undef f39) (hK _ _ (NewT.refl _) rfl)
        · intro a wx hT hF K hK
          obtain ⟨f46, f49, f39, _⟩ := hF
          have f46 : a.tmps.getD 46 undef = undef := f46
          have f49 : a.tmps.getD 49 undef = undef := f49
          have f39 : a.tmps.getD 39 undef = undef := f39
          exact rely_skip (rely_guard_undef f39) (hK _ _ (NewT.refl _) rfl)
        · intro a wx hT hF K hK
          obtain ⟨f39, f50, f31, _⟩ := hF
          have f39 : a.tmps.getD 39 undef = undef := f39
          have f50 : a.tmps.getD 50 undef = undef := f50
          have f31 : a.tmps.getD 31 undef = .bool true := f31
          exact rely_skip (rely_guard_no f31 (by decide)) (hK _ _ (NewT.refl _) rfl)
        · intro a wx hT hF K hK
          obtain ⟨f31, f51, _⟩ := hF
          have f31 : a.tmps.getD 31 undef = .bool true := f31
          have f51 : a.tmps.getD 51 undef = undef := f51
          refine rely_wp rfl ?_
          exact opr_pick_true rfl f31 (hK _ _ (NewT.refl _) rfl)
        · intro w5 k5
          intro u h; obtain rfl := Eq.symm (h (by simp)); clear h
          intro u h; obtain rfl := Eq.symm (h (by simp)); clear h
          intro u h; obtain rfl := Eq.symm (h (by simp)); clear h
          intro u h; obtain rfl := Eq.symm (h (by simp)); clear h
          intro u h; obtain rfl := Eq.symm (h (by simp)); clear h
          intro u h; obtain rfl := Eq.symm (h (by simp)); clear h
          intro u h; obtain rfl := Eq.symm (h (by simp)); clear h
          intro u h; obtain rfl := Eq.symm (h (by simp)); clear h
          intro u h; obtain rfl := Eq.symm (h (by simp)); clear h
          intro u h; obtain rfl := Eq.symm (h (by simp)); clear h
          intro u h; obtain rfl := Eq.symm (h (by simp)); clear h
          intro u h; obtain rfl := Eq.symm (h (by simp)); clear h
          intro u h; obtain rfl := Eq.symm (h (by simp)); clear h
          intro u h; obtain rfl := Eq.symm (h (by simp)); clear h
          intro u h; obtain rfl := Eq.symm (h (by simp)); clear h
          intro u h; obtain rfl := Eq.symm (h (by simp)); clear h
          intro u h; obtain rfl := Eq.symm (h (by simp)); clear h
          intro u h; obtain rfl := Eq.symm (h (by simp)); clear h
          intro u h; obtain rfl := Eq.symm (h (by simp)); clear h
          intro u h; obtain rfl := Eq.symm (h (by simp)); clear h
          intro u h; obtain rfl := Eq.symm (h (by simp)); clear h
          intro u h; obtain rfl := Eq.symm (h (by simp)); clear h
          intro u h; obtain rfl := Eq.symm (h (by simp)); clear h
          intro u h; obtain rfl := Eq.symm (h (by simp)); clear h
          intro u h; obtain rfl := Eq.symm (h (by simp)); clear h
          refine relyEnd_nil rfl ?_
          simp only [Act.put, List.setIfInBounds_toArray, List.set_cons_zero, List.set_cons_succ]
          refine opr_move (.inr rfl) ?_
          go_simp
          go_wp2
          go_ret
          exact ⟨rfl, (NewT.trans _ _ _ HN.out k5).out⟩
      · have HZ : Hid (¬ (l.length : Int) = 0) := Lib.hid (by omega)
        have HZ1 : Hid (1 ≤ l.length) := Lib.hid (by omega)
        refine wp_region_rely (NewT) [SV.eq (v), SV.eq (.int .i64 ((List.length (l) : Int))), SV.eq (.bool false), SV.eq (.bool false), SV.eq (v), SV.eq (.int .i64 ((List.length (l) : Int))), SV.eq (v), SV.eq (.int .i64 ((List.length (l) : Int))), SV.eq (.agg (rowA 32 (bF (rootM node z l)))), SV.eq (.agg (rowA 32 (bF (rootM node z l)))), SV.eq (.bool true), SV.eq (.bool true), SV.eq (v), SV.eq (.int .i64 ((List.length (l) : Int))), SV.eq (v), SV.eq (.int .i64 ((List.length (l) : Int))), SV.eq (.agg (rowA 32 (bF (rootM node z l)))), SV.eq (.agg (rowA 32 (bF (other)))), SV.eq (.bool (eqH (rootM node z l) other)), SV.eq (.agg (rowA 32 (bF (other)))), SV.eq (.agg (rowA 32 (bF (rootM node z l)))), SV.eq (.bool (eqH (other) (rootM node z l))), SV.eq (.bool true), SV.eq (.bool true), SV.eq (.bool true)] [([(0, none)], none), ([(28, some 0)], none), ([(29, some 1)], none), ([(30, some 2)], none), ([(0, none), (31, some 3)], some (31, false)), ([(32, some 4), (31, some 3)], some (31, false)), ([(0, none), (31, some 3)], some (31, false)), ([(34, some 6), (31, some 3)], some (31, false)), ([(5, none), (31, some 3)], some (31, false)), ([(5, none), (31, some 3)], some (31, false)), ([(33, some 5), (35, some 7), (36, some 8), (37, some 9), (31, some 3)], some (31, false)), ([(38, some 10), (31, some 3)], some (31, false)), ([(0, none), (39, some 11)], some (39, true)), ([(40, some 12), (39, some 11)], some (39, true)), ([(0, none), (39, some 11)], some (39, true)), ([(42, some 14), (39, some 11)], some (39, true)), ([(5, none), (39, some 11)], some (39, true)), ([(3, none), (39, some 11)], some (39, true)), ([(41, some 13), (43, some 15), (44, some 16), (45, some 17), (39, some 11)], some (39, true)), ([(3, none), (39, some 11)], some (39, true)), ([(5, none), (39, some 11)], some (39, true)), ([(47, some 19), (48, some 20), (39, some 11)], some (39, true)), ([(46, some 18), (49, some 21), (39, some 11)], some (39, true)), ([(39, some 11), (50, some 22), (31, some 3)], some (31, false)), ([(31, some 3), (51, some 23)], none)] 53 rfl (by kernel_rfl) rfl (by kernel_rfl) (by kernel_rfl) rfl NewT.trans (NewT.drew _) (Nat.le_of_ble_eq_true rfl) ⟨?_, ?_, ?_, ?_, ?_, ?_, ?_, ?_, ?_, ?_, ?_, ?_, ?_, ?_, ?_, ?_, ?_, ?_, ?_, ?_, ?_, ?_, ?_, ?_, ?_, trivial⟩ ?_
        · intro a wx hT hF K hK
          obtain ⟨f0, _⟩ := hF
          have f0 : a.tmps.getD 0 undef = v := f0
          refine rely_wp rfl ?_
          exact opr_move (.inl rfl) (hK _ _ (NewT.refl _) f0)
        · intro a wx hT hF K hK
          obtain ⟨f28, _⟩ := hF
          have f28 : a.tmps.getD 28 undef = v := f28
          refine rely_wp rfl ?_
          exact opr_len_h rfl (by rw [eval_tmp, f28]; exact (hT.hs HL.out)) (hK _ _ (NewT.refl _) rfl)
        · intro a wx hT hF K hK
          obtain ⟨f29, _⟩ := hF
          have f29 : a.tmps.getD 29 undef = .int .i64 ((List.length (l) : Int)) := f29
          refine rely_wp rfl ?_
          exact opr_cmp (b := false) (.inl ⟨rfl, (by simpa using HZ.out)⟩) Tryd.underlying3 rfl f29 rfl (hK _ _ (NewT.refl _) rfl)
        · intro a wx hT hF K hK
          obtain ⟨f30, _⟩ := hF
          have f30 : a.tmps.getD 30 undef = .bool false := f30
          refine rely_wp rfl ?_
          exact opr_move (.inl rfl) (hK _ _ (NewT.refl _) f30)
        · intro a wx hT hF K hK
          obtain ⟨f0, f31, _⟩ := hF
          have f0 : a.tmps.getD 0 undef = v := f0
          have f31 : a.tmps.getD 31 undef = .bool false := f31
          refine rely_wp (rely_guard f31) ?_
          exact opr_move (.inl rfl) (hK _ _ (NewT.refl _) f0)
        · intro a wx hT hF K hK
          obtain ⟨f32, f31, _⟩ := hF
          have f32 : a.tmps.getD 32 undef = v := f32
          have f31 : a.tmps.getD 31 undef = .bool false := f31
          refine rely_wp (rely_guard f31) ?_
          exact opr_len_h rfl (by rw [eval_tmp, f32]; exact (hT.hs HL.out)) (hK _ _ (NewT.refl _) rfl)
        · intro a wx hT hF K hK
          obtain ⟨f0, f31, _⟩ := hF
          have f0 : a.tmps.getD 0 undef = v := f0
          have f31 : a.tmps.getD 31 undef = .bool false := f31
          refine rely_wp (rely_guard f31) ?_
          exact opr_move (.inl rfl) (hK _ _ (NewT.refl _) f0)
        · intro a wx hT hF K hK
          obtain ⟨f34, f31, _⟩ := hF
          have f34 : a.tmps.getD 34 undef = v := f34
          have f31 : a.tmps.getD 31 undef = .bool false := f31
          refine rely_wp (rely_guard f31) ?_
          exact opr_len_h rfl (by rw [eval_tmp, f34]; exact (hT.hs HL.out)) (hK _ _ (NewT.refl _) rfl)
        · intro a wx hT hF K hK
          obtain ⟨f5, f31, _⟩ := hF
          have f5 : a.tmps.getD 5 undef = .pointer (some ⟨p5, 0, none⟩) := f5
          have f31 : a.tmps.getD 31 undef = .bool false := f31
          refine rely_wp (rely_guard f31) ?_
          exact opr_load_hash rfl f5 (hT.row R5.out) (hK _ _ (NewT.refl _) rfl)
        · intro a wx hT hF K hK
          obtain ⟨f5, f31, _⟩ := hF
          have f5 : a.tmps.getD 5 undef = .pointer (some ⟨p5, 0, none⟩) := f5
          have f31 : a.tmps.getD 31 undef = .bool false := f31
          refine rely_wp (rely_guard f31) ?_
          exact opr_load_hash rfl f5 (hT.row R5.out) (hK _ _ (NewT.refl _) rfl)
        · intro a wx hT hF K hK
          obtain ⟨f33, f35, f36, f37, f31, _⟩ := hF
          have f33 : a.tmps.getD 33 undef = .int .i64 ((List.length (l) : Int)) := f33
          have f35 : a.tmps.getD 35 undef = .int .i64 ((List.length (l) : Int)) := f35
          have f36 : a.tmps.getD 36 undef = .agg (rowA 32 (bF (rootM node z l))) := f36
          have f37 : a.tmps.getD 37 undef = .agg (rowA 32 (bF (rootM node z l))) := f37
          have f31 : a.tmps.getD 31 undef = .bool false := f31
          refine rely_wp (rely_guard f31) ?_
          exact opr_cv (eqH_same (rootM node z l) ▸ Beg_all hX l (rootM node z l) wx (hT.tables HT.out) HZ1.out (by have := HLEN.out; omega)) rfl Tryd.func22 (by kernel_rfl) (by kernel_rfl) (by simp only [List.map_toArray, List.map_cons, List.map_nil, eval_tmp, eval_const, f33, f35, f36, f37]) hK
        · intro a wx hT hF K hK
          obtain ⟨f38, f31, _⟩ := hF
          have f38 : a.tmps.getD 38 undef = .bool true := f38
          have f31 : a.tmps.getD 31 undef = .bool false := f31
          refine rely_wp (rely_guard f31) ?_
          exact opr_move (.inl rfl) (hK _ _ (NewT.refl _) f38)
        · intro a wx hT hF K hK
          obtain ⟨f0, f39, _⟩ := hF
          have f0 : a.tmps.getD 0 undef = v := f0
          have f39 : a.tmps.getD 39 undef = .bool true := f39
          refine rely_wp (rely_guard f39) ?_
          exact opr_move (.inl rfl) (hK _ _ (NewT.refl _) f0)
        · intro a wx hT hF K hK
          obtain ⟨f40, f39, _⟩ := hF
          have f40 : a.tmps.getD 40 undef = v := f40
          have f39 : a.tmps.getD 39 undef = .bool true := f39
          refine rely_wp (rely_guard f39) ?_
          exact opr_len_h rfl (by rw [eval_tmp, f40]; exact (hT.hs HL.out)) (hK _ _ (NewT.refl _) rfl)
        · intro a wx hT hF K hK
          obtain ⟨f0, f39, _⟩ := hF
          have f0 : a.tmps.getD 0 undef = v := f0
          have f39 : a.tmps.getD 39 undef = .bool true := f39
          refine rely_wp (rely_guard f39) ?_
          exact opr_move (.inl rfl) (hK _ _ (NewT.refl _) f0)
        · intro a wx hT hF K hK
          obtain ⟨f42, f39, _⟩ := hF
          have f42 : a.tmps.getD 42 undef = v := f42
          have f39 : a.tmps.getD 39 undef = .bool true := f39
          refine rely_wp (rely_guard f39) ?_
          exact opr_len_h rfl (by rw [eval_tmp, f42]; exact (hT.hs HL.out)) (hK _ _ (NewT.refl _) rfl)
        · intro a wx hT hF K hK
          obtain ⟨f5, f39, _⟩ := hF
          have f5 : a.tmps.getD 5 undef = .pointer (some ⟨p5, 0, none⟩) := f5
          have f39 : a.tmps.getD 39 undef = .bool true := f39
          refine rely_wp (rely_guard f39) ?_
          exact opr_load_hash rfl f5 (hT.row R5.out) (hK _ _ (NewT.refl _) rfl)
        · intro a wx hT hF K hK
          obtain ⟨f3, f39, _⟩ := hF
          have f3 : a.tmps.getD 3 undef = .pointer (some ⟨w.heap.size, 0, none⟩) := f3
          have f39 : a.tmps.getD 39 undef = .bool true := f39
          refine rely_wp (rely_guard f39) ?_
          exact opr_load_hash rfl f3 (hT.row RB.out) (hK _ _ (NewT.refl _) rfl)
        · intro a wx hT hF K hK
          obtain ⟨f41, f43, f44, f45, f39, _⟩ := hF
          have f41 : a.tmps.getD 41 undef = .int .i64 ((List.length (l) : Int)) := f41
          have f43 : a.tmps.getD 43 undef = .int .i64 ((List.length (l) : Int)) := f43
          have f44 : a.tmps.getD 44 undef = .agg (rowA 32 (bF (rootM node z l))) := f44
          have f45 : a.tmps.getD 45 undef = .agg (rowA 32 (bF (other))) := f45
          have f39 : a.tmps.getD 39 undef = .bool true := f39
          refine rely_wp (rely_guard f39) ?_
          exact opr_cv (Beg_all hX l other wx (hT.tables HT.out) HZ1.out (by have := HLEN.out; omega)) rfl Tryd.func22 (by kernel_rfl) (by kernel_rfl) (by simp only [List.map_toArray, List.map_cons, List.map_nil, eval_tmp, eval_const, f41, f43, f44, f45]) hK
        · intro a wx hT hF K hK
          obtain ⟨f3, f39, _⟩ := hF
          have f3 : a.tmps.getD 3 undef = .pointer (some ⟨w.heap.size, 0, none⟩) := f3
          have f39 : a.tmps.getD 39 undef = .bool true := f39
          refine rely_wp (rely_guard f39) ?_
          exact opr_load_hash rfl f3 (hT.row RB.out) (hK _ _ (NewT.refl _) rfl)
        · intro a wx hT hF K hK
          obtain ⟨f5, f39, _⟩ := hF
          have f5 : a.tmps.getD 5 undef = .pointer (some ⟨p5, 0, none⟩) := f5
          have f39 : a.tmps.getD 39 undef = .bool true := f39
          refine rely_wp (rely_guard f39) ?_
          exact opr_load_hash rfl f5 (hT.row R5.out) (hK _ _ (NewT.refl _) rfl)
        · intro a wx hT hF K hK
          obtain ⟨f47, f48, f39, _⟩ := hF
          have f47 : a.tmps.getD 47 undef = .agg (rowA 32 (bF (other))) := f47
          have f48 : a.tmps.getD 48 undef = .agg (rowA 32 (bF (rootM node z l))) := f48
          have f39 : a.tmps.getD 39 undef = .bool true := f39
          refine rely_wp (rely_guard f39) ?_
          exact opr_eql_hash (b := eqH (other) (rootM node z l)) rfl f47 f48 (rfl) (hK _ _ (NewT.refl _) rfl)
        · intro a wx hT hF K hK
          obtain ⟨f46, f49, f39, _⟩ := hF
          have f46 : a.tmps.getD 46 undef = .bool (eqH (rootM node z l) other) := f46
          have f49 : a.tmps.getD 49 undef = .bool (eqH (other) (rootM node z l)) := f49
          have f39 : a.tmps.getD 39 undef = .bool true := f39
          refine rely_wp (rely_guard f39) ?_
          exact opr_eqlQ (b := true) ((by rw [eqH_comm]; exact beq_self_eq_true _)) rfl f46 f49 (hK _ _ (NewT.refl _) rfl)
        · intro a wx hT hF K hK
          obtain ⟨f39, f50, f31, _⟩ := hF
          have f39 : a.tmps.getD 39 undef = .bool true := f39
          have f50 : a.tmps.getD 50 undef = .bool true := f50
          have f31 : a.tmps.getD 31 undef = .bool false := f31
          refine rely_wp (rely_guard f31) ?_
          exact opr_pick_true rfl f39 (hK _ _ (NewT.refl _) f50)
        · intro a wx hT hF K hK
          obtain ⟨f31, f51, _⟩ := hF
          have f31 : a.tmps.getD 31 undef = .bool false := f31
          have f51 : a.tmps.getD 51 undef = .bool true := f51
          refine rely_wp rfl ?_
          exact opr_pick_false rfl f31 (hK _ _ (NewT.refl _) f51)
        · intro w5 k5
          intro u h; obtain rfl := Eq.symm (h (by simp)); clear h
          intro u h; obtain rfl := Eq.symm (h (by simp)); clear h
          intro u h; obtain rfl := Eq.symm (h (by simp)); clear h
          intro u h; obtain rfl := Eq.symm (h (by simp)); clear h
          intro u h; obtain rfl := Eq.symm (h (by simp)); clear h
          intro u h; obtain rfl := Eq.symm (h (by simp)); clear h
          intro u h; obtain rfl := Eq.symm (h (by simp)); clear h
          intro u h; obtain rfl := Eq.symm (h (by simp)); clear h
          intro u h; obtain rfl := Eq.symm (h (by simp)); clear h
          intro u h; obtain rfl := Eq.symm (h (by simp)); clear h
          intro u h; obtain rfl := Eq.symm (h (by simp)); clear h
          intro u h; obtain rfl := Eq.symm (h (by simp)); clear h
          intro u h; obtain rfl := Eq.symm (h (by simp)); clear h
          intro u h; obtain rfl := Eq.symm (h (by simp)); clear h
          intro u h; obtain rfl := Eq.symm (h (by simp)); clear h
          intro u h; obtain rfl := Eq.symm (h (by simp)); clear h
          intro u h; obtain rfl := Eq.symm (h (by simp)); clear h
          intro u h; obtain rfl := Eq.symm (h (by simp)); clear h
          intro u h; obtain rfl := Eq.symm (h (by simp)); clear h
          intro u h; obtain rfl := Eq.symm (h (by simp)); clear h
          intro u h; obtain rfl := Eq.symm (h (by simp)); clear h
          intro u h; obtain rfl := Eq.symm (h (by simp)); clear h
          intro u h; obtain rfl := Eq.symm (h (by simp)); clear h
          intro u h; obtain rfl := Eq.symm (h (by simp)); clear h
          intro u h; obtain rfl := Eq.symm (h (by simp)); clear h
          refine relyEnd_nil rfl ?_
          simp only [Act.put, List.setIfInBounds_toArray, List.set_cons_zero, List.set_cons_succ]
          refine opr_move (.inr rfl) ?_
          go_simp
          go_wp2
          go_ret
          exact ⟨rfl, (NewT.trans _ _ _ HN.out k5).out⟩
end Go.Proofs.YtoigjcadncecpaaDoor
