/- The reference's Of and Key, and the law MacOf, walked: every domain's digest, and every tag of words, are the document's. -/
import Derived.Test.YtpoebajpmkcjdaaDoorMX
import Derived.Test.YtpoebajpmkcjdaaDoorMT
namespace Go.Proofs.YtpoebajpmkcjdaaDoor
open Go Go.RowKit
set_option maxHeartbeats 1000000 in
theorem ROf_cv (n : Int) (pv : Value) (ls : List (List UInt8)) (D : Nat → UInt8) (w : World) (hT : Tables w) (hp : Parts w pv ls) (hlen : ls.length ≤ 1000) (htot : ls.flatten.length ≤ 1000) (hD : shaL Kc Fc (ofL n ls) = D) :
    Cv 31 #[.int .i64 n, pv] w (.eq (.agg (rowA 32 (bF D)))) := by
  unfold Cv
  have HD := Lib.hid hD
  have HT := Lib.hid hT
  have Hp := Lib.hid hp
  have Hol := Lib.hid (ofL_length n ls)
  clear hT hp hD
  go_enter Tryd.func31, Tryd.ntmps31
  go_upto_region 1 with fail
  have r0 := rowIs_box w 31 32 (bF fun _ => 0)
  have hB0 := NewT.alloc w (.cells (rowA 32 (bF fun _ => 0)) 31)
  change Code.wp _ _ _ _ (w.alloc (.cells (rowA 32 (bF fun _ => 0)) 31))
  generalize w.alloc (.cells (rowA 32 (bF fun _ => 0)) 31) = W0 at r0 hB0 ⊢
  replace HT := Lib.hid (hB0.tables HT.out)
  replace Hp := Lib.hid (hB0.partsL Hp.out)
  refine wp_region_seq NewT [SV.eq (.int .i64 n), svParts ls, svRd (ofL n ls), SV.eq (.agg (rowA 32 (bF D)))] [([(0, none)], none), ([(1, none)], none), ([(5, some 0), (6, some 1)], none), ([(7, some 2)], none)] 9 rfl rfl (by kernel_rfl) rfl NewT.trans (NewT.refl _) (Nat.le_of_ble_eq_true rfl) ⟨?_, ?_, ?_, ?_, trivial⟩ ?_
  · -- 0: Op.move t0
    intro a wx hT hF K hK
    obtain ⟨f0, _⟩ := hF
    have f0 : a.tmps.getD 0 undef = .int .i64 n := f0
    refine rely_wp rfl ?_
    exact opr_move (.inl rfl) (hK _ _ (NewT.refl _) f0)
  · -- 1: Op.move t1
    intro a wx hT hF K hK
    obtain ⟨f1, _⟩ := hF
    have f1 : a.tmps.getD 1 undef = pv := f1
    refine rely_wp rfl ?_
    exact opr_move (.inl rfl) (hK _ _ (NewT.refl _) (by rw [eval_tmp, f1]; exact hT.partsL Hp.out))
  · -- 2: Op.call ( value (Operand.func 34), args := #[t5, t6], argTyp
    intro a wx hT hF K hK
    obtain ⟨f5, f6, _⟩ := hF
    have f5 : a.tmps.getD 5 undef = .int .i64 n := f5
    replace f6 := show (svParts ls).pred (a.tmps.getD 6 undef) wx from f6
    refine rely_wp rfl ?_
    exact opr_cv (RText_cv n _ ls wx f6 hlen htot) rfl Tryd.func34 (by kernel_rfl) (by kernel_rfl) (by simp only [List.map_toArray, List.map_cons, List.map_nil, eval_tmp, f5]) hK
  · -- 3: Op.call ( value (Operand.func 22), args := #[t7], argTypes :
    intro a wx hT hF K hK
    obtain ⟨f7, _⟩ := hF
    replace f7 := show (svRd (ofL n ls)).pred (a.tmps.getD 7 undef) wx from f7
    refine rely_wp rfl ?_
    exact opr_cv (RSumB_cv _ (ofL n ls) D wx (hT.tables HT.out) f7 (by have := Hol.out; omega) HD.out) rfl Tryd.func22 (by kernel_rfl) (by kernel_rfl) (by simp only [List.map_toArray, List.map_cons, List.map_nil, eval_tmp]) hK
  · intro wx hT
    intro u h; obtain rfl := h (by simp); clear h
    intro u6 h; have g6 := h (by simp); clear h; replace g6 := show (svParts ls).pred u6 wx from g6
    intro u7 h; have g7 := h (by simp); clear h; replace g7 := show (svRd (ofL n ls)).pred u7 wx from g7
    intro u h; obtain rfl := h (by simp); clear h
    refine relyEnd_nil rfl ?_
    simp only [Act.put, List.setIfInBounds_toArray, List.set_cons_zero, List.set_cons_succ]
    refine opr_store_new (B := w.heap.size) (W := w) info31 rfl rfl rfl (hT.row r0) (NewT.trans _ _ _ hB0 hT) (Nat.le_refl _) ?_
    intro w9 hB9 r9
    go_simp
    go_wp2
    exact bodyPost_ret (results_row rfl _ rfl r9 Tryd.underlying31 info31) rfl ⟨_, rfl, hB9, rfl⟩
theorem words_next (is : List Int) (k : Nat) (hk : k < is.length) : wordsL (is.take (k + 1)) = wordsL (is.take k) ++ hiL (wN (is.getD k 0)) 8 := by
  have e : is.take (k + 1) = is.take k ++ [is[k]] := by rw [List.take_add_one, List.getElem?_eq_getElem hk]; rfl
  have e2 : is.getD k 0 = is[k] := by simp [List.getD, hk]
  rw [e, e2]
  unfold wordsL
  rw [List.map_append, List.flatten_append, List.map_cons, List.map_nil, List.flatten_cons, List.flatten_nil, List.append_nil]
set_option maxHeartbeats 1000000 in
theorem RKey_cv (d : Nat → UInt8) (iv : Value) (is : List Int) (D : Nat → UInt8) (w : World) (hT : Tables w) (hp : RdI w iv is) (hlen : is.length ≤ 1000) (hD : tagL (digL d) (wordsL is) = D) :
    Cv 33 #[.agg (rowA 32 (bF d)), iv] w (.eq (.agg (rowA 32 (bF D)))) := by
  unfold Cv
  have HD := Lib.hid hD
  have HT := Lib.hid hT
  obtain ⟨A0, cap, rfl, hpc, hpm, hA⟩ := hp
  unfold maxLen at hpm
  obtain ⟨m, hm⟩ : ∃ m, m = is.length := ⟨_, rfl⟩
  rw [← hm] at hpc hlen ⊢
  have HA := Lib.hid (show 0 < m → ∃ b o, A0 = some ⟨b, o, none⟩ ∧ ∀ i, i < m → w.cell? ⟨b, o + i, none⟩ = some (.int .i64 (is.getD i 0)) from fun h => by
    obtain ⟨b, o, h1, h2⟩ := hA (by omega)
    exact ⟨b, o, h1, fun i hi => h2 i (by omega)⟩)
  have Hm := Lib.hid hm
  clear hT hA hD hm
  go_enter Tryd.func33, Tryd.ntmps33
  go_upto_region 1 with fail
  have rk := (rowIs_box w 31 32 (bF d)).alloc (.cells (rowA 32 (bF fun _ => 0)) 31)
  have r0 := rowIs_box (w.alloc (.cells (rowA 32 (bF d)) 31)) 31 32 (bF fun _ => 0)
  rw [World.size_alloc] at r0
  have hB0 := NewT.trans _ _ _ (NewT.alloc w (.cells (rowA 32 (bF d)) 31)) (NewT.alloc (w.alloc (.cells (rowA 32 (bF d)) 31)) (.cells (rowA 32 (bF fun _ => 0)) 31))
  change Code.wp _ _ _ _ ((w.alloc (.cells (rowA 32 (bF d)) 31)).alloc (.cells (rowA 32 (bF fun _ => 0)) 31))
  generalize ((w.alloc (.cells (rowA 32 (bF d)) 31)).alloc (.cells (rowA 32 (bF fun _ => 0)) 31)) = W0 at rk r0 hB0 ⊢
  replace HT := Lib.hid (hB0.tables HT.out)
  go_wp2
  go_loopw [5, 6] (fun v i wr => ∃ j : Nat, j ≤ m ∧ i = .int .i64 j ∧ (svOwn W0 (wordsL (is.take j))).pred v wr ∧ Below W0.heap.size W0 wr) (fun _ i _ => m - (intOf i).toNat)
  case atStart => exact ⟨0, by omega, rfl, World.ownsRow_nil _ _ _ _, Below.refl _ _⟩
  case round =>
    obtain ⟨j, hj, rfl, hown, qB⟩ := hrel
    by_cases hlt : j < m
    · obtain ⟨b, o, rfl, hcells⟩ := HA.out (by omega)
      have hb0 := World.block_lt_of_cell? _ _ (hcells j hlt)
      have hcell := (qB.cell (p := ⟨b, o + j, none⟩) (Nat.lt_of_lt_of_le hb0 hB0.out.size)).trans ((hB0.out.cell (p := ⟨b, o + j, none⟩) hb0).trans (hcells j hlt))
      have Hnx := Lib.hid (words_next is j (by rw [← Hm.out]; exact hlt))
      have hwl := wordsL_length (is.take j)
      rw [List.length_take] at hwl
      generalize is.getD j 0 = x at hcell Hnx
      have hle : (wordsL (is.take j)).length ≤ 800000 := by omega
      clear hcells hwl
      go_upto_region 5 with fail
      refine wp_region_lit ?_
      iterate 5 (refine wpList_plain rfl (fun K hK => ?_); go_simp; refine hK _ _ ?_; clear hK K)
      refine wpList_plain rfl (fun K hK => ?_)
      refine opr_cv (RNumber_8 x wr) rfl Tryd.func35 (by kernel_rfl) (by kernel_rfl) (by simp only [List.map_toArray, List.map_cons, List.map_nil]; rfl) ?_
      intro v18 wa hNa h18
      refine hK _ _ ?_
      clear hK K
      have owna := (svOwn W0 (wordsL (is.take j))).stable _ _ _ hown hNa
      have hBa := qB.trans (hNa.out.mono qB.size)
      obtain ⟨v19, wb, hrun, ownb, _, hBb⟩ := run_append_two owna hBa.size (h18 [] (by simp)) (by rw [hiL_length]; omega) 24
      have Hown := Lib.hid ownb
      have HBB := Lib.hid (hBa.trans hBb)
      clear owna hBa h18 hown hcell hNa hBb ownb
      refine wpList_plain rfl (fun K hK => ?_)
      refine opr_append rfl rfl rfl hrun (hK _ _ ?_)
      clear hrun hK K
      refine wpList_plain rfl (fun K hK => ?_)
      refine opr_move (.inr rfl) (hK _ _ ?_)
      clear hK K
      refine wpList_nil ?_
      go_simp
      go_wp2
      go_roundw
      case rel => exact ⟨j + 1, by omega, by go_num, by rw [Hnx.out]; exact Hown.out, HBB.out⟩
      case measure => simp [intOf]; omega
    · obtain rfl : j = m := by omega
      have rt : RdV wr [] u5 (wordsL is) := by
        have := rdV_own (L := []) hown rfl (by simp)
        rwa [Hm.out, List.take_length] at this
      have Rt := Lib.hid rt
      have qN := NewT.of qB
      replace rk := qN.row rk
      replace r0 := qN.row r0
      replace HT := Lib.hid (qN.tables HT.out)
      have hB1 := NewT.trans _ _ _ hB0 qN
      have Hwl := Lib.hid (wordsL_length is)
      have hm2 := Hm.out
      clear rt hown qB qN HA hB0
      have hwl2 : (wordsL is).length ≤ 8000 := by rw [Hwl.out]; omega
      clear hm2
      go_upto_region 6 with fail
      refine wp_region_seq NewT [svRd (digL d), svRd (wordsL is), SV.eq (.agg (rowA 32 (bF D)))] [([(2, none)], none), ([(5, none)], none), ([(20, some 0), (21, some 1)], none)] 23 rfl rfl (by kernel_rfl) rfl NewT.trans (NewT.refl _) (Nat.le_of_ble_eq_true rfl) ⟨?_, ?_, ?_, trivial⟩ ?_
      · -- 0: Op.slice 31 t2 none none none
        intro a wx hT hF K hK
        obtain ⟨f2, _⟩ := hF
        have f2 : a.tmps.getD 2 undef = .pointer (some ⟨w.heap.size, 0, none⟩) := f2
        refine rely_wp rfl ?_
        exact opr_slice_hash rfl f2 (hK _ _ (NewT.refl _) (rd_row (hT.row rk) (by simp) (by omega)))
      · -- 1: Op.move t5
        intro a wx hT hF K hK
        obtain ⟨f5, _⟩ := hF
        have f5 : a.tmps.getD 5 undef = u5 := f5
        refine rely_wp rfl ?_
        exact opr_move (.inl rfl) (hK _ _ (NewT.refl _) (by rw [eval_tmp, f5]; exact hT.rd Rt.out))
      · -- 2: Op.call ( value (Operand.func 28), args := #[t20, t21], argT
        intro a wx hT hF K hK
        obtain ⟨f20, f21, _⟩ := hF
        replace f20 := show (svRd (digL d)).pred (a.tmps.getD 20 undef) wx from f20
        replace f21 := show (svRd (wordsL is)).pred (a.tmps.getD 21 undef) wx from f21
        refine rely_wp rfl ?_
        exact opr_cv (RTag_cv _ _ (digL d) (wordsL is) D wx (hT.tables HT.out) f20 f21 (by rw [digL_length]; omega) (by omega) HD.out) rfl Tryd.func28 (by kernel_rfl) (by kernel_rfl) (by simp only [List.map_toArray, List.map_cons, List.map_nil, eval_tmp]) hK
      · intro wx hT
        intro u20 h; have g20 := h (by simp); clear h; replace g20 := show (svRd (digL d)).pred u20 wx from g20
        intro u21 h; have g21 := h (by simp); clear h; replace g21 := show (svRd (wordsL is)).pred u21 wx from g21
        intro u h; obtain rfl := h (by simp); clear h
        refine relyEnd_nil rfl ?_
        simp only [Act.put, List.setIfInBounds_toArray, List.set_cons_zero, List.set_cons_succ]
        refine opr_store_new (B := w.heap.size) (W := w) info31 rfl rfl rfl (hT.row r0) (NewT.trans _ _ _ hB1 hT) (Nat.le_succ _) ?_
        intro w9 hB9 r9
        go_simp
        go_wp2
        exact bodyPost_ret (results_row rfl _ rfl r9 Tryd.underlying31 info31) rfl ⟨_, rfl, hB9, rfl⟩
theorem ints_form {w : World} {v : Value} {is : List Int} (h : RdI w v is) : ∃ A c, v = .slice A is.length c := by
  obtain ⟨A, c, hv, _⟩ := h
  exact ⟨A, c, hv⟩
set_option maxHeartbeats 1000000 in
theorem MacOf_walk (n : Int) (pv iv : Value) (ls : List (List UInt8)) (d : Nat → UInt8) (is : List Int) (w : World) (hT : Tables w) (hp : Parts w pv ls) (hb : ∀ l ∈ ls, l.length ≤ 140737488351232) (hi : RdI w iv is) :
    Calls Tryd.prog 10 #[.int .i64 n, pv, .agg (rowA 32 (bF d)), iv] w fun e w' => e = .returned (.bool true) ∧ Below w.heap.size w w' := by
  have HT := Lib.hid hT
  have Hp := Lib.hid hp
  have Hb := Lib.hid hb
  have Hi := Lib.hid hi
  obtain ⟨Ai, ci, rfl⟩ := ints_form hi
  generalize hni : is.length = ni
  rw [hni] at Hi
  clear hT hp hb hi
  go_enter Tryd.func10, Tryd.ntmps10
  go_upto_region 1 with fail
  have r6 := rowIs_box w 31 32 (bF d)
  have hB := NewT.alloc w (.cells (rowA 32 (bF d)) 31)
  change Code.wp _ _ _ _ (w.alloc (.cells (rowA 32 (bF d)) 31))
  generalize (w.alloc (.cells (rowA 32 (bF d)) 31)) = W0 at r6 hB ⊢
  go_wp2_with fail
  refine (alive2_any W0 (hB.tables HT.out)).mono ?_
  rintro e w1 ⟨rfl, hB1⟩
  replace hB1 := NewT.of hB1
  replace r6 := hB1.row r6
  replace hB := NewT.trans _ _ _ hB hB1
  replace HT := Lib.hid (hB.tables HT.out)
  replace Hp := Lib.hid (hB.partsL Hp.out)
  replace Hi := Lib.hid (hB.ints Hi.out)
  clear hB1
  go_wp2_with fail
  refine (great_any _ _ w1 Hp.out Hb.out).mono ?_
  rintro e w2 ⟨b, rfl, hgs, rfl⟩
  cases b with
  | true =>
    go_wp2
    go_ret
    exact ⟨rfl, hB.out⟩
  | false =>
    have hg := hgs rfl
    clear hgs Hb
    have hbd := gsum_bounds ls
    by_cases g2 : 50 < ni
    · go_wp2
      go_ret
      exact ⟨rfl, hB.out⟩
    obtain ⟨D, HD⟩ := hid_ex (shaL Kc Fc (ofL n ls))
    obtain ⟨E, HE⟩ := hid_ex (tagL (digL d) (wordsL is))
    go_upto_region 5 with fail
    refine wp_region_rely NewT [SV.eq (.int .i64 n), svParts ls, SV.eq (.agg (rowA 32 (bF D))), SV.eq (.int .i64 n), svParts ls, SV.eq (.agg (rowA 32 (bF D))), SV.eq (.bool true), SV.eq (.bool true), SV.eq (.agg (rowA 32 (bF d))), svInts is, SV.eq (.agg (rowA 32 (bF E))), SV.eq (.agg (rowA 32 (bF d))), svInts is, SV.eq (.agg (rowA 32 (bF E))), SV.eq (.bool true), SV.eq (.bool true)] [([(0, none)], none), ([(1, none)], none), ([(18, some 0), (19, some 1)], none), ([(0, none)], none), ([(1, none)], none), ([(21, some 3), (22, some 4)], none), ([(20, some 2), (23, some 5)], none), ([(24, some 6)], none), ([(6, none), (25, some 7)], some (25, true)), ([(3, none), (25, some 7)], some (25, true)), ([(26, some 8), (27, some 9), (25, some 7)], some (25, true)), ([(6, none), (25, some 7)], some (25, true)), ([(3, none), (25, some 7)], some (25, true)), ([(29, some 11), (30, some 12), (25, some 7)], some (25, true)), ([(28, some 10), (31, some 13), (25, some 7)], some (25, true)), ([(25, some 7), (32, some 14)], none)] 34 rfl (by kernel_rfl) rfl (by kernel_rfl) (by kernel_rfl) rfl NewT.trans (NewT.drew _) (Nat.le_of_ble_eq_true rfl) ⟨?_, ?_, ?_, ?_, ?_, ?_, ?_, ?_, ?_, ?_, ?_, ?_, ?_, ?_, ?_, ?_, trivial⟩ ?_
    · -- 0: Op.move t0
      intro a wx hT hF K hK
      obtain ⟨f0, _⟩ := hF
      have f0 : a.tmps.getD 0 undef = .int .i64 n := f0
      refine rely_wp rfl ?_
      exact opr_move (.inl rfl) (hK _ _ (NewT.refl _) f0)
    · -- 1: Op.move t1
      intro a wx hT hF K hK
      obtain ⟨f1, _⟩ := hF
      have f1 : a.tmps.getD 1 undef = pv := f1
      refine rely_wp rfl ?_
      exact opr_move (.inl rfl) (hK _ _ (NewT.refl _) (by rw [eval_tmp, f1]; exact hT.partsL Hp.out))
    · -- 2: Op.call ( value (Operand.func 30), args := #[t18, t19], argT
      intro a wx hT hF K hK
      obtain ⟨f18, f19, _⟩ := hF
      have f18 : a.tmps.getD 18 undef = .int .i64 n := f18
      replace f19 := show (svParts ls).pred (a.tmps.getD 19 undef) wx from f19
      refine rely_wp rfl ?_
      exact opr_cv (Of_cv n _ ls D wx (hT.tables HT.out) f19 (by omega) (by omega) HD.out) rfl Tryd.func30 (by kernel_rfl) (by kernel_rfl) (by simp only [List.map_toArray, List.map_cons, List.map_nil, eval_tmp, f18]) hK
    · -- 3: Op.move t0
      intro a wx hT hF K hK
      obtain ⟨f0, _⟩ := hF
      have f0 : a.tmps.getD 0 undef = .int .i64 n := f0
      refine rely_wp rfl ?_
      exact opr_move (.inl rfl) (hK _ _ (NewT.refl _) f0)
    · -- 4: Op.move t1
      intro a wx hT hF K hK
      obtain ⟨f1, _⟩ := hF
      have f1 : a.tmps.getD 1 undef = pv := f1
      refine rely_wp rfl ?_
      exact opr_move (.inl rfl) (hK _ _ (NewT.refl _) (by rw [eval_tmp, f1]; exact hT.partsL Hp.out))
    · -- 5: Op.call ( value (Operand.func 31), args := #[t21, t22], argT
      intro a wx hT hF K hK
      obtain ⟨f21, f22, _⟩ := hF
      have f21 : a.tmps.getD 21 undef = .int .i64 n := f21
      replace f22 := show (svParts ls).pred (a.tmps.getD 22 undef) wx from f22
      refine rely_wp rfl ?_
      exact opr_cv (ROf_cv n _ ls D wx (hT.tables HT.out) f22 (by omega) (by omega) HD.out) rfl Tryd.func31 (by kernel_rfl) (by kernel_rfl) (by simp only [List.map_toArray, List.map_cons, List.map_nil, eval_tmp, f21]) hK
    · -- 6: Op.binOp BinOp.eql 31 t20 t23 31
      intro a wx hT hF K hK
      obtain ⟨f20, f23, _⟩ := hF
      have f20 : a.tmps.getD 20 undef = .agg (rowA 32 (bF D)) := f20
      have f23 : a.tmps.getD 23 undef = .agg (rowA 32 (bF D)) := f23
      refine rely_wp rfl ?_
      exact opr_eql_hash rfl f20 f23 (eqH_same D) (hK _ _ (NewT.refl _) rfl)
    · -- 7: Op.move t24
      intro a wx hT hF K hK
      obtain ⟨f24, _⟩ := hF
      have f24 : a.tmps.getD 24 undef = .bool true := f24
      refine rely_wp rfl ?_
      exact opr_move (.inl rfl) (hK _ _ (NewT.refl _) f24)
    · -- 8: Op.load 31 t6
      intro a wx hT hF K hK
      obtain ⟨f6, f25, _⟩ := hF
      have f6 : a.tmps.getD 6 undef = .pointer (some ⟨w.heap.size, 0, none⟩) := f6
      have f25 : a.tmps.getD 25 undef = .bool true := f25
      refine rely_wp (rely_guard f25) ?_
      exact opr_load_hash rfl f6 (hT.row r6) (hK _ _ (NewT.refl _) rfl)
    · -- 9: Op.move t3
      intro a wx hT hF K hK
      obtain ⟨f3, f25, _⟩ := hF
      have f3 : a.tmps.getD 3 undef = .slice Ai ni ci := f3
      have f25 : a.tmps.getD 25 undef = .bool true := f25
      refine rely_wp (rely_guard f25) ?_
      exact opr_move (.inl rfl) (hK _ _ (NewT.refl _) (by rw [eval_tmp, f3]; exact hT.ints Hi.out))
    · -- 10: Op.call ( value (Operand.func 32), args := #[t26, t27], argT
      intro a wx hT hF K hK
      obtain ⟨f26, f27, f25, _⟩ := hF
      have f26 : a.tmps.getD 26 undef = .agg (rowA 32 (bF d)) := f26
      replace f27 := show (svInts is).pred (a.tmps.getD 27 undef) wx from f27
      have f25 : a.tmps.getD 25 undef = .bool true := f25
      refine rely_wp (rely_guard f25) ?_
      exact opr_cv (Key_cv d _ is E wx (hT.tables HT.out) f27 (by omega) HE.out) rfl Tryd.func32 (by kernel_rfl) (by kernel_rfl) (by simp only [List.map_toArray, List.map_cons, List.map_nil, eval_tmp, f26]) hK
    · -- 11: Op.load 31 t6
      intro a wx hT hF K hK
      obtain ⟨f6, f25, _⟩ := hF
      have f6 : a.tmps.getD 6 undef = .pointer (some ⟨w.heap.size, 0, none⟩) := f6
      have f25 : a.tmps.getD 25 undef = .bool true := f25
      refine rely_wp (rely_guard f25) ?_
      exact opr_load_hash rfl f6 (hT.row r6) (hK _ _ (NewT.refl _) rfl)
    · -- 12: Op.move t3
      intro a wx hT hF K hK
      obtain ⟨f3, f25, _⟩ := hF
      have f3 : a.tmps.getD 3 undef = .slice Ai ni ci := f3
      have f25 : a.tmps.getD 25 undef = .bool true := f25
      refine rely_wp (rely_guard f25) ?_
      exact opr_move (.inl rfl) (hK _ _ (NewT.refl _) (by rw [eval_tmp, f3]; exact hT.ints Hi.out))
    · -- 13: Op.call ( value (Operand.func 33), args := #[t29, t30], argT
      intro a wx hT hF K hK
      obtain ⟨f29, f30, f25, _⟩ := hF
      have f29 : a.tmps.getD 29 undef = .agg (rowA 32 (bF d)) := f29
      replace f30 := show (svInts is).pred (a.tmps.getD 30 undef) wx from f30
      have f25 : a.tmps.getD 25 undef = .bool true := f25
      refine rely_wp (rely_guard f25) ?_
      exact opr_cv (RKey_cv d _ is E wx (hT.tables HT.out) f30 (by omega) HE.out) rfl Tryd.func33 (by kernel_rfl) (by kernel_rfl) (by simp only [List.map_toArray, List.map_cons, List.map_nil, eval_tmp, f29]) hK
    · -- 14: Op.binOp BinOp.eql 31 t28 t31 31
      intro a wx hT hF K hK
      obtain ⟨f28, f31, f25, _⟩ := hF
      have f28 : a.tmps.getD 28 undef = .agg (rowA 32 (bF E)) := f28
      have f31 : a.tmps.getD 31 undef = .agg (rowA 32 (bF E)) := f31
      have f25 : a.tmps.getD 25 undef = .bool true := f25
      refine rely_wp (rely_guard f25) ?_
      exact opr_eql_hash rfl f28 f31 (eqH_same E) (hK _ _ (NewT.refl _) rfl)
    · -- 15: Op.pick t25 t32 (const (Value.bool false))
      intro a wx hT hF K hK
      obtain ⟨f25, f32, _⟩ := hF
      have f25 : a.tmps.getD 25 undef = .bool true := f25
      have f32 : a.tmps.getD 32 undef = .bool true := f32
      refine rely_wp rfl ?_
      exact opr_pick_true rfl f25 (hK _ _ (NewT.refl _) f32)
    · intro wx hT
      intro u h; obtain rfl := h (by simp); clear h
      intro u19 h; have g19 := h (by simp); clear h; replace g19 := show (svParts ls).pred u19 wx from g19
      intro u h; obtain rfl := h (by simp); clear h
      intro u h; obtain rfl := h (by simp); clear h
      intro u22 h; have g22 := h (by simp); clear h; replace g22 := show (svParts ls).pred u22 wx from g22
      intro u h; obtain rfl := h (by simp); clear h
      intro u h; obtain rfl := h (by simp); clear h
      intro u h; obtain rfl := h (by simp); clear h
      intro u h; obtain rfl := h (by simp); clear h
      intro u27 h; have g27 := h (by simp); clear h; replace g27 := show (svInts is).pred u27 wx from g27
      intro u h; obtain rfl := h (by simp); clear h
      intro u h; obtain rfl := h (by simp); clear h
      intro u30 h; have g30 := h (by simp); clear h; replace g30 := show (svInts is).pred u30 wx from g30
      intro u h; obtain rfl := h (by simp); clear h
      intro u h; obtain rfl := h (by simp); clear h
      intro u h; obtain rfl := h (by simp); clear h
      refine relyEnd_nil rfl ?_
      simp only [Act.put, List.setIfInBounds_toArray, List.set_cons_zero, List.set_cons_succ]
      refine opr_move (.inr rfl) ?_
      go_simp
      go_wp2
      go_ret
      exact ⟨rfl, (NewT.trans _ _ _ hB hT).out⟩
end Go.Proofs.YtpoebajpmkcjdaaDoor
