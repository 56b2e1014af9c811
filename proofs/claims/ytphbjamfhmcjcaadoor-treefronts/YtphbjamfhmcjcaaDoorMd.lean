/- The law TreeFronts, walked: a frontier's root is the list's, behind each leaf, and its whole trees are as many as the ones in how many leaves there are. -/
import Derived.Test.YtphbjamfhmcjcaaDoorMc
set_option linter.all false
namespace Go.Proofs.YtphbjamfhmcjcaaDoor
open Go Go.RowKit
set_option maxRecDepth 8000
set_option linter.all false
theorem tmod2 (q : Nat) : Int.tmod (q : Int) 2 = ((q % 2 : Nat) : Int) := by rw [Int.tmod_eq_emod_of_nonneg (by omega)]; omega
theorem tdiv2 (q : Nat) : Int.tdiv (q : Int) 2 = ((q / 2 : Nat) : Int) := by rw [Int.tdiv_eq_ediv_of_nonneg (by omega)]; omega
set_option maxHeartbeats 4000000 in
theorem TreeFronts_walk (v : Value) (l : List Hs) (w : World) (hT : Tables w) (hl : RdH w v l) : Calls Tryd.prog 5 #[v] w fun e w' => e = .returned (.bool true) ∧ Below w.heap.size w w' := by
  by_cases h70 : 70 < l.length
  · have t1 : decide ((70 : Int) < (l.length : Int)) = true := by simp; omega
    obtain ⟨node, z, hX⟩ := tree_ex
    have HT := Lib.hid hT
    have HL := Lib.hid hl
    obtain ⟨A, c, hv⟩ := rdH_form hl
    have HV := Lib.hid hv
    subst hv
    clear hT hl
    go_enter Tryd.func5, Tryd.ntmps5
    go_upto_region 3 with (go_at_call 9; refine (alive5_any _ HT.out).mono ?_; rintro _ w1 ⟨rfl, hA1⟩)
    go_wp2
    go_ret
    exact ⟨rfl, hA1⟩
  have t1 : decide ((70 : Int) < (l.length : Int)) = false := by simp; omega
  have HLEN : Hid (l.length ≤ 70) := Lib.hid (by omega)
  obtain ⟨node, z, hX⟩ := tree_ex
  have HT := Lib.hid hT
  have HL := Lib.hid hl
  obtain ⟨A, c, hv⟩ := rdH_form hl
  have HV := Lib.hid hv
  subst hv
  clear hT hl
  go_enter Tryd.func5, Tryd.ntmps5
  go_upto_region 6 with (go_at_call 9; refine (alive5_any _ HT.out).mono ?_; rintro _ w1 ⟨rfl, hA1⟩)
  have HN := Lib.hid (NewT.of hA1)
  clear hA1 t1
  have r0 := rowIs_box w1 35 2 (frF 0 (.slice none 0 0))
  have hN0 := NewT.alloc w1 (.cells (rowA 2 (frF 0 (.slice none 0 0))) 35)
  change Code.wp _ _ _ _ (w1.alloc (.cells (rowA 2 (frF 0 (.slice none 0 0))) 35))
  have hsz0 : (w1.alloc (.cells (rowA 2 (frF 0 (.slice none 0 0))) 35)).heap.size = w1.heap.size + 1 := by simp
  generalize w1.alloc (.cells (rowA 2 (frF 0 (.slice none 0 0))) 35) = W0 at r0 hN0 hsz0 ⊢
  obtain ⟨g, hg⟩ : ∃ g, w1.heap.size = g := ⟨_, rfl⟩
  rw [hg] at r0 hsz0 ⊢
  obtain ⟨B, hB⟩ : ∃ B, W0.heap.size = B := ⟨_, rfl⟩
  have HF0 : Hid (FrAt W0 g B 0 []) := Lib.hid ⟨_, r0, ownH_nil _ _, by omega, by omega⟩
  have HN0 := Lib.hid (NewT.trans _ _ _ HN.out hN0)
  have HG1 : Hid (1 < g ∧ w.heap.size ≤ g ∧ g < B) := Lib.hid ⟨by have := HT.out.size; have := HN.out.out.size; omega, by have := HN.out.out.size; omega, by omega⟩
  clear r0 hN0 hsz0 hg hB HN
  go_wp2
  go_loopw [4] (fun i wr => ∃ m : Nat, m ≤ l.length ∧ i = .int .i64 (m : Int) ∧ NewT w wr ∧ FrAt wr g B (m : Int) (treesM node z (l.take m))) (fun i _ => l.length - (intOf i).toNat)
  case atStart => exact ⟨0, by omega, rfl, HN0.out, by rw [List.take_zero, treesM_nil]; exact HF0.out⟩
  case round =>
    clear HF0 HN0
    obtain ⟨m, hm, rfl, hN, hF⟩ := hrel
    have HF := Lib.hid hF
    have HNr := Lib.hid hN
    have HLr := Lib.hid (hN.hs HL.out)
    have HTr := Lib.hid (hN.tables HT.out)
    clear hF hN
    by_cases hlt : m < l.length
    · have it : (m : Int) < (l.length : Int) := by omega
      have HON : Hid ((treesM node z (l.take m)).length = onesN m) := Lib.hid (by rw [treesM_ones, List.length_take]; congr 1; omega)
      have HM : Hid (m ≤ 100000) := Lib.hid (by omega)
      obtain ⟨d, hd⟩ : ∃ d, l[m]? = some d := ⟨_, List.getElem?_eq_getElem (by omega)⟩
      have HD := Lib.hid hd
      clear hd
      have HLT := Lib.hid hlt
      go_upto_region 9 with fail
      obtain ⟨v, ev⟩ : ∃ v, Value.slice A l.length c = v := ⟨_, rfl⟩
      rw [ev] at HLr HL ⊢
      refine wp_region_steps0 NewT [SV.eq (v), SV.eq (.int .i64 ((m : Int))), svP (d), SV.eq (.agg (rowA 32 (bF (d))))] [([(0, none)], none), ([(4, none)], none), ([(18, some 0), (19, some 1)], none), ([(20, some 2)], none)] 46 4 rfl rfl (by kernel_rfl) NewT.trans (NewT.refl _) (Nat.le_of_ble_eq_true rfl) ⟨?_, ?_, ?_, ?_, trivial⟩ ?_
      · intro a wx hT hF K hK
        obtain ⟨f0, _⟩ := hF
        have f0 : a.tmps.getD 0 undef = v := f0
        refine rely_wp rfl ?_
        exact opr_move (.inl rfl) (hK _ _ (NewT.refl _) f0)
      · intro a wx hT hF K hK
        obtain ⟨f4, _⟩ := hF
        have f4 : a.tmps.getD 4 undef = .int .i64 ((m : Int)) := f4
        refine rely_wp rfl ?_
        exact opr_move (.inl rfl) (hK _ _ (NewT.refl _) f4)
      · intro a wx hT hF K hK
        obtain ⟨f18, f19, _⟩ := hF
        have f18 : a.tmps.getD 18 undef = v := f18
        have f19 : a.tmps.getD 19 undef = .int .i64 ((m : Int)) := f19
        refine rely_wp rfl ?_
        exact opr_idxH (i := m) (d := d) (HD.out) (rfl) rfl (by rw [eval_tmp, f18]; exact (hT.hs HLr.out)) f19 (fun v hv => hK v _ (NewT.refl _) hv)
      · intro a wx hT hF K hK
        obtain ⟨f20, _⟩ := hF
        replace f20 := show (svP (d)).pred (a.tmps.getD 20 undef) wx from f20
        refine rely_wp rfl ?_
        exact opr_ldP rfl f20 (hK _ _ (NewT.refl _) rfl)
      · intro wa ka
        intro u h; obtain rfl := Eq.symm (h (by simp)); clear h
        intro u h; obtain rfl := Eq.symm (h (by simp)); clear h
        intro _ _
        intro u h; obtain rfl := Eq.symm (h (by simp)); clear h
        refine relyEnd_nil rfl ?_
        simp only [Act.put, List.setIfInBounds_toArray, List.set_cons_zero, List.set_cons_succ]
        refine wpList_plain rfl (fun K hK => ?_)
        refine opr_call rfl Tryd.func17 (by kernel_rfl) (by kernel_rfl) (by simp only [List.map_toArray, List.map_cons, List.map_nil, eval_tmp]; rfl) ((Add_c hX g B m (treesM node z (l.take m)) d wa (ka.tables HTr.out) (ka.front HF.out) HG1.out.1 (HON.out) (HM.out)).mono ?_)
        rintro _ wb ⟨rfl, ft, fa⟩
        refine ⟨_, rfl, hK _ _ ?_⟩
        refine wpList_end rfl ?_
        simp only [Act.put, List.setIfInBounds_toArray, List.set_cons_zero, List.set_cons_succ]
        go_simp
        have HFb : Hid (FrAt wb g B ((m + 1 : Nat) : Int) (treesM node z (l.take (m + 1)))) := Lib.hid (fr_next HD.out fa)
        have HNb := Lib.hid (ft_new HNr.out ka ft HG1.out.2.1 HF.out.lt)
        clear ft fa ka
        have HLb := Lib.hid (HNb.out.hs HL.out)
        have HTb := Lib.hid (HNb.out.tables HT.out)
        have HZ := Lib.hid (fr_zero (node := node) (z := z) l (m + 1) (by omega))
        have HZL := Lib.hid (fr_len (node := node) (z := z) l (m + 1) (by omega) (by omega))
        have HON2 : Hid ((treesM node z (List.take (m + 1) l)).length = onesN (m + 1)) := Lib.hid (by rw [treesM_ones, List.length_take]; congr 1; omega)
        clear HF HNr HLr HTr HON HM HD
        go_wp2
        go_loopw [5, 6] (fun o k wx => ∃ j q : Nat, o = .int .i64 (j : Int) ∧ k = .int .i64 (q : Int) ∧ q ≤ 71 ∧ j ≤ 71 ∧ Hid (j + onesN q = onesN (m + 1)) ∧ wb = wx) (fun _ k _ => (intOf k).toNat)
        case atStart => exact ⟨0, m + 1, rfl, by go_num, by have := HLEN.out; omega, by omega, Lib.hid (by omega), rfl⟩
        case round =>
          obtain ⟨j, q, rfl, rfl, hq, hj, HJ0, rfl⟩ := hrel
          have m2 := tmod2 q
          have d2 := tdiv2 q
          by_cases hq0 : 0 < q
          · have tq : (0 : Int) < (q : Int) := by omega
            have hst := onesN_step q
            have hq2 : onesN q ≤ q := onesN_le q
            have hq3 : onesN (q / 2) ≤ q / 2 := onesN_le (q / 2)
            have hall := HJ0.out
            have hm1 := onesN_le (m + 1)
            have hjj : j + q % 2 ≤ 71 := by have := HLT.out; have := HLEN.out; omega
            go_wp2
            go_roundw
            case rel => exact ⟨j + q % 2, q / 2, by go_num, rfl, by omega, hjj, Lib.hid (by omega), by first | rfl | trivial⟩
            case measure => simp [intOf]; omega
          · obtain rfl : q = 0 := by omega
            have HJ : Hid (((treesM node z (List.take (m + 1) l)).length : Int) = (j : Int)) := Lib.hid (by have := HJ0.out; rw [onesN_zero] at this; rw [HON2.out]; omega)
            clear HJ0 m2 d2
            go_upto_region 15 with fail
            refine wp_region_rely (NewT) [SV.eq (.agg (rowA 32 (bF (rootF node z (treesM node z (List.take (m + 1) l)))))), SV.eq (v), SV.eq (.int .i64 ((m : Int))), SV.eq (.int .i64 (((m : Int) + 1))), svH (List.take (m + 1) l), SV.eq (.agg (rowA 32 (bF (rootM node z (List.take (m + 1) l))))), SV.eq (.bool false), SV.eq (.bool false), svH (treesM node z (List.take (m + 1) l)), SV.eq (.int .i64 ((List.length (treesM node z (List.take (m + 1) l)) : Int))), SV.eq (.int .i64 ((j : Int))), SV.eq (.bool false)] [([(3, none)], none), ([(0, none)], none), ([(4, none)], none), ([(35, some 2)], none), ([(34, some 1), (36, some 3)], none), ([(37, some 4)], none), ([(33, some 0), (38, some 5)], none), ([(39, some 6)], none), ([(3, none), (40, some 7)], some (40, false)), ([(41, some 8), (40, some 7)], some (40, false)), ([(5, none), (40, some 7)], some (40, false)), ([(42, some 9), (43, some 10), (40, some 7)], some (40, false))] 46 rfl (by kernel_rfl) rfl (by kernel_rfl) (by kernel_rfl) rfl NewT.trans (NewT.drew _) (Nat.le_of_ble_eq_true rfl) ⟨?_, ?_, ?_, ?_, ?_, ?_, ?_, ?_, ?_, ?_, ?_, ?_, trivial⟩ ?_
            · intro a wx hT hF K hK
              obtain ⟨f3, _⟩ := hF
              have f3 : a.tmps.getD 3 undef = .pointer (some ⟨g, 0, none⟩) := f3
              refine rely_wp rfl ?_
              exact opr_cv (FRoot_cv hX g B ((((m + 1 : Nat)) : Int)) (treesM node z (List.take (m + 1) l)) wx (hT.tables HTb.out) (hT.front HFb.out) (HZ.out) (HZL.out)) rfl Tryd.func19 (by kernel_rfl) (by kernel_rfl) (by simp only [List.map_toArray, List.map_cons, List.map_nil, eval_tmp, f3]) hK
            · intro a wx hT hF K hK
              obtain ⟨f0, _⟩ := hF
              have f0 : a.tmps.getD 0 undef = v := f0
              refine rely_wp rfl ?_
              exact opr_move (.inl rfl) (hK _ _ (NewT.refl _) f0)
            · intro a wx hT hF K hK
              obtain ⟨f4, _⟩ := hF
              have f4 : a.tmps.getD 4 undef = .int .i64 ((m : Int)) := f4
              refine rely_wp rfl ?_
              exact opr_move (.inl rfl) (hK _ _ (NewT.refl _) f4)
            · intro a wx hT hF K hK
              obtain ⟨f35, _⟩ := hF
              have f35 : a.tmps.getD 35 undef = .int .i64 ((m : Int)) := f35
              refine rely_wp rfl ?_
              exact opr_add (r := ((m : Int) + 1)) Tryd.underlying3 (by unfold wrap64; have := HLT.out; have := HLEN.out; omega) rfl f35 rfl (hK _ _ (NewT.refl _) rfl)
            · intro a wx hT hF K hK
              obtain ⟨f34, f36, _⟩ := hF
              have f34 : a.tmps.getD 34 undef = v := f34
              have f36 : a.tmps.getD 36 undef = .int .i64 (((m : Int) + 1)) := f36
              refine rely_wp rfl ?_
              exact opr_toH (k := (m + 1)) (by have := HLT.out; omega) (by omega) rfl (by rw [eval_tmp, f34]; exact (hT.hs HLb.out)) f36 (fun v hv => hK v _ (NewT.refl _) hv)
            · intro a wx hT hF K hK
              obtain ⟨f37, _⟩ := hF
              replace f37 := show (svH (List.take (m + 1) l)).pred (a.tmps.getD 37 undef) wx from f37
              refine rely_wp rfl ?_
              exact opr_cv (Root_cv hX _ _ (List.take (m + 1) l) wx (hT.tables HTb.out) (f37) (Nat.le_refl _) (by have := HLEN.out; simp; omega)) rfl Tryd.func25 (by kernel_rfl) (by kernel_rfl) (by simp only [List.map_toArray, List.map_cons, List.map_nil, eval_tmp]) hK
            · intro a wx hT hF K hK
              obtain ⟨f33, f38, _⟩ := hF
              have f33 : a.tmps.getD 33 undef = .agg (rowA 32 (bF (rootF node z (treesM node z (List.take (m + 1) l))))) := f33
              have f38 : a.tmps.getD 38 undef = .agg (rowA 32 (bF (rootM node z (List.take (m + 1) l)))) := f38
              refine rely_wp rfl ?_
              exact opr_neq_hash (b := false) rfl f33 f38 ((by rw [treesM_root, eqH_same]; rfl)) (hK _ _ (NewT.refl _) rfl)
            · intro a wx hT hF K hK
              obtain ⟨f39, _⟩ := hF
              have f39 : a.tmps.getD 39 undef = .bool false := f39
              refine rely_wp rfl ?_
              exact opr_move (.inl rfl) (hK _ _ (NewT.refl _) f39)
            · intro a wx hT hF K hK
              obtain ⟨f3, f40, _⟩ := hF
              have f3 : a.tmps.getD 3 undef = .pointer (some ⟨g, 0, none⟩) := f3
              have f40 : a.tmps.getD 40 undef = .bool false := f40
              refine rely_wp (rely_guard f40) ?_
              exact opr_cv (Trees_cv g B ((((m + 1 : Nat)) : Int)) (treesM node z (List.take (m + 1) l)) wx (hT.front HFb.out) (HZ.out) (HZL.out)) rfl Tryd.func21 (by kernel_rfl) (by kernel_rfl) (by simp only [List.map_toArray, List.map_cons, List.map_nil, eval_tmp, f3]) hK
            · intro a wx hT hF K hK
              obtain ⟨f41, f40, _⟩ := hF
              replace f41 := show (svH (treesM node z (List.take (m + 1) l))).pred (a.tmps.getD 41 undef) wx from f41
              have f40 : a.tmps.getD 40 undef = .bool false := f40
              refine rely_wp (rely_guard f40) ?_
              exact opr_len_h rfl f41 (hK _ _ (NewT.refl _) rfl)
            · intro a wx hT hF K hK
              obtain ⟨f5, f40, _⟩ := hF
              have f5 : a.tmps.getD 5 undef = .int .i64 ((j : Int)) := f5
              have f40 : a.tmps.getD 40 undef = .bool false := f40
              refine rely_wp (rely_guard f40) ?_
              exact opr_move (.inl rfl) (hK _ _ (NewT.refl _) f5)
            · intro a wx hT hF K hK
              obtain ⟨f42, f43, f40, _⟩ := hF
              have f42 : a.tmps.getD 42 undef = .int .i64 ((List.length (treesM node z (List.take (m + 1) l)) : Int)) := f42
              have f43 : a.tmps.getD 43 undef = .int .i64 ((j : Int)) := f43
              have f40 : a.tmps.getD 40 undef = .bool false := f40
              refine rely_wp (rely_guard f40) ?_
              exact opr_cmp (b := false) (.inr (.inl ⟨rfl, (by rw [HJ.out]; exact bne_self_eq_false _)⟩)) Tryd.underlying3 rfl f42 f43 (hK _ _ (NewT.refl _) rfl)
            · intro we ke
              intro u h; obtain rfl := Eq.symm (h (by simp)); clear h
              intro u h; obtain rfl := Eq.symm (h (by simp)); clear h
              intro u h; obtain rfl := Eq.symm (h (by simp)); clear h
              intro u h; obtain rfl := Eq.symm (h (by simp)); clear h
              intro _ _
              intro u h; obtain rfl := Eq.symm (h (by simp)); clear h
              intro u h; obtain rfl := Eq.symm (h (by simp)); clear h
              intro u h; obtain rfl := Eq.symm (h (by simp)); clear h
              intro _ _
              intro u h; obtain rfl := Eq.symm (h (by simp)); clear h
              intro u h; obtain rfl := Eq.symm (h (by simp)); clear h
              intro u h; obtain rfl := Eq.symm (h (by simp)); clear h
              refine relyEnd_nil rfl ?_
              simp only [Act.put, List.setIfInBounds_toArray, List.set_cons_zero, List.set_cons_succ]
              refine opr_pick_false rfl rfl ?_
              go_simp
              go_wp2
              go_roundw
              case rel => exact ⟨m + 1, by omega, by go_num, NewT.trans _ _ _ HNb.out ke, HFb.out.new ke⟩
              case measure => simp [intOf]; omega
    · obtain rfl : m = l.length := by omega
      go_wp2
      go_ret
      exact ⟨rfl, HNr.out.out⟩
end Go.Proofs.YtphbjamfhmcjcaaDoor
