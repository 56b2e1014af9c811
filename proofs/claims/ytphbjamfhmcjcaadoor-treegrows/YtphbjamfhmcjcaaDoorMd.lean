/- The law TreeGrows, walked: one leaf more makes a frontier one greater, and its root that of the list and the leaf. -/
import Derived.Test.YtphbjamfhmcjcaaDoorMc
set_option linter.all false
namespace Go.Proofs.YtphbjamfhmcjcaaDoor
open Go Go.RowKit
set_option maxRecDepth 8000
set_option linter.all false
/-- A new slice of no hash. -/
def svZ (B : Nat) : SV NewT := ⟨fun v w => ∃ g, v = .slice (some ⟨g, 0, none⟩) 0 0 ∧ OwnH w B v [], fun _ _ _ ⟨g, h1, h2⟩ hT => ⟨g, h1, h2.new hT⟩⟩
def svOH (B : Nat) (l : List Hs) : SV NewT := ⟨fun v w => OwnH w B v l, fun _ _ _ h hT => h.new hT⟩
theorem opr_bsZ {a : Act} {w : World} {o : Oper} {K : Act → World → Prop} {Q : Exit → Act → World → Prop} {B : Nat} (ho : o.op = .buildSlice 31 0 #[]) (hB : B ≤ w.heap.size) (h : ∀ v w', NewT w w' → (svZ B).pred v w' → K (a.put o.dst v) w') : o.wp Tryd.prog a w K Q := by
  obtain ⟨dst, op, type, pos, after, guard⟩ := o
  simp only at ho
  subst ho
  exact opr_val (s := Instr.buildSlice 31 0 #[]) (by simp [execOp]) (run_bsH0 w) (h _ _ (NewT.alloc _ _) ⟨_, rfl, World.ownsRow_made w #[] 0 hB (by unfold maxLen; omega) (by simp)⟩)
/-- Hashes behind none. -/
theorem run_app0 {W : World} {B : Nat} {v u : Value} {l : List Hs} (h : (svZ B).pred v W) (hr : RdH W u l) (hn : l.length ≤ 1000000) (hB : B ≤ W.heap.size) (ty : TypeId) :
    ∃ v' w', (Builtin.append_ #[31, 31] ty #[v, u]).run Tryd.prog W = .ok v' w' ∧ OwnH w' B v' l ∧ NewT W w' := by
  obtain ⟨g, hv, ho⟩ := h
  by_cases h0 : l = []
  · subst h0
    refine ⟨v, W, ?_, ho, NewT.refl _⟩
    obtain ⟨A, c, rfl, _⟩ := hr
    obtain ⟨i0, hi, hz0, hz1, hz2⟩ := info_parts infoH
    rw [hv]
    cases A <;> simp [Builtin.append_, run_underlying Tryd.underlying31, sizeOf, typeInfo, hi, Builtin.lenOf, Builtin.firstCells, loadCells, loadCellsFrom, storeCells]
  · have hpos : 0 < l.length := List.length_pos_iff.2 h0
    obtain ⟨v', w', h1, h2, h3, h4⟩ := run_appH_two ho hr hpos (by simp; omega) hB ty
    rw [List.nil_append] at h2
    refine ⟨v', w', h1, h2, ?_⟩
    rcases h4 with h4 | ⟨g2, c2, e1, e2⟩
    · exact h4
    · exfalso
      rw [hv] at e1
      injection e1 with _ _ e3
      obtain ⟨A3, c3, e4, e5⟩ := h2.cap
      rw [e2] at e4
      injection e4 with _ _ e6
      omega
set_option maxHeartbeats 4000000 in
theorem TreeGrows_walk (v : Value) (l : List Hs) (h : Hs) (w : World) (hT : Tables w) (hl : RdH w v l) : Calls Tryd.prog 7 #[v, .agg (rowA 32 (bF h))] w fun e w' => e = .returned (.bool true) ∧ Below w.heap.size w w' := by
  by_cases h60 : 60 < l.length
  · have t1 : decide ((60 : Int) < (l.length : Int)) = true := by simp; omega
    obtain ⟨node, z, hX⟩ := tree_ex
    have HT := Lib.hid hT
    have HL := Lib.hid hl
    obtain ⟨A, c, hv⟩ := rdH_form hl
    subst hv
    have HH := Lib.hid (rowIs_box w 24 32 (bF h))
    have HNH := Lib.hid (NewT.alloc w (.cells (rowA 32 (bF h)) 24))
    have HTB := Lib.hid (HNH.out.tables HT.out)
    clear hT hl
    go_enter Tryd.func7, Tryd.ntmps7
    go_wp2_with (go_at_call 9; refine (alive5_any (w.alloc (.cells (rowA 32 (bF h)) 24)) HTB.out).mono ?_; rintro _ w1 ⟨rfl, hA1⟩)
    go_ret
    exact ⟨rfl, (NewT.trans _ _ _ HNH.out (NewT.of hA1)).out⟩
  have t1 : decide ((60 : Int) < (l.length : Int)) = false := by simp; omega
  have HLEN : Hid (l.length ≤ 60) := Lib.hid (by omega)
  obtain ⟨node, z, hX⟩ := tree_ex
  have HT := Lib.hid hT
  have HL := Lib.hid hl
  obtain ⟨A, c, hv⟩ := rdH_form hl
  subst hv
  have HH := Lib.hid (rowIs_box w 24 32 (bF h))
  have HNH := Lib.hid (NewT.alloc w (.cells (rowA 32 (bF h)) 24))
  have HTB := Lib.hid (HNH.out.tables HT.out)
  clear hT hl
  go_enter Tryd.func7, Tryd.ntmps7
  go_upto_region 6 with (go_at_call 9; refine (alive5_any (w.alloc (.cells (rowA 32 (bF h)) 24)) HTB.out).mono ?_; rintro _ w1 ⟨rfl, hA1⟩)
  have HN := Lib.hid (NewT.trans _ _ _ HNH.out (NewT.of hA1))
  have hH1 := (NewT.of hA1).row HH.out
  have hlt1 : w.heap.size < w1.heap.size := hH1.lt
  clear HH HNH HTB hA1 t1
  have r0 := rowIs_box w1 35 2 (frF 0 (.slice none 0 0))
  have hN0 := NewT.alloc w1 (.cells (rowA 2 (frF 0 (.slice none 0 0))) 35)
  change Code.wp _ _ _ _ (w1.alloc (.cells (rowA 2 (frF 0 (.slice none 0 0))) 35))
  have hsz0 : (w1.alloc (.cells (rowA 2 (frF 0 (.slice none 0 0))) 35)).heap.size = w1.heap.size + 1 := by simp
  generalize w1.alloc (.cells (rowA 2 (frF 0 (.slice none 0 0))) 35) = W0 at r0 hN0 hsz0 ⊢
  obtain ⟨g, hg⟩ : ∃ g, w1.heap.size = g := ⟨_, rfl⟩
  rw [hg] at r0 hsz0 ⊢
  obtain ⟨B, hB⟩ : ∃ B, W0.heap.size = B := ⟨_, rfl⟩
  have HF0 : Hid (FrAt W0 g B 0 []) := Lib.hid ⟨_, r0, ownH_nil _ _, by omega, by omega⟩
  have HN0 := Lib.hid (NewT.trans _ _ _ HN.out hN0)
  have HG1 : Hid (1 < g ∧ w.heap.size ≤ g ∧ g < B) := Lib.hid ⟨by have := HT.out.size; have := HN.out.out.size; omega, by have := HN.out.out.size; omega, by omega⟩
  have HHB : Hid (w.heap.size < B ∧ w.heap.size ≠ g) := Lib.hid ⟨by omega, by omega⟩
  have HH0 := Lib.hid (hN0.row hH1)
  clear hH1 hlt1 r0 hN0 hsz0 hg hB HN
  obtain ⟨hb, ehb⟩ : ∃ p, w.heap.size = p := ⟨_, rfl⟩
  rw [ehb] at HHB HH0 ⊢
  go_wp2
  go_loopw [6] (fun i wr => ∃ m : Nat, m ≤ l.length ∧ i = .int .i64 (m : Int) ∧ NewT w wr ∧ FrAt wr g B (m : Int) (treesM node z (l.take m)) ∧ wr.rowIs hb 24 32 (bF h)) (fun i _ => l.length - (intOf i).toNat)
  case atStart => exact ⟨0, by omega, rfl, HN0.out, by rw [List.take_zero, treesM_nil]; exact HF0.out, HH0.out⟩
  case round =>
    clear HF0 HN0 HH0
    obtain ⟨m, hm, rfl, hN, hF, hR⟩ := hrel
    have HF := Lib.hid hF
    have HNr := Lib.hid hN
    have HLr := Lib.hid (hN.hs HL.out)
    have HTr := Lib.hid (hN.tables HT.out)
    clear hF hN
    have RH := Lib.hid hR
    clear hR
    by_cases hlt : m < l.length
    · have it : (m : Int) < (l.length : Int) := by omega
      have h60' := HLEN.out
      have HON : Hid ((treesM node z (l.take m)).length = onesN m) := Lib.hid (by rw [treesM_ones, List.length_take]; congr 1; omega)
      have HM : Hid (m ≤ 100000) := Lib.hid (by omega)
      obtain ⟨d, hd⟩ : ∃ d, l[m]? = some d := ⟨_, List.getElem?_eq_getElem (by omega)⟩
      have HD := Lib.hid hd
      clear hd
      clear h60'
      go_upto_region 9 with fail
      obtain ⟨v, ev⟩ : ∃ v, Value.slice A l.length c = v := ⟨_, rfl⟩
      rw [ev] at HLr HL ⊢
      refine wp_region_steps0 NewT [SV.eq (v), SV.eq (.int .i64 ((m : Int))), svP (d), SV.eq (.agg (rowA 32 (bF (d))))] [([(0, none)], none), ([(6, none)], none), ([(20, some 0), (21, some 1)], none), ([(22, some 2)], none)] 50 4 rfl rfl (by kernel_rfl) NewT.trans (NewT.refl _) (Nat.le_of_ble_eq_true rfl) ⟨?_, ?_, ?_, ?_, trivial⟩ ?_
      · intro a wx hT hF K hK
        obtain ⟨f0, _⟩ := hF
        have f0 : a.tmps.getD 0 undef = v := f0
        refine rely_wp rfl ?_
        exact opr_move (.inl rfl) (hK _ _ (NewT.refl _) f0)
      · intro a wx hT hF K hK
        obtain ⟨f6, _⟩ := hF
        have f6 : a.tmps.getD 6 undef = .int .i64 ((m : Int)) := f6
        refine rely_wp rfl ?_
        exact opr_move (.inl rfl) (hK _ _ (NewT.refl _) f6)
      · intro a wx hT hF K hK
        obtain ⟨f20, f21, _⟩ := hF
        have f20 : a.tmps.getD 20 undef = v := f20
        have f21 : a.tmps.getD 21 undef = .int .i64 ((m : Int)) := f21
        refine rely_wp rfl ?_
        exact opr_idxH (i := m) (d := d) (HD.out) (rfl) rfl (by rw [eval_tmp, f20]; exact (hT.hs HLr.out)) f21 (fun v hv => hK v _ (NewT.refl _) hv)
      · intro a wx hT hF K hK
        obtain ⟨f22, _⟩ := hF
        replace f22 := show (svP (d)).pred (a.tmps.getD 22 undef) wx from f22
        refine rely_wp rfl ?_
        exact opr_ldP rfl f22 (hK _ _ (NewT.refl _) rfl)
      · intro wa ka
        intro u h; obtain rfl := Eq.symm (h (by simp)); clear h
        intro u h; obtain rfl := Eq.symm (h (by simp)); clear h
        intro _ _
        intro u h; obtain rfl := Eq.symm (h (by simp)); clear h
        refine relyEnd_nil rfl ?_
        simp only [Act.put, List.setIfInBounds_toArray, List.set_cons_zero, List.set_cons_succ]
        refine wpList_plain rfl (fun K hK => ?_)
        refine opr_call rfl Tryd.func17 (by kernel_rfl) (by kernel_rfl) (by simp only [List.map_toArray, List.map_cons, List.map_nil, eval_tmp]; rfl) ((Add_c hX g B m (treesM node z (l.take m)) d wa (ka.tables HTr.out) (ka.front HF.out) HG1.out.1 (HON.out) (HM.out)).mono ?_)
        rintro _ wb ⟨rfl, ft, fa⟩
        refine ⟨_, rfl, hK _ _ ?_⟩
        refine wpList_end rfl ?_
        simp only [Act.put, List.setIfInBounds_toArray, List.set_cons_zero, List.set_cons_succ]
        go_simp
        have HFb : Hid (FrAt wb g B ((m + 1 : Nat) : Int) (treesM node z (l.take (m + 1)))) := Lib.hid (fr_next HD.out fa)
        have HNb := Lib.hid (ft_new HNr.out ka ft HG1.out.2.1 HF.out.lt)
        have RHb := Lib.hid (ft.row HHB.out.1 HHB.out.2 (ka.row RH.out))
        clear ft fa ka
        go_wp2
        go_roundw
        case rel => exact ⟨m + 1, by omega, by go_num, HNb.out, HFb.out, RHb.out⟩
        case measure => simp [intOf]; omega
    · obtain rfl : m = l.length := by omega
      rw [List.take_length] at HF
      go_upto_region 11 with (go_at_call 18; refine (Size_cv g B (l.length : Int) (treesM node z l) _ HF.out).eq.mono ?_; rintro _ w3 ⟨rfl, n3⟩)
      replace n3 := NewT.of n3
      replace HF := Lib.hid (n3.front HF.out)
      replace HLr := Lib.hid (n3.hs HLr.out)
      replace HTr := Lib.hid (n3.tables HTr.out)
      replace HNr := Lib.hid (NewT.trans _ _ _ HNr.out n3)
      replace RH := Lib.hid (n3.row RH.out)
      clear n3
      obtain ⟨v, ev⟩ : ∃ v, Value.slice A l.length c = v := ⟨_, rfl⟩
      rw [ev] at HLr HL ⊢
      refine wp_region_steps0 NewT [SV.eq (.agg (rowA 32 (bF (h))))] [([(3, none)], none)] 50 1 rfl rfl (by kernel_rfl) NewT.trans (NewT.refl _) (Nat.le_of_ble_eq_true rfl) ⟨?_, trivial⟩ ?_
      · intro a wx hT hF K hK
        obtain ⟨f3, _⟩ := hF
        have f3 : a.tmps.getD 3 undef = .pointer (some ⟨hb, 0, none⟩) := f3
        refine rely_wp rfl ?_
        exact opr_load_hash rfl f3 (hT.row RH.out) (hK _ _ (NewT.refl _) rfl)
      · intro wa ka
        intro u h; obtain rfl := Eq.symm (h (by simp)); clear h
        refine relyEnd_nil rfl ?_
        simp only [Act.put, List.setIfInBounds_toArray, List.set_cons_zero, List.set_cons_succ]
        refine wpList_plain rfl (fun K hK => ?_)
        refine opr_call rfl Tryd.func17 (by kernel_rfl) (by kernel_rfl) (by simp only [List.map_toArray, List.map_cons, List.map_nil, eval_tmp]; rfl) ((Add_c hX g B l.length (treesM node z l) h wa (ka.tables HTr.out) (ka.front HF.out) HG1.out.1 (treesM_ones l) (by have := HLEN.out; omega)).mono ?_)
        rintro _ wb ⟨rfl, ft, fa⟩
        refine ⟨_, rfl, hK _ _ ?_⟩
        refine wpList_end rfl ?_
        simp only [Act.put, List.setIfInBounds_toArray, List.set_cons_zero, List.set_cons_succ]
        go_simp
        have HFb : Hid (FrAt wb g B ((l.length : Int) + 1) (treesM node z (l ++ [h]))) := Lib.hid (by rw [treesM_add]; exact fa)
        have HNb := Lib.hid (ft_new HNr.out ka ft HG1.out.2.1 HF.out.lt)
        have RHb := Lib.hid (ft.row HHB.out.1 HHB.out.2 (ka.row RH.out))
        clear ft fa ka
        have HLb := Lib.hid (HNb.out.hs HL.out)
        have HTb := Lib.hid (HNb.out.tables HT.out)
        have HZ : Hid ((l.length : Int) + 1 = 0 ↔ treesM node z (l ++ [h]) = []) := Lib.hid (by
          have := fr_zero (node := node) (z := z) (l ++ [h]) (l.length + 1) (by simp)
          rw [List.take_of_length_le (by simp)] at this
          exact this)
        have HZL : Hid ((treesM node z (l ++ [h])).length ≤ 100000) := Lib.hid (by
          have h2 : (l ++ [h]).length = l.length + 1 := by simp
          rw [treesM_ones]; have h1 := onesN_le (l ++ [h]).length; have h3 := HLEN.out; omega)
        clear RH HF HLr HTr HNr
        go_upto_region 12 with fail
        refine wp_region_rely_tail (NewT) [svZ wb.heap.size, svH (l), svOH wb.heap.size l, SV.eq (.agg (rowA 32 (bF (h)))), svH ([h])] [([], none), ([(0, none)], none), ([(28, some 0), (29, some 1)], none), ([(3, none)], none), ([(31, some 3)], none)] 50 5 (by kernel_rfl) rfl rfl (Nat.zero_lt_succ _) (by kernel_rfl) (by kernel_rfl) (by kernel_rfl) NewT.trans (NewT.drew _) (Nat.le_of_ble_eq_true rfl) ⟨?_, ?_, ?_, ?_, ?_, trivial⟩ ?_
        · intro a wx hT hF K hK
          refine rely_wp rfl ?_
          exact opr_bsZ (B := wb.heap.size) rfl hT.out.size hK
        · intro a wx hT hF K hK
          obtain ⟨f0, _⟩ := hF
          have f0 : a.tmps.getD 0 undef = v := f0
          refine rely_wp rfl ?_
          exact opr_move (.inl rfl) (hK _ _ (NewT.refl _) (by rw [eval_tmp, f0]; exact hT.hs HLb.out))
        · intro a wx hT hF K hK
          obtain ⟨f28, f29, _⟩ := hF
          replace f28 := show (svZ wb.heap.size).pred (a.tmps.getD 28 undef) wx from f28
          replace f29 := show (svH (l)).pred (a.tmps.getD 29 undef) wx from f29
          refine rely_wp rfl ?_
          obtain ⟨v', w', hrun, h2, h3⟩ := run_app0 f28 f29 (by have := HLEN.out; omega) hT.out.size _
          exact opr_append rfl rfl rfl hrun (hK _ _ h3 h2)
        · intro a wx hT hF K hK
          obtain ⟨f3, _⟩ := hF
          have f3 : a.tmps.getD 3 undef = .pointer (some ⟨hb, 0, none⟩) := f3
          refine rely_wp rfl ?_
          exact opr_load_hash rfl f3 (hT.row RHb.out) (hK _ _ (NewT.refl _) rfl)
        · intro a wx hT hF K hK
          obtain ⟨f31, _⟩ := hF
          have f31 : a.tmps.getD 31 undef = .agg (rowA 32 (bF (h))) := f31
          refine rely_wp rfl ?_
          exact opr_bsH1 rfl f31 hK
        · intro wc kc
          intro _ _
          intro _ _
          intro u30 h; have g30 := h (by simp); clear h; replace g30 := show (svOH wb.heap.size l).pred u30 wc from g30
          intro u h; obtain rfl := Eq.symm (h (by simp)); clear h
          intro u32 h; have g32 := h (by simp); clear h; replace g32 := show (svH ([h])).pred u32 wc from g32
          refine relyEnd_nil rfl ?_
          simp only [Act.put, List.setIfInBounds_toArray, List.set_cons_zero, List.set_cons_succ]
          refine wpList_plain rfl (fun K hK => ?_)
          have hO : OwnH wc wb.heap.size u30 l := g30
          have hR : RdH wc u32 [h] := g32
          obtain ⟨v', w', hrun, h2, h3⟩ := run_appH hO hR (by have := HLEN.out; simp; omega) kc.out.size 31
          refine opr_append rfl rfl rfl hrun (hK _ _ ?_)
          refine wpList_plain rfl (fun K hK => ?_)
          refine opr_move (.inr rfl) (hK _ _ ?_)
          refine wpList_end rfl ?_
          simp only [Act.put, List.setIfInBounds_toArray, List.set_cons_zero, List.set_cons_succ]
          go_simp
          have hNd : NewT wb w' := NewT.of (kc.out.trans ((Below.refl _ wc).grown h3 kc.out.size (fun k hk => (hO.lt k hk).1)))
          have HM := Lib.hid h2.rd
          replace HLb := Lib.hid (hNd.hs HLb.out)
          replace HTb := Lib.hid (hNd.tables HTb.out)
          replace HFb := Lib.hid (hNd.front HFb.out)
          replace HNb := Lib.hid (NewT.trans _ _ _ HNb.out hNd)
          clear hNd h2 h3 hrun hO hR g30 g32 kc
          go_upto_region 13 with fail
          refine wp_region_steps0 NewT [SV.eq (.int .i64 ((l.length : Int))), SV.eq (v), SV.eq (.int .i64 ((List.length (l) : Int))), SV.eq (.bool true), SV.eq (.bool true), SV.eq (.int .i64 ((l.length : Int) + 1)), SV.eq (.int .i64 ((l.length : Int))), SV.eq (.int .i64 ((l.length : Int) + 1)), SV.eq (.bool true), SV.eq (.bool true), SV.eq (.bool true), SV.eq (.agg (rowA 32 (bF (rootF node z (treesM node z (l ++ [h])))))), SV.eq (v'), SV.eq (.agg (rowA 32 (bF (rootM node z ((l ++ [h])))))), SV.eq (.bool true), SV.eq (.bool true), SV.eq (.bool true)] [([(7, none)], none), ([(0, none)], none), ([(35, some 1)], none), ([(34, some 0), (36, some 2)], none), ([(37, some 3)], none), ([(5, none), (38, some 4)], some (38, true)), ([(7, none), (38, some 4)], some (38, true)), ([(40, some 6), (38, some 4)], some (38, true)), ([(39, some 5), (41, some 7), (38, some 4)], some (38, true)), ([(38, some 4), (42, some 8)], none), ([(43, some 9)], none), ([(5, none), (44, some 10)], some (44, true)), ([(8, none), (44, some 10)], some (44, true)), ([(46, some 12), (44, some 10)], some (44, true)), ([(45, some 11), (47, some 13), (44, some 10)], some (44, true)), ([(44, some 10), (48, some 14)], none), ([(49, some 15)], none)] 50 17 rfl rfl (by kernel_rfl) NewT.trans (NewT.refl _) (Nat.le_of_ble_eq_true rfl) ⟨?_, ?_, ?_, ?_, ?_, ?_, ?_, ?_, ?_, ?_, ?_, ?_, ?_, ?_, ?_, ?_, ?_, trivial⟩ ?_
          · intro a wx hT hF K hK
            obtain ⟨f7, _⟩ := hF
            have f7 : a.tmps.getD 7 undef = .int .i64 ((l.length : Int)) := f7
            refine rely_wp rfl ?_
            exact opr_move (.inl rfl) (hK _ _ (NewT.refl _) f7)
          · intro a wx hT hF K hK
            obtain ⟨f0, _⟩ := hF
            have f0 : a.tmps.getD 0 undef = v := f0
            refine rely_wp rfl ?_
            exact opr_move (.inl rfl) (hK _ _ (NewT.refl _) f0)
          · intro a wx hT hF K hK
            obtain ⟨f35, _⟩ := hF
            have f35 : a.tmps.getD 35 undef = v := f35
            refine rely_wp rfl ?_
            exact opr_len_h rfl (by rw [eval_tmp, f35]; exact (hT.hs HLb.out)) (hK _ _ (NewT.refl _) rfl)
          · intro a wx hT hF K hK
            obtain ⟨f34, f36, _⟩ := hF
            have f34 : a.tmps.getD 34 undef = .int .i64 ((l.length : Int)) := f34
            have f36 : a.tmps.getD 36 undef = .int .i64 ((List.length (l) : Int)) := f36
            refine rely_wp rfl ?_
            exact opr_cmp (b := true) (.inl ⟨rfl, (by exact beq_self_eq_true _)⟩) Tryd.underlying3 rfl f34 f36 (hK _ _ (NewT.refl _) rfl)
          · intro a wx hT hF K hK
            obtain ⟨f37, _⟩ := hF
            have f37 : a.tmps.getD 37 undef = .bool true := f37
            refine rely_wp rfl ?_
            exact opr_move (.inl rfl) (hK _ _ (NewT.refl _) f37)
          · intro a wx hT hF K hK
            obtain ⟨f5, f38, _⟩ := hF
            have f5 : a.tmps.getD 5 undef = .pointer (some ⟨g, 0, none⟩) := f5
            have f38 : a.tmps.getD 38 undef = .bool true := f38
            refine rely_wp (rely_guard f38) ?_
            exact opr_cv (Size_cv g B ((l.length : Int) + 1) (treesM node z (l ++ [h])) wx (hT.front HFb.out)) rfl Tryd.func18 (by kernel_rfl) (by kernel_rfl) (by simp only [List.map_toArray, List.map_cons, List.map_nil, eval_tmp, f5]) hK
          · intro a wx hT hF K hK
            obtain ⟨f7, f38, _⟩ := hF
            have f7 : a.tmps.getD 7 undef = .int .i64 ((l.length : Int)) := f7
            have f38 : a.tmps.getD 38 undef = .bool true := f38
            refine rely_wp (rely_guard f38) ?_
            exact opr_move (.inl rfl) (hK _ _ (NewT.refl _) f7)
          · intro a wx hT hF K hK
            obtain ⟨f40, f38, _⟩ := hF
            have f40 : a.tmps.getD 40 undef = .int .i64 ((l.length : Int)) := f40
            have f38 : a.tmps.getD 38 undef = .bool true := f38
            refine rely_wp (rely_guard f38) ?_
            exact opr_add (r := (l.length : Int) + 1) Tryd.underlying3 (by unfold wrap64; have := HLEN.out; omega) rfl f40 rfl (hK _ _ (NewT.refl _) rfl)
          · intro a wx hT hF K hK
            obtain ⟨f39, f41, f38, _⟩ := hF
            have f39 : a.tmps.getD 39 undef = .int .i64 ((l.length : Int) + 1) := f39
            have f41 : a.tmps.getD 41 undef = .int .i64 ((l.length : Int) + 1) := f41
            have f38 : a.tmps.getD 38 undef = .bool true := f38
            refine rely_wp (rely_guard f38) ?_
            exact opr_cmp (b := true) (.inl ⟨rfl, (by exact beq_self_eq_true _)⟩) Tryd.underlying3 rfl f39 f41 (hK _ _ (NewT.refl _) rfl)
          · intro a wx hT hF K hK
            obtain ⟨f38, f42, _⟩ := hF
            have f38 : a.tmps.getD 38 undef = .bool true := f38
            have f42 : a.tmps.getD 42 undef = .bool true := f42
            refine rely_wp rfl ?_
            exact opr_pick_true rfl f38 (hK _ _ (NewT.refl _) f42)
          · intro a wx hT hF K hK
            obtain ⟨f43, _⟩ := hF
            have f43 : a.tmps.getD 43 undef = .bool true := f43
            refine rely_wp rfl ?_
            exact opr_move (.inl rfl) (hK _ _ (NewT.refl _) f43)
          · intro a wx hT hF K hK
            obtain ⟨f5, f44, _⟩ := hF
            have f5 : a.tmps.getD 5 undef = .pointer (some ⟨g, 0, none⟩) := f5
            have f44 : a.tmps.getD 44 undef = .bool true := f44
            refine rely_wp (rely_guard f44) ?_
            exact opr_cv (FRoot_cv hX g B ((l.length : Int) + 1) (treesM node z (l ++ [h])) wx (hT.tables HTb.out) (hT.front HFb.out) (HZ.out) (HZL.out)) rfl Tryd.func19 (by kernel_rfl) (by kernel_rfl) (by simp only [List.map_toArray, List.map_cons, List.map_nil, eval_tmp, f5]) hK
          · intro a wx hT hF K hK
            obtain ⟨f8, f44, _⟩ := hF
            have f8 : a.tmps.getD 8 undef = v' := f8
            have f44 : a.tmps.getD 44 undef = .bool true := f44
            refine rely_wp (rely_guard f44) ?_
            exact opr_move (.inl rfl) (hK _ _ (NewT.refl _) f8)
          · intro a wx hT hF K hK
            obtain ⟨f46, f44, _⟩ := hF
            have f46 : a.tmps.getD 46 undef = v' := f46
            have f44 : a.tmps.getD 44 undef = .bool true := f44
            refine rely_wp (rely_guard f44) ?_
            exact opr_cv (Root_cv hX _ _ ((l ++ [h])) wx (hT.tables HTb.out) ((hT.hs HM.out)) (Nat.le_refl _) (by have := HLEN.out; simp; omega)) rfl Tryd.func25 (by kernel_rfl) (by kernel_rfl) (by simp only [List.map_toArray, List.map_cons, List.map_nil, eval_tmp, f46]) hK
          · intro a wx hT hF K hK
            obtain ⟨f45, f47, f44, _⟩ := hF
            have f45 : a.tmps.getD 45 undef = .agg (rowA 32 (bF (rootF node z (treesM node z (l ++ [h]))))) := f45
            have f47 : a.tmps.getD 47 undef = .agg (rowA 32 (bF (rootM node z ((l ++ [h]))))) := f47
            have f44 : a.tmps.getD 44 undef = .bool true := f44
            refine rely_wp (rely_guard f44) ?_
            exact opr_eql_hash (b := true) rfl f45 f47 ((by rw [treesM_root]; exact eqH_same _)) (hK _ _ (NewT.refl _) rfl)
          · intro a wx hT hF K hK
            obtain ⟨f44, f48, _⟩ := hF
            have f44 : a.tmps.getD 44 undef = .bool true := f44
            have f48 : a.tmps.getD 48 undef = .bool true := f48
            refine rely_wp rfl ?_
            exact opr_pick_true rfl f44 (hK _ _ (NewT.refl _) f48)
          · intro a wx hT hF K hK
            obtain ⟨f49, _⟩ := hF
            have f49 : a.tmps.getD 49 undef = .bool true := f49
            refine rely_wp rfl ?_
            exact opr_move (.inr rfl) (hK _ _ (NewT.refl _) f49)
          · intro we ke
            intro u h; obtain rfl := Eq.symm (h (by simp)); clear h
            intro u h; obtain rfl := Eq.symm (h (by simp)); clear h
            intro u h; obtain rfl := Eq.symm (h (by simp)); clear h
            intro u h; obtain rfl := Eq.symm (h (by simp)); clear h
            intro u h; obtain rfl := Eq.symm (h (by simp)); clear h
            intro u h; obtain rfl := Eq.symm (h (by simp)); clear h
            intro u h; obtain rfl := Eq.symm (h (by simp)); clear h
            intro u h; obtain rfl := Eq.symm (h (by simp)); clear h
            intro u h; obtain rfl := Eq.symm (h (by simp)); clear h
            intro u h; obtain rfl := Eq.symm (h (by simp)); clear h
            intro u h; obtain rfl := Eq.symm (h (by simp)); clear h
            intro u h; obtain rfl := Eq.symm (h (by simp)); clear h
            intro u h; obtain rfl := Eq.symm (h (by simp)); clear h
            intro u h; obtain rfl := Eq.symm (h (by simp)); clear h
            intro u h; obtain rfl := Eq.symm (h (by simp)); clear h
            intro u h; obtain rfl := Eq.symm (h (by simp)); clear h
            intro u h; obtain rfl := Eq.symm (h (by simp)); clear h
            refine relyEnd_nil rfl ?_
            refine wpList_end rfl ?_
            simp only [Act.put, List.setIfInBounds_toArray, List.set_cons_zero, List.set_cons_succ]
            go_simp
            go_wp2
            go_ret
            exact ⟨rfl, by rw [← ehb]; exact (NewT.trans _ _ _ HNb.out ke).out⟩
end Go.Proofs.YtphbjamfhmcjcaaDoor
