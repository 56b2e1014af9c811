/- Flags that differ. -/
import Derived.Test.YtchpmdcacpjojaaDoorMb
import Derived.Test.YtchpmdcacpjojaaDoorMh
set_option linter.all false
namespace Go.Proofs.YtchpmdcacpjojaaDoor
open Go Go.RowKit
set_option maxRecDepth 8000
set_option linter.all false
section
variable {a : Act} {w : World} {o : Oper} {K : Act → World → Prop} {Q : Exit → Act → World → Prop} {x y : Operand}
theorem opr_neqQ {p q b : Bool} {t2 : TypeId} (hb : (p != q) = b) (ho : o.op = .binOp .neq 4 x y t2) (hx : a.eval x = .bool p) (hy : a.eval y = .bool q) (h : K (a.put o.dst (.bool b)) w) : o.wp Tryd.prog a w K Q := by
  obtain ⟨dst, op', type, pos, after, guard⟩ := o
  simp only at ho
  subst ho hb
  refine opr_val (s := do eqGuard .neq 4 x y (a.eval x) (a.eval y); binOp .neq 4 (a.eval x) (a.eval y)) rfl ?_ h
  rw [hx, hy]
  cases p <;> cases q <;> simp [go_sem]
end
end Go.Proofs.YtchpmdcacpjojaaDoor
/- The law PartRefuses, walked: a participant that refuses all answers nothing Good, and applies nothing. -/
namespace Go.Proofs.YtchpmdcacpjojaaDoor
open Go Go.RowKit
set_option maxRecDepth 8000
set_option linter.all false
def RefE (L : List En) : Prop := ∀ x ∈ L, x.good = false ∧ x.back = false
theorem ref_has {L : List En} (h : RefE L) (s t : Int) (b : Bool) : hasE L s t b ≠ some true := by
  unfold hasE
  intro hh
  cases hf : L.find? (isE s t b) with
  | none => rw [hf] at hh; cases hh
  | some x => rw [hf] at hh; simp at hh; rw [(h x (List.mem_of_find?_eq_some hf)).1] at hh; cases hh
theorem ref_und {L : List En} (h : RefE L) (c : Cl) : undE L c = false := by
  unfold undE
  have := ref_has h c.saga c.step true
  cases hh : hasE L c.saga c.step true with
  | none => simp
  | some g => cases g; simp; exact absurd hh this
theorem ref_good {L : List En} (h : RefE L) (c : Cl) : goodE L c true = false := by
  unfold goodE goodN
  have := ref_has h c.saga c.step c.back
  cases hh : hasE L c.saga c.step c.back with
  | none => rfl
  | some g => cases g; rfl; exact absurd hh this
theorem ref_take {kf : Hs → List Int → Hs} {ps ws : List Hs} {need : Int} {L : List En} (h : RefE L) (n e : Int) (c : Cl) : (takeC kf ps ws need n e L c true).good = false ∧ (takeC kf ps ws need n e L c true).ans = itsB n c := by
  unfold takeC
  rw [ref_good h c]
  cases itsB n c
  · exact ⟨rfl, rfl⟩
  · exact ⟨rfl, rfl⟩
theorem ref_keep {L : List En} (h : RefE L) (n : Int) (c : Cl) : RefE (takeL n L c true) := by
  unfold takeL
  split
  · unfold keepL
    split
    · exact h
    · split
      next hp =>
        intro x hx
        rcases List.mem_append.1 hx with hx | hx
        · exact h x hx
        · obtain rfl : x = newE L c true := by simpa using hx
          refine ⟨by simp [newE, goodN], ?_⟩
          unfold putB goodN askB at hp
          rw [ref_und h c] at hp
          show c.back = false
          cases hb : c.back with
          | false => rfl
          | true => rw [hb] at hp; simp at hp
      next => exact h
  · exact h
set_option maxHeartbeats 4000000 in
theorem PartRefuses_walk (v v2 : Value) (ps ws : List Hs) (need n : Int) (l : List Cl) (w : World) (hT : Tables w) (hk : KeysV w v ps ws need) (hl : RdL 41 clE w v2 l) : Calls Tryd.prog 8 #[v, .int .i64 n, v2] w fun e w' => e = .returned (.bool true) ∧ Below w.heap.size w w' := by
  obtain ⟨kf, tg, pf, hX⟩ := keyH_ex
  obtain ⟨pv, wv, rfl, hpv, hwv⟩ := hk
  have HTT := Lib.hid hT
  have HPP := Lib.hid hpv
  have HWW := Lib.hid hwv
  have HL := Lib.hid hl
  clear hl
  clear hT hpv hwv
  go_enter Tryd.func8, Tryd.ntmps8
  go_upto_region 1 with fail
  have r_gk := rowIs_box w 24 3 (keyF pv wv need)
  have hN : NewT w (w.alloc (.cells (rowA 3 (keyF pv wv need)) 24)) := NewT.alloc _ _
  change Code.wp _ _ _ _ (w.alloc (.cells (rowA 3 (keyF pv wv need)) 24))
  generalize (w.alloc (.cells (rowA 3 (keyF pv wv need)) 24)) = W0 at r_gk hN ⊢
  obtain ⟨gk, h_gk⟩ : ∃ g_, w.heap.size = g_ := ⟨_, rfl⟩
  have HG : Hid (w.heap.size ≤ gk) := Lib.hid (by omega)
  rw [h_gk] at r_gk
  simp only [h_gk]
  have Rgk := Lib.hid r_gk
  have HM := Lib.hid hN
  clear r_gk hN h_gk
  go_upto_region 1 with fail
  refine wp_region_steps0 NewT [SV.eq (.bool true), SV.eq (.bool false)] [([], none), ([(13, some 0)], none)] 75 2 rfl rfl (by kernel_rfl) NewT.trans (NewT.refl _) (Nat.le_of_ble_eq_true rfl) ⟨?_, ?_, trivial⟩ ?_
  · exact fun a wx hT hF K hK => rely_wp rfl (opr_cv (alive13_cv wx ((NewT.trans _ _ _ HM.out hT).tables HTT.out)) rfl Tryd.func9 (by kernel_rfl) (by kernel_rfl) evs0 hK)
  · exact fun a wx hT hF K hK => rely_wp rfl (opr_not rfl hF.1 (hK _ _ (NewT.refl _) rfl))
  · intro w1 k1
    iterate 2 (intro u h; obtain rfl := Eq.symm (h (by simp)); clear h)
    refine relyEnd_nil rfl ?_
    refine wpList_end rfl ?_
    simp only [Act.put, List.setIfInBounds_toArray, List.set_cons_zero, List.set_cons_succ]
    go_simp
    replace Rgk := Lib.hid (k1.row Rgk.out)
    replace HM := Lib.hid (NewT.trans _ _ _ HM.out k1)
    clear k1
    go_upto_region 3 with fail
    obtain ⟨q1_3, Q1_3⟩ : ∃ bq_, ((!(fewB ps ws (List.length ([] : List Ac)))) || (decide (60 < ((List.length (l) : Int))))) = bq_ := ⟨_, rfl⟩
    obtain ⟨q2_3, Q2_3⟩ : ∃ bq_, (q1_3 || (!(hasB ps ws need n 0))) = bq_ := ⟨_, rfl⟩
    refine wp_region_steps0 NewT [SV.eq (.agg (rowA 3 (keyF pv wv need))), SV.eq (.bool (fewB ps ws (List.length ([] : List Ac)))), SV.eq (.bool (!(fewB ps ws (List.length ([] : List Ac))))), SV.eq (.bool (!(fewB ps ws (List.length ([] : List Ac))))), svIf ((!(!(fewB ps ws (List.length ([] : List Ac)))))) (SV.eq (v2)), svIf ((!(!(fewB ps ws (List.length ([] : List Ac)))))) (SV.eq (.int .i64 ((List.length (l) : Int)))), svIf ((!(!(fewB ps ws (List.length ([] : List Ac)))))) (SV.eq (.bool (decide (60 < ((List.length (l) : Int)))))), SV.eq (.bool (q1_3)), SV.eq (.bool (q1_3)), svIf ((!q1_3)) (SV.eq (.agg (rowA 3 (keyF pv wv need)))), svIf ((!q1_3)) (SV.eq (.int .i64 (n))), svIf ((!q1_3)) (SV.eq (.bool (hasB ps ws need n 0))), svIf ((!q1_3)) (SV.eq (.bool (!(hasB ps ws need n 0)))), SV.eq (.bool (q2_3))] [([(3, none)], none), ([(15, some 0)], none), ([(16, some 1)], none), ([(17, some 2)], none), ([(2, none), (18, some 3)], some (18, false)), ([(19, some 4), (18, some 3)], some (18, false)), ([(20, some 5), (18, some 3)], some (18, false)), ([(18, some 3), (21, some 6)], none), ([(22, some 7)], none), ([(3, none), (23, some 8)], some (23, false)), ([(1, none), (23, some 8)], some (23, false)), ([(24, some 9), (25, some 10), (23, some 8)], some (23, false)), ([(26, some 11), (23, some 8)], some (23, false)), ([(23, some 8), (27, some 12)], none)] 75 14 rfl rfl (by kernel_rfl) NewT.trans (NewT.refl _) (Nat.le_of_ble_eq_true rfl) ⟨?_, ?_, ?_, ?_, ?_, ?_, ?_, ?_, ?_, ?_, ?_, ?_, ?_, ?_, trivial⟩ ?_
    · exact fun a wx hT hF K hK => rely_wp rfl (opr_ldY (hT.row Rgk.out) rfl hF.1 (hK _ _ (NewT.refl _) rfl))
    · exact fun a wx hT hF K hK => rely_wp rfl (opr_cv (few_cv _ _ ps ws need [] wx (⟨pv, wv, rfl, (NewT.trans _ _ _ HM.out hT).hs HPP.out, (NewT.trans _ _ _ HM.out hT).hs HWW.out⟩ : KeysV wx (.agg (rowA 3 (keyF pv wv need))) ps ws need) (rdL_nil wx)) rfl Tryd.func10 (by kernel_rfl) (by kernel_rfl) (evs2 hF.1 rfl) hK)
    · exact fun a wx hT hF K hK => rely_wp rfl (opr_not rfl hF.1 (hK _ _ (NewT.refl _) rfl))
    · exact fun a wx hT hF K hK => rely_wp rfl (opr_move (.inl rfl) (hK _ _ (NewT.refl _) hF.1))
    · exact fun a wx hT hF K hK => rely_if (rely_gf hF.2.1) (NewT.refl _) hK fun hE hK => opr_move (.inl rfl) (hK _ _ (NewT.refl _) hF.1)
    · intro a wx hT hF K hK
      obtain ⟨f19, f18, _⟩ := hF
      have f19 : ((!(!(fewB ps ws (List.length ([] : List Ac)))))) = true → a.tmps.getD 19 undef = v2 := f19
      have f18 : a.tmps.getD 18 undef = .bool (!(fewB ps ws (List.length ([] : List Ac)))) := f18
      refine rely_if (rely_gf f18) (NewT.refl _) hK (fun hE hK => ?_)
      exact opr_lenL rfl callEl (by rw [eval_tmp, (f19 hE)]; exact (HL.out.new (NewT.trans _ _ _ HM.out hT))) (hK _ _ (NewT.refl _) rfl)
    · exact fun a wx hT hF K hK => rely_if (rely_gf hF.2.1) (NewT.refl _) hK fun hE hK => opr_cmp (b := decide (60 < ((List.length (l) : Int)))) (.inr (.inr (.inr (.inr (.inl ⟨rfl, rfl⟩))))) Tryd.underlying3 rfl (hF.1 hE) rfl (hK _ _ (NewT.refl _) rfl)
    · exact fun a wx hT hF K hK => rely_wp rfl (opr_pick_b rfl hF.1 (fun hb => hK _ _ (NewT.refl _) (pn_or1 Q1_3 hb)) (fun hb => hK _ _ (NewT.refl _) (pn_or0 Q1_3 (hF.2.1 (bnot hb)) hb)))
    · exact fun a wx hT hF K hK => rely_wp rfl (opr_move (.inl rfl) (hK _ _ (NewT.refl _) hF.1))
    · exact fun a wx hT hF K hK => rely_if (rely_gf hF.2.1) (NewT.refl _) hK fun hE hK => opr_ldY (hT.row Rgk.out) rfl hF.1 (hK _ _ (NewT.refl _) rfl)
    · exact fun a wx hT hF K hK => rely_if (rely_gf hF.2.1) (NewT.refl _) hK fun hE hK => opr_move (.inl rfl) (hK _ _ (NewT.refl _) hF.1)
    · exact fun a wx hT hF K hK => rely_if (rely_gf hF.2.2.1) (NewT.refl _) hK fun hE hK => opr_cv (RKnown_cv _ ps ws need n 0 wx (⟨pv, wv, rfl, (NewT.trans _ _ _ HM.out hT).hs HPP.out, (NewT.trans _ _ _ HM.out hT).hs HWW.out⟩ : KeysV wx (.agg (rowA 3 (keyF pv wv need))) ps ws need)) rfl Tryd.func12 (by kernel_rfl) (by kernel_rfl) (evs3 (hF.1 hE) (hF.2.1 hE) rfl) hK
    · exact fun a wx hT hF K hK => rely_if (rely_gf hF.2.1) (NewT.refl _) hK fun hE hK => opr_not rfl (hF.1 hE) (hK _ _ (NewT.refl _) rfl)
    · exact fun a wx hT hF K hK => rely_wp rfl (opr_pick_b rfl hF.1 (fun hb => hK _ _ (NewT.refl _) (pn_or1 Q2_3 hb)) (fun hb => hK _ _ (NewT.refl _) (pn_or0 Q2_3 (hF.2.1 (bnot hb)) hb)))
    · intro w2 k2
      iterate 4 (intro u h; obtain rfl := Eq.symm (h (by simp)); clear h)
      iterate 3 (intro _ _)
      iterate 2 (intro u h; obtain rfl := Eq.symm (h (by simp)); clear h)
      iterate 4 (intro _ _)
      intro u h; obtain rfl := Eq.symm (h (by simp)); clear h
      subst Q2_3 Q1_3
      refine relyEnd_nil rfl ?_
      refine wpList_end rfl ?_
      simp only [Act.put, List.setIfInBounds_toArray, List.set_cons_zero, List.set_cons_succ]
      go_simp
      replace Rgk := Lib.hid (k2.row Rgk.out)
      replace HM := Lib.hid (NewT.trans _ _ _ HM.out k2)
      clear k2
      cases hb : ((((!(fewB ps ws (List.length ([] : List Ac)))) || (decide (60 < ((List.length (l) : Int))))) || (!(hasB ps ws need n 0))))
      · simp only [Bool.or_eq_false_iff, Bool.not_eq_false', decide_eq_false_iff_not] at hb
        have HKN : Hid (hasB ps ws need n 0 = true) := Lib.hid hb.2
        have HLE : Hid (l.length ≤ 60) := Lib.hid (by have := hb.1.2; omega)
        clear hb
        go_upto_region 5 with fail
        refine wp_region_steps0 NewT [SV.eq (.agg (rowA 3 (keyF pv wv need))), SV.eq (.int .i64 (n)), svPart w2.heap.size n ps ws need, svPart w2.heap.size n ps ws need] [([(3, none)], none), ([(1, none)], none), ([(29, some 0), (30, some 1)], none), ([(31, some 2)], none)] 75 4 rfl rfl (by kernel_rfl) NewT.trans (NewT.refl _) (Nat.le_of_ble_eq_true rfl) ⟨?_, ?_, ?_, ?_, trivial⟩ ?_
        · exact fun a wx hT hF K hK => rely_wp rfl (opr_ldY (hT.row Rgk.out) rfl hF.1 (hK _ _ (NewT.refl _) rfl))
        · exact fun a wx hT hF K hK => rely_wp rfl (opr_move (.inl rfl) (hK _ _ (NewT.refl _) hF.1))
        · exact fun a wx hT hF K hK => rely_wp rfl (opr_cv (New_yes w2.heap.size _ ps ws need n wx hT.out.size (⟨pv, wv, rfl, (NewT.trans _ _ _ HM.out hT).hs HPP.out, (NewT.trans _ _ _ HM.out hT).hs HWW.out⟩ : KeysV wx (.agg (rowA 3 (keyF pv wv need))) ps ws need) HKN.out) rfl Tryd.func11 (by kernel_rfl) (by kernel_rfl) (evs2 hF.1 hF.2.1) hK)
        · exact fun a wx hT hF K hK => rely_wp rfl (opr_move (.inr rfl) (hK _ _ (NewT.refl _) hF.1))
        · intro w3 k3
          iterate 2 (intro u h; obtain rfl := Eq.symm (h (by simp)); clear h)
          intro _ _
          intro u7 h; have g7 := h (by simp); clear h; replace g7 := show (svPart w2.heap.size n ps ws need).pred u7 w3 from g7
          refine relyEnd_nil rfl ?_
          refine wpList_end rfl ?_
          simp only [Act.put, List.setIfInBounds_toArray, List.set_cons_zero, List.set_cons_succ]
          go_simp
          obtain ⟨gp, hi, hv2, hPA⟩ := g7
          subst hv2
          obtain ⟨lo, hlo⟩ : ∃ x, w2.heap.size = x := ⟨_, rfl⟩
          have HLO : Hid (2 ≤ lo ∧ gk < lo ∧ lo ≤ hi ∧ w.heap.size ≤ lo) := Lib.hid (by rw [hlo] at hPA; have h1 := hPA.lt; have h2 := HTT.out.size; have h3 := HM.out.out.size; have h_gk := Rgk.out.lt; omega)
          rw [hlo] at hPA
          have HPA := Lib.hid hPA
          clear hPA hlo
          replace Rgk := Lib.hid (k3.row Rgk.out)
          replace HM := Lib.hid (NewT.trans _ _ _ HM.out k3)
          clear k3
          go_wp2
          go_loopw [8] (fun i wr => ∃ (k : Nat) (L : List En), k ≤ l.length ∧ i = .int .i64 (k : Int) ∧ Hid (NewT w wr) ∧ Hid (PartAt wr lo hi gp n 0 ps ws need L) ∧ Hid (L.length ≤ k) ∧ Hid (RefE L)) (fun i _ => l.length - (intOf i).toNat)
          case atStart => exact ⟨0, [], by omega, rfl, HM, HPA, Lib.hid (by simp), Lib.hid (fun x h => by simp at h)⟩
          case round =>
            clear HM HPA Rgk
            obtain ⟨k, L, hk, rfl, HM, HPA, HLK, HRE⟩ := hrel
            by_cases hlt : k < l.length
            rotate_left
            · have HGE : Hid (¬ (k : Int) < (l.length : Int)) := Lib.hid (by omega)
              clear hlt
              go_upto_region 7 with fail
              refine wp_region_steps0 NewT [SV.eq (.int .i64 ((k : Int))), SV.eq (v2), SV.eq (.int .i64 ((List.length (l) : Int))), SV.eq (.bool false)] [([(8, none)], none), ([(2, none)], none), ([(33, some 1)], none), ([(32, some 0), (34, some 2)], none)] 75 4 rfl rfl (by kernel_rfl) NewT.trans (NewT.refl _) (Nat.le_of_ble_eq_true rfl) ⟨?_, ?_, ?_, ?_, trivial⟩ ?_
              · exact fun a wx hT hF K hK => rely_wp rfl (opr_move (.inl rfl) (hK _ _ (NewT.refl _) hF.1))
              · exact fun a wx hT hF K hK => rely_wp rfl (opr_move (.inl rfl) (hK _ _ (NewT.refl _) hF.1))
              · intro a wx hT hF K hK
                obtain ⟨f33, _⟩ := hF
                have f33 : a.tmps.getD 33 undef = v2 := f33
                refine rely_wp rfl ?_
                exact opr_lenL rfl callEl (by rw [eval_tmp, f33]; exact (HL.out.new (NewT.trans _ _ _ HM.out hT))) (hK _ _ (NewT.refl _) rfl)
              · exact fun a wx hT hF K hK => rely_wp rfl (opr_cmp (b := false) (.inr (.inr (.inr (.inl ⟨rfl, (by exact decide_eq_false HGE.out)⟩)))) Tryd.underlying3 rfl hF.1 hF.2.1 (hK _ _ (NewT.refl _) rfl))
              · intro w4 k4
                iterate 4 (intro u h; obtain rfl := Eq.symm (h (by simp)); clear h)
                refine relyEnd_nil rfl ?_
                refine wpList_end rfl ?_
                simp only [Act.put, List.setIfInBounds_toArray, List.set_cons_zero, List.set_cons_succ]
                go_simp
                replace HPA := Lib.hid (HPA.out.new k4)
                replace HM := Lib.hid (NewT.trans _ _ _ HM.out k4)
                clear k4
                have HLL : Hid (L.length ≤ 1000000) := Lib.hid (by have h1 := HLK.out; have h2 := HLE.out; omega)
                go_upto_region 12 with fail
                refine wp_region_steps0 NewT [SV.eq (.pointer (some ⟨gp, 0, none⟩)), svL 4 eyE L, svL 4 eyE L] [([(7, none)], none), ([(55, some 0)], none), ([(56, some 1)], none)] 75 3 rfl rfl (by kernel_rfl) NewT.trans (NewT.refl _) (Nat.le_of_ble_eq_true rfl) ⟨?_, ?_, ?_, trivial⟩ ?_
                · exact fun a wx hT hF K hK => rely_wp rfl (opr_move (.inl rfl) (hK _ _ (NewT.refl _) hF.1))
                · exact fun a wx hT hF K hK => rely_wp rfl (opr_cv (Entries_L wx (HPA.out.new hT) HLL.out) rfl Tryd.func16 (by kernel_rfl) (by kernel_rfl) (evs1 hF.1) hK)
                · exact fun a wx hT hF K hK => rely_wp rfl (opr_move (.inr rfl) (hK _ _ (NewT.refl _) hF.1))
                · intro w5 k5
                  intro u h; obtain rfl := Eq.symm (h (by simp)); clear h
                  intro _ _
                  intro u11 h; have g11 := h (by simp); clear h; replace g11 := show (svL 4 eyE L).pred u11 w5 from g11
                  refine relyEnd_nil rfl ?_
                  refine wpList_end rfl ?_
                  simp only [Act.put, List.setIfInBounds_toArray, List.set_cons_zero, List.set_cons_succ]
                  go_simp
                  have HE := Lib.hid (show RdL 4 eyE w5 u11 L from g11)
                  replace HM := Lib.hid (NewT.trans _ _ _ HM.out k5)
                  clear g11 k5 HPA
                  go_wp2
                  go_loopw [12] (fun i wr => ∃ k : Nat, k ≤ L.length ∧ i = .int .i64 (k : Int) ∧ Hid (NewT w5 wr)) (fun i _ => L.length - (intOf i).toNat)
                  case atStart => exact ⟨0, by omega, rfl, Lib.hid (NewT.refl _)⟩
                  case round =>
                    clear hk
                    obtain ⟨j, hj, rfl, HB⟩ := hrel
                    have HBM := HM
                    replace HM := HB
                    clear HB
                    by_cases hjt : j < L.length
                    rotate_left
                    · have HGE2 : Hid (¬ (j : Int) < (L.length : Int)) := Lib.hid (by omega)
                      clear hjt
                      go_upto_region 14 with fail
                      refine wp_region_steps0 NewT [SV.eq (.int .i64 ((j : Int))), SV.eq (u11), SV.eq (.int .i64 ((List.length (L) : Int))), SV.eq (.bool false)] [([(12, none)], none), ([(11, none)], none), ([(58, some 1)], none), ([(57, some 0), (59, some 2)], none)] 75 4 rfl rfl (by kernel_rfl) NewT.trans (NewT.refl _) (Nat.le_of_ble_eq_true rfl) ⟨?_, ?_, ?_, ?_, trivial⟩ ?_
                      · exact fun a wx hT hF K hK => rely_wp rfl (opr_move (.inl rfl) (hK _ _ (NewT.refl _) hF.1))
                      · exact fun a wx hT hF K hK => rely_wp rfl (opr_move (.inl rfl) (hK _ _ (NewT.refl _) hF.1))
                      · intro a wx hT hF K hK
                        obtain ⟨f58, _⟩ := hF
                        have f58 : a.tmps.getD 58 undef = u11 := f58
                        refine rely_wp rfl ?_
                        exact opr_lenL rfl entEl (by rw [eval_tmp, f58]; exact (HE.out.new (NewT.trans _ _ _ HM.out hT))) (hK _ _ (NewT.refl _) rfl)
                      · exact fun a wx hT hF K hK => rely_wp rfl (opr_cmp (b := false) (.inr (.inr (.inr (.inl ⟨rfl, (by exact decide_eq_false HGE2.out)⟩)))) Tryd.underlying3 rfl hF.1 hF.2.1 (hK _ _ (NewT.refl _) rfl))
                      · intro w6 k6
                        iterate 4 (intro u h; obtain rfl := Eq.symm (h (by simp)); clear h)
                        refine relyEnd_nil rfl ?_
                        refine wpList_end rfl ?_
                        simp only [Act.put, List.setIfInBounds_toArray, List.set_cons_zero, List.set_cons_succ]
                        go_simp
                        replace HM := Lib.hid (NewT.trans _ _ _ HM.out k6)
                        clear k6
                        go_wp2
                        go_ret
                        exact ⟨rfl, (NewT.trans _ _ _ HBM.out HM.out).out⟩
                    · obtain ⟨e, he⟩ : ∃ e, L[j]? = some e := ⟨_, List.getElem?_eq_getElem hjt⟩
                      have HEE := Lib.hid he
                      have HGE2 : Hid ((j : Int) < (L.length : Int)) := Lib.hid (by omega)
                      have HRX := Lib.hid (HRE.out e (List.mem_of_getElem? he))
                      clear he hjt
                      go_upto_region 14 with fail
                      refine wp_region_steps0 NewT [SV.eq (.int .i64 ((j : Int))), SV.eq (u11), SV.eq (.int .i64 ((List.length (L) : Int))), SV.eq (.bool true)] [([(12, none)], none), ([(11, none)], none), ([(58, some 1)], none), ([(57, some 0), (59, some 2)], none)] 75 4 rfl rfl (by kernel_rfl) NewT.trans (NewT.refl _) (Nat.le_of_ble_eq_true rfl) ⟨?_, ?_, ?_, ?_, trivial⟩ ?_
                      · exact fun a wx hT hF K hK => rely_wp rfl (opr_move (.inl rfl) (hK _ _ (NewT.refl _) hF.1))
                      · exact fun a wx hT hF K hK => rely_wp rfl (opr_move (.inl rfl) (hK _ _ (NewT.refl _) hF.1))
                      · intro a wx hT hF K hK
                        obtain ⟨f58, _⟩ := hF
                        have f58 : a.tmps.getD 58 undef = u11 := f58
                        refine rely_wp rfl ?_
                        exact opr_lenL rfl entEl (by rw [eval_tmp, f58]; exact (HE.out.new (NewT.trans _ _ _ HM.out hT))) (hK _ _ (NewT.refl _) rfl)
                      · exact fun a wx hT hF K hK => rely_wp rfl (opr_cmp (b := true) (.inr (.inr (.inr (.inl ⟨rfl, (by exact decide_eq_true HGE2.out)⟩)))) Tryd.underlying3 rfl hF.1 hF.2.1 (hK _ _ (NewT.refl _) rfl))
                      · intro w7 k7
                        iterate 4 (intro u h; obtain rfl := Eq.symm (h (by simp)); clear h)
                        refine relyEnd_nil rfl ?_
                        refine wpList_end rfl ?_
                        simp only [Act.put, List.setIfInBounds_toArray, List.set_cons_zero, List.set_cons_succ]
                        go_simp
                        replace HM := Lib.hid (NewT.trans _ _ _ HM.out k7)
                        clear k7
                        go_upto_region 16 with fail
                        refine wp_region_steps0 NewT [SV.eq (u11), SV.eq (.int .i64 ((j : Int))), svEl 4 eyE (e), svBp (e.good), SV.eq (.bool (e.good)), SV.eq (.bool (e.good)), svIf ((!e.good)) (SV.eq (u11)), svIf ((!e.good)) (SV.eq (.int .i64 ((j : Int)))), svIf ((!e.good)) (svEl 4 eyE (e)), svIf ((!e.good)) (svBp (e.back)), svIf ((!e.good)) (SV.eq (.bool (e.back))), SV.eq (.bool (e.good || e.back))] [([(11, none)], none), ([(12, none)], none), ([(63, some 0), (64, some 1)], none), ([(65, some 2)], none), ([(66, some 3)], none), ([(67, some 4)], none), ([(11, none), (68, some 5)], some (68, false)), ([(12, none), (68, some 5)], some (68, false)), ([(69, some 6), (70, some 7), (68, some 5)], some (68, false)), ([(71, some 8), (68, some 5)], some (68, false)), ([(72, some 9), (68, some 5)], some (68, false)), ([(68, some 5), (73, some 10)], none)] 75 12 rfl rfl (by kernel_rfl) NewT.trans (NewT.refl _) (Nat.le_of_ble_eq_true rfl) ⟨?_, ?_, ?_, ?_, ?_, ?_, ?_, ?_, ?_, ?_, ?_, ?_, trivial⟩ ?_
                        · exact fun a wx hT hF K hK => rely_wp rfl (opr_move (.inl rfl) (hK _ _ (NewT.refl _) hF.1))
                        · exact fun a wx hT hF K hK => rely_wp rfl (opr_move (.inl rfl) (hK _ _ (NewT.refl _) hF.1))
                        · intro a wx hT hF K hK
                          obtain ⟨f63, f64, _⟩ := hF
                          have f63 : a.tmps.getD 63 undef = u11 := f63
                          have f64 : a.tmps.getD 64 undef = .int .i64 ((j : Int)) := f64
                          refine rely_wp rfl ?_
                          exact opr_idxL (i := j) (p := e) entEl (HEE.out) (rfl) rfl (by rw [eval_tmp, f63]; exact (HE.out.new (NewT.trans _ _ _ HM.out hT))) f64 (fun v hv => hK v _ (NewT.refl _) hv)
                        · exact fun a wx hT hF K hK => rely_wp rfl (opr_fldEe3 rfl hF.1 (fun u hu => hK u _ (NewT.refl _) hu))
                        · exact fun a wx hT hF K hK => rely_wp rfl (opr_ldBp rfl hF.1 (hK _ _ (NewT.refl _) rfl))
                        · exact fun a wx hT hF K hK => rely_wp rfl (opr_move (.inl rfl) (hK _ _ (NewT.refl _) hF.1))
                        · exact fun a wx hT hF K hK => rely_if (rely_gf hF.2.1) (NewT.refl _) hK fun hE hK => opr_move (.inl rfl) (hK _ _ (NewT.refl _) hF.1)
                        · exact fun a wx hT hF K hK => rely_if (rely_gf hF.2.1) (NewT.refl _) hK fun hE hK => opr_move (.inl rfl) (hK _ _ (NewT.refl _) hF.1)
                        · intro a wx hT hF K hK
                          obtain ⟨f69, f70, f68, _⟩ := hF
                          have f69 : ((!e.good)) = true → a.tmps.getD 69 undef = u11 := f69
                          have f70 : ((!e.good)) = true → a.tmps.getD 70 undef = .int .i64 ((j : Int)) := f70
                          have f68 : a.tmps.getD 68 undef = .bool (e.good) := f68
                          refine rely_if (rely_gf f68) (NewT.refl _) hK (fun hE hK => ?_)
                          exact opr_idxL (i := j) (p := e) entEl (HEE.out) (rfl) rfl (by rw [eval_tmp, (f69 hE)]; exact (HE.out.new (NewT.trans _ _ _ HM.out hT))) (f70 hE) (fun v hv => hK v _ (NewT.refl _) hv)
                        · exact fun a wx hT hF K hK => rely_if (rely_gf hF.2.1) (NewT.refl _) hK fun hE hK => opr_fldEe2 rfl (hF.1 hE) (fun u hu => hK u _ (NewT.refl _) hu)
                        · exact fun a wx hT hF K hK => rely_if (rely_gf hF.2.1) (NewT.refl _) hK fun hE hK => opr_ldBp rfl (hF.1 hE) (hK _ _ (NewT.refl _) rfl)
                        · exact fun a wx hT hF K hK => rely_wp rfl (opr_pick_b rfl hF.1 (fun hb => hK _ _ (NewT.refl _) (pk_or1 hb)) (fun hb => hK _ _ (NewT.refl _) (pk_or0 (hF.2.1 (bnot hb)) hb)))
                        · intro w8 k8
                          iterate 2 (intro u h; obtain rfl := Eq.symm (h (by simp)); clear h)
                          iterate 2 (intro _ _)
                          iterate 2 (intro u h; obtain rfl := Eq.symm (h (by simp)); clear h)
                          iterate 5 (intro _ _)
                          intro u h; obtain rfl := Eq.symm (h (by simp)); clear h
                          refine relyEnd_nil rfl ?_
                          refine wpList_end rfl ?_
                          simp only [Act.put, List.setIfInBounds_toArray, List.set_cons_zero, List.set_cons_succ]
                          go_simp
                          replace HM := Lib.hid (NewT.trans _ _ _ HM.out k8)
                          clear k8
                          cases hb : (e.good || e.back)
                          · have hj2 := HGE2.out
                            have hj3 := HLL.out
                            clear hb
                            go_wp2
                            go_roundw
                            case rel => exact ⟨j + 1, by omega, by go_num, by first | exact HM | trivial⟩
                            case measure => simp [intOf]; omega
                          · exfalso
                            have h1 := HRX.out
                            rw [h1.1, h1.2] at hb
                            cases hb
            · obtain ⟨c, hc⟩ : ∃ c, l[k]? = some c := ⟨_, List.getElem?_eq_getElem hlt⟩
              obtain ⟨lb, lo2, lc, hv, hcc⟩ := calls_at HL.out hc
              have HCC := Lib.hid hcc
              have HKL := Lib.hid hlt
              have HGE : Hid ((k : Int) < (l.length : Int)) := Lib.hid (by omega)
              obtain ⟨x, hx⟩ : ∃ x, takeC kf ps ws need n 0 L c true = x := ⟨_, rfl⟩
              obtain ⟨b, hb⟩ : ∃ b, itsB n c = b := ⟨_, rfl⟩
              obtain ⟨L2, hL2⟩ : ∃ M, takeL n L c true = M := ⟨_, rfl⟩
              have HX := Lib.hid hx
              have HB := Lib.hid hb
              have HL2 := Lib.hid hL2
              have HXF : Hid (x.good = false ∧ x.ans = b) := Lib.hid (by rw [← hx, ← hb]; exact ref_take HRE.out n 0 c)
              have HR2 : Hid (RefE L2 ∧ L2.length ≤ k + 1) := Lib.hid (by rw [← hL2]; exact ⟨ref_keep HRE.out n c, by have := take_len n L c true; have := HLK.out; omega⟩)
              subst hv
              clear hc hcc hlt hx hb hL2
              go_upto_region 7 with fail
              refine wp_region_steps0 NewT [SV.eq (.int .i64 ((k : Int))), SV.eq ((.slice (some ⟨lb, lo2, none⟩) l.length lc)), SV.eq (.int .i64 ((List.length (l) : Int))), SV.eq (.bool true)] [([(8, none)], none), ([(2, none)], none), ([(33, some 1)], none), ([(32, some 0), (34, some 2)], none)] 75 4 rfl rfl (by kernel_rfl) NewT.trans (NewT.refl _) (Nat.le_of_ble_eq_true rfl) ⟨?_, ?_, ?_, ?_, trivial⟩ ?_
              · exact fun a wx hT hF K hK => rely_wp rfl (opr_move (.inl rfl) (hK _ _ (NewT.refl _) hF.1))
              · exact fun a wx hT hF K hK => rely_wp rfl (opr_move (.inl rfl) (hK _ _ (NewT.refl _) hF.1))
              · intro a wx hT hF K hK
                obtain ⟨f33, _⟩ := hF
                have f33 : a.tmps.getD 33 undef = (.slice (some ⟨lb, lo2, none⟩) l.length lc) := f33
                refine rely_wp rfl ?_
                exact opr_lenL rfl callEl (by rw [eval_tmp, f33]; exact (HL.out.new (NewT.trans _ _ _ HM.out hT))) (hK _ _ (NewT.refl _) rfl)
              · exact fun a wx hT hF K hK => rely_wp rfl (opr_cmp (b := true) (.inr (.inr (.inr (.inl ⟨rfl, (by exact decide_eq_true HGE.out)⟩)))) Tryd.underlying3 rfl hF.1 hF.2.1 (hK _ _ (NewT.refl _) rfl))
              · intro w9 k9
                iterate 4 (intro u h; obtain rfl := Eq.symm (h (by simp)); clear h)
                refine relyEnd_nil rfl ?_
                refine wpList_end rfl ?_
                simp only [Act.put, List.setIfInBounds_toArray, List.set_cons_zero, List.set_cons_succ]
                go_simp
                replace HPA := Lib.hid (HPA.out.new k9)
                replace HM := Lib.hid (NewT.trans _ _ _ HM.out k9)
                clear k9
                go_upto_region 9 with fail
                refine wp_region_lit ?_
                refine wpList_plain rfl (fun K hK => ?_)
                refine opr_move (.inl rfl) (hK _ _ ?_)
                clear hK K
                simp only [Act.put, List.setIfInBounds_toArray, List.set_cons_zero, List.set_cons_succ]
                refine wpList_plain rfl (fun K hK => ?_)
                refine opr_move (.inl rfl) (hK _ _ ?_)
                clear hK K
                simp only [Act.put, List.setIfInBounds_toArray, List.set_cons_zero, List.set_cons_succ]
                refine wpList_plain rfl (fun K hK => ?_)
                refine opr_move (.inl rfl) (hK _ _ ?_)
                clear hK K
                simp only [Act.put, List.setIfInBounds_toArray, List.set_cons_zero, List.set_cons_succ]
                refine wpList_plain rfl (fun K hK => ?_)
                refine opr_idxB callEl HKL.out rfl rfl rfl rfl (hK _ _ ?_)
                clear hK K
                simp only [Act.put, List.setIfInBounds_toArray, List.set_cons_zero, List.set_cons_succ]
                refine wpList_plain rfl (fun K hK => ?_)
                refine opr_ldClC (c := c) (fun j hj => (HM.out.out.cell (cell_lt (HCC.out j hj))).trans (HCC.out j hj)) rfl rfl (hK _ _ ?_)
                clear hK K
                simp only [Act.put, List.setIfInBounds_toArray, List.set_cons_zero, List.set_cons_succ]
                refine wpList_plain rfl (fun K hK => ?_)
                refine opr_call rfl Tryd.func13 (by kernel_rfl) (by kernel_rfl) (vs := #[.pointer (some ⟨gp, 0, none⟩), .agg (rowA 41 (clF c)), .bool true]) (by simp only [List.map_toArray, List.map_cons, List.map_nil]; rfl) ((Take_k hX w9 (HM.out.tables HTT.out) HLO.out.1 HPA.out HB.out HX.out HL2.out).mono ?_)
                rintro ex wt10 ⟨rfl, hP10, hA10⟩
                refine ⟨_, rfl, hK _ _ ?_⟩
                clear hK K
                replace HM := Lib.hid (NewT.of (HM.out.out.trans (hP10.below.mono (by have h_0 := HLO.out; omega))))
                replace HPA := Lib.hid hA10
                clear hP10 hA10
                simp only [Act.put, List.setIfInBounds_toArray, List.set_cons_zero, List.set_cons_succ]
                refine wpList_plain rfl (fun K hK => ?_)
                refine opr_move (.inl rfl) (hK _ _ ?_)
                clear hK K
                simp only [Act.put, List.setIfInBounds_toArray, List.set_cons_zero, List.set_cons_succ]
                refine wpList_plain rfl (fun K hK => ?_)
                refine opr_ext rfl rfl rfl (hK _ _ ?_)
                clear hK K
                simp only [Act.put, List.setIfInBounds_toArray, List.set_cons_zero, List.set_cons_succ]
                refine wpList_plain rfl (fun K hK => ?_)
                refine opr_ext rfl rfl rfl (hK _ _ ?_)
                clear hK K
                simp only [Act.put, List.setIfInBounds_toArray, List.set_cons_zero, List.set_cons_succ]
                refine wpList_new (n := 41) (f := clF x) rfl rfl rfl rfl rfl rfl (by first | (simp; done) | simp [Act.put]) run_alloc_cl info_cl (clF_one _) rfl ?_
                intro W10 hn10 rr10
                simp only [Act.put, List.setIfInBounds_toArray, List.set_cons_zero, List.set_cons_succ]
                refine wpList_plain rfl (fun K hK => ?_)
                refine opr_move (.inr rfl) (hK _ _ ?_)
                clear hK K
                simp only [Act.put, List.setIfInBounds_toArray, List.set_cons_zero, List.set_cons_succ]
                refine wpList_end rfl ?_
                go_simp
                obtain ⟨ga, h_ga⟩ : ∃ g_, wt10.heap.size = g_ := ⟨_, rfl⟩
                rw [h_ga] at rr10
                simp only [h_ga]
                have HGga : Hid (hi ≤ ga ∧ w.heap.size ≤ ga) := Lib.hid (by rw [← h_ga]; exact ⟨HPA.out.lt.2.2, HM.out.out.size⟩)
                clear h_ga
                replace HPA := Lib.hid (HPA.out.new hn10)
                replace HM := Lib.hid (NewT.trans _ _ _ HM.out hn10)
                clear hn10
                have Rga := Lib.hid rr10
                clear rr10
                go_upto_region 10 with fail
                refine wp_region_steps0 NewT [SV.eq (.pointer (some ⟨ga, 7, none⟩)), SV.eq (.bool (x.good)), SV.eq (.bool (x.good)), svIf ((!x.good)) (SV.eq (.bool (b))), svIf ((!x.good)) (SV.eq (.pointer (some ⟨ga, 6, none⟩))), svIf ((!x.good)) (SV.eq (.bool (x.ans))), svIf ((!x.good)) (SV.eq (.bool (b != x.ans))), SV.eq (.bool (x.good || (b != x.ans)))] [([(9, none)], none), ([(47, some 0)], none), ([(48, some 1)], none), ([(10, none), (49, some 2)], some (49, false)), ([(9, none), (49, some 2)], some (49, false)), ([(51, some 4), (49, some 2)], some (49, false)), ([(50, some 3), (52, some 5), (49, some 2)], some (49, false)), ([(49, some 2), (53, some 6)], none)] 75 8 rfl rfl (by kernel_rfl) NewT.trans (NewT.refl _) (Nat.le_of_ble_eq_true rfl) ⟨?_, ?_, ?_, ?_, ?_, ?_, ?_, ?_, trivial⟩ ?_
                · exact fun a wx hT hF K hK => rely_wp rfl (opr_fldCl7 rfl hF.1 (hK _ _ (NewT.refl _) rfl))
                · exact fun a wx hT hF K hK => rely_wp rfl (opr_ldQ (hT.row Rga.out) (by decide) rfl rfl hF.1 (hK _ _ (NewT.refl _) rfl))
                · exact fun a wx hT hF K hK => rely_wp rfl (opr_move (.inl rfl) (hK _ _ (NewT.refl _) hF.1))
                · exact fun a wx hT hF K hK => rely_if (rely_gf hF.2.1) (NewT.refl _) hK fun hE hK => opr_move (.inl rfl) (hK _ _ (NewT.refl _) hF.1)
                · exact fun a wx hT hF K hK => rely_if (rely_gf hF.2.1) (NewT.refl _) hK fun hE hK => opr_fldCl6 rfl hF.1 (hK _ _ (NewT.refl _) rfl)
                · exact fun a wx hT hF K hK => rely_if (rely_gf hF.2.1) (NewT.refl _) hK fun hE hK => opr_ldQ (hT.row Rga.out) (by decide) rfl rfl (hF.1 hE) (hK _ _ (NewT.refl _) rfl)
                · exact fun a wx hT hF K hK => rely_if (rely_gf hF.2.2.1) (NewT.refl _) hK fun hE hK => opr_neqQ (b := b != x.ans) (rfl) rfl (hF.1 hE) (hF.2.1 hE) (hK _ _ (NewT.refl _) rfl)
                · exact fun a wx hT hF K hK => rely_wp rfl (opr_pick_b rfl hF.1 (fun hb => hK _ _ (NewT.refl _) (pk_or1 hb)) (fun hb => hK _ _ (NewT.refl _) (pk_or0 (hF.2.1 (bnot hb)) hb)))
                · intro w11 k11
                  iterate 3 (intro u h; obtain rfl := Eq.symm (h (by simp)); clear h)
                  iterate 4 (intro _ _)
                  intro u h; obtain rfl := Eq.symm (h (by simp)); clear h
                  refine relyEnd_nil rfl ?_
                  refine wpList_end rfl ?_
                  simp only [Act.put, List.setIfInBounds_toArray, List.set_cons_zero, List.set_cons_succ]
                  go_simp
                  replace Rga := Lib.hid (k11.row Rga.out)
                  replace HPA := Lib.hid (HPA.out.new k11)
                  replace HM := Lib.hid (NewT.trans _ _ _ HM.out k11)
                  clear k11
                  cases hb : (x.good || (b != x.ans))
                  · have hk2 := HGE.out
                    have hk3 := HLE.out
                    clear hb
                    go_wp2
                    go_roundw
                    case rel => exact ⟨k + 1, L2, by omega, by go_num, by first | exact HM | trivial, by first | exact HPA | trivial, Lib.hid HR2.out.2, Lib.hid HR2.out.1⟩
                    case measure => simp [intOf]; omega
                  · exfalso
                    rw [HXF.out.1, HXF.out.2] at hb
                    simp at hb
      · clear hb
        go_wp2
        go_ret
        exact ⟨rfl, HM.out.out⟩
end Go.Proofs.YtchpmdcacpjojaaDoor
