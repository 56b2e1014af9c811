/- The reference's participant: what an entry says; whether a call is its; the call that an answer is to; whether lists of entries are the same. -/
import Derived.Test.YtchpmdcacpjojaaDoorMf
import Derived.Test.YtchpmdcacpjojaaDoorMd
import Derived.Test.YtchpmdcacpjojaaDoorMe
set_option linter.all false
namespace Go.Proofs.YtchpmdcacpjojaaDoor
open Go Go.RowKit
set_option maxRecDepth 8000
set_option linter.all false
/-- What an entry says: 0 there is none, 1 not Good, 2 Good. -/
def hasN (L : List En) (s t : Int) (b : Bool) : Int := match hasE L s t b with | none => 0 | some false => 1 | some true => 2
theorem has_drop {L : List En} {k : Nat} {x : En} {s t : Int} {b : Bool} (hx : L[k]? = some x) : hasE (L.drop k) s t b = if isE s t b x = true then some x.good else hasE (L.drop (k + 1)) s t b := by
  have hk := (List.getElem?_eq_some_iff.1 hx)
  unfold hasE
  rw [List.drop_eq_getElem_cons hk.1, List.find?_cons]
  rw [hk.2]
  cases isE s t b x <;> rfl
theorem hasN_two (L : List En) (s t : Int) (b : Bool) : (hasN L s t b == 2) = (hasE L s t b).getD false := by
  unfold hasN
  rcases hasE L s t b with _ | _ | _ <;> rfl
theorem hasN_pos (L : List En) (s t : Int) (b : Bool) : decide (0 < hasN L s t b) = (hasE L s t b).isSome := by
  unfold hasN
  rcases hasE L s t b with _ | _ | _ <;> rfl
def c2C (c : Cl) : Cl := { c with ans := false }
set_option maxHeartbeats 1000000 in
theorem rHas_cv (s t : Int) (b : Bool) {g : Nat} {n e need : Int} {pv wv sv : Value} {L : List En} (w : World) (hr : w.rowIs g 42 6 (rpF pv wv need n e sv)) (hl : RdL 4 eyE w sv L) (hn : L.length ≤ 1000000) : Cv 43 #[.pointer (some ⟨g, 0, none⟩), .int .i64 s, .int .i64 t, .bool b] w (.eq (.int .i64 (hasN L s t b))) := by
  unfold Cv
  go_enter Tryd.func43, Tryd.ntmps43
  have HR := Lib.hid hr
  have HL := Lib.hid hl
  have HLL := Lib.hid hn
  have HGG : Hid (g < w.heap.size) := Lib.hid hr.lt
  clear hr hl hn
  go_wp2
  go_loopw [9] (fun i wr => ∃ k : Nat, k ≤ L.length ∧ i = .int .i64 (k : Int) ∧ Hid (NewT w wr) ∧ Hid (hasE (L.drop k) s t b = hasE L s t b)) (fun i _ => L.length - (intOf i).toNat)
  case atStart => exact ⟨0, by omega, rfl, Lib.hid (NewT.refl _), Lib.hid rfl⟩
  case round =>
    obtain ⟨k, hk, rfl, HM, HH⟩ := hrel
    have Rg := Lib.hid (HM.out.row HR.out)
    by_cases hlt : k < L.length
    rotate_left
    · obtain rfl : k = L.length := by omega
      have HGE : Hid (¬ (L.length : Int) < (L.length : Int)) := Lib.hid (by omega)
      have HN0 : Hid (hasN L s t b = 0) := Lib.hid (by unfold hasN; rw [← HH.out, List.drop_length]; rfl)
      clear hlt hk
      go_upto_region 2 with fail
      refine wp_region_steps0 NewT [SV.eq (.int .i64 ((L.length : Int))), SV.eq (.pointer (some ⟨g, 0, none⟩)), SV.eq (.pointer (some ⟨g, 0, none⟩)), SV.eq (.pointer (some ⟨g, 5, none⟩)), SV.eq (sv), SV.eq (.int .i64 ((List.length (L) : Int))), SV.eq (.bool false)] [([(9, none)], none), ([(0, none)], none), ([(12, some 1)], none), ([(13, some 2)], none), ([(14, some 3)], none), ([(15, some 4)], none), ([(11, some 0), (16, some 5)], none)] 45 7 rfl rfl (by kernel_rfl) NewT.trans (NewT.refl _) (Nat.le_of_ble_eq_true rfl) ⟨?_, ?_, ?_, ?_, ?_, ?_, ?_, trivial⟩ ?_
      · exact fun a wx hT hF K hK => rely_wp rfl (opr_move (.inl rfl) (hK _ _ (NewT.refl _) hF.1))
      · exact fun a wx hT hF K hK => rely_wp rfl (opr_move (.inl rfl) (hK _ _ (NewT.refl _) hF.1))
      · exact fun a wx hT hF K hK => rely_wp rfl (opr_nilc rfl hF.1 (hK _ _ (NewT.refl _) rfl))
      · exact fun a wx hT hF K hK => rely_wp rfl (opr_fldRp3 rfl hF.1 (hK _ _ (NewT.refl _) rfl))
      · exact fun a wx hT hF K hK => rely_wp rfl (opr_ldEs (hT.row Rg.out) (by decide) rfl rfl hF.1 (hK _ _ (NewT.refl _) rfl))
      · intro a wx hT hF K hK
        obtain ⟨f15, _⟩ := hF
        have f15 : a.tmps.getD 15 undef = sv := f15
        refine rely_wp rfl ?_
        exact opr_lenL rfl entEl (by rw [eval_tmp, f15]; exact (HL.out.new (NewT.trans _ _ _ HM.out hT))) (hK _ _ (NewT.refl _) rfl)
      · exact fun a wx hT hF K hK => rely_wp rfl (opr_cmp (b := false) (.inr (.inr (.inr (.inl ⟨rfl, (by exact decide_eq_false HGE.out)⟩)))) Tryd.underlying3 rfl hF.1 hF.2.1 (hK _ _ (NewT.refl _) rfl))
      · intro w1 k1
        iterate 7 (intro u h; obtain rfl := Eq.symm (h (by simp)); clear h)
        refine relyEnd_nil rfl ?_
        refine wpList_end rfl ?_
        simp only [Act.put, List.setIfInBounds_toArray, List.set_cons_zero, List.set_cons_succ]
        go_simp
        replace Rg := Lib.hid (k1.row Rg.out)
        replace HM := Lib.hid (NewT.trans _ _ _ HM.out k1)
        clear k1
        go_wp2
        go_ret
        exact ⟨_, rfl, HM.out, by rw [HN0.out]; rfl⟩
    · obtain ⟨x, hx⟩ : ∃ x, L[k]? = some x := ⟨_, List.getElem?_eq_getElem hlt⟩
      have HXX := Lib.hid hx
      have HGE : Hid ((k : Int) < (L.length : Int)) := Lib.hid (by omega)
      have HDR : Hid (hasE L s t b = if isE s t b x = true then some x.good else hasE (L.drop (k + 1)) s t b) := Lib.hid (by rw [← HH.out]; exact has_drop hx)
      clear hlt hx
      go_upto_region 2 with fail
      refine wp_region_steps0 NewT [SV.eq (.int .i64 ((k : Int))), SV.eq (.pointer (some ⟨g, 0, none⟩)), SV.eq (.pointer (some ⟨g, 0, none⟩)), SV.eq (.pointer (some ⟨g, 5, none⟩)), SV.eq (sv), SV.eq (.int .i64 ((List.length (L) : Int))), SV.eq (.bool true)] [([(9, none)], none), ([(0, none)], none), ([(12, some 1)], none), ([(13, some 2)], none), ([(14, some 3)], none), ([(15, some 4)], none), ([(11, some 0), (16, some 5)], none)] 45 7 rfl rfl (by kernel_rfl) NewT.trans (NewT.refl _) (Nat.le_of_ble_eq_true rfl) ⟨?_, ?_, ?_, ?_, ?_, ?_, ?_, trivial⟩ ?_
      · exact fun a wx hT hF K hK => rely_wp rfl (opr_move (.inl rfl) (hK _ _ (NewT.refl _) hF.1))
      · exact fun a wx hT hF K hK => rely_wp rfl (opr_move (.inl rfl) (hK _ _ (NewT.refl _) hF.1))
      · exact fun a wx hT hF K hK => rely_wp rfl (opr_nilc rfl hF.1 (hK _ _ (NewT.refl _) rfl))
      · exact fun a wx hT hF K hK => rely_wp rfl (opr_fldRp3 rfl hF.1 (hK _ _ (NewT.refl _) rfl))
      · exact fun a wx hT hF K hK => rely_wp rfl (opr_ldEs (hT.row Rg.out) (by decide) rfl rfl hF.1 (hK _ _ (NewT.refl _) rfl))
      · intro a wx hT hF K hK
        obtain ⟨f15, _⟩ := hF
        have f15 : a.tmps.getD 15 undef = sv := f15
        refine rely_wp rfl ?_
        exact opr_lenL rfl entEl (by rw [eval_tmp, f15]; exact (HL.out.new (NewT.trans _ _ _ HM.out hT))) (hK _ _ (NewT.refl _) rfl)
      · exact fun a wx hT hF K hK => rely_wp rfl (opr_cmp (b := true) (.inr (.inr (.inr (.inl ⟨rfl, (by exact decide_eq_true HGE.out)⟩)))) Tryd.underlying3 rfl hF.1 hF.2.1 (hK _ _ (NewT.refl _) rfl))
      · intro w2 k2
        iterate 7 (intro u h; obtain rfl := Eq.symm (h (by simp)); clear h)
        refine relyEnd_nil rfl ?_
        refine wpList_end rfl ?_
        simp only [Act.put, List.setIfInBounds_toArray, List.set_cons_zero, List.set_cons_succ]
        go_simp
        replace Rg := Lib.hid (k2.row Rg.out)
        replace HM := Lib.hid (NewT.trans _ _ _ HM.out k2)
        clear k2
        go_upto_region 4 with fail
        refine wp_region_steps0 NewT [SV.eq (.pointer (some ⟨g, 0, none⟩)), SV.eq (.pointer (some ⟨g, 0, none⟩)), SV.eq (.pointer (some ⟨g, 5, none⟩)), SV.eq (sv), SV.eq (.int .i64 ((k : Int))), svEl 4 eyE (x), SV.eq (.agg (rowA 4 (eyF x)))] [([(0, none)], none), ([(20, some 0)], none), ([(21, some 1)], none), ([(22, some 2)], none), ([(9, none)], none), ([(23, some 3), (24, some 4)], none), ([(25, some 5)], none)] 45 7 rfl rfl (by kernel_rfl) NewT.trans (NewT.refl _) (Nat.le_of_ble_eq_true rfl) ⟨?_, ?_, ?_, ?_, ?_, ?_, ?_, trivial⟩ ?_
        · exact fun a wx hT hF K hK => rely_wp rfl (opr_move (.inl rfl) (hK _ _ (NewT.refl _) hF.1))
        · exact fun a wx hT hF K hK => rely_wp rfl (opr_nilc rfl hF.1 (hK _ _ (NewT.refl _) rfl))
        · exact fun a wx hT hF K hK => rely_wp rfl (opr_fldRp3 rfl hF.1 (hK _ _ (NewT.refl _) rfl))
        · exact fun a wx hT hF K hK => rely_wp rfl (opr_ldEs (hT.row Rg.out) (by decide) rfl rfl hF.1 (hK _ _ (NewT.refl _) rfl))
        · exact fun a wx hT hF K hK => rely_wp rfl (opr_move (.inl rfl) (hK _ _ (NewT.refl _) hF.1))
        · intro a wx hT hF K hK
          obtain ⟨f23, f24, _⟩ := hF
          have f23 : a.tmps.getD 23 undef = sv := f23
          have f24 : a.tmps.getD 24 undef = .int .i64 ((k : Int)) := f24
          refine rely_wp rfl ?_
          exact opr_idxL (i := k) (p := x) entEl (HXX.out) (rfl) rfl (by rw [eval_tmp, f23]; exact (HL.out.new (NewT.trans _ _ _ HM.out hT))) f24 (fun v hv => hK v _ (NewT.refl _) hv)
        · exact fun a wx hT hF K hK => rely_wp rfl (opr_ldEe rfl hF.1 (hK _ _ (NewT.refl _) rfl))
        · intro w3 k3
          iterate 5 (intro u h; obtain rfl := Eq.symm (h (by simp)); clear h)
          intro _ _
          intro u h; obtain rfl := Eq.symm (h (by simp)); clear h
          refine relyEnd_nil rfl ?_
          simp only [Act.put, List.setIfInBounds_toArray, List.set_cons_zero, List.set_cons_succ]
          refine wpList_new (n := 4) (f := eyF x) rfl rfl rfl rfl rfl rfl (by first | (simp; done) | simp [Act.put]) run_alloc_ey info_ey (eyF_one _) rfl ?_
          intro W3 hn3 rr3
          refine wpList_end rfl ?_
          simp only [Act.put, List.setIfInBounds_toArray, List.set_cons_zero, List.set_cons_succ]
          go_simp
          obtain ⟨gx, h_gx⟩ : ∃ g_, w3.heap.size = g_ := ⟨_, rfl⟩
          rw [h_gx] at rr3
          simp only [h_gx]
          have HGgx : Hid (g < gx ∧ w.heap.size ≤ gx) := Lib.hid (by rw [← h_gx]; exact ⟨(k3.row Rg.out).lt, (NewT.trans _ _ _ HM.out k3).out.size⟩)
          have q3 := NewT.trans _ _ _ k3 hn3
          clear k3 hn3 h_gx
          replace Rg := Lib.hid (q3.row Rg.out)
          replace HM := Lib.hid (NewT.trans _ _ _ HM.out q3)
          clear q3
          have Rgx := Lib.hid rr3
          clear rr3
          go_upto_region 5 with fail
          obtain ⟨q1_5, Q1_5⟩ : ∃ bq_, (((x.saga == s) && (x.step == t)) && (x.back == b)) = bq_ := ⟨_, rfl⟩
          refine wp_region_steps0 NewT [SV.eq (.pointer (some ⟨gx, 0, none⟩)), SV.eq (.int .i64 (x.saga)), SV.eq (.int .i64 (s)), SV.eq (.bool (x.saga == s)), SV.eq (.bool (x.saga == s)), svIf (x.saga == s) (SV.eq (.pointer (some ⟨gx, 1, none⟩))), svIf (x.saga == s) (SV.eq (.int .i64 (x.step))), svIf (x.saga == s) (SV.eq (.int .i64 (t))), svIf (x.saga == s) (SV.eq (.bool (x.step == t))), SV.eq (.bool ((x.saga == s) && (x.step == t))), SV.eq (.bool ((x.saga == s) && (x.step == t))), svIf ((x.saga == s) && (x.step == t)) (SV.eq (.pointer (some ⟨gx, 2, none⟩))), svIf ((x.saga == s) && (x.step == t)) (SV.eq (.bool (x.back))), svIf ((x.saga == s) && (x.step == t)) (SV.eq (.bool (b))), svIf ((x.saga == s) && (x.step == t)) (SV.eq (.bool (x.back == b))), SV.eq (.bool (q1_5))] [([(10, none)], none), ([(27, some 0)], none), ([(1, none)], none), ([(28, some 1), (29, some 2)], none), ([(30, some 3)], none), ([(10, none), (31, some 4)], some (31, true)), ([(32, some 5), (31, some 4)], some (31, true)), ([(2, none), (31, some 4)], some (31, true)), ([(33, some 6), (34, some 7), (31, some 4)], some (31, true)), ([(31, some 4), (35, some 8)], none), ([(36, some 9)], none), ([(10, none), (37, some 10)], some (37, true)), ([(38, some 11), (37, some 10)], some (37, true)), ([(3, none), (37, some 10)], some (37, true)), ([(39, some 12), (40, some 13), (37, some 10)], some (37, true)), ([(37, some 10), (41, some 14)], none)] 45 16 rfl rfl (by kernel_rfl) NewT.trans (NewT.refl _) (Nat.le_of_ble_eq_true rfl) ⟨?_, ?_, ?_, ?_, ?_, ?_, ?_, ?_, ?_, ?_, ?_, ?_, ?_, ?_, ?_, ?_, trivial⟩ ?_
          · exact fun a wx hT hF K hK => rely_wp rfl (opr_fldEy0 rfl hF.1 (hK _ _ (NewT.refl _) rfl))
          · exact fun a wx hT hF K hK => rely_wp rfl (opr_ldI (hT.row Rgx.out) (by decide) rfl rfl hF.1 (hK _ _ (NewT.refl _) rfl))
          · exact fun a wx hT hF K hK => rely_wp rfl (opr_move (.inl rfl) (hK _ _ (NewT.refl _) hF.1))
          · exact fun a wx hT hF K hK => rely_wp rfl (opr_cmp (b := x.saga == s) (.inl ⟨rfl, rfl⟩) Tryd.underlying3 rfl hF.1 hF.2.1 (hK _ _ (NewT.refl _) rfl))
          · exact fun a wx hT hF K hK => rely_wp rfl (opr_move (.inl rfl) (hK _ _ (NewT.refl _) hF.1))
          · exact fun a wx hT hF K hK => rely_if (rely_gt hF.2.1) (NewT.refl _) hK fun hE hK => opr_fldEy1 rfl hF.1 (hK _ _ (NewT.refl _) rfl)
          · exact fun a wx hT hF K hK => rely_if (rely_gt hF.2.1) (NewT.refl _) hK fun hE hK => opr_ldI (hT.row Rgx.out) (by decide) rfl rfl (hF.1 hE) (hK _ _ (NewT.refl _) rfl)
          · exact fun a wx hT hF K hK => rely_if (rely_gt hF.2.1) (NewT.refl _) hK fun hE hK => opr_move (.inl rfl) (hK _ _ (NewT.refl _) hF.1)
          · exact fun a wx hT hF K hK => rely_if (rely_gt hF.2.2.1) (NewT.refl _) hK fun hE hK => opr_cmp (b := x.step == t) (.inl ⟨rfl, rfl⟩) Tryd.underlying3 rfl (hF.1 hE) (hF.2.1 hE) (hK _ _ (NewT.refl _) rfl)
          · exact fun a wx hT hF K hK => rely_wp rfl (opr_pick_b rfl hF.1 (fun hb => hK _ _ (NewT.refl _) (pk_and1 (hF.2.1 hb) hb)) (fun hb => hK _ _ (NewT.refl _) (pk_and0 hb)))
          · exact fun a wx hT hF K hK => rely_wp rfl (opr_move (.inl rfl) (hK _ _ (NewT.refl _) hF.1))
          · exact fun a wx hT hF K hK => rely_if (rely_gt hF.2.1) (NewT.refl _) hK fun hE hK => opr_fldEy2 rfl hF.1 (hK _ _ (NewT.refl _) rfl)
          · exact fun a wx hT hF K hK => rely_if (rely_gt hF.2.1) (NewT.refl _) hK fun hE hK => opr_ldQ (hT.row Rgx.out) (by decide) rfl rfl (hF.1 hE) (hK _ _ (NewT.refl _) rfl)
          · exact fun a wx hT hF K hK => rely_if (rely_gt hF.2.1) (NewT.refl _) hK fun hE hK => opr_move (.inl rfl) (hK _ _ (NewT.refl _) hF.1)
          · exact fun a wx hT hF K hK => rely_if (rely_gt hF.2.2.1) (NewT.refl _) hK fun hE hK => opr_eqlQ (b := x.back == b) (rfl) rfl (hF.1 hE) (hF.2.1 hE) (hK _ _ (NewT.refl _) rfl)
          · exact fun a wx hT hF K hK => rely_wp rfl (opr_pick_b rfl hF.1 (fun hb => hK _ _ (NewT.refl _) (pn_and1 Q1_5 (hF.2.1 hb) hb)) (fun hb => hK _ _ (NewT.refl _) (pn_and0 Q1_5 hb)))
          · intro w4 k4
            iterate 5 (intro u h; obtain rfl := Eq.symm (h (by simp)); clear h)
            iterate 4 (intro _ _)
            iterate 2 (intro u h; obtain rfl := Eq.symm (h (by simp)); clear h)
            iterate 4 (intro _ _)
            intro u h; obtain rfl := Eq.symm (h (by simp)); clear h
            subst Q1_5
            refine relyEnd_nil rfl ?_
            refine wpList_end rfl ?_
            simp only [Act.put, List.setIfInBounds_toArray, List.set_cons_zero, List.set_cons_succ]
            go_simp
            replace Rg := Lib.hid (k4.row Rg.out)
            replace Rgx := Lib.hid (k4.row Rgx.out)
            replace HM := Lib.hid (NewT.trans _ _ _ HM.out k4)
            clear k4
            cases hb : ((((x.saga == s) && (x.step == t)) && (x.back == b)))
            · have HNX : Hid (hasE (L.drop (k + 1)) s t b = hasE L s t b) := Lib.hid (by rw [HDR.out, if_neg (by rw [show isE s t b x = false from hb]; simp)])
              clear hb
              have hk2 := HGE.out
              have hk3 := HLL.out
              go_wp2
              go_roundw
              case rel => exact ⟨k + 1, by omega, by go_num, by first | exact HM | trivial, HNX⟩
              case measure => simp [intOf]; omega
            · have HNX : Hid (hasE L s t b = some x.good) := Lib.hid (by rw [HDR.out, if_pos (show isE s t b x = true from hb)])
              clear hb
              go_upto_region 6 with fail
              refine wp_region_steps0 NewT [SV.eq (.pointer (some ⟨gx, 3, none⟩)), SV.eq (.bool (x.good))] [([(10, none)], none), ([(43, some 0)], none)] 45 2 rfl rfl (by kernel_rfl) NewT.trans (NewT.refl _) (Nat.le_of_ble_eq_true rfl) ⟨?_, ?_, trivial⟩ ?_
              · exact fun a wx hT hF K hK => rely_wp rfl (opr_fldEy3 rfl hF.1 (hK _ _ (NewT.refl _) rfl))
              · exact fun a wx hT hF K hK => rely_wp rfl (opr_ldQ (hT.row Rgx.out) (by decide) rfl rfl hF.1 (hK _ _ (NewT.refl _) rfl))
              · intro w5 k5
                iterate 2 (intro u h; obtain rfl := Eq.symm (h (by simp)); clear h)
                refine relyEnd_nil rfl ?_
                refine wpList_end rfl ?_
                simp only [Act.put, List.setIfInBounds_toArray, List.set_cons_zero, List.set_cons_succ]
                go_simp
                replace Rg := Lib.hid (k5.row Rg.out)
                replace Rgx := Lib.hid (k5.row Rgx.out)
                replace HM := Lib.hid (NewT.trans _ _ _ HM.out k5)
                clear k5
                cases hg : x.good
                · have HN0 : Hid (hasN L s t b = 1) := Lib.hid (by unfold hasN; rw [HNX.out, hg])
                  go_wp2
                  go_ret
                  exact ⟨_, rfl, HM.out, by rw [HN0.out]; rfl⟩
                · have HN0 : Hid (hasN L s t b = 2) := Lib.hid (by unfold hasN; rw [HNX.out, hg])
                  go_wp2
                  go_ret
                  exact ⟨_, rfl, HM.out, by rw [HN0.out]; rfl⟩
theorem its_ref (n : Int) (c : Cl) : ((((((((((!c.ans) && (c.part == n)) && (decide (0 ≤ c.saga))) && (decide (c.saga < 12))) && (decide (0 ≤ c.step))) && (decide (c.step < 6))) && (decide (1 ≤ c.kind))) && (decide (c.kind ≤ 3))) && (decide (1 ≤ c.tr))) && (decide (c.tr ≤ 9))) = itsB n c := by
  rw [Bool.eq_iff_iff, its_iff]
  simp only [Bool.and_eq_true, Bool.not_eq_true', beq_iff_eq, decide_eq_true_eq]
  constructor
  · rintro ⟨⟨⟨⟨⟨⟨⟨⟨⟨h0, h1⟩, h2⟩, h3⟩, h4⟩, h5⟩, h6⟩, h7⟩, h8⟩, h9⟩
    exact ⟨h0, h1, by omega, by omega, by omega, by omega⟩
  · rintro ⟨h0, h1, h2, h3, h4, h5⟩
    exact ⟨⟨⟨⟨⟨⟨⟨⟨⟨h0, h1⟩, by omega⟩, by omega⟩, by omega⟩, by omega⟩, by omega⟩, by omega⟩, by omega⟩, by omega⟩
set_option maxHeartbeats 1000000 in
theorem rIts_cv (c : Cl) {g : Nat} {n e need : Int} {pv wv sv : Value} (w : World) (hr : w.rowIs g 42 6 (rpF pv wv need n e sv)) : Cv 32 #[.pointer (some ⟨g, 0, none⟩), .agg (rowA 41 (clF c))] w (.eq (.bool (itsB n c))) := by
  unfold Cv
  have HR := Lib.hid hr
  clear hr
  go_enter Tryd.func32, Tryd.ntmps32
  go_upto_region 1 with fail
  have r_g1 := rowIs_box w 34 41 (clF c)
  have hN : NewT w (w.alloc (.cells (rowA 41 (clF c)) 34)) := NewT.alloc _ _
  change Code.wp _ _ _ _ (w.alloc (.cells (rowA 41 (clF c)) 34))
  generalize (w.alloc (.cells (rowA 41 (clF c)) 34)) = W0 at r_g1 hN ⊢
  obtain ⟨g1, h_g1⟩ : ∃ g_, w.heap.size = g_ := ⟨_, rfl⟩
  have HG : Hid (w.heap.size ≤ g1) := Lib.hid (by omega)
  rw [h_g1] at r_g1
  simp only [h_g1]
  have Rg1 := Lib.hid r_g1
  have HM := Lib.hid hN
  clear r_g1 hN h_g1
  have Rg := Lib.hid (HM.out.row HR.out)
  go_upto_region 1 with fail
  obtain ⟨q1_1, Q1_1⟩ : ∃ bq_, (((!c.ans) && (c.part == n)) && (decide (0 ≤ c.saga))) = bq_ := ⟨_, rfl⟩
  obtain ⟨q2_1, Q2_1⟩ : ∃ bq_, ((q1_1 && (decide (c.saga < 12))) && (decide (0 ≤ c.step))) = bq_ := ⟨_, rfl⟩
  obtain ⟨q3_1, Q3_1⟩ : ∃ bq_, ((q2_1 && (decide (c.step < 6))) && (decide (1 ≤ c.kind))) = bq_ := ⟨_, rfl⟩
  obtain ⟨q4_1, Q4_1⟩ : ∃ bq_, ((q3_1 && (decide (c.kind ≤ 3))) && (decide (1 ≤ c.tr))) = bq_ := ⟨_, rfl⟩
  refine wp_region_rely (NewT) [SV.eq (.pointer (some ⟨g1, 6, none⟩)), SV.eq (.bool (c.ans)), SV.eq (.bool (!c.ans)), SV.eq (.bool (!c.ans)), svIf (!c.ans) (SV.eq (.pointer (some ⟨g1, 4, none⟩))), svIf (!c.ans) (SV.eq (.int .i64 (c.part))), svIf (!c.ans) (SV.eq (.pointer (some ⟨g, 0, none⟩))), svIf (!c.ans) (SV.eq (.pointer (some ⟨g, 0, none⟩))), svIf (!c.ans) (SV.eq (.pointer (some ⟨g, 3, none⟩))), svIf (!c.ans) (SV.eq (.int .i64 (n))), svIf (!c.ans) (SV.eq (.bool (c.part == n))), SV.eq (.bool ((!c.ans) && (c.part == n))), SV.eq (.bool ((!c.ans) && (c.part == n))), svIf ((!c.ans) && (c.part == n)) (SV.eq (.pointer (some ⟨g1, 0, none⟩))), svIf ((!c.ans) && (c.part == n)) (SV.eq (.int .i64 (c.saga))), svIf ((!c.ans) && (c.part == n)) (SV.eq (.bool (decide (0 ≤ c.saga)))), SV.eq (.bool (q1_1)), SV.eq (.bool (q1_1)), svIf q1_1 (SV.eq (.pointer (some ⟨g1, 0, none⟩))), svIf q1_1 (SV.eq (.int .i64 (c.saga))), svIf q1_1 (SV.eq (.bool (decide (c.saga < 12)))), SV.eq (.bool (q1_1 && (decide (c.saga < 12)))), SV.eq (.bool (q1_1 && (decide (c.saga < 12)))), svIf (q1_1 && (decide (c.saga < 12))) (SV.eq (.pointer (some ⟨g1, 1, none⟩))), svIf (q1_1 && (decide (c.saga < 12))) (SV.eq (.int .i64 (c.step))), svIf (q1_1 && (decide (c.saga < 12))) (SV.eq (.bool (decide (0 ≤ c.step)))), SV.eq (.bool (q2_1)), SV.eq (.bool (q2_1)), svIf q2_1 (SV.eq (.pointer (some ⟨g1, 1, none⟩))), svIf q2_1 (SV.eq (.int .i64 (c.step))), svIf q2_1 (SV.eq (.bool (decide (c.step < 6)))), SV.eq (.bool (q2_1 && (decide (c.step < 6)))), SV.eq (.bool (q2_1 && (decide (c.step < 6)))), svIf (q2_1 && (decide (c.step < 6))) (SV.eq (.pointer (some ⟨g1, 5, none⟩))), svIf (q2_1 && (decide (c.step < 6))) (SV.eq (.int .i64 (c.kind))), svIf (q2_1 && (decide (c.step < 6))) (SV.eq (.bool (decide (1 ≤ c.kind)))), SV.eq (.bool (q3_1)), SV.eq (.bool (q3_1)), svIf q3_1 (SV.eq (.pointer (some ⟨g1, 5, none⟩))), svIf q3_1 (SV.eq (.int .i64 (c.kind))), svIf q3_1 (SV.eq (.bool (decide (c.kind ≤ 3)))), SV.eq (.bool (q3_1 && (decide (c.kind ≤ 3)))), SV.eq (.bool (q3_1 && (decide (c.kind ≤ 3)))), svIf (q3_1 && (decide (c.kind ≤ 3))) (SV.eq (.pointer (some ⟨g1, 2, none⟩))), svIf (q3_1 && (decide (c.kind ≤ 3))) (SV.eq (.int .i64 (c.tr))), svIf (q3_1 && (decide (c.kind ≤ 3))) (SV.eq (.bool (decide (1 ≤ c.tr)))), SV.eq (.bool (q4_1)), SV.eq (.bool (q4_1)), svIf q4_1 (SV.eq (.pointer (some ⟨g1, 2, none⟩))), svIf q4_1 (SV.eq (.int .i64 (c.tr))), svIf q4_1 (SV.eq (.bool (decide (c.tr ≤ 9)))), SV.eq (.bool (q4_1 && (decide (c.tr ≤ 9))))] [([(3, none)], none), ([(5, some 0)], none), ([(6, some 1)], none), ([(7, some 2)], none), ([(3, none), (8, some 3)], some (8, true)), ([(9, some 4), (8, some 3)], some (8, true)), ([(0, none), (8, some 3)], some (8, true)), ([(11, some 6), (8, some 3)], some (8, true)), ([(12, some 7), (8, some 3)], some (8, true)), ([(13, some 8), (8, some 3)], some (8, true)), ([(10, some 5), (14, some 9), (8, some 3)], some (8, true)), ([(8, some 3), (15, some 10)], none), ([(16, some 11)], none), ([(3, none), (17, some 12)], some (17, true)), ([(18, some 13), (17, some 12)], some (17, true)), ([(19, some 14), (17, some 12)], some (17, true)), ([(17, some 12), (20, some 15)], none), ([(21, some 16)], none), ([(3, none), (22, some 17)], some (22, true)), ([(23, some 18), (22, some 17)], some (22, true)), ([(24, some 19), (22, some 17)], some (22, true)), ([(22, some 17), (25, some 20)], none), ([(26, some 21)], none), ([(3, none), (27, some 22)], some (27, true)), ([(28, some 23), (27, some 22)], some (27, true)), ([(29, some 24), (27, some 22)], some (27, true)), ([(27, some 22), (30, some 25)], none), ([(31, some 26)], none), ([(3, none), (32, some 27)], some (32, true)), ([(33, some 28), (32, some 27)], some (32, true)), ([(34, some 29), (32, some 27)], some (32, true)), ([(32, some 27), (35, some 30)], none), ([(36, some 31)], none), ([(3, none), (37, some 32)], some (37, true)), ([(38, some 33), (37, some 32)], some (37, true)), ([(39, some 34), (37, some 32)], some (37, true)), ([(37, some 32), (40, some 35)], none), ([(41, some 36)], none), ([(3, none), (42, some 37)], some (42, true)), ([(43, some 38), (42, some 37)], some (42, true)), ([(44, some 39), (42, some 37)], some (42, true)), ([(42, some 37), (45, some 40)], none), ([(46, some 41)], none), ([(3, none), (47, some 42)], some (47, true)), ([(48, some 43), (47, some 42)], some (47, true)), ([(49, some 44), (47, some 42)], some (47, true)), ([(47, some 42), (50, some 45)], none), ([(51, some 46)], none), ([(3, none), (52, some 47)], some (52, true)), ([(53, some 48), (52, some 47)], some (52, true)), ([(54, some 49), (52, some 47)], some (52, true)), ([(52, some 47), (55, some 50)], none)] 57 rfl (by kernel_rfl) rfl (by kernel_rfl) (by kernel_rfl) rfl NewT.trans (NewT.drew _) (Nat.le_of_ble_eq_true rfl) ⟨?_, ?_, ?_, ?_, ?_, ?_, ?_, ?_, ?_, ?_, ?_, ?_, ?_, ?_, ?_, ?_, ?_, ?_, ?_, ?_, ?_, ?_, ?_, ?_, ?_, ?_, ?_, ?_, ?_, ?_, ?_, ?_, ?_, ?_, ?_, ?_, ?_, ?_, ?_, ?_, ?_, ?_, ?_, ?_, ?_, ?_, ?_, ?_, ?_, ?_, ?_, ?_, trivial⟩ ?_
  · exact fun a wx hT hF K hK => rely_wp rfl (opr_fldCl6 rfl hF.1 (hK _ _ (NewT.refl _) rfl))
  · exact fun a wx hT hF K hK => rely_wp rfl (opr_ldQ (hT.row Rg1.out) (by decide) rfl rfl hF.1 (hK _ _ (NewT.refl _) rfl))
  · exact fun a wx hT hF K hK => rely_wp rfl (opr_not rfl hF.1 (hK _ _ (NewT.refl _) rfl))
  · exact fun a wx hT hF K hK => rely_wp rfl (opr_move (.inl rfl) (hK _ _ (NewT.refl _) hF.1))
  · exact fun a wx hT hF K hK => rely_if (rely_gt hF.2.1) (NewT.refl _) hK fun hE hK => opr_fldCl4 rfl hF.1 (hK _ _ (NewT.refl _) rfl)
  · exact fun a wx hT hF K hK => rely_if (rely_gt hF.2.1) (NewT.refl _) hK fun hE hK => opr_ldI (hT.row Rg1.out) (by decide) rfl rfl (hF.1 hE) (hK _ _ (NewT.refl _) rfl)
  · exact fun a wx hT hF K hK => rely_if (rely_gt hF.2.1) (NewT.refl _) hK fun hE hK => opr_move (.inl rfl) (hK _ _ (NewT.refl _) hF.1)
  · exact fun a wx hT hF K hK => rely_if (rely_gt hF.2.1) (NewT.refl _) hK fun hE hK => opr_nilc rfl (hF.1 hE) (hK _ _ (NewT.refl _) rfl)
  · exact fun a wx hT hF K hK => rely_if (rely_gt hF.2.1) (NewT.refl _) hK fun hE hK => opr_fldRp1 rfl (hF.1 hE) (hK _ _ (NewT.refl _) rfl)
  · exact fun a wx hT hF K hK => rely_if (rely_gt hF.2.1) (NewT.refl _) hK fun hE hK => opr_ldI (hT.row Rg.out) (by decide) rfl rfl (hF.1 hE) (hK _ _ (NewT.refl _) rfl)
  · exact fun a wx hT hF K hK => rely_if (rely_gt hF.2.2.1) (NewT.refl _) hK fun hE hK => opr_cmp (b := c.part == n) (.inl ⟨rfl, rfl⟩) Tryd.underlying3 rfl (hF.1 hE) (hF.2.1 hE) (hK _ _ (NewT.refl _) rfl)
  · exact fun a wx hT hF K hK => rely_wp rfl (opr_pick_b rfl hF.1 (fun hb => hK _ _ (NewT.refl _) (pk_and1 (hF.2.1 hb) hb)) (fun hb => hK _ _ (NewT.refl _) (pk_and0 hb)))
  · exact fun a wx hT hF K hK => rely_wp rfl (opr_move (.inl rfl) (hK _ _ (NewT.refl _) hF.1))
  · exact fun a wx hT hF K hK => rely_if (rely_gt hF.2.1) (NewT.refl _) hK fun hE hK => opr_fldCl0 rfl hF.1 (hK _ _ (NewT.refl _) rfl)
  · exact fun a wx hT hF K hK => rely_if (rely_gt hF.2.1) (NewT.refl _) hK fun hE hK => opr_ldI (hT.row Rg1.out) (by decide) rfl rfl (hF.1 hE) (hK _ _ (NewT.refl _) rfl)
  · exact fun a wx hT hF K hK => rely_if (rely_gt hF.2.1) (NewT.refl _) hK fun hE hK => opr_cmp (b := decide (0 ≤ c.saga)) (.inr (.inr (.inr (.inr (.inr (⟨rfl, rfl⟩)))))) Tryd.underlying3 rfl (hF.1 hE) rfl (hK _ _ (NewT.refl _) rfl)
  · exact fun a wx hT hF K hK => rely_wp rfl (opr_pick_b rfl hF.1 (fun hb => hK _ _ (NewT.refl _) (pn_and1 Q1_1 (hF.2.1 hb) hb)) (fun hb => hK _ _ (NewT.refl _) (pn_and0 Q1_1 hb)))
  · exact fun a wx hT hF K hK => rely_wp rfl (opr_move (.inl rfl) (hK _ _ (NewT.refl _) hF.1))
  · exact fun a wx hT hF K hK => rely_if (rely_gt hF.2.1) (NewT.refl _) hK fun hE hK => opr_fldCl0 rfl hF.1 (hK _ _ (NewT.refl _) rfl)
  · exact fun a wx hT hF K hK => rely_if (rely_gt hF.2.1) (NewT.refl _) hK fun hE hK => opr_ldI (hT.row Rg1.out) (by decide) rfl rfl (hF.1 hE) (hK _ _ (NewT.refl _) rfl)
  · exact fun a wx hT hF K hK => rely_if (rely_gt hF.2.1) (NewT.refl _) hK fun hE hK => opr_cmp (b := decide (c.saga < 12)) (.inr (.inr (.inr (.inl ⟨rfl, rfl⟩)))) Tryd.underlying3 rfl (hF.1 hE) rfl (hK _ _ (NewT.refl _) rfl)
  · exact fun a wx hT hF K hK => rely_wp rfl (opr_pick_b rfl hF.1 (fun hb => hK _ _ (NewT.refl _) (pk_and1 (hF.2.1 hb) hb)) (fun hb => hK _ _ (NewT.refl _) (pk_and0 hb)))
  · exact fun a wx hT hF K hK => rely_wp rfl (opr_move (.inl rfl) (hK _ _ (NewT.refl _) hF.1))
  · exact fun a wx hT hF K hK => rely_if (rely_gt hF.2.1) (NewT.refl _) hK fun hE hK => opr_fldCl1 rfl hF.1 (hK _ _ (NewT.refl _) rfl)
  · exact fun a wx hT hF K hK => rely_if (rely_gt hF.2.1) (NewT.refl _) hK fun hE hK => opr_ldI (hT.row Rg1.out) (by decide) rfl rfl (hF.1 hE) (hK _ _ (NewT.refl _) rfl)
  · exact fun a wx hT hF K hK => rely_if (rely_gt hF.2.1) (NewT.refl _) hK fun hE hK => opr_cmp (b := decide (0 ≤ c.step)) (.inr (.inr (.inr (.inr (.inr (⟨rfl, rfl⟩)))))) Tryd.underlying3 rfl (hF.1 hE) rfl (hK _ _ (NewT.refl _) rfl)
  · exact fun a wx hT hF K hK => rely_wp rfl (opr_pick_b rfl hF.1 (fun hb => hK _ _ (NewT.refl _) (pn_and1 Q2_1 (hF.2.1 hb) hb)) (fun hb => hK _ _ (NewT.refl _) (pn_and0 Q2_1 hb)))
  · exact fun a wx hT hF K hK => rely_wp rfl (opr_move (.inl rfl) (hK _ _ (NewT.refl _) hF.1))
  · exact fun a wx hT hF K hK => rely_if (rely_gt hF.2.1) (NewT.refl _) hK fun hE hK => opr_fldCl1 rfl hF.1 (hK _ _ (NewT.refl _) rfl)
  · exact fun a wx hT hF K hK => rely_if (rely_gt hF.2.1) (NewT.refl _) hK fun hE hK => opr_ldI (hT.row Rg1.out) (by decide) rfl rfl (hF.1 hE) (hK _ _ (NewT.refl _) rfl)
  · exact fun a wx hT hF K hK => rely_if (rely_gt hF.2.1) (NewT.refl _) hK fun hE hK => opr_cmp (b := decide (c.step < 6)) (.inr (.inr (.inr (.inl ⟨rfl, rfl⟩)))) Tryd.underlying3 rfl (hF.1 hE) rfl (hK _ _ (NewT.refl _) rfl)
  · exact fun a wx hT hF K hK => rely_wp rfl (opr_pick_b rfl hF.1 (fun hb => hK _ _ (NewT.refl _) (pk_and1 (hF.2.1 hb) hb)) (fun hb => hK _ _ (NewT.refl _) (pk_and0 hb)))
  · exact fun a wx hT hF K hK => rely_wp rfl (opr_move (.inl rfl) (hK _ _ (NewT.refl _) hF.1))
  · exact fun a wx hT hF K hK => rely_if (rely_gt hF.2.1) (NewT.refl _) hK fun hE hK => opr_fldCl5 rfl hF.1 (hK _ _ (NewT.refl _) rfl)
  · exact fun a wx hT hF K hK => rely_if (rely_gt hF.2.1) (NewT.refl _) hK fun hE hK => opr_ldI (hT.row Rg1.out) (by decide) rfl rfl (hF.1 hE) (hK _ _ (NewT.refl _) rfl)
  · exact fun a wx hT hF K hK => rely_if (rely_gt hF.2.1) (NewT.refl _) hK fun hE hK => opr_cmp (b := decide (1 ≤ c.kind)) (.inr (.inr (.inr (.inr (.inr (⟨rfl, rfl⟩)))))) Tryd.underlying3 rfl (hF.1 hE) rfl (hK _ _ (NewT.refl _) rfl)
  · exact fun a wx hT hF K hK => rely_wp rfl (opr_pick_b rfl hF.1 (fun hb => hK _ _ (NewT.refl _) (pn_and1 Q3_1 (hF.2.1 hb) hb)) (fun hb => hK _ _ (NewT.refl _) (pn_and0 Q3_1 hb)))
  · exact fun a wx hT hF K hK => rely_wp rfl (opr_move (.inl rfl) (hK _ _ (NewT.refl _) hF.1))
  · exact fun a wx hT hF K hK => rely_if (rely_gt hF.2.1) (NewT.refl _) hK fun hE hK => opr_fldCl5 rfl hF.1 (hK _ _ (NewT.refl _) rfl)
  · exact fun a wx hT hF K hK => rely_if (rely_gt hF.2.1) (NewT.refl _) hK fun hE hK => opr_ldI (hT.row Rg1.out) (by decide) rfl rfl (hF.1 hE) (hK _ _ (NewT.refl _) rfl)
  · exact fun a wx hT hF K hK => rely_if (rely_gt hF.2.1) (NewT.refl _) hK fun hE hK => opr_cmp (b := decide (c.kind ≤ 3)) (.inr (.inr (.inl ⟨rfl, rfl⟩))) Tryd.underlying3 rfl (hF.1 hE) rfl (hK _ _ (NewT.refl _) rfl)
  · exact fun a wx hT hF K hK => rely_wp rfl (opr_pick_b rfl hF.1 (fun hb => hK _ _ (NewT.refl _) (pk_and1 (hF.2.1 hb) hb)) (fun hb => hK _ _ (NewT.refl _) (pk_and0 hb)))
  · exact fun a wx hT hF K hK => rely_wp rfl (opr_move (.inl rfl) (hK _ _ (NewT.refl _) hF.1))
  · exact fun a wx hT hF K hK => rely_if (rely_gt hF.2.1) (NewT.refl _) hK fun hE hK => opr_fldCl2 rfl hF.1 (hK _ _ (NewT.refl _) rfl)
  · exact fun a wx hT hF K hK => rely_if (rely_gt hF.2.1) (NewT.refl _) hK fun hE hK => opr_ldI (hT.row Rg1.out) (by decide) rfl rfl (hF.1 hE) (hK _ _ (NewT.refl _) rfl)
  · exact fun a wx hT hF K hK => rely_if (rely_gt hF.2.1) (NewT.refl _) hK fun hE hK => opr_cmp (b := decide (1 ≤ c.tr)) (.inr (.inr (.inr (.inr (.inr (⟨rfl, rfl⟩)))))) Tryd.underlying3 rfl (hF.1 hE) rfl (hK _ _ (NewT.refl _) rfl)
  · exact fun a wx hT hF K hK => rely_wp rfl (opr_pick_b rfl hF.1 (fun hb => hK _ _ (NewT.refl _) (pn_and1 Q4_1 (hF.2.1 hb) hb)) (fun hb => hK _ _ (NewT.refl _) (pn_and0 Q4_1 hb)))
  · exact fun a wx hT hF K hK => rely_wp rfl (opr_move (.inl rfl) (hK _ _ (NewT.refl _) hF.1))
  · exact fun a wx hT hF K hK => rely_if (rely_gt hF.2.1) (NewT.refl _) hK fun hE hK => opr_fldCl2 rfl hF.1 (hK _ _ (NewT.refl _) rfl)
  · exact fun a wx hT hF K hK => rely_if (rely_gt hF.2.1) (NewT.refl _) hK fun hE hK => opr_ldI (hT.row Rg1.out) (by decide) rfl rfl (hF.1 hE) (hK _ _ (NewT.refl _) rfl)
  · exact fun a wx hT hF K hK => rely_if (rely_gt hF.2.1) (NewT.refl _) hK fun hE hK => opr_cmp (b := decide (c.tr ≤ 9)) (.inr (.inr (.inl ⟨rfl, rfl⟩))) Tryd.underlying3 rfl (hF.1 hE) rfl (hK _ _ (NewT.refl _) rfl)
  · exact fun a wx hT hF K hK => rely_wp rfl (opr_pick_b rfl hF.1 (fun hb => hK _ _ (NewT.refl _) (pk_and1 (hF.2.1 hb) hb)) (fun hb => hK _ _ (NewT.refl _) (pk_and0 hb)))
  · intro w1 k1
    iterate 4 (intro u h; obtain rfl := Eq.symm (h (by simp)); clear h)
    iterate 7 (intro _ _)
    iterate 2 (intro u h; obtain rfl := Eq.symm (h (by simp)); clear h)
    iterate 3 (intro _ _)
    iterate 2 (intro u h; obtain rfl := Eq.symm (h (by simp)); clear h)
    iterate 3 (intro _ _)
    iterate 2 (intro u h; obtain rfl := Eq.symm (h (by simp)); clear h)
    iterate 3 (intro _ _)
    iterate 2 (intro u h; obtain rfl := Eq.symm (h (by simp)); clear h)
    iterate 3 (intro _ _)
    iterate 2 (intro u h; obtain rfl := Eq.symm (h (by simp)); clear h)
    iterate 3 (intro _ _)
    iterate 2 (intro u h; obtain rfl := Eq.symm (h (by simp)); clear h)
    iterate 3 (intro _ _)
    iterate 2 (intro u h; obtain rfl := Eq.symm (h (by simp)); clear h)
    iterate 3 (intro _ _)
    iterate 2 (intro u h; obtain rfl := Eq.symm (h (by simp)); clear h)
    iterate 3 (intro _ _)
    intro u h; obtain rfl := Eq.symm (h (by simp)); clear h
    subst Q4_1 Q3_1 Q2_1 Q1_1
    refine relyEnd_nil rfl ?_
    simp only [Act.put, List.setIfInBounds_toArray, List.set_cons_zero, List.set_cons_succ]
    refine opr_move (.inr rfl) ?_
    go_simp
    replace Rg1 := Lib.hid (k1.row Rg1.out)
    replace Rg := Lib.hid (k1.row Rg.out)
    replace HM := Lib.hid (NewT.trans _ _ _ HM.out k1)
    clear k1
    have HX : ((((((((((!c.ans) && (c.part == n)) && (decide (0 ≤ c.saga))) && (decide (c.saga < 12))) && (decide (0 ≤ c.step))) && (decide (c.step < 6))) && (decide (1 ≤ c.kind))) && (decide (c.kind ≤ 3))) && (decide (1 ≤ c.tr))) && (decide (c.tr ≤ 9))) = itsB n c := its_ref n c
    go_wp2
    go_ret
    exact ⟨_, rfl, HM.out, by first | rfl | exact congrArg Value.bool HX | (rw [← HX])⟩
set_option maxHeartbeats 1000000 in
theorem rC2_cv (c : Cl) (w : World) : Cv 34 #[.agg (rowA 41 (clF c))] w (.eq (.agg (rowA 41 (clF (c2C c))))) := by
  unfold Cv
  go_enter Tryd.func34, Tryd.ntmps34
  go_upto_region 1 with fail
  have r_g1 := (rowIs_box w 34 41 (clF c)).alloc (.cells (rowA 41 (clF zC)) 34)
  have r_g2 := rowIs_box (w.alloc (.cells (rowA 41 (clF c)) 34)) 34 41 (clF zC)
  rw [World.size_alloc] at r_g2
  have hN : NewT w ((w.alloc (.cells (rowA 41 (clF c)) 34)).alloc (.cells (rowA 41 (clF zC)) 34)) := (NewT.trans _ _ _ (NewT.alloc _ _) (NewT.alloc _ _))
  change Code.wp _ _ _ _ ((w.alloc (.cells (rowA 41 (clF c)) 34)).alloc (.cells (rowA 41 (clF zC)) 34))
  generalize ((w.alloc (.cells (rowA 41 (clF c)) 34)).alloc (.cells (rowA 41 (clF zC)) 34)) = W0 at r_g1 r_g2 hN ⊢
  obtain ⟨g1, h_g1⟩ : ∃ g_, w.heap.size = g_ := ⟨_, rfl⟩
  obtain ⟨g2, h_g2⟩ : ∃ g_, w.heap.size + 1 = g_ := ⟨_, rfl⟩
  have HG : Hid (w.heap.size ≤ g1 ∧ g1 < g2) := Lib.hid (by omega)
  rw [h_g1] at r_g1
  rw [h_g2] at r_g2
  try rw [h_g2]
  simp only [h_g1]
  have Rg1 := Lib.hid r_g1
  have Rg2 := Lib.hid r_g2
  have HM := Lib.hid hN
  clear r_g1 r_g2 hN h_g1 h_g2
  go_upto_region 1 with fail
  refine wp_region_steps0 NewT [SV.eq (.pointer (some ⟨g1, 6, none⟩))] [([(1, none)], none)] 5 1 rfl rfl (by kernel_rfl) NewT.trans (NewT.refl _) (Nat.le_of_ble_eq_true rfl) ⟨?_, trivial⟩ ?_
  · exact fun a wx hT hF K hK => rely_wp rfl (opr_fldCl6 rfl hF.1 (hK _ _ (NewT.refl _) rfl))
  · intro w1 k1
    intro u h; obtain rfl := Eq.symm (h (by simp)); clear h
    refine relyEnd_nil rfl ?_
    simp only [Act.put, List.setIfInBounds_toArray, List.set_cons_zero, List.set_cons_succ]
    refine wpList_plain rfl (fun K hK => ?_)
    refine opr_put1 (g := g1) (o0 := 6) (v := .bool false) (F := clF ((c2C c))) rfl rfl rfl (k1.row Rg1.out) (by decide) info_b1 rfl (cl_ans c false) ?_
    intro W1 hR1 rr1
    refine hK _ _ ?_
    clear hK K
    refine wpList_end rfl ?_
    simp only [Act.put, List.setIfInBounds_toArray, List.set_cons_zero, List.set_cons_succ]
    go_simp
    replace Rg1 := Lib.hid rr1
    replace Rg2 := Lib.hid (hR1.row (by have h_0 := HG.out; omega) (k1.row Rg2.out))
    replace HM := Lib.hid (NewT.rt (NewT.trans _ _ _ HM.out k1) hR1 (by have h_0 := HG.out; omega))
    clear k1 hR1 rr1
    go_upto_region 2 with fail
    refine wp_region_steps0 NewT [SV.eq (.agg (rowA 41 (clF ((c2C c)))))] [([(1, none)], none)] 5 1 rfl rfl (by kernel_rfl) NewT.trans (NewT.refl _) (Nat.le_of_ble_eq_true rfl) ⟨?_, trivial⟩ ?_
    · exact fun a wx hT hF K hK => rely_wp rfl (opr_ldCl (hT.row Rg1.out) rfl hF.1 (hK _ _ (NewT.refl _) rfl))
    · intro w2 k2
      intro u h; obtain rfl := Eq.symm (h (by simp)); clear h
      refine relyEnd_nil rfl ?_
      simp only [Act.put, List.setIfInBounds_toArray, List.set_cons_zero, List.set_cons_succ]
      refine wpList_plain rfl (fun K hK => ?_)
      refine opr_putm (g := g2) (o0 := 0) (m := 41) (f := clF ((c2C c))) (F := clF ((c2C c))) rfl rfl rfl (k2.row Rg2.out) (by decide) info_cl (clF_one _) (put_allN _ _ _) ?_
      intro W2 hR2 rr2
      refine hK _ _ ?_
      clear hK K
      refine wpList_end rfl ?_
      simp only [Act.put, List.setIfInBounds_toArray, List.set_cons_zero, List.set_cons_succ]
      go_simp
      replace Rg2 := Lib.hid rr2
      replace Rg1 := Lib.hid (hR2.row (by have h_0 := HG.out; omega) (k2.row Rg1.out))
      replace HM := Lib.hid (NewT.rt (NewT.trans _ _ _ HM.out k2) hR2 (by have h_0 := HG.out; omega))
      clear k2 hR2 rr2
      go_wp2
      exact bodyPost_ret (results_agg rfl _ rfl Rg2.out Tryd.underlying34 rfl info_cl) rfl ⟨_, rfl, HM.out, rfl⟩
set_option maxHeartbeats 1000000 in
theorem rEntries_cv {va vb : Value} (L : List En) (w : World) (ha : RdL 4 eyE w va L) (hb : RdL 4 eyE w vb L) (hn : L.length ≤ 1000000) : Cv 18 #[va, vb] w (.eq (.bool true)) := by
  unfold Cv
  go_enter Tryd.func18, Tryd.ntmps18
  have HA := Lib.hid ha
  have HB := Lib.hid hb
  have HLL := Lib.hid hn
  have HM := Lib.hid (NewT.refl w)
  clear ha hb hn
  go_upto_region 1 with fail
  refine wp_region_steps0 NewT [SV.eq (va), SV.eq (.int .i64 ((List.length (L) : Int))), SV.eq (vb), SV.eq (.int .i64 ((List.length (L) : Int))), SV.eq (.bool false)] [([(0, none)], none), ([(6, some 0)], none), ([(1, none)], none), ([(8, some 2)], none), ([(7, some 1), (9, some 3)], none)] 26 5 rfl rfl (by kernel_rfl) NewT.trans (NewT.refl _) (Nat.le_of_ble_eq_true rfl) ⟨?_, ?_, ?_, ?_, ?_, trivial⟩ ?_
  · exact fun a wx hT hF K hK => rely_wp rfl (opr_move (.inl rfl) (hK _ _ (NewT.refl _) hF.1))
  · intro a wx hT hF K hK
    obtain ⟨f6, _⟩ := hF
    have f6 : a.tmps.getD 6 undef = va := f6
    refine rely_wp rfl ?_
    exact opr_lenL rfl entEl (by rw [eval_tmp, f6]; exact (HA.out.new (NewT.trans _ _ _ HM.out hT))) (hK _ _ (NewT.refl _) rfl)
  · exact fun a wx hT hF K hK => rely_wp rfl (opr_move (.inl rfl) (hK _ _ (NewT.refl _) hF.1))
  · intro a wx hT hF K hK
    obtain ⟨f8, _⟩ := hF
    have f8 : a.tmps.getD 8 undef = vb := f8
    refine rely_wp rfl ?_
    exact opr_lenL rfl entEl (by rw [eval_tmp, f8]; exact (HB.out.new (NewT.trans _ _ _ HM.out hT))) (hK _ _ (NewT.refl _) rfl)
  · exact fun a wx hT hF K hK => rely_wp rfl (opr_cmp (b := false) (.inr (.inl ⟨rfl, (by exact bne_self_eq_false _)⟩)) Tryd.underlying3 rfl hF.1 hF.2.1 (hK _ _ (NewT.refl _) rfl))
  · intro w1 k1
    iterate 5 (intro u h; obtain rfl := Eq.symm (h (by simp)); clear h)
    refine relyEnd_nil rfl ?_
    refine wpList_end rfl ?_
    simp only [Act.put, List.setIfInBounds_toArray, List.set_cons_zero, List.set_cons_succ]
    go_simp
    replace HM := Lib.hid (NewT.trans _ _ _ HM.out k1)
    clear k1
    go_wp2
    go_loopw [5] (fun i wr => ∃ k : Nat, k ≤ L.length ∧ i = .int .i64 (k : Int) ∧ Hid (NewT w wr)) (fun i _ => L.length - (intOf i).toNat)
    case atStart => exact ⟨0, by omega, rfl, HM⟩
    case round =>
      clear HM
      obtain ⟨k, hk, rfl, HM⟩ := hrel
      by_cases hlt : k < L.length
      rotate_left
      · have HGE : Hid (¬ (k : Int) < (L.length : Int)) := Lib.hid (by omega)
        clear hlt hk
        go_upto_region 4 with fail
        refine wp_region_steps0 NewT [SV.eq (.int .i64 ((k : Int))), SV.eq (va), SV.eq (.int .i64 ((List.length (L) : Int))), SV.eq (.bool false)] [([(5, none)], none), ([(0, none)], none), ([(12, some 1)], none), ([(11, some 0), (13, some 2)], none)] 26 4 rfl rfl (by kernel_rfl) NewT.trans (NewT.refl _) (Nat.le_of_ble_eq_true rfl) ⟨?_, ?_, ?_, ?_, trivial⟩ ?_
        · exact fun a wx hT hF K hK => rely_wp rfl (opr_move (.inl rfl) (hK _ _ (NewT.refl _) hF.1))
        · exact fun a wx hT hF K hK => rely_wp rfl (opr_move (.inl rfl) (hK _ _ (NewT.refl _) hF.1))
        · intro a wx hT hF K hK
          obtain ⟨f12, _⟩ := hF
          have f12 : a.tmps.getD 12 undef = va := f12
          refine rely_wp rfl ?_
          exact opr_lenL rfl entEl (by rw [eval_tmp, f12]; exact (HA.out.new (NewT.trans _ _ _ HM.out hT))) (hK _ _ (NewT.refl _) rfl)
        · exact fun a wx hT hF K hK => rely_wp rfl (opr_cmp (b := false) (.inr (.inr (.inr (.inl ⟨rfl, (by exact decide_eq_false HGE.out)⟩)))) Tryd.underlying3 rfl hF.1 hF.2.1 (hK _ _ (NewT.refl _) rfl))
        · intro w2 k2
          iterate 4 (intro u h; obtain rfl := Eq.symm (h (by simp)); clear h)
          refine relyEnd_nil rfl ?_
          refine wpList_end rfl ?_
          simp only [Act.put, List.setIfInBounds_toArray, List.set_cons_zero, List.set_cons_succ]
          go_simp
          replace HM := Lib.hid (NewT.trans _ _ _ HM.out k2)
          clear k2
          go_wp2
          go_ret
          exact ⟨_, rfl, HM.out, rfl⟩
      · obtain ⟨e, he⟩ : ∃ e, L[k]? = some e := ⟨_, List.getElem?_eq_getElem hlt⟩
        have HEE := Lib.hid he
        have HGE : Hid ((k : Int) < (L.length : Int)) := Lib.hid (by omega)
        clear hlt he
        go_upto_region 4 with fail
        refine wp_region_steps0 NewT [SV.eq (.int .i64 ((k : Int))), SV.eq (va), SV.eq (.int .i64 ((List.length (L) : Int))), SV.eq (.bool true)] [([(5, none)], none), ([(0, none)], none), ([(12, some 1)], none), ([(11, some 0), (13, some 2)], none)] 26 4 rfl rfl (by kernel_rfl) NewT.trans (NewT.refl _) (Nat.le_of_ble_eq_true rfl) ⟨?_, ?_, ?_, ?_, trivial⟩ ?_
        · exact fun a wx hT hF K hK => rely_wp rfl (opr_move (.inl rfl) (hK _ _ (NewT.refl _) hF.1))
        · exact fun a wx hT hF K hK => rely_wp rfl (opr_move (.inl rfl) (hK _ _ (NewT.refl _) hF.1))
        · intro a wx hT hF K hK
          obtain ⟨f12, _⟩ := hF
          have f12 : a.tmps.getD 12 undef = va := f12
          refine rely_wp rfl ?_
          exact opr_lenL rfl entEl (by rw [eval_tmp, f12]; exact (HA.out.new (NewT.trans _ _ _ HM.out hT))) (hK _ _ (NewT.refl _) rfl)
        · exact fun a wx hT hF K hK => rely_wp rfl (opr_cmp (b := true) (.inr (.inr (.inr (.inl ⟨rfl, (by exact decide_eq_true HGE.out)⟩)))) Tryd.underlying3 rfl hF.1 hF.2.1 (hK _ _ (NewT.refl _) rfl))
        · intro w3 k3
          iterate 4 (intro u h; obtain rfl := Eq.symm (h (by simp)); clear h)
          refine relyEnd_nil rfl ?_
          refine wpList_end rfl ?_
          simp only [Act.put, List.setIfInBounds_toArray, List.set_cons_zero, List.set_cons_succ]
          go_simp
          replace HM := Lib.hid (NewT.trans _ _ _ HM.out k3)
          clear k3
          go_upto_region 6 with fail
          refine wp_region_rely (NewT) [SV.eq (va), SV.eq (.int .i64 ((k : Int))), svEl 4 eyE (e), SV.eq (.agg (rowA 4 (eyF e))), SV.eq (vb), SV.eq (.int .i64 ((k : Int))), svEl 4 eyE (e), SV.eq (.agg (rowA 4 (eyF e)))] [([(0, none)], none), ([(5, none)], none), ([(17, some 0), (18, some 1)], none), ([(19, some 2)], none), ([(1, none)], none), ([(5, none)], none), ([(21, some 4), (22, some 5)], none), ([(23, some 6)], none)] 26 rfl (by kernel_rfl) rfl (by kernel_rfl) (by kernel_rfl) rfl NewT.trans (NewT.drew _) (Nat.le_of_ble_eq_true rfl) ⟨?_, ?_, ?_, ?_, ?_, ?_, ?_, ?_, trivial⟩ ?_
          · exact fun a wx hT hF K hK => rely_wp rfl (opr_move (.inl rfl) (hK _ _ (NewT.refl _) hF.1))
          · exact fun a wx hT hF K hK => rely_wp rfl (opr_move (.inl rfl) (hK _ _ (NewT.refl _) hF.1))
          · intro a wx hT hF K hK
            obtain ⟨f17, f18, _⟩ := hF
            have f17 : a.tmps.getD 17 undef = va := f17
            have f18 : a.tmps.getD 18 undef = .int .i64 ((k : Int)) := f18
            refine rely_wp rfl ?_
            exact opr_idxL (i := k) (p := e) entEl (HEE.out) (rfl) rfl (by rw [eval_tmp, f17]; exact (HA.out.new (NewT.trans _ _ _ HM.out hT))) f18 (fun v hv => hK v _ (NewT.refl _) hv)
          · exact fun a wx hT hF K hK => rely_wp rfl (opr_ldEe rfl hF.1 (hK _ _ (NewT.refl _) rfl))
          · exact fun a wx hT hF K hK => rely_wp rfl (opr_move (.inl rfl) (hK _ _ (NewT.refl _) hF.1))
          · exact fun a wx hT hF K hK => rely_wp rfl (opr_move (.inl rfl) (hK _ _ (NewT.refl _) hF.1))
          · intro a wx hT hF K hK
            obtain ⟨f21, f22, _⟩ := hF
            have f21 : a.tmps.getD 21 undef = vb := f21
            have f22 : a.tmps.getD 22 undef = .int .i64 ((k : Int)) := f22
            refine rely_wp rfl ?_
            exact opr_idxL (i := k) (p := e) entEl (HEE.out) (rfl) rfl (by rw [eval_tmp, f21]; exact (HB.out.new (NewT.trans _ _ _ HM.out hT))) f22 (fun v hv => hK v _ (NewT.refl _) hv)
          · exact fun a wx hT hF K hK => rely_wp rfl (opr_ldEe rfl hF.1 (hK _ _ (NewT.refl _) rfl))
          · intro w4 k4
            iterate 2 (intro u h; obtain rfl := Eq.symm (h (by simp)); clear h)
            intro _ _
            iterate 3 (intro u h; obtain rfl := Eq.symm (h (by simp)); clear h)
            intro _ _
            intro u h; obtain rfl := Eq.symm (h (by simp)); clear h
            refine relyEnd_nil rfl ?_
            simp only [Act.put, List.setIfInBounds_toArray, List.set_cons_zero, List.set_cons_succ]
            refine opr_neqEy (p := e) (q := e) rfl rfl rfl ?_
            rw [show eqE4 e e = true from (eqE4_iff e e).2 rfl]
            go_simp
            replace HM := Lib.hid (NewT.trans _ _ _ HM.out k4)
            clear k4
            have hk2 := HGE.out
            have hk3 := HLL.out
            go_wp2
            go_roundw
            case rel => exact ⟨k + 1, by omega, by go_num, by first | exact HM | trivial⟩
            case measure => simp [intOf]; omega
end Go.Proofs.YtchpmdcacpjojaaDoor
/- The reference's participant: what it answers, and what it remembers. -/
namespace Go.Proofs.YtchpmdcacpjojaaDoor
open Go Go.RowKit
set_option maxRecDepth 8000
set_option linter.all false
set_option maxHeartbeats 4000000 in
theorem rGood_c {hi g : Nat} {n e need : Int} {pv wv : Value} {L : List En} (c : Cl) (r : Bool) (w : World) (h : RefAt w hi g n e pv wv need L) (hn : L.length ≤ 900000) :
    Calls Tryd.prog 33 #[.pointer (some ⟨g, 0, none⟩), .agg (rowA 41 (clF c)), .bool r] w fun ex w' => ex = .returned (.bool (goodE L c r)) ∧ PT g (g + 1) w w' ∧ RefAt w' hi g n e pv wv need (keepL L c r) := by
  obtain ⟨sv, hr, ho, hh⟩ := h
  have HHI : Hid (hi ≤ g ∧ g < w.heap.size) := Lib.hid ⟨hh, hr.lt⟩
  have HL : Hid (RdL 4 eyE w sv L) := Lib.hid (own_ents ho)
  have HL9 := Lib.hid hn
  have HLL : Hid (L.length ≤ 1000000) := Lib.hid (by omega)
  have HR := Lib.hid hr
  have HOW := Lib.hid ho
  clear hr ho hh hn
  go_enter Tryd.func33, Tryd.ntmps33
  go_upto_region 1 with fail
  have r_g1 := rowIs_box w 34 41 (clF c)
  have hN : NewT w (w.alloc (.cells (rowA 41 (clF c)) 34)) := NewT.alloc _ _
  change Code.wp _ _ _ _ (w.alloc (.cells (rowA 41 (clF c)) 34))
  generalize (w.alloc (.cells (rowA 41 (clF c)) 34)) = W0 at r_g1 hN ⊢
  obtain ⟨g1, h_g1⟩ : ∃ g_, w.heap.size = g_ := ⟨_, rfl⟩
  have HG : Hid (w.heap.size ≤ g1) := Lib.hid (by omega)
  rw [h_g1] at r_g1
  simp only [h_g1]
  have Rg1 := Lib.hid r_g1
  have HM := Lib.hid hN
  clear r_g1 hN h_g1
  have Rg := Lib.hid (HM.out.row HR.out)
  go_upto_region 1 with fail
  refine wp_region_steps0 NewT [SV.eq (.pointer (some ⟨g, 0, none⟩)), SV.eq (.pointer (some ⟨g1, 0, none⟩)), SV.eq (.int .i64 (c.saga)), SV.eq (.pointer (some ⟨g1, 1, none⟩)), SV.eq (.int .i64 (c.step)), SV.eq (.pointer (some ⟨g1, 3, none⟩)), SV.eq (.bool (c.back)), SV.eq (.int .i64 (hasN L c.saga c.step c.back)), SV.eq (.int .i64 (hasN L c.saga c.step c.back))] [([(0, none)], none), ([(4, none)], none), ([(10, some 1)], none), ([(4, none)], none), ([(12, some 3)], none), ([(4, none)], none), ([(14, some 5)], none), ([(9, some 0), (11, some 2), (13, some 4), (15, some 6)], none), ([(16, some 7)], none)] 88 9 rfl rfl (by kernel_rfl) NewT.trans (NewT.refl _) (Nat.le_of_ble_eq_true rfl) ⟨?_, ?_, ?_, ?_, ?_, ?_, ?_, ?_, ?_, trivial⟩ ?_
  · exact fun a wx hT hF K hK => rely_wp rfl (opr_move (.inl rfl) (hK _ _ (NewT.refl _) hF.1))
  · exact fun a wx hT hF K hK => rely_wp rfl (opr_fldCl0 rfl hF.1 (hK _ _ (NewT.refl _) rfl))
  · exact fun a wx hT hF K hK => rely_wp rfl (opr_ldI (hT.row Rg1.out) (by decide) rfl rfl hF.1 (hK _ _ (NewT.refl _) rfl))
  · exact fun a wx hT hF K hK => rely_wp rfl (opr_fldCl1 rfl hF.1 (hK _ _ (NewT.refl _) rfl))
  · exact fun a wx hT hF K hK => rely_wp rfl (opr_ldI (hT.row Rg1.out) (by decide) rfl rfl hF.1 (hK _ _ (NewT.refl _) rfl))
  · exact fun a wx hT hF K hK => rely_wp rfl (opr_fldCl3 rfl hF.1 (hK _ _ (NewT.refl _) rfl))
  · exact fun a wx hT hF K hK => rely_wp rfl (opr_ldQ (hT.row Rg1.out) (by decide) rfl rfl hF.1 (hK _ _ (NewT.refl _) rfl))
  · exact fun a wx hT hF K hK => rely_wp rfl (opr_cv (rHas_cv c.saga c.step c.back wx (hT.row Rg.out) (HL.out.new (NewT.trans _ _ _ HM.out hT)) HLL.out) rfl Tryd.func43 (by kernel_rfl) (by kernel_rfl) (evs4 hF.1 hF.2.1 hF.2.2.1 hF.2.2.2.1) hK)
  · exact fun a wx hT hF K hK => rely_wp rfl (opr_move (.inr rfl) (hK _ _ (NewT.refl _) hF.1))
  · intro w1 k1
    iterate 9 (intro u h; obtain rfl := Eq.symm (h (by simp)); clear h)
    refine relyEnd_nil rfl ?_
    refine wpList_end rfl ?_
    simp only [Act.put, List.setIfInBounds_toArray, List.set_cons_zero, List.set_cons_succ]
    go_simp
    replace Rg1 := Lib.hid (k1.row Rg1.out)
    replace Rg := Lib.hid (k1.row Rg.out)
    replace HM := Lib.hid (NewT.trans _ _ _ HM.out k1)
    clear k1
    obtain ⟨z, hz⟩ : ∃ z, hasN L c.saga c.step c.back = z := ⟨_, rfl⟩
    rw [hz]
    have HZ := Lib.hid hz
    clear hz
    go_upto_region 2 with fail
    refine wp_region_steps0 NewT [SV.eq (.int .i64 (z)), SV.eq (.bool (decide (0 < z)))] [([(7, none)], none), ([(17, some 0)], none)] 88 2 rfl rfl (by kernel_rfl) NewT.trans (NewT.refl _) (Nat.le_of_ble_eq_true rfl) ⟨?_, ?_, trivial⟩ ?_
    · exact fun a wx hT hF K hK => rely_wp rfl (opr_move (.inl rfl) (hK _ _ (NewT.refl _) hF.1))
    · exact fun a wx hT hF K hK => rely_wp rfl (opr_cmp (b := decide (0 < z)) (.inr (.inr (.inr (.inr (.inl ⟨rfl, rfl⟩))))) Tryd.underlying3 rfl hF.1 rfl (hK _ _ (NewT.refl _) rfl))
    · intro w2 k2
      iterate 2 (intro u h; obtain rfl := Eq.symm (h (by simp)); clear h)
      refine relyEnd_nil rfl ?_
      refine wpList_end rfl ?_
      simp only [Act.put, List.setIfInBounds_toArray, List.set_cons_zero, List.set_cons_succ]
      go_simp
      replace Rg1 := Lib.hid (k2.row Rg1.out)
      replace Rg := Lib.hid (k2.row Rg.out)
      replace HM := Lib.hid (NewT.trans _ _ _ HM.out k2)
      clear k2
      cases hb : decide (0 < z)
      · have HN : Hid (hasE L c.saga c.step c.back = none) := Lib.hid (by
          rw [← HZ.out, hasN_pos] at hb
          exact Option.isNone_iff_eq_none.1 (by rw [← Option.not_isSome, hb]; rfl))
        clear hb
        go_upto_region 4 with fail
        refine wp_region_steps0 NewT [SV.eq (.pointer (some ⟨g1, 3, none⟩)), SV.eq (.bool (c.back))] [([(4, none)], none), ([(21, some 0)], none)] 88 2 rfl rfl (by kernel_rfl) NewT.trans (NewT.refl _) (Nat.le_of_ble_eq_true rfl) ⟨?_, ?_, trivial⟩ ?_
        · exact fun a wx hT hF K hK => rely_wp rfl (opr_fldCl3 rfl hF.1 (hK _ _ (NewT.refl _) rfl))
        · exact fun a wx hT hF K hK => rely_wp rfl (opr_ldQ (hT.row Rg1.out) (by decide) rfl rfl hF.1 (hK _ _ (NewT.refl _) rfl))
        · intro w3 k3
          iterate 2 (intro u h; obtain rfl := Eq.symm (h (by simp)); clear h)
          refine relyEnd_nil rfl ?_
          refine wpList_end rfl ?_
          simp only [Act.put, List.setIfInBounds_toArray, List.set_cons_zero, List.set_cons_succ]
          go_simp
          replace Rg1 := Lib.hid (k3.row Rg1.out)
          replace Rg := Lib.hid (k3.row Rg.out)
          replace HM := Lib.hid (NewT.trans _ _ _ HM.out k3)
          clear k3
          cases hbk : c.back
          · have HBK := Lib.hid hbk
            clear hbk
            go_upto_region 8 with fail
            refine wp_region_steps0 NewT [SV.eq (.pointer (some ⟨g, 0, none⟩)), SV.eq (.pointer (some ⟨g1, 0, none⟩)), SV.eq (.int .i64 (c.saga)), SV.eq (.pointer (some ⟨g1, 1, none⟩)), SV.eq (.int .i64 (c.step)), SV.eq (.int .i64 (hasN L c.saga c.step true)), SV.eq (.bool ((hasN L c.saga c.step true) == 2)), SV.eq (.bool ((hasN L c.saga c.step true) == 2))] [([(0, none)], none), ([(4, none)], none), ([(44, some 1)], none), ([(4, none)], none), ([(46, some 3)], none), ([(43, some 0), (45, some 2), (47, some 4)], none), ([(48, some 5)], none), ([(49, some 6)], none)] 88 8 rfl rfl (by kernel_rfl) NewT.trans (NewT.refl _) (Nat.le_of_ble_eq_true rfl) ⟨?_, ?_, ?_, ?_, ?_, ?_, ?_, ?_, trivial⟩ ?_
            · exact fun a wx hT hF K hK => rely_wp rfl (opr_move (.inl rfl) (hK _ _ (NewT.refl _) hF.1))
            · exact fun a wx hT hF K hK => rely_wp rfl (opr_fldCl0 rfl hF.1 (hK _ _ (NewT.refl _) rfl))
            · exact fun a wx hT hF K hK => rely_wp rfl (opr_ldI (hT.row Rg1.out) (by decide) rfl rfl hF.1 (hK _ _ (NewT.refl _) rfl))
            · exact fun a wx hT hF K hK => rely_wp rfl (opr_fldCl1 rfl hF.1 (hK _ _ (NewT.refl _) rfl))
            · exact fun a wx hT hF K hK => rely_wp rfl (opr_ldI (hT.row Rg1.out) (by decide) rfl rfl hF.1 (hK _ _ (NewT.refl _) rfl))
            · exact fun a wx hT hF K hK => rely_wp rfl (opr_cv (rHas_cv c.saga c.step true wx (hT.row Rg.out) (HL.out.new (NewT.trans _ _ _ HM.out hT)) HLL.out) rfl Tryd.func43 (by kernel_rfl) (by kernel_rfl) (evs4 hF.1 hF.2.1 hF.2.2.1 rfl) hK)
            · exact fun a wx hT hF K hK => rely_wp rfl (opr_cmp (b := (hasN L c.saga c.step true) == 2) (.inl ⟨rfl, rfl⟩) Tryd.underlying3 rfl hF.1 rfl (hK _ _ (NewT.refl _) rfl))
            · exact fun a wx hT hF K hK => rely_wp rfl (opr_move (.inr rfl) (hK _ _ (NewT.refl _) hF.1))
            · intro w4 k4
              iterate 8 (intro u h; obtain rfl := Eq.symm (h (by simp)); clear h)
              refine relyEnd_nil rfl ?_
              refine wpList_end rfl ?_
              simp only [Act.put, List.setIfInBounds_toArray, List.set_cons_zero, List.set_cons_succ]
              go_simp
              replace Rg1 := Lib.hid (k4.row Rg1.out)
              replace Rg := Lib.hid (k4.row Rg.out)
              replace HM := Lib.hid (NewT.trans _ _ _ HM.out k4)
              clear k4
              obtain ⟨u, hu⟩ : ∃ u, (hasN L c.saga c.step true == 2) = u := ⟨_, rfl⟩
              rw [hu]
              have HU : Hid (undE L c = u) := Lib.hid (by unfold undE; rw [HBK.out, ← hu, hasN_two]; rfl)
              clear hu
              go_upto_region 9 with fail
              refine wp_region_steps0 NewT [SV.eq (.bool (r)), SV.eq (.bool (r)), svIf r (SV.eq (.bool (u))), svIf r (SV.eq (.bool (!u))), SV.eq (.bool (r && (!u))), SV.eq (.bool (r && (!u))), svIf (r && (!u)) (SV.eq (.pointer (some ⟨g1, 5, none⟩))), svIf (r && (!u)) (SV.eq (.int .i64 (c.kind))), svIf (r && (!u)) (SV.eq (.bool (c.kind == 3))), SV.eq (.bool ((r && (!u)) && (c.kind == 3)))] [([(2, none)], none), ([(50, some 0)], none), ([(8, none), (51, some 1)], some (51, true)), ([(52, some 2), (51, some 1)], some (51, true)), ([(51, some 1), (53, some 3)], none), ([(54, some 4)], none), ([(4, none), (55, some 5)], some (55, true)), ([(56, some 6), (55, some 5)], some (55, true)), ([(57, some 7), (55, some 5)], some (55, true)), ([(55, some 5), (58, some 8)], none)] 88 10 rfl rfl (by kernel_rfl) NewT.trans (NewT.refl _) (Nat.le_of_ble_eq_true rfl) ⟨?_, ?_, ?_, ?_, ?_, ?_, ?_, ?_, ?_, ?_, trivial⟩ ?_
              · exact fun a wx hT hF K hK => rely_wp rfl (opr_move (.inl rfl) (hK _ _ (NewT.refl _) hF.1))
              · exact fun a wx hT hF K hK => rely_wp rfl (opr_move (.inl rfl) (hK _ _ (NewT.refl _) hF.1))
              · exact fun a wx hT hF K hK => rely_if (rely_gt hF.2.1) (NewT.refl _) hK fun hE hK => opr_move (.inl rfl) (hK _ _ (NewT.refl _) hF.1)
              · exact fun a wx hT hF K hK => rely_if (rely_gt hF.2.1) (NewT.refl _) hK fun hE hK => opr_not rfl (hF.1 hE) (hK _ _ (NewT.refl _) rfl)
              · exact fun a wx hT hF K hK => rely_wp rfl (opr_pick_b rfl hF.1 (fun hb => hK _ _ (NewT.refl _) (pk_and1 (hF.2.1 hb) hb)) (fun hb => hK _ _ (NewT.refl _) (pk_and0 hb)))
              · exact fun a wx hT hF K hK => rely_wp rfl (opr_move (.inl rfl) (hK _ _ (NewT.refl _) hF.1))
              · exact fun a wx hT hF K hK => rely_if (rely_gt hF.2.1) (NewT.refl _) hK fun hE hK => opr_fldCl5 rfl hF.1 (hK _ _ (NewT.refl _) rfl)
              · exact fun a wx hT hF K hK => rely_if (rely_gt hF.2.1) (NewT.refl _) hK fun hE hK => opr_ldI (hT.row Rg1.out) (by decide) rfl rfl (hF.1 hE) (hK _ _ (NewT.refl _) rfl)
              · exact fun a wx hT hF K hK => rely_if (rely_gt hF.2.1) (NewT.refl _) hK fun hE hK => opr_cmp (b := c.kind == 3) (.inl ⟨rfl, rfl⟩) Tryd.underlying3 rfl (hF.1 hE) rfl (hK _ _ (NewT.refl _) rfl)
              · exact fun a wx hT hF K hK => rely_wp rfl (opr_pick_b rfl hF.1 (fun hb => hK _ _ (NewT.refl _) (pk_and1 (hF.2.1 hb) hb)) (fun hb => hK _ _ (NewT.refl _) (pk_and0 hb)))
              · intro w5 k5
                iterate 2 (intro u h; obtain rfl := Eq.symm (h (by simp)); clear h)
                iterate 2 (intro _ _)
                iterate 2 (intro u h; obtain rfl := Eq.symm (h (by simp)); clear h)
                iterate 3 (intro _ _)
                intro u h; obtain rfl := Eq.symm (h (by simp)); clear h
                refine relyEnd_nil rfl ?_
                refine wpList_end rfl ?_
                simp only [Act.put, List.setIfInBounds_toArray, List.set_cons_zero, List.set_cons_succ]
                go_simp
                replace Rg1 := Lib.hid (k5.row Rg1.out)
                replace Rg := Lib.hid (k5.row Rg.out)
                replace HM := Lib.hid (NewT.trans _ _ _ HM.out k5)
                clear k5
                cases hb : ((r && (!u)) && (c.kind == 3))
                · have HGD : Hid (goodE L c r = (!r && !u)) := Lib.hid (by unfold goodE goodN; rw [HN.out, HU.out]; rfl)
                  have HKL : Hid (keepL L c r = L ++ [⟨c.saga, c.step, false, !r && !u⟩]) := Lib.hid (by
                    unfold keepL newE putB askB goodN
                    rw [HN.out, HU.out, HBK.out]
                    cases r <;> cases u <;> first | rfl | (revert hb; cases hk : (c.kind == 3) <;> simp))
                  clear hb
                  go_upto_region 11 with fail
                  refine wp_region_relyL (BelT w5) (JA 1 6 18 19 61 66 78 79 w5 (List.map eyF L) (eyF ⟨c.saga, c.step, false, !r && !u⟩)) [SV.eq (.pointer (some ⟨g, 0, none⟩)), SV.any, SV.eq (.pointer (some ⟨g, 0, none⟩)), SV.eq (.pointer (some ⟨g, 0, none⟩)), SV.eq (.pointer (some ⟨g, 5, none⟩)), SV.eq (sv), SV.any, SV.eq (.pointer (some ⟨g1, 0, none⟩)), SV.eq (.int .i64 (c.saga)), SV.eq (.pointer (some ⟨g1, 1, none⟩)), SV.eq (.int .i64 (c.step)), SV.eq (.bool (r)), SV.eq (.bool (!r)), SV.eq (.bool (!r)), svIf (!r) (SV.eq (.bool (u))), svIf (!r) (SV.eq (.bool (!u))), SV.eq (.bool ((!r) && (!u))), SV.eq (.agg (rowA 4 (eyF ⟨c.saga, c.step, false, !r && !u⟩))), SV.any, SV.any, SV.eq (.pointer (some ⟨g, 0, none⟩)), SV.eq (.pointer (some ⟨g, 5, none⟩))] [([(0, none)], none), ([], none), ([(0, none)], none), ([(62, some 2)], none), ([(63, some 3)], none), ([(64, some 4)], none), ([(61, some 1), (65, some 5)], none), ([(4, none)], none), ([(67, some 7)], none), ([(4, none)], none), ([(69, some 9)], none), ([(2, none)], none), ([(71, some 11)], none), ([(72, some 12)], none), ([(8, none), (73, some 13)], some (73, true)), ([(74, some 14), (73, some 13)], some (73, true)), ([(73, some 13), (75, some 15)], none), ([(68, some 8), (70, some 10), (76, some 16)], none), ([(77, some 17)], none), ([(66, some 6), (78, some 18)], none), ([(60, some 0)], none), ([(80, some 20)], none)] 88 rfl (by kernel_rfl) rfl (by kernel_rfl) (by kernel_rfl) rfl (BelT.trans w5) (BelT.drew w5 _) (JA.start ⟨Nat.le_of_ble_eq_true rfl, Nat.le_of_ble_eq_true rfl, Nat.le_of_ble_eq_true rfl, Nat.le_of_ble_eq_true rfl⟩ _) (Nat.le_of_ble_eq_true rfl) ⟨?_, ?_, ?_, ?_, ?_, ?_, ?_, ?_, ?_, ?_, ?_, ?_, ?_, ?_, ?_, ?_, ?_, ?_, ?_, ?_, ?_, ?_, trivial⟩ ?_
                  · intro a wx li hT hF hJ hx K hK
                    replace hT : NewT w5 wx := hT
                    replace hK := fun v w' (hN : NewT wx w') hv => hK v w' (BelT.new hT hN) ((JA.other hJ (by decide) (by simp) hN)) hv
                    obtain ⟨f0, _⟩ := hF
                    have f0 : a.tmps.getD 0 undef = .pointer (some ⟨g, 0, none⟩) := f0
                    refine rely_wp rfl ?_
                    exact opr_move (.inl rfl) (hK _ _ (NewT.refl _) f0)
                  · intro a wx li hT hF hJ hx K hK
                    replace hT : NewT w5 wx := hT
                    refine rely_wp rfl ?_
                    exact opr_jaMade hT hJ hx (by decide) rfl rfl (fun v w' h1 h2 => hK v w' h1 h2 trivial)
                  · intro a wx li hT hF hJ hx K hK
                    replace hT : NewT w5 wx := hT
                    replace hK := fun v w' (hN : NewT wx w') hv => hK v w' (BelT.new hT hN) ((JA.other hJ (by decide) (by simp) hN)) hv
                    obtain ⟨f0, _⟩ := hF
                    have f0 : a.tmps.getD 0 undef = .pointer (some ⟨g, 0, none⟩) := f0
                    refine rely_wp rfl ?_
                    exact opr_move (.inl rfl) (hK _ _ (NewT.refl _) f0)
                  · intro a wx li hT hF hJ hx K hK
                    replace hT : NewT w5 wx := hT
                    replace hK := fun v w' (hN : NewT wx w') hv => hK v w' (BelT.new hT hN) ((JA.other hJ (by decide) (by simp) hN)) hv
                    obtain ⟨f62, _⟩ := hF
                    have f62 : a.tmps.getD 62 undef = .pointer (some ⟨g, 0, none⟩) := f62
                    refine rely_wp rfl ?_
                    exact opr_nilc rfl f62 (hK _ _ (NewT.refl _) rfl)
                  · intro a wx li hT hF hJ hx K hK
                    replace hT : NewT w5 wx := hT
                    replace hK := fun v w' (hN : NewT wx w') hv => hK v w' (BelT.new hT hN) ((JA.other hJ (by decide) (by simp) hN)) hv
                    obtain ⟨f63, _⟩ := hF
                    have f63 : a.tmps.getD 63 undef = .pointer (some ⟨g, 0, none⟩) := f63
                    refine rely_wp rfl ?_
                    exact opr_fldRp3 rfl f63 (hK _ _ (NewT.refl _) rfl)
                  · intro a wx li hT hF hJ hx K hK
                    replace hT : NewT w5 wx := hT
                    replace hK := fun v w' (hN : NewT wx w') hv => hK v w' (BelT.new hT hN) ((JA.other hJ (by decide) (by simp) hN)) hv
                    obtain ⟨f64, _⟩ := hF
                    have f64 : a.tmps.getD 64 undef = .pointer (some ⟨g, 5, none⟩) := f64
                    refine rely_wp rfl ?_
                    exact opr_ldEs (hT.row Rg.out) (by decide) rfl rfl f64 (hK _ _ (NewT.refl _) rfl)
                  · intro a wx li hT hF hJ hx K hK
                    replace hT : NewT w5 wx := hT
                    obtain ⟨f61, f65, _⟩ := hF
                    replace f61 := show (SV.any).pred (a.tmps.getD 61 undef) wx from f61
                    have f65 : a.tmps.getD 65 undef = sv := f65
                    refine rely_wp rfl ?_
                    exact opr_jaApp1 (u := sv) hT hJ hx ⟨(by kernel_rfl), (by kernel_rfl)⟩ (by decide) (HOW.out.new (NewT.trans _ _ _ HM.out hT)).rd (one_ents L) (by rw [List.length_map]; exact HL9.out) rfl rfl f65 rfl (fun v w' h1 h2 => hK v w' h1 h2 trivial)
                  · intro a wx li hT hF hJ hx K hK
                    replace hT : NewT w5 wx := hT
                    replace hK := fun v w' (hN : NewT wx w') hv => hK v w' (BelT.new hT hN) ((JA.other hJ (by decide) (by simp) hN)) hv
                    obtain ⟨f4, _⟩ := hF
                    have f4 : a.tmps.getD 4 undef = .pointer (some ⟨g1, 0, none⟩) := f4
                    refine rely_wp rfl ?_
                    exact opr_fldCl0 rfl f4 (hK _ _ (NewT.refl _) rfl)
                  · intro a wx li hT hF hJ hx K hK
                    replace hT : NewT w5 wx := hT
                    replace hK := fun v w' (hN : NewT wx w') hv => hK v w' (BelT.new hT hN) ((JA.other hJ (by decide) (by simp) hN)) hv
                    obtain ⟨f67, _⟩ := hF
                    have f67 : a.tmps.getD 67 undef = .pointer (some ⟨g1, 0, none⟩) := f67
                    refine rely_wp rfl ?_
                    exact opr_ldI (hT.row Rg1.out) (by decide) rfl rfl f67 (hK _ _ (NewT.refl _) rfl)
                  · intro a wx li hT hF hJ hx K hK
                    replace hT : NewT w5 wx := hT
                    replace hK := fun v w' (hN : NewT wx w') hv => hK v w' (BelT.new hT hN) ((JA.other hJ (by decide) (by simp) hN)) hv
                    obtain ⟨f4, _⟩ := hF
                    have f4 : a.tmps.getD 4 undef = .pointer (some ⟨g1, 0, none⟩) := f4
                    refine rely_wp rfl ?_
                    exact opr_fldCl1 rfl f4 (hK _ _ (NewT.refl _) rfl)
                  · intro a wx li hT hF hJ hx K hK
                    replace hT : NewT w5 wx := hT
                    replace hK := fun v w' (hN : NewT wx w') hv => hK v w' (BelT.new hT hN) ((JA.other hJ (by decide) (by simp) hN)) hv
                    obtain ⟨f69, _⟩ := hF
                    have f69 : a.tmps.getD 69 undef = .pointer (some ⟨g1, 1, none⟩) := f69
                    refine rely_wp rfl ?_
                    exact opr_ldI (hT.row Rg1.out) (by decide) rfl rfl f69 (hK _ _ (NewT.refl _) rfl)
                  · intro a wx li hT hF hJ hx K hK
                    replace hT : NewT w5 wx := hT
                    replace hK := fun v w' (hN : NewT wx w') hv => hK v w' (BelT.new hT hN) ((JA.other hJ (by decide) (by simp) hN)) hv
                    obtain ⟨f2, _⟩ := hF
                    have f2 : a.tmps.getD 2 undef = .bool (r) := f2
                    refine rely_wp rfl ?_
                    exact opr_move (.inl rfl) (hK _ _ (NewT.refl _) f2)
                  · intro a wx li hT hF hJ hx K hK
                    replace hT : NewT w5 wx := hT
                    replace hK := fun v w' (hN : NewT wx w') hv => hK v w' (BelT.new hT hN) ((JA.other hJ (by decide) (by simp) hN)) hv
                    obtain ⟨f71, _⟩ := hF
                    have f71 : a.tmps.getD 71 undef = .bool (r) := f71
                    refine rely_wp rfl ?_
                    exact opr_not rfl f71 (hK _ _ (NewT.refl _) rfl)
                  · intro a wx li hT hF hJ hx K hK
                    replace hT : NewT w5 wx := hT
                    replace hK := fun v w' (hN : NewT wx w') hv => hK v w' (BelT.new hT hN) ((JA.other hJ (by decide) (by simp) hN)) hv
                    obtain ⟨f72, _⟩ := hF
                    have f72 : a.tmps.getD 72 undef = .bool (!r) := f72
                    refine rely_wp rfl ?_
                    exact opr_move (.inl rfl) (hK _ _ (NewT.refl _) f72)
                  · intro a wx li hT hF hJ hx K hK
                    replace hT : NewT w5 wx := hT
                    replace hK := fun v w' (hN : NewT wx w') hv => hK v w' (BelT.new hT hN) ((JA.other hJ (by decide) (by simp) hN)) hv
                    obtain ⟨f8, f73, _⟩ := hF
                    have f8 : a.tmps.getD 8 undef = .bool (u) := f8
                    have f73 : a.tmps.getD 73 undef = .bool (!r) := f73
                    refine rely_ifT (rely_gt f73) (NewT.refl _) hK (fun hE hK => ?_)
                    exact opr_move (.inl rfl) (hK _ _ (NewT.refl _) f8)
                  · intro a wx li hT hF hJ hx K hK
                    replace hT : NewT w5 wx := hT
                    replace hK := fun v w' (hN : NewT wx w') hv => hK v w' (BelT.new hT hN) ((JA.other hJ (by decide) (by simp) hN)) hv
                    obtain ⟨f74, f73, _⟩ := hF
                    have f74 : (!r) = true → a.tmps.getD 74 undef = .bool (u) := f74
                    have f73 : a.tmps.getD 73 undef = .bool (!r) := f73
                    refine rely_ifT (rely_gt f73) (NewT.refl _) hK (fun hE hK => ?_)
                    exact opr_not rfl (f74 hE) (hK _ _ (NewT.refl _) rfl)
                  · intro a wx li hT hF hJ hx K hK
                    replace hT : NewT w5 wx := hT
                    replace hK := fun v w' (hN : NewT wx w') hv => hK v w' (BelT.new hT hN) ((JA.other hJ (by decide) (by simp) hN)) hv
                    obtain ⟨f73, f75, _⟩ := hF
                    have f73 : a.tmps.getD 73 undef = .bool (!r) := f73
                    have f75 : (!r) = true → a.tmps.getD 75 undef = .bool (!u) := f75
                    refine rely_wp rfl ?_
                    exact opr_pick_b rfl f73 (fun hb => hK _ _ (NewT.refl _) (pk_and1 (f75 hb) hb)) (fun hb => hK _ _ (NewT.refl _) (pk_and0 hb))
                  · intro a wx li hT hF hJ hx K hK
                    replace hT : NewT w5 wx := hT
                    replace hK := fun v w' (hN : NewT wx w') hv => hK v w' (BelT.new hT hN) ((JA.other hJ (by decide) (by simp) hN)) hv
                    obtain ⟨f68, f70, f76, _⟩ := hF
                    have f68 : a.tmps.getD 68 undef = .int .i64 (c.saga) := f68
                    have f70 : a.tmps.getD 70 undef = .int .i64 (c.step) := f70
                    have f76 : a.tmps.getD 76 undef = .bool ((!r) && (!u)) := f76
                    refine rely_wp rfl ?_
                    exact opr_build (pv := #[(0, .int .i64 (c.saga)), (1, .int .i64 (c.step)), (3, .bool ((!r) && (!u)))]) rfl (by simp only [List.map_toArray, List.map_cons, List.map_nil, eval_tmp, eval_const, f68, f70, f76]) (run_bld_ey3 c.saga c.step (!r && !u) wx) (hK _ _ (NewT.refl _) rfl)
                  · intro a wx li hT hF hJ hx K hK
                    replace hT : NewT w5 wx := hT
                    obtain ⟨f77, _⟩ := hF
                    have f77 : a.tmps.getD 77 undef = .agg (rowA 4 (eyF ⟨c.saga, c.step, false, !r && !u⟩)) := f77
                    refine rely_wp rfl ?_
                    exact opr_jaOne hT hJ hx (by decide) rfl f77 rfl (fun v w' h1 h2 => hK v w' h1 h2 trivial)
                  · intro a wx li hT hF hJ hx K hK
                    replace hT : NewT w5 wx := hT
                    obtain ⟨f66, f78, _⟩ := hF
                    replace f66 := show (SV.any).pred (a.tmps.getD 66 undef) wx from f66
                    replace f78 := show (SV.any).pred (a.tmps.getD 78 undef) wx from f78
                    refine rely_wp rfl ?_
                    exact opr_jaApp2 hT hJ hx ⟨(by kernel_rfl), (by kernel_rfl)⟩ (by decide) (fun j _ => eyF_one _ j) (by rw [List.length_map]; exact HL9.out) rfl rfl rfl rfl (fun v w' h1 h2 => hK v w' h1 h2 trivial)
                  · intro a wx li hT hF hJ hx K hK
                    replace hT : NewT w5 wx := hT
                    replace hK := fun v w' (hN : NewT wx w') hv => hK v w' (BelT.new hT hN) ((JA.other hJ (by decide) (by simp) hN)) hv
                    obtain ⟨f60, _⟩ := hF
                    have f60 : a.tmps.getD 60 undef = .pointer (some ⟨g, 0, none⟩) := f60
                    refine rely_wp rfl ?_
                    exact opr_nilc rfl f60 (hK _ _ (NewT.refl _) rfl)
                  · intro a wx li hT hF hJ hx K hK
                    replace hT : NewT w5 wx := hT
                    replace hK := fun v w' (hN : NewT wx w') hv => hK v w' (BelT.new hT hN) ((JA.other hJ (by decide) (by simp) hN)) hv
                    obtain ⟨f80, _⟩ := hF
                    have f80 : a.tmps.getD 80 undef = .pointer (some ⟨g, 0, none⟩) := f80
                    refine rely_wp rfl ?_
                    exact opr_fldRp3 rfl f80 (hK _ _ (NewT.refl _) rfl)
                  · intro w6 k6
                    intro u h; obtain rfl := Eq.symm (h (by simp)); clear h
                    intro _ _
                    iterate 4 (intro u h; obtain rfl := Eq.symm (h (by simp)); clear h)
                    intro _ _
                    iterate 7 (intro u h; obtain rfl := Eq.symm (h (by simp)); clear h)
                    iterate 2 (intro _ _)
                    iterate 2 (intro u h; obtain rfl := Eq.symm (h (by simp)); clear h)
                    intro _ _
                    intro u79 h; have g79 := h (by simp); clear h; replace g79 := show (SV.any).pred u79 w6 from g79
                    iterate 2 (intro u h; obtain rfl := Eq.symm (h (by simp)); clear h)
                    refine relyEnd_nil rfl ?_
                    intro hJ
                    simp only [Act.put, List.setIfInBounds_toArray, List.set_cons_zero, List.set_cons_succ]
                    have hO := JA.at (v := u79) hJ (by decide) (by kernel_rfl)
                    clear hJ
                    obtain ⟨sA, sc, hsv, _⟩ := hO.form
                    subst hsv
                    replace k6 : NewT w5 w6 := k6
                    refine opr_put1B (g := g) (o0 := 5) (v := .slice sA (List.map eyF L ++ [eyF ⟨c.saga, c.step, false, !r && !u⟩]).length sc) (F := rpF pv wv need n e (.slice sA (List.map eyF L ++ [eyF ⟨c.saga, c.step, false, !r && !u⟩]).length sc)) rfl rfl rfl (k6.row Rg.out) (by decide) info_es rfl (fun i hi => rpF_l pv wv need n e sv _ i hi) ?_
                    intro W6 hR6 hO6 rr6
                    go_simp
                    have HRA := Lib.hid (RefAt.put (hi := hi) rr6 hO hO6 (Nat.lt_of_lt_of_le HHI.out.2 HM.out.out.size) HHI.out.1)
                    have HQ := Lib.hid (PT.put (NewT.trans _ _ _ HM.out k6) hR6 hO6 HHI.out.2)
                    replace HM := Lib.hid (NewT.refl W6)
                    clear hR6 hO6 rr6 hO k6 Rg Rg1
                    go_upto_region 12 with fail
                    refine wp_region_steps0 NewT [SV.eq (.bool (r)), SV.eq (.bool (!r)), SV.eq (.bool (!r)), svIf (!r) (SV.eq (.bool (u))), svIf (!r) (SV.eq (.bool (!u))), SV.eq (.bool ((!r) && (!u))), SV.eq (.bool ((!r) && (!u)))] [([(2, none)], none), ([(82, some 0)], none), ([(83, some 1)], none), ([(8, none), (84, some 2)], some (84, true)), ([(85, some 3), (84, some 2)], some (84, true)), ([(84, some 2), (86, some 4)], none), ([(87, some 5)], none)] 88 7 rfl rfl (by kernel_rfl) NewT.trans (NewT.refl _) (Nat.le_of_ble_eq_true rfl) ⟨?_, ?_, ?_, ?_, ?_, ?_, ?_, trivial⟩ ?_
                    · exact fun a wx hT hF K hK => rely_wp rfl (opr_move (.inl rfl) (hK _ _ (NewT.refl _) hF.1))
                    · exact fun a wx hT hF K hK => rely_wp rfl (opr_not rfl hF.1 (hK _ _ (NewT.refl _) rfl))
                    · exact fun a wx hT hF K hK => rely_wp rfl (opr_move (.inl rfl) (hK _ _ (NewT.refl _) hF.1))
                    · exact fun a wx hT hF K hK => rely_if (rely_gt hF.2.1) (NewT.refl _) hK fun hE hK => opr_move (.inl rfl) (hK _ _ (NewT.refl _) hF.1)
                    · exact fun a wx hT hF K hK => rely_if (rely_gt hF.2.1) (NewT.refl _) hK fun hE hK => opr_not rfl (hF.1 hE) (hK _ _ (NewT.refl _) rfl)
                    · exact fun a wx hT hF K hK => rely_wp rfl (opr_pick_b rfl hF.1 (fun hb => hK _ _ (NewT.refl _) (pk_and1 (hF.2.1 hb) hb)) (fun hb => hK _ _ (NewT.refl _) (pk_and0 hb)))
                    · exact fun a wx hT hF K hK => rely_wp rfl (opr_move (.inr rfl) (hK _ _ (NewT.refl _) hF.1))
                    · intro w7 k7
                      iterate 3 (intro u h; obtain rfl := Eq.symm (h (by simp)); clear h)
                      iterate 2 (intro _ _)
                      iterate 2 (intro u h; obtain rfl := Eq.symm (h (by simp)); clear h)
                      refine relyEnd_nil rfl ?_
                      refine wpList_end rfl ?_
                      simp only [Act.put, List.setIfInBounds_toArray, List.set_cons_zero, List.set_cons_succ]
                      go_simp
                      replace HM := Lib.hid (NewT.trans _ _ _ HM.out k7)
                      clear k7
                      go_wp2
                      go_ret
                      rw [HGD.out, HKL.out]
                      exact ⟨rfl, PT.nw HQ.out HM.out (Nat.le_of_lt HHI.out.2), HRA.out.new HM.out⟩
                · have HGD : Hid (goodE L c r = false) := Lib.hid (by unfold goodE goodN; rw [HN.out, HU.out]; revert hb; cases r <;> cases u <;> simp)
                  have HKL : Hid (keepL L c r = L) := Lib.hid (by
                    unfold keepL putB askB goodN
                    rw [HN.out, HU.out, HBK.out]
                    revert hb
                    cases r <;> cases u <;> cases hk : (c.kind == 3) <;> simp)
                  clear hb
                  go_wp2
                  go_ret
                  rw [HGD.out, HKL.out]
                  exact ⟨rfl, PT.new HM.out (Nat.le_of_lt HHI.out.2), ⟨sv, Rg.out, HOW.out.new HM.out, HHI.out.1⟩⟩
          · have HBK := Lib.hid hbk
            have HU : Hid (undE L c = false) := Lib.hid (by unfold undE; rw [hbk]; rfl)
            clear hbk
            go_upto_region 5 with fail
            refine wp_region_steps0 NewT [SV.eq (.bool (r)), SV.eq (.bool (!r))] [([(2, none)], none), ([(23, some 0)], none)] 88 2 rfl rfl (by kernel_rfl) NewT.trans (NewT.refl _) (Nat.le_of_ble_eq_true rfl) ⟨?_, ?_, trivial⟩ ?_
            · exact fun a wx hT hF K hK => rely_wp rfl (opr_move (.inl rfl) (hK _ _ (NewT.refl _) hF.1))
            · exact fun a wx hT hF K hK => rely_wp rfl (opr_not rfl hF.1 (hK _ _ (NewT.refl _) rfl))
            · intro w8 k8
              iterate 2 (intro u h; obtain rfl := Eq.symm (h (by simp)); clear h)
              refine relyEnd_nil rfl ?_
              refine wpList_end rfl ?_
              simp only [Act.put, List.setIfInBounds_toArray, List.set_cons_zero, List.set_cons_succ]
              go_simp
              replace Rg1 := Lib.hid (k8.row Rg1.out)
              replace Rg := Lib.hid (k8.row Rg.out)
              replace HM := Lib.hid (NewT.trans _ _ _ HM.out k8)
              clear k8
              cases hb : r
              · have HGD : Hid (goodE L c false = true) := Lib.hid (by unfold goodE goodN; rw [HN.out, HU.out]; rfl)
                have HKL : Hid (keepL L c false = L ++ [⟨c.saga, c.step, true, true⟩]) := Lib.hid (by
                  unfold keepL newE putB askB goodN
                  rw [HN.out, HU.out, HBK.out]
                  rfl)
                subst hb
                go_upto_region 6 with fail
                refine wp_region_relyL (BelT w8) (JA 1 6 12 13 26 31 37 38 w8 (List.map eyF L) (eyF ⟨c.saga, c.step, true, true⟩)) [SV.eq (.pointer (some ⟨g, 0, none⟩)), SV.any, SV.eq (.pointer (some ⟨g, 0, none⟩)), SV.eq (.pointer (some ⟨g, 0, none⟩)), SV.eq (.pointer (some ⟨g, 5, none⟩)), SV.eq (sv), SV.any, SV.eq (.pointer (some ⟨g1, 0, none⟩)), SV.eq (.int .i64 (c.saga)), SV.eq (.pointer (some ⟨g1, 1, none⟩)), SV.eq (.int .i64 (c.step)), SV.eq (.agg (rowA 4 (eyF ⟨c.saga, c.step, true, true⟩))), SV.any, SV.any, SV.eq (.pointer (some ⟨g, 0, none⟩)), SV.eq (.pointer (some ⟨g, 5, none⟩))] [([(0, none)], none), ([], none), ([(0, none)], none), ([(27, some 2)], none), ([(28, some 3)], none), ([(29, some 4)], none), ([(26, some 1), (30, some 5)], none), ([(4, none)], none), ([(32, some 7)], none), ([(4, none)], none), ([(34, some 9)], none), ([(33, some 8), (35, some 10)], none), ([(36, some 11)], none), ([(31, some 6), (37, some 12)], none), ([(25, some 0)], none), ([(39, some 14)], none)] 88 rfl (by kernel_rfl) rfl (by kernel_rfl) (by kernel_rfl) rfl (BelT.trans w8) (BelT.drew w8 _) (JA.start ⟨Nat.le_of_ble_eq_true rfl, Nat.le_of_ble_eq_true rfl, Nat.le_of_ble_eq_true rfl, Nat.le_of_ble_eq_true rfl⟩ _) (Nat.le_of_ble_eq_true rfl) ⟨?_, ?_, ?_, ?_, ?_, ?_, ?_, ?_, ?_, ?_, ?_, ?_, ?_, ?_, ?_, ?_, trivial⟩ ?_
                · intro a wx li hT hF hJ hx K hK
                  replace hT : NewT w8 wx := hT
                  replace hK := fun v w' (hN : NewT wx w') hv => hK v w' (BelT.new hT hN) ((JA.other hJ (by decide) (by simp) hN)) hv
                  obtain ⟨f0, _⟩ := hF
                  have f0 : a.tmps.getD 0 undef = .pointer (some ⟨g, 0, none⟩) := f0
                  refine rely_wp rfl ?_
                  exact opr_move (.inl rfl) (hK _ _ (NewT.refl _) f0)
                · intro a wx li hT hF hJ hx K hK
                  replace hT : NewT w8 wx := hT
                  refine rely_wp rfl ?_
                  exact opr_jaMade hT hJ hx (by decide) rfl rfl (fun v w' h1 h2 => hK v w' h1 h2 trivial)
                · intro a wx li hT hF hJ hx K hK
                  replace hT : NewT w8 wx := hT
                  replace hK := fun v w' (hN : NewT wx w') hv => hK v w' (BelT.new hT hN) ((JA.other hJ (by decide) (by simp) hN)) hv
                  obtain ⟨f0, _⟩ := hF
                  have f0 : a.tmps.getD 0 undef = .pointer (some ⟨g, 0, none⟩) := f0
                  refine rely_wp rfl ?_
                  exact opr_move (.inl rfl) (hK _ _ (NewT.refl _) f0)
                · intro a wx li hT hF hJ hx K hK
                  replace hT : NewT w8 wx := hT
                  replace hK := fun v w' (hN : NewT wx w') hv => hK v w' (BelT.new hT hN) ((JA.other hJ (by decide) (by simp) hN)) hv
                  obtain ⟨f27, _⟩ := hF
                  have f27 : a.tmps.getD 27 undef = .pointer (some ⟨g, 0, none⟩) := f27
                  refine rely_wp rfl ?_
                  exact opr_nilc rfl f27 (hK _ _ (NewT.refl _) rfl)
                · intro a wx li hT hF hJ hx K hK
                  replace hT : NewT w8 wx := hT
                  replace hK := fun v w' (hN : NewT wx w') hv => hK v w' (BelT.new hT hN) ((JA.other hJ (by decide) (by simp) hN)) hv
                  obtain ⟨f28, _⟩ := hF
                  have f28 : a.tmps.getD 28 undef = .pointer (some ⟨g, 0, none⟩) := f28
                  refine rely_wp rfl ?_
                  exact opr_fldRp3 rfl f28 (hK _ _ (NewT.refl _) rfl)
                · intro a wx li hT hF hJ hx K hK
                  replace hT : NewT w8 wx := hT
                  replace hK := fun v w' (hN : NewT wx w') hv => hK v w' (BelT.new hT hN) ((JA.other hJ (by decide) (by simp) hN)) hv
                  obtain ⟨f29, _⟩ := hF
                  have f29 : a.tmps.getD 29 undef = .pointer (some ⟨g, 5, none⟩) := f29
                  refine rely_wp rfl ?_
                  exact opr_ldEs (hT.row Rg.out) (by decide) rfl rfl f29 (hK _ _ (NewT.refl _) rfl)
                · intro a wx li hT hF hJ hx K hK
                  replace hT : NewT w8 wx := hT
                  obtain ⟨f26, f30, _⟩ := hF
                  replace f26 := show (SV.any).pred (a.tmps.getD 26 undef) wx from f26
                  have f30 : a.tmps.getD 30 undef = sv := f30
                  refine rely_wp rfl ?_
                  exact opr_jaApp1 (u := sv) hT hJ hx ⟨(by kernel_rfl), (by kernel_rfl)⟩ (by decide) (HOW.out.new (NewT.trans _ _ _ HM.out hT)).rd (one_ents L) (by rw [List.length_map]; exact HL9.out) rfl rfl f30 rfl (fun v w' h1 h2 => hK v w' h1 h2 trivial)
                · intro a wx li hT hF hJ hx K hK
                  replace hT : NewT w8 wx := hT
                  replace hK := fun v w' (hN : NewT wx w') hv => hK v w' (BelT.new hT hN) ((JA.other hJ (by decide) (by simp) hN)) hv
                  obtain ⟨f4, _⟩ := hF
                  have f4 : a.tmps.getD 4 undef = .pointer (some ⟨g1, 0, none⟩) := f4
                  refine rely_wp rfl ?_
                  exact opr_fldCl0 rfl f4 (hK _ _ (NewT.refl _) rfl)
                · intro a wx li hT hF hJ hx K hK
                  replace hT : NewT w8 wx := hT
                  replace hK := fun v w' (hN : NewT wx w') hv => hK v w' (BelT.new hT hN) ((JA.other hJ (by decide) (by simp) hN)) hv
                  obtain ⟨f32, _⟩ := hF
                  have f32 : a.tmps.getD 32 undef = .pointer (some ⟨g1, 0, none⟩) := f32
                  refine rely_wp rfl ?_
                  exact opr_ldI (hT.row Rg1.out) (by decide) rfl rfl f32 (hK _ _ (NewT.refl _) rfl)
                · intro a wx li hT hF hJ hx K hK
                  replace hT : NewT w8 wx := hT
                  replace hK := fun v w' (hN : NewT wx w') hv => hK v w' (BelT.new hT hN) ((JA.other hJ (by decide) (by simp) hN)) hv
                  obtain ⟨f4, _⟩ := hF
                  have f4 : a.tmps.getD 4 undef = .pointer (some ⟨g1, 0, none⟩) := f4
                  refine rely_wp rfl ?_
                  exact opr_fldCl1 rfl f4 (hK _ _ (NewT.refl _) rfl)
                · intro a wx li hT hF hJ hx K hK
                  replace hT : NewT w8 wx := hT
                  replace hK := fun v w' (hN : NewT wx w') hv => hK v w' (BelT.new hT hN) ((JA.other hJ (by decide) (by simp) hN)) hv
                  obtain ⟨f34, _⟩ := hF
                  have f34 : a.tmps.getD 34 undef = .pointer (some ⟨g1, 1, none⟩) := f34
                  refine rely_wp rfl ?_
                  exact opr_ldI (hT.row Rg1.out) (by decide) rfl rfl f34 (hK _ _ (NewT.refl _) rfl)
                · intro a wx li hT hF hJ hx K hK
                  replace hT : NewT w8 wx := hT
                  replace hK := fun v w' (hN : NewT wx w') hv => hK v w' (BelT.new hT hN) ((JA.other hJ (by decide) (by simp) hN)) hv
                  obtain ⟨f33, f35, _⟩ := hF
                  have f33 : a.tmps.getD 33 undef = .int .i64 (c.saga) := f33
                  have f35 : a.tmps.getD 35 undef = .int .i64 (c.step) := f35
                  refine rely_wp rfl ?_
                  exact opr_build (pv := #[(0, .int .i64 (c.saga)), (1, .int .i64 (c.step)), (2, .bool true), (3, .bool true)]) rfl (by simp only [List.map_toArray, List.map_cons, List.map_nil, eval_tmp, eval_const, f33, f35]) (run_bld_ey c.saga c.step true true wx) (hK _ _ (NewT.refl _) rfl)
                · intro a wx li hT hF hJ hx K hK
                  replace hT : NewT w8 wx := hT
                  obtain ⟨f36, _⟩ := hF
                  have f36 : a.tmps.getD 36 undef = .agg (rowA 4 (eyF ⟨c.saga, c.step, true, true⟩)) := f36
                  refine rely_wp rfl ?_
                  exact opr_jaOne hT hJ hx (by decide) rfl f36 rfl (fun v w' h1 h2 => hK v w' h1 h2 trivial)
                · intro a wx li hT hF hJ hx K hK
                  replace hT : NewT w8 wx := hT
                  obtain ⟨f31, f37, _⟩ := hF
                  replace f31 := show (SV.any).pred (a.tmps.getD 31 undef) wx from f31
                  replace f37 := show (SV.any).pred (a.tmps.getD 37 undef) wx from f37
                  refine rely_wp rfl ?_
                  exact opr_jaApp2 hT hJ hx ⟨(by kernel_rfl), (by kernel_rfl)⟩ (by decide) (fun j _ => eyF_one _ j) (by rw [List.length_map]; exact HL9.out) rfl rfl rfl rfl (fun v w' h1 h2 => hK v w' h1 h2 trivial)
                · intro a wx li hT hF hJ hx K hK
                  replace hT : NewT w8 wx := hT
                  replace hK := fun v w' (hN : NewT wx w') hv => hK v w' (BelT.new hT hN) ((JA.other hJ (by decide) (by simp) hN)) hv
                  obtain ⟨f25, _⟩ := hF
                  have f25 : a.tmps.getD 25 undef = .pointer (some ⟨g, 0, none⟩) := f25
                  refine rely_wp rfl ?_
                  exact opr_nilc rfl f25 (hK _ _ (NewT.refl _) rfl)
                · intro a wx li hT hF hJ hx K hK
                  replace hT : NewT w8 wx := hT
                  replace hK := fun v w' (hN : NewT wx w') hv => hK v w' (BelT.new hT hN) ((JA.other hJ (by decide) (by simp) hN)) hv
                  obtain ⟨f39, _⟩ := hF
                  have f39 : a.tmps.getD 39 undef = .pointer (some ⟨g, 0, none⟩) := f39
                  refine rely_wp rfl ?_
                  exact opr_fldRp3 rfl f39 (hK _ _ (NewT.refl _) rfl)
                · intro w9 k9
                  intro u h; obtain rfl := Eq.symm (h (by simp)); clear h
                  intro _ _
                  iterate 4 (intro u h; obtain rfl := Eq.symm (h (by simp)); clear h)
                  intro _ _
                  iterate 5 (intro u h; obtain rfl := Eq.symm (h (by simp)); clear h)
                  intro _ _
                  intro u38 h; have g38 := h (by simp); clear h; replace g38 := show (SV.any).pred u38 w9 from g38
                  iterate 2 (intro u h; obtain rfl := Eq.symm (h (by simp)); clear h)
                  refine relyEnd_nil rfl ?_
                  intro hJ
                  simp only [Act.put, List.setIfInBounds_toArray, List.set_cons_zero, List.set_cons_succ]
                  have hO := JA.at (v := u38) hJ (by decide) (by kernel_rfl)
                  clear hJ
                  obtain ⟨sA, sc, hsv, _⟩ := hO.form
                  subst hsv
                  replace k9 : NewT w8 w9 := k9
                  refine opr_put1B (g := g) (o0 := 5) (v := .slice sA (List.map eyF L ++ [eyF ⟨c.saga, c.step, true, true⟩]).length sc) (F := rpF pv wv need n e (.slice sA (List.map eyF L ++ [eyF ⟨c.saga, c.step, true, true⟩]).length sc)) rfl rfl rfl (k9.row Rg.out) (by decide) info_es rfl (fun i hi => rpF_l pv wv need n e sv _ i hi) ?_
                  intro W9 hR9 hO9 rr9
                  go_simp
                  have HRA := Lib.hid (RefAt.put (hi := hi) rr9 hO hO9 (Nat.lt_of_lt_of_le HHI.out.2 HM.out.out.size) HHI.out.1)
                  have HQ := Lib.hid (PT.put (NewT.trans _ _ _ HM.out k9) hR9 hO9 HHI.out.2)
                  replace HM := Lib.hid (NewT.refl W9)
                  clear hR9 hO9 rr9 hO k9 Rg Rg1
                  go_upto_region 7 with fail
                  refine wp_region_steps0 NewT [SV.eq (.bool false), SV.eq (.bool true), SV.eq (.bool true)] [([(2, none)], none), ([(41, some 0)], none), ([(42, some 1)], none)] 88 3 rfl rfl (by kernel_rfl) NewT.trans (NewT.refl _) (Nat.le_of_ble_eq_true rfl) ⟨?_, ?_, ?_, trivial⟩ ?_
                  · exact fun a wx hT hF K hK => rely_wp rfl (opr_move (.inl rfl) (hK _ _ (NewT.refl _) hF.1))
                  · exact fun a wx hT hF K hK => rely_wp rfl (opr_not rfl hF.1 (hK _ _ (NewT.refl _) rfl))
                  · exact fun a wx hT hF K hK => rely_wp rfl (opr_move (.inr rfl) (hK _ _ (NewT.refl _) hF.1))
                  · intro w10 k10
                    iterate 3 (intro u h; obtain rfl := Eq.symm (h (by simp)); clear h)
                    refine relyEnd_nil rfl ?_
                    refine wpList_end rfl ?_
                    simp only [Act.put, List.setIfInBounds_toArray, List.set_cons_zero, List.set_cons_succ]
                    go_simp
                    replace HM := Lib.hid (NewT.trans _ _ _ HM.out k10)
                    clear k10
                    go_wp2
                    go_ret
                    rw [HGD.out, HKL.out]
                    exact ⟨rfl, PT.nw HQ.out HM.out (Nat.le_of_lt HHI.out.2), HRA.out.new HM.out⟩
              · have HGD : Hid (goodE L c true = false) := Lib.hid (by unfold goodE goodN; rw [HN.out, HU.out]; rfl)
                have HKL : Hid (keepL L c true = L) := Lib.hid (by
                  unfold keepL putB askB goodN
                  rw [HN.out, HU.out, HBK.out]
                  rfl)
                subst hb
                go_upto_region 7 with fail
                refine wp_region_steps0 NewT [SV.eq (.bool true), SV.eq (.bool false), SV.eq (.bool false)] [([(2, none)], none), ([(41, some 0)], none), ([(42, some 1)], none)] 88 3 rfl rfl (by kernel_rfl) NewT.trans (NewT.refl _) (Nat.le_of_ble_eq_true rfl) ⟨?_, ?_, ?_, trivial⟩ ?_
                · exact fun a wx hT hF K hK => rely_wp rfl (opr_move (.inl rfl) (hK _ _ (NewT.refl _) hF.1))
                · exact fun a wx hT hF K hK => rely_wp rfl (opr_not rfl hF.1 (hK _ _ (NewT.refl _) rfl))
                · exact fun a wx hT hF K hK => rely_wp rfl (opr_move (.inr rfl) (hK _ _ (NewT.refl _) hF.1))
                · intro w11 k11
                  iterate 3 (intro u h; obtain rfl := Eq.symm (h (by simp)); clear h)
                  refine relyEnd_nil rfl ?_
                  refine wpList_end rfl ?_
                  simp only [Act.put, List.setIfInBounds_toArray, List.set_cons_zero, List.set_cons_succ]
                  go_simp
                  replace Rg1 := Lib.hid (k11.row Rg1.out)
                  replace Rg := Lib.hid (k11.row Rg.out)
                  replace HM := Lib.hid (NewT.trans _ _ _ HM.out k11)
                  clear k11
                  go_wp2
                  go_ret
                  rw [HGD.out, HKL.out]
                  exact ⟨rfl, PT.new HM.out (Nat.le_of_lt HHI.out.2), ⟨sv, Rg.out, HOW.out.new HM.out, HHI.out.1⟩⟩
      · have HGD : Hid (goodE L c r = (z == 2)) := Lib.hid (by
          rw [← HZ.out, hasN_pos] at hb
          unfold goodE
          rw [← HZ.out, hasN_two]
          obtain ⟨v, hv⟩ := Option.isSome_iff_exists.1 hb
          rw [hv]; rfl)
        have HKL : Hid (keepL L c r = L) := Lib.hid (keep_has _ _ _ (by rw [← HZ.out, hasN_pos] at hb; exact hb))
        clear hb
        go_upto_region 3 with fail
        refine wp_region_steps0 NewT [SV.eq (.int .i64 (z)), SV.eq (.bool (z == 2)), SV.eq (.bool (z == 2))] [([(7, none)], none), ([(19, some 0)], none), ([(20, some 1)], none)] 88 3 rfl rfl (by kernel_rfl) NewT.trans (NewT.refl _) (Nat.le_of_ble_eq_true rfl) ⟨?_, ?_, ?_, trivial⟩ ?_
        · exact fun a wx hT hF K hK => rely_wp rfl (opr_move (.inl rfl) (hK _ _ (NewT.refl _) hF.1))
        · exact fun a wx hT hF K hK => rely_wp rfl (opr_cmp (b := z == 2) (.inl ⟨rfl, rfl⟩) Tryd.underlying3 rfl hF.1 rfl (hK _ _ (NewT.refl _) rfl))
        · exact fun a wx hT hF K hK => rely_wp rfl (opr_move (.inr rfl) (hK _ _ (NewT.refl _) hF.1))
        · intro w12 k12
          iterate 3 (intro u h; obtain rfl := Eq.symm (h (by simp)); clear h)
          refine relyEnd_nil rfl ?_
          refine wpList_end rfl ?_
          simp only [Act.put, List.setIfInBounds_toArray, List.set_cons_zero, List.set_cons_succ]
          go_simp
          replace Rg1 := Lib.hid (k12.row Rg1.out)
          replace Rg := Lib.hid (k12.row Rg.out)
          replace HM := Lib.hid (NewT.trans _ _ _ HM.out k12)
          clear k12
          go_wp2
          go_ret
          rw [HGD.out, HKL.out]
          exact ⟨rfl, PT.new HM.out (Nat.le_of_lt HHI.out.2), ⟨sv, Rg.out, HOW.out.new HM.out, HHI.out.1⟩⟩
end Go.Proofs.YtchpmdcacpjojaaDoor
/- The reference's receipt that an answer says. -/
namespace Go.Proofs.YtchpmdcacpjojaaDoor
open Go Go.RowKit
set_option maxRecDepth 8000
set_option linter.all false
set_option maxHeartbeats 1000000 in
theorem rReceipt_cv (c : Cl) (seq : Int) (w : World) : Cv 21 #[.agg (rowA 41 (clF c)), .int .i64 seq] w (svRec (recC c seq)) := by
  unfold Cv
  go_enter Tryd.func21, Tryd.ntmps21
  go_upto_region 1 with fail
  have r_g1 := (rowIs_box w 34 41 (clF c)).alloc (.cells (rowA 109 (recF zR (.slice none 0 0) (.slice none 0 0))) 51)
  have r_g2 := rowIs_box (w.alloc (.cells (rowA 41 (clF c)) 34)) 51 109 (recF zR (.slice none 0 0) (.slice none 0 0))
  rw [World.size_alloc] at r_g2
  have hN : NewT w ((w.alloc (.cells (rowA 41 (clF c)) 34)).alloc (.cells (rowA 109 (recF zR (.slice none 0 0) (.slice none 0 0))) 51)) := (NewT.trans _ _ _ (NewT.alloc _ _) (NewT.alloc _ _))
  change Code.wp _ _ _ _ ((w.alloc (.cells (rowA 41 (clF c)) 34)).alloc (.cells (rowA 109 (recF zR (.slice none 0 0) (.slice none 0 0))) 51))
  generalize ((w.alloc (.cells (rowA 41 (clF c)) 34)).alloc (.cells (rowA 109 (recF zR (.slice none 0 0) (.slice none 0 0))) 51)) = W0 at r_g1 r_g2 hN ⊢
  obtain ⟨g1, h_g1⟩ : ∃ g_, w.heap.size = g_ := ⟨_, rfl⟩
  obtain ⟨g2, h_g2⟩ : ∃ g_, w.heap.size + 1 = g_ := ⟨_, rfl⟩
  have HG : Hid (w.heap.size ≤ g1 ∧ g1 < g2) := Lib.hid (by omega)
  rw [h_g1] at r_g1
  rw [h_g2] at r_g2
  try rw [h_g2]
  simp only [h_g1]
  have Rg1 := Lib.hid r_g1
  have Rg2 := Lib.hid r_g2
  have HM := Lib.hid hN
  clear r_g1 r_g2 hN h_g1 h_g2
  go_upto_region 1 with fail
  refine wp_region_lit ?_
  refine wpList_plain rfl (fun K hK => ?_)
  refine opr_allocV rfl run_alloc_rec (hK _ _ ?_)
  clear hK K
  refine wpList_end rfl ?_
  simp only [Act.put, List.setIfInBounds_toArray, List.set_cons_zero, List.set_cons_succ]
  have hn1 := NewT.alloc W0 (.cells (rowA 109 (recF zR (.slice none 0 0) (.slice none 0 0))) 51)
  have rr1 := rowIs_box W0 51 109 (recF zR (.slice none 0 0) (.slice none 0 0))
  obtain ⟨g3, h_g3⟩ : ∃ g_, W0.heap.size = g_ := ⟨_, rfl⟩
  rw [h_g3] at rr1
  simp only [h_g3]
  generalize W0.alloc (.cells (rowA 109 (recF zR (.slice none 0 0) (.slice none 0 0))) 51) = W1 at *
  go_simp
  have HGg3 : Hid (g1 < g3 ∧ g2 < g3 ∧ w.heap.size ≤ g3) := Lib.hid (by rw [← h_g3]; exact ⟨Rg1.out.lt, Rg2.out.lt, HM.out.out.size⟩)
  clear h_g3
  replace Rg1 := Lib.hid (hn1.row Rg1.out)
  replace Rg2 := Lib.hid (hn1.row Rg2.out)
  replace HM := Lib.hid (NewT.trans _ _ _ HM.out hn1)
  clear hn1
  have Rg3 := Lib.hid rr1
  clear rr1
  go_upto_region 2 with fail
  refine wp_region_steps0 NewT [SV.eq (.pointer (some ⟨g1, 6, none⟩)), SV.eq (.bool (c.ans)), SV.eq (.bool (!c.ans))] [([(2, none)], none), ([(6, some 0)], none), ([(7, some 1)], none)] 38 3 rfl rfl (by kernel_rfl) NewT.trans (NewT.refl _) (Nat.le_of_ble_eq_true rfl) ⟨?_, ?_, ?_, trivial⟩ ?_
  · exact fun a wx hT hF K hK => rely_wp rfl (opr_fldCl6 rfl hF.1 (hK _ _ (NewT.refl _) rfl))
  · exact fun a wx hT hF K hK => rely_wp rfl (opr_ldQ (hT.row Rg1.out) (by decide) rfl rfl hF.1 (hK _ _ (NewT.refl _) rfl))
  · exact fun a wx hT hF K hK => rely_wp rfl (opr_not rfl hF.1 (hK _ _ (NewT.refl _) rfl))
  · intro w2 k2
    iterate 3 (intro u h; obtain rfl := Eq.symm (h (by simp)); clear h)
    refine relyEnd_nil rfl ?_
    refine wpList_end rfl ?_
    simp only [Act.put, List.setIfInBounds_toArray, List.set_cons_zero, List.set_cons_succ]
    go_simp
    replace Rg1 := Lib.hid (k2.row Rg1.out)
    replace Rg2 := Lib.hid (k2.row Rg2.out)
    replace Rg3 := Lib.hid (k2.row Rg3.out)
    replace HM := Lib.hid (NewT.trans _ _ _ HM.out k2)
    clear k2
    cases hb : c.ans
    · have HE : Hid (recC c seq = zR) := Lib.hid (by unfold recC; rw [hb]; rfl)
      clear hb
      go_upto_region 3 with fail
      refine wp_region_steps0 NewT [SV.eq (.agg (rowA 109 (recF zR (.slice none 0 0) (.slice none 0 0))))] [([(5, none)], none)] 38 1 rfl rfl (by kernel_rfl) NewT.trans (NewT.refl _) (Nat.le_of_ble_eq_true rfl) ⟨?_, trivial⟩ ?_
      · exact fun a wx hT hF K hK => rely_wp rfl (opr_ldR (hT.row Rg3.out) rfl hF.1 (hK _ _ (NewT.refl _) rfl))
      · intro w3 k3
        intro u h; obtain rfl := Eq.symm (h (by simp)); clear h
        refine relyEnd_nil rfl ?_
        simp only [Act.put, List.setIfInBounds_toArray, List.set_cons_zero, List.set_cons_succ]
        refine wpList_plain rfl (fun K hK => ?_)
        refine opr_putm (g := g2) (o0 := 0) (m := 109) (f := recF zR (.slice none 0 0) (.slice none 0 0)) (F := recF zR (.slice none 0 0) (.slice none 0 0)) rfl rfl rfl (k3.row Rg2.out) (by decide) info_rec (recF_one _ _ _ rfl rfl) (put_allN _ _ _) ?_
        intro W3 hR3 rr3
        refine hK _ _ ?_
        clear hK K
        refine wpList_end rfl ?_
        simp only [Act.put, List.setIfInBounds_toArray, List.set_cons_zero, List.set_cons_succ]
        go_simp
        replace Rg2 := Lib.hid rr3
        replace Rg1 := Lib.hid (hR3.row (by have h_0 := HG.out; have h_1 := HGg3.out; omega) (k3.row Rg1.out))
        replace Rg3 := Lib.hid (hR3.row (by have h_0 := HG.out; have h_1 := HGg3.out; omega) (k3.row Rg3.out))
        replace HM := Lib.hid (NewT.rt (NewT.trans _ _ _ HM.out k3) hR3 (by have h_0 := HG.out; have h_1 := HGg3.out; omega))
        clear k3 hR3 rr3
        go_wp2
        exact bodyPost_ret (results_agg rfl _ rfl Rg2.out Tryd.underlying51 rfl info_rec) rfl ⟨_, rfl, HM.out, by show RecV _ _ _; rw [HE.out]; exact ⟨(.slice none 0 0), (.slice none 0 0), rfl, rdP_nil _, rdV_nil _ _⟩⟩
    · have HB := Lib.hid hb
      clear hb
      go_upto_region 4 with fail
      refine wp_region_steps0 NewT [SV.eq (.pointer (some ⟨g3, 0, none⟩))] [([(5, none)], none)] 38 1 rfl rfl (by kernel_rfl) NewT.trans (NewT.refl _) (Nat.le_of_ble_eq_true rfl) ⟨?_, trivial⟩ ?_
      · exact fun a wx hT hF K hK => rely_wp rfl (opr_fldR (by decide) rfl hF.1 (hK _ _ (NewT.refl _) rfl))
      · intro w4 k4
        intro u h; obtain rfl := Eq.symm (h (by simp)); clear h
        refine relyEnd_nil rfl ?_
        simp only [Act.put, List.setIfInBounds_toArray, List.set_cons_zero, List.set_cons_succ]
        refine wpList_plain rfl (fun K hK => ?_)
        refine opr_put1 (g := g3) (o0 := 0) (v := .int .i64 3) (F := recF ({ zR with kind := 3 } : Rc) (.slice none 0 0) (.slice none 0 0)) rfl rfl rfl (k4.row Rg3.out) (by decide) info_i1 rfl (fun i _ => rs_kind zR (.slice none 0 0) (.slice none 0 0) i 3) ?_
        intro W4 hR4 rr4
        refine hK _ _ ?_
        clear hK K
        refine wpList_end rfl ?_
        simp only [Act.put, List.setIfInBounds_toArray, List.set_cons_zero, List.set_cons_succ]
        go_simp
        replace Rg3 := Lib.hid rr4
        replace Rg1 := Lib.hid (hR4.row (by have h_0 := HG.out; have h_1 := HGg3.out; omega) (k4.row Rg1.out))
        replace Rg2 := Lib.hid (hR4.row (by have h_0 := HG.out; have h_1 := HGg3.out; omega) (k4.row Rg2.out))
        replace HM := Lib.hid (NewT.rt (NewT.trans _ _ _ HM.out k4) hR4 (by have h_0 := HG.out; have h_1 := HGg3.out; omega))
        clear k4 hR4 rr4
        go_upto_region 5 with fail
        refine wp_region_steps0 NewT [SV.eq (.pointer (some ⟨g1, 0, none⟩)), SV.eq (.int .i64 (c.saga)), SV.eq (.pointer (some ⟨g3, 1, none⟩))] [([(2, none)], none), ([(11, some 0)], none), ([(5, none)], none)] 38 3 rfl rfl (by kernel_rfl) NewT.trans (NewT.refl _) (Nat.le_of_ble_eq_true rfl) ⟨?_, ?_, ?_, trivial⟩ ?_
        · exact fun a wx hT hF K hK => rely_wp rfl (opr_fldCl0 rfl hF.1 (hK _ _ (NewT.refl _) rfl))
        · exact fun a wx hT hF K hK => rely_wp rfl (opr_ldI (hT.row Rg1.out) (by decide) rfl rfl hF.1 (hK _ _ (NewT.refl _) rfl))
        · exact fun a wx hT hF K hK => rely_wp rfl (opr_fldR (by decide) rfl hF.1 (hK _ _ (NewT.refl _) rfl))
        · intro w5 k5
          iterate 3 (intro u h; obtain rfl := Eq.symm (h (by simp)); clear h)
          refine relyEnd_nil rfl ?_
          simp only [Act.put, List.setIfInBounds_toArray, List.set_cons_zero, List.set_cons_succ]
          refine wpList_plain rfl (fun K hK => ?_)
          refine opr_put1 (g := g3) (o0 := 1) (v := .int .i64 c.saga) (F := recF ({ zR with kind := 3, saga := c.saga } : Rc) (.slice none 0 0) (.slice none 0 0)) rfl rfl rfl (k5.row Rg3.out) (by decide) info_i1 rfl (fun i _ => rs_saga ({ zR with kind := 3 } : Rc) (.slice none 0 0) (.slice none 0 0) i c.saga) ?_
          intro W5 hR5 rr5
          refine hK _ _ ?_
          clear hK K
          refine wpList_end rfl ?_
          simp only [Act.put, List.setIfInBounds_toArray, List.set_cons_zero, List.set_cons_succ]
          go_simp
          replace Rg3 := Lib.hid rr5
          replace Rg1 := Lib.hid (hR5.row (by have h_0 := HG.out; have h_1 := HGg3.out; omega) (k5.row Rg1.out))
          replace Rg2 := Lib.hid (hR5.row (by have h_0 := HG.out; have h_1 := HGg3.out; omega) (k5.row Rg2.out))
          replace HM := Lib.hid (NewT.rt (NewT.trans _ _ _ HM.out k5) hR5 (by have h_0 := HG.out; have h_1 := HGg3.out; omega))
          clear k5 hR5 rr5
          go_upto_region 6 with fail
          refine wp_region_steps0 NewT [SV.eq (.int .i64 (seq)), SV.eq (.pointer (some ⟨g3, 2, none⟩))] [([(1, none)], none), ([(5, none)], none)] 38 2 rfl rfl (by kernel_rfl) NewT.trans (NewT.refl _) (Nat.le_of_ble_eq_true rfl) ⟨?_, ?_, trivial⟩ ?_
          · exact fun a wx hT hF K hK => rely_wp rfl (opr_move (.inl rfl) (hK _ _ (NewT.refl _) hF.1))
          · exact fun a wx hT hF K hK => rely_wp rfl (opr_fldR (by decide) rfl hF.1 (hK _ _ (NewT.refl _) rfl))
          · intro w6 k6
            iterate 2 (intro u h; obtain rfl := Eq.symm (h (by simp)); clear h)
            refine relyEnd_nil rfl ?_
            simp only [Act.put, List.setIfInBounds_toArray, List.set_cons_zero, List.set_cons_succ]
            refine wpList_plain rfl (fun K hK => ?_)
            refine opr_put1 (g := g3) (o0 := 2) (v := .int .i64 seq) (F := recF ({ zR with kind := 3, saga := c.saga, seq := seq } : Rc) (.slice none 0 0) (.slice none 0 0)) rfl rfl rfl (k6.row Rg3.out) (by decide) info_i1 rfl (fun i _ => rs_seq ({ zR with kind := 3, saga := c.saga } : Rc) (.slice none 0 0) (.slice none 0 0) i seq) ?_
            intro W6 hR6 rr6
            refine hK _ _ ?_
            clear hK K
            refine wpList_end rfl ?_
            simp only [Act.put, List.setIfInBounds_toArray, List.set_cons_zero, List.set_cons_succ]
            go_simp
            replace Rg3 := Lib.hid rr6
            replace Rg1 := Lib.hid (hR6.row (by have h_0 := HG.out; have h_1 := HGg3.out; omega) (k6.row Rg1.out))
            replace Rg2 := Lib.hid (hR6.row (by have h_0 := HG.out; have h_1 := HGg3.out; omega) (k6.row Rg2.out))
            replace HM := Lib.hid (NewT.rt (NewT.trans _ _ _ HM.out k6) hR6 (by have h_0 := HG.out; have h_1 := HGg3.out; omega))
            clear k6 hR6 rr6
            go_upto_region 7 with fail
            refine wp_region_steps0 NewT [SV.eq (.pointer (some ⟨g1, 1, none⟩)), SV.eq (.int .i64 (c.step)), SV.eq (.pointer (some ⟨g3, 3, none⟩))] [([(2, none)], none), ([(16, some 0)], none), ([(5, none)], none)] 38 3 rfl rfl (by kernel_rfl) NewT.trans (NewT.refl _) (Nat.le_of_ble_eq_true rfl) ⟨?_, ?_, ?_, trivial⟩ ?_
            · exact fun a wx hT hF K hK => rely_wp rfl (opr_fldCl1 rfl hF.1 (hK _ _ (NewT.refl _) rfl))
            · exact fun a wx hT hF K hK => rely_wp rfl (opr_ldI (hT.row Rg1.out) (by decide) rfl rfl hF.1 (hK _ _ (NewT.refl _) rfl))
            · exact fun a wx hT hF K hK => rely_wp rfl (opr_fldR (by decide) rfl hF.1 (hK _ _ (NewT.refl _) rfl))
            · intro w7 k7
              iterate 3 (intro u h; obtain rfl := Eq.symm (h (by simp)); clear h)
              refine relyEnd_nil rfl ?_
              simp only [Act.put, List.setIfInBounds_toArray, List.set_cons_zero, List.set_cons_succ]
              refine wpList_plain rfl (fun K hK => ?_)
              refine opr_put1 (g := g3) (o0 := 3) (v := .int .i64 c.step) (F := recF ({ zR with kind := 3, saga := c.saga, seq := seq, step := c.step } : Rc) (.slice none 0 0) (.slice none 0 0)) rfl rfl rfl (k7.row Rg3.out) (by decide) info_i1 rfl (fun i _ => rs_step ({ zR with kind := 3, saga := c.saga, seq := seq } : Rc) (.slice none 0 0) (.slice none 0 0) i c.step) ?_
              intro W7 hR7 rr7
              refine hK _ _ ?_
              clear hK K
              refine wpList_end rfl ?_
              simp only [Act.put, List.setIfInBounds_toArray, List.set_cons_zero, List.set_cons_succ]
              go_simp
              replace Rg3 := Lib.hid rr7
              replace Rg1 := Lib.hid (hR7.row (by have h_0 := HG.out; have h_1 := HGg3.out; omega) (k7.row Rg1.out))
              replace Rg2 := Lib.hid (hR7.row (by have h_0 := HG.out; have h_1 := HGg3.out; omega) (k7.row Rg2.out))
              replace HM := Lib.hid (NewT.rt (NewT.trans _ _ _ HM.out k7) hR7 (by have h_0 := HG.out; have h_1 := HGg3.out; omega))
              clear k7 hR7 rr7
              go_upto_region 8 with fail
              refine wp_region_steps0 NewT [SV.eq (.pointer (some ⟨g1, 2, none⟩)), SV.eq (.int .i64 (c.tr)), SV.eq (.pointer (some ⟨g3, 4, none⟩))] [([(2, none)], none), ([(19, some 0)], none), ([(5, none)], none)] 38 3 rfl rfl (by kernel_rfl) NewT.trans (NewT.refl _) (Nat.le_of_ble_eq_true rfl) ⟨?_, ?_, ?_, trivial⟩ ?_
              · exact fun a wx hT hF K hK => rely_wp rfl (opr_fldCl2 rfl hF.1 (hK _ _ (NewT.refl _) rfl))
              · exact fun a wx hT hF K hK => rely_wp rfl (opr_ldI (hT.row Rg1.out) (by decide) rfl rfl hF.1 (hK _ _ (NewT.refl _) rfl))
              · exact fun a wx hT hF K hK => rely_wp rfl (opr_fldR (by decide) rfl hF.1 (hK _ _ (NewT.refl _) rfl))
              · intro w8 k8
                iterate 3 (intro u h; obtain rfl := Eq.symm (h (by simp)); clear h)
                refine relyEnd_nil rfl ?_
                simp only [Act.put, List.setIfInBounds_toArray, List.set_cons_zero, List.set_cons_succ]
                refine wpList_plain rfl (fun K hK => ?_)
                refine opr_put1 (g := g3) (o0 := 4) (v := .int .i64 c.tr) (F := recF ({ zR with kind := 3, saga := c.saga, seq := seq, step := c.step, tr := c.tr } : Rc) (.slice none 0 0) (.slice none 0 0)) rfl rfl rfl (k8.row Rg3.out) (by decide) info_i1 rfl (fun i _ => rs_tr ({ zR with kind := 3, saga := c.saga, seq := seq, step := c.step } : Rc) (.slice none 0 0) (.slice none 0 0) i c.tr) ?_
                intro W8 hR8 rr8
                refine hK _ _ ?_
                clear hK K
                refine wpList_end rfl ?_
                simp only [Act.put, List.setIfInBounds_toArray, List.set_cons_zero, List.set_cons_succ]
                go_simp
                replace Rg3 := Lib.hid rr8
                replace Rg1 := Lib.hid (hR8.row (by have h_0 := HG.out; have h_1 := HGg3.out; omega) (k8.row Rg1.out))
                replace Rg2 := Lib.hid (hR8.row (by have h_0 := HG.out; have h_1 := HGg3.out; omega) (k8.row Rg2.out))
                replace HM := Lib.hid (NewT.rt (NewT.trans _ _ _ HM.out k8) hR8 (by have h_0 := HG.out; have h_1 := HGg3.out; omega))
                clear k8 hR8 rr8
                go_upto_region 9 with fail
                refine wp_region_steps0 NewT [SV.eq (.pointer (some ⟨g1, 3, none⟩)), SV.eq (.bool (c.back)), SV.eq (.pointer (some ⟨g3, 5, none⟩))] [([(2, none)], none), ([(22, some 0)], none), ([(5, none)], none)] 38 3 rfl rfl (by kernel_rfl) NewT.trans (NewT.refl _) (Nat.le_of_ble_eq_true rfl) ⟨?_, ?_, ?_, trivial⟩ ?_
                · exact fun a wx hT hF K hK => rely_wp rfl (opr_fldCl3 rfl hF.1 (hK _ _ (NewT.refl _) rfl))
                · exact fun a wx hT hF K hK => rely_wp rfl (opr_ldQ (hT.row Rg1.out) (by decide) rfl rfl hF.1 (hK _ _ (NewT.refl _) rfl))
                · exact fun a wx hT hF K hK => rely_wp rfl (opr_fldR (by decide) rfl hF.1 (hK _ _ (NewT.refl _) rfl))
                · intro w9 k9
                  iterate 3 (intro u h; obtain rfl := Eq.symm (h (by simp)); clear h)
                  refine relyEnd_nil rfl ?_
                  simp only [Act.put, List.setIfInBounds_toArray, List.set_cons_zero, List.set_cons_succ]
                  refine wpList_plain rfl (fun K hK => ?_)
                  refine opr_put1 (g := g3) (o0 := 5) (v := .bool c.back) (F := recF ({ zR with kind := 3, saga := c.saga, seq := seq, step := c.step, tr := c.tr, back := c.back } : Rc) (.slice none 0 0) (.slice none 0 0)) rfl rfl rfl (k9.row Rg3.out) (by decide) info_b1 rfl (fun i _ => rs_back ({ zR with kind := 3, saga := c.saga, seq := seq, step := c.step, tr := c.tr } : Rc) (.slice none 0 0) (.slice none 0 0) i c.back) ?_
                  intro W9 hR9 rr9
                  refine hK _ _ ?_
                  clear hK K
                  refine wpList_end rfl ?_
                  simp only [Act.put, List.setIfInBounds_toArray, List.set_cons_zero, List.set_cons_succ]
                  go_simp
                  replace Rg3 := Lib.hid rr9
                  replace Rg1 := Lib.hid (hR9.row (by have h_0 := HG.out; have h_1 := HGg3.out; omega) (k9.row Rg1.out))
                  replace Rg2 := Lib.hid (hR9.row (by have h_0 := HG.out; have h_1 := HGg3.out; omega) (k9.row Rg2.out))
                  replace HM := Lib.hid (NewT.rt (NewT.trans _ _ _ HM.out k9) hR9 (by have h_0 := HG.out; have h_1 := HGg3.out; omega))
                  clear k9 hR9 rr9
                  go_upto_region 10 with fail
                  refine wp_region_steps0 NewT [SV.eq (.pointer (some ⟨g1, 7, none⟩)), SV.eq (.bool (c.good)), SV.eq (.pointer (some ⟨g3, 6, none⟩))] [([(2, none)], none), ([(25, some 0)], none), ([(5, none)], none)] 38 3 rfl rfl (by kernel_rfl) NewT.trans (NewT.refl _) (Nat.le_of_ble_eq_true rfl) ⟨?_, ?_, ?_, trivial⟩ ?_
                  · exact fun a wx hT hF K hK => rely_wp rfl (opr_fldCl7 rfl hF.1 (hK _ _ (NewT.refl _) rfl))
                  · exact fun a wx hT hF K hK => rely_wp rfl (opr_ldQ (hT.row Rg1.out) (by decide) rfl rfl hF.1 (hK _ _ (NewT.refl _) rfl))
                  · exact fun a wx hT hF K hK => rely_wp rfl (opr_fldR (by decide) rfl hF.1 (hK _ _ (NewT.refl _) rfl))
                  · intro w10 k10
                    iterate 3 (intro u h; obtain rfl := Eq.symm (h (by simp)); clear h)
                    refine relyEnd_nil rfl ?_
                    simp only [Act.put, List.setIfInBounds_toArray, List.set_cons_zero, List.set_cons_succ]
                    refine wpList_plain rfl (fun K hK => ?_)
                    refine opr_put1 (g := g3) (o0 := 6) (v := .bool c.good) (F := recF ({ zR with kind := 3, saga := c.saga, seq := seq, step := c.step, tr := c.tr, back := c.back, good := c.good } : Rc) (.slice none 0 0) (.slice none 0 0)) rfl rfl rfl (k10.row Rg3.out) (by decide) info_b1 rfl (fun i _ => rs_good ({ zR with kind := 3, saga := c.saga, seq := seq, step := c.step, tr := c.tr, back := c.back } : Rc) (.slice none 0 0) (.slice none 0 0) i c.good) ?_
                    intro W10 hR10 rr10
                    refine hK _ _ ?_
                    clear hK K
                    refine wpList_end rfl ?_
                    simp only [Act.put, List.setIfInBounds_toArray, List.set_cons_zero, List.set_cons_succ]
                    go_simp
                    replace Rg3 := Lib.hid rr10
                    replace Rg1 := Lib.hid (hR10.row (by have h_0 := HG.out; have h_1 := HGg3.out; omega) (k10.row Rg1.out))
                    replace Rg2 := Lib.hid (hR10.row (by have h_0 := HG.out; have h_1 := HGg3.out; omega) (k10.row Rg2.out))
                    replace HM := Lib.hid (NewT.rt (NewT.trans _ _ _ HM.out k10) hR10 (by have h_0 := HG.out; have h_1 := HGg3.out; omega))
                    clear k10 hR10 rr10
                    go_upto_region 11 with fail
                    refine wp_region_steps0 NewT [SV.eq (.pointer (some ⟨g1, 4, none⟩)), SV.eq (.int .i64 (c.part)), SV.eq (.pointer (some ⟨g3, 8, none⟩))] [([(2, none)], none), ([(28, some 0)], none), ([(5, none)], none)] 38 3 rfl rfl (by kernel_rfl) NewT.trans (NewT.refl _) (Nat.le_of_ble_eq_true rfl) ⟨?_, ?_, ?_, trivial⟩ ?_
                    · exact fun a wx hT hF K hK => rely_wp rfl (opr_fldCl4 rfl hF.1 (hK _ _ (NewT.refl _) rfl))
                    · exact fun a wx hT hF K hK => rely_wp rfl (opr_ldI (hT.row Rg1.out) (by decide) rfl rfl hF.1 (hK _ _ (NewT.refl _) rfl))
                    · exact fun a wx hT hF K hK => rely_wp rfl (opr_fldR (by decide) rfl hF.1 (hK _ _ (NewT.refl _) rfl))
                    · intro w11 k11
                      iterate 3 (intro u h; obtain rfl := Eq.symm (h (by simp)); clear h)
                      refine relyEnd_nil rfl ?_
                      simp only [Act.put, List.setIfInBounds_toArray, List.set_cons_zero, List.set_cons_succ]
                      refine wpList_plain rfl (fun K hK => ?_)
                      refine opr_put1 (g := g3) (o0 := 8) (v := .int .i64 c.part) (F := recF ({ zR with kind := 3, saga := c.saga, seq := seq, step := c.step, tr := c.tr, back := c.back, good := c.good, part := c.part } : Rc) (.slice none 0 0) (.slice none 0 0)) rfl rfl rfl (k11.row Rg3.out) (by decide) info_i1 rfl (fun i _ => rs_part ({ zR with kind := 3, saga := c.saga, seq := seq, step := c.step, tr := c.tr, back := c.back, good := c.good } : Rc) (.slice none 0 0) (.slice none 0 0) i c.part) ?_
                      intro W11 hR11 rr11
                      refine hK _ _ ?_
                      clear hK K
                      refine wpList_end rfl ?_
                      simp only [Act.put, List.setIfInBounds_toArray, List.set_cons_zero, List.set_cons_succ]
                      go_simp
                      replace Rg3 := Lib.hid rr11
                      replace Rg1 := Lib.hid (hR11.row (by have h_0 := HG.out; have h_1 := HGg3.out; omega) (k11.row Rg1.out))
                      replace Rg2 := Lib.hid (hR11.row (by have h_0 := HG.out; have h_1 := HGg3.out; omega) (k11.row Rg2.out))
                      replace HM := Lib.hid (NewT.rt (NewT.trans _ _ _ HM.out k11) hR11 (by have h_0 := HG.out; have h_1 := HGg3.out; omega))
                      clear k11 hR11 rr11
                      go_upto_region 12 with fail
                      refine wp_region_steps0 NewT [SV.eq (.pointer (some ⟨g1, 8, none⟩)), SV.eq (.int .i64 (c.ep)), SV.eq (.pointer (some ⟨g3, 9, none⟩))] [([(2, none)], none), ([(31, some 0)], none), ([(5, none)], none)] 38 3 rfl rfl (by kernel_rfl) NewT.trans (NewT.refl _) (Nat.le_of_ble_eq_true rfl) ⟨?_, ?_, ?_, trivial⟩ ?_
                      · exact fun a wx hT hF K hK => rely_wp rfl (opr_fldCl8 rfl hF.1 (hK _ _ (NewT.refl _) rfl))
                      · exact fun a wx hT hF K hK => rely_wp rfl (opr_ldI (hT.row Rg1.out) (by decide) rfl rfl hF.1 (hK _ _ (NewT.refl _) rfl))
                      · exact fun a wx hT hF K hK => rely_wp rfl (opr_fldR (by decide) rfl hF.1 (hK _ _ (NewT.refl _) rfl))
                      · intro w12 k12
                        iterate 3 (intro u h; obtain rfl := Eq.symm (h (by simp)); clear h)
                        refine relyEnd_nil rfl ?_
                        simp only [Act.put, List.setIfInBounds_toArray, List.set_cons_zero, List.set_cons_succ]
                        refine wpList_plain rfl (fun K hK => ?_)
                        refine opr_put1 (g := g3) (o0 := 9) (v := .int .i64 c.ep) (F := recF ({ zR with kind := 3, saga := c.saga, seq := seq, step := c.step, tr := c.tr, back := c.back, good := c.good, part := c.part, epoch := c.ep } : Rc) (.slice none 0 0) (.slice none 0 0)) rfl rfl rfl (k12.row Rg3.out) (by decide) info_i1 rfl (fun i _ => rs_epoch ({ zR with kind := 3, saga := c.saga, seq := seq, step := c.step, tr := c.tr, back := c.back, good := c.good, part := c.part } : Rc) (.slice none 0 0) (.slice none 0 0) i c.ep) ?_
                        intro W12 hR12 rr12
                        refine hK _ _ ?_
                        clear hK K
                        refine wpList_end rfl ?_
                        simp only [Act.put, List.setIfInBounds_toArray, List.set_cons_zero, List.set_cons_succ]
                        go_simp
                        replace Rg3 := Lib.hid rr12
                        replace Rg1 := Lib.hid (hR12.row (by have h_0 := HG.out; have h_1 := HGg3.out; omega) (k12.row Rg1.out))
                        replace Rg2 := Lib.hid (hR12.row (by have h_0 := HG.out; have h_1 := HGg3.out; omega) (k12.row Rg2.out))
                        replace HM := Lib.hid (NewT.rt (NewT.trans _ _ _ HM.out k12) hR12 (by have h_0 := HG.out; have h_1 := HGg3.out; omega))
                        clear k12 hR12 rr12
                        go_upto_region 13 with fail
                        refine wp_region_steps0 NewT [SV.eq (.pointer (some ⟨g1, 9, none⟩)), SV.eq (.agg (rowA 32 (bF (c.tag)))), SV.eq (.pointer (some ⟨g3, 10, none⟩))] [([(2, none)], none), ([(34, some 0)], none), ([(5, none)], none)] 38 3 rfl rfl (by kernel_rfl) NewT.trans (NewT.refl _) (Nat.le_of_ble_eq_true rfl) ⟨?_, ?_, ?_, trivial⟩ ?_
                        · exact fun a wx hT hF K hK => rely_wp rfl (opr_fldCl9 rfl hF.1 (hK _ _ (NewT.refl _) rfl))
                        · exact fun a wx hT hF K hK => rely_wp rfl (opr_ldH (hT.row Rg1.out) (by decide) (clF_tag _) rfl hF.1 (hK _ _ (NewT.refl _) rfl))
                        · exact fun a wx hT hF K hK => rely_wp rfl (opr_fldR (by decide) rfl hF.1 (hK _ _ (NewT.refl _) rfl))
                        · intro w13 k13
                          iterate 3 (intro u h; obtain rfl := Eq.symm (h (by simp)); clear h)
                          refine relyEnd_nil rfl ?_
                          simp only [Act.put, List.setIfInBounds_toArray, List.set_cons_zero, List.set_cons_succ]
                          refine wpList_plain rfl (fun K hK => ?_)
                          refine opr_putm (g := g3) (o0 := 10) (m := 32) (f := bF c.tag) (F := recF ({ zR with kind := 3, saga := c.saga, seq := seq, step := c.step, tr := c.tr, back := c.back, good := c.good, part := c.part, epoch := c.ep, tag := c.tag } : Rc) (.slice none 0 0) (.slice none 0 0)) rfl rfl rfl (k13.row Rg3.out) (by decide) info31 (fun _ => rfl) (fun i hi => rs_tag ({ zR with kind := 3, saga := c.saga, seq := seq, step := c.step, tr := c.tr, back := c.back, good := c.good, part := c.part, epoch := c.ep } : Rc) (.slice none 0 0) (.slice none 0 0) i c.tag hi) ?_
                          intro W13 hR13 rr13
                          refine hK _ _ ?_
                          clear hK K
                          refine wpList_end rfl ?_
                          simp only [Act.put, List.setIfInBounds_toArray, List.set_cons_zero, List.set_cons_succ]
                          go_simp
                          replace Rg3 := Lib.hid rr13
                          replace Rg1 := Lib.hid (hR13.row (by have h_0 := HG.out; have h_1 := HGg3.out; omega) (k13.row Rg1.out))
                          replace Rg2 := Lib.hid (hR13.row (by have h_0 := HG.out; have h_1 := HGg3.out; omega) (k13.row Rg2.out))
                          replace HM := Lib.hid (NewT.rt (NewT.trans _ _ _ HM.out k13) hR13 (by have h_0 := HG.out; have h_1 := HGg3.out; omega))
                          clear k13 hR13 rr13
                          have HE : Hid (recC c seq = ({ zR with kind := 3, saga := c.saga, seq := seq, step := c.step, tr := c.tr, back := c.back, good := c.good, part := c.part, epoch := c.ep, tag := c.tag } : Rc)) := Lib.hid (by unfold recC; rw [HB.out]; rfl)
                          go_upto_region 14 with fail
                          refine wp_region_steps0 NewT [SV.eq (.agg (rowA 109 (recF ({ zR with kind := 3, saga := c.saga, seq := seq, step := c.step, tr := c.tr, back := c.back, good := c.good, part := c.part, epoch := c.ep, tag := c.tag } : Rc) (.slice none 0 0) (.slice none 0 0))))] [([(5, none)], none)] 38 1 rfl rfl (by kernel_rfl) NewT.trans (NewT.refl _) (Nat.le_of_ble_eq_true rfl) ⟨?_, trivial⟩ ?_
                          · exact fun a wx hT hF K hK => rely_wp rfl (opr_ldR (hT.row Rg3.out) rfl hF.1 (hK _ _ (NewT.refl _) rfl))
                          · intro w14 k14
                            intro u h; obtain rfl := Eq.symm (h (by simp)); clear h
                            refine relyEnd_nil rfl ?_
                            simp only [Act.put, List.setIfInBounds_toArray, List.set_cons_zero, List.set_cons_succ]
                            refine wpList_plain rfl (fun K hK => ?_)
                            refine opr_putm (g := g2) (o0 := 0) (m := 109) (f := recF ({ zR with kind := 3, saga := c.saga, seq := seq, step := c.step, tr := c.tr, back := c.back, good := c.good, part := c.part, epoch := c.ep, tag := c.tag } : Rc) (.slice none 0 0) (.slice none 0 0)) (F := recF ({ zR with kind := 3, saga := c.saga, seq := seq, step := c.step, tr := c.tr, back := c.back, good := c.good, part := c.part, epoch := c.ep, tag := c.tag } : Rc) (.slice none 0 0) (.slice none 0 0)) rfl rfl rfl (k14.row Rg2.out) (by decide) info_rec (recF_one _ _ _ rfl rfl) (put_allN _ _ _) ?_
                            intro W14 hR14 rr14
                            refine hK _ _ ?_
                            clear hK K
                            refine wpList_end rfl ?_
                            simp only [Act.put, List.setIfInBounds_toArray, List.set_cons_zero, List.set_cons_succ]
                            go_simp
                            replace Rg2 := Lib.hid rr14
                            replace Rg1 := Lib.hid (hR14.row (by have h_0 := HG.out; have h_1 := HGg3.out; omega) (k14.row Rg1.out))
                            replace Rg3 := Lib.hid (hR14.row (by have h_0 := HG.out; have h_1 := HGg3.out; omega) (k14.row Rg3.out))
                            replace HM := Lib.hid (NewT.rt (NewT.trans _ _ _ HM.out k14) hR14 (by have h_0 := HG.out; have h_1 := HGg3.out; omega))
                            clear k14 hR14 rr14
                            go_wp2
                            exact bodyPost_ret (results_agg rfl _ rfl Rg2.out Tryd.underlying51 rfl info_rec) rfl ⟨_, rfl, HM.out, by show RecV _ _ _; rw [HE.out]; exact ⟨(.slice none 0 0), (.slice none 0 0), rfl, rdP_nil _, rdV_nil _ _⟩⟩
end Go.Proofs.YtchpmdcacpjojaaDoor
/- The reference's participant: Take. -/
namespace Go.Proofs.YtchpmdcacpjojaaDoor
open Go Go.RowKit
set_option maxRecDepth 8000
set_option linter.all false
set_option maxHeartbeats 4000000 in
theorem rTake_c {kf : Hs → List Int → Hs} {tg : Hs → Hs → Hs} {pf : Int → Hs → Hs} (hX : KeyH kf tg pf) {hi g : Nat} {n e : Int} {pv wv : Value} {ps ws : List Hs} {need : Int} {L : List En} (c : Cl) (r : Bool) (w0 w : World) (h0 : NewT w0 w) (hT : Tables w0) (hp : RdH w0 pv ps) (hw : RdH w0 wv ws) (h : RefAt w hi g n e pv wv need L) (h1 : w0.heap.size ≤ g) (hn : L.length ≤ 900000) :
    Calls Tryd.prog 17 #[.pointer (some ⟨g, 0, none⟩), .agg (rowA 41 (clF c)), .bool r] w fun ex w' => ex = .returned (.tuple #[.agg (rowA 41 (clF (takeC kf ps ws need n e L c r))), .bool (itsB n c)]) ∧ PT g (g + 1) w w' ∧ RefAt w' hi g n e pv wv need (takeL n L c r) := by
  obtain ⟨sv, hr, ho, hh⟩ := h
  have HHI : Hid (hi ≤ g ∧ g < w.heap.size) := Lib.hid ⟨hh, hr.lt⟩
  have HW1 : Hid (w0.heap.size ≤ w.heap.size) := Lib.hid h0.out.size
  have HL : Hid (RdL 4 eyE w sv L) := Lib.hid (own_ents ho)
  have HLL := Lib.hid hn
  have HR := Lib.hid hr
  have HOW := Lib.hid ho
  have H00 := Lib.hid h0
  have HTT := Lib.hid hT
  have HPP := Lib.hid hp
  have HWW := Lib.hid hw
  have HW0 := Lib.hid h1
  clear hr ho hh hn h0 hT hp hw h1
  go_enter Tryd.func17, Tryd.ntmps17
  go_upto_region 1 with fail
  have r_gc := (rowIs_box w 34 41 (clF c)).alloc (.cells (rowA 41 (clF zC)) 34)
  have r_ga := rowIs_box (w.alloc (.cells (rowA 41 (clF c)) 34)) 34 41 (clF zC)
  rw [World.size_alloc] at r_ga
  have hN : NewT w ((w.alloc (.cells (rowA 41 (clF c)) 34)).alloc (.cells (rowA 41 (clF zC)) 34)) := (NewT.trans _ _ _ (NewT.alloc _ _) (NewT.alloc _ _))
  change Code.wp _ _ _ _ ((w.alloc (.cells (rowA 41 (clF c)) 34)).alloc (.cells (rowA 41 (clF zC)) 34))
  generalize ((w.alloc (.cells (rowA 41 (clF c)) 34)).alloc (.cells (rowA 41 (clF zC)) 34)) = W0 at r_gc r_ga hN ⊢
  obtain ⟨gc, h_gc⟩ : ∃ g_, w.heap.size = g_ := ⟨_, rfl⟩
  obtain ⟨ga, h_ga⟩ : ∃ g_, w.heap.size + 1 = g_ := ⟨_, rfl⟩
  have HG : Hid (w.heap.size ≤ gc ∧ gc < ga) := Lib.hid (by omega)
  rw [h_gc] at r_gc
  rw [h_ga] at r_ga
  try rw [h_ga]
  simp only [h_gc]
  have Rgc := Lib.hid r_gc
  have Rga := Lib.hid r_ga
  have HM := Lib.hid hN
  clear r_gc r_ga hN h_gc h_ga
  have Rg := Lib.hid (HM.out.row HR.out)
  go_upto_region 1 with fail
  refine wp_region_steps0 NewT [SV.eq (.pointer (some ⟨g, 0, none⟩)), SV.eq (.agg (rowA 41 (clF c))), SV.eq (.bool (itsB n c)), SV.eq (.bool (!(itsB n c)))] [([(0, none)], none), ([(4, none)], none), ([(8, some 0), (9, some 1)], none), ([(10, some 2)], none)] 34 4 rfl rfl (by kernel_rfl) NewT.trans (NewT.refl _) (Nat.le_of_ble_eq_true rfl) ⟨?_, ?_, ?_, ?_, trivial⟩ ?_
  · exact fun a wx hT hF K hK => rely_wp rfl (opr_move (.inl rfl) (hK _ _ (NewT.refl _) hF.1))
  · exact fun a wx hT hF K hK => rely_wp rfl (opr_ldCl (hT.row Rgc.out) rfl hF.1 (hK _ _ (NewT.refl _) rfl))
  · exact fun a wx hT hF K hK => rely_wp rfl (opr_cv (rIts_cv c wx (hT.row Rg.out)) rfl Tryd.func32 (by kernel_rfl) (by kernel_rfl) (evs2 hF.1 hF.2.1) hK)
  · exact fun a wx hT hF K hK => rely_wp rfl (opr_not rfl hF.1 (hK _ _ (NewT.refl _) rfl))
  · intro w1 k1
    iterate 4 (intro u h; obtain rfl := Eq.symm (h (by simp)); clear h)
    refine relyEnd_nil rfl ?_
    refine wpList_end rfl ?_
    simp only [Act.put, List.setIfInBounds_toArray, List.set_cons_zero, List.set_cons_succ]
    go_simp
    replace Rgc := Lib.hid (k1.row Rgc.out)
    replace Rga := Lib.hid (k1.row Rga.out)
    replace Rg := Lib.hid (k1.row Rg.out)
    replace HM := Lib.hid (NewT.trans _ _ _ HM.out k1)
    clear k1
    cases hb : itsB n c
    · have HE : Hid (itsB n c = false) := Lib.hid hb
      clear hb
      go_upto_region 2 with fail
      refine wp_region_steps0 NewT [SV.eq ((.agg (rowA 41 (clF zC))))] [([], none)] 34 1 rfl rfl (by kernel_rfl) NewT.trans (NewT.refl _) (Nat.le_of_ble_eq_true rfl) ⟨?_, trivial⟩ ?_
      · intro a wx hT hF K hK
        refine rely_wp rfl ?_
        exact opr_build (pv := #[]) rfl (by simp only [List.map_toArray, List.map_cons, List.map_nil, eval_tmp, eval_const]) (build_cl0 wx) (hK _ _ (NewT.refl _) rfl)
      · intro w2 k2
        intro u h; obtain rfl := Eq.symm (h (by simp)); clear h
        refine relyEnd_nil rfl ?_
        simp only [Act.put, List.setIfInBounds_toArray, List.set_cons_zero, List.set_cons_succ]
        refine wpList_plain rfl (fun K hK => ?_)
        refine opr_putm (g := ga) (o0 := 0) (m := 41) (f := clF zC) (F := clF zC) rfl rfl rfl (k2.row Rga.out) (by decide) info_cl (clF_one _) (put_allN _ _ _) ?_
        intro W2 hR2 rr2
        refine hK _ _ ?_
        clear hK K
        simp only [Act.put, List.setIfInBounds_toArray, List.set_cons_zero, List.set_cons_succ]
        refine wpList_plain rfl (fun K hK => ?_)
        refine opr_move (.inr rfl) (hK _ _ ?_)
        clear hK K
        refine wpList_end rfl ?_
        simp only [Act.put, List.setIfInBounds_toArray, List.set_cons_zero, List.set_cons_succ]
        go_simp
        replace Rga := Lib.hid rr2
        replace Rgc := Lib.hid (hR2.row (by have h_0 := HG.out; have h_1 := HHI.out; omega) (k2.row Rgc.out))
        replace Rg := Lib.hid (hR2.row (by have h_0 := HG.out; have h_1 := HHI.out; omega) (k2.row Rg.out))
        replace HM := Lib.hid (NewT.rt (NewT.trans _ _ _ HM.out k2) hR2 (by have h_0 := HG.out; have h_1 := HHI.out; omega))
        clear k2 hR2 rr2
        go_wp2
        have e1 : takeC kf ps ws need n e L c r = zC := by unfold takeC; rw [HE.out]; rfl
        have e2 : takeL n L c r = L := by unfold takeL; rw [HE.out]; rfl
        rw [e1, e2, HE.out]
        exact bodyPost_ret (results_rt rfl rfl rfl Rga.out Tryd.underlying34 rfl info_cl) rfl ⟨rfl, PT.new HM.out (Nat.le_of_lt HHI.out.2), ⟨sv, Rg.out, HOW.out.new HM.out, HHI.out.1⟩⟩
    · have HE : Hid (itsB n c = true) := Lib.hid hb
      clear hb
      go_upto_region 3 with fail
      refine wp_region_steps0 NewT [SV.eq (.pointer (some ⟨gc, 6, none⟩))] [([(4, none)], none)] 34 1 rfl rfl (by kernel_rfl) NewT.trans (NewT.refl _) (Nat.le_of_ble_eq_true rfl) ⟨?_, trivial⟩ ?_
      · exact fun a wx hT hF K hK => rely_wp rfl (opr_fldCl6 rfl hF.1 (hK _ _ (NewT.refl _) rfl))
      · intro w3 k3
        intro u h; obtain rfl := Eq.symm (h (by simp)); clear h
        refine relyEnd_nil rfl ?_
        simp only [Act.put, List.setIfInBounds_toArray, List.set_cons_zero, List.set_cons_succ]
        refine wpList_plain rfl (fun K hK => ?_)
        refine opr_put1 (g := gc) (o0 := 6) (v := .bool true) (F := clF ({ c with ans := true })) rfl rfl rfl (k3.row Rgc.out) (by decide) info_b1 rfl (cl_ans c true) ?_
        intro W3 hR3 rr3
        refine hK _ _ ?_
        clear hK K
        refine wpList_end rfl ?_
        simp only [Act.put, List.setIfInBounds_toArray, List.set_cons_zero, List.set_cons_succ]
        go_simp
        replace Rgc := Lib.hid rr3
        replace Rga := Lib.hid (hR3.row (by have h_0 := HG.out; have h_1 := HHI.out; omega) (k3.row Rga.out))
        replace Rg := Lib.hid (hR3.row (by have h_0 := HG.out; have h_1 := HHI.out; omega) (k3.row Rg.out))
        replace HM := Lib.hid (NewT.rt (NewT.trans _ _ _ HM.out k3) hR3 (by have h_0 := HG.out; have h_1 := HHI.out; omega))
        clear k3 hR3 rr3
        go_upto_region 4 with fail
        refine wp_region_lit ?_
        refine wpList_plain rfl (fun K hK => ?_)
        refine opr_move (.inl rfl) (hK _ _ ?_)
        clear hK K
        simp only [Act.put, List.setIfInBounds_toArray, List.set_cons_zero, List.set_cons_succ]
        refine wpList_plain rfl (fun K hK => ?_)
        refine opr_ldCl Rgc.out rfl rfl (hK _ _ ?_)
        clear hK K
        simp only [Act.put, List.setIfInBounds_toArray, List.set_cons_zero, List.set_cons_succ]
        refine wpList_plain rfl (fun K hK => ?_)
        refine opr_call rfl Tryd.func34 (by kernel_rfl) (by kernel_rfl) (vs := #[.agg (rowA 41 (clF { c with ans := true }))]) (by simp only [List.map_toArray, List.map_cons, List.map_nil]; rfl) ((rC2_cv { c with ans := true } W3).mono ?_)
        rintro ex wc ⟨uc, rfl, hNc, huc⟩
        obtain rfl := show uc = _ from huc
        refine ⟨_, rfl, hK _ _ ?_⟩
        clear hK K
        simp only [Act.put, List.setIfInBounds_toArray, List.set_cons_zero, List.set_cons_succ]
        replace Rgc := Lib.hid (hNc.row Rgc.out)
        replace Rga := Lib.hid (hNc.row Rga.out)
        replace Rg := Lib.hid (hNc.row Rg.out)
        replace HM := Lib.hid (NewT.trans _ _ _ HM.out hNc)
        clear hNc
        refine wpList_plain rfl (fun K hK => ?_)
        refine opr_move (.inl rfl) (hK _ _ ?_)
        clear hK K
        simp only [Act.put, List.setIfInBounds_toArray, List.set_cons_zero, List.set_cons_succ]
        refine wpList_plain rfl (fun K hK => ?_)
        refine opr_call rfl Tryd.func33 (by kernel_rfl) (by kernel_rfl) (vs := #[.pointer (some ⟨g, 0, none⟩), .agg (rowA 41 (clF (c2C { c with ans := true }))), .bool r]) (by simp only [List.map_toArray, List.map_cons, List.map_nil]; rfl) ((rGood_c (hi := hi) (c2C { c with ans := true }) r wc ⟨sv, Rg.out, HOW.out.new HM.out, HHI.out.1⟩ HLL.out).mono ?_)
        rintro ex wt ⟨rfl, hP, hA⟩
        refine ⟨_, rfl, hK _ _ ?_⟩
        clear hK K
        have hQ := PT.wn HM.out hP (Nat.le_of_lt HHI.out.2)
        have hM0 : NewT w0 wt := NewT.of ((NewT.trans _ _ _ H00.out HM.out).out.trans (hP.below.mono HW0.out))
        replace Rgc := Lib.hid (hP.row Rgc.out (by have h_0 := HG.out; have h_1 := HHI.out; omega))
        replace Rga := Lib.hid (hP.row Rga.out (by have h_0 := HG.out; have h_1 := HHI.out; omega))
        obtain ⟨su, hru, hou, _⟩ := hA
        replace Rg := Lib.hid hru
        replace HOW := Lib.hid hou
        replace HM := Lib.hid hM0
        have HQ := Lib.hid hQ
        clear hQ hM0 hru hou hP
        rw [show goodE L (c2C { c with ans := true }) r = goodE L c r from rfl]
        obtain ⟨gd, hgd⟩ : ∃ x, goodE L c r = x := ⟨_, rfl⟩
        rw [hgd]
        have HGD := Lib.hid hgd
        replace HOW : Hid (OwnE 56 4 wt hi su ((keepL L c r).map eyF)) := HOW
        clear hgd
        simp only [Act.put, List.setIfInBounds_toArray, List.set_cons_zero, List.set_cons_succ]
        refine wpList_plain rfl (fun K hK => ?_)
        refine opr_fldCl7 rfl rfl (hK _ _ ?_)
        clear hK K
        simp only [Act.put, List.setIfInBounds_toArray, List.set_cons_zero, List.set_cons_succ]
        refine wpList_plain rfl (fun K hK => ?_)
        refine opr_put1B (g := gc) (o0 := 7) (v := .bool gd) (F := clF { c with ans := true, good := gd }) rfl rfl rfl Rgc.out (by decide) info_b1 rfl (cl_good { c with ans := true } gd) ?_
        intro W4 hR4 hO4 rr4
        refine hK _ _ ?_
        clear hK K
        refine wpList_end rfl ?_
        simp only [Act.put, List.setIfInBounds_toArray, List.set_cons_zero, List.set_cons_succ]
        go_simp
        replace HQ := Lib.hid (HQ.out.rt hR4 (by have h_0 := HG.out; have h_1 := HHI.out; omega) (Nat.le_of_lt HHI.out.2))
        replace HOW := Lib.hid (HOW.out.rt hR4 Rgc.out (by decide))
        replace Rg := Lib.hid (hR4.row (by have h_0 := HG.out; have h_1 := HHI.out; omega) Rg.out)
        replace Rga := Lib.hid (hR4.row (by have h_0 := HG.out; have h_1 := HHI.out; omega) Rga.out)
        replace HM := Lib.hid (NewT.rt HM.out hR4 (by have h0 := H00.out.out.size; have h_0 := HG.out; have h_1 := HHI.out; omega))
        replace Rgc := Lib.hid rr4
        clear hR4 hO4 rr4
        go_upto_region 5 with fail
        refine wp_region_steps0 NewT [SV.eq (.pointer (some ⟨g, 0, none⟩)), SV.eq (.pointer (some ⟨g, 0, none⟩)), SV.eq (.pointer (some ⟨g, 4, none⟩)), SV.eq (.int .i64 (e)), SV.eq (.pointer (some ⟨gc, 8, none⟩))] [([(0, none)], none), ([(20, some 0)], none), ([(21, some 1)], none), ([(22, some 2)], none), ([(4, none)], none)] 34 5 rfl rfl (by kernel_rfl) NewT.trans (NewT.refl _) (Nat.le_of_ble_eq_true rfl) ⟨?_, ?_, ?_, ?_, ?_, trivial⟩ ?_
        · exact fun a wx hT hF K hK => rely_wp rfl (opr_move (.inl rfl) (hK _ _ (NewT.refl _) hF.1))
        · exact fun a wx hT hF K hK => rely_wp rfl (opr_nilc rfl hF.1 (hK _ _ (NewT.refl _) rfl))
        · exact fun a wx hT hF K hK => rely_wp rfl (opr_fldRp2 rfl hF.1 (hK _ _ (NewT.refl _) rfl))
        · exact fun a wx hT hF K hK => rely_wp rfl (opr_ldI (hT.row Rg.out) (by decide) rfl rfl hF.1 (hK _ _ (NewT.refl _) rfl))
        · exact fun a wx hT hF K hK => rely_wp rfl (opr_fldCl8 rfl hF.1 (hK _ _ (NewT.refl _) rfl))
        · intro w5 k5
          iterate 5 (intro u h; obtain rfl := Eq.symm (h (by simp)); clear h)
          refine relyEnd_nil rfl ?_
          simp only [Act.put, List.setIfInBounds_toArray, List.set_cons_zero, List.set_cons_succ]
          refine wpList_plain rfl (fun K hK => ?_)
          refine opr_put1 (g := gc) (o0 := 8) (v := .int .i64 e) (F := clF (sayC e c gd)) rfl rfl rfl (k5.row Rgc.out) (by decide) info_i1 rfl (cl_ep { c with ans := true, good := gd } e) ?_
          intro W5 hR5 rr5
          refine hK _ _ ?_
          clear hK K
          refine wpList_end rfl ?_
          simp only [Act.put, List.setIfInBounds_toArray, List.set_cons_zero, List.set_cons_succ]
          go_simp
          replace HQ := Lib.hid (HQ.out.nw k5 (Nat.le_of_lt HHI.out.2))
          replace HQ := Lib.hid (HQ.out.rt hR5 (by have h_0 := HG.out; have h_1 := HHI.out; have h_2 := HW1.out; omega) (Nat.le_of_lt HHI.out.2))
          replace HOW := Lib.hid (HOW.out.new k5)
          replace HOW := Lib.hid (HOW.out.rt hR5 (k5.row Rgc.out) (by decide))
          replace Rgc := Lib.hid rr5
          replace Rga := Lib.hid (hR5.row (by have h_0 := HG.out; have h_1 := HHI.out; have h_2 := HW1.out; omega) (k5.row Rga.out))
          replace Rg := Lib.hid (hR5.row (by have h_0 := HG.out; have h_1 := HHI.out; have h_2 := HW1.out; omega) (k5.row Rg.out))
          replace HM := Lib.hid (NewT.rt (NewT.trans _ _ _ HM.out k5) hR5 (by have h_0 := HG.out; have h_1 := HHI.out; have h_2 := HW1.out; omega))
          clear k5 hR5 rr5
          have HT := Lib.hid (HM.out.tables HTT.out)
          have HK : Hid (KeysV W5 (.agg (rowA 3 (keyF pv wv need))) ps ws need) := Lib.hid ⟨pv, wv, rfl, HM.out.hs HPP.out, HM.out.hs HWW.out⟩
          have HRS : Hid (recpH kf ps ws need (recC (sayC e c gd) 1) = recpH kf ps ws need (recC (sayC e c gd) 0)) := Lib.hid (recp_seq kf ps ws need (sayC e c gd) rfl 1 0 _)
          go_upto_region 6 with fail
          refine wp_region_rely (NewT) [SV.eq (.pointer (some ⟨g, 0, none⟩)), SV.eq (.pointer (some ⟨g, 0, none⟩)), SV.eq (.pointer (some ⟨g, 0, none⟩)), SV.eq ((.agg (rowA 3 (keyF pv wv need)))), SV.eq (.agg (rowA 41 (clF (sayC e c gd)))), svRec (recC (sayC e c gd) 1), SV.eq (.agg (rowA 32 (bF (recpH kf ps ws need (recC (sayC e c gd) 0))))), SV.eq (.pointer (some ⟨gc, 9, none⟩))] [([(0, none)], none), ([(25, some 0)], none), ([(26, some 1)], none), ([(27, some 2)], none), ([(4, none)], none), ([(29, some 4)], none), ([(28, some 3), (30, some 5)], none), ([(4, none)], none)] 34 rfl (by kernel_rfl) rfl (by kernel_rfl) (by kernel_rfl) rfl NewT.trans (NewT.drew _) (Nat.le_of_ble_eq_true rfl) ⟨?_, ?_, ?_, ?_, ?_, ?_, ?_, ?_, trivial⟩ ?_
          · exact fun a wx hT hF K hK => rely_wp rfl (opr_move (.inl rfl) (hK _ _ (NewT.refl _) hF.1))
          · exact fun a wx hT hF K hK => rely_wp rfl (opr_nilc rfl hF.1 (hK _ _ (NewT.refl _) rfl))
          · exact fun a wx hT hF K hK => rely_wp rfl (opr_fldRp0 rfl hF.1 (hK _ _ (NewT.refl _) rfl))
          · exact fun a wx hT hF K hK => rely_wp rfl (opr_ldKr (hT.row Rg.out) rfl hF.1 (hK _ _ (NewT.refl _) rfl))
          · exact fun a wx hT hF K hK => rely_wp rfl (opr_ldCl (hT.row Rgc.out) rfl hF.1 (hK _ _ (NewT.refl _) rfl))
          · exact fun a wx hT hF K hK => rely_wp rfl (opr_cv (rReceipt_cv (sayC e c gd) 1 wx) rfl Tryd.func21 (by kernel_rfl) (by kernel_rfl) (evs2 hF.1 rfl) hK)
          · exact fun a wx hT hF K hK => rely_wp rfl (opr_cv (HRS.out ▸ RReceipt_cv hX _ _ ps ws need (recC (sayC e c gd) 1) wx (hT.tables HT.out) (hT.keysV HK.out) hF.2.1) rfl Tryd.func35 (by kernel_rfl) (by kernel_rfl) (evs2 hF.1 rfl) hK)
          · exact fun a wx hT hF K hK => rely_wp rfl (opr_fldCl9 rfl hF.1 (hK _ _ (NewT.refl _) rfl))
          · intro w6 k6
            iterate 5 (intro u h; obtain rfl := Eq.symm (h (by simp)); clear h)
            intro _ _
            iterate 2 (intro u h; obtain rfl := Eq.symm (h (by simp)); clear h)
            refine relyEnd_nil rfl ?_
            simp only [Act.put, List.setIfInBounds_toArray, List.set_cons_zero, List.set_cons_succ]
            refine opr_putm (g := gc) (o0 := 9) (m := 32) (f := bF (recpH kf ps ws need (recC (sayC e c gd) 0))) (F := clF (ansC kf ps ws need e c gd)) rfl rfl rfl (k6.row Rgc.out) (by decide) info31 (fun _ => rfl) (cl_tag (sayC e c gd) _) ?_
            intro W6 hR6 rr6
            go_simp
            replace HQ := Lib.hid (HQ.out.nw k6 (Nat.le_of_lt HHI.out.2))
            replace HQ := Lib.hid (HQ.out.rt hR6 (by have h_0 := HG.out; have h_1 := HHI.out; have h_2 := HW1.out; omega) (Nat.le_of_lt HHI.out.2))
            replace HOW := Lib.hid (HOW.out.new k6)
            replace HOW := Lib.hid (HOW.out.rt hR6 (k6.row Rgc.out) (by decide))
            replace Rgc := Lib.hid rr6
            replace Rga := Lib.hid (hR6.row (by have h_0 := HG.out; have h_1 := HHI.out; have h_2 := HW1.out; omega) (k6.row Rga.out))
            replace Rg := Lib.hid (hR6.row (by have h_0 := HG.out; have h_1 := HHI.out; have h_2 := HW1.out; omega) (k6.row Rg.out))
            replace HM := Lib.hid (NewT.rt (NewT.trans _ _ _ HM.out k6) hR6 (by have h_0 := HG.out; have h_1 := HHI.out; have h_2 := HW1.out; omega))
            clear k6 hR6 rr6
            go_upto_region 7 with fail
            refine wp_region_steps0 NewT [SV.eq (.agg (rowA 41 (clF (ansC kf ps ws need e c gd))))] [([(4, none)], none)] 34 1 rfl rfl (by kernel_rfl) NewT.trans (NewT.refl _) (Nat.le_of_ble_eq_true rfl) ⟨?_, trivial⟩ ?_
            · exact fun a wx hT hF K hK => rely_wp rfl (opr_ldCl (hT.row Rgc.out) rfl hF.1 (hK _ _ (NewT.refl _) rfl))
            · intro w7 k7
              intro u h; obtain rfl := Eq.symm (h (by simp)); clear h
              refine relyEnd_nil rfl ?_
              simp only [Act.put, List.setIfInBounds_toArray, List.set_cons_zero, List.set_cons_succ]
              refine wpList_plain rfl (fun K hK => ?_)
              refine opr_putm (g := ga) (o0 := 0) (m := 41) (f := clF (ansC kf ps ws need e c gd)) (F := clF (ansC kf ps ws need e c gd)) rfl rfl rfl (k7.row Rga.out) (by decide) info_cl (clF_one _) (put_allN _ _ _) ?_
              intro W7 hR7 rr7
              refine hK _ _ ?_
              clear hK K
              simp only [Act.put, List.setIfInBounds_toArray, List.set_cons_zero, List.set_cons_succ]
              refine wpList_plain rfl (fun K hK => ?_)
              refine opr_move (.inr rfl) (hK _ _ ?_)
              clear hK K
              refine wpList_end rfl ?_
              simp only [Act.put, List.setIfInBounds_toArray, List.set_cons_zero, List.set_cons_succ]
              go_simp
              replace HQ := Lib.hid (HQ.out.nw k7 (Nat.le_of_lt HHI.out.2))
              replace HQ := Lib.hid (HQ.out.rt hR7 (by have h_0 := HG.out; have h_1 := HHI.out; have h_2 := HW1.out; omega) (Nat.le_of_lt HHI.out.2))
              replace HOW := Lib.hid (HOW.out.new k7)
              replace HOW := Lib.hid (HOW.out.rt hR7 (k7.row Rga.out) (by decide))
              replace Rga := Lib.hid rr7
              replace Rgc := Lib.hid (hR7.row (by have h_0 := HG.out; have h_1 := HHI.out; have h_2 := HW1.out; omega) (k7.row Rgc.out))
              replace Rg := Lib.hid (hR7.row (by have h_0 := HG.out; have h_1 := HHI.out; have h_2 := HW1.out; omega) (k7.row Rg.out))
              replace HM := Lib.hid (NewT.rt (NewT.trans _ _ _ HM.out k7) hR7 (by have h_0 := HG.out; have h_1 := HHI.out; have h_2 := HW1.out; omega))
              clear k7 hR7 rr7
              go_wp2
              have e1 : takeC kf ps ws need n e L c r = ansC kf ps ws need e c gd := by unfold takeC; rw [if_pos HE.out, HGD.out]
              have e2 : takeL n L c r = keepL L c r := by unfold takeL; rw [if_pos HE.out]
              rw [e1, e2, HE.out]
              exact bodyPost_ret (results_rt rfl rfl rfl Rga.out Tryd.underlying34 rfl info_cl) rfl ⟨rfl, HQ.out, ⟨su, Rg.out, HOW.out, HHI.out.1⟩⟩
end Go.Proofs.YtchpmdcacpjojaaDoor
