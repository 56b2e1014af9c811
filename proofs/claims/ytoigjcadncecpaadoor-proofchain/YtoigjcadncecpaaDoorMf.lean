/- A region that draws its order and makes some rows of hashes: they are different ones. -/
import Derived.Test.YtoigjcadncecpaaDoorMb
import Derived.Test.YtoigjcadncecpaaDoorMe
set_option linter.all false
namespace Go.Proofs.YtoigjcadncecpaaDoor
open Go Go.RowKit
set_option maxRecDepth 8000
set_option linter.all false
/-- Slots hold pointers to different blocks, all there. -/
def ManyPtr (ps : List Tmp) (a : Act) (w : World) : Prop :=
  (∀ p ∈ ps, ∀ g, a.tmps.getD p undef = .pointer (some ⟨g, 0, none⟩) → g < w.heap.size) ∧
    ∀ p ∈ ps, ∀ q ∈ ps, p ≠ q → ∀ g g', a.tmps.getD p undef = .pointer (some ⟨g, 0, none⟩) → a.tmps.getD q undef = .pointer (some ⟨g', 0, none⟩) → g ≠ g'
theorem ManyPtr.keep {ps : List Tmp} {a : Act} {w w' : World} {d : Option Tmp} {v : Value} (h : ManyPtr ps a w) (hd : ∀ p ∈ ps, d ≠ some p) (hT : NewT w w') : ManyPtr ps (a.put d v) w' := by
  refine ⟨fun p hp g hg => ?_, fun p hp q hq hpq g g' hg hg' => ?_⟩
  · rw [put_other v (hd p hp)] at hg
    exact Nat.lt_of_lt_of_le (h.1 p hp g hg) hT.out.size
  · rw [put_other v (hd p hp)] at hg
    rw [put_other v (hd q hq)] at hg'
    exact h.2 p hp q hq hpq g g' hg hg'
theorem ManyPtr.make {ps : List Tmp} {p : Tmp} {a : Act} {w : World} {o : Obj} (h : ManyPtr ps a w) : ManyPtr ps (a.put (some p) (.pointer (some ⟨w.heap.size, 0, none⟩))) (w.alloc o) := by
  have old : ∀ q ∈ ps, q ≠ p → ∀ g, (a.put (some p) (.pointer (some ⟨w.heap.size, 0, none⟩))).tmps.getD q undef = .pointer (some ⟨g, 0, none⟩) → g < w.heap.size ∧ a.tmps.getD q undef = .pointer (some ⟨g, 0, none⟩) := fun q hq hqp g hg => by
    rw [put_other (p := q) (d := some p) _ (by simpa using Ne.symm hqp)] at hg
    exact ⟨h.1 q hq g hg, hg⟩
  refine ⟨fun q hq g hg => ?_, fun q hq r hr hqr g g' hg hg' => ?_⟩
  · by_cases e : q = p
    · subst e; rw [put_same hg]; simp
    · have := (old q hq e g hg).1; simp; omega
  · by_cases e : q = p
    · subst e
      have := (old r hr (Ne.symm hqr) g' hg').1
      rw [put_same hg]; omega
    · by_cases e' : r = p
      · subst e'
        have := (old q hq e g hg).1
        rw [put_same hg']; omega
      · exact h.2 q hq r hr hqr g g' (old q hq e g hg).2 (old r hr e' g' hg').2
/-- A new row of hashes, behind B. -/
def svNw (B : Nat) : SV NewT := ⟨fun v w => ∃ g, v = .pointer (some ⟨g, 0, none⟩) ∧ B ≤ g ∧ w.rowIs g 29 32 (bF fun _ => 0), fun _ _ _ ⟨g, h1, h2, h3⟩ hT => ⟨g, h1, h2, hT.row h3⟩⟩
end Go.Proofs.YtoigjcadncecpaaDoor
/- The law ProofChain, walked: lists that begin one another are proved so, each of the next, and the first of the last. -/
namespace Go.Proofs.YtoigjcadncecpaaDoor
open Go Go.RowKit
set_option maxRecDepth 8000
set_option linter.all false
set_option maxHeartbeats 8000000 in
theorem ProofChain_walk (v : Value) (l : List Hs) (x y : Int) (w : World) (hT : Tables w) (hl : RdH w v l) (hx : 0 ≤ x ∧ x ≤ 255) (hy : 0 ≤ y ∧ y ≤ 255) : Calls Tryd.prog 8 #[v, .int .u8 x, .int .u8 y] w fun e w' => e = .returned (.bool true) ∧ Below w.heap.size w w' := by
  by_cases h60 : 60 < l.length
  · have t1 : decide ((60 : Int) < (l.length : Int)) = true := by simp; omega
    obtain ⟨node, z, hX⟩ := tree_ex
    have HT := Lib.hid hT
    have HL := Lib.hid hl
    obtain ⟨A, c, hv⟩ := rdH_form hl
    subst hv
    clear hT hl
    go_enter Tryd.func8, Tryd.ntmps8
    have HN := Lib.hid (NewT.refl w)
    go_upto_region 4 with (go_at_call 10; refine (alive6_any _ HT.out).mono ?_; rintro _ w1 ⟨rfl, hA1⟩)
    go_wp2
    go_ret
    exact ⟨rfl, (NewT.trans _ _ _ HN.out (NewT.of hA1)).out⟩
  have t1 : decide ((60 : Int) < (l.length : Int)) = false := by simp; omega
  by_cases h0 : l.length = 0
  · have t2 : ((l.length : Int) == 0) = true := beq_iff_eq.2 (by omega)
    obtain ⟨node, z, hX⟩ := tree_ex
    have HT := Lib.hid hT
    have HL := Lib.hid hl
    obtain ⟨A, c, hv⟩ := rdH_form hl
    subst hv
    clear hT hl
    go_enter Tryd.func8, Tryd.ntmps8
    have HN := Lib.hid (NewT.refl w)
    go_upto_region 4 with (go_at_call 10; refine (alive6_any _ HT.out).mono ?_; rintro _ w1 ⟨rfl, hA1⟩)
    go_wp2
    go_ret
    exact ⟨rfl, (NewT.trans _ _ _ HN.out (NewT.of hA1)).out⟩
  have t2 : ((l.length : Int) == 0) = false := beq_eq_false_iff_ne.2 (by omega)
  have t3 : ¬ (l.length : Int) = 0 := by omega
  obtain ⟨hx0, hx1⟩ := hx
  obtain ⟨hy0, hy1⟩ := hy
  obtain ⟨node, z, hX⟩ := tree_ex
  have HT := Lib.hid hT
  have HL := Lib.hid hl
  obtain ⟨A, c, hv⟩ := rdH_form hl
  subst hv
  clear hT hl
  go_enter Tryd.func8, Tryd.ntmps8
  have HN := Lib.hid (NewT.refl w)
  go_upto_region 6 with (go_at_call 10; refine (alive6_any _ HT.out).mono ?_; rintro _ w1 ⟨rfl, hA1⟩)
  obtain ⟨m, hm, hm1, hm2⟩ : ∃ m : Nat, wrap64 (1 + x % (l.length : Int)) = (m : Int) ∧ 1 ≤ m ∧ m ≤ l.length := by
    have h1 := Int.emod_nonneg x (b := (l.length : Int)) (by omega)
    have h2 := Int.emod_lt_of_pos x (b := (l.length : Int)) (by omega)
    refine ⟨(1 + x % (l.length : Int)).toNat, ?_, by omega, by omega⟩
    unfold wrap64; omega
  rw [hm]
  clear hm t1 t2 t3 hx0 hx1
  go_upto_region 7 with fail
  obtain ⟨n, hn, hn1, hn2⟩ : ∃ n : Nat, wrap64 ((m : Int) + y % ((l.length : Int) - (m : Int) + 1)) = (n : Int) ∧ m ≤ n ∧ n ≤ l.length := by
    have h1 := Int.emod_nonneg y (b := (l.length : Int) - (m : Int) + 1) (by omega)
    have h2 := Int.emod_lt_of_pos y (b := (l.length : Int) - (m : Int) + 1) (by omega)
    refine ⟨((m : Int) + y % ((l.length : Int) - (m : Int) + 1)).toNat, ?_, by omega, by omega⟩
    unfold wrap64; omega
  rw [hn]
  have HLEN : Hid (l.length ≤ 60) := Lib.hid (by omega)
  have HM1 := Lib.hid hm1
  have HML := Lib.hid hm2
  have HNL := Lib.hid hn2
  have HN1 : Hid (1 ≤ n) := Lib.hid (by omega)
  have htl : (List.take n l).length = n := by rw [List.length_take]; omega
  have HTL := Lib.hid htl
  have HMT : Hid (m ≤ (List.take n l).length) := Lib.hid (by omega)
  have htt : List.take m (List.take n l) = List.take m l := by rw [List.take_take, Nat.min_eq_left hn1]
  have HB1 : Hid (∀ (u : Value) (w : World), Tables w → RdH w u (subM node z m (List.take n l) true) → Cv 22 #[.int .i64 (m : Int), .int .i64 (n : Int), .agg (rowA 32 (bF (rootM node z (List.take m l)))), .agg (rowA 32 (bF (rootM node z (List.take n l)))), u] w (.eq (.bool true))) := Lib.hid fun u w hT hu => by
    have h := Beg_list hX (List.take n l) m (rootM node z (List.take n l)) u w hT hm1 (by omega) (by omega) hu
    rw [htl, htt, eqH_same] at h; exact h
  clear hn hn1 hn2 hm1 hm2 htl htt hy0 hy1 h60 h0
  have hn1 := NewT.of hA1
  replace HT := Lib.hid (hn1.tables HT.out)
  replace HL := Lib.hid (hn1.hs HL.out)
  replace HN := Lib.hid (NewT.trans _ _ _ HN.out hn1)
  obtain ⟨v, ev⟩ : ∃ v, Value.slice A l.length c = v := ⟨_, rfl⟩
  rw [ev] at HL ⊢
  clear ev hA1
  refine wp_region_steps0 NewT [SV.eq (v), SV.eq (.int .i64 ((n : Int))), svH (List.take n l), SV.eq (.int .i64 ((m : Int))), svPq (subM node z m (List.take n l) true) true, svPq (subM node z m (List.take n l) true) true, svH (subM node z m (List.take n l) true), SV.eq (.bool true), svH (subM node z m (List.take n l) true), SV.eq (.bool true)] [([(0, none)], none), ([(8, none)], none), ([(45, some 0), (46, some 1)], none), ([(7, none)], none), ([(47, some 2), (48, some 3)], none), ([(49, some 4)], none), ([(44, some 5)], none), ([(44, some 5)], none), ([(50, some 6)], none), ([(51, some 7)], none)] 107 10 rfl rfl (by kernel_rfl) NewT.trans (NewT.refl _) (Nat.le_of_ble_eq_true rfl) ⟨?_, ?_, ?_, ?_, ?_, ?_, ?_, ?_, ?_, ?_, trivial⟩ ?_
  · intro a wx hT hF K hK
    obtain ⟨f0, _⟩ := hF
    have f0 : a.tmps.getD 0 undef = v := f0
    refine rely_wp rfl ?_
    exact opr_move (.inl rfl) (hK _ _ (NewT.refl _) f0)
  · intro a wx hT hF K hK
    obtain ⟨f8, _⟩ := hF
    have f8 : a.tmps.getD 8 undef = .int .i64 ((n : Int)) := f8
    refine rely_wp rfl ?_
    exact opr_move (.inl rfl) (hK _ _ (NewT.refl _) f8)
  · intro a wx hT hF K hK
    obtain ⟨f45, f46, _⟩ := hF
    have f45 : a.tmps.getD 45 undef = v := f45
    have f46 : a.tmps.getD 46 undef = .int .i64 ((n : Int)) := f46
    refine rely_wp rfl ?_
    exact opr_toH (k := n) (HNL.out) (rfl) rfl (by rw [eval_tmp, f45]; exact (hT.hs HL.out)) f46 (fun v hv => hK v _ (NewT.refl _) hv)
  · intro a wx hT hF K hK
    obtain ⟨f7, _⟩ := hF
    have f7 : a.tmps.getD 7 undef = .int .i64 ((m : Int)) := f7
    refine rely_wp rfl ?_
    exact opr_move (.inl rfl) (hK _ _ (NewT.refl _) f7)
  · intro a wx hT hF K hK
    obtain ⟨f47, f48, _⟩ := hF
    replace f47 := show (svH (List.take n l)).pred (a.tmps.getD 47 undef) wx from f47
    have f48 : a.tmps.getD 48 undef = .int .i64 ((m : Int)) := f48
    refine rely_wp rfl ?_
    exact opr_cv (Prove_good hX _ (List.take n l) m wx (hT.tables HT.out) f47 HM1.out HMT.out (by have := HTL.out; have := HLEN.out; have := HNL.out; omega)) rfl Tryd.func13 (by kernel_rfl) (by kernel_rfl) (by simp only [List.map_toArray, List.map_cons, List.map_nil, eval_tmp, f48]) hK
  · intro a wx hT hF K hK
    obtain ⟨f49, _⟩ := hF
    replace f49 := show (svPq (subM node z m (List.take n l) true) true).pred (a.tmps.getD 49 undef) wx from f49
    refine rely_wp rfl ?_
    exact opr_move (.inl rfl) (hK _ _ (NewT.refl _) f49)
  · intro a wx hT hF K hK
    obtain ⟨f44, _⟩ := hF
    replace f44 := show (svPq (subM node z m (List.take n l) true) true).pred (a.tmps.getD 44 undef) wx from f44
    refine rely_wp rfl ?_
    exact opr_extP0 rfl f44 (fun u hu => hK u _ (NewT.refl _) hu)
  · intro a wx hT hF K hK
    obtain ⟨f44, _⟩ := hF
    replace f44 := show (svPq (subM node z m (List.take n l) true) true).pred (a.tmps.getD 44 undef) wx from f44
    refine rely_wp rfl ?_
    exact opr_extP1 rfl f44 (hK _ _ (NewT.refl _) rfl)
  · intro a wx hT hF K hK
    obtain ⟨f50, _⟩ := hF
    replace f50 := show (svH (subM node z m (List.take n l) true)).pred (a.tmps.getD 50 undef) wx from f50
    refine rely_wp rfl ?_
    exact opr_move (.inr rfl) (hK _ _ (NewT.refl _) f50)
  · intro a wx hT hF K hK
    obtain ⟨f51, _⟩ := hF
    have f51 : a.tmps.getD 51 undef = .bool true := f51
    refine rely_wp rfl ?_
    exact opr_move (.inr rfl) (hK _ _ (NewT.refl _) f51)
  · intro w2 k2
    intro u h; obtain rfl := Eq.symm (h (by simp)); clear h
    intro u h; obtain rfl := Eq.symm (h (by simp)); clear h
    intro _ _
    intro u h; obtain rfl := Eq.symm (h (by simp)); clear h
    intro _ _
    intro _ _
    intro _ _
    intro u h; obtain rfl := Eq.symm (h (by simp)); clear h
    intro u9 h; have g9 := h (by simp); clear h; replace g9 := show (svH (subM node z m (List.take n l) true)).pred u9 w2 from g9
    intro u h; obtain rfl := Eq.symm (h (by simp)); clear h
    refine relyEnd_nil rfl ?_
    refine wpList_end rfl ?_
    simp only [Act.put, List.setIfInBounds_toArray, List.set_cons_zero, List.set_cons_succ]
    go_simp
    have HU9 := Lib.hid (show RdH w2 u9 (subM node z m (List.take n l) true) from g9)
    clear g9
    replace HL := Lib.hid (k2.hs HL.out)
    replace HT := Lib.hid (k2.tables HT.out)
    replace HN := Lib.hid (NewT.trans _ _ _ HN.out k2)
    clear k2
    go_upto_region 8 with fail
    refine wp_region_steps0 NewT [SV.eq (v), SV.eq (.int .i64 ((n : Int))), svPq (subM node z n l true) true, svPq (subM node z n l true) true, svH (subM node z n l true), SV.eq (.bool true), svH (subM node z n l true), SV.eq (.bool true)] [([(0, none)], none), ([(8, none)], none), ([(53, some 0), (54, some 1)], none), ([(55, some 2)], none), ([(52, some 3)], none), ([(52, some 3)], none), ([(56, some 4)], none), ([(57, some 5)], none)] 107 8 rfl rfl (by kernel_rfl) NewT.trans (NewT.refl _) (Nat.le_of_ble_eq_true rfl) ⟨?_, ?_, ?_, ?_, ?_, ?_, ?_, ?_, trivial⟩ ?_
    · intro a wx hT hF K hK
      obtain ⟨f0, _⟩ := hF
      have f0 : a.tmps.getD 0 undef = v := f0
      refine rely_wp rfl ?_
      exact opr_move (.inl rfl) (hK _ _ (NewT.refl _) f0)
    · intro a wx hT hF K hK
      obtain ⟨f8, _⟩ := hF
      have f8 : a.tmps.getD 8 undef = .int .i64 ((n : Int)) := f8
      refine rely_wp rfl ?_
      exact opr_move (.inl rfl) (hK _ _ (NewT.refl _) f8)
    · intro a wx hT hF K hK
      obtain ⟨f53, f54, _⟩ := hF
      have f53 : a.tmps.getD 53 undef = v := f53
      have f54 : a.tmps.getD 54 undef = .int .i64 ((n : Int)) := f54
      refine rely_wp rfl ?_
      exact opr_cv (Prove_good hX _ l n wx (hT.tables HT.out) (hT.hs HL.out) HN1.out HNL.out (by have := HLEN.out; omega)) rfl Tryd.func13 (by kernel_rfl) (by kernel_rfl) (by simp only [List.map_toArray, List.map_cons, List.map_nil, eval_tmp, f53, f54]) hK
    · intro a wx hT hF K hK
      obtain ⟨f55, _⟩ := hF
      replace f55 := show (svPq (subM node z n l true) true).pred (a.tmps.getD 55 undef) wx from f55
      refine rely_wp rfl ?_
      exact opr_move (.inl rfl) (hK _ _ (NewT.refl _) f55)
    · intro a wx hT hF K hK
      obtain ⟨f52, _⟩ := hF
      replace f52 := show (svPq (subM node z n l true) true).pred (a.tmps.getD 52 undef) wx from f52
      refine rely_wp rfl ?_
      exact opr_extP0 rfl f52 (fun u hu => hK u _ (NewT.refl _) hu)
    · intro a wx hT hF K hK
      obtain ⟨f52, _⟩ := hF
      replace f52 := show (svPq (subM node z n l true) true).pred (a.tmps.getD 52 undef) wx from f52
      refine rely_wp rfl ?_
      exact opr_extP1 rfl f52 (hK _ _ (NewT.refl _) rfl)
    · intro a wx hT hF K hK
      obtain ⟨f56, _⟩ := hF
      replace f56 := show (svH (subM node z n l true)).pred (a.tmps.getD 56 undef) wx from f56
      refine rely_wp rfl ?_
      exact opr_move (.inr rfl) (hK _ _ (NewT.refl _) f56)
    · intro a wx hT hF K hK
      obtain ⟨f57, _⟩ := hF
      have f57 : a.tmps.getD 57 undef = .bool true := f57
      refine rely_wp rfl ?_
      exact opr_move (.inr rfl) (hK _ _ (NewT.refl _) f57)
    · intro w3 k3
      intro u h; obtain rfl := Eq.symm (h (by simp)); clear h
      intro u h; obtain rfl := Eq.symm (h (by simp)); clear h
      intro _ _
      intro _ _
      intro _ _
      intro u h; obtain rfl := Eq.symm (h (by simp)); clear h
      intro u11 h; have g11 := h (by simp); clear h; replace g11 := show (svH (subM node z n l true)).pred u11 w3 from g11
      intro u h; obtain rfl := Eq.symm (h (by simp)); clear h
      refine relyEnd_nil rfl ?_
      refine wpList_end rfl ?_
      simp only [Act.put, List.setIfInBounds_toArray, List.set_cons_zero, List.set_cons_succ]
      go_simp
      have HU11 := Lib.hid (show RdH w3 u11 (subM node z n l true) from g11)
      clear g11
      replace HL := Lib.hid (k3.hs HL.out)
      replace HU9 := Lib.hid (k3.hs HU9.out)
      replace HT := Lib.hid (k3.tables HT.out)
      replace HN := Lib.hid (NewT.trans _ _ _ HN.out k3)
      clear k3
      go_upto_region 9 with fail
      refine wp_region_steps0 NewT [SV.eq (v), SV.eq (.int .i64 ((m : Int))), svPq (subM node z m l true) true, svPq (subM node z m l true) true, svH (subM node z m l true), SV.eq (.bool true), svH (subM node z m l true), SV.eq (.bool true)] [([(0, none)], none), ([(7, none)], none), ([(59, some 0), (60, some 1)], none), ([(61, some 2)], none), ([(58, some 3)], none), ([(58, some 3)], none), ([(62, some 4)], none), ([(63, some 5)], none)] 107 8 rfl rfl (by kernel_rfl) NewT.trans (NewT.refl _) (Nat.le_of_ble_eq_true rfl) ⟨?_, ?_, ?_, ?_, ?_, ?_, ?_, ?_, trivial⟩ ?_
      · intro a wx hT hF K hK
        obtain ⟨f0, _⟩ := hF
        have f0 : a.tmps.getD 0 undef = v := f0
        refine rely_wp rfl ?_
        exact opr_move (.inl rfl) (hK _ _ (NewT.refl _) f0)
      · intro a wx hT hF K hK
        obtain ⟨f7, _⟩ := hF
        have f7 : a.tmps.getD 7 undef = .int .i64 ((m : Int)) := f7
        refine rely_wp rfl ?_
        exact opr_move (.inl rfl) (hK _ _ (NewT.refl _) f7)
      · intro a wx hT hF K hK
        obtain ⟨f59, f60, _⟩ := hF
        have f59 : a.tmps.getD 59 undef = v := f59
        have f60 : a.tmps.getD 60 undef = .int .i64 ((m : Int)) := f60
        refine rely_wp rfl ?_
        exact opr_cv (Prove_good hX _ l m wx (hT.tables HT.out) (hT.hs HL.out) HM1.out HML.out (by have := HLEN.out; omega)) rfl Tryd.func13 (by kernel_rfl) (by kernel_rfl) (by simp only [List.map_toArray, List.map_cons, List.map_nil, eval_tmp, f59, f60]) hK
      · intro a wx hT hF K hK
        obtain ⟨f61, _⟩ := hF
        replace f61 := show (svPq (subM node z m l true) true).pred (a.tmps.getD 61 undef) wx from f61
        refine rely_wp rfl ?_
        exact opr_move (.inl rfl) (hK _ _ (NewT.refl _) f61)
      · intro a wx hT hF K hK
        obtain ⟨f58, _⟩ := hF
        replace f58 := show (svPq (subM node z m l true) true).pred (a.tmps.getD 58 undef) wx from f58
        refine rely_wp rfl ?_
        exact opr_extP0 rfl f58 (fun u hu => hK u _ (NewT.refl _) hu)
      · intro a wx hT hF K hK
        obtain ⟨f58, _⟩ := hF
        replace f58 := show (svPq (subM node z m l true) true).pred (a.tmps.getD 58 undef) wx from f58
        refine rely_wp rfl ?_
        exact opr_extP1 rfl f58 (hK _ _ (NewT.refl _) rfl)
      · intro a wx hT hF K hK
        obtain ⟨f62, _⟩ := hF
        replace f62 := show (svH (subM node z m l true)).pred (a.tmps.getD 62 undef) wx from f62
        refine rely_wp rfl ?_
        exact opr_move (.inr rfl) (hK _ _ (NewT.refl _) f62)
      · intro a wx hT hF K hK
        obtain ⟨f63, _⟩ := hF
        have f63 : a.tmps.getD 63 undef = .bool true := f63
        refine rely_wp rfl ?_
        exact opr_move (.inr rfl) (hK _ _ (NewT.refl _) f63)
      · intro w4 k4
        intro u h; obtain rfl := Eq.symm (h (by simp)); clear h
        intro u h; obtain rfl := Eq.symm (h (by simp)); clear h
        intro _ _
        intro _ _
        intro _ _
        intro u h; obtain rfl := Eq.symm (h (by simp)); clear h
        intro u13 h; have g13 := h (by simp); clear h; replace g13 := show (svH (subM node z m l true)).pred u13 w4 from g13
        intro u h; obtain rfl := Eq.symm (h (by simp)); clear h
        refine relyEnd_nil rfl ?_
        refine wpList_end rfl ?_
        simp only [Act.put, List.setIfInBounds_toArray, List.set_cons_zero, List.set_cons_succ]
        go_simp
        have HU13 := Lib.hid (show RdH w4 u13 (subM node z m l true) from g13)
        clear g13
        replace HL := Lib.hid (k4.hs HL.out)
        replace HU9 := Lib.hid (k4.hs HU9.out)
        replace HU11 := Lib.hid (k4.hs HU11.out)
        replace HT := Lib.hid (k4.tables HT.out)
        replace HN := Lib.hid (NewT.trans _ _ _ HN.out k4)
        clear k4
        go_upto_region 10 with fail
        refine wp_region_relyJ_tail (J := ManyPtr [15, 16, 17]) (NewT) [SV.eq (v), SV.eq (.int .i64 ((m : Int))), svH (List.take m l), SV.eq (.agg (rowA 32 (bF (rootM node z (List.take m l))))), SV.eq (v), SV.eq (.int .i64 ((n : Int))), svH (List.take n l), SV.eq (.agg (rowA 32 (bF (rootM node z (List.take n l))))), SV.eq (v), SV.eq (.agg (rowA 32 (bF (rootM node z (l))))), svNw w4.heap.size, svNw w4.heap.size, svNw w4.heap.size] [([(0, none)], none), ([(7, none)], none), ([(64, some 0), (65, some 1)], none), ([(66, some 2)], none), ([(0, none)], none), ([(8, none)], none), ([(68, some 4), (69, some 5)], none), ([(70, some 6)], none), ([(0, none)], none), ([(72, some 8)], none), ([], none), ([], none), ([], none)] 107 13 (by kernel_rfl) rfl rfl (Nat.zero_lt_succ _) (by kernel_rfl) (by kernel_rfl) (by kernel_rfl) NewT.trans (NewT.drew _) ⟨fun p hp g h => (by simp at hp; rcases hp with rfl | rfl | rfl <;> cases h), fun p hp q hq hpq g g2 h => (by simp at hp; rcases hp with rfl | rfl | rfl <;> cases h)⟩ (Nat.le_of_ble_eq_true rfl) ⟨?_, ?_, ?_, ?_, ?_, ?_, ?_, ?_, ?_, ?_, ?_, ?_, ?_, trivial⟩ ?_
        · refine relyStepJ_of (fun a w v w' h hT => h.keep (by simp) hT) ?_
          intro a wx hT hF K hK
          obtain ⟨f0, _⟩ := hF
          have f0 : a.tmps.getD 0 undef = v := f0
          refine rely_wp rfl ?_
          exact opr_move (.inl rfl) (hK _ _ (NewT.refl _) f0)
        · refine relyStepJ_of (fun a w v w' h hT => h.keep (by simp) hT) ?_
          intro a wx hT hF K hK
          obtain ⟨f7, _⟩ := hF
          have f7 : a.tmps.getD 7 undef = .int .i64 ((m : Int)) := f7
          refine rely_wp rfl ?_
          exact opr_move (.inl rfl) (hK _ _ (NewT.refl _) f7)
        · refine relyStepJ_of (fun a w v w' h hT => h.keep (by simp) hT) ?_
          intro a wx hT hF K hK
          obtain ⟨f64, f65, _⟩ := hF
          have f64 : a.tmps.getD 64 undef = v := f64
          have f65 : a.tmps.getD 65 undef = .int .i64 ((m : Int)) := f65
          refine rely_wp rfl ?_
          exact opr_toH (k := m) (HML.out) (rfl) rfl (by rw [eval_tmp, f64]; exact (hT.hs HL.out)) f65 (fun v hv => hK v _ (NewT.refl _) hv)
        · refine relyStepJ_of (fun a w v w' h hT => h.keep (by simp) hT) ?_
          intro a wx hT hF K hK
          obtain ⟨f66, _⟩ := hF
          replace f66 := show (svH (List.take m l)).pred (a.tmps.getD 66 undef) wx from f66
          refine rely_wp rfl ?_
          exact opr_cv (Root_cv hX _ _ (List.take m l) wx (hT.tables HT.out) (f66) (Nat.le_refl _) (by have := HLEN.out; simp; omega)) rfl Tryd.func24 (by kernel_rfl) (by kernel_rfl) (by simp only [List.map_toArray, List.map_cons, List.map_nil, eval_tmp]) hK
        · refine relyStepJ_of (fun a w v w' h hT => h.keep (by simp) hT) ?_
          intro a wx hT hF K hK
          obtain ⟨f0, _⟩ := hF
          have f0 : a.tmps.getD 0 undef = v := f0
          refine rely_wp rfl ?_
          exact opr_move (.inl rfl) (hK _ _ (NewT.refl _) f0)
        · refine relyStepJ_of (fun a w v w' h hT => h.keep (by simp) hT) ?_
          intro a wx hT hF K hK
          obtain ⟨f8, _⟩ := hF
          have f8 : a.tmps.getD 8 undef = .int .i64 ((n : Int)) := f8
          refine rely_wp rfl ?_
          exact opr_move (.inl rfl) (hK _ _ (NewT.refl _) f8)
        · refine relyStepJ_of (fun a w v w' h hT => h.keep (by simp) hT) ?_
          intro a wx hT hF K hK
          obtain ⟨f68, f69, _⟩ := hF
          have f68 : a.tmps.getD 68 undef = v := f68
          have f69 : a.tmps.getD 69 undef = .int .i64 ((n : Int)) := f69
          refine rely_wp rfl ?_
          exact opr_toH (k := n) (HNL.out) (rfl) rfl (by rw [eval_tmp, f68]; exact (hT.hs HL.out)) f69 (fun v hv => hK v _ (NewT.refl _) hv)
        · refine relyStepJ_of (fun a w v w' h hT => h.keep (by simp) hT) ?_
          intro a wx hT hF K hK
          obtain ⟨f70, _⟩ := hF
          replace f70 := show (svH (List.take n l)).pred (a.tmps.getD 70 undef) wx from f70
          refine rely_wp rfl ?_
          exact opr_cv (Root_cv hX _ _ (List.take n l) wx (hT.tables HT.out) (f70) (Nat.le_refl _) (by have := HLEN.out; simp; omega)) rfl Tryd.func24 (by kernel_rfl) (by kernel_rfl) (by simp only [List.map_toArray, List.map_cons, List.map_nil, eval_tmp]) hK
        · refine relyStepJ_of (fun a w v w' h hT => h.keep (by simp) hT) ?_
          intro a wx hT hF K hK
          obtain ⟨f0, _⟩ := hF
          have f0 : a.tmps.getD 0 undef = v := f0
          refine rely_wp rfl ?_
          exact opr_move (.inl rfl) (hK _ _ (NewT.refl _) f0)
        · refine relyStepJ_of (fun a w v w' h hT => h.keep (by simp) hT) ?_
          intro a wx hT hF K hK
          obtain ⟨f72, _⟩ := hF
          have f72 : a.tmps.getD 72 undef = v := f72
          refine rely_wp rfl ?_
          exact opr_cv (Root_cv hX _ _ (l) wx (hT.tables HT.out) ((hT.hs HL.out)) (Nat.le_refl _) (by have := HLEN.out; omega)) rfl Tryd.func24 (by kernel_rfl) (by kernel_rfl) (by simp only [List.map_toArray, List.map_cons, List.map_nil, eval_tmp, f72]) hK
        · intro a wx hT hF hJ K hK
          refine rely_wp rfl ?_
          refine opr_alloc_at rfl ?_
          exact hK _ _ (NewT.alloc _ _) ⟨wx.heap.size, rfl, hT.out.size, rowIs_box wx _ 32 _⟩ hJ.make
        · intro a wx hT hF hJ K hK
          refine rely_wp rfl ?_
          refine opr_alloc_at rfl ?_
          exact hK _ _ (NewT.alloc _ _) ⟨wx.heap.size, rfl, hT.out.size, rowIs_box wx _ 32 _⟩ hJ.make
        · intro a wx hT hF hJ K hK
          refine rely_wp rfl ?_
          refine opr_alloc_at rfl ?_
          exact hK _ _ (NewT.alloc _ _) ⟨wx.heap.size, rfl, hT.out.size, rowIs_box wx _ 32 _⟩ hJ.make
        · intro w5 k5
          intro u h; obtain rfl := Eq.symm (h (by simp)); clear h
          intro u h; obtain rfl := Eq.symm (h (by simp)); clear h
          intro _ _
          intro u h; obtain rfl := Eq.symm (h (by simp)); clear h
          intro u h; obtain rfl := Eq.symm (h (by simp)); clear h
          intro u h; obtain rfl := Eq.symm (h (by simp)); clear h
          intro _ _
          intro u h; obtain rfl := Eq.symm (h (by simp)); clear h
          intro u h; obtain rfl := Eq.symm (h (by simp)); clear h
          intro u h; obtain rfl := Eq.symm (h (by simp)); clear h
          intro u h; obtain ⟨p15, hv, hp15, rr15⟩ := (h (by simp)); clear h; subst hv
          intro u h; obtain ⟨p16, hv, hp16, rr16⟩ := (h (by simp)); clear h; subst hv
          intro u h; obtain ⟨p17, hv, hp17, rr17⟩ := (h (by simp)); clear h; subst hv
          refine relyEnd_nil rfl ?_
          intro hJ
          have hne01 := hJ.2 15 (by simp) 16 (by simp) (by decide) p15 p16 (by kernel_rfl) (by kernel_rfl)
          have hne02 := hJ.2 15 (by simp) 17 (by simp) (by decide) p15 p17 (by kernel_rfl) (by kernel_rfl)
          have hne12 := hJ.2 16 (by simp) 17 (by simp) (by decide) p16 p17 (by kernel_rfl) (by kernel_rfl)
          clear hJ
          simp only [Act.put, List.setIfInBounds_toArray, List.set_cons_zero, List.set_cons_succ]
          refine wpList_plain rfl (fun K hK => ?_)
          refine opr_putm (F := bF (rootM node z (List.take m l))) rfl rfl rfl (rr15) (by decide) info31 (fun _ => rfl) (fun i hi => by rw [if_pos (by omega), Nat.sub_zero]) ?_
          intro w7 q7 b1
          refine hK _ _ ?_
          clear hK K
          refine wpList_plain rfl (fun K hK => ?_)
          refine opr_putm (F := bF (rootM node z (List.take n l))) rfl rfl rfl (q7.row (Ne.symm hne01) rr16) (by decide) info31 (fun _ => rfl) (fun i hi => by rw [if_pos (by omega), Nat.sub_zero]) ?_
          intro w8 q8 b2
          refine hK _ _ ?_
          clear hK K
          refine wpList_plain rfl (fun K hK => ?_)
          refine opr_putm (F := bF (rootM node z l)) rfl rfl rfl (q8.row (Ne.symm hne12) (q7.row (Ne.symm hne02) rr17)) (by decide) info31 (fun _ => rfl) (fun i hi => by rw [if_pos (by omega), Nat.sub_zero]) ?_
          intro w9 q9 b3
          refine hK _ _ ?_
          clear hK K
          refine wpList_end rfl ?_
          simp only [Act.put, List.setIfInBounds_toArray, List.set_cons_zero, List.set_cons_succ]
          go_simp
          have k9 : NewT w4 w9 := NewT.rt (NewT.rt (NewT.rt k5 q7 hp15) q8 hp16) q9 hp17
          have R15 := Lib.hid (q9.row hne02 (q8.row hne01 b1))
          have R16 := Lib.hid (q9.row hne12 b2)
          have R17 := Lib.hid b3
          clear rr15 rr16 rr17 b1 b2 b3 q7 q8 q9 k5 hne01 hne02 hne12 hp15 hp16 hp17
          replace HL := Lib.hid (k9.hs HL.out)
          replace HU9 := Lib.hid (k9.hs HU9.out)
          replace HU11 := Lib.hid (k9.hs HU11.out)
          replace HU13 := Lib.hid (k9.hs HU13.out)
          replace HT := Lib.hid (k9.tables HT.out)
          replace HN := Lib.hid (NewT.trans _ _ _ HN.out k9)
          clear k9
          go_upto_region 11 with fail
          refine wp_region_steps0 NewT [SV.eq (.bool true), SV.eq (.bool true), SV.eq (.bool true), SV.eq (.bool true), SV.eq (.bool true), SV.eq (.bool true), SV.eq (.bool true), SV.eq (.bool true), SV.eq (.int .i64 ((m : Int))), SV.eq (.int .i64 ((n : Int))), SV.eq (.agg (rowA 32 (bF (rootM node z (List.take m l))))), SV.eq (.agg (rowA 32 (bF (rootM node z (List.take n l))))), SV.eq (u9), SV.eq (.bool true), SV.eq (.bool true), SV.eq (.bool true), SV.eq (.int .i64 ((n : Int))), SV.eq (v), SV.eq (.int .i64 ((List.length (l) : Int))), SV.eq (.agg (rowA 32 (bF (rootM node z (List.take n l))))), SV.eq (.agg (rowA 32 (bF (rootM node z l)))), SV.eq (u11), SV.eq (.bool true), SV.eq (.bool true), SV.eq (.bool true), SV.eq (.int .i64 ((m : Int))), SV.eq (v), SV.eq (.int .i64 ((List.length (l) : Int))), SV.eq (.agg (rowA 32 (bF (rootM node z (List.take m l))))), SV.eq (.agg (rowA 32 (bF (rootM node z l)))), SV.eq (u13), SV.eq (.bool true), SV.eq (.bool true), SV.eq (.bool true)] [([(10, none)], none), ([(74, some 0)], none), ([(12, none), (75, some 1)], some (75, true)), ([(75, some 1), (76, some 2)], none), ([(77, some 3)], none), ([(14, none), (78, some 4)], some (78, true)), ([(78, some 4), (79, some 5)], none), ([(80, some 6)], none), ([(7, none), (81, some 7)], some (81, true)), ([(8, none), (81, some 7)], some (81, true)), ([(15, none), (81, some 7)], some (81, true)), ([(16, none), (81, some 7)], some (81, true)), ([(9, none), (81, some 7)], some (81, true)), ([(82, some 8), (83, some 9), (84, some 10), (85, some 11), (86, some 12), (81, some 7)], some (81, true)), ([(81, some 7), (87, some 13)], none), ([(88, some 14)], none), ([(8, none), (89, some 15)], some (89, true)), ([(0, none), (89, some 15)], some (89, true)), ([(91, some 17), (89, some 15)], some (89, true)), ([(16, none), (89, some 15)], some (89, true)), ([(17, none), (89, some 15)], some (89, true)), ([(11, none), (89, some 15)], some (89, true)), ([(90, some 16), (92, some 18), (93, some 19), (94, some 20), (95, some 21), (89, some 15)], some (89, true)), ([(89, some 15), (96, some 22)], none), ([(97, some 23)], none), ([(7, none), (98, some 24)], some (98, true)), ([(0, none), (98, some 24)], some (98, true)), ([(100, some 26), (98, some 24)], some (98, true)), ([(15, none), (98, some 24)], some (98, true)), ([(17, none), (98, some 24)], some (98, true)), ([(13, none), (98, some 24)], some (98, true)), ([(99, some 25), (101, some 27), (102, some 28), (103, some 29), (104, some 30), (98, some 24)], some (98, true)), ([(98, some 24), (105, some 31)], none), ([(106, some 32)], none)] 107 34 rfl rfl (by kernel_rfl) NewT.trans (NewT.refl _) (Nat.le_of_ble_eq_true rfl) ⟨?_, ?_, ?_, ?_, ?_, ?_, ?_, ?_, ?_, ?_, ?_, ?_, ?_, ?_, ?_, ?_, ?_, ?_, ?_, ?_, ?_, ?_, ?_, ?_, ?_, ?_, ?_, ?_, ?_, ?_, ?_, ?_, ?_, ?_, trivial⟩ ?_
          · intro a wx hT hF K hK
            obtain ⟨f10, _⟩ := hF
            have f10 : a.tmps.getD 10 undef = .bool true := f10
            refine rely_wp rfl ?_
            exact opr_move (.inl rfl) (hK _ _ (NewT.refl _) f10)
          · intro a wx hT hF K hK
            obtain ⟨f74, _⟩ := hF
            have f74 : a.tmps.getD 74 undef = .bool true := f74
            refine rely_wp rfl ?_
            exact opr_move (.inl rfl) (hK _ _ (NewT.refl _) f74)
          · intro a wx hT hF K hK
            obtain ⟨f12, f75, _⟩ := hF
            have f12 : a.tmps.getD 12 undef = .bool true := f12
            have f75 : a.tmps.getD 75 undef = .bool true := f75
            refine rely_wp (rely_guard f75) ?_
            exact opr_move (.inl rfl) (hK _ _ (NewT.refl _) f12)
          · intro a wx hT hF K hK
            obtain ⟨f75, f76, _⟩ := hF
            have f75 : a.tmps.getD 75 undef = .bool true := f75
            have f76 : a.tmps.getD 76 undef = .bool true := f76
            refine rely_wp rfl ?_
            exact opr_pick_true rfl f75 (hK _ _ (NewT.refl _) f76)
          · intro a wx hT hF K hK
            obtain ⟨f77, _⟩ := hF
            have f77 : a.tmps.getD 77 undef = .bool true := f77
            refine rely_wp rfl ?_
            exact opr_move (.inl rfl) (hK _ _ (NewT.refl _) f77)
          · intro a wx hT hF K hK
            obtain ⟨f14, f78, _⟩ := hF
            have f14 : a.tmps.getD 14 undef = .bool true := f14
            have f78 : a.tmps.getD 78 undef = .bool true := f78
            refine rely_wp (rely_guard f78) ?_
            exact opr_move (.inl rfl) (hK _ _ (NewT.refl _) f14)
          · intro a wx hT hF K hK
            obtain ⟨f78, f79, _⟩ := hF
            have f78 : a.tmps.getD 78 undef = .bool true := f78
            have f79 : a.tmps.getD 79 undef = .bool true := f79
            refine rely_wp rfl ?_
            exact opr_pick_true rfl f78 (hK _ _ (NewT.refl _) f79)
          · intro a wx hT hF K hK
            obtain ⟨f80, _⟩ := hF
            have f80 : a.tmps.getD 80 undef = .bool true := f80
            refine rely_wp rfl ?_
            exact opr_move (.inl rfl) (hK _ _ (NewT.refl _) f80)
          · intro a wx hT hF K hK
            obtain ⟨f7, f81, _⟩ := hF
            have f7 : a.tmps.getD 7 undef = .int .i64 ((m : Int)) := f7
            have f81 : a.tmps.getD 81 undef = .bool true := f81
            refine rely_wp (rely_guard f81) ?_
            exact opr_move (.inl rfl) (hK _ _ (NewT.refl _) f7)
          · intro a wx hT hF K hK
            obtain ⟨f8, f81, _⟩ := hF
            have f8 : a.tmps.getD 8 undef = .int .i64 ((n : Int)) := f8
            have f81 : a.tmps.getD 81 undef = .bool true := f81
            refine rely_wp (rely_guard f81) ?_
            exact opr_move (.inl rfl) (hK _ _ (NewT.refl _) f8)
          · intro a wx hT hF K hK
            obtain ⟨f15, f81, _⟩ := hF
            have f15 : a.tmps.getD 15 undef = .pointer (some ⟨p15, 0, none⟩) := f15
            have f81 : a.tmps.getD 81 undef = .bool true := f81
            refine rely_wp (rely_guard f81) ?_
            exact opr_load_hash rfl f15 (hT.row R15.out) (hK _ _ (NewT.refl _) rfl)
          · intro a wx hT hF K hK
            obtain ⟨f16, f81, _⟩ := hF
            have f16 : a.tmps.getD 16 undef = .pointer (some ⟨p16, 0, none⟩) := f16
            have f81 : a.tmps.getD 81 undef = .bool true := f81
            refine rely_wp (rely_guard f81) ?_
            exact opr_load_hash rfl f16 (hT.row R16.out) (hK _ _ (NewT.refl _) rfl)
          · intro a wx hT hF K hK
            obtain ⟨f9, f81, _⟩ := hF
            have f9 : a.tmps.getD 9 undef = u9 := f9
            have f81 : a.tmps.getD 81 undef = .bool true := f81
            refine rely_wp (rely_guard f81) ?_
            exact opr_move (.inl rfl) (hK _ _ (NewT.refl _) f9)
          · intro a wx hT hF K hK
            obtain ⟨f82, f83, f84, f85, f86, f81, _⟩ := hF
            have f82 : a.tmps.getD 82 undef = .int .i64 ((m : Int)) := f82
            have f83 : a.tmps.getD 83 undef = .int .i64 ((n : Int)) := f83
            have f84 : a.tmps.getD 84 undef = .agg (rowA 32 (bF (rootM node z (List.take m l)))) := f84
            have f85 : a.tmps.getD 85 undef = .agg (rowA 32 (bF (rootM node z (List.take n l)))) := f85
            have f86 : a.tmps.getD 86 undef = u9 := f86
            have f81 : a.tmps.getD 81 undef = .bool true := f81
            refine rely_wp (rely_guard f81) ?_
            exact opr_cv (HB1.out u9 wx (hT.tables HT.out) (hT.hs HU9.out)) rfl Tryd.func22 (by kernel_rfl) (by kernel_rfl) (by simp only [List.map_toArray, List.map_cons, List.map_nil, eval_tmp, f82, f83, f84, f85, f86]) hK
          · intro a wx hT hF K hK
            obtain ⟨f81, f87, _⟩ := hF
            have f81 : a.tmps.getD 81 undef = .bool true := f81
            have f87 : a.tmps.getD 87 undef = .bool true := f87
            refine rely_wp rfl ?_
            exact opr_pick_true rfl f81 (hK _ _ (NewT.refl _) f87)
          · intro a wx hT hF K hK
            obtain ⟨f88, _⟩ := hF
            have f88 : a.tmps.getD 88 undef = .bool true := f88
            refine rely_wp rfl ?_
            exact opr_move (.inl rfl) (hK _ _ (NewT.refl _) f88)
          · intro a wx hT hF K hK
            obtain ⟨f8, f89, _⟩ := hF
            have f8 : a.tmps.getD 8 undef = .int .i64 ((n : Int)) := f8
            have f89 : a.tmps.getD 89 undef = .bool true := f89
            refine rely_wp (rely_guard f89) ?_
            exact opr_move (.inl rfl) (hK _ _ (NewT.refl _) f8)
          · intro a wx hT hF K hK
            obtain ⟨f0, f89, _⟩ := hF
            have f0 : a.tmps.getD 0 undef = v := f0
            have f89 : a.tmps.getD 89 undef = .bool true := f89
            refine rely_wp (rely_guard f89) ?_
            exact opr_move (.inl rfl) (hK _ _ (NewT.refl _) f0)
          · intro a wx hT hF K hK
            obtain ⟨f91, f89, _⟩ := hF
            have f91 : a.tmps.getD 91 undef = v := f91
            have f89 : a.tmps.getD 89 undef = .bool true := f89
            refine rely_wp (rely_guard f89) ?_
            exact opr_len_h rfl (by rw [eval_tmp, f91]; exact (hT.hs HL.out)) (hK _ _ (NewT.refl _) rfl)
          · intro a wx hT hF K hK
            obtain ⟨f16, f89, _⟩ := hF
            have f16 : a.tmps.getD 16 undef = .pointer (some ⟨p16, 0, none⟩) := f16
            have f89 : a.tmps.getD 89 undef = .bool true := f89
            refine rely_wp (rely_guard f89) ?_
            exact opr_load_hash rfl f16 (hT.row R16.out) (hK _ _ (NewT.refl _) rfl)
          · intro a wx hT hF K hK
            obtain ⟨f17, f89, _⟩ := hF
            have f17 : a.tmps.getD 17 undef = .pointer (some ⟨p17, 0, none⟩) := f17
            have f89 : a.tmps.getD 89 undef = .bool true := f89
            refine rely_wp (rely_guard f89) ?_
            exact opr_load_hash rfl f17 (hT.row R17.out) (hK _ _ (NewT.refl _) rfl)
          · intro a wx hT hF K hK
            obtain ⟨f11, f89, _⟩ := hF
            have f11 : a.tmps.getD 11 undef = u11 := f11
            have f89 : a.tmps.getD 89 undef = .bool true := f89
            refine rely_wp (rely_guard f89) ?_
            exact opr_move (.inl rfl) (hK _ _ (NewT.refl _) f11)
          · intro a wx hT hF K hK
            obtain ⟨f90, f92, f93, f94, f95, f89, _⟩ := hF
            have f90 : a.tmps.getD 90 undef = .int .i64 ((n : Int)) := f90
            have f92 : a.tmps.getD 92 undef = .int .i64 ((List.length (l) : Int)) := f92
            have f93 : a.tmps.getD 93 undef = .agg (rowA 32 (bF (rootM node z (List.take n l)))) := f93
            have f94 : a.tmps.getD 94 undef = .agg (rowA 32 (bF (rootM node z l))) := f94
            have f95 : a.tmps.getD 95 undef = u11 := f95
            have f89 : a.tmps.getD 89 undef = .bool true := f89
            refine rely_wp (rely_guard f89) ?_
            exact opr_cv (eqH_same (rootM node z l) ▸ Beg_list hX l n (rootM node z l) u11 wx (hT.tables HT.out) HN1.out HNL.out (by have := HLEN.out; omega) (hT.hs HU11.out)) rfl Tryd.func22 (by kernel_rfl) (by kernel_rfl) (by simp only [List.map_toArray, List.map_cons, List.map_nil, eval_tmp, f90, f92, f93, f94, f95]) hK
          · intro a wx hT hF K hK
            obtain ⟨f89, f96, _⟩ := hF
            have f89 : a.tmps.getD 89 undef = .bool true := f89
            have f96 : a.tmps.getD 96 undef = .bool true := f96
            refine rely_wp rfl ?_
            exact opr_pick_true rfl f89 (hK _ _ (NewT.refl _) f96)
          · intro a wx hT hF K hK
            obtain ⟨f97, _⟩ := hF
            have f97 : a.tmps.getD 97 undef = .bool true := f97
            refine rely_wp rfl ?_
            exact opr_move (.inl rfl) (hK _ _ (NewT.refl _) f97)
          · intro a wx hT hF K hK
            obtain ⟨f7, f98, _⟩ := hF
            have f7 : a.tmps.getD 7 undef = .int .i64 ((m : Int)) := f7
            have f98 : a.tmps.getD 98 undef = .bool true := f98
            refine rely_wp (rely_guard f98) ?_
            exact opr_move (.inl rfl) (hK _ _ (NewT.refl _) f7)
          · intro a wx hT hF K hK
            obtain ⟨f0, f98, _⟩ := hF
            have f0 : a.tmps.getD 0 undef = v := f0
            have f98 : a.tmps.getD 98 undef = .bool true := f98
            refine rely_wp (rely_guard f98) ?_
            exact opr_move (.inl rfl) (hK _ _ (NewT.refl _) f0)
          · intro a wx hT hF K hK
            obtain ⟨f100, f98, _⟩ := hF
            have f100 : a.tmps.getD 100 undef = v := f100
            have f98 : a.tmps.getD 98 undef = .bool true := f98
            refine rely_wp (rely_guard f98) ?_
            exact opr_len_h rfl (by rw [eval_tmp, f100]; exact (hT.hs HL.out)) (hK _ _ (NewT.refl _) rfl)
          · intro a wx hT hF K hK
            obtain ⟨f15, f98, _⟩ := hF
            have f15 : a.tmps.getD 15 undef = .pointer (some ⟨p15, 0, none⟩) := f15
            have f98 : a.tmps.getD 98 undef = .bool true := f98
            refine rely_wp (rely_guard f98) ?_
            exact opr_load_hash rfl f15 (hT.row R15.out) (hK _ _ (NewT.refl _) rfl)
          · intro a wx hT hF K hK
            obtain ⟨f17, f98, _⟩ := hF
            have f17 : a.tmps.getD 17 undef = .pointer (some ⟨p17, 0, none⟩) := f17
            have f98 : a.tmps.getD 98 undef = .bool true := f98
            refine rely_wp (rely_guard f98) ?_
            exact opr_load_hash rfl f17 (hT.row R17.out) (hK _ _ (NewT.refl _) rfl)
          · intro a wx hT hF K hK
            obtain ⟨f13, f98, _⟩ := hF
            have f13 : a.tmps.getD 13 undef = u13 := f13
            have f98 : a.tmps.getD 98 undef = .bool true := f98
            refine rely_wp (rely_guard f98) ?_
            exact opr_move (.inl rfl) (hK _ _ (NewT.refl _) f13)
          · intro a wx hT hF K hK
            obtain ⟨f99, f101, f102, f103, f104, f98, _⟩ := hF
            have f99 : a.tmps.getD 99 undef = .int .i64 ((m : Int)) := f99
            have f101 : a.tmps.getD 101 undef = .int .i64 ((List.length (l) : Int)) := f101
            have f102 : a.tmps.getD 102 undef = .agg (rowA 32 (bF (rootM node z (List.take m l)))) := f102
            have f103 : a.tmps.getD 103 undef = .agg (rowA 32 (bF (rootM node z l))) := f103
            have f104 : a.tmps.getD 104 undef = u13 := f104
            have f98 : a.tmps.getD 98 undef = .bool true := f98
            refine rely_wp (rely_guard f98) ?_
            exact opr_cv (eqH_same (rootM node z l) ▸ Beg_list hX l m (rootM node z l) u13 wx (hT.tables HT.out) HM1.out HML.out (by have := HLEN.out; omega) (hT.hs HU13.out)) rfl Tryd.func22 (by kernel_rfl) (by kernel_rfl) (by simp only [List.map_toArray, List.map_cons, List.map_nil, eval_tmp, f99, f101, f102, f103, f104]) hK
          · intro a wx hT hF K hK
            obtain ⟨f98, f105, _⟩ := hF
            have f98 : a.tmps.getD 98 undef = .bool true := f98
            have f105 : a.tmps.getD 105 undef = .bool true := f105
            refine rely_wp rfl ?_
            exact opr_pick_true rfl f98 (hK _ _ (NewT.refl _) f105)
          · intro a wx hT hF K hK
            obtain ⟨f106, _⟩ := hF
            have f106 : a.tmps.getD 106 undef = .bool true := f106
            refine rely_wp rfl ?_
            exact opr_move (.inr rfl) (hK _ _ (NewT.refl _) f106)
          · intro we ke
            intro u h; obtain rfl := Eq.symm (h (by simp)); clear h
            intro u h; obtain rfl := Eq.symm (h (by simp)); clear h
            intro u h; obtain rfl := Eq.symm (h (by simp)); clear h
            intro u h; obtain rfl := Eq.symm (h (by simp)); clear h
            intro u h; obtain rfl := Eq.symm (h (by simp)); clear h
            intro u h; obtain rfl := Eq.symm (h (by simp)); clear h
            intro u h; obtain rfl := Eq.symm (h (by simp)); clear h
            intro u h; obtain rfl := Eq.symm (h (by simp)); clear h
            intro u h; obtain rfl := Eq.symm (h (by simp)); clear h
            intro u h; obtain rfl := Eq.symm (h (by simp)); clear h
            intro u h; obtain rfl := Eq.symm (h (by simp)); clear h
            intro u h; obtain rfl := Eq.symm (h (by simp)); clear h
            intro u h; obtain rfl := Eq.symm (h (by simp)); clear h
            intro u h; obtain rfl := Eq.symm (h (by simp)); clear h
            intro u h; obtain rfl := Eq.symm (h (by simp)); clear h
            intro u h; obtain rfl := Eq.symm (h (by simp)); clear h
            intro u h; obtain rfl := Eq.symm (h (by simp)); clear h
            intro u h; obtain rfl := Eq.symm (h (by simp)); clear h
            intro u h; obtain rfl := Eq.symm (h (by simp)); clear h
            intro u h; obtain rfl := Eq.symm (h (by simp)); clear h
            intro u h; obtain rfl := Eq.symm (h (by simp)); clear h
            intro u h; obtain rfl := Eq.symm (h (by simp)); clear h
            intro u h; obtain rfl := Eq.symm (h (by simp)); clear h
            intro u h; obtain rfl := Eq.symm (h (by simp)); clear h
            intro u h; obtain rfl := Eq.symm (h (by simp)); clear h
            intro u h; obtain rfl := Eq.symm (h (by simp)); clear h
            intro u h; obtain rfl := Eq.symm (h (by simp)); clear h
            intro u h; obtain rfl := Eq.symm (h (by simp)); clear h
            intro u h; obtain rfl := Eq.symm (h (by simp)); clear h
            intro u h; obtain rfl := Eq.symm (h (by simp)); clear h
            intro u h; obtain rfl := Eq.symm (h (by simp)); clear h
            intro u h; obtain rfl := Eq.symm (h (by simp)); clear h
            intro u h; obtain rfl := Eq.symm (h (by simp)); clear h
            intro u h; obtain rfl := Eq.symm (h (by simp)); clear h
            refine relyEnd_nil rfl ?_
            refine wpList_end rfl ?_
            simp only [Act.put, List.setIfInBounds_toArray, List.set_cons_zero, List.set_cons_succ]
            go_simp
            go_wp2
            go_ret
            exact ⟨rfl, (NewT.trans _ _ _ HN.out ke).out⟩
end Go.Proofs.YtoigjcadncecpaaDoor
