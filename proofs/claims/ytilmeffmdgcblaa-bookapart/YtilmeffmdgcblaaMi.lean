/- What stands behind records that go, on lists: each saga's own records make it, they are as many as its number says, and a record more turns one saga, or an epoch. No program is named here. -/
import Derived.Test.YtilmeffmdgcblaaMe
import Derived.Test.YtilmeffmdgcblaaMh
import Derived.Test.YtilmeffmdgcblaaMg
set_option linter.all false
namespace Go.Proofs.Ytilmeffmdgcblaa
open Go Go.RowKit
set_option maxRecDepth 8000
set_option linter.all false
theorem only_app (R : List Rc) (x : Rc) (n : Int) : onlyL (R ++ [x]) n = onlyL R n ++ (if isOf n x = true then [x] else []) := by
  unfold onlyL
  rw [List.filter_append]
  congr 1
  cases h : isOf n x <;> simp [h]
theorem isOf_rot {x : Rc} (h : x.kind = 6) (n : Int) : isOf n x = false := by
  unfold isOf ofB
  have : inR x.kind 1 5 = false := by
    cases e : inR x.kind 1 5 with
    | false => rfl
    | true => have := (inR_iff _ _ _).1 e; omega
  rw [this]; rfl
theorem isOf_saga {x : Rc} (h : 1 ≤ x.kind ∧ x.kind ≤ 5) (n : Int) : isOf n x = (x.saga == n) := by
  unfold isOf ofB
  rw [(inR_iff _ _ _).2 h]; rfl
/-- How a saga stands behind the first of its records. -/
def gN (lim : Int) (l : List (Int × Int)) (xs : List Rc) (j : Nat) : Sg := (xs.take j).foldl (wentG l lim) (ofSt st0 1)
theorem gN_succ {lim : Int} {l : List (Int × Int)} {xs : List Rc} {j : Nat} {x : Rc} (hx : xs[j]? = some x) : gN lim l xs (j + 1) = wentG l lim (gN lim l xs j) x := by
  unfold gN
  rw [List.take_add_one, hx, List.foldl_append]; rfl
theorem gN_app {lim : Int} {l : List (Int × Int)} {xs : List Rc} {x : Rc} {j : Nat} (hj : j ≤ xs.length) : gN lim l (xs ++ [x]) j = gN lim l xs j := by
  unfold gN
  rw [List.take_append_of_le_length hj]
/-- A saga stands as its own records make it. -/
def ApartS (lim : Int) (n : Nat) (p : Ug) (own : List Rc) : Prop :=
  ∃ x0 xs, own = x0 :: xs ∧ x0.kind = 1 ∧ x0.steps = p.1 ∧ gN lim p.1 xs xs.length = p.2 ∧ (∀ (j : Nat) (x : Rc), xs[j]? = some x → goesB p.1 lim (gN lim p.1 xs j) x = true) ∧ ∀ j, j ≤ xs.length → GoodS lim n (p.1, gN lim p.1 xs j)
structure Stands (lim : Int) (n : Nat) (K : Bk) (R : List Rc) : Prop where
  apart : ∀ (k : Nat) (p : Ug), K.sg[k]? = some p → ApartS lim n p (onlyL R k)
  none : ∀ k : Nat, K.sg.length ≤ k → onlyL R k = []
  many : ∀ (k : Nat) (p : Ug), K.sg[k]? = some p → p.2.sq = ((onlyL R k).length : Int)
def sumO (R : List Rc) : Nat → Nat
  | 0 => 0
  | m + 1 => sumO R m + (onlyL R (m : Int)).length
def sumE (ep : Nat → Int) : Nat → Int
  | 0 => 0
  | m + 1 => sumE ep m + ep m
theorem ApartS.more {lim : Int} {n m : Nat} {p : Ug} {own : List Rc} (h : ApartS lim n p own) (hn : n ≤ m) : ApartS lim m p own := by
  obtain ⟨x0, xs, h1, h2, h3, h4, h5, h6⟩ := h
  exact ⟨x0, xs, h1, h2, h3, h4, h5, fun j hj => (h6 j hj).more hn⟩
theorem stands_step {lim : Int} {n : Nat} {K : Bk} {R : List Rc} {x : Rc} (hG : Good lim n K) (hS : Stands lim n K R) (h : goesK lim K x = true) : Stands lim (n + 1) (wentK lim K x) (R ++ [x]) := by
  have hG2 := good_step hG h
  obtain ⟨hl, hr, hw⟩ := goes_lim h
  rw [went_goes h] at hG2 ⊢
  rcases way_cases hr hw with ⟨h1, h2, h3, e⟩ | ⟨h1, h2, e⟩ | ⟨h1, k, p, h2, h3, h4, e⟩
  · have hof : ∀ j : Nat, isOf (j : Int) x = decide (j = K.sg.length) := fun j => by
      rw [isOf_saga (by omega), h2]
      by_cases hj : j = K.sg.length
      · subst hj; simp
      · rw [decide_eq_false hj]; simpa using (show ¬ (K.sg.length : Int) = (j : Int) by omega)
    rw [e] at hG2 ⊢
    refine ⟨fun j q hq => ?_, fun j hj => ?_, fun j q hq => ?_⟩
    · by_cases hj : j < K.sg.length
      · have hq' : K.sg[j]? = some q := by rw [List.getElem?_append_left hj] at hq; exact hq
        rw [only_app, hof, decide_eq_false (by omega), if_neg (by simp), List.append_nil]
        exact (hS.apart j q hq').more (by omega)
      · have hlt := (List.getElem?_eq_some_iff.1 hq).1
        simp at hlt
        obtain rfl : j = K.sg.length := by omega
        simp at hq
        subst hq
        rw [only_app, hof, decide_eq_true rfl, if_pos rfl, hS.none _ (Nat.le_refl _)]
        refine ⟨x, [], rfl, h1, rfl, rfl, fun j y hy => by simp at hy, fun j hj => ?_⟩
        have : j = 0 := by simpa using hj
        subst this
        exact hG2.sg _ (by simp [gN])
    · have hj' : K.sg.length + 1 ≤ j := by simpa using hj
      rw [only_app, hof, decide_eq_false (by omega), if_neg (by simp), List.append_nil]
      exact hS.none j (by omega)
    · by_cases hj : j < K.sg.length
      · have hq' : K.sg[j]? = some q := by rw [List.getElem?_append_left hj] at hq; exact hq
        rw [only_app, hof, decide_eq_false (by omega), if_neg (by simp), List.append_nil]
        exact hS.many j q hq'
      · have hlt := (List.getElem?_eq_some_iff.1 hq).1
        simp at hlt
        obtain rfl : j = K.sg.length := by omega
        simp at hq
        subst hq
        rw [only_app, hof, decide_eq_true rfl, if_pos rfl, hS.none _ (Nat.le_refl _)]
        rfl
  · have hno : ∀ j : Int, onlyL (R ++ [x]) j = onlyL R j := fun j => by rw [only_app, isOf_rot h1, if_neg (by simp), List.append_nil]
    rw [e]
    exact ⟨fun j q hq => by rw [hno]; exact (hS.apart j q hq).more (by omega), fun j hj => by rw [hno]; exact hS.none j hj, fun j q hq => by rw [hno]; exact hS.many j q hq⟩
  · have hof : ∀ j : Nat, isOf (j : Int) x = decide (j = k) := fun j => by
      rw [isOf_saga (by omega), h2]
      by_cases hj : j = k
      · subst hj; simp
      · rw [decide_eq_false hj]; simpa using (show ¬ (k : Int) = (j : Int) by omega)
    have hkl := (List.getElem?_eq_some_iff.1 h3).1
    rw [e] at hG2 ⊢
    have hgs := hG2.sg (p.1, wentG p.1 lim p.2 x) (List.mem_of_getElem? (show (K.sg.set k _)[k]? = _ from List.getElem?_set_self hkl))
    refine ⟨fun j q hq => ?_, fun j hj => ?_, fun j q hq => ?_⟩
    · by_cases hj : j = k
      · subst hj
        have hq' : (K.sg.set j (p.1, wentG p.1 lim p.2 x))[j]? = some q := hq
        rw [List.getElem?_set_self hkl] at hq'
        cases hq'
        rw [only_app, hof, decide_eq_true rfl, if_pos rfl]
        obtain ⟨x0, xs, e1, e2, e3, e4, e5, e6⟩ := hS.apart j p h3
        have hlast : (xs ++ [x])[xs.length]? = some x := by simp
        have hend : gN lim p.1 (xs ++ [x]) (xs.length + 1) = wentG p.1 lim p.2 x := by rw [gN_succ hlast, gN_app (Nat.le_refl _), e4]
        refine ⟨x0, xs ++ [x], by rw [e1]; rfl, e2, e3, by rw [List.length_append]; exact hend, fun i y hy => ?_, fun i hi => ?_⟩
        · by_cases hi : i < xs.length
          · rw [List.getElem?_append_left hi] at hy
            show goesB p.1 lim (gN lim p.1 (xs ++ [x]) i) y = true
            rw [gN_app (by omega)]
            exact e5 i y hy
          · have hlt := (List.getElem?_eq_some_iff.1 hy).1
            simp at hlt
            obtain rfl : i = xs.length := by omega
            rw [hlast] at hy
            cases hy
            show goesB p.1 lim (gN lim p.1 (xs ++ [x]) xs.length) x = true
            rw [gN_app (Nat.le_refl _), e4]
            exact h4
        · by_cases hi2 : i ≤ xs.length
          · show GoodS lim (n + 1) (p.1, gN lim p.1 (xs ++ [x]) i)
            rw [gN_app hi2]
            exact (e6 i hi2).more (by omega)
          · rw [List.length_append] at hi
            simp at hi
            obtain rfl : i = xs.length + 1 := by omega
            show GoodS lim (n + 1) (p.1, gN lim p.1 (xs ++ [x]) (xs.length + 1))
            rw [hend]
            exact hgs
      · have hq' : (K.sg.set k (p.1, wentG p.1 lim p.2 x))[j]? = some q := hq
        rw [List.getElem?_set_ne (Ne.symm hj)] at hq'
        rw [only_app, hof, decide_eq_false hj, if_neg (by simp), List.append_nil]
        exact (hS.apart j q hq').more (by omega)
    · have hj' : K.sg.length ≤ j := by simpa using hj
      rw [only_app, hof, decide_eq_false (by omega), if_neg (by simp), List.append_nil]
      exact hS.none j hj'
    · by_cases hj : j = k
      · subst hj
        have hq' : (K.sg.set j (p.1, wentG p.1 lim p.2 x))[j]? = some q := hq
        rw [List.getElem?_set_self hkl] at hq'
        cases hq'
        rw [only_app, hof, decide_eq_true rfl, if_pos rfl, List.length_append]
        have hm := hS.many j p h3
        show (wentG p.1 lim p.2 x).sq = _
        have : (wentG p.1 lim p.2 x).sq = p.2.sq + 1 := went_sq h4
        rw [this, hm]
        simp
      · have hq' : (K.sg.set k (p.1, wentG p.1 lim p.2 x))[j]? = some q := hq
        rw [List.getElem?_set_ne (Ne.symm hj)] at hq'
        rw [only_app, hof, decide_eq_false hj, if_neg (by simp), List.append_nil]
        exact hS.many j q hq'
where
  went_sq {l : List (Int × Int)} {lim : Int} {g : Sg} {x : Rc} (h : goesB l lim g x = true) : (wentG l lim g x).sq = g.sq + 1 := by
    unfold wentG
    rw [if_pos h]
    unfold behG lapG refG wellG turnG begG
    repeat' split
    all_goals rfl
theorem sumO_rot {R : List Rc} {x : Rc} (h : x.kind = 6) : ∀ m, sumO (R ++ [x]) m = sumO R m
  | 0 => rfl
  | m + 1 => by
    show sumO (R ++ [x]) m + (onlyL (R ++ [x]) m).length = sumO R m + (onlyL R m).length
    rw [sumO_rot h m, only_app, isOf_rot h, if_neg (by simp), List.append_nil]
theorem sumO_saga {R : List Rc} {x : Rc} {s : Nat} (h : 1 ≤ x.kind ∧ x.kind ≤ 5) (hs : x.saga = (s : Int)) : ∀ m, sumO (R ++ [x]) m = sumO R m + (if s < m then 1 else 0)
  | 0 => rfl
  | m + 1 => by
    show sumO (R ++ [x]) m + (onlyL (R ++ [x]) m).length = sumO R m + (onlyL R m).length + _
    rw [sumO_saga h hs m, only_app, isOf_saga h, hs]
    by_cases e : s = m
    · subst e
      have h1 : ((s : Int) == (s : Int)) = true := by simp
      have h2 : ¬ s < s := Nat.lt_irrefl s
      have h3 : s < s + 1 := Nat.lt_succ_self s
      rw [if_neg h2, if_pos h3, if_pos h1, List.length_append]
      show sumO R s + 0 + ((onlyL R s).length + 1) = _
      omega
    · have h1 : ¬ ((s : Int) == (m : Int)) = true := by
        intro h
        have := eq_of_beq h
        omega
      rw [if_neg h1, List.append_nil]
      by_cases e2 : s < m
      · have h3 : s < m + 1 := by omega
        rw [if_pos e2, if_pos h3]; omega
      · have h3 : ¬ s < m + 1 := by omega
        rw [if_neg e2, if_neg h3]; rfl
theorem sumE_set {ep : Nat → Int} {c : Nat} {z : Int} (h : c < 4) : sumE (fun i => if i = c then z else ep i) 4 = sumE ep 4 + (z - ep c) := by
  have : c = 0 ∨ c = 1 ∨ c = 2 ∨ c = 3 := by omega
  rcases this with rfl | rfl | rfl | rfl <;> simp [sumE] <;> omega
theorem sumO_le (R : List Rc) : ∀ m, sumO R m ≤ m * R.length
  | 0 => by simp [sumO]
  | m + 1 => by
    have h1 := sumO_le R m
    have h2 : (onlyL R m).length ≤ R.length := List.length_filter_le _ _
    show sumO R m + (onlyL R m).length ≤ _
    rw [Nat.succ_mul]
    omega
def totalK (K : Bk) (R : List Rc) : Int := (sumO R K.sg.length : Int) + sumE K.ep 4
theorem total_step {lim : Int} {n : Nat} {K : Bk} {R : List Rc} {x : Rc} (hS : Stands lim n K R) (h : goesK lim K x = true) (ht : totalK K R = n) : totalK (wentK lim K x) (R ++ [x]) = ((n + 1 : Nat) : Int) := by
  obtain ⟨hl, hr, hw⟩ := goes_lim h
  rw [went_goes h]
  unfold totalK at ht ⊢
  rcases way_cases hr hw with ⟨h1, h2, h3, e⟩ | ⟨h1, h2, e⟩ | ⟨h1, k, p, h2, h3, h4, e⟩
  · rw [e]
    show ((sumO (R ++ [x]) (K.sg ++ [_]).length : Nat) : Int) + sumE K.ep 4 = _
    rw [sumO_saga (by omega) h2, List.length_append]
    show ((sumO R (K.sg.length + 1) + (if K.sg.length < K.sg.length + 1 then 1 else 0) : Nat) : Int) + _ = _
    rw [if_pos (by omega)]
    have : sumO R (K.sg.length + 1) = sumO R K.sg.length := by
      show sumO R K.sg.length + (onlyL R K.sg.length).length = _
      rw [hS.none _ (Nat.le_refl _)]; rfl
    omega
  · rw [e]
    show ((sumO (R ++ [x]) K.sg.length : Nat) : Int) + sumE (fun i => if i = x.part.toNat then x.epoch else K.ep i) 4 = _
    rw [sumO_rot h1, sumE_set (by have := right_part hr; omega), h2]
    omega
  · rw [e]
    show ((sumO (R ++ [x]) (K.sg.set k _).length : Nat) : Int) + sumE K.ep 4 = _
    have hkl := (List.getElem?_eq_some_iff.1 h3).1
    rw [sumO_saga (by omega) h2, List.length_set, if_pos hkl]
    omega
theorem stands_up {lim : Int} {l : List Rc} : ∀ (k : Nat), nOf lim zK (l.take k) = k → k ≤ l.length → Stands lim k (upK lim zK (l.take k)) (l.take k) ∧ totalK (upK lim zK (l.take k)) (l.take k) = k
  | 0, _, _ => ⟨⟨fun k p h => by simp [upK, zK] at h, fun k _ => rfl, fun k p h => by simp [upK, zK] at h⟩, rfl⟩
  | k + 1, h, hk => by
    have hx : l[k]? = some l[k] := List.getElem?_eq_getElem (by omega)
    have h1 : nOf lim zK (l.take k) = k := by
      have := nOf_take lim (l.take (k + 1)) zK k (by omega)
      rwa [List.take_take, Nat.min_eq_left (by omega)] at this
    obtain ⟨hS, ht⟩ := stands_up k h1 (by omega)
    have hg : goesK lim (upK lim zK (l.take k)) l[k] = true := by
      have := nOf_goes lim (l.take (k + 1)) zK k l[k] (by rw [List.getElem?_take_of_lt (by omega)]; exact hx) (by omega)
      rwa [List.take_take, Nat.min_eq_left (by omega)] at this
    have hR : l.take (k + 1) = l.take k ++ [l[k]] := by rw [List.take_add_one, hx]; rfl
    rw [upK_succ hx, hR]
    exact ⟨stands_step (good_up k h1 (by omega)) hS hg, total_step hS hg ht⟩
theorem stands_of (lim : Int) (l : List Rc) : Stands lim (nOf lim zK l) (bkOf lim l) (l.take (nOf lim zK l)) ∧ totalK (bkOf lim l) (l.take (nOf lim zK l)) = nOf lim zK l := stands_up _ (nOf_take lim l zK _ (Nat.le_refl _)) (nOf_le lim l zK)
end Go.Proofs.Ytilmeffmdgcblaa
/- The law BookApart, walked: a saga in a book stands as its own records make it. -/
namespace Go.Proofs.Ytilmeffmdgcblaa
open Go Go.RowKit
set_option maxRecDepth 8000
set_option linter.all false
set_option maxHeartbeats 8000000 in
theorem BookApart_walk (v : Value) (l : List Rc) (lim : Int) (w : World) (h : RdR w v l) : Calls Try.prog 4 #[v, .int .i64 lim] w fun e w' => e = .returned (.bool true) ∧ Below w.heap.size w w' := by
  have HV := Lib.hid h
  clear h
  go_enter Try.func4, Try.ntmps4
  go_upto_region 1 with fail
  have HB := Lib.hid (NewT.refl w)
  have HM := Lib.hid (NewT.refl w)
  refine wp_region_steps0 NewT [SV.eq (.bool true), SV.eq (.bool false)] [([], none), ([(13, some 0)], none)] 77 2 rfl rfl (by kernel_rfl) NewT.trans (NewT.refl _) (Nat.le_of_ble_eq_true rfl) ⟨?_, ?_, trivial⟩ ?_
  · exact fun a wx hT hF K hK => rely_wp rfl (opr_cv (alive12_c wx) rfl Try.func8 (by kernel_rfl) (by kernel_rfl) evs0 hK)
  · exact fun a wx hT hF K hK => rely_wp rfl (opr_not rfl hF.1 (hK _ _ (NewT.refl _) rfl))
  · intro w1 k1
    iterate 2 (intro u h; obtain rfl := Eq.symm (h (by simp)); clear h)
    refine relyEnd_nil rfl ?_
    refine wpList_end rfl ?_
    simp only [Act.put, List.setIfInBounds_toArray, List.set_cons_zero, List.set_cons_succ]
    go_simp
    replace HM := Lib.hid (NewT.trans _ _ _ HM.out k1)
    clear k1
    go_upto_region 3 with fail
    refine wp_region_steps0 NewT [SV.eq (v), SV.eq (.bool (greatL l))] [([(0, none)], none), ([(15, some 0)], none)] 77 2 rfl rfl (by kernel_rfl) NewT.trans (NewT.refl _) (Nat.le_of_ble_eq_true rfl) ⟨?_, ?_, trivial⟩ ?_
    · exact fun a wx hT hF K hK => rely_wp rfl (opr_move (.inl rfl) (hK _ _ (NewT.refl _) hF.1))
    · exact fun a wx hT hF K hK => rely_wp rfl (opr_cv (Great_cv _ l wx ((HV.out.new (NewT.trans _ _ _ HM.out hT)))) rfl Try.func9 (by kernel_rfl) (by kernel_rfl) (evs1 hF.1) hK)
    · intro w2 k2
      iterate 2 (intro u h; obtain rfl := Eq.symm (h (by simp)); clear h)
      refine relyEnd_nil rfl ?_
      refine wpList_end rfl ?_
      simp only [Act.put, List.setIfInBounds_toArray, List.set_cons_zero, List.set_cons_succ]
      go_simp
      replace HM := Lib.hid (NewT.trans _ _ _ HM.out k2)
      clear k2
      cases hq : greatL l
      rotate_left
      · clear hq
        go_wp2
        go_ret
        exact ⟨rfl, (NewT.trans _ _ _ HB.out HM.out).out⟩
      have HL150 := Lib.hid (great_not hq).1
      have HXL := Lib.hid (great_not hq).2
      have HNL : Hid (nOf lim zK l ≤ 150 ∧ nOf lim zK l ≤ l.length) := Lib.hid (by have h1 := nOf_le lim l zK; have h2 := (great_not hq).1; omega)
      have HGD := Lib.hid (good_of lim l)
      have HOK : Hid (OkK (bkOf lim l)) := Lib.hid (good_ok (good_of lim l) (by have h1 := nOf_le lim l zK; have h2 := (great_not hq).1; omega))
      clear hq
      have HST := Lib.hid (stands_of lim l).1
      obtain ⟨bk, hbk⟩ := hid_ex (bkOf lim l)
      obtain ⟨m, hm⟩ := hid_ex (nOf lim zK l)
      rw [hbk.out] at HOK HGD
      rw [hm.out] at HNL HGD
      rw [hbk.out, hm.out] at HST
      obtain ⟨R, hR⟩ := hid_ex (l.take m)
      rw [hR.out] at HST
      have HRL : Hid (R.length ≤ 150) := Lib.hid (by rw [← hR.out, List.length_take]; have := HL150.out; omega)
      have HRX : Hid (∀ y ∈ R, y.steps.length ≤ 30 ∧ y.data.length ≤ 300) := Lib.hid (fun y hy => HXL.out y (List.mem_of_mem_take (by rw [hR.out]; exact hy)))
      have HLN : Hid (bk.sg.length ≤ 12) := Lib.hid HGD.out.len.1
      go_upto_region 5 with fail
      refine wp_region_steps0 NewT [SV.eq (v), SV.eq (.int .i64 (lim)), svBkRB 0 (bk) (.int .i64 ((m : Int))), svBkRB 0 (bk) (.int .i64 ((m : Int))), svBkB (0) bk, SV.eq (.int .i64 ((m : Int)))] [([(0, none)], none), ([(1, none)], none), ([(18, some 0), (19, some 1)], none), ([(20, some 2)], none), ([(17, some 3)], none), ([(17, some 3)], none)] 77 6 rfl rfl (by kernel_rfl) NewT.trans (NewT.refl _) (Nat.le_of_ble_eq_true rfl) ⟨?_, ?_, ?_, ?_, ?_, ?_, trivial⟩ ?_
      · exact fun a wx hT hF K hK => rely_wp rfl (opr_move (.inl rfl) (hK _ _ (NewT.refl _) hF.1))
      · exact fun a wx hT hF K hK => rely_wp rfl (opr_move (.inl rfl) (hK _ _ (NewT.refl _) hF.1))
      · exact fun a wx hT hF K hK => rely_wp rfl (opr_cv (svBkRB_le (Of_cv _ l lim wx ((HV.out.new (NewT.trans _ _ _ HM.out hT))) (by have := HL150.out; omega)) (hbk.out) (by rw [hm.out])) rfl Try.func10 (by kernel_rfl) (by kernel_rfl) (evs2 hF.1 hF.2.1) hK)
      · exact fun a wx hT hF K hK => rely_wp rfl (opr_move (.inl rfl) (hK _ _ (NewT.refl _) hF.1))
      · exact fun a wx hT hF K hK => rely_wp rfl (opr_extKB0 rfl hF.1 (fun u hu => hK u _ (NewT.refl _) hu))
      · exact fun a wx hT hF K hK => rely_wp rfl (opr_extKB1 rfl hF.1 (hK _ _ (NewT.refl _) rfl))
      · intro w3 k3
        iterate 2 (intro u h; obtain rfl := Eq.symm (h (by simp)); clear h)
        iterate 2 (intro _ _)
        intro u21 h; have g21 := h (by simp); clear h; replace g21 := show (svBkB (0) bk).pred u21 w3 from g21
        intro u h; obtain rfl := Eq.symm (h (by simp)); clear h
        refine relyEnd_nil rfl ?_
        simp only [Act.put, List.setIfInBounds_toArray, List.set_cons_zero, List.set_cons_succ]
        obtain ⟨s5, rfl, hs5⟩ := (show BkVB w3 (0) u21 bk from g21)
        refine wpList_new (n := 5) (f := bkF bk.ep s5) rfl rfl rfl rfl rfl rfl (by first | (simp; done) | simp [Act.put]) run_alloc_book info_book (bkF_one _ _ hs5.rd.one) rfl ?_
        intro W3 hn3 rr3
        simp only [Act.put, List.setIfInBounds_toArray, List.set_cons_zero, List.set_cons_succ]
        refine wpList_plain rfl (fun K hK => ?_)
        refine opr_move (.inr rfl) (hK _ _ ?_)
        clear hK K
        refine wpList_end rfl ?_
        simp only [Act.put, List.setIfInBounds_toArray, List.set_cons_zero, List.set_cons_succ]
        go_simp
        obtain ⟨g5, h_g5⟩ : ∃ g_, w3.heap.size = g_ := ⟨_, rfl⟩
        rw [h_g5] at rr3
        simp only [h_g5]
        have HGg5 : Hid (w.heap.size ≤ g5) := Lib.hid (by rw [← h_g5]; exact (NewT.trans _ _ _ HM.out k3).out.size)
        have q3 := NewT.trans _ _ _ k3 hn3
        have HS5 := Lib.hid (hs5.new hn3)
        clear hs5
        clear k3 hn3 h_g5
        replace HM := Lib.hid (NewT.trans _ _ _ HM.out q3)
        clear q3
        have Rg5 := Lib.hid rr3
        clear rr3
        replace HV := Lib.hid (HV.out.new HM.out)
        replace HB := Lib.hid (NewT.trans _ _ _ HB.out HM.out)
        replace HM := Lib.hid (NewT.refl W3)
        go_wp2
        go_loopw [7] (fun i wr => ∃ k : Nat, k ≤ bk.sg.length ∧ i = .int .i64 (k : Int) ∧ Hid (NewT W3 wr) ∧ Hid (wr.rowIs g5 28 5 (bkF bk.ep s5))) (fun i _ => bk.sg.length - (intOf i).toNat)
        case atStart => exact ⟨0, by omega, rfl, HM, Rg5⟩
        case round =>
          clear HM Rg5
          obtain ⟨k, hk, rfl, HM, Rg5⟩ := hrel
          have hln := HLN.out
          by_cases hlt : k < bk.sg.length
          rotate_left
          · obtain rfl : k = bk.sg.length := by omega
            go_upto_region 7 with fail
            refine wp_region_steps0 NewT [SV.eq (.int .i64 ((bk.sg.length : Int))), SV.eq (.pointer (some ⟨g5, 4, none⟩)), SV.eq (s5), SV.eq (.int .i64 ((List.length (bk.sg) : Int))), SV.eq (.bool (decide (((bk.sg.length : Int)) < ((List.length (bk.sg) : Int)))))] [([(7, none)], none), ([(5, none)], none), ([(24, some 1)], none), ([(25, some 2)], none), ([(23, some 0), (26, some 3)], none)] 77 5 rfl rfl (by kernel_rfl) NewT.trans (NewT.refl _) (Nat.le_of_ble_eq_true rfl) ⟨?_, ?_, ?_, ?_, ?_, trivial⟩ ?_
            · exact fun a wx hT hF K hK => rely_wp rfl (opr_move (.inl rfl) (hK _ _ (NewT.refl _) hF.1))
            · exact fun a wx hT hF K hK => rely_wp rfl (opr_fldK1 rfl hF.1 (hK _ _ (NewT.refl _) rfl))
            · exact fun a wx hT hF K hK => rely_wp rfl (opr_ldUs (hT.row Rg5.out) (by decide) rfl rfl hF.1 (hK _ _ (NewT.refl _) rfl))
            · intro a wx hT hF K hK
              obtain ⟨f25, _⟩ := hF
              have f25 : a.tmps.getD 25 undef = s5 := f25
              refine rely_wp rfl ?_
              exact opr_lenL rfl sagaEl (by rw [eval_tmp, f25]; exact (HS5.out.new (NewT.trans _ _ _ HM.out hT)).rd) (hK _ _ (NewT.refl _) rfl)
            · exact fun a wx hT hF K hK => rely_wp rfl (opr_cmp (b := decide (((bk.sg.length : Int)) < ((List.length (bk.sg) : Int)))) (.inr (.inr (.inr (.inl ⟨rfl, rfl⟩)))) Try.underlying3 rfl hF.1 hF.2.1 (hK _ _ (NewT.refl _) rfl))
            · intro w4 k4
              iterate 5 (intro u h; obtain rfl := Eq.symm (h (by simp)); clear h)
              refine relyEnd_nil rfl ?_
              refine wpList_end rfl ?_
              simp only [Act.put, List.setIfInBounds_toArray, List.set_cons_zero, List.set_cons_succ]
              go_simp
              replace Rg5 := Lib.hid (k4.row Rg5.out)
              replace HM := Lib.hid (NewT.trans _ _ _ HM.out k4)
              clear k4
              go_wp2
              go_ret
              exact ⟨rfl, (NewT.trans _ _ _ HB.out HM.out).out⟩
          obtain ⟨p, hp⟩ : ∃ p, bk.sg[k]? = some p := ⟨_, List.getElem?_eq_getElem hlt⟩
          have HPP := Lib.hid hp
          have it : (k : Int) < (bk.sg.length : Int) := by omega
          have HIT := Lib.hid it
          obtain ⟨x0, xs, e1, e2, e3, e4, e5, e6⟩ := HST.out.apart k p hp
          obtain ⟨own, ho⟩ := hid_ex (onlyL R k)
          rw [ho.out] at e1
          have HOW := Lib.hid e1
          have HXK := Lib.hid e2
          have HXS := Lib.hid e3
          have HGE := Lib.hid e4
          have HGO := Lib.hid e5
          have HGG := Lib.hid e6
          have HOL : Hid (own.length = xs.length + 1 ∧ own.length ≤ 150) := Lib.hid (by rw [e1]; refine ⟨rfl, ?_⟩; rw [← e1, ← ho.out]; have h1 : (onlyL R k).length ≤ R.length := List.length_filter_le _ _; have h2 := HRL.out; omega)
          have HMY : Hid (mayL p.1 = true) := Lib.hid (HGD.out.sg p (List.mem_of_getElem? hp)).1
          have H0 : Hid (own[0]? = some x0) := Lib.hid (by rw [e1]; rfl)
          clear hp hlt e1 e2 e3 e4 e5 e6
          go_upto_region 7 with fail
          refine wp_region_steps0 NewT [SV.eq (.int .i64 ((k : Int))), SV.eq (.pointer (some ⟨g5, 4, none⟩)), SV.eq (s5), SV.eq (.int .i64 ((List.length (bk.sg) : Int))), SV.eq (.bool (decide (((k : Int)) < ((List.length (bk.sg) : Int)))))] [([(7, none)], none), ([(5, none)], none), ([(24, some 1)], none), ([(25, some 2)], none), ([(23, some 0), (26, some 3)], none)] 77 5 rfl rfl (by kernel_rfl) NewT.trans (NewT.refl _) (Nat.le_of_ble_eq_true rfl) ⟨?_, ?_, ?_, ?_, ?_, trivial⟩ ?_
          · exact fun a wx hT hF K hK => rely_wp rfl (opr_move (.inl rfl) (hK _ _ (NewT.refl _) hF.1))
          · exact fun a wx hT hF K hK => rely_wp rfl (opr_fldK1 rfl hF.1 (hK _ _ (NewT.refl _) rfl))
          · exact fun a wx hT hF K hK => rely_wp rfl (opr_ldUs (hT.row Rg5.out) (by decide) rfl rfl hF.1 (hK _ _ (NewT.refl _) rfl))
          · intro a wx hT hF K hK
            obtain ⟨f25, _⟩ := hF
            have f25 : a.tmps.getD 25 undef = s5 := f25
            refine rely_wp rfl ?_
            exact opr_lenL rfl sagaEl (by rw [eval_tmp, f25]; exact (HS5.out.new (NewT.trans _ _ _ HM.out hT)).rd) (hK _ _ (NewT.refl _) rfl)
          · exact fun a wx hT hF K hK => rely_wp rfl (opr_cmp (b := decide (((k : Int)) < ((List.length (bk.sg) : Int)))) (.inr (.inr (.inr (.inl ⟨rfl, rfl⟩)))) Try.underlying3 rfl hF.1 hF.2.1 (hK _ _ (NewT.refl _) rfl))
          · intro w5 k5
            iterate 5 (intro u h; obtain rfl := Eq.symm (h (by simp)); clear h)
            refine relyEnd_nil rfl ?_
            refine wpList_end rfl ?_
            simp only [Act.put, List.setIfInBounds_toArray, List.set_cons_zero, List.set_cons_succ]
            go_simp
            replace Rg5 := Lib.hid (k5.row Rg5.out)
            replace HM := Lib.hid (NewT.trans _ _ _ HM.out k5)
            clear k5
            go_upto_region 9 with fail
            refine wp_region_steps0 NewT [SV.eq (v), SV.eq (.int .i64 ((m : Int))), svL 109 rcE (List.take m l), SV.eq (.int .i64 ((k : Int))), svL 109 rcE own, svL 109 rcE own] [([(0, none)], none), ([(6, none)], none), ([(30, some 0), (31, some 1)], none), ([(7, none)], none), ([(32, some 2), (33, some 3)], none), ([(34, some 4)], none)] 77 6 rfl rfl (by kernel_rfl) NewT.trans (NewT.refl _) (Nat.le_of_ble_eq_true rfl) ⟨?_, ?_, ?_, ?_, ?_, ?_, trivial⟩ ?_
            · exact fun a wx hT hF K hK => rely_wp rfl (opr_move (.inl rfl) (hK _ _ (NewT.refl _) hF.1))
            · exact fun a wx hT hF K hK => rely_wp rfl (opr_move (.inl rfl) (hK _ _ (NewT.refl _) hF.1))
            · intro a wx hT hF K hK
              obtain ⟨f30, f31, _⟩ := hF
              have f30 : a.tmps.getD 30 undef = v := f30
              have f31 : a.tmps.getD 31 undef = .int .i64 ((m : Int)) := f31
              refine rely_wp rfl ?_
              exact opr_toL (k := m) recEl (by have := HNL.out; omega) (rfl) rfl (by rw [eval_tmp, f30]; exact (HV.out.new (NewT.trans _ _ _ HM.out hT))) f31 (fun v hv => hK v _ (NewT.refl _) hv)
            · exact fun a wx hT hF K hK => rely_wp rfl (opr_move (.inl rfl) (hK _ _ (NewT.refl _) hF.1))
            · exact fun a wx hT hF K hK => rely_wp rfl (opr_cv ((show Cv _ _ _ (svL 109 rcE own) from ho.out ▸ Only_cv _ R (k : Int) wx (hR.out ▸ hF.1) (by have := HRL.out; omega) HRX.out)) rfl Try.func19 (by kernel_rfl) (by kernel_rfl) (evs2 rfl hF.2.1) hK)
            · exact fun a wx hT hF K hK => rely_wp rfl (opr_move (.inr rfl) (hK _ _ (NewT.refl _) hF.1))
            · intro w6 k6
              iterate 2 (intro u h; obtain rfl := Eq.symm (h (by simp)); clear h)
              intro _ _
              intro u h; obtain rfl := Eq.symm (h (by simp)); clear h
              intro _ _
              intro u8 h; have g8 := h (by simp); clear h; replace g8 := show (svL 109 rcE own).pred u8 w6 from g8
              refine relyEnd_nil rfl ?_
              refine wpList_end rfl ?_
              simp only [Act.put, List.setIfInBounds_toArray, List.set_cons_zero, List.set_cons_succ]
              go_simp
              replace Rg5 := Lib.hid (k6.row Rg5.out)
              replace HM := Lib.hid (NewT.trans _ _ _ HM.out k6)
              clear k6
              have HOV : Hid (RdR w6 u8 own) := Lib.hid g8
              have HB2 := HM
              replace HM := Lib.hid (NewT.refl w6)
              have HS6 := Lib.hid (HS5.out.new HB2.out)
              go_upto_region 10 with fail
              refine wp_region_steps0 NewT [SV.eq (u8), SV.eq (.int .i64 ((List.length (own) : Int))), SV.eq (.bool false), SV.eq (.bool false), SV.eq (u8), svEl 109 rcE (x0), svIp (x0.kind), SV.eq (.int .i64 (x0.kind)), SV.eq (.bool false), SV.eq (.bool false)] [([(8, none)], none), ([(35, some 0)], none), ([(36, some 1)], none), ([(37, some 2)], none), ([(8, none), (38, some 3)], some (38, false)), ([(39, some 4), (38, some 3)], some (38, false)), ([(40, some 5), (38, some 3)], some (38, false)), ([(41, some 6), (38, some 3)], some (38, false)), ([(42, some 7), (38, some 3)], some (38, false)), ([(38, some 3), (43, some 8)], none)] 77 10 rfl rfl (by kernel_rfl) NewT.trans (NewT.refl _) (Nat.le_of_ble_eq_true rfl) ⟨?_, ?_, ?_, ?_, ?_, ?_, ?_, ?_, ?_, ?_, trivial⟩ ?_
              · exact fun a wx hT hF K hK => rely_wp rfl (opr_move (.inl rfl) (hK _ _ (NewT.refl _) hF.1))
              · intro a wx hT hF K hK
                obtain ⟨f35, _⟩ := hF
                have f35 : a.tmps.getD 35 undef = u8 := f35
                refine rely_wp rfl ?_
                exact opr_lenL rfl recEl (by rw [eval_tmp, f35]; exact (HOV.out.new (NewT.trans _ _ _ HM.out hT))) (hK _ _ (NewT.refl _) rfl)
              · exact fun a wx hT hF K hK => rely_wp rfl (opr_cmp (b := false) (.inl ⟨rfl, (by have := HOL.out; simpa using (show ¬ ((own.length : Int) = 0) by omega))⟩) Try.underlying3 rfl hF.1 rfl (hK _ _ (NewT.refl _) rfl))
              · exact fun a wx hT hF K hK => rely_wp rfl (opr_move (.inl rfl) (hK _ _ (NewT.refl _) hF.1))
              · exact fun a wx hT hF K hK => rely_wp (rely_guard hF.2.1) (opr_move (.inl rfl) (hK _ _ (NewT.refl _) hF.1))
              · intro a wx hT hF K hK
                obtain ⟨f39, f38, _⟩ := hF
                have f39 : a.tmps.getD 39 undef = u8 := f39
                have f38 : a.tmps.getD 38 undef = .bool false := f38
                refine rely_wp (rely_guard f38) ?_
                exact opr_idxL (i := 0) (p := x0) recEl (H0.out) (rfl) rfl (by rw [eval_tmp, f39]; exact (HOV.out.new (NewT.trans _ _ _ HM.out hT))) rfl (fun v hv => hK v _ (NewT.refl _) hv)
              · exact fun a wx hT hF K hK => rely_wp (rely_guard hF.2.1) (opr_fldRe0 rfl hF.1 (fun u hu => hK u _ (NewT.refl _) hu))
              · exact fun a wx hT hF K hK => rely_wp (rely_guard hF.2.1) (opr_ldIp rfl hF.1 (hK _ _ (NewT.refl _) rfl))
              · exact fun a wx hT hF K hK => rely_wp (rely_guard hF.2.1) (opr_cmp (b := false) (.inr (.inl ⟨rfl, (by rw [HXK.out]; rfl)⟩)) Try.underlying3 rfl hF.1 rfl (hK _ _ (NewT.refl _) rfl))
              · exact fun a wx hT hF K hK => rely_wp rfl (opr_pick_false rfl hF.1 (hK _ _ (NewT.refl _) hF.2.1))
              · intro w7 k7
                iterate 5 (intro u h; obtain rfl := Eq.symm (h (by simp)); clear h)
                iterate 2 (intro _ _)
                iterate 3 (intro u h; obtain rfl := Eq.symm (h (by simp)); clear h)
                refine relyEnd_nil rfl ?_
                refine wpList_end rfl ?_
                simp only [Act.put, List.setIfInBounds_toArray, List.set_cons_zero, List.set_cons_succ]
                go_simp
                replace Rg5 := Lib.hid (k7.row Rg5.out)
                replace HM := Lib.hid (NewT.trans _ _ _ HM.out k7)
                clear k7
                have HNW : Hid (svSgN 0 (newL p.1) (newG p.1) = svSgN 0 p.1 (ofSt st0 1)) := Lib.hid (by unfold newL newG; rw [if_pos HMY.out, if_pos HMY.out])
                go_upto_region 12 with fail
                refine wp_region_steps0 NewT [SV.eq (u8), svEl 109 rcE (x0), svStsP (x0.steps), svPairs (x0.steps), svSgN 0 p.1 (ofSt st0 1)] [([(8, none)], none), ([(45, some 0)], none), ([(46, some 1)], none), ([(47, some 2)], none), ([(48, some 3)], none)] 77 5 rfl rfl (by kernel_rfl) NewT.trans (NewT.refl _) (Nat.le_of_ble_eq_true rfl) ⟨?_, ?_, ?_, ?_, ?_, trivial⟩ ?_
                · exact fun a wx hT hF K hK => rely_wp rfl (opr_move (.inl rfl) (hK _ _ (NewT.refl _) hF.1))
                · intro a wx hT hF K hK
                  obtain ⟨f45, _⟩ := hF
                  have f45 : a.tmps.getD 45 undef = u8 := f45
                  refine rely_wp rfl ?_
                  exact opr_idxL (i := 0) (p := x0) recEl (H0.out) (rfl) rfl (by rw [eval_tmp, f45]; exact (HOV.out.new (NewT.trans _ _ _ HM.out hT))) rfl (fun v hv => hK v _ (NewT.refl _) hv)
                · exact fun a wx hT hF K hK => rely_wp rfl (opr_fldRe11 rfl hF.1 (fun u hu => hK u _ (NewT.refl _) hu))
                · exact fun a wx hT hF K hK => rely_wp rfl (opr_ldSts rfl hF.1 (fun u hu => hK u _ (NewT.refl _) hu))
                · exact fun a wx hT hF K hK => rely_wp rfl (opr_cv ((show Cv _ _ _ (svSgN 0 p.1 (ofSt st0 1)) from HNW.out ▸ gNew_cvB _ p.1 0 wx (Nat.zero_le _) (HXS.out ▸ hF.1))) rfl Try.func21 (by kernel_rfl) (by kernel_rfl) (evs1 rfl) hK)
                · intro w8 k8
                  intro u h; obtain rfl := Eq.symm (h (by simp)); clear h
                  iterate 3 (intro _ _)
                  intro u49 h; have g49 := h (by simp); clear h; replace g49 := show (svSgN 0 p.1 (ofSt st0 1)).pred u49 w8 from g49
                  refine relyEnd_nil rfl ?_
                  simp only [Act.put, List.setIfInBounds_toArray, List.set_cons_zero, List.set_cons_succ]
                  obtain ⟨sv, rfl, hsv⟩ := (show SgVN w8 0 u49 p.1 (ofSt st0 1) from g49)
                  refine wpList_new (n := 10) (f := sgF sv (ofSt st0 1)) rfl rfl rfl rfl rfl rfl (by first | (simp; done) | simp [Act.put]) run_alloc_saga info_saga (sgF_one _ _ (oneP hsv.1)) rfl ?_
                  intro W8 hn8 rr8
                  refine wpList_end rfl ?_
                  simp only [Act.put, List.setIfInBounds_toArray, List.set_cons_zero, List.set_cons_succ]
                  go_simp
                  obtain ⟨g9, h_g9⟩ : ∃ g_, w8.heap.size = g_ := ⟨_, rfl⟩
                  rw [h_g9] at rr8
                  simp only [h_g9]
                  have HSV : Hid (RdP w8 sv p.1) := Lib.hid hsv.1
                  have HG9 : Hid (g5 < g9 ∧ w8.heap.size ≤ g9) := Lib.hid (by rw [← h_g9]; exact ⟨(k8.row Rg5.out).lt, Nat.le_refl _⟩)
                  replace HOV := Lib.hid (HOV.out.new (NewT.trans _ _ _ HM.out k8))
                  replace HS6 := Lib.hid (HS6.out.new (NewT.trans _ _ _ HM.out k8))
                  replace HB2 := Lib.hid (NewT.trans _ _ _ HB2.out (NewT.trans _ _ _ HM.out k8))
                  replace Rg5 := Lib.hid (hn8.row (k8.row Rg5.out))
                  replace HM := Lib.hid hn8
                  have Rg9 : Hid (W8.rowIs g9 48 10 (sgF sv (gN lim p.1 xs 0))) := Lib.hid rr8
                  clear hsv rr8 k8 hn8 h_g9
                  go_wp2
                  go_loopw [10] (fun i wr => ∃ j : Nat, j ≤ xs.length ∧ i = .int .i64 ((j : Int) + 1) ∧ Hid (NewT w8 wr) ∧ Hid (wr.rowIs g5 28 5 (bkF bk.ep s5)) ∧ Hid (wr.rowIs g9 48 10 (sgF sv (gN lim p.1 xs j)))) (fun i _ => own.length - (intOf i).toNat)
                  case atStart => exact ⟨0, by omega, rfl, HM, Rg5, Rg9⟩
                  case round =>
                    clear HM Rg5 Rg9
                    obtain ⟨j, hj, rfl, HM, Rg5, Rg9⟩ := hrel
                    have hol := HOL.out
                    by_cases hlt : j < xs.length
                    rotate_left
                    · obtain rfl : j = xs.length := by omega
                      rw [HGE.out] at Rg9
                      go_upto_region 14 with fail
                      refine wp_region_steps0 NewT [SV.eq (.int .i64 (((xs.length : Int) + 1))), SV.eq (u8), SV.eq (.int .i64 ((List.length (own) : Int))), SV.eq (.bool false)] [([(10, none)], none), ([(8, none)], none), ([(51, some 1)], none), ([(50, some 0), (52, some 2)], none)] 77 4 rfl rfl (by kernel_rfl) NewT.trans (NewT.refl _) (Nat.le_of_ble_eq_true rfl) ⟨?_, ?_, ?_, ?_, trivial⟩ ?_
                      · exact fun a wx hT hF K hK => rely_wp rfl (opr_move (.inl rfl) (hK _ _ (NewT.refl _) hF.1))
                      · exact fun a wx hT hF K hK => rely_wp rfl (opr_move (.inl rfl) (hK _ _ (NewT.refl _) hF.1))
                      · intro a wx hT hF K hK
                        obtain ⟨f51, _⟩ := hF
                        have f51 : a.tmps.getD 51 undef = u8 := f51
                        refine rely_wp rfl ?_
                        exact opr_lenL rfl recEl (by rw [eval_tmp, f51]; exact (HOV.out.new (NewT.trans _ _ _ HM.out hT))) (hK _ _ (NewT.refl _) rfl)
                      · exact fun a wx hT hF K hK => rely_wp rfl (opr_cmp (b := false) (.inr (.inr (.inr (.inl ⟨rfl, (by have := HOL.out; exact decide_eq_false (by omega))⟩)))) Try.underlying3 rfl hF.1 hF.2.1 (hK _ _ (NewT.refl _) rfl))
                      · intro w9 k9
                        iterate 4 (intro u h; obtain rfl := Eq.symm (h (by simp)); clear h)
                        refine relyEnd_nil rfl ?_
                        refine wpList_end rfl ?_
                        simp only [Act.put, List.setIfInBounds_toArray, List.set_cons_zero, List.set_cons_succ]
                        go_simp
                        replace Rg5 := Lib.hid (k9.row Rg5.out)
                        replace Rg9 := Lib.hid (k9.row Rg9.out)
                        replace HM := Lib.hid (NewT.trans _ _ _ HM.out k9)
                        clear k9
                        go_upto_region 20 with fail
                        refine wp_region_rely (NewT) [SV.eq (.agg (rowA 10 (sgF sv p.2))), SV.eq (.pointer (some ⟨g5, 4, none⟩)), SV.eq (s5), SV.eq (.int .i64 ((k : Int))), svEl 10 sgE (p), svSg p.1 p.2, SV.eq (.bool true)] [([(9, none)], none), ([(5, none)], none), ([(70, some 1)], none), ([(7, none)], none), ([(71, some 2), (72, some 3)], none), ([(73, some 4)], none), ([(69, some 0), (74, some 5)], none)] 77 rfl (by kernel_rfl) rfl (by kernel_rfl) (by kernel_rfl) rfl NewT.trans (NewT.drew _) (Nat.le_of_ble_eq_true rfl) ⟨?_, ?_, ?_, ?_, ?_, ?_, ?_, trivial⟩ ?_
                        · exact fun a wx hT hF K hK => rely_wp rfl (opr_ldU (hT.row Rg9.out) rfl hF.1 (hK _ _ (NewT.refl _) rfl))
                        · exact fun a wx hT hF K hK => rely_wp rfl (opr_fldK1 rfl hF.1 (hK _ _ (NewT.refl _) rfl))
                        · exact fun a wx hT hF K hK => rely_wp rfl (opr_ldUs (hT.row Rg5.out) (by decide) rfl rfl hF.1 (hK _ _ (NewT.refl _) rfl))
                        · exact fun a wx hT hF K hK => rely_wp rfl (opr_move (.inl rfl) (hK _ _ (NewT.refl _) hF.1))
                        · intro a wx hT hF K hK
                          obtain ⟨f71, f72, _⟩ := hF
                          have f71 : a.tmps.getD 71 undef = s5 := f71
                          have f72 : a.tmps.getD 72 undef = .int .i64 ((k : Int)) := f72
                          refine rely_wp rfl ?_
                          exact opr_idxL (i := k) (p := p) sagaEl (HPP.out) (rfl) rfl (by rw [eval_tmp, f71]; exact (HS6.out.new (NewT.trans _ _ _ HM.out hT)).rd) f72 (fun v hv => hK v _ (NewT.refl _) hv)
                        · exact fun a wx hT hF K hK => rely_wp rfl (opr_ldUg rfl hF.1 (fun u hu => hK u _ (NewT.refl _) hu))
                        · exact fun a wx hT hF K hK => rely_wp rfl (opr_cv ((sameG_self p.1 p.2) ▸ rSameU_cv _ _ p.1 p.1 p.2 p.2 wx (⟨sv, rfl, ((NewT.trans _ _ _ HM.out hT).pairs HSV.out)⟩ : SgV wx _ p.1 p.2) hF.2.1) rfl Try.func23 (by kernel_rfl) (by kernel_rfl) (evs2 hF.1 rfl) hK)
                        · intro w10 k10
                          iterate 4 (intro u h; obtain rfl := Eq.symm (h (by simp)); clear h)
                          iterate 2 (intro _ _)
                          intro u h; obtain rfl := Eq.symm (h (by simp)); clear h
                          refine relyEnd_nil rfl ?_
                          simp only [Act.put, List.setIfInBounds_toArray, List.set_cons_zero, List.set_cons_succ]
                          refine opr_not rfl rfl ?_
                          go_simp
                          replace Rg5 := Lib.hid (k10.row Rg5.out)
                          replace Rg9 := Lib.hid (k10.row Rg9.out)
                          replace HM := Lib.hid (NewT.trans _ _ _ HM.out k10)
                          clear k10
                          have hBM := NewT.trans _ _ _ HB2.out HM.out
                          have it2 := HIT.out
                          go_wp2
                          go_roundw
                          case rel => exact ⟨k + 1, by omega, by go_num, Lib.hid hBM, by first | exact Rg5 | trivial⟩
                          case measure => simp [intOf]; omega
                    obtain ⟨x, hx⟩ : ∃ x, xs[j]? = some x := ⟨_, List.getElem?_eq_getElem hlt⟩
                    have HXJ : Hid (own[j + 1]? = some x) := Lib.hid (by rw [HOW.out]; simpa using hx)
                    have HGJ : Hid (goesB p.1 lim (gN lim p.1 xs j) x = true) := Lib.hid (HGO.out j x hx)
                    have HNX : Hid (gN lim p.1 xs (j + 1) = wentG p.1 lim (gN lim p.1 xs j) x) := Lib.hid (gN_succ hx)
                    obtain ⟨gj, hgj⟩ : ∃ g_, gN lim p.1 xs j = g_ := ⟨_, rfl⟩
                    have HOKG : Hid (OkG p.1 gj) := Lib.hid (by
                      obtain ⟨h1, s_, q, h2, h3, h4, h5⟩ := HGG.out j hj
                      rw [← hgj]
                      have hpos : 0 < bk.sg.length := by omega
                      have hlm := HGD.out.limOk
                      have hln := HGD.out.len
                      have hnl := HNL.out
                      have h2' : gN lim p.1 xs j = ofSt s_ (q : Int) := h2
                      rw [h2']
                      exact ok_st h1 h3 (by omega) (by omega))
                    rw [hgj] at HGJ HNX Rg9
                    have HJL := Lib.hid hlt
                    have it : ((j : Int) + 1) < (own.length : Int) := by omega
                    have HI2 := Lib.hid it
                    clear hx hlt hgj
                    go_upto_region 14 with fail
                    refine wp_region_steps0 NewT [SV.eq (.int .i64 (((j : Int) + 1))), SV.eq (u8), SV.eq (.int .i64 ((List.length (own) : Int))), SV.eq (.bool true)] [([(10, none)], none), ([(8, none)], none), ([(51, some 1)], none), ([(50, some 0), (52, some 2)], none)] 77 4 rfl rfl (by kernel_rfl) NewT.trans (NewT.refl _) (Nat.le_of_ble_eq_true rfl) ⟨?_, ?_, ?_, ?_, trivial⟩ ?_
                    · exact fun a wx hT hF K hK => rely_wp rfl (opr_move (.inl rfl) (hK _ _ (NewT.refl _) hF.1))
                    · exact fun a wx hT hF K hK => rely_wp rfl (opr_move (.inl rfl) (hK _ _ (NewT.refl _) hF.1))
                    · intro a wx hT hF K hK
                      obtain ⟨f51, _⟩ := hF
                      have f51 : a.tmps.getD 51 undef = u8 := f51
                      refine rely_wp rfl ?_
                      exact opr_lenL rfl recEl (by rw [eval_tmp, f51]; exact (HOV.out.new (NewT.trans _ _ _ HM.out hT))) (hK _ _ (NewT.refl _) rfl)
                    · exact fun a wx hT hF K hK => rely_wp rfl (opr_cmp (b := true) (.inr (.inr (.inr (.inl ⟨rfl, (by have := HI2.out; exact decide_eq_true this)⟩)))) Try.underlying3 rfl hF.1 hF.2.1 (hK _ _ (NewT.refl _) rfl))
                    · intro w11 k11
                      iterate 4 (intro u h; obtain rfl := Eq.symm (h (by simp)); clear h)
                      refine relyEnd_nil rfl ?_
                      refine wpList_end rfl ?_
                      simp only [Act.put, List.setIfInBounds_toArray, List.set_cons_zero, List.set_cons_succ]
                      go_simp
                      replace Rg5 := Lib.hid (k11.row Rg5.out)
                      replace Rg9 := Lib.hid (k11.row Rg9.out)
                      replace HM := Lib.hid (NewT.trans _ _ _ HM.out k11)
                      clear k11
                      go_upto_region 16 with fail
                      refine wp_region_relyA0 (BelT w11) (JV 11 w11 48 10 (sgF (.slice none 0 0) zG) (fun _ F => F = sgF sv ((wentG p.1 lim gj x)))) [SV.eq (.agg (rowA 10 (sgF sv gj))), SV.eq (u8), SV.eq (.int .i64 (((j : Int) + 1))), svAt w11 (svEl 109 rcE x), svAt w11 (svRec x), SV.eq (.int .i64 (lim)), SV.eq ((.tuple #[.agg (rowA 10 (sgF sv (wentG p.1 lim gj x))), .bool (goesB p.1 lim gj x)])), SV.eq ((.tuple #[.agg (rowA 10 (sgF sv (wentG p.1 lim gj x))), .bool (goesB p.1 lim gj x)])), SV.eq ((.agg (rowA 10 (sgF sv (wentG p.1 lim gj x))))), SV.eq (.bool (goesB p.1 lim gj x)), svPtV, SV.any] [([(9, none)], none), ([(8, none)], none), ([(10, none)], none), ([(58, some 1), (59, some 2)], none), ([(60, some 3)], none), ([(1, none)], none), ([(57, some 0), (61, some 4), (62, some 5)], none), ([(63, some 6)], none), ([(56, some 7)], none), ([(56, some 7)], none), ([], none), ([(11, some 10), (64, some 8)], none)] [none, none, none, none, none, none, none, none, none, none, some 0, some 1] [10, 11] 77 rfl (by kernel_rfl) rfl (by kernel_rfl) (by kernel_rfl) rfl (by kernel_rfl) (BelT.trans w11) (BelT.drew w11 _) (.inl rfl) (Nat.le_of_ble_eq_true rfl) ⟨?_, ?_, ?_, ?_, ?_, ?_, ?_, ?_, ?_, ?_, ?_, ?_, trivial⟩ ?_
                      · intro a wx hT hF K hK
                        replace hT : NewT w11 wx := hT
                        replace hK := fun v w' (hN : NewT wx w') hv => hK v w' (BelT.new hT hN) (fun k h => JV.keep h (by simp) hN (fun F h => h)) hv
                        obtain ⟨f9, _⟩ := hF
                        have f9 : a.tmps.getD 9 undef = .pointer (some ⟨g9, 0, none⟩) := f9
                        refine rely_wp rfl ?_
                        exact opr_ldU (hT.row Rg9.out) rfl f9 (hK _ _ (NewT.refl _) rfl)
                      · intro a wx hT hF K hK
                        replace hT : NewT w11 wx := hT
                        replace hK := fun v w' (hN : NewT wx w') hv => hK v w' (BelT.new hT hN) (fun k h => JV.keep h (by simp) hN (fun F h => h)) hv
                        obtain ⟨f8, _⟩ := hF
                        have f8 : a.tmps.getD 8 undef = u8 := f8
                        refine rely_wp rfl ?_
                        exact opr_move (.inl rfl) (hK _ _ (NewT.refl _) f8)
                      · intro a wx hT hF K hK
                        replace hT : NewT w11 wx := hT
                        replace hK := fun v w' (hN : NewT wx w') hv => hK v w' (BelT.new hT hN) (fun k h => JV.keep h (by simp) hN (fun F h => h)) hv
                        obtain ⟨f10, _⟩ := hF
                        have f10 : a.tmps.getD 10 undef = .int .i64 (((j : Int) + 1)) := f10
                        refine rely_wp rfl ?_
                        exact opr_move (.inl rfl) (hK _ _ (NewT.refl _) f10)
                      · intro a wx hT hF K hK
                        replace hT : NewT w11 wx := hT
                        replace hK := fun v w' (hN : NewT wx w') hv => hK v w' (BelT.new hT hN) (fun k h => JV.keep h (by simp) hN (fun F h => h)) hv
                        obtain ⟨f58, f59, _⟩ := hF
                        have f58 : a.tmps.getD 58 undef = u8 := f58
                        have f59 : a.tmps.getD 59 undef = .int .i64 (((j : Int) + 1)) := f59
                        refine rely_wp rfl ?_
                        exact opr_idxLW (W := w11) recEl HXJ.out (by omega) rfl (by rw [eval_tmp, f58]; exact HOV.out.new HM.out) f59 (fun v hv => hK v _ (NewT.refl _) hv)
                      · intro a wx hT hF K hK
                        replace hT : NewT w11 wx := hT
                        replace hK := fun v w' (hN : NewT wx w') hv => hK v w' (BelT.new hT hN) (fun k h => JV.keep h (by simp) hN (fun F h => h)) hv
                        obtain ⟨f60, _⟩ := hF
                        replace f60 := show (svAt w11 (svEl 109 rcE x)).pred (a.tmps.getD 60 undef) wx from f60
                        refine rely_wp rfl ?_
                        exact opr_ldRcW hT rfl f60 (fun v hv => hK v _ (NewT.refl _) hv)
                      · intro a wx hT hF K hK
                        replace hT : NewT w11 wx := hT
                        replace hK := fun v w' (hN : NewT wx w') hv => hK v w' (BelT.new hT hN) (fun k h => JV.keep h (by simp) hN (fun F h => h)) hv
                        obtain ⟨f1, _⟩ := hF
                        have f1 : a.tmps.getD 1 undef = .int .i64 (lim) := f1
                        refine rely_wp rfl ?_
                        exact opr_move (.inl rfl) (hK _ _ (NewT.refl _) f1)
                      · intro a wx hT hF K hK
                        replace hT : NewT w11 wx := hT
                        replace hK := fun v w' (hN : NewT wx w') hv => hK v w' (BelT.new hT hN) (fun k h => JV.keep h (by simp) hN (fun F h => h)) hv
                        obtain ⟨f57, f61, f62, _⟩ := hF
                        have f57 : a.tmps.getD 57 undef = .agg (rowA 10 (sgF sv gj)) := f57
                        replace f61 := show (svAt w11 (svRec x)).pred (a.tmps.getD 61 undef) wx from f61
                        have f62 : a.tmps.getD 62 undef = .int .i64 (lim) := f62
                        refine rely_wp rfl ?_
                        refine opr_cv (Go_cv sv p.1 gj x _ lim wx (hT.pairs (HM.out.pairs HSV.out)) (hT.recV f61) HOKG.out) rfl Try.func22 (by kernel_rfl) (by kernel_rfl) (by simp only [List.map_toArray, List.map_cons, List.map_nil, eval_tmp, f57, f62]) hK
                      · intro a wx hT hF K hK
                        replace hT : NewT w11 wx := hT
                        replace hK := fun v w' (hN : NewT wx w') hv => hK v w' (BelT.new hT hN) (fun k h => JV.keep h (by simp) hN (fun F h => h)) hv
                        obtain ⟨f63, _⟩ := hF
                        have f63 : a.tmps.getD 63 undef = (.tuple #[.agg (rowA 10 (sgF sv (wentG p.1 lim gj x))), .bool (goesB p.1 lim gj x)]) := f63
                        refine rely_wp rfl ?_
                        exact opr_move (.inl rfl) (hK _ _ (NewT.refl _) f63)
                      · intro a wx hT hF K hK
                        replace hT : NewT w11 wx := hT
                        replace hK := fun v w' (hN : NewT wx w') hv => hK v w' (BelT.new hT hN) (fun k h => JV.keep h (by simp) hN (fun F h => h)) hv
                        obtain ⟨f56, _⟩ := hF
                        have f56 : a.tmps.getD 56 undef = (.tuple #[.agg (rowA 10 (sgF sv (wentG p.1 lim gj x))), .bool (goesB p.1 lim gj x)]) := f56
                        refine rely_wp rfl ?_
                        exact opr_ext rfl f56 rfl (hK _ _ (NewT.refl _) rfl)
                      · intro a wx hT hF K hK
                        replace hT : NewT w11 wx := hT
                        replace hK := fun v w' (hN : NewT wx w') hv => hK v w' (BelT.new hT hN) (fun k h => JV.keep h (by simp) hN (fun F h => h)) hv
                        obtain ⟨f56, _⟩ := hF
                        have f56 : a.tmps.getD 56 undef = (.tuple #[.agg (rowA 10 (sgF sv (wentG p.1 lim gj x))), .bool (goesB p.1 lim gj x)]) := f56
                        refine rely_wp rfl ?_
                        exact opr_ext rfl f56 rfl (hK _ _ (NewT.refl _) rfl)
                      · intro a wx hT hF hJ K hK
                        replace hT : NewT w11 wx := hT
                        refine rely_wp rfl ?_
                        refine opr_allocV rfl run_alloc_saga ?_
                        exact hK _ _ (BelT.new hT (NewT.alloc _ _)) (JV.make hT) ⟨_, rfl⟩
                      · intro a wx hT hF hJ K hK
                        replace hT : NewT w11 wx := hT
                        obtain ⟨f11, f64, _⟩ := hF
                        replace f11 := show (svPtV).pred (a.tmps.getD 11 undef) wx from f11
                        have f64 : a.tmps.getD 64 undef = (.agg (rowA 10 (sgF sv (wentG p.1 lim gj x)))) := f64
                        refine rely_wp rfl ?_
                        obtain ⟨gv, hgv⟩ := f11
                        obtain ⟨hB1, hr1⟩ := JV.at1 hJ hgv
                        refine opr_putm (g := gv) (o0 := 0) (m := 10) (f := sgF sv ((wentG p.1 lim gj x))) (F := sgF sv ((wentG p.1 lim gj x))) rfl hgv f64 hr1 (by decide) info_saga (sgF_one _ _ (oneP HSV.out)) (put_allN _ _ _) ?_
                        intro w' hR hr2
                        exact hK _ _ (BelT.rt hB1 hR) (JV.mk2 hgv hB1 hr2 (rfl)) trivial
                      · intro w12 k12
                        iterate 3 (intro u h; obtain rfl := Eq.symm (h (by simp)); clear h)
                        iterate 2 (intro _ _)
                        iterate 5 (intro u h; obtain rfl := Eq.symm (h (by simp)); clear h)
                        intro u h; obtain ⟨p11, hv⟩ := (h (by simp)); clear h; subst hv
                        intro _ _
                        refine relyEnd_nil rfl ?_
                        intro hJ
                        simp only [Act.put, List.setIfInBounds_toArray, List.set_cons_zero, List.set_cons_succ]
                        obtain ⟨Fz, hBz, hrz, hGz⟩ := JV.at2 (g := p11) hJ (by kernel_rfl)
                        refine opr_move (.inr rfl) ?_
                        go_simp
                        subst hGz
                        replace k12 : NewT w11 w12 := k12
                        obtain ⟨g11, h_g11⟩ : ∃ g_, p11 = g_ := ⟨_, rfl⟩
                        rw [h_g11] at hrz hBz
                        simp only [h_g11]
                        have HGg11 : Hid (g5 < g11 ∧ g9 < g11 ∧ w8.heap.size ≤ g11) := Lib.hid ⟨Nat.lt_of_lt_of_le Rg5.out.lt hBz, Nat.lt_of_lt_of_le Rg9.out.lt hBz, Nat.le_trans HM.out.out.size hBz⟩
                        clear h_g11 hBz hJ
                        replace Rg5 := Lib.hid (k12.row Rg5.out)
                        replace Rg9 := Lib.hid (k12.row Rg9.out)
                        replace HM := Lib.hid (NewT.trans _ _ _ HM.out k12)
                        clear k12
                        have Rg11 := Lib.hid hrz
                        clear hrz
                        rw [HGJ.out]
                        go_upto_region 17 with fail
                        refine wp_region_steps0 NewT [SV.eq (.bool true), SV.eq (.bool false)] [([(12, none)], none), ([(66, some 0)], none)] 77 2 rfl rfl (by kernel_rfl) NewT.trans (NewT.refl _) (Nat.le_of_ble_eq_true rfl) ⟨?_, ?_, trivial⟩ ?_
                        · exact fun a wx hT hF K hK => rely_wp rfl (opr_move (.inl rfl) (hK _ _ (NewT.refl _) hF.1))
                        · exact fun a wx hT hF K hK => rely_wp rfl (opr_not rfl hF.1 (hK _ _ (NewT.refl _) rfl))
                        · intro w13 k13
                          iterate 2 (intro u h; obtain rfl := Eq.symm (h (by simp)); clear h)
                          refine relyEnd_nil rfl ?_
                          refine wpList_end rfl ?_
                          simp only [Act.put, List.setIfInBounds_toArray, List.set_cons_zero, List.set_cons_succ]
                          go_simp
                          replace Rg5 := Lib.hid (k13.row Rg5.out)
                          replace Rg9 := Lib.hid (k13.row Rg9.out)
                          replace Rg11 := Lib.hid (k13.row Rg11.out)
                          replace HM := Lib.hid (NewT.trans _ _ _ HM.out k13)
                          clear k13
                          go_upto_region 19 with fail
                          refine wp_region_steps0 NewT [SV.eq (.agg (rowA 10 (sgF sv ((wentG p.1 lim gj x)))))] [([(11, none)], none)] 77 1 rfl rfl (by kernel_rfl) NewT.trans (NewT.refl _) (Nat.le_of_ble_eq_true rfl) ⟨?_, trivial⟩ ?_
                          · exact fun a wx hT hF K hK => rely_wp rfl (opr_ldU (hT.row Rg11.out) rfl hF.1 (hK _ _ (NewT.refl _) rfl))
                          · intro w14 k14
                            intro u h; obtain rfl := Eq.symm (h (by simp)); clear h
                            refine relyEnd_nil rfl ?_
                            simp only [Act.put, List.setIfInBounds_toArray, List.set_cons_zero, List.set_cons_succ]
                            refine wpList_plain rfl (fun K hK => ?_)
                            refine opr_putm (g := g9) (o0 := 0) (m := 10) (f := sgF sv (wentG p.1 lim gj x)) (F := sgF sv (wentG p.1 lim gj x)) rfl rfl rfl (k14.row Rg9.out) (by decide) info_saga (sgF_one _ _ (oneP HSV.out)) (put_allN _ _ _) ?_
                            intro W14 hR14 rr14
                            refine hK _ _ ?_
                            clear hK K
                            refine wpList_end rfl ?_
                            simp only [Act.put, List.setIfInBounds_toArray, List.set_cons_zero, List.set_cons_succ]
                            go_simp
                            replace Rg9 := Lib.hid rr14
                            replace Rg5 := Lib.hid (hR14.row (by have h_0 := HG9.out; have h_1 := HGg11.out; omega) (k14.row Rg5.out))
                            replace Rg11 := Lib.hid (hR14.row (by have h_0 := HG9.out; have h_1 := HGg11.out; omega) (k14.row Rg11.out))
                            replace HM := Lib.hid (NewT.rt (NewT.trans _ _ _ HM.out k14) hR14 (by have h_0 := HG9.out; have h_1 := HGg11.out; omega))
                            clear k14 hR14 rr14
                            have hjl := HJL.out
                            have it2 := HI2.out
                            have hol2 := HOL.out
                            go_wp2
                            go_roundw
                            case rel =>
                              refine ⟨j + 1, by omega, by go_num, ?_⟩
                              first | exact Lib.hid (by rw [HNX.out]; exact Rg9.out) | exact ⟨HM, Rg5, Lib.hid (by rw [HNX.out]; exact Rg9.out)⟩
                            case measure => simp [intOf]; omega
end Go.Proofs.Ytilmeffmdgcblaa
