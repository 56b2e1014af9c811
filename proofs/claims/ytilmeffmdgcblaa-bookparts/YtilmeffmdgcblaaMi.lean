/- What stands behind records that go, on lists: each saga's own records make it, they are as many as its number says, and a record more turns one saga, or an epoch. No program is named here. -/
import Derived.Test.YtilmeffmdgcblaaMe
import Derived.Test.YtilmeffmdgcblaaMh
import Derived.Test.YtilmeffmdgcblaaMg
set_option linter.all false
namespace Go.Proofs.Ytilmeffmdgcblaa
open Go Go.RowKit
set_option maxRecDepth 8000
set_option linter.all false
theorem only_app (R : List Rc) (x : Rc) (n : Int) : onlyL (R ++ [x]) n = onlyL R n ++ (if isOf n x = true then [x] else []) := by
  unfold onlyL
  rw [List.filter_append]
  congr 1
  cases h : isOf n x <;> simp [h]
theorem isOf_rot {x : Rc} (h : x.kind = 6) (n : Int) : isOf n x = false := by
  unfold isOf ofB
  have : inR x.kind 1 5 = false := by
    cases e : inR x.kind 1 5 with
    | false => rfl
    | true => have := (inR_iff _ _ _).1 e; omega
  rw [this]; rfl
theorem isOf_saga {x : Rc} (h : 1 ≤ x.kind ∧ x.kind ≤ 5) (n : Int) : isOf n x = (x.saga == n) := by
  unfold isOf ofB
  rw [(inR_iff _ _ _).2 h]; rfl
/-- How a saga stands behind the first of its records. -/
def gN (lim : Int) (l : List (Int × Int)) (xs : List Rc) (j : Nat) : Sg := (xs.take j).foldl (wentG l lim) (ofSt st0 1)
theorem gN_succ {lim : Int} {l : List (Int × Int)} {xs : List Rc} {j : Nat} {x : Rc} (hx : xs[j]? = some x) : gN lim l xs (j + 1) = wentG l lim (gN lim l xs j) x := by
  unfold gN
  rw [List.take_add_one, hx, List.foldl_append]; rfl
theorem gN_app {lim : Int} {l : List (Int × Int)} {xs : List Rc} {x : Rc} {j : Nat} (hj : j ≤ xs.length) : gN lim l (xs ++ [x]) j = gN lim l xs j := by
  unfold gN
  rw [List.take_append_of_le_length hj]
/-- A saga stands as its own records make it. -/
def ApartS (lim : Int) (n : Nat) (p : Ug) (own : List Rc) : Prop :=
  ∃ x0 xs, own = x0 :: xs ∧ x0.kind = 1 ∧ x0.steps = p.1 ∧ gN lim p.1 xs xs.length = p.2 ∧ (∀ (j : Nat) (x : Rc), xs[j]? = some x → goesB p.1 lim (gN lim p.1 xs j) x = true) ∧ ∀ j, j ≤ xs.length → GoodS lim n (p.1, gN lim p.1 xs j)
structure Stands (lim : Int) (n : Nat) (K : Bk) (R : List Rc) : Prop where
  apart : ∀ (k : Nat) (p : Ug), K.sg[k]? = some p → ApartS lim n p (onlyL R k)
  none : ∀ k : Nat, K.sg.length ≤ k → onlyL R k = []
  many : ∀ (k : Nat) (p : Ug), K.sg[k]? = some p → p.2.sq = ((onlyL R k).length : Int)
def sumO (R : List Rc) : Nat → Nat
  | 0 => 0
  | m + 1 => sumO R m + (onlyL R (m : Int)).length
def sumE (ep : Nat → Int) : Nat → Int
  | 0 => 0
  | m + 1 => sumE ep m + ep m
theorem ApartS.more {lim : Int} {n m : Nat} {p : Ug} {own : List Rc} (h : ApartS lim n p own) (hn : n ≤ m) : ApartS lim m p own := by
  obtain ⟨x0, xs, h1, h2, h3, h4, h5, h6⟩ := h
  exact ⟨x0, xs, h1, h2, h3, h4, h5, fun j hj => (h6 j hj).more hn⟩
theorem stands_step {lim : Int} {n : Nat} {K : Bk} {R : List Rc} {x : Rc} (hG : Good lim n K) (hS : Stands lim n K R) (h : goesK lim K x = true) : Stands lim (n + 1) (wentK lim K x) (R ++ [x]) := by
  have hG2 := good_step hG h
  obtain ⟨hl, hr, hw⟩ := goes_lim h
  rw [went_goes h] at hG2 ⊢
  rcases way_cases hr hw with ⟨h1, h2, h3, e⟩ | ⟨h1, h2, e⟩ | ⟨h1, k, p, h2, h3, h4, e⟩
  · have hof : ∀ j : Nat, isOf (j : Int) x = decide (j = K.sg.length) := fun j => by
      rw [isOf_saga (by omega), h2]
      by_cases hj : j = K.sg.length
      · subst hj; simp
      · rw [decide_eq_false hj]; simpa using (show ¬ (K.sg.length : Int) = (j : Int) by omega)
    rw [e] at hG2 ⊢
    refine ⟨fun j q hq => ?_, fun j hj => ?_, fun j q hq => ?_⟩
    · by_cases hj : j < K.sg.length
      · have hq' : K.sg[j]? = some q := by rw [List.getElem?_append_left hj] at hq; exact hq
        rw [only_app, hof, decide_eq_false (by omega), if_neg (by simp), List.append_nil]
        exact (hS.apart j q hq').more (by omega)
      · have hlt := (List.getElem?_eq_some_iff.1 hq).1
        simp at hlt
        obtain rfl : j = K.sg.length := by omega
        simp at hq
        subst hq
        rw [only_app, hof, decide_eq_true rfl, if_pos rfl, hS.none _ (Nat.le_refl _)]
        refine ⟨x, [], rfl, h1, rfl, rfl, fun j y hy => by simp at hy, fun j hj => ?_⟩
        have : j = 0 := by simpa using hj
        subst this
        exact hG2.sg _ (by simp [gN])
    · have hj' : K.sg.length + 1 ≤ j := by simpa using hj
      rw [only_app, hof, decide_eq_false (by omega), if_neg (by simp), List.append_nil]
      exact hS.none j (by omega)
    · by_cases hj : j < K.sg.length
      · have hq' : K.sg[j]? = some q := by rw [List.getElem?_append_left hj] at hq; exact hq
        rw [only_app, hof, decide_eq_false (by omega), if_neg (by simp), List.append_nil]
        exact hS.many j q hq'
      · have hlt := (List.getElem?_eq_some_iff.1 hq).1
        simp at hlt
        obtain rfl : j = K.sg.length := by omega
        simp at hq
        subst hq
        rw [only_app, hof, decide_eq_true rfl, if_pos rfl, hS.none _ (Nat.le_refl _)]
        rfl
  · have hno : ∀ j : Int, onlyL (R ++ [x]) j = onlyL R j := fun j => by rw [only_app, isOf_rot h1, if_neg (by simp), List.append_nil]
    rw [e]
    exact ⟨fun j q hq => by rw [hno]; exact (hS.apart j q hq).more (by omega), fun j hj => by rw [hno]; exact hS.none j hj, fun j q hq => by rw [hno]; exact hS.many j q hq⟩
  · have hof : ∀ j : Nat, isOf (j : Int) x = decide (j = k) := fun j => by
      rw [isOf_saga (by omega), h2]
      by_cases hj : j = k
      · subst hj; simp
      · rw [decide_eq_false hj]; simpa using (show ¬ (k : Int) = (j : Int) by omega)
    have hkl := (List.getElem?_eq_some_iff.1 h3).1
    rw [e] at hG2 ⊢
    have hgs := hG2.sg (p.1, wentG p.1 lim p.2 x) (List.mem_of_getElem? (show (K.sg.set k _)[k]? = _ from List.getElem?_set_self hkl))
    refine ⟨fun j q hq => ?_, fun j hj => ?_, fun j q hq => ?_⟩
    · by_cases hj : j = k
      · subst hj
        have hq' : (K.sg.set j (p.1, wentG p.1 lim p.2 x))[j]? = some q := hq
        rw [List.getElem?_set_self hkl] at hq'
        cases hq'
        rw [only_app, hof, decide_eq_true rfl, if_pos rfl]
        obtain ⟨x0, xs, e1, e2, e3, e4, e5, e6⟩ := hS.apart j p h3
        have hlast : (xs ++ [x])[xs.length]? = some x := by simp
        have hend : gN lim p.1 (xs ++ [x]) (xs.length + 1) = wentG p.1 lim p.2 x := by rw [gN_succ hlast, gN_app (Nat.le_refl _), e4]
        refine ⟨x0, xs ++ [x], by rw [e1]; rfl, e2, e3, by rw [List.length_append]; exact hend, fun i y hy => ?_, fun i hi => ?_⟩
        · by_cases hi : i < xs.length
          · rw [List.getElem?_append_left hi] at hy
            show goesB p.1 lim (gN lim p.1 (xs ++ [x]) i) y = true
            rw [gN_app (by omega)]
            exact e5 i y hy
          · have hlt := (List.getElem?_eq_some_iff.1 hy).1
            simp at hlt
            obtain rfl : i = xs.length := by omega
            rw [hlast] at hy
            cases hy
            show goesB p.1 lim (gN lim p.1 (xs ++ [x]) xs.length) x = true
            rw [gN_app (Nat.le_refl _), e4]
            exact h4
        · by_cases hi2 : i ≤ xs.length
          · show GoodS lim (n + 1) (p.1, gN lim p.1 (xs ++ [x]) i)
            rw [gN_app hi2]
            exact (e6 i hi2).more (by omega)
          · rw [List.length_append] at hi
            simp at hi
            obtain rfl : i = xs.length + 1 := by omega
            show GoodS lim (n + 1) (p.1, gN lim p.1 (xs ++ [x]) (xs.length + 1))
            rw [hend]
            exact hgs
      · have hq' : (K.sg.set k (p.1, wentG p.1 lim p.2 x))[j]? = some q := hq
        rw [List.getElem?_set_ne (Ne.symm hj)] at hq'
        rw [only_app, hof, decide_eq_false hj, if_neg (by simp), List.append_nil]
        exact (hS.apart j q hq').more (by omega)
    · have hj' : K.sg.length ≤ j := by simpa using hj
      rw [only_app, hof, decide_eq_false (by omega), if_neg (by simp), List.append_nil]
      exact hS.none j hj'
    · by_cases hj : j = k
      · subst hj
        have hq' : (K.sg.set j (p.1, wentG p.1 lim p.2 x))[j]? = some q := hq
        rw [List.getElem?_set_self hkl] at hq'
        cases hq'
        rw [only_app, hof, decide_eq_true rfl, if_pos rfl, List.length_append]
        have hm := hS.many j p h3
        show (wentG p.1 lim p.2 x).sq = _
        have : (wentG p.1 lim p.2 x).sq = p.2.sq + 1 := went_sq h4
        rw [this, hm]
        simp
      · have hq' : (K.sg.set k (p.1, wentG p.1 lim p.2 x))[j]? = some q := hq
        rw [List.getElem?_set_ne (Ne.symm hj)] at hq'
        rw [only_app, hof, decide_eq_false hj, if_neg (by simp), List.append_nil]
        exact hS.many j q hq'
where
  went_sq {l : List (Int × Int)} {lim : Int} {g : Sg} {x : Rc} (h : goesB l lim g x = true) : (wentG l lim g x).sq = g.sq + 1 := by
    unfold wentG
    rw [if_pos h]
    unfold behG lapG refG wellG turnG begG
    repeat' split
    all_goals rfl
theorem sumO_rot {R : List Rc} {x : Rc} (h : x.kind = 6) : ∀ m, sumO (R ++ [x]) m = sumO R m
  | 0 => rfl
  | m + 1 => by
    show sumO (R ++ [x]) m + (onlyL (R ++ [x]) m).length = sumO R m + (onlyL R m).length
    rw [sumO_rot h m, only_app, isOf_rot h, if_neg (by simp), List.append_nil]
theorem sumO_saga {R : List Rc} {x : Rc} {s : Nat} (h : 1 ≤ x.kind ∧ x.kind ≤ 5) (hs : x.saga = (s : Int)) : ∀ m, sumO (R ++ [x]) m = sumO R m + (if s < m then 1 else 0)
  | 0 => rfl
  | m + 1 => by
    show sumO (R ++ [x]) m + (onlyL (R ++ [x]) m).length = sumO R m + (onlyL R m).length + _
    rw [sumO_saga h hs m, only_app, isOf_saga h, hs]
    by_cases e : s = m
    · subst e
      have h1 : ((s : Int) == (s : Int)) = true := by simp
      have h2 : ¬ s < s := Nat.lt_irrefl s
      have h3 : s < s + 1 := Nat.lt_succ_self s
      rw [if_neg h2, if_pos h3, if_pos h1, List.length_append]
      show sumO R s + 0 + ((onlyL R s).length + 1) = _
      omega
    · have h1 : ¬ ((s : Int) == (m : Int)) = true := by
        intro h
        have := eq_of_beq h
        omega
      rw [if_neg h1, List.append_nil]
      by_cases e2 : s < m
      · have h3 : s < m + 1 := by omega
        rw [if_pos e2, if_pos h3]; omega
      · have h3 : ¬ s < m + 1 := by omega
        rw [if_neg e2, if_neg h3]; rfl
theorem sumE_set {ep : Nat → Int} {c : Nat} {z : Int} (h : c < 4) : sumE (fun i => if i = c then z else ep i) 4 = sumE ep 4 + (z - ep c) := by
  have : c = 0 ∨ c = 1 ∨ c = 2 ∨ c = 3 := by omega
  rcases this with rfl | rfl | rfl | rfl <;> simp [sumE] <;> omega
theorem sumO_le (R : List Rc) : ∀ m, sumO R m ≤ m * R.length
  | 0 => by simp [sumO]
  | m + 1 => by
    have h1 := sumO_le R m
    have h2 : (onlyL R m).length ≤ R.length := List.length_filter_le _ _
    show sumO R m + (onlyL R m).length ≤ _
    rw [Nat.succ_mul]
    omega
def totalK (K : Bk) (R : List Rc) : Int := (sumO R K.sg.length : Int) + sumE K.ep 4
theorem total_step {lim : Int} {n : Nat} {K : Bk} {R : List Rc} {x : Rc} (hS : Stands lim n K R) (h : goesK lim K x = true) (ht : totalK K R = n) : totalK (wentK lim K x) (R ++ [x]) = ((n + 1 : Nat) : Int) := by
  obtain ⟨hl, hr, hw⟩ := goes_lim h
  rw [went_goes h]
  unfold totalK at ht ⊢
  rcases way_cases hr hw with ⟨h1, h2, h3, e⟩ | ⟨h1, h2, e⟩ | ⟨h1, k, p, h2, h3, h4, e⟩
  · rw [e]
    show ((sumO (R ++ [x]) (K.sg ++ [_]).length : Nat) : Int) + sumE K.ep 4 = _
    rw [sumO_saga (by omega) h2, List.length_append]
    show ((sumO R (K.sg.length + 1) + (if K.sg.length < K.sg.length + 1 then 1 else 0) : Nat) : Int) + _ = _
    rw [if_pos (by omega)]
    have : sumO R (K.sg.length + 1) = sumO R K.sg.length := by
      show sumO R K.sg.length + (onlyL R K.sg.length).length = _
      rw [hS.none _ (Nat.le_refl _)]; rfl
    omega
  · rw [e]
    show ((sumO (R ++ [x]) K.sg.length : Nat) : Int) + sumE (fun i => if i = x.part.toNat then x.epoch else K.ep i) 4 = _
    rw [sumO_rot h1, sumE_set (by have := right_part hr; omega), h2]
    omega
  · rw [e]
    show ((sumO (R ++ [x]) (K.sg.set k _).length : Nat) : Int) + sumE K.ep 4 = _
    have hkl := (List.getElem?_eq_some_iff.1 h3).1
    rw [sumO_saga (by omega) h2, List.length_set, if_pos hkl]
    omega
theorem stands_up {lim : Int} {l : List Rc} : ∀ (k : Nat), nOf lim zK (l.take k) = k → k ≤ l.length → Stands lim k (upK lim zK (l.take k)) (l.take k) ∧ totalK (upK lim zK (l.take k)) (l.take k) = k
  | 0, _, _ => ⟨⟨fun k p h => by simp [upK, zK] at h, fun k _ => rfl, fun k p h => by simp [upK, zK] at h⟩, rfl⟩
  | k + 1, h, hk => by
    have hx : l[k]? = some l[k] := List.getElem?_eq_getElem (by omega)
    have h1 : nOf lim zK (l.take k) = k := by
      have := nOf_take lim (l.take (k + 1)) zK k (by omega)
      rwa [List.take_take, Nat.min_eq_left (by omega)] at this
    obtain ⟨hS, ht⟩ := stands_up k h1 (by omega)
    have hg : goesK lim (upK lim zK (l.take k)) l[k] = true := by
      have := nOf_goes lim (l.take (k + 1)) zK k l[k] (by rw [List.getElem?_take_of_lt (by omega)]; exact hx) (by omega)
      rwa [List.take_take, Nat.min_eq_left (by omega)] at this
    have hR : l.take (k + 1) = l.take k ++ [l[k]] := by rw [List.take_add_one, hx]; rfl
    rw [upK_succ hx, hR]
    exact ⟨stands_step (good_up k h1 (by omega)) hS hg, total_step hS hg ht⟩
theorem stands_of (lim : Int) (l : List Rc) : Stands lim (nOf lim zK l) (bkOf lim l) (l.take (nOf lim zK l)) ∧ totalK (bkOf lim l) (l.take (nOf lim zK l)) = nOf lim zK l := stands_up _ (nOf_take lim l zK _ (Nat.le_refl _)) (nOf_le lim l zK)
end Go.Proofs.Ytilmeffmdgcblaa
/- The law BookParts, walked: each record of a journal is one saga's, or a rotation. -/
namespace Go.Proofs.Ytilmeffmdgcblaa
open Go Go.RowKit
set_option maxRecDepth 8000
set_option linter.all false
set_option maxHeartbeats 8000000 in
theorem BookParts_walk (v : Value) (l : List Rc) (lim : Int) (w : World) (h : RdR w v l) : Calls Try.prog 7 #[v, .int .i64 lim] w fun e w' => e = .returned (.bool true) ∧ Below w.heap.size w w' := by
  have HV := Lib.hid h
  clear h
  go_enter Try.func7, Try.ntmps7
  go_upto_region 1 with fail
  have HB := Lib.hid (NewT.refl w)
  have HM := Lib.hid (NewT.refl w)
  refine wp_region_steps0 NewT [SV.eq (.bool true), SV.eq (.bool false)] [([], none), ([(11, some 0)], none)] 68 2 rfl rfl (by kernel_rfl) NewT.trans (NewT.refl _) (Nat.le_of_ble_eq_true rfl) ⟨?_, ?_, trivial⟩ ?_
  · exact fun a wx hT hF K hK => rely_wp rfl (opr_cv (alive12_c wx) rfl Try.func8 (by kernel_rfl) (by kernel_rfl) evs0 hK)
  · exact fun a wx hT hF K hK => rely_wp rfl (opr_not rfl hF.1 (hK _ _ (NewT.refl _) rfl))
  · intro w1 k1
    iterate 2 (intro u h; obtain rfl := Eq.symm (h (by simp)); clear h)
    refine relyEnd_nil rfl ?_
    refine wpList_end rfl ?_
    simp only [Act.put, List.setIfInBounds_toArray, List.set_cons_zero, List.set_cons_succ]
    go_simp
    replace HM := Lib.hid (NewT.trans _ _ _ HM.out k1)
    clear k1
    go_upto_region 3 with fail
    refine wp_region_steps0 NewT [SV.eq (v), SV.eq (.bool (greatL l))] [([(0, none)], none), ([(13, some 0)], none)] 68 2 rfl rfl (by kernel_rfl) NewT.trans (NewT.refl _) (Nat.le_of_ble_eq_true rfl) ⟨?_, ?_, trivial⟩ ?_
    · exact fun a wx hT hF K hK => rely_wp rfl (opr_move (.inl rfl) (hK _ _ (NewT.refl _) hF.1))
    · exact fun a wx hT hF K hK => rely_wp rfl (opr_cv (Great_cv _ l wx ((HV.out.new (NewT.trans _ _ _ HM.out hT)))) rfl Try.func9 (by kernel_rfl) (by kernel_rfl) (evs1 hF.1) hK)
    · intro w2 k2
      iterate 2 (intro u h; obtain rfl := Eq.symm (h (by simp)); clear h)
      refine relyEnd_nil rfl ?_
      refine wpList_end rfl ?_
      simp only [Act.put, List.setIfInBounds_toArray, List.set_cons_zero, List.set_cons_succ]
      go_simp
      replace HM := Lib.hid (NewT.trans _ _ _ HM.out k2)
      clear k2
      cases hq : greatL l
      rotate_left
      · clear hq
        go_wp2
        go_ret
        exact ⟨rfl, (NewT.trans _ _ _ HB.out HM.out).out⟩
      have HL150 := Lib.hid (great_not hq).1
      have HXL := Lib.hid (great_not hq).2
      have HNL : Hid (nOf lim zK l ≤ 150 ∧ nOf lim zK l ≤ l.length) := Lib.hid (by have h1 := nOf_le lim l zK; have h2 := (great_not hq).1; omega)
      have HGD := Lib.hid (good_of lim l)
      have HOK : Hid (OkK (bkOf lim l)) := Lib.hid (good_ok (good_of lim l) (by have h1 := nOf_le lim l zK; have h2 := (great_not hq).1; omega))
      clear hq
      have HST := Lib.hid (stands_of lim l)
      obtain ⟨bk, hbk⟩ := hid_ex (bkOf lim l)
      obtain ⟨m, hm⟩ := hid_ex (nOf lim zK l)
      rw [hbk.out] at HOK HGD
      rw [hm.out] at HNL HGD
      rw [hbk.out, hm.out] at HST
      obtain ⟨R, hR⟩ := hid_ex (l.take m)
      rw [hR.out] at HST
      have HRL : Hid (R.length ≤ 150) := Lib.hid (by rw [← hR.out, List.length_take]; have := HL150.out; omega)
      have HRX : Hid (∀ y ∈ R, y.steps.length ≤ 30 ∧ y.data.length ≤ 300) := Lib.hid (fun y hy => HXL.out y (List.mem_of_mem_take (by rw [hR.out]; exact hy)))
      have HSUM : Hid (∀ k, k ≤ 12 → sumO R k ≤ 1800) := Lib.hid (fun k hk => by have h1 := sumO_le R k; have h2 := HRL.out; have : k * R.length ≤ 12 * 150 := Nat.mul_le_mul hk h2; omega)
      have HEP : Hid (∀ i, 0 ≤ bk.ep i ∧ bk.ep i ≤ 150) := Lib.hid (fun i => by have h1 := HGD.out.ep i; have h2 := HNL.out; omega)
      have HLN : Hid (bk.sg.length ≤ 12) := Lib.hid HGD.out.len.1
      go_upto_region 5 with fail
      refine wp_region_steps0 NewT [SV.eq (v), SV.eq (.int .i64 (lim)), svBkRB 0 (bk) (.int .i64 ((m : Int))), svBkRB 0 (bk) (.int .i64 ((m : Int))), svBkB (0) bk, SV.eq (.int .i64 ((m : Int)))] [([(0, none)], none), ([(1, none)], none), ([(16, some 0), (17, some 1)], none), ([(18, some 2)], none), ([(15, some 3)], none), ([(15, some 3)], none)] 68 6 rfl rfl (by kernel_rfl) NewT.trans (NewT.refl _) (Nat.le_of_ble_eq_true rfl) ⟨?_, ?_, ?_, ?_, ?_, ?_, trivial⟩ ?_
      · exact fun a wx hT hF K hK => rely_wp rfl (opr_move (.inl rfl) (hK _ _ (NewT.refl _) hF.1))
      · exact fun a wx hT hF K hK => rely_wp rfl (opr_move (.inl rfl) (hK _ _ (NewT.refl _) hF.1))
      · exact fun a wx hT hF K hK => rely_wp rfl (opr_cv (svBkRB_le (Of_cv _ l lim wx ((HV.out.new (NewT.trans _ _ _ HM.out hT))) (by have := HL150.out; omega)) (hbk.out) (by rw [hm.out])) rfl Try.func10 (by kernel_rfl) (by kernel_rfl) (evs2 hF.1 hF.2.1) hK)
      · exact fun a wx hT hF K hK => rely_wp rfl (opr_move (.inl rfl) (hK _ _ (NewT.refl _) hF.1))
      · exact fun a wx hT hF K hK => rely_wp rfl (opr_extKB0 rfl hF.1 (fun u hu => hK u _ (NewT.refl _) hu))
      · exact fun a wx hT hF K hK => rely_wp rfl (opr_extKB1 rfl hF.1 (hK _ _ (NewT.refl _) rfl))
      · intro w3 k3
        iterate 2 (intro u h; obtain rfl := Eq.symm (h (by simp)); clear h)
        iterate 2 (intro _ _)
        intro u19 h; have g19 := h (by simp); clear h; replace g19 := show (svBkB (0) bk).pred u19 w3 from g19
        intro u h; obtain rfl := Eq.symm (h (by simp)); clear h
        refine relyEnd_nil rfl ?_
        simp only [Act.put, List.setIfInBounds_toArray, List.set_cons_zero, List.set_cons_succ]
        obtain ⟨s5, rfl, hs5⟩ := (show BkVB w3 (0) u19 bk from g19)
        refine wpList_new (n := 5) (f := bkF bk.ep s5) rfl rfl rfl rfl rfl rfl (by first | (simp; done) | simp [Act.put]) run_alloc_book info_book (bkF_one _ _ hs5.rd.one) rfl ?_
        intro W3 hn3 rr3
        simp only [Act.put, List.setIfInBounds_toArray, List.set_cons_zero, List.set_cons_succ]
        refine wpList_plain rfl (fun K hK => ?_)
        refine opr_move (.inr rfl) (hK _ _ ?_)
        clear hK K
        refine wpList_end rfl ?_
        simp only [Act.put, List.setIfInBounds_toArray, List.set_cons_zero, List.set_cons_succ]
        go_simp
        obtain ⟨g5, h_g5⟩ : ∃ g_, w3.heap.size = g_ := ⟨_, rfl⟩
        rw [h_g5] at rr3
        simp only [h_g5]
        have HGg5 : Hid (w.heap.size ≤ g5) := Lib.hid (by rw [← h_g5]; exact (NewT.trans _ _ _ HM.out k3).out.size)
        have q3 := NewT.trans _ _ _ k3 hn3
        have HS5 := Lib.hid (hs5.new hn3)
        clear hs5
        clear k3 hn3 h_g5
        replace HM := Lib.hid (NewT.trans _ _ _ HM.out q3)
        clear q3
        have Rg5 := Lib.hid rr3
        clear rr3
        replace HV := Lib.hid (HV.out.new HM.out)
        replace HB := Lib.hid (NewT.trans _ _ _ HB.out HM.out)
        replace HM := Lib.hid (NewT.refl W3)
        go_wp2
        go_loopw [7, 8] (fun a i wr => ∃ k : Nat, k ≤ bk.sg.length ∧ a = .int .i64 ((sumO R k : Nat) : Int) ∧ i = .int .i64 (k : Int) ∧ Hid (NewT W3 wr) ∧ Hid (wr.rowIs g5 28 5 (bkF bk.ep s5))) (fun _ i _ => bk.sg.length - (intOf i).toNat)
        case atStart => exact ⟨0, by omega, rfl, rfl, HM, Rg5⟩
        case round =>
          clear HM Rg5
          obtain ⟨k, hk, rfl, rfl, HM, Rg5⟩ := hrel
          have hln := HLN.out
          by_cases hlt : k < bk.sg.length
          rotate_left
          · obtain rfl : k = bk.sg.length := by omega
            go_upto_region 8 with fail
            refine wp_region_steps0 NewT [SV.eq (.int .i64 ((bk.sg.length : Int))), SV.eq (.pointer (some ⟨g5, 4, none⟩)), SV.eq (s5), SV.eq (.int .i64 ((List.length (bk.sg) : Int))), SV.eq (.bool (decide (((bk.sg.length : Int)) < ((List.length (bk.sg) : Int)))))] [([(8, none)], none), ([(5, none)], none), ([(22, some 1)], none), ([(23, some 2)], none), ([(21, some 0), (24, some 3)], none)] 68 5 rfl rfl (by kernel_rfl) NewT.trans (NewT.refl _) (Nat.le_of_ble_eq_true rfl) ⟨?_, ?_, ?_, ?_, ?_, trivial⟩ ?_
            · exact fun a wx hT hF K hK => rely_wp rfl (opr_move (.inl rfl) (hK _ _ (NewT.refl _) hF.1))
            · exact fun a wx hT hF K hK => rely_wp rfl (opr_fldK1 rfl hF.1 (hK _ _ (NewT.refl _) rfl))
            · exact fun a wx hT hF K hK => rely_wp rfl (opr_ldUs (hT.row Rg5.out) (by decide) rfl rfl hF.1 (hK _ _ (NewT.refl _) rfl))
            · intro a wx hT hF K hK
              obtain ⟨f23, _⟩ := hF
              have f23 : a.tmps.getD 23 undef = s5 := f23
              refine rely_wp rfl ?_
              exact opr_lenL rfl sagaEl (by rw [eval_tmp, f23]; exact (HS5.out.new (NewT.trans _ _ _ HM.out hT)).rd) (hK _ _ (NewT.refl _) rfl)
            · exact fun a wx hT hF K hK => rely_wp rfl (opr_cmp (b := decide (((bk.sg.length : Int)) < ((List.length (bk.sg) : Int)))) (.inr (.inr (.inr (.inl ⟨rfl, rfl⟩)))) Try.underlying3 rfl hF.1 hF.2.1 (hK _ _ (NewT.refl _) rfl))
            · intro w4 k4
              iterate 5 (intro u h; obtain rfl := Eq.symm (h (by simp)); clear h)
              refine relyEnd_nil rfl ?_
              refine wpList_end rfl ?_
              simp only [Act.put, List.setIfInBounds_toArray, List.set_cons_zero, List.set_cons_succ]
              go_simp
              replace Rg5 := Lib.hid (k4.row Rg5.out)
              replace HM := Lib.hid (NewT.trans _ _ _ HM.out k4)
              clear k4
              have HS12 : Hid (sumO R bk.sg.length ≤ 1800) := Lib.hid (HSUM.out _ HLN.out)
              go_wp2
              go_loopw [7, 10] (fun a i wr => ∃ c : Nat, c ≤ 4 ∧ a = .int .i64 ((sumO R bk.sg.length : Nat) + sumE bk.ep c) ∧ i = .int .i64 (c : Int) ∧ Hid (NewT W3 wr) ∧ Hid (wr.rowIs g5 28 5 (bkF bk.ep s5))) (fun _ i _ => 4 - (intOf i).toNat)
              case atStart => exact ⟨0, by omega, by simp [sumE], rfl, HM, Rg5⟩
              case round =>
                clear HM Rg5
                obtain ⟨c, hc, rfl, rfl, HM, Rg5⟩ := hrel
                have HSE : Hid (0 ≤ sumE bk.ep c ∧ sumE bk.ep c ≤ 600) := Lib.hid (by
                  have h0 := HEP.out 0; have h1 := HEP.out 1; have h2 := HEP.out 2; have h3 := HEP.out 3
                  have : c = 0 ∨ c = 1 ∨ c = 2 ∨ c = 3 ∨ c = 4 := by omega
                  rcases this with rfl | rfl | rfl | rfl | rfl <;> simp [sumE] <;> omega)
                by_cases hlt : c < 4
                rotate_left
                · obtain rfl : c = 4 := by omega
                  have HTT : Hid (((sumO R bk.sg.length : Nat) + sumE bk.ep 4 : Int) = (m : Int)) := Lib.hid HST.out.2
                  go_upto_region 18 with fail
                  refine wp_region_rely (NewT) [SV.eq (.int .i64 ((sumO R bk.sg.length : Nat) + sumE bk.ep 4)), SV.eq (.int .i64 ((m : Int))), SV.eq (.bool true), SV.eq (.bool true), SV.eq (.agg (rowA 5 (bkF bk.ep s5))), svL 2 lnE (repL bk.sg), SV.eq (.int .i64 ((List.length (repL bk.sg) : Int))), SV.eq (.pointer (some ⟨g5, 4, none⟩)), SV.eq (s5), SV.eq (.int .i64 ((List.length (bk.sg) : Int))), SV.eq (.bool true), SV.eq (.bool true)] [([(7, none)], none), ([(6, none)], none), ([(56, some 0), (57, some 1)], none), ([(58, some 2)], none), ([(5, none), (59, some 3)], some (59, true)), ([(60, some 4), (59, some 3)], some (59, true)), ([(61, some 5), (59, some 3)], some (59, true)), ([(5, none), (59, some 3)], some (59, true)), ([(63, some 7), (59, some 3)], some (59, true)), ([(64, some 8), (59, some 3)], some (59, true)), ([(62, some 6), (65, some 9), (59, some 3)], some (59, true)), ([(59, some 3), (66, some 10)], none)] 68 rfl (by kernel_rfl) rfl (by kernel_rfl) (by kernel_rfl) rfl NewT.trans (NewT.drew _) (Nat.le_of_ble_eq_true rfl) ⟨?_, ?_, ?_, ?_, ?_, ?_, ?_, ?_, ?_, ?_, ?_, ?_, trivial⟩ ?_
                  · exact fun a wx hT hF K hK => rely_wp rfl (opr_move (.inl rfl) (hK _ _ (NewT.refl _) hF.1))
                  · exact fun a wx hT hF K hK => rely_wp rfl (opr_move (.inl rfl) (hK _ _ (NewT.refl _) hF.1))
                  · exact fun a wx hT hF K hK => rely_wp rfl (opr_cmp (b := true) (.inl ⟨rfl, (by rw [HTT.out]; simp)⟩) Try.underlying3 rfl hF.1 hF.2.1 (hK _ _ (NewT.refl _) rfl))
                  · exact fun a wx hT hF K hK => rely_wp rfl (opr_move (.inl rfl) (hK _ _ (NewT.refl _) hF.1))
                  · exact fun a wx hT hF K hK => rely_wp (rely_guard hF.2.1) (opr_ldK (hT.row Rg5.out) rfl hF.1 (hK _ _ (NewT.refl _) rfl))
                  · exact fun a wx hT hF K hK => rely_wp (rely_guard hF.2.1) (opr_cv (Report_cv _ bk wx ((show BkVB wx _ _ bk from ⟨s5, rfl, HS5.out.new (NewT.trans _ _ _ HM.out hT)⟩).rd) ((by have := HLN.out; omega))) rfl Try.func11 (by kernel_rfl) (by kernel_rfl) (evs1 hF.1) hK)
                  · exact fun a wx hT hF K hK => rely_wp (rely_guard hF.2.1) (opr_lenL rfl lineEl hF.1 (hK _ _ (NewT.refl _) rfl))
                  · exact fun a wx hT hF K hK => rely_wp (rely_guard hF.2.1) (opr_fldK1 rfl hF.1 (hK _ _ (NewT.refl _) rfl))
                  · exact fun a wx hT hF K hK => rely_wp (rely_guard hF.2.1) (opr_ldUs (hT.row Rg5.out) (by decide) rfl rfl hF.1 (hK _ _ (NewT.refl _) rfl))
                  · intro a wx hT hF K hK
                    obtain ⟨f64, f59, _⟩ := hF
                    have f64 : a.tmps.getD 64 undef = s5 := f64
                    have f59 : a.tmps.getD 59 undef = .bool true := f59
                    refine rely_wp (rely_guard f59) ?_
                    exact opr_lenL rfl sagaEl (by rw [eval_tmp, f64]; exact (HS5.out.new (NewT.trans _ _ _ HM.out hT)).rd) (hK _ _ (NewT.refl _) rfl)
                  · exact fun a wx hT hF K hK => rely_wp (rely_guard hF.2.2.1) (opr_cmp (b := true) (.inl ⟨rfl, (by simp [repL])⟩) Try.underlying3 rfl hF.1 hF.2.1 (hK _ _ (NewT.refl _) rfl))
                  · exact fun a wx hT hF K hK => rely_wp rfl (opr_pick_true rfl hF.1 (hK _ _ (NewT.refl _) hF.2.1))
                  · intro w5 k5
                    iterate 5 (intro u h; obtain rfl := Eq.symm (h (by simp)); clear h)
                    intro _ _
                    iterate 6 (intro u h; obtain rfl := Eq.symm (h (by simp)); clear h)
                    refine relyEnd_nil rfl ?_
                    simp only [Act.put, List.setIfInBounds_toArray, List.set_cons_zero, List.set_cons_succ]
                    refine opr_move (.inr rfl) ?_
                    go_simp
                    replace Rg5 := Lib.hid (k5.row Rg5.out)
                    replace HM := Lib.hid (NewT.trans _ _ _ HM.out k5)
                    clear k5
                    go_wp2
                    go_ret
                    exact ⟨rfl, (NewT.trans _ _ _ HB.out HM.out).out⟩
                have HC4 := Lib.hid hlt
                have it : (c : Int) < 4 := by omega
                have HIT := Lib.hid it
                clear hlt
                go_upto_region 17 with fail
                refine wp_region_steps0 NewT [SV.eq (.int .i64 ((sumO R bk.sg.length : Nat) + sumE bk.ep c)), SV.eq (.int .i64 ((c : Int))), SV.eq (.pointer (some ⟨g5, 0, none⟩)), SV.eq (.pointer (some ⟨g5, c, none⟩)), SV.eq (.int .i64 (bk.ep c)), SV.eq (.int .i64 ((sumO R bk.sg.length : Nat) + sumE bk.ep (c + 1))), SV.eq (.int .i64 ((sumO R bk.sg.length : Nat) + sumE bk.ep (c + 1)))] [([(7, none)], none), ([(10, none)], none), ([(5, none)], none), ([(52, some 2), (51, some 1)], none), ([(53, some 3)], none), ([(50, some 0), (54, some 4)], none), ([(55, some 5)], none)] 68 7 rfl rfl (by kernel_rfl) NewT.trans (NewT.refl _) (Nat.le_of_ble_eq_true rfl) ⟨?_, ?_, ?_, ?_, ?_, ?_, ?_, trivial⟩ ?_
                · exact fun a wx hT hF K hK => rely_wp rfl (opr_move (.inl rfl) (hK _ _ (NewT.refl _) hF.1))
                · exact fun a wx hT hF K hK => rely_wp rfl (opr_move (.inl rfl) (hK _ _ (NewT.refl _) hF.1))
                · exact fun a wx hT hF K hK => rely_wp rfl (opr_fldK0 rfl hF.1 (hK _ _ (NewT.refl _) rfl))
                · exact fun a wx hT hF K hK => rely_wp rfl (opr_idxEp (k := c) (HC4.out) (rfl) rfl hF.1 hF.2.1 (hK _ _ (NewT.refl _) rfl))
                · exact fun a wx hT hF K hK => rely_wp rfl (opr_ldI (hT.row Rg5.out) (Nat.lt_succ_of_lt (HC4.out)) (bkF_ep (HC4.out)) rfl hF.1 (hK _ _ (NewT.refl _) rfl))
                · exact fun a wx hT hF K hK => rely_wp rfl (opr_add (r := (sumO R bk.sg.length : Nat) + sumE bk.ep (c + 1)) Try.underlying3 (by have h1 := HS12.out; have h2 := HSE.out; have h3 := HEP.out c; have h4 : sumE bk.ep (c + 1) = sumE bk.ep c + bk.ep c := rfl; unfold wrap64; omega) rfl hF.1 hF.2.1 (hK _ _ (NewT.refl _) rfl))
                · exact fun a wx hT hF K hK => rely_wp rfl (opr_move (.inr rfl) (hK _ _ (NewT.refl _) hF.1))
                · intro w6 k6
                  iterate 7 (intro u h; obtain rfl := Eq.symm (h (by simp)); clear h)
                  refine relyEnd_nil rfl ?_
                  refine wpList_end rfl ?_
                  simp only [Act.put, List.setIfInBounds_toArray, List.set_cons_zero, List.set_cons_succ]
                  go_simp
                  replace Rg5 := Lib.hid (k6.row Rg5.out)
                  replace HM := Lib.hid (NewT.trans _ _ _ HM.out k6)
                  clear k6
                  have it2 := HIT.out
                  go_wp2
                  go_roundw
                  case rel => exact ⟨c + 1, by omega, rfl, by go_num, by first | exact HM | trivial, by first | exact Rg5 | trivial⟩
                  case measure => simp [intOf]; omega
          obtain ⟨p, hp⟩ : ∃ p, bk.sg[k]? = some p := ⟨_, List.getElem?_eq_getElem hlt⟩
          have HPP := Lib.hid hp
          have it : (k : Int) < (bk.sg.length : Int) := by omega
          have HIT := Lib.hid it
          have HSK : Hid (sumO R k ≤ 1800) := Lib.hid (HSUM.out _ (by omega))
          have HSQ : Hid (p.2.sq = ((onlyL R k).length : Int)) := Lib.hid (HST.out.1.many k p hp)
          have HOL : Hid ((onlyL R k).length ≤ 150) := Lib.hid (by have h1 : (onlyL R k).length ≤ R.length := List.length_filter_le _ _; have h2 := HRL.out; omega)
          clear hp hlt
          go_upto_region 8 with fail
          refine wp_region_steps0 NewT [SV.eq (.int .i64 ((k : Int))), SV.eq (.pointer (some ⟨g5, 4, none⟩)), SV.eq (s5), SV.eq (.int .i64 ((List.length (bk.sg) : Int))), SV.eq (.bool (decide (((k : Int)) < ((List.length (bk.sg) : Int)))))] [([(8, none)], none), ([(5, none)], none), ([(22, some 1)], none), ([(23, some 2)], none), ([(21, some 0), (24, some 3)], none)] 68 5 rfl rfl (by kernel_rfl) NewT.trans (NewT.refl _) (Nat.le_of_ble_eq_true rfl) ⟨?_, ?_, ?_, ?_, ?_, trivial⟩ ?_
          · exact fun a wx hT hF K hK => rely_wp rfl (opr_move (.inl rfl) (hK _ _ (NewT.refl _) hF.1))
          · exact fun a wx hT hF K hK => rely_wp rfl (opr_fldK1 rfl hF.1 (hK _ _ (NewT.refl _) rfl))
          · exact fun a wx hT hF K hK => rely_wp rfl (opr_ldUs (hT.row Rg5.out) (by decide) rfl rfl hF.1 (hK _ _ (NewT.refl _) rfl))
          · intro a wx hT hF K hK
            obtain ⟨f23, _⟩ := hF
            have f23 : a.tmps.getD 23 undef = s5 := f23
            refine rely_wp rfl ?_
            exact opr_lenL rfl sagaEl (by rw [eval_tmp, f23]; exact (HS5.out.new (NewT.trans _ _ _ HM.out hT)).rd) (hK _ _ (NewT.refl _) rfl)
          · exact fun a wx hT hF K hK => rely_wp rfl (opr_cmp (b := decide (((k : Int)) < ((List.length (bk.sg) : Int)))) (.inr (.inr (.inr (.inl ⟨rfl, rfl⟩)))) Try.underlying3 rfl hF.1 hF.2.1 (hK _ _ (NewT.refl _) rfl))
          · intro w7 k7
            iterate 5 (intro u h; obtain rfl := Eq.symm (h (by simp)); clear h)
            refine relyEnd_nil rfl ?_
            refine wpList_end rfl ?_
            simp only [Act.put, List.setIfInBounds_toArray, List.set_cons_zero, List.set_cons_succ]
            go_simp
            replace Rg5 := Lib.hid (k7.row Rg5.out)
            replace HM := Lib.hid (NewT.trans _ _ _ HM.out k7)
            clear k7
            go_upto_region 10 with fail
            refine wp_region_steps0 NewT [SV.eq (v), SV.eq (.int .i64 ((m : Int))), svL 109 rcE (List.take m l), SV.eq (.int .i64 ((k : Int))), svL 109 rcE (onlyL R k), svL 109 rcE (onlyL R k)] [([(0, none)], none), ([(6, none)], none), ([(28, some 0), (29, some 1)], none), ([(8, none)], none), ([(30, some 2), (31, some 3)], none), ([(32, some 4)], none)] 68 6 rfl rfl (by kernel_rfl) NewT.trans (NewT.refl _) (Nat.le_of_ble_eq_true rfl) ⟨?_, ?_, ?_, ?_, ?_, ?_, trivial⟩ ?_
            · exact fun a wx hT hF K hK => rely_wp rfl (opr_move (.inl rfl) (hK _ _ (NewT.refl _) hF.1))
            · exact fun a wx hT hF K hK => rely_wp rfl (opr_move (.inl rfl) (hK _ _ (NewT.refl _) hF.1))
            · intro a wx hT hF K hK
              obtain ⟨f28, f29, _⟩ := hF
              have f28 : a.tmps.getD 28 undef = v := f28
              have f29 : a.tmps.getD 29 undef = .int .i64 ((m : Int)) := f29
              refine rely_wp rfl ?_
              exact opr_toL (k := m) recEl (by have := HNL.out; omega) (rfl) rfl (by rw [eval_tmp, f28]; exact (HV.out.new (NewT.trans _ _ _ HM.out hT))) f29 (fun v hv => hK v _ (NewT.refl _) hv)
            · exact fun a wx hT hF K hK => rely_wp rfl (opr_move (.inl rfl) (hK _ _ (NewT.refl _) hF.1))
            · exact fun a wx hT hF K hK => rely_wp rfl (opr_cv (Only_cv _ R (k : Int) wx (hR.out ▸ hF.1) (by have := HRL.out; omega) HRX.out) rfl Try.func19 (by kernel_rfl) (by kernel_rfl) (evs2 rfl hF.2.1) hK)
            · exact fun a wx hT hF K hK => rely_wp rfl (opr_move (.inr rfl) (hK _ _ (NewT.refl _) hF.1))
            · intro w8 k8
              iterate 2 (intro u h; obtain rfl := Eq.symm (h (by simp)); clear h)
              intro _ _
              intro u h; obtain rfl := Eq.symm (h (by simp)); clear h
              intro _ _
              intro u9 h; have g9 := h (by simp); clear h; replace g9 := show (svL 109 rcE (onlyL R k)).pred u9 w8 from g9
              refine relyEnd_nil rfl ?_
              refine wpList_end rfl ?_
              simp only [Act.put, List.setIfInBounds_toArray, List.set_cons_zero, List.set_cons_succ]
              go_simp
              replace Rg5 := Lib.hid (k8.row Rg5.out)
              replace HM := Lib.hid (NewT.trans _ _ _ HM.out k8)
              clear k8
              have HOV : Hid (RdR w8 u9 (onlyL R k)) := Lib.hid g9
              have HB2 := HM
              replace HM := Lib.hid (NewT.refl w8)
              have HS6 := Lib.hid (HS5.out.new HB2.out)
              go_upto_region 11 with fail
              refine wp_region_steps0 NewT [SV.eq (.int .i64 ((sumO R k : Nat))), SV.eq (u9), SV.eq (.int .i64 ((List.length (onlyL R k) : Int))), SV.eq (.int .i64 ((sumO R (k + 1) : Nat))), SV.eq (.int .i64 ((sumO R (k + 1) : Nat)))] [([(7, none)], none), ([(9, none)], none), ([(34, some 1)], none), ([(33, some 0), (35, some 2)], none), ([(36, some 3)], none)] 68 5 rfl rfl (by kernel_rfl) NewT.trans (NewT.refl _) (Nat.le_of_ble_eq_true rfl) ⟨?_, ?_, ?_, ?_, ?_, trivial⟩ ?_
              · exact fun a wx hT hF K hK => rely_wp rfl (opr_move (.inl rfl) (hK _ _ (NewT.refl _) hF.1))
              · exact fun a wx hT hF K hK => rely_wp rfl (opr_move (.inl rfl) (hK _ _ (NewT.refl _) hF.1))
              · intro a wx hT hF K hK
                obtain ⟨f34, _⟩ := hF
                have f34 : a.tmps.getD 34 undef = u9 := f34
                refine rely_wp rfl ?_
                exact opr_lenL rfl recEl (by rw [eval_tmp, f34]; exact (HOV.out.new (NewT.trans _ _ _ HM.out hT))) (hK _ _ (NewT.refl _) rfl)
              · exact fun a wx hT hF K hK => rely_wp rfl (opr_add (r := (sumO R (k + 1) : Nat)) Try.underlying3 (by have h1 := HSK.out; have h2 := HOL.out; have h3 : sumO R (k + 1) = sumO R k + (onlyL R k).length := rfl; unfold wrap64; omega) rfl hF.1 hF.2.1 (hK _ _ (NewT.refl _) rfl))
              · exact fun a wx hT hF K hK => rely_wp rfl (opr_move (.inr rfl) (hK _ _ (NewT.refl _) hF.1))
              · intro w9 k9
                iterate 5 (intro u h; obtain rfl := Eq.symm (h (by simp)); clear h)
                refine relyEnd_nil rfl ?_
                refine wpList_end rfl ?_
                simp only [Act.put, List.setIfInBounds_toArray, List.set_cons_zero, List.set_cons_succ]
                go_simp
                replace Rg5 := Lib.hid (k9.row Rg5.out)
                replace HM := Lib.hid (NewT.trans _ _ _ HM.out k9)
                clear k9
                go_upto_region 12 with fail
                refine wp_region_steps0 NewT [SV.eq (u9), SV.eq (.int .i64 ((List.length (onlyL R k) : Int))), SV.eq (.pointer (some ⟨g5, 4, none⟩)), SV.eq (s5), SV.eq (.int .i64 ((k : Int))), svEl 10 sgE (p), svIp (p.2.sq), SV.eq (.int .i64 (p.2.sq)), SV.eq (.bool false)] [([(9, none)], none), ([(37, some 0)], none), ([(5, none)], none), ([(39, some 2)], none), ([(8, none)], none), ([(40, some 3), (41, some 4)], none), ([(42, some 5)], none), ([(43, some 6)], none), ([(38, some 1), (44, some 7)], none)] 68 9 rfl rfl (by kernel_rfl) NewT.trans (NewT.refl _) (Nat.le_of_ble_eq_true rfl) ⟨?_, ?_, ?_, ?_, ?_, ?_, ?_, ?_, ?_, trivial⟩ ?_
                · exact fun a wx hT hF K hK => rely_wp rfl (opr_move (.inl rfl) (hK _ _ (NewT.refl _) hF.1))
                · intro a wx hT hF K hK
                  obtain ⟨f37, _⟩ := hF
                  have f37 : a.tmps.getD 37 undef = u9 := f37
                  refine rely_wp rfl ?_
                  exact opr_lenL rfl recEl (by rw [eval_tmp, f37]; exact (HOV.out.new (NewT.trans _ _ _ HM.out hT))) (hK _ _ (NewT.refl _) rfl)
                · exact fun a wx hT hF K hK => rely_wp rfl (opr_fldK1 rfl hF.1 (hK _ _ (NewT.refl _) rfl))
                · exact fun a wx hT hF K hK => rely_wp rfl (opr_ldUs (hT.row Rg5.out) (by decide) rfl rfl hF.1 (hK _ _ (NewT.refl _) rfl))
                · exact fun a wx hT hF K hK => rely_wp rfl (opr_move (.inl rfl) (hK _ _ (NewT.refl _) hF.1))
                · intro a wx hT hF K hK
                  obtain ⟨f40, f41, _⟩ := hF
                  have f40 : a.tmps.getD 40 undef = s5 := f40
                  have f41 : a.tmps.getD 41 undef = .int .i64 ((k : Int)) := f41
                  refine rely_wp rfl ?_
                  exact opr_idxL (i := k) (p := p) sagaEl (HPP.out) (rfl) rfl (by rw [eval_tmp, f40]; exact (HS6.out.new (NewT.trans _ _ _ HM.out hT)).rd) f41 (fun v hv => hK v _ (NewT.refl _) hv)
                · exact fun a wx hT hF K hK => rely_wp rfl (opr_fldUe9 rfl hF.1 (fun u hu => hK u _ (NewT.refl _) hu))
                · exact fun a wx hT hF K hK => rely_wp rfl (opr_ldIp rfl hF.1 (hK _ _ (NewT.refl _) rfl))
                · exact fun a wx hT hF K hK => rely_wp rfl (opr_cmp (b := false) (.inr (.inl ⟨rfl, (by rw [HSQ.out]; simp)⟩)) Try.underlying3 rfl hF.1 hF.2.1 (hK _ _ (NewT.refl _) rfl))
                · intro w10 k10
                  iterate 5 (intro u h; obtain rfl := Eq.symm (h (by simp)); clear h)
                  iterate 2 (intro _ _)
                  iterate 2 (intro u h; obtain rfl := Eq.symm (h (by simp)); clear h)
                  refine relyEnd_nil rfl ?_
                  refine wpList_end rfl ?_
                  simp only [Act.put, List.setIfInBounds_toArray, List.set_cons_zero, List.set_cons_succ]
                  go_simp
                  replace Rg5 := Lib.hid (k10.row Rg5.out)
                  replace HM := Lib.hid (NewT.trans _ _ _ HM.out k10)
                  clear k10
                  have hBM := NewT.trans _ _ _ HB2.out HM.out
                  have it2 := HIT.out
                  go_wp2
                  go_roundw
                  case rel => exact ⟨k + 1, by omega, rfl, by go_num, Lib.hid hBM, by first | exact Rg5 | trivial⟩
                  case measure => simp [intOf]; omega
end Go.Proofs.Ytilmeffmdgcblaa
