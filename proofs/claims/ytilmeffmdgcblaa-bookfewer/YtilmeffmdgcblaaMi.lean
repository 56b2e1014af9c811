/- What stands behind records that go, on lists: each saga's own records make it, they are as many as its number says, and a record more turns one saga, or an epoch. No program is named here. -/
import Derived.Test.YtilmeffmdgcblaaMe
import Derived.Test.YtilmeffmdgcblaaMb
import Derived.Test.YtilmeffmdgcblaaMh
import Derived.Test.YtilmeffmdgcblaaMg
set_option linter.all false
namespace Go.Proofs.Ytilmeffmdgcblaa
open Go Go.RowKit
set_option maxRecDepth 8000
set_option linter.all false
theorem only_app (R : List Rc) (x : Rc) (n : Int) : onlyL (R ++ [x]) n = onlyL R n ++ (if isOf n x = true then [x] else []) := by
  unfold onlyL
  rw [List.filter_append]
  congr 1
  cases h : isOf n x <;> simp [h]
theorem isOf_rot {x : Rc} (h : x.kind = 6) (n : Int) : isOf n x = false := by
  unfold isOf ofB
  have : inR x.kind 1 5 = false := by
    cases e : inR x.kind 1 5 with
    | false => rfl
    | true => have := (inR_iff _ _ _).1 e; omega
  rw [this]; rfl
theorem isOf_saga {x : Rc} (h : 1 ≤ x.kind ∧ x.kind ≤ 5) (n : Int) : isOf n x = (x.saga == n) := by
  unfold isOf ofB
  rw [(inR_iff _ _ _).2 h]; rfl
/-- How a saga stands behind the first of its records. -/
def gN (lim : Int) (l : List (Int × Int)) (xs : List Rc) (j : Nat) : Sg := (xs.take j).foldl (wentG l lim) (ofSt st0 1)
theorem gN_succ {lim : Int} {l : List (Int × Int)} {xs : List Rc} {j : Nat} {x : Rc} (hx : xs[j]? = some x) : gN lim l xs (j + 1) = wentG l lim (gN lim l xs j) x := by
  unfold gN
  rw [List.take_add_one, hx, List.foldl_append]; rfl
theorem gN_app {lim : Int} {l : List (Int × Int)} {xs : List Rc} {x : Rc} {j : Nat} (hj : j ≤ xs.length) : gN lim l (xs ++ [x]) j = gN lim l xs j := by
  unfold gN
  rw [List.take_append_of_le_length hj]
/-- A saga stands as its own records make it. -/
def ApartS (lim : Int) (n : Nat) (p : Ug) (own : List Rc) : Prop :=
  ∃ x0 xs, own = x0 :: xs ∧ x0.kind = 1 ∧ x0.steps = p.1 ∧ gN lim p.1 xs xs.length = p.2 ∧ (∀ (j : Nat) (x : Rc), xs[j]? = some x → goesB p.1 lim (gN lim p.1 xs j) x = true) ∧ ∀ j, j ≤ xs.length → GoodS lim n (p.1, gN lim p.1 xs j)
structure Stands (lim : Int) (n : Nat) (K : Bk) (R : List Rc) : Prop where
  apart : ∀ (k : Nat) (p : Ug), K.sg[k]? = some p → ApartS lim n p (onlyL R k)
  none : ∀ k : Nat, K.sg.length ≤ k → onlyL R k = []
  many : ∀ (k : Nat) (p : Ug), K.sg[k]? = some p → p.2.sq = ((onlyL R k).length : Int)
def sumO (R : List Rc) : Nat → Nat
  | 0 => 0
  | m + 1 => sumO R m + (onlyL R (m : Int)).length
def sumE (ep : Nat → Int) : Nat → Int
  | 0 => 0
  | m + 1 => sumE ep m + ep m
theorem ApartS.more {lim : Int} {n m : Nat} {p : Ug} {own : List Rc} (h : ApartS lim n p own) (hn : n ≤ m) : ApartS lim m p own := by
  obtain ⟨x0, xs, h1, h2, h3, h4, h5, h6⟩ := h
  exact ⟨x0, xs, h1, h2, h3, h4, h5, fun j hj => (h6 j hj).more hn⟩
theorem stands_step {lim : Int} {n : Nat} {K : Bk} {R : List Rc} {x : Rc} (hG : Good lim n K) (hS : Stands lim n K R) (h : goesK lim K x = true) : Stands lim (n + 1) (wentK lim K x) (R ++ [x]) := by
  have hG2 := good_step hG h
  obtain ⟨hl, hr, hw⟩ := goes_lim h
  rw [went_goes h] at hG2 ⊢
  rcases way_cases hr hw with ⟨h1, h2, h3, e⟩ | ⟨h1, h2, e⟩ | ⟨h1, k, p, h2, h3, h4, e⟩
  · have hof : ∀ j : Nat, isOf (j : Int) x = decide (j = K.sg.length) := fun j => by
      rw [isOf_saga (by omega), h2]
      by_cases hj : j = K.sg.length
      · subst hj; simp
      · rw [decide_eq_false hj]; simpa using (show ¬ (K.sg.length : Int) = (j : Int) by omega)
    rw [e] at hG2 ⊢
    refine ⟨fun j q hq => ?_, fun j hj => ?_, fun j q hq => ?_⟩
    · by_cases hj : j < K.sg.length
      · have hq' : K.sg[j]? = some q := by rw [List.getElem?_append_left hj] at hq; exact hq
        rw [only_app, hof, decide_eq_false (by omega), if_neg (by simp), List.append_nil]
        exact (hS.apart j q hq').more (by omega)
      · have hlt := (List.getElem?_eq_some_iff.1 hq).1
        simp at hlt
        obtain rfl : j = K.sg.length := by omega
        simp at hq
        subst hq
        rw [only_app, hof, decide_eq_true rfl, if_pos rfl, hS.none _ (Nat.le_refl _)]
        refine ⟨x, [], rfl, h1, rfl, rfl, fun j y hy => by simp at hy, fun j hj => ?_⟩
        have : j = 0 := by simpa using hj
        subst this
        exact hG2.sg _ (by simp [gN])
    · have hj' : K.sg.length + 1 ≤ j := by simpa using hj
      rw [only_app, hof, decide_eq_false (by omega), if_neg (by simp), List.append_nil]
      exact hS.none j (by omega)
    · by_cases hj : j < K.sg.length
      · have hq' : K.sg[j]? = some q := by rw [List.getElem?_append_left hj] at hq; exact hq
        rw [only_app, hof, decide_eq_false (by omega), if_neg (by simp), List.append_nil]
        exact hS.many j q hq'
      · have hlt := (List.getElem?_eq_some_iff.1 hq).1
        simp at hlt
        obtain rfl : j = K.sg.length := by omega
        simp at hq
        subst hq
        rw [only_app, hof, decide_eq_true rfl, if_pos rfl, hS.none _ (Nat.le_refl _)]
        rfl
  · have hno : ∀ j : Int, onlyL (R ++ [x]) j = onlyL R j := fun j => by rw [only_app, isOf_rot h1, if_neg (by simp), List.append_nil]
    rw [e]
    exact ⟨fun j q hq => by rw [hno]; exact (hS.apart j q hq).more (by omega), fun j hj => by rw [hno]; exact hS.none j hj, fun j q hq => by rw [hno]; exact hS.many j q hq⟩
  · have hof : ∀ j : Nat, isOf (j : Int) x = decide (j = k) := fun j => by
      rw [isOf_saga (by omega), h2]
      by_cases hj : j = k
      · subst hj; simp
      · rw [decide_eq_false hj]; simpa using (show ¬ (k : Int) = (j : Int) by omega)
    have hkl := (List.getElem?_eq_some_iff.1 h3).1
    rw [e] at hG2 ⊢
    have hgs := hG2.sg (p.1, wentG p.1 lim p.2 x) (List.mem_of_getElem? (show (K.sg.set k _)[k]? = _ from List.getElem?_set_self hkl))
    refine ⟨fun j q hq => ?_, fun j hj => ?_, fun j q hq => ?_⟩
    · by_cases hj : j = k
      · subst hj
        have hq' : (K.sg.set j (p.1, wentG p.1 lim p.2 x))[j]? = some q := hq
        rw [List.getElem?_set_self hkl] at hq'
        cases hq'
        rw [only_app, hof, decide_eq_true rfl, if_pos rfl]
        obtain ⟨x0, xs, e1, e2, e3, e4, e5, e6⟩ := hS.apart j p h3
        have hlast : (xs ++ [x])[xs.length]? = some x := by simp
        have hend : gN lim p.1 (xs ++ [x]) (xs.length + 1) = wentG p.1 lim p.2 x := by rw [gN_succ hlast, gN_app (Nat.le_refl _), e4]
        refine ⟨x0, xs ++ [x], by rw [e1]; rfl, e2, e3, by rw [List.length_append]; exact hend, fun i y hy => ?_, fun i hi => ?_⟩
        · by_cases hi : i < xs.length
          · rw [List.getElem?_append_left hi] at hy
            show goesB p.1 lim (gN lim p.1 (xs ++ [x]) i) y = true
            rw [gN_app (by omega)]
            exact e5 i y hy
          · have hlt := (List.getElem?_eq_some_iff.1 hy).1
            simp at hlt
            obtain rfl : i = xs.length := by omega
            rw [hlast] at hy
            cases hy
            show goesB p.1 lim (gN lim p.1 (xs ++ [x]) xs.length) x = true
            rw [gN_app (Nat.le_refl _), e4]
            exact h4
        · by_cases hi2 : i ≤ xs.length
          · show GoodS lim (n + 1) (p.1, gN lim p.1 (xs ++ [x]) i)
            rw [gN_app hi2]
            exact (e6 i hi2).more (by omega)
          · rw [List.length_append] at hi
            simp at hi
            obtain rfl : i = xs.length + 1 := by omega
            show GoodS lim (n + 1) (p.1, gN lim p.1 (xs ++ [x]) (xs.length + 1))
            rw [hend]
            exact hgs
      · have hq' : (K.sg.set k (p.1, wentG p.1 lim p.2 x))[j]? = some q := hq
        rw [List.getElem?_set_ne (Ne.symm hj)] at hq'
        rw [only_app, hof, decide_eq_false hj, if_neg (by simp), List.append_nil]
        exact (hS.apart j q hq').more (by omega)
    · have hj' : K.sg.length ≤ j := by simpa using hj
      rw [only_app, hof, decide_eq_false (by omega), if_neg (by simp), List.append_nil]
      exact hS.none j hj'
    · by_cases hj : j = k
      · subst hj
        have hq' : (K.sg.set j (p.1, wentG p.1 lim p.2 x))[j]? = some q := hq
        rw [List.getElem?_set_self hkl] at hq'
        cases hq'
        rw [only_app, hof, decide_eq_true rfl, if_pos rfl, List.length_append]
        have hm := hS.many j p h3
        show (wentG p.1 lim p.2 x).sq = _
        have : (wentG p.1 lim p.2 x).sq = p.2.sq + 1 := went_sq h4
        rw [this, hm]
        simp
      · have hq' : (K.sg.set k (p.1, wentG p.1 lim p.2 x))[j]? = some q := hq
        rw [List.getElem?_set_ne (Ne.symm hj)] at hq'
        rw [only_app, hof, decide_eq_false hj, if_neg (by simp), List.append_nil]
        exact hS.many j q hq'
where
  went_sq {l : List (Int × Int)} {lim : Int} {g : Sg} {x : Rc} (h : goesB l lim g x = true) : (wentG l lim g x).sq = g.sq + 1 := by
    unfold wentG
    rw [if_pos h]
    unfold behG lapG refG wellG turnG begG
    repeat' split
    all_goals rfl
theorem sumO_rot {R : List Rc} {x : Rc} (h : x.kind = 6) : ∀ m, sumO (R ++ [x]) m = sumO R m
  | 0 => rfl
  | m + 1 => by
    show sumO (R ++ [x]) m + (onlyL (R ++ [x]) m).length = sumO R m + (onlyL R m).length
    rw [sumO_rot h m, only_app, isOf_rot h, if_neg (by simp), List.append_nil]
theorem sumO_saga {R : List Rc} {x : Rc} {s : Nat} (h : 1 ≤ x.kind ∧ x.kind ≤ 5) (hs : x.saga = (s : Int)) : ∀ m, sumO (R ++ [x]) m = sumO R m + (if s < m then 1 else 0)
  | 0 => rfl
  | m + 1 => by
    show sumO (R ++ [x]) m + (onlyL (R ++ [x]) m).length = sumO R m + (onlyL R m).length + _
    rw [sumO_saga h hs m, only_app, isOf_saga h, hs]
    by_cases e : s = m
    · subst e
      have h1 : ((s : Int) == (s : Int)) = true := by simp
      have h2 : ¬ s < s := Nat.lt_irrefl s
      have h3 : s < s + 1 := Nat.lt_succ_self s
      rw [if_neg h2, if_pos h3, if_pos h1, List.length_append]
      show sumO R s + 0 + ((onlyL R s).length + 1) = _
      omega
    · have h1 : ¬ ((s : Int) == (m : Int)) = true := by
        intro h
        have := eq_of_beq h
        omega
      rw [if_neg h1, List.append_nil]
      by_cases e2 : s < m
      · have h3 : s < m + 1 := by omega
        rw [if_pos e2, if_pos h3]; omega
      · have h3 : ¬ s < m + 1 := by omega
        rw [if_neg e2, if_neg h3]; rfl
theorem sumE_set {ep : Nat → Int} {c : Nat} {z : Int} (h : c < 4) : sumE (fun i => if i = c then z else ep i) 4 = sumE ep 4 + (z - ep c) := by
  have : c = 0 ∨ c = 1 ∨ c = 2 ∨ c = 3 := by omega
  rcases this with rfl | rfl | rfl | rfl <;> simp [sumE] <;> omega
theorem sumO_le (R : List Rc) : ∀ m, sumO R m ≤ m * R.length
  | 0 => by simp [sumO]
  | m + 1 => by
    have h1 := sumO_le R m
    have h2 : (onlyL R m).length ≤ R.length := List.length_filter_le _ _
    show sumO R m + (onlyL R m).length ≤ _
    rw [Nat.succ_mul]
    omega
def totalK (K : Bk) (R : List Rc) : Int := (sumO R K.sg.length : Int) + sumE K.ep 4
theorem total_step {lim : Int} {n : Nat} {K : Bk} {R : List Rc} {x : Rc} (hS : Stands lim n K R) (h : goesK lim K x = true) (ht : totalK K R = n) : totalK (wentK lim K x) (R ++ [x]) = ((n + 1 : Nat) : Int) := by
  obtain ⟨hl, hr, hw⟩ := goes_lim h
  rw [went_goes h]
  unfold totalK at ht ⊢
  rcases way_cases hr hw with ⟨h1, h2, h3, e⟩ | ⟨h1, h2, e⟩ | ⟨h1, k, p, h2, h3, h4, e⟩
  · rw [e]
    show ((sumO (R ++ [x]) (K.sg ++ [_]).length : Nat) : Int) + sumE K.ep 4 = _
    rw [sumO_saga (by omega) h2, List.length_append]
    show ((sumO R (K.sg.length + 1) + (if K.sg.length < K.sg.length + 1 then 1 else 0) : Nat) : Int) + _ = _
    rw [if_pos (by omega)]
    have : sumO R (K.sg.length + 1) = sumO R K.sg.length := by
      show sumO R K.sg.length + (onlyL R K.sg.length).length = _
      rw [hS.none _ (Nat.le_refl _)]; rfl
    omega
  · rw [e]
    show ((sumO (R ++ [x]) K.sg.length : Nat) : Int) + sumE (fun i => if i = x.part.toNat then x.epoch else K.ep i) 4 = _
    rw [sumO_rot h1, sumE_set (by have := right_part hr; omega), h2]
    omega
  · rw [e]
    show ((sumO (R ++ [x]) (K.sg.set k _).length : Nat) : Int) + sumE K.ep 4 = _
    have hkl := (List.getElem?_eq_some_iff.1 h3).1
    rw [sumO_saga (by omega) h2, List.length_set, if_pos hkl]
    omega
theorem stands_up {lim : Int} {l : List Rc} : ∀ (k : Nat), nOf lim zK (l.take k) = k → k ≤ l.length → Stands lim k (upK lim zK (l.take k)) (l.take k) ∧ totalK (upK lim zK (l.take k)) (l.take k) = k
  | 0, _, _ => ⟨⟨fun k p h => by simp [upK, zK] at h, fun k _ => rfl, fun k p h => by simp [upK, zK] at h⟩, rfl⟩
  | k + 1, h, hk => by
    have hx : l[k]? = some l[k] := List.getElem?_eq_getElem (by omega)
    have h1 : nOf lim zK (l.take k) = k := by
      have := nOf_take lim (l.take (k + 1)) zK k (by omega)
      rwa [List.take_take, Nat.min_eq_left (by omega)] at this
    obtain ⟨hS, ht⟩ := stands_up k h1 (by omega)
    have hg : goesK lim (upK lim zK (l.take k)) l[k] = true := by
      have := nOf_goes lim (l.take (k + 1)) zK k l[k] (by rw [List.getElem?_take_of_lt (by omega)]; exact hx) (by omega)
      rwa [List.take_take, Nat.min_eq_left (by omega)] at this
    have hR : l.take (k + 1) = l.take k ++ [l[k]] := by rw [List.take_add_one, hx]; rfl
    rw [upK_succ hx, hR]
    exact ⟨stands_step (good_up k h1 (by omega)) hS hg, total_step hS hg ht⟩
theorem stands_of (lim : Int) (l : List Rc) : Stands lim (nOf lim zK l) (bkOf lim l) (l.take (nOf lim zK l)) ∧ totalK (bkOf lim l) (l.take (nOf lim zK l)) = nOf lim zK l := stands_up _ (nOf_take lim l zK _ (Nat.le_refl _)) (nOf_le lim l zK)
end Go.Proofs.Ytilmeffmdgcblaa
/- A record more turns one saga, or an epoch, alone: on lists. No program is named here. -/
namespace Go.Proofs.Ytilmeffmdgcblaa
open Go Go.RowKit
set_option maxRecDepth 8000
set_option linter.all false
/-- How many sagas differ. -/
def difU (L M : List Ug) : Nat → Nat
  | 0 => 0
  | k + 1 => difU L M k + (bif eqU (L.getD k zU) (M.getD k zU) then 0 else 1)
theorem difU_le (L M : List Ug) : ∀ k, difU L M k ≤ k
  | 0 => Nat.le_refl _
  | k + 1 => by
    have := difU_le L M k
    show difU L M k + (bif eqU (L.getD k zU) (M.getD k zU) then 0 else 1) ≤ k + 1
    cases eqU (L.getD k zU) (M.getD k zU) <;> simp <;> omega
theorem difU_same {L M : List Ug} : ∀ k, (∀ i, i < k → L.getD i zU = M.getD i zU) → difU L M k = 0
  | 0, _ => rfl
  | k + 1, h => by
    show difU L M k + (bif eqU (L.getD k zU) (M.getD k zU) then 0 else 1) = 0
    rw [difU_same k (fun i hi => h i (by omega)), h k (by omega), eqU_self]; rfl
theorem difU_one {L M : List Ug} {s : Nat} (hs : eqU (L.getD s zU) (M.getD s zU) = false) : ∀ k, (∀ i, i < k → i ≠ s → L.getD i zU = M.getD i zU) → difU L M k = if s < k then 1 else 0
  | 0, _ => by rw [if_neg (by omega)]; rfl
  | k + 1, h => by
    show difU L M k + (bif eqU (L.getD k zU) (M.getD k zU) then 0 else 1) = _
    rw [difU_one hs k (fun i hi => h i (by omega))]
    by_cases e : s = k
    · subst e
      rw [hs, if_neg (by omega), if_pos (by omega)]; rfl
    · rw [h k (by omega) (Ne.symm e), eqU_self]
      by_cases e2 : s < k
      · rw [if_pos e2, if_pos (by omega)]; rfl
      · rw [if_neg e2, if_neg (by omega)]; rfl
theorem eqU_sq {p q : Ug} (h : p.2.sq ≠ q.2.sq) : eqU p q = false := by
  unfold eqU sameG
  rw [Bool.and_eq_false_iff]
  right
  exact beq_eq_false_iff_ne.2 h
theorem fewer {lim : Int} {K : Bk} {x : Rc} (h : goesK lim K x = true) : K.sg.length ≤ (wentK lim K x).sg.length ∧ (((wentK lim K x).sg.length : Int) - K.sg.length) + difU K.sg (wentK lim K x).sg K.sg.length + (sumE (wentK lim K x).ep 4 - sumE K.ep 4) = 1 := by
  obtain ⟨hl, hr, hw⟩ := goes_lim h
  rw [went_goes h]
  rcases way_cases hr hw with ⟨h1, h2, h3, e⟩ | ⟨h1, h2, e⟩ | ⟨h1, k, p, h2, h3, h4, e⟩
  · rw [e]
    have : difU K.sg (K.sg ++ [(x.steps, ofSt st0 1)]) K.sg.length = 0 := difU_same _ fun i hi => by
      simp only [List.getD]
      rw [List.getElem?_append_left hi]
    refine ⟨by simp, ?_⟩
    show (((K.sg ++ [_]).length : Nat) : Int) - _ + ((difU K.sg (K.sg ++ [_]) K.sg.length : Nat) : Int) + (sumE K.ep 4 - sumE K.ep 4) = 1
    rw [this, List.length_append]
    simp
    omega
  · rw [e]
    have : difU K.sg K.sg K.sg.length = 0 := difU_same _ fun i _ => rfl
    refine ⟨Nat.le_refl _, ?_⟩
    show ((K.sg.length : Nat) : Int) - _ + ((difU K.sg K.sg K.sg.length : Nat) : Int) + (sumE (fun i => if i = x.part.toNat then x.epoch else K.ep i) 4 - sumE K.ep 4) = 1
    rw [this, sumE_set (by have := right_part hr; omega), h2]
    omega
  · rw [e]
    have hkl := (List.getElem?_eq_some_iff.1 h3).1
    have hd : difU K.sg (K.sg.set k (p.1, wentG p.1 lim p.2 x)) K.sg.length = 1 := by
      rw [difU_one (s := k) ?_ _ fun i hi hne => by simp only [List.getD]; rw [List.getElem?_set_ne (Ne.symm hne)]]
      · rw [if_pos hkl]
      · rw [getD_of h3, getD_of (List.getElem?_set_self hkl)]
        refine eqU_sq ?_
        show p.2.sq ≠ (wentG p.1 lim p.2 x).sq
        rw [stands_step.went_sq h4]
        omega
    refine ⟨by simp, ?_⟩
    show (((K.sg.set k _).length : Nat) : Int) - _ + ((difU K.sg (K.sg.set k _) K.sg.length : Nat) : Int) + (sumE K.ep 4 - sumE K.ep 4) = 1
    rw [hd, List.length_set]
    omega
theorem bkOf_take {lim : Int} {l : List Rc} {k : Nat} (h : k ≤ nOf lim zK l) : nOf lim zK (l.take k) = k ∧ bkOf lim (l.take k) = upK lim zK (l.take k) := by
  have h1 := nOf_take lim l zK k h
  refine ⟨h1, ?_⟩
  unfold bkOf
  rw [h1, List.take_take, Nat.min_self]
end Go.Proofs.Ytilmeffmdgcblaa
/- Single operations: a byte turned into a number, remainders. -/
namespace Go.Proofs.Ytilmeffmdgcblaa
open Go Go.RowKit
set_option maxRecDepth 8000
set_option linter.all false
section
variable {a : Act} {w : World} {o : Oper} {K : Act → World → Prop} {Q : Exit → Act → World → Prop} {x y : Operand}
theorem opr_cv8 {n : Int} (hn : 0 ≤ n ∧ n ≤ 255) (ho : o.op = .convert 5 3 x) (hx : a.eval x = .int .u8 n) (h : K (a.put o.dst (.int .i64 n)) w) : o.wp Try.prog a w K Q := by
  obtain ⟨dst, op, type, pos, after, guard⟩ := o
  simp only at ho
  subst ho
  refine opr_val (s := convert 5 3 (a.eval x)) rfl ?_ h
  rw [hx]
  have hw : IntKind.i64.wrap n = n := by simp [IntKind.wrap, IntKind.bits, IntKind.signed]; omega
  simp [go_sem, hw]
theorem opr_rem {m n r : Int} {t2 : TypeId} (hm : 0 ≤ m ∧ m ≤ 1000000) (hn : 0 < n ∧ n ≤ 1000) (hr : m % n = r) (ho : o.op = .binOp .rem 3 x y t2) (hx : a.eval x = .int .i64 m) (hy : a.eval y = .int .i64 n) (h : K (a.put o.dst (.int .i64 r)) w) : o.wp Try.prog a w K Q := by
  obtain ⟨dst, op, type, pos, after, guard⟩ := o
  simp only at ho
  subst ho hr
  refine opr_val (s := do eqGuard .rem 3 x y (a.eval x) (a.eval y); binOp .rem 3 (a.eval x) (a.eval y)) rfl ?_ h
  rw [hx, hy]
  have h0 : n ≠ 0 := by omega
  have ht : Int.tmod m n = m % n := Int.tmod_eq_emod_of_nonneg hm.1
  have hw : IntKind.i64.wrap (m % n) = m % n := by
    have h1 := Int.emod_nonneg m h0
    have h2 := Int.emod_lt_of_pos m hn.1
    simp [IntKind.wrap, IntKind.bits, IntKind.signed]; omega
  simp [go_sem, h0, ht, hw]
end
end Go.Proofs.Ytilmeffmdgcblaa
/- The law BookFewer, walked: the first of records that go, go, and come to the book that stood there; each record more turns one saga, or an epoch, alone. -/
namespace Go.Proofs.Ytilmeffmdgcblaa
open Go Go.RowKit
set_option maxRecDepth 8000
set_option linter.all false
set_option maxHeartbeats 8000000 in
theorem BookFewer_walk (v : Value) (l : List Rc) (lim at_ : Int) (w : World) (h : RdR w v l) (h8 : 0 ≤ at_ ∧ at_ ≤ 255) : Calls Try.prog 5 #[v, .int .i64 lim, .int .u8 at_] w fun e w' => e = .returned (.bool true) ∧ Below w.heap.size w w' := by
  have HV := Lib.hid h
  have HAT8 := Lib.hid h8
  clear h h8
  go_enter Try.func5, Try.ntmps5
  go_upto_region 1 with fail
  have HB := Lib.hid (NewT.refl w)
  have HM := Lib.hid (NewT.refl w)
  refine wp_region_steps0 NewT [SV.eq (.bool true), SV.eq (.bool false)] [([], none), ([(17, some 0)], none)] 117 2 rfl rfl (by kernel_rfl) NewT.trans (NewT.refl _) (Nat.le_of_ble_eq_true rfl) ⟨?_, ?_, trivial⟩ ?_
  · exact fun a wx hT hF K hK => rely_wp rfl (opr_cv (alive12_c wx) rfl Try.func8 (by kernel_rfl) (by kernel_rfl) evs0 hK)
  · exact fun a wx hT hF K hK => rely_wp rfl (opr_not rfl hF.1 (hK _ _ (NewT.refl _) rfl))
  · intro w1 k1
    iterate 2 (intro u h; obtain rfl := Eq.symm (h (by simp)); clear h)
    refine relyEnd_nil rfl ?_
    refine wpList_end rfl ?_
    simp only [Act.put, List.setIfInBounds_toArray, List.set_cons_zero, List.set_cons_succ]
    go_simp
    replace HM := Lib.hid (NewT.trans _ _ _ HM.out k1)
    clear k1
    go_upto_region 3 with fail
    refine wp_region_steps0 NewT [SV.eq (v), SV.eq (.bool (greatL l))] [([(0, none)], none), ([(19, some 0)], none)] 117 2 rfl rfl (by kernel_rfl) NewT.trans (NewT.refl _) (Nat.le_of_ble_eq_true rfl) ⟨?_, ?_, trivial⟩ ?_
    · exact fun a wx hT hF K hK => rely_wp rfl (opr_move (.inl rfl) (hK _ _ (NewT.refl _) hF.1))
    · exact fun a wx hT hF K hK => rely_wp rfl (opr_cv (Great_cv _ l wx ((HV.out.new (NewT.trans _ _ _ HM.out hT)))) rfl Try.func9 (by kernel_rfl) (by kernel_rfl) (evs1 hF.1) hK)
    · intro w2 k2
      iterate 2 (intro u h; obtain rfl := Eq.symm (h (by simp)); clear h)
      refine relyEnd_nil rfl ?_
      refine wpList_end rfl ?_
      simp only [Act.put, List.setIfInBounds_toArray, List.set_cons_zero, List.set_cons_succ]
      go_simp
      replace HM := Lib.hid (NewT.trans _ _ _ HM.out k2)
      clear k2
      cases hq : greatL l
      rotate_left
      · clear hq
        go_wp2
        go_ret
        exact ⟨rfl, (NewT.trans _ _ _ HB.out HM.out).out⟩
      have HL150 := Lib.hid (great_not hq).1
      have HXL := Lib.hid (great_not hq).2
      have HNL : Hid (nOf lim zK l ≤ 150 ∧ nOf lim zK l ≤ l.length) := Lib.hid (by have h1 := nOf_le lim l zK; have h2 := (great_not hq).1; omega)
      have HGD := Lib.hid (good_of lim l)
      have HOK : Hid (OkK (bkOf lim l)) := Lib.hid (good_ok (good_of lim l) (by have h1 := nOf_le lim l zK; have h2 := (great_not hq).1; omega))
      clear hq
      obtain ⟨bk, hbk⟩ := hid_ex (bkOf lim l)
      obtain ⟨m, hm⟩ := hid_ex (nOf lim zK l)
      rw [hbk.out] at HOK HGD
      rw [hm.out] at HNL HGD
      go_upto_region 5 with fail
      refine wp_region_steps0 NewT [SV.eq (v), SV.eq (.int .i64 (lim)), svBkRB 0 (bk) (.int .i64 ((m : Int))), svBkRB 0 (bk) (.int .i64 ((m : Int))), svBkB (0) bk, SV.eq (.int .i64 ((m : Int)))] [([(0, none)], none), ([(1, none)], none), ([(22, some 0), (23, some 1)], none), ([(24, some 2)], none), ([(21, some 3)], none), ([(21, some 3)], none)] 117 6 rfl rfl (by kernel_rfl) NewT.trans (NewT.refl _) (Nat.le_of_ble_eq_true rfl) ⟨?_, ?_, ?_, ?_, ?_, ?_, trivial⟩ ?_
      · exact fun a wx hT hF K hK => rely_wp rfl (opr_move (.inl rfl) (hK _ _ (NewT.refl _) hF.1))
      · exact fun a wx hT hF K hK => rely_wp rfl (opr_move (.inl rfl) (hK _ _ (NewT.refl _) hF.1))
      · exact fun a wx hT hF K hK => rely_wp rfl (opr_cv (svBkRB_le (Of_cv _ l lim wx ((HV.out.new (NewT.trans _ _ _ HM.out hT))) (by have := HL150.out; omega)) (hbk.out) (by rw [hm.out])) rfl Try.func10 (by kernel_rfl) (by kernel_rfl) (evs2 hF.1 hF.2.1) hK)
      · exact fun a wx hT hF K hK => rely_wp rfl (opr_move (.inl rfl) (hK _ _ (NewT.refl _) hF.1))
      · exact fun a wx hT hF K hK => rely_wp rfl (opr_extKB0 rfl hF.1 (fun u hu => hK u _ (NewT.refl _) hu))
      · exact fun a wx hT hF K hK => rely_wp rfl (opr_extKB1 rfl hF.1 (hK _ _ (NewT.refl _) rfl))
      · intro w3 k3
        iterate 2 (intro u h; obtain rfl := Eq.symm (h (by simp)); clear h)
        iterate 2 (intro _ _)
        intro u25 h; have g25 := h (by simp); clear h; replace g25 := show (svBkB (0) bk).pred u25 w3 from g25
        intro u h; obtain rfl := Eq.symm (h (by simp)); clear h
        refine relyEnd_nil rfl ?_
        simp only [Act.put, List.setIfInBounds_toArray, List.set_cons_zero, List.set_cons_succ]
        obtain ⟨s5, rfl, hs5⟩ := (show BkVB w3 (0) u25 bk from g25)
        refine wpList_new (n := 5) (f := bkF bk.ep s5) rfl rfl rfl rfl rfl rfl (by first | (simp; done) | simp [Act.put]) run_alloc_book info_book (bkF_one _ _ hs5.rd.one) rfl ?_
        intro W3 hn3 rr3
        simp only [Act.put, List.setIfInBounds_toArray, List.set_cons_zero, List.set_cons_succ]
        refine wpList_plain rfl (fun K hK => ?_)
        refine opr_move (.inr rfl) (hK _ _ ?_)
        clear hK K
        refine wpList_end rfl ?_
        simp only [Act.put, List.setIfInBounds_toArray, List.set_cons_zero, List.set_cons_succ]
        go_simp
        obtain ⟨g5, h_g5⟩ : ∃ g_, w3.heap.size = g_ := ⟨_, rfl⟩
        rw [h_g5] at rr3
        simp only [h_g5]
        have HGg5 : Hid (w.heap.size ≤ g5) := Lib.hid (by rw [← h_g5]; exact (NewT.trans _ _ _ HM.out k3).out.size)
        have q3 := NewT.trans _ _ _ k3 hn3
        have HS5 := Lib.hid (hs5.new hn3)
        clear hs5
        clear k3 hn3 h_g5
        replace HM := Lib.hid (NewT.trans _ _ _ HM.out q3)
        clear q3
        have Rg5 := Lib.hid rr3
        clear rr3
        replace HV := Lib.hid (HV.out.new HM.out)
        replace HB := Lib.hid (NewT.trans _ _ _ HB.out HM.out)
        replace HM := Lib.hid (NewT.refl W3)
        go_upto_region 6 with fail
        refine wp_region_steps0 NewT [SV.eq (.int .i64 (0))] [([], none)] 117 1 rfl rfl (by kernel_rfl) NewT.trans (NewT.refl _) (Nat.le_of_ble_eq_true rfl) ⟨?_, trivial⟩ ?_
        · exact fun a wx hT hF K hK => rely_wp rfl (opr_move (.inr rfl) (hK _ _ (NewT.refl _) rfl))
        · intro w4 k4
          intro u h; obtain rfl := Eq.symm (h (by simp)); clear h
          refine relyEnd_nil rfl ?_
          refine wpList_end rfl ?_
          simp only [Act.put, List.setIfInBounds_toArray, List.set_cons_zero, List.set_cons_succ]
          go_simp
          replace Rg5 := Lib.hid (k4.row Rg5.out)
          replace HM := Lib.hid (NewT.trans _ _ _ HM.out k4)
          clear k4
          go_upto_region 7 with fail
          refine wp_region_steps0 NewT [SV.eq (.int .i64 ((m : Int))), SV.eq (.bool (decide (0 < ((m : Int)))))] [([(8, none)], none), ([(27, some 0)], none)] 117 2 rfl rfl (by kernel_rfl) NewT.trans (NewT.refl _) (Nat.le_of_ble_eq_true rfl) ⟨?_, ?_, trivial⟩ ?_
          · exact fun a wx hT hF K hK => rely_wp rfl (opr_move (.inl rfl) (hK _ _ (NewT.refl _) hF.1))
          · exact fun a wx hT hF K hK => rely_wp rfl (opr_cmp (b := decide (0 < ((m : Int)))) (.inr (.inr (.inr (.inr (.inl ⟨rfl, rfl⟩))))) Try.underlying3 rfl hF.1 rfl (hK _ _ (NewT.refl _) rfl))
          · intro w5 k5
            iterate 2 (intro u h; obtain rfl := Eq.symm (h (by simp)); clear h)
            refine relyEnd_nil rfl ?_
            refine wpList_end rfl ?_
            simp only [Act.put, List.setIfInBounds_toArray, List.set_cons_zero, List.set_cons_succ]
            go_simp
            replace Rg5 := Lib.hid (k5.row Rg5.out)
            replace HM := Lib.hid (NewT.trans _ _ _ HM.out k5)
            clear k5
            obtain ⟨bm, hbm⟩ : ∃ b, decide (0 < m) = b := ⟨_, rfl⟩
            rw [hbm]
            cases bm
            · have hm0 : m = 0 := by have := of_decide_eq_false hbm; omega
              clear hbm
              have HKM : Hid (0 ≤ nOf lim zK l) := Lib.hid (by rw [hm.out]; omega)
              have HTK := Lib.hid (bkOf_take HKM.out)
              have HGA := Lib.hid (good_of lim (l.take 0))
              have HLA : Hid ((l.take 0).length ≤ 150) := Lib.hid (by have h1 := List.length_take_le 0 l; have h2 := HNL.out; omega)
              obtain ⟨ba, hba⟩ := hid_ex (bkOf lim (l.take 0))
              rw [hba.out, HTK.out.1] at HGA
              go_upto_region 9 with fail
              refine wp_region_steps0 NewT [SV.eq (v), SV.eq (.int .i64 (0)), svL 109 rcE (List.take 0 l), SV.eq (.int .i64 (lim)), svBkRB 0 (ba) (.int .i64 ((0 : Nat))), svBkRB 0 (ba) (.int .i64 ((0 : Nat))), svBkB (0) ba, SV.eq (.int .i64 ((0 : Nat)))] [([(0, none)], none), ([(9, none)], none), ([(34, some 0), (35, some 1)], none), ([(1, none)], none), ([(36, some 2), (37, some 3)], none), ([(38, some 4)], none), ([(33, some 5)], none), ([(33, some 5)], none)] 117 8 rfl rfl (by kernel_rfl) NewT.trans (NewT.refl _) (Nat.le_of_ble_eq_true rfl) ⟨?_, ?_, ?_, ?_, ?_, ?_, ?_, ?_, trivial⟩ ?_
              · exact fun a wx hT hF K hK => rely_wp rfl (opr_move (.inl rfl) (hK _ _ (NewT.refl _) hF.1))
              · exact fun a wx hT hF K hK => rely_wp rfl (opr_move (.inl rfl) (hK _ _ (NewT.refl _) hF.1))
              · intro a wx hT hF K hK
                obtain ⟨f34, f35, _⟩ := hF
                have f34 : a.tmps.getD 34 undef = v := f34
                have f35 : a.tmps.getD 35 undef = .int .i64 (0) := f35
                refine rely_wp rfl ?_
                exact opr_toL (k := 0) recEl (by have h1 := HKM.out; have h2 := nOf_le lim l zK; omega) (rfl) rfl (by rw [eval_tmp, f34]; exact (HV.out.new (NewT.trans _ _ _ HM.out hT))) f35 (fun v hv => hK v _ (NewT.refl _) hv)
              · exact fun a wx hT hF K hK => rely_wp rfl (opr_move (.inl rfl) (hK _ _ (NewT.refl _) hF.1))
              · exact fun a wx hT hF K hK => rely_wp rfl (opr_cv (svBkRB_le (Of_cv _ (l.take 0) lim wx (hF.1) (by have := HLA.out; omega)) (hba.out) (by rw [HTK.out.1])) rfl Try.func10 (by kernel_rfl) (by kernel_rfl) (evs2 rfl hF.2.1) hK)
              · exact fun a wx hT hF K hK => rely_wp rfl (opr_move (.inl rfl) (hK _ _ (NewT.refl _) hF.1))
              · exact fun a wx hT hF K hK => rely_wp rfl (opr_extKB0 rfl hF.1 (fun u hu => hK u _ (NewT.refl _) hu))
              · exact fun a wx hT hF K hK => rely_wp rfl (opr_extKB1 rfl hF.1 (hK _ _ (NewT.refl _) rfl))
              · intro w6 k6
                iterate 2 (intro u h; obtain rfl := Eq.symm (h (by simp)); clear h)
                intro _ _
                intro u h; obtain rfl := Eq.symm (h (by simp)); clear h
                iterate 2 (intro _ _)
                intro u39 h; have g39 := h (by simp); clear h; replace g39 := show (svBkB (0) ba).pred u39 w6 from g39
                intro u h; obtain rfl := Eq.symm (h (by simp)); clear h
                refine relyEnd_nil rfl ?_
                simp only [Act.put, List.setIfInBounds_toArray, List.set_cons_zero, List.set_cons_succ]
                obtain ⟨s10, rfl, hs10⟩ := (show BkVB w6 (0) u39 ba from g39)
                refine wpList_new (n := 5) (f := bkF ba.ep s10) rfl rfl rfl rfl rfl rfl (by first | (simp; done) | simp [Act.put]) run_alloc_book info_book (bkF_one _ _ hs10.rd.one) rfl ?_
                intro W6 hn6 rr6
                simp only [Act.put, List.setIfInBounds_toArray, List.set_cons_zero, List.set_cons_succ]
                refine wpList_plain rfl (fun K hK => ?_)
                refine opr_move (.inr rfl) (hK _ _ ?_)
                clear hK K
                refine wpList_end rfl ?_
                simp only [Act.put, List.setIfInBounds_toArray, List.set_cons_zero, List.set_cons_succ]
                go_simp
                obtain ⟨g10, h_g10⟩ : ∃ g_, w6.heap.size = g_ := ⟨_, rfl⟩
                rw [h_g10] at rr6
                simp only [h_g10]
                have HGg10 : Hid (g5 < g10 ∧ W3.heap.size ≤ g10) := Lib.hid (by rw [← h_g10]; exact ⟨(k6.row Rg5.out).lt, (NewT.trans _ _ _ HM.out k6).out.size⟩)
                have q6 := NewT.trans _ _ _ k6 hn6
                have HS10 := Lib.hid (hs10.new hn6)
                clear hs10
                clear k6 hn6 h_g10
                replace Rg5 := Lib.hid (q6.row Rg5.out)
                replace HM := Lib.hid (NewT.trans _ _ _ HM.out q6)
                clear q6
                have Rg10 := Lib.hid rr6
                clear rr6
                replace HV := Lib.hid (HV.out.new HM.out)
                replace HS5 := Lib.hid (HS5.out.new HM.out)
                replace HB := Lib.hid (NewT.trans _ _ _ HB.out HM.out)
                replace HM := Lib.hid (NewT.refl W6)
                go_upto_region 10 with fail
                refine wp_region_steps0 NewT [SV.eq (.int .i64 ((0 : Nat))), SV.eq (.int .i64 (0)), SV.eq (.bool false)] [([(11, none)], none), ([(9, none)], none), ([(41, some 0), (42, some 1)], none)] 117 3 rfl rfl (by kernel_rfl) NewT.trans (NewT.refl _) (Nat.le_of_ble_eq_true rfl) ⟨?_, ?_, ?_, trivial⟩ ?_
                · exact fun a wx hT hF K hK => rely_wp rfl (opr_move (.inl rfl) (hK _ _ (NewT.refl _) hF.1))
                · exact fun a wx hT hF K hK => rely_wp rfl (opr_move (.inl rfl) (hK _ _ (NewT.refl _) hF.1))
                · exact fun a wx hT hF K hK => rely_wp rfl (opr_cmp (b := false) (.inr (.inl ⟨rfl, (by simp)⟩)) Try.underlying3 rfl hF.1 hF.2.1 (hK _ _ (NewT.refl _) rfl))
                · intro w7 k7
                  iterate 3 (intro u h; obtain rfl := Eq.symm (h (by simp)); clear h)
                  refine relyEnd_nil rfl ?_
                  refine wpList_end rfl ?_
                  simp only [Act.put, List.setIfInBounds_toArray, List.set_cons_zero, List.set_cons_succ]
                  go_simp
                  replace Rg5 := Lib.hid (k7.row Rg5.out)
                  replace Rg10 := Lib.hid (k7.row Rg10.out)
                  replace HM := Lib.hid (NewT.trans _ _ _ HM.out k7)
                  clear k7
                  go_upto_region 12 with fail
                  refine wp_region_steps0 NewT [SV.eq (.int .i64 (0)), SV.eq (.bool (0 == 0))] [([(8, none)], none), ([(44, some 0)], none)] 117 2 rfl rfl (by kernel_rfl) NewT.trans (NewT.refl _) (Nat.le_of_ble_eq_true rfl) ⟨?_, ?_, trivial⟩ ?_
                  · exact fun a wx hT hF K hK => rely_wp rfl (opr_move (.inl rfl) (hK _ _ (NewT.refl _) hF.1))
                  · exact fun a wx hT hF K hK => rely_wp rfl (opr_cmp (b := 0 == 0) (.inl ⟨rfl, rfl⟩) Try.underlying3 rfl hF.1 rfl (hK _ _ (NewT.refl _) rfl))
                  · intro w8 k8
                    iterate 2 (intro u h; obtain rfl := Eq.symm (h (by simp)); clear h)
                    refine relyEnd_nil rfl ?_
                    refine wpList_end rfl ?_
                    simp only [Act.put, List.setIfInBounds_toArray, List.set_cons_zero, List.set_cons_succ]
                    go_simp
                    replace Rg5 := Lib.hid (k8.row Rg5.out)
                    replace Rg10 := Lib.hid (k8.row Rg10.out)
                    replace HM := Lib.hid (NewT.trans _ _ _ HM.out k8)
                    clear k8
                    have HA0 : Hid (ba.sg.length = 0) := Lib.hid (by have := HGA.out.len.2; omega)
                    go_upto_region 13 with fail
                    refine wp_region_steps0 NewT [SV.eq (.pointer (some ⟨g10, 4, none⟩)), SV.eq (s10), SV.eq (.int .i64 ((List.length (ba.sg) : Int))), SV.eq (.bool true), SV.eq (.bool true)] [([(10, none)], none), ([(46, some 0)], none), ([(47, some 1)], none), ([(48, some 2)], none), ([(49, some 3)], none)] 117 5 rfl rfl (by kernel_rfl) NewT.trans (NewT.refl _) (Nat.le_of_ble_eq_true rfl) ⟨?_, ?_, ?_, ?_, ?_, trivial⟩ ?_
                    · exact fun a wx hT hF K hK => rely_wp rfl (opr_fldK1 rfl hF.1 (hK _ _ (NewT.refl _) rfl))
                    · exact fun a wx hT hF K hK => rely_wp rfl (opr_ldUs (hT.row Rg10.out) (by decide) rfl rfl hF.1 (hK _ _ (NewT.refl _) rfl))
                    · intro a wx hT hF K hK
                      obtain ⟨f47, _⟩ := hF
                      have f47 : a.tmps.getD 47 undef = s10 := f47
                      refine rely_wp rfl ?_
                      exact opr_lenL rfl sagaEl (by rw [eval_tmp, f47]; exact (HS10.out.new (NewT.trans _ _ _ HM.out hT)).rd) (hK _ _ (NewT.refl _) rfl)
                    · exact fun a wx hT hF K hK => rely_wp rfl (opr_cmp (b := true) (.inl ⟨rfl, (by rw [HA0.out]; rfl)⟩) Try.underlying3 rfl hF.1 rfl (hK _ _ (NewT.refl _) rfl))
                    · exact fun a wx hT hF K hK => rely_wp rfl (opr_move (.inr rfl) (hK _ _ (NewT.refl _) hF.1))
                    · intro w9 k9
                      iterate 5 (intro u h; obtain rfl := Eq.symm (h (by simp)); clear h)
                      refine relyEnd_nil rfl ?_
                      refine wpList_end rfl ?_
                      simp only [Act.put, List.setIfInBounds_toArray, List.set_cons_zero, List.set_cons_succ]
                      go_simp
                      replace Rg5 := Lib.hid (k9.row Rg5.out)
                      replace Rg10 := Lib.hid (k9.row Rg10.out)
                      replace HM := Lib.hid (NewT.trans _ _ _ HM.out k9)
                      clear k9
                      go_wp2
                      go_ret
                      exact ⟨rfl, (NewT.trans _ _ _ HB.out HM.out).out⟩
            · have hm0 : 0 < m := by have := of_decide_eq_true hbm; omega
              have HM0 := Lib.hid hm0
              clear hbm
              obtain ⟨k, hk⟩ : ∃ k : Nat, at_ % (m : Int) = (k : Int) := ⟨(at_ % (m : Int)).toNat, by have := Int.emod_nonneg at_ (show (m : Int) ≠ 0 by omega); omega⟩
              have HK0 : Hid (k < m) := Lib.hid (by have := Int.emod_lt_of_pos at_ (show (0 : Int) < (m : Int) by omega); omega)
              have HKE := Lib.hid hk
              clear hk
              go_upto_region 8 with fail
              refine wp_region_steps0 NewT [SV.eq ((.int .u8 at_)), SV.eq (.int .i64 (at_)), SV.eq (.int .i64 ((m : Int))), SV.eq (.int .i64 ((k : Nat))), SV.eq (.int .i64 ((k : Nat)))] [([(2, none)], none), ([(29, some 0)], none), ([(8, none)], none), ([(30, some 1), (31, some 2)], none), ([(32, some 3)], none)] 117 5 rfl rfl (by kernel_rfl) NewT.trans (NewT.refl _) (Nat.le_of_ble_eq_true rfl) ⟨?_, ?_, ?_, ?_, ?_, trivial⟩ ?_
              · exact fun a wx hT hF K hK => rely_wp rfl (opr_move (.inl rfl) (hK _ _ (NewT.refl _) hF.1))
              · exact fun a wx hT hF K hK => rely_wp rfl (opr_cv8 HAT8.out rfl hF.1 (hK _ _ (NewT.refl _) rfl))
              · exact fun a wx hT hF K hK => rely_wp rfl (opr_move (.inl rfl) (hK _ _ (NewT.refl _) hF.1))
              · exact fun a wx hT hF K hK => rely_wp rfl (opr_rem (by have := HAT8.out; omega) (by have h1 := HNL.out; have h2 := HM0.out; omega) HKE.out rfl hF.1 hF.2.1 (hK _ _ (NewT.refl _) rfl))
              · exact fun a wx hT hF K hK => rely_wp rfl (opr_move (.inr rfl) (hK _ _ (NewT.refl _) hF.1))
              · intro w10 k10
                iterate 5 (intro u h; obtain rfl := Eq.symm (h (by simp)); clear h)
                refine relyEnd_nil rfl ?_
                refine wpList_end rfl ?_
                simp only [Act.put, List.setIfInBounds_toArray, List.set_cons_zero, List.set_cons_succ]
                go_simp
                replace Rg5 := Lib.hid (k10.row Rg5.out)
                replace HM := Lib.hid (NewT.trans _ _ _ HM.out k10)
                clear k10
                have HKM : Hid (k ≤ nOf lim zK l) := Lib.hid (by rw [hm.out]; have := HK0.out; omega)
                have HTK := Lib.hid (bkOf_take HKM.out)
                have HGA := Lib.hid (good_of lim (l.take k))
                have HLA : Hid ((l.take k).length ≤ 150) := Lib.hid (by have h1 := List.length_take_le k l; have h2 := HNL.out; have := HK0.out; omega)
                obtain ⟨ba, hba⟩ := hid_ex (bkOf lim (l.take k))
                rw [hba.out, HTK.out.1] at HGA
                go_upto_region 9 with fail
                refine wp_region_steps0 NewT [SV.eq (v), SV.eq (.int .i64 ((k : Nat))), svL 109 rcE (List.take k l), SV.eq (.int .i64 (lim)), svBkRB 0 (ba) (.int .i64 ((k : Nat))), svBkRB 0 (ba) (.int .i64 ((k : Nat))), svBkB (0) ba, SV.eq (.int .i64 ((k : Nat)))] [([(0, none)], none), ([(9, none)], none), ([(34, some 0), (35, some 1)], none), ([(1, none)], none), ([(36, some 2), (37, some 3)], none), ([(38, some 4)], none), ([(33, some 5)], none), ([(33, some 5)], none)] 117 8 rfl rfl (by kernel_rfl) NewT.trans (NewT.refl _) (Nat.le_of_ble_eq_true rfl) ⟨?_, ?_, ?_, ?_, ?_, ?_, ?_, ?_, trivial⟩ ?_
                · exact fun a wx hT hF K hK => rely_wp rfl (opr_move (.inl rfl) (hK _ _ (NewT.refl _) hF.1))
                · exact fun a wx hT hF K hK => rely_wp rfl (opr_move (.inl rfl) (hK _ _ (NewT.refl _) hF.1))
                · intro a wx hT hF K hK
                  obtain ⟨f34, f35, _⟩ := hF
                  have f34 : a.tmps.getD 34 undef = v := f34
                  have f35 : a.tmps.getD 35 undef = .int .i64 ((k : Nat)) := f35
                  refine rely_wp rfl ?_
                  exact opr_toL (k := k) recEl (by have h1 := HKM.out; have h2 := nOf_le lim l zK; omega) (rfl) rfl (by rw [eval_tmp, f34]; exact (HV.out.new (NewT.trans _ _ _ HM.out hT))) f35 (fun v hv => hK v _ (NewT.refl _) hv)
                · exact fun a wx hT hF K hK => rely_wp rfl (opr_move (.inl rfl) (hK _ _ (NewT.refl _) hF.1))
                · exact fun a wx hT hF K hK => rely_wp rfl (opr_cv (svBkRB_le (Of_cv _ (l.take k) lim wx (hF.1) (by have := HLA.out; omega)) (hba.out) (by rw [HTK.out.1])) rfl Try.func10 (by kernel_rfl) (by kernel_rfl) (evs2 rfl hF.2.1) hK)
                · exact fun a wx hT hF K hK => rely_wp rfl (opr_move (.inl rfl) (hK _ _ (NewT.refl _) hF.1))
                · exact fun a wx hT hF K hK => rely_wp rfl (opr_extKB0 rfl hF.1 (fun u hu => hK u _ (NewT.refl _) hu))
                · exact fun a wx hT hF K hK => rely_wp rfl (opr_extKB1 rfl hF.1 (hK _ _ (NewT.refl _) rfl))
                · intro w11 k11
                  iterate 2 (intro u h; obtain rfl := Eq.symm (h (by simp)); clear h)
                  intro _ _
                  intro u h; obtain rfl := Eq.symm (h (by simp)); clear h
                  iterate 2 (intro _ _)
                  intro u39 h; have g39 := h (by simp); clear h; replace g39 := show (svBkB (0) ba).pred u39 w11 from g39
                  intro u h; obtain rfl := Eq.symm (h (by simp)); clear h
                  refine relyEnd_nil rfl ?_
                  simp only [Act.put, List.setIfInBounds_toArray, List.set_cons_zero, List.set_cons_succ]
                  obtain ⟨s10, rfl, hs10⟩ := (show BkVB w11 (0) u39 ba from g39)
                  refine wpList_new (n := 5) (f := bkF ba.ep s10) rfl rfl rfl rfl rfl rfl (by first | (simp; done) | simp [Act.put]) run_alloc_book info_book (bkF_one _ _ hs10.rd.one) rfl ?_
                  intro W11 hn11 rr11
                  simp only [Act.put, List.setIfInBounds_toArray, List.set_cons_zero, List.set_cons_succ]
                  refine wpList_plain rfl (fun K hK => ?_)
                  refine opr_move (.inr rfl) (hK _ _ ?_)
                  clear hK K
                  refine wpList_end rfl ?_
                  simp only [Act.put, List.setIfInBounds_toArray, List.set_cons_zero, List.set_cons_succ]
                  go_simp
                  obtain ⟨g10, h_g10⟩ : ∃ g_, w11.heap.size = g_ := ⟨_, rfl⟩
                  rw [h_g10] at rr11
                  simp only [h_g10]
                  have HGg10 : Hid (g5 < g10 ∧ W3.heap.size ≤ g10) := Lib.hid (by rw [← h_g10]; exact ⟨(k11.row Rg5.out).lt, (NewT.trans _ _ _ HM.out k11).out.size⟩)
                  have q11 := NewT.trans _ _ _ k11 hn11
                  have HS10 := Lib.hid (hs10.new hn11)
                  clear hs10
                  clear k11 hn11 h_g10
                  replace Rg5 := Lib.hid (q11.row Rg5.out)
                  replace HM := Lib.hid (NewT.trans _ _ _ HM.out q11)
                  clear q11
                  have Rg10 := Lib.hid rr11
                  clear rr11
                  replace HV := Lib.hid (HV.out.new HM.out)
                  replace HS5 := Lib.hid (HS5.out.new HM.out)
                  replace HB := Lib.hid (NewT.trans _ _ _ HB.out HM.out)
                  replace HM := Lib.hid (NewT.refl W11)
                  go_upto_region 10 with fail
                  refine wp_region_steps0 NewT [SV.eq (.int .i64 ((k : Nat))), SV.eq (.int .i64 ((k : Nat))), SV.eq (.bool false)] [([(11, none)], none), ([(9, none)], none), ([(41, some 0), (42, some 1)], none)] 117 3 rfl rfl (by kernel_rfl) NewT.trans (NewT.refl _) (Nat.le_of_ble_eq_true rfl) ⟨?_, ?_, ?_, trivial⟩ ?_
                  · exact fun a wx hT hF K hK => rely_wp rfl (opr_move (.inl rfl) (hK _ _ (NewT.refl _) hF.1))
                  · exact fun a wx hT hF K hK => rely_wp rfl (opr_move (.inl rfl) (hK _ _ (NewT.refl _) hF.1))
                  · exact fun a wx hT hF K hK => rely_wp rfl (opr_cmp (b := false) (.inr (.inl ⟨rfl, (by simp)⟩)) Try.underlying3 rfl hF.1 hF.2.1 (hK _ _ (NewT.refl _) rfl))
                  · intro w12 k12
                    iterate 3 (intro u h; obtain rfl := Eq.symm (h (by simp)); clear h)
                    refine relyEnd_nil rfl ?_
                    refine wpList_end rfl ?_
                    simp only [Act.put, List.setIfInBounds_toArray, List.set_cons_zero, List.set_cons_succ]
                    go_simp
                    replace Rg5 := Lib.hid (k12.row Rg5.out)
                    replace Rg10 := Lib.hid (k12.row Rg10.out)
                    replace HM := Lib.hid (NewT.trans _ _ _ HM.out k12)
                    clear k12
                    go_upto_region 12 with fail
                    refine wp_region_steps0 NewT [SV.eq (.int .i64 ((m : Int))), SV.eq (.bool (((m : Int)) == 0))] [([(8, none)], none), ([(44, some 0)], none)] 117 2 rfl rfl (by kernel_rfl) NewT.trans (NewT.refl _) (Nat.le_of_ble_eq_true rfl) ⟨?_, ?_, trivial⟩ ?_
                    · exact fun a wx hT hF K hK => rely_wp rfl (opr_move (.inl rfl) (hK _ _ (NewT.refl _) hF.1))
                    · exact fun a wx hT hF K hK => rely_wp rfl (opr_cmp (b := ((m : Int)) == 0) (.inl ⟨rfl, rfl⟩) Try.underlying3 rfl hF.1 rfl (hK _ _ (NewT.refl _) rfl))
                    · intro w13 k13
                      iterate 2 (intro u h; obtain rfl := Eq.symm (h (by simp)); clear h)
                      refine relyEnd_nil rfl ?_
                      refine wpList_end rfl ?_
                      simp only [Act.put, List.setIfInBounds_toArray, List.set_cons_zero, List.set_cons_succ]
                      go_simp
                      replace Rg5 := Lib.hid (k13.row Rg5.out)
                      replace Rg10 := Lib.hid (k13.row Rg10.out)
                      replace HM := Lib.hid (NewT.trans _ _ _ HM.out k13)
                      clear k13
                      obtain ⟨b0, hb0⟩ : ∃ b, ((m : Int) == 0) = b := ⟨_, rfl⟩
                      rw [hb0]
                      obtain rfl : b0 = false := by rw [← hb0]; simpa using (show ¬ ((m : Int) = 0) by have := HM0.out; omega)
                      clear hb0
                      obtain ⟨x, hx⟩ : ∃ x, l[k]? = some x := ⟨_, List.getElem?_eq_getElem (by have h1 := HNL.out; have h2 := HK0.out; omega)⟩
                      have HTB := Lib.hid (bkOf_take (lim := lim) (l := l) (k := k + 1) (by rw [hm.out]; exact HK0.out))
                      have HGO : Hid (goesK lim ba x = true) := Lib.hid (by rw [← hba.out, HTK.out.2]; exact nOf_goes lim l zK k x hx (by rw [hm.out]; exact HK0.out))
                      have HWB : Hid (bkOf lim (l.take (k + 1)) = wentK lim ba x) := Lib.hid (by rw [HTB.out.2, upK_succ hx, ← HTK.out.2, hba.out])
                      have HGB : Hid (Good lim (k + 1) (wentK lim ba x)) := Lib.hid (good_step HGA.out HGO.out)
                      have HFW := Lib.hid (fewer HGO.out)
                      obtain ⟨bb, hbb⟩ := hid_ex (wentK lim ba x)
                      rw [hbb.out] at HWB HGB HFW
                      have HLB : Hid ((l.take (k + 1)).length ≤ 150) := Lib.hid (by have h1 := List.length_take_le (k + 1) l; have h2 := HNL.out; have h3 := HK0.out; omega)
                      have HDU : Hid (∀ i, difU ba.sg bb.sg i ≤ i) := Lib.hid (difU_le ba.sg bb.sg)
                      have HLL : Hid (ba.sg.length ≤ 12 ∧ bb.sg.length ≤ 12 ∧ ba.sg.length ≤ bb.sg.length) := Lib.hid ⟨HGA.out.len.1, HGB.out.len.1, HFW.out.1⟩
                      have HEA : Hid (∀ i, 0 ≤ ba.ep i ∧ ba.ep i ≤ 200) := Lib.hid (fun i => by have h1 := HGA.out.ep i; have h2 := HNL.out; have h3 := HK0.out; omega)
                      have HEB : Hid (∀ i, 0 ≤ bb.ep i ∧ bb.ep i ≤ 200) := Lib.hid (fun i => by have h1 := HGB.out.ep i; have h2 := HNL.out; have h3 := HK0.out; omega)
                      clear hx
                      go_upto_region 14 with fail
                      refine wp_region_steps0 NewT [SV.eq (v), SV.eq (.int .i64 ((k : Nat))), SV.eq (.int .i64 (((k + 1 : Nat) : Int))), svL 109 rcE (List.take (k + 1) l), SV.eq (.int .i64 (lim)), svBkRB 0 (bb) (.int .i64 (((k + 1 : Nat) : Int))), svBkRB 0 (bb) (.int .i64 (((k + 1 : Nat) : Int))), svBkB (0) bb, SV.eq (.int .i64 (((k + 1 : Nat) : Int)))] [([(0, none)], none), ([(9, none)], none), ([(52, some 1)], none), ([(51, some 0), (53, some 2)], none), ([(1, none)], none), ([(54, some 3), (55, some 4)], none), ([(56, some 5)], none), ([(50, some 6)], none), ([(50, some 6)], none)] 117 9 rfl rfl (by kernel_rfl) NewT.trans (NewT.refl _) (Nat.le_of_ble_eq_true rfl) ⟨?_, ?_, ?_, ?_, ?_, ?_, ?_, ?_, ?_, trivial⟩ ?_
                      · exact fun a wx hT hF K hK => rely_wp rfl (opr_move (.inl rfl) (hK _ _ (NewT.refl _) hF.1))
                      · exact fun a wx hT hF K hK => rely_wp rfl (opr_move (.inl rfl) (hK _ _ (NewT.refl _) hF.1))
                      · exact fun a wx hT hF K hK => rely_wp rfl (opr_add (r := ((k + 1 : Nat) : Int)) Try.underlying3 (by have h1 := HNL.out; have h2 := HK0.out; unfold wrap64; omega) rfl hF.1 rfl (hK _ _ (NewT.refl _) rfl))
                      · intro a wx hT hF K hK
                        obtain ⟨f51, f53, _⟩ := hF
                        have f51 : a.tmps.getD 51 undef = v := f51
                        have f53 : a.tmps.getD 53 undef = .int .i64 (((k + 1 : Nat) : Int)) := f53
                        refine rely_wp rfl ?_
                        exact opr_toL (k := k + 1) recEl (by have h1 := HNL.out; have h2 := HK0.out; omega) (rfl) rfl (by rw [eval_tmp, f51]; exact (HV.out.new (NewT.trans _ _ _ HM.out hT))) f53 (fun v hv => hK v _ (NewT.refl _) hv)
                      · exact fun a wx hT hF K hK => rely_wp rfl (opr_move (.inl rfl) (hK _ _ (NewT.refl _) hF.1))
                      · exact fun a wx hT hF K hK => rely_wp rfl (opr_cv (svBkRB_le (Of_cv _ (l.take (k + 1)) lim wx (hF.1) (by have := HLB.out; omega)) (HWB.out) (by rw [HTB.out.1])) rfl Try.func10 (by kernel_rfl) (by kernel_rfl) (evs2 rfl hF.2.1) hK)
                      · exact fun a wx hT hF K hK => rely_wp rfl (opr_move (.inl rfl) (hK _ _ (NewT.refl _) hF.1))
                      · exact fun a wx hT hF K hK => rely_wp rfl (opr_extKB0 rfl hF.1 (fun u hu => hK u _ (NewT.refl _) hu))
                      · exact fun a wx hT hF K hK => rely_wp rfl (opr_extKB1 rfl hF.1 (hK _ _ (NewT.refl _) rfl))
                      · intro w14 k14
                        iterate 3 (intro u h; obtain rfl := Eq.symm (h (by simp)); clear h)
                        intro _ _
                        intro u h; obtain rfl := Eq.symm (h (by simp)); clear h
                        iterate 2 (intro _ _)
                        intro u57 h; have g57 := h (by simp); clear h; replace g57 := show (svBkB (0) bb).pred u57 w14 from g57
                        intro u h; obtain rfl := Eq.symm (h (by simp)); clear h
                        refine relyEnd_nil rfl ?_
                        simp only [Act.put, List.setIfInBounds_toArray, List.set_cons_zero, List.set_cons_succ]
                        obtain ⟨s12, rfl, hs12⟩ := (show BkVB w14 (0) u57 bb from g57)
                        refine wpList_new (n := 5) (f := bkF bb.ep s12) rfl rfl rfl rfl rfl rfl (by first | (simp; done) | simp [Act.put]) run_alloc_book info_book (bkF_one _ _ hs12.rd.one) rfl ?_
                        intro W14 hn14 rr14
                        simp only [Act.put, List.setIfInBounds_toArray, List.set_cons_zero, List.set_cons_succ]
                        refine wpList_plain rfl (fun K hK => ?_)
                        refine opr_move (.inr rfl) (hK _ _ ?_)
                        clear hK K
                        refine wpList_end rfl ?_
                        simp only [Act.put, List.setIfInBounds_toArray, List.set_cons_zero, List.set_cons_succ]
                        go_simp
                        obtain ⟨g12, h_g12⟩ : ∃ g_, w14.heap.size = g_ := ⟨_, rfl⟩
                        rw [h_g12] at rr14
                        simp only [h_g12]
                        have HGg12 : Hid (g5 < g12 ∧ g10 < g12 ∧ W11.heap.size ≤ g12) := Lib.hid (by rw [← h_g12]; exact ⟨(k14.row Rg5.out).lt, (k14.row Rg10.out).lt, (NewT.trans _ _ _ HM.out k14).out.size⟩)
                        have q14 := NewT.trans _ _ _ k14 hn14
                        have HS12 := Lib.hid (hs12.new hn14)
                        clear hs12
                        clear k14 hn14 h_g12
                        replace Rg5 := Lib.hid (q14.row Rg5.out)
                        replace Rg10 := Lib.hid (q14.row Rg10.out)
                        replace HM := Lib.hid (NewT.trans _ _ _ HM.out q14)
                        clear q14
                        have Rg12 := Lib.hid rr14
                        clear rr14
                        replace HV := Lib.hid (HV.out.new HM.out)
                        replace HS5 := Lib.hid (HS5.out.new HM.out)
                        replace HS10 := Lib.hid (HS10.out.new HM.out)
                        replace HB := Lib.hid (NewT.trans _ _ _ HB.out HM.out)
                        replace HM := Lib.hid (NewT.refl W14)
                        go_upto_region 15 with fail
                        refine wp_region_steps0 NewT [SV.eq (.int .i64 (((k + 1 : Nat) : Int))), SV.eq (.int .i64 ((k : Nat))), SV.eq (.int .i64 (((k + 1 : Nat) : Int))), SV.eq (.bool false), SV.eq (.bool false), SV.eq (.pointer (some ⟨g12, 4, none⟩)), SV.eq (s12), SV.eq (.int .i64 ((List.length (bb.sg) : Int))), SV.eq (.pointer (some ⟨g10, 4, none⟩)), SV.eq (s10), SV.eq (.int .i64 ((List.length (ba.sg) : Int))), SV.eq (.bool false), SV.eq (.bool false)] [([(13, none)], none), ([(9, none)], none), ([(60, some 1)], none), ([(59, some 0), (61, some 2)], none), ([(62, some 3)], none), ([(12, none), (63, some 4)], some (63, false)), ([(64, some 5), (63, some 4)], some (63, false)), ([(65, some 6), (63, some 4)], some (63, false)), ([(10, none), (63, some 4)], some (63, false)), ([(67, some 8), (63, some 4)], some (63, false)), ([(68, some 9), (63, some 4)], some (63, false)), ([(66, some 7), (69, some 10), (63, some 4)], some (63, false)), ([(63, some 4), (70, some 11)], none)] 117 13 rfl rfl (by kernel_rfl) NewT.trans (NewT.refl _) (Nat.le_of_ble_eq_true rfl) ⟨?_, ?_, ?_, ?_, ?_, ?_, ?_, ?_, ?_, ?_, ?_, ?_, ?_, trivial⟩ ?_
                        · exact fun a wx hT hF K hK => rely_wp rfl (opr_move (.inl rfl) (hK _ _ (NewT.refl _) hF.1))
                        · exact fun a wx hT hF K hK => rely_wp rfl (opr_move (.inl rfl) (hK _ _ (NewT.refl _) hF.1))
                        · exact fun a wx hT hF K hK => rely_wp rfl (opr_add (r := ((k + 1 : Nat) : Int)) Try.underlying3 (by have h1 := HNL.out; have h2 := HK0.out; unfold wrap64; omega) rfl hF.1 rfl (hK _ _ (NewT.refl _) rfl))
                        · exact fun a wx hT hF K hK => rely_wp rfl (opr_cmp (b := false) (.inr (.inl ⟨rfl, (by simp)⟩)) Try.underlying3 rfl hF.1 hF.2.1 (hK _ _ (NewT.refl _) rfl))
                        · exact fun a wx hT hF K hK => rely_wp rfl (opr_move (.inl rfl) (hK _ _ (NewT.refl _) hF.1))
                        · exact fun a wx hT hF K hK => rely_wp (rely_guard hF.2.1) (opr_fldK1 rfl hF.1 (hK _ _ (NewT.refl _) rfl))
                        · exact fun a wx hT hF K hK => rely_wp (rely_guard hF.2.1) (opr_ldUs (hT.row Rg12.out) (by decide) rfl rfl hF.1 (hK _ _ (NewT.refl _) rfl))
                        · intro a wx hT hF K hK
                          obtain ⟨f65, f63, _⟩ := hF
                          have f65 : a.tmps.getD 65 undef = s12 := f65
                          have f63 : a.tmps.getD 63 undef = .bool false := f63
                          refine rely_wp (rely_guard f63) ?_
                          exact opr_lenL rfl sagaEl (by rw [eval_tmp, f65]; exact (HS12.out.new (NewT.trans _ _ _ HM.out hT)).rd) (hK _ _ (NewT.refl _) rfl)
                        · exact fun a wx hT hF K hK => rely_wp (rely_guard hF.2.1) (opr_fldK1 rfl hF.1 (hK _ _ (NewT.refl _) rfl))
                        · exact fun a wx hT hF K hK => rely_wp (rely_guard hF.2.1) (opr_ldUs (hT.row Rg10.out) (by decide) rfl rfl hF.1 (hK _ _ (NewT.refl _) rfl))
                        · intro a wx hT hF K hK
                          obtain ⟨f68, f63, _⟩ := hF
                          have f68 : a.tmps.getD 68 undef = s10 := f68
                          have f63 : a.tmps.getD 63 undef = .bool false := f63
                          refine rely_wp (rely_guard f63) ?_
                          exact opr_lenL rfl sagaEl (by rw [eval_tmp, f68]; exact (HS10.out.new (NewT.trans _ _ _ HM.out hT)).rd) (hK _ _ (NewT.refl _) rfl)
                        · exact fun a wx hT hF K hK => rely_wp (rely_guard hF.2.2.1) (opr_cmp (b := false) (.inr (.inr (.inr (.inl ⟨rfl, (by have := HLL.out; exact decide_eq_false (by omega))⟩)))) Try.underlying3 rfl hF.1 hF.2.1 (hK _ _ (NewT.refl _) rfl))
                        · exact fun a wx hT hF K hK => rely_wp rfl (opr_pick_false rfl hF.1 (hK _ _ (NewT.refl _) hF.2.1))
                        · intro w15 k15
                          iterate 13 (intro u h; obtain rfl := Eq.symm (h (by simp)); clear h)
                          refine relyEnd_nil rfl ?_
                          refine wpList_end rfl ?_
                          simp only [Act.put, List.setIfInBounds_toArray, List.set_cons_zero, List.set_cons_succ]
                          go_simp
                          replace Rg5 := Lib.hid (k15.row Rg5.out)
                          replace Rg10 := Lib.hid (k15.row Rg10.out)
                          replace Rg12 := Lib.hid (k15.row Rg12.out)
                          replace HM := Lib.hid (NewT.trans _ _ _ HM.out k15)
                          clear k15
                          go_upto_region 17 with fail
                          refine wp_region_steps0 NewT [SV.eq (.pointer (some ⟨g12, 4, none⟩)), SV.eq (s12), SV.eq (.int .i64 ((List.length (bb.sg) : Int))), SV.eq (.pointer (some ⟨g10, 4, none⟩)), SV.eq (s10), SV.eq (.int .i64 ((List.length (ba.sg) : Int))), SV.eq (.int .i64 (((bb.sg.length : Int) - (ba.sg.length : Int)))), SV.eq (.int .i64 (((bb.sg.length : Int) - (ba.sg.length : Int))))] [([(12, none)], none), ([(72, some 0)], none), ([(73, some 1)], none), ([(10, none)], none), ([(75, some 3)], none), ([(76, some 4)], none), ([(74, some 2), (77, some 5)], none), ([(78, some 6)], none)] 117 8 rfl rfl (by kernel_rfl) NewT.trans (NewT.refl _) (Nat.le_of_ble_eq_true rfl) ⟨?_, ?_, ?_, ?_, ?_, ?_, ?_, ?_, trivial⟩ ?_
                          · exact fun a wx hT hF K hK => rely_wp rfl (opr_fldK1 rfl hF.1 (hK _ _ (NewT.refl _) rfl))
                          · exact fun a wx hT hF K hK => rely_wp rfl (opr_ldUs (hT.row Rg12.out) (by decide) rfl rfl hF.1 (hK _ _ (NewT.refl _) rfl))
                          · intro a wx hT hF K hK
                            obtain ⟨f73, _⟩ := hF
                            have f73 : a.tmps.getD 73 undef = s12 := f73
                            refine rely_wp rfl ?_
                            exact opr_lenL rfl sagaEl (by rw [eval_tmp, f73]; exact (HS12.out.new (NewT.trans _ _ _ HM.out hT)).rd) (hK _ _ (NewT.refl _) rfl)
                          · exact fun a wx hT hF K hK => rely_wp rfl (opr_fldK1 rfl hF.1 (hK _ _ (NewT.refl _) rfl))
                          · exact fun a wx hT hF K hK => rely_wp rfl (opr_ldUs (hT.row Rg10.out) (by decide) rfl rfl hF.1 (hK _ _ (NewT.refl _) rfl))
                          · intro a wx hT hF K hK
                            obtain ⟨f76, _⟩ := hF
                            have f76 : a.tmps.getD 76 undef = s10 := f76
                            refine rely_wp rfl ?_
                            exact opr_lenL rfl sagaEl (by rw [eval_tmp, f76]; exact (HS10.out.new (NewT.trans _ _ _ HM.out hT)).rd) (hK _ _ (NewT.refl _) rfl)
                          · exact fun a wx hT hF K hK => rely_wp rfl (opr_sub (r := ((bb.sg.length : Int) - (ba.sg.length : Int))) Try.underlying3 (by have := HLL.out; unfold wrap64; omega) rfl hF.1 hF.2.1 (hK _ _ (NewT.refl _) rfl))
                          · exact fun a wx hT hF K hK => rely_wp rfl (opr_move (.inr rfl) (hK _ _ (NewT.refl _) hF.1))
                          · intro w16 k16
                            iterate 8 (intro u h; obtain rfl := Eq.symm (h (by simp)); clear h)
                            refine relyEnd_nil rfl ?_
                            refine wpList_end rfl ?_
                            simp only [Act.put, List.setIfInBounds_toArray, List.set_cons_zero, List.set_cons_succ]
                            go_simp
                            replace Rg5 := Lib.hid (k16.row Rg5.out)
                            replace Rg10 := Lib.hid (k16.row Rg10.out)
                            replace Rg12 := Lib.hid (k16.row Rg12.out)
                            replace HM := Lib.hid (NewT.trans _ _ _ HM.out k16)
                            clear k16
                            go_wp2
                            go_loopw [14, 15] (fun a i wr => ∃ j : Nat, j ≤ ba.sg.length ∧ a = .int .i64 ((bb.sg.length : Int) - (ba.sg.length : Int) + (difU ba.sg bb.sg j : Nat)) ∧ i = .int .i64 (j : Int) ∧ Hid (NewT W14 wr) ∧ Hid (wr.rowIs g10 28 5 (bkF ba.ep s10)) ∧ Hid (wr.rowIs g12 28 5 (bkF bb.ep s12))) (fun _ i _ => ba.sg.length - (intOf i).toNat)
                            case atStart => exact ⟨0, by omega, by simp [difU], rfl, HM, Rg10, Rg12⟩
                            case round =>
                              clear HM Rg10 Rg12
                              obtain ⟨j, hj, rfl, rfl, HM, Rg10, Rg12⟩ := hrel
                              have hll := HLL.out
                              have HDJ : Hid (difU ba.sg bb.sg j ≤ 12) := Lib.hid (by have := HDU.out j; omega)
                              by_cases hlt : j < ba.sg.length
                              rotate_left
                              · obtain rfl : j = ba.sg.length := by omega
                                go_upto_region 19 with fail
                                refine wp_region_steps0 NewT [SV.eq (.int .i64 ((ba.sg.length : Int))), SV.eq (.pointer (some ⟨g10, 4, none⟩)), SV.eq (s10), SV.eq (.int .i64 ((List.length (ba.sg) : Int))), SV.eq (.bool (decide (((ba.sg.length : Int)) < ((List.length (ba.sg) : Int)))))] [([(15, none)], none), ([(10, none)], none), ([(80, some 1)], none), ([(81, some 2)], none), ([(79, some 0), (82, some 3)], none)] 117 5 rfl rfl (by kernel_rfl) NewT.trans (NewT.refl _) (Nat.le_of_ble_eq_true rfl) ⟨?_, ?_, ?_, ?_, ?_, trivial⟩ ?_
                                · exact fun a wx hT hF K hK => rely_wp rfl (opr_move (.inl rfl) (hK _ _ (NewT.refl _) hF.1))
                                · exact fun a wx hT hF K hK => rely_wp rfl (opr_fldK1 rfl hF.1 (hK _ _ (NewT.refl _) rfl))
                                · exact fun a wx hT hF K hK => rely_wp rfl (opr_ldUs (hT.row Rg10.out) (by decide) rfl rfl hF.1 (hK _ _ (NewT.refl _) rfl))
                                · intro a wx hT hF K hK
                                  obtain ⟨f81, _⟩ := hF
                                  have f81 : a.tmps.getD 81 undef = s10 := f81
                                  refine rely_wp rfl ?_
                                  exact opr_lenL rfl sagaEl (by rw [eval_tmp, f81]; exact (HS10.out.new (NewT.trans _ _ _ HM.out hT)).rd) (hK _ _ (NewT.refl _) rfl)
                                · exact fun a wx hT hF K hK => rely_wp rfl (opr_cmp (b := decide (((ba.sg.length : Int)) < ((List.length (ba.sg) : Int)))) (.inr (.inr (.inr (.inl ⟨rfl, rfl⟩)))) Try.underlying3 rfl hF.1 hF.2.1 (hK _ _ (NewT.refl _) rfl))
                                · intro w17 k17
                                  iterate 5 (intro u h; obtain rfl := Eq.symm (h (by simp)); clear h)
                                  refine relyEnd_nil rfl ?_
                                  refine wpList_end rfl ?_
                                  simp only [Act.put, List.setIfInBounds_toArray, List.set_cons_zero, List.set_cons_succ]
                                  go_simp
                                  replace Rg10 := Lib.hid (k17.row Rg10.out)
                                  replace Rg12 := Lib.hid (k17.row Rg12.out)
                                  replace HM := Lib.hid (NewT.trans _ _ _ HM.out k17)
                                  clear k17
                                  go_wp2
                                  go_loopw [14, 16] (fun a i wr => ∃ c : Nat, c ≤ 4 ∧ a = .int .i64 (((bb.sg.length : Int) - (ba.sg.length : Int) + (difU ba.sg bb.sg ba.sg.length : Nat)) + (sumE bb.ep c - sumE ba.ep c)) ∧ i = .int .i64 (c : Int) ∧ Hid (NewT W14 wr) ∧ Hid (wr.rowIs g10 28 5 (bkF ba.ep s10)) ∧ Hid (wr.rowIs g12 28 5 (bkF bb.ep s12))) (fun _ i _ => 4 - (intOf i).toNat)
                                  case atStart => exact ⟨0, by omega, by simp [sumE], rfl, HM, Rg10, Rg12⟩
                                  case round =>
                                    clear HM Rg10 Rg12
                                    obtain ⟨c, hc, rfl, rfl, HM, Rg10, Rg12⟩ := hrel
                                    have HSE : Hid ((0 ≤ sumE ba.ep c ∧ sumE ba.ep c ≤ 800) ∧ (0 ≤ sumE bb.ep c ∧ sumE bb.ep c ≤ 800)) := Lib.hid (by
                                      have h0 := HEA.out 0; have h1 := HEA.out 1; have h2 := HEA.out 2; have h3 := HEA.out 3
                                      have k0 := HEB.out 0; have k1 := HEB.out 1; have k2 := HEB.out 2; have k3 := HEB.out 3
                                      have : c = 0 ∨ c = 1 ∨ c = 2 ∨ c = 3 ∨ c = 4 := by omega
                                      rcases this with rfl | rfl | rfl | rfl | rfl <;> simp [sumE] <;> omega)
                                    by_cases hlt : c < 4
                                    rotate_left
                                    · obtain rfl : c = 4 := by omega
                                      go_upto_region 27 with fail
                                      refine wp_region_steps0 NewT [SV.eq (.int .i64 ((((bb.sg.length : Int) - (ba.sg.length : Int) + (difU ba.sg bb.sg ba.sg.length : Nat)) + (sumE bb.ep 4 - sumE ba.ep 4)))), SV.eq (.bool true), SV.eq (.bool true)] [([(14, none)], none), ([(115, some 0)], none), ([(116, some 1)], none)] 117 3 rfl rfl (by kernel_rfl) NewT.trans (NewT.refl _) (Nat.le_of_ble_eq_true rfl) ⟨?_, ?_, ?_, trivial⟩ ?_
                                      · exact fun a wx hT hF K hK => rely_wp rfl (opr_move (.inl rfl) (hK _ _ (NewT.refl _) hF.1))
                                      · exact fun a wx hT hF K hK => rely_wp rfl (opr_cmp (b := true) (.inl ⟨rfl, (by rw [HFW.out.2]; rfl)⟩) Try.underlying3 rfl hF.1 rfl (hK _ _ (NewT.refl _) rfl))
                                      · exact fun a wx hT hF K hK => rely_wp rfl (opr_move (.inr rfl) (hK _ _ (NewT.refl _) hF.1))
                                      · intro w18 k18
                                        iterate 3 (intro u h; obtain rfl := Eq.symm (h (by simp)); clear h)
                                        refine relyEnd_nil rfl ?_
                                        refine wpList_end rfl ?_
                                        simp only [Act.put, List.setIfInBounds_toArray, List.set_cons_zero, List.set_cons_succ]
                                        go_simp
                                        replace Rg10 := Lib.hid (k18.row Rg10.out)
                                        replace Rg12 := Lib.hid (k18.row Rg12.out)
                                        replace HM := Lib.hid (NewT.trans _ _ _ HM.out k18)
                                        clear k18
                                        go_wp2
                                        go_ret
                                        exact ⟨rfl, (NewT.trans _ _ _ HB.out HM.out).out⟩
                                    have HC4 := Lib.hid hlt
                                    have it : (c : Int) < 4 := by omega
                                    have HIT := Lib.hid it
                                    clear hlt
                                    go_upto_region 26 with fail
                                    refine wp_region_rely (NewT) [SV.eq (.int .i64 ((((bb.sg.length : Int) - (ba.sg.length : Int) + (difU ba.sg bb.sg ba.sg.length : Nat)) + (sumE bb.ep c - sumE ba.ep c)))), SV.eq (.int .i64 ((c : Int))), SV.eq (.pointer (some ⟨g12, 0, none⟩)), SV.eq (.pointer (some ⟨g12, c, none⟩)), SV.eq (.int .i64 (bb.ep c)), SV.eq (.int .i64 ((((bb.sg.length : Int) - (ba.sg.length : Int) + (difU ba.sg bb.sg ba.sg.length : Nat)) + (sumE bb.ep c - sumE ba.ep c) + bb.ep c))), SV.eq (.int .i64 ((c : Int))), SV.eq (.pointer (some ⟨g10, 0, none⟩)), SV.eq (.pointer (some ⟨g10, c, none⟩)), SV.eq (.int .i64 (ba.ep c)), SV.eq (.int .i64 ((((bb.sg.length : Int) - (ba.sg.length : Int) + (difU ba.sg bb.sg ba.sg.length : Nat)) + (sumE bb.ep (c + 1) - sumE ba.ep (c + 1)))))] [([(14, none)], none), ([(16, none)], none), ([(12, none)], none), ([(106, some 2), (105, some 1)], none), ([(107, some 3)], none), ([(104, some 0), (108, some 4)], none), ([(16, none)], none), ([(10, none)], none), ([(111, some 7), (110, some 6)], none), ([(112, some 8)], none), ([(109, some 5), (113, some 9)], none)] 117 rfl (by kernel_rfl) rfl (by kernel_rfl) (by kernel_rfl) rfl NewT.trans (NewT.drew _) (Nat.le_of_ble_eq_true rfl) ⟨?_, ?_, ?_, ?_, ?_, ?_, ?_, ?_, ?_, ?_, ?_, trivial⟩ ?_
                                    · exact fun a wx hT hF K hK => rely_wp rfl (opr_move (.inl rfl) (hK _ _ (NewT.refl _) hF.1))
                                    · exact fun a wx hT hF K hK => rely_wp rfl (opr_move (.inl rfl) (hK _ _ (NewT.refl _) hF.1))
                                    · exact fun a wx hT hF K hK => rely_wp rfl (opr_fldK0 rfl hF.1 (hK _ _ (NewT.refl _) rfl))
                                    · exact fun a wx hT hF K hK => rely_wp rfl (opr_idxEp (k := c) (HC4.out) (rfl) rfl hF.1 hF.2.1 (hK _ _ (NewT.refl _) rfl))
                                    · exact fun a wx hT hF K hK => rely_wp rfl (opr_ldI (hT.row Rg12.out) (Nat.lt_succ_of_lt (HC4.out)) (bkF_ep (HC4.out)) rfl hF.1 (hK _ _ (NewT.refl _) rfl))
                                    · exact fun a wx hT hF K hK => rely_wp rfl (opr_add (r := (((bb.sg.length : Int) - (ba.sg.length : Int) + (difU ba.sg bb.sg ba.sg.length : Nat)) + (sumE bb.ep c - sumE ba.ep c) + bb.ep c)) Try.underlying3 (by have h1 := HSE.out; have h2 := HLL.out; have h3 := HDJ.out; have h4 := HEA.out c; have h5 := HEB.out c; have h6 : sumE bb.ep (c + 1) = sumE bb.ep c + bb.ep c := rfl; have h7 : sumE ba.ep (c + 1) = sumE ba.ep c + ba.ep c := rfl; unfold wrap64; omega) rfl hF.1 hF.2.1 (hK _ _ (NewT.refl _) rfl))
                                    · exact fun a wx hT hF K hK => rely_wp rfl (opr_move (.inl rfl) (hK _ _ (NewT.refl _) hF.1))
                                    · exact fun a wx hT hF K hK => rely_wp rfl (opr_fldK0 rfl hF.1 (hK _ _ (NewT.refl _) rfl))
                                    · exact fun a wx hT hF K hK => rely_wp rfl (opr_idxEp (k := c) (HC4.out) (rfl) rfl hF.1 hF.2.1 (hK _ _ (NewT.refl _) rfl))
                                    · exact fun a wx hT hF K hK => rely_wp rfl (opr_ldI (hT.row Rg10.out) (Nat.lt_succ_of_lt (HC4.out)) (bkF_ep (HC4.out)) rfl hF.1 (hK _ _ (NewT.refl _) rfl))
                                    · exact fun a wx hT hF K hK => rely_wp rfl (opr_sub (r := (((bb.sg.length : Int) - (ba.sg.length : Int) + (difU ba.sg bb.sg ba.sg.length : Nat)) + (sumE bb.ep (c + 1) - sumE ba.ep (c + 1)))) Try.underlying3 (by have h1 := HSE.out; have h2 := HLL.out; have h3 := HDJ.out; have h4 := HEA.out c; have h5 := HEB.out c; have h6 : sumE bb.ep (c + 1) = sumE bb.ep c + bb.ep c := rfl; have h7 : sumE ba.ep (c + 1) = sumE ba.ep c + ba.ep c := rfl; unfold wrap64; omega) rfl hF.1 hF.2.1 (hK _ _ (NewT.refl _) rfl))
                                    · intro w19 k19
                                      iterate 11 (intro u h; obtain rfl := Eq.symm (h (by simp)); clear h)
                                      refine relyEnd_nil rfl ?_
                                      simp only [Act.put, List.setIfInBounds_toArray, List.set_cons_zero, List.set_cons_succ]
                                      refine opr_move (.inr rfl) ?_
                                      go_simp
                                      replace Rg10 := Lib.hid (k19.row Rg10.out)
                                      replace Rg12 := Lib.hid (k19.row Rg12.out)
                                      replace HM := Lib.hid (NewT.trans _ _ _ HM.out k19)
                                      clear k19
                                      have it2 := HIT.out
                                      go_wp2
                                      go_roundw
                                      case rel =>
                                        refine ⟨c + 1, by omega, rfl, by go_num, ?_⟩
                                        first | exact ⟨HM, Rg10, Rg12⟩ | trivial
                                      case measure => simp [intOf]; omega
                              obtain ⟨p, hp⟩ : ∃ p, ba.sg[j]? = some p := ⟨_, List.getElem?_eq_getElem hlt⟩
                              obtain ⟨q, hq⟩ : ∃ q, bb.sg[j]? = some q := ⟨_, List.getElem?_eq_getElem (by omega)⟩
                              have HPP := Lib.hid hp
                              have HQQ := Lib.hid hq
                              have HDN : Hid (difU ba.sg bb.sg (j + 1) = difU ba.sg bb.sg j + (bif eqU p q then 0 else 1)) := Lib.hid (by rw [← getD_of (d := zU) hp, ← getD_of (d := zU) hq]; rfl)
                              have it : (j : Int) < (ba.sg.length : Int) := by omega
                              have HIT := Lib.hid it
                              have HJL := Lib.hid hlt
                              clear hp hq hlt
                              go_upto_region 19 with fail
                              refine wp_region_steps0 NewT [SV.eq (.int .i64 ((j : Int))), SV.eq (.pointer (some ⟨g10, 4, none⟩)), SV.eq (s10), SV.eq (.int .i64 ((List.length (ba.sg) : Int))), SV.eq (.bool (decide (((j : Int)) < ((List.length (ba.sg) : Int)))))] [([(15, none)], none), ([(10, none)], none), ([(80, some 1)], none), ([(81, some 2)], none), ([(79, some 0), (82, some 3)], none)] 117 5 rfl rfl (by kernel_rfl) NewT.trans (NewT.refl _) (Nat.le_of_ble_eq_true rfl) ⟨?_, ?_, ?_, ?_, ?_, trivial⟩ ?_
                              · exact fun a wx hT hF K hK => rely_wp rfl (opr_move (.inl rfl) (hK _ _ (NewT.refl _) hF.1))
                              · exact fun a wx hT hF K hK => rely_wp rfl (opr_fldK1 rfl hF.1 (hK _ _ (NewT.refl _) rfl))
                              · exact fun a wx hT hF K hK => rely_wp rfl (opr_ldUs (hT.row Rg10.out) (by decide) rfl rfl hF.1 (hK _ _ (NewT.refl _) rfl))
                              · intro a wx hT hF K hK
                                obtain ⟨f81, _⟩ := hF
                                have f81 : a.tmps.getD 81 undef = s10 := f81
                                refine rely_wp rfl ?_
                                exact opr_lenL rfl sagaEl (by rw [eval_tmp, f81]; exact (HS10.out.new (NewT.trans _ _ _ HM.out hT)).rd) (hK _ _ (NewT.refl _) rfl)
                              · exact fun a wx hT hF K hK => rely_wp rfl (opr_cmp (b := decide (((j : Int)) < ((List.length (ba.sg) : Int)))) (.inr (.inr (.inr (.inl ⟨rfl, rfl⟩)))) Try.underlying3 rfl hF.1 hF.2.1 (hK _ _ (NewT.refl _) rfl))
                              · intro w20 k20
                                iterate 5 (intro u h; obtain rfl := Eq.symm (h (by simp)); clear h)
                                refine relyEnd_nil rfl ?_
                                refine wpList_end rfl ?_
                                simp only [Act.put, List.setIfInBounds_toArray, List.set_cons_zero, List.set_cons_succ]
                                go_simp
                                replace Rg10 := Lib.hid (k20.row Rg10.out)
                                replace Rg12 := Lib.hid (k20.row Rg12.out)
                                replace HM := Lib.hid (NewT.trans _ _ _ HM.out k20)
                                clear k20
                                go_upto_region 21 with fail
                                refine wp_region_rely (NewT) [SV.eq (.pointer (some ⟨g10, 4, none⟩)), SV.eq (s10), SV.eq (.int .i64 ((j : Int))), svEl 10 sgE (p), svSg p.1 p.2, SV.eq (.pointer (some ⟨g12, 4, none⟩)), SV.eq (s12), SV.eq (.int .i64 ((j : Int))), svEl 10 sgE (q), svSg q.1 q.2, SV.eq (.bool (sameG p.1 q.1 p.2 q.2))] [([(10, none)], none), ([(86, some 0)], none), ([(15, none)], none), ([(87, some 1), (88, some 2)], none), ([(89, some 3)], none), ([(12, none)], none), ([(91, some 5)], none), ([(15, none)], none), ([(92, some 6), (93, some 7)], none), ([(94, some 8)], none), ([(90, some 4), (95, some 9)], none)] 117 rfl (by kernel_rfl) rfl (by kernel_rfl) (by kernel_rfl) rfl NewT.trans (NewT.drew _) (Nat.le_of_ble_eq_true rfl) ⟨?_, ?_, ?_, ?_, ?_, ?_, ?_, ?_, ?_, ?_, ?_, trivial⟩ ?_
                                · exact fun a wx hT hF K hK => rely_wp rfl (opr_fldK1 rfl hF.1 (hK _ _ (NewT.refl _) rfl))
                                · exact fun a wx hT hF K hK => rely_wp rfl (opr_ldUs (hT.row Rg10.out) (by decide) rfl rfl hF.1 (hK _ _ (NewT.refl _) rfl))
                                · exact fun a wx hT hF K hK => rely_wp rfl (opr_move (.inl rfl) (hK _ _ (NewT.refl _) hF.1))
                                · intro a wx hT hF K hK
                                  obtain ⟨f87, f88, _⟩ := hF
                                  have f87 : a.tmps.getD 87 undef = s10 := f87
                                  have f88 : a.tmps.getD 88 undef = .int .i64 ((j : Int)) := f88
                                  refine rely_wp rfl ?_
                                  exact opr_idxL (i := j) (p := p) sagaEl (HPP.out) (rfl) rfl (by rw [eval_tmp, f87]; exact (HS10.out.new (NewT.trans _ _ _ HM.out hT)).rd) f88 (fun v hv => hK v _ (NewT.refl _) hv)
                                · exact fun a wx hT hF K hK => rely_wp rfl (opr_ldUg rfl hF.1 (fun u hu => hK u _ (NewT.refl _) hu))
                                · exact fun a wx hT hF K hK => rely_wp rfl (opr_fldK1 rfl hF.1 (hK _ _ (NewT.refl _) rfl))
                                · exact fun a wx hT hF K hK => rely_wp rfl (opr_ldUs (hT.row Rg12.out) (by decide) rfl rfl hF.1 (hK _ _ (NewT.refl _) rfl))
                                · exact fun a wx hT hF K hK => rely_wp rfl (opr_move (.inl rfl) (hK _ _ (NewT.refl _) hF.1))
                                · intro a wx hT hF K hK
                                  obtain ⟨f92, f93, _⟩ := hF
                                  have f92 : a.tmps.getD 92 undef = s12 := f92
                                  have f93 : a.tmps.getD 93 undef = .int .i64 ((j : Int)) := f93
                                  refine rely_wp rfl ?_
                                  exact opr_idxL (i := j) (p := q) sagaEl (HQQ.out) (rfl) rfl (by rw [eval_tmp, f92]; exact (HS12.out.new (NewT.trans _ _ _ HM.out hT)).rd) f93 (fun v hv => hK v _ (NewT.refl _) hv)
                                · exact fun a wx hT hF K hK => rely_wp rfl (opr_ldUg rfl hF.1 (fun u hu => hK u _ (NewT.refl _) hu))
                                · exact fun a wx hT hF K hK => rely_wp rfl (opr_cv (rSameU_cv _ _ p.1 q.1 p.2 q.2 wx (hF.1) (hF.2.1)) rfl Try.func23 (by kernel_rfl) (by kernel_rfl) (evs2 rfl rfl) hK)
                                · intro w21 k21
                                  iterate 3 (intro u h; obtain rfl := Eq.symm (h (by simp)); clear h)
                                  iterate 2 (intro _ _)
                                  iterate 3 (intro u h; obtain rfl := Eq.symm (h (by simp)); clear h)
                                  iterate 2 (intro _ _)
                                  intro u h; obtain rfl := Eq.symm (h (by simp)); clear h
                                  refine relyEnd_nil rfl ?_
                                  simp only [Act.put, List.setIfInBounds_toArray, List.set_cons_zero, List.set_cons_succ]
                                  refine opr_not rfl rfl ?_
                                  go_simp
                                  replace Rg10 := Lib.hid (k21.row Rg10.out)
                                  replace Rg12 := Lib.hid (k21.row Rg12.out)
                                  replace HM := Lib.hid (NewT.trans _ _ _ HM.out k21)
                                  clear k21
                                  have HEX : Hid ((!(sameG p.1 q.1 p.2 q.2)) = !eqU p q) := Lib.hid rfl
                                  cases hb : (!(sameG p.1 q.1 p.2 q.2))
                                  · have he : eqU p q = true := by have h1 := HEX.out.symm.trans hb; simpa using h1
                                    clear hb HEX
                                    have it2 := HIT.out
                                    go_wp2
                                    go_roundw
                                    case rel =>
                                      refine ⟨j + 1, by omega, by rw [HDN.out, he]; first | rfl | simp, by go_num, ?_⟩
                                      first | exact ⟨HM, Rg10, Rg12⟩ | trivial
                                    case measure => simp [intOf]; omega
                                  · have he : eqU p q = false := by have h1 := HEX.out.symm.trans hb; simpa using h1
                                    clear hb HEX
                                    go_upto_region 22 with fail
                                    refine wp_region_steps0 NewT [SV.eq (.int .i64 (((bb.sg.length : Int) - (ba.sg.length : Int) + (difU ba.sg bb.sg j : Nat)))), SV.eq (.int .i64 (((bb.sg.length : Int) - (ba.sg.length : Int) + ((difU ba.sg bb.sg j + 1 : Nat) : Int)))), SV.eq (.int .i64 (((bb.sg.length : Int) - (ba.sg.length : Int) + ((difU ba.sg bb.sg j + 1 : Nat) : Int))))] [([(14, none)], none), ([(98, some 0)], none), ([(99, some 1)], none)] 117 3 rfl rfl (by kernel_rfl) NewT.trans (NewT.refl _) (Nat.le_of_ble_eq_true rfl) ⟨?_, ?_, ?_, trivial⟩ ?_
                                    · exact fun a wx hT hF K hK => rely_wp rfl (opr_move (.inl rfl) (hK _ _ (NewT.refl _) hF.1))
                                    · exact fun a wx hT hF K hK => rely_wp rfl (opr_add (r := ((bb.sg.length : Int) - (ba.sg.length : Int) + ((difU ba.sg bb.sg j + 1 : Nat) : Int))) Try.underlying3 (by have h1 := HLL.out; have h2 := HDJ.out; unfold wrap64; omega) rfl hF.1 rfl (hK _ _ (NewT.refl _) rfl))
                                    · exact fun a wx hT hF K hK => rely_wp rfl (opr_move (.inr rfl) (hK _ _ (NewT.refl _) hF.1))
                                    · intro w22 k22
                                      iterate 3 (intro u h; obtain rfl := Eq.symm (h (by simp)); clear h)
                                      refine relyEnd_nil rfl ?_
                                      refine wpList_end rfl ?_
                                      simp only [Act.put, List.setIfInBounds_toArray, List.set_cons_zero, List.set_cons_succ]
                                      go_simp
                                      replace Rg10 := Lib.hid (k22.row Rg10.out)
                                      replace Rg12 := Lib.hid (k22.row Rg12.out)
                                      replace HM := Lib.hid (NewT.trans _ _ _ HM.out k22)
                                      clear k22
                                      have it2 := HIT.out
                                      go_wp2
                                      go_roundw
                                      case rel =>
                                        refine ⟨j + 1, by omega, by rw [HDN.out, he]; first | rfl | simp, by go_num, ?_⟩
                                        first | exact ⟨HM, Rg10, Rg12⟩ | trivial
                                      case measure => simp [intOf]; omega
end Go.Proofs.Ytilmeffmdgcblaa
