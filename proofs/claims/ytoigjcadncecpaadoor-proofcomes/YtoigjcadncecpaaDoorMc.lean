/- Paths and proofs on lists, whatever a node's hash is: a leaf's path, what it comes to, that a list begins another one. No program is named. -/
import Derived.Test.YtoigjcadncecpaaDoorMb
import Derived.Defers
import Derived.Recover
set_option linter.all false
namespace Go.Proofs.YtoigjcadncecpaaDoor
set_option maxRecDepth 8000
set_option linter.all false
theorem splitN_pow (n : Nat) (h : 2 ≤ n) : ∃ e, splitN n = 2 ^ e ∧ 2 ^ e < n ∧ n ≤ 2 ^ (e + 1) := by
  have h1 := splitN_lt n h
  refine ⟨(n - 1).log2, by unfold splitN; rw [if_neg (by omega)], ?_⟩
  have e : splitN n = 2 ^ (n - 1).log2 := by unfold splitN; rw [if_neg (by omega)]
  rw [Nat.pow_succ, ← e]; omega
/-- On which side a leaf lies, from the leaf up: true: the other tree is on its right. -/
def leftsM (i n : Nat) : List Bool :=
  if h : n < 2 then [] else if i < splitN n then leftsM i (splitN n) ++ [true] else leftsM (i - splitN n) (n - splitN n) ++ [false]
termination_by n
decreasing_by
  · have := splitN_lt n (by omega); omega
  · have := splitN_lt n (by omega); omega
theorem leftsM_few (i n : Nat) (h : n < 2) : leftsM i n = [] := by rw [leftsM, dif_pos h]
theorem leftsM_l (i n : Nat) (h : 2 ≤ n) (hi : i < splitN n) : leftsM i n = leftsM i (splitN n) ++ [true] := by rw [leftsM, dif_neg (by omega), if_pos hi]
theorem leftsM_r (i n : Nat) (h : 2 ≤ n) (hi : ¬ i < splitN n) : leftsM i n = leftsM (i - splitN n) (n - splitN n) ++ [false] := by rw [leftsM, dif_neg (by omega), if_neg hi]
theorem leftsM_le (e : Nat) : ∀ (i n : Nat), n ≤ 2 ^ e → (leftsM i n).length ≤ e := by
  induction e with
  | zero => intro i n h; rw [leftsM_few _ _ (by simp at h; omega)]; simp
  | succ e ih =>
    intro i n h
    by_cases h2 : n < 2
    · rw [leftsM_few _ _ h2]; simp
    · obtain ⟨f, h3, h4, h5⟩ := splitN_pow n (by omega)
      have hk : splitN n ≤ 2 ^ e := by
        rw [h3]
        have : f < e + 1 := (Nat.pow_lt_pow_iff_right (a := 2) (by omega)).1 (Nat.lt_of_lt_of_le h4 h)
        exact Nat.pow_le_pow_right (by omega) (by omega)
      have hs := splitN_lt n (by omega)
      by_cases hi : i < splitN n
      · rw [leftsM_l _ _ (by omega) hi, List.length_append]
        have := ih i (splitN n) hk; simp; omega
      · rw [leftsM_r _ _ (by omega) hi, List.length_append]
        have := ih (i - splitN n) (n - splitN n) (by omega); simp; omega
/-- On which side a beginning's end lies. -/
def leftsS (m n : Nat) : List Bool :=
  if h : n ≤ m ∨ n < 2 then [] else if m ≤ splitN n then leftsS m (splitN n) ++ [true] else leftsS (m - splitN n) (n - splitN n) ++ [false]
termination_by n
decreasing_by
  · have := splitN_lt n (by omega); omega
  · have := splitN_lt n (by omega); omega
/-- Is the beginning one whole tree on the way down? -/
def wholeS (m n : Nat) : Bool :=
  if h : n ≤ m ∨ n < 2 then true else if m ≤ splitN n then wholeS m (splitN n) else false
termination_by n
decreasing_by have := splitN_lt n (by omega); omega
theorem leftsS_all (m n : Nat) (h : n ≤ m ∨ n < 2) : leftsS m n = [] := by rw [leftsS, dif_pos h]
theorem leftsS_l (m n : Nat) (h : m < n) (h2 : 2 ≤ n) (hm : m ≤ splitN n) : leftsS m n = leftsS m (splitN n) ++ [true] := by rw [leftsS, dif_neg (by omega), if_pos hm]
theorem leftsS_r (m n : Nat) (h : m < n) (h2 : 2 ≤ n) (hm : ¬ m ≤ splitN n) : leftsS m n = leftsS (m - splitN n) (n - splitN n) ++ [false] := by rw [leftsS, dif_neg (by omega), if_neg hm]
theorem wholeS_all (m n : Nat) (h : n ≤ m ∨ n < 2) : wholeS m n = true := by rw [wholeS, dif_pos h]
theorem wholeS_l (m n : Nat) (h : m < n) (h2 : 2 ≤ n) (hm : m ≤ splitN n) : wholeS m n = wholeS m (splitN n) := by rw [wholeS, dif_neg (by omega), if_pos hm]
theorem wholeS_r (m n : Nat) (h : m < n) (h2 : 2 ≤ n) (hm : ¬ m ≤ splitN n) : wholeS m n = false := by rw [wholeS, dif_neg (by omega), if_neg hm]
theorem leftsS_le (e : Nat) : ∀ (m n : Nat), n ≤ 2 ^ e → (leftsS m n).length ≤ e := by
  induction e with
  | zero => intro m n h; rw [leftsS_all _ _ (by simp at h; omega)]; simp
  | succ e ih =>
    intro m n h
    by_cases h2 : n ≤ m ∨ n < 2
    · rw [leftsS_all _ _ h2]; simp
    · obtain ⟨f, h3, h4, h5⟩ := splitN_pow n (by omega)
      have hk : splitN n ≤ 2 ^ e := by
        rw [h3]
        have : f < e + 1 := (Nat.pow_lt_pow_iff_right (a := 2) (by omega)).1 (Nat.lt_of_lt_of_le h4 h)
        exact Nat.pow_le_pow_right (by omega) (by omega)
      have hs := splitN_lt n (by omega)
      by_cases hm : m ≤ splitN n
      · rw [leftsS_l _ _ (by omega) (by omega) hm, List.length_append]
        have := ih m (splitN n) hk; simp; omega
      · rw [leftsS_r _ _ (by omega) (by omega) hm, List.length_append]
        have := ih (m - splitN n) (n - splitN n) (by omega); simp; omega
section
variable {H : Type} (node : H → H → H) (z : H)
/-- A leaf's path. -/
def pathM (l : List H) (i : Nat) : List H :=
  if h : l.length < 2 then [] else if i < splitN l.length then pathM (l.take (splitN l.length)) i ++ [rootM node z (l.drop (splitN l.length))] else pathM (l.drop (splitN l.length)) (i - splitN l.length) ++ [rootM node z (l.take (splitN l.length))]
termination_by l.length
decreasing_by
  · have := splitN_lt l.length (by omega); simp; omega
  · have := splitN_lt l.length (by omega); simp; omega
theorem pathM_few (l : List H) (i : Nat) (h : l.length < 2) : pathM node z l i = [] := by rw [pathM, dif_pos h]
theorem pathM_l (l : List H) (i : Nat) (h : 2 ≤ l.length) (hi : i < splitN l.length) : pathM node z l i = pathM node z (l.take (splitN l.length)) i ++ [rootM node z (l.drop (splitN l.length))] := by rw [pathM, dif_neg (by omega), if_pos hi]
theorem pathM_r (l : List H) (i : Nat) (h : 2 ≤ l.length) (hi : ¬ i < splitN l.length) : pathM node z l i = pathM node z (l.drop (splitN l.length)) (i - splitN l.length) ++ [rootM node z (l.take (splitN l.length))] := by rw [pathM, dif_neg (by omega), if_neg hi]
/-- What a path comes to, side by side. -/
def foldP : H → List Bool → List H → H
  | h, b :: bs, p :: ps => foldP (if b then node h p else node p h) bs ps
  | h, _, _ => h
theorem foldP_app (bs : List Bool) : ∀ (h : H) (ps : List H) (b : Bool) (p : H), bs.length = ps.length → foldP node h (bs ++ [b]) (ps ++ [p]) = if b then node (foldP node h bs ps) p else node p (foldP node h bs ps) := by
  induction bs with
  | nil => intro h ps b p hl; obtain rfl : ps = [] := List.eq_nil_of_length_eq_zero (by simpa using hl.symm)
           rfl
  | cons b bs ih =>
    intro h ps b' p hl
    match ps, hl with
    | q :: ps, hl => simp only [List.cons_append, foldP]; exact ih _ ps b' p (by simpa using hl)
variable {node z}
theorem pathM_length (n : Nat) : ∀ (l : List H) (i : Nat), l.length ≤ n → (pathM node z l i).length = (leftsM i l.length).length := by
  induction n with
  | zero => intro l i h; rw [pathM_few _ _ _ _ (by omega), leftsM_few _ _ (by omega)]; rfl
  | succ n ih =>
    intro l i h
    by_cases h2 : l.length < 2
    · rw [pathM_few _ _ _ _ h2, leftsM_few _ _ h2]; rfl
    · have hs := splitN_lt l.length (by omega)
      by_cases hi : i < splitN l.length
      · rw [pathM_l _ _ _ _ (by omega) hi, leftsM_l _ _ (by omega) hi, List.length_append, List.length_append, ih _ _ (by rw [List.length_take]; omega), List.length_take, Nat.min_eq_left (by omega)]; rfl
      · rw [pathM_r _ _ _ _ (by omega) hi, leftsM_r _ _ (by omega) hi, List.length_append, List.length_append, ih _ _ (by rw [List.length_drop]; omega), List.length_drop]; rfl
/-- Of another leaf a path comes to the root of the list that has that in its place. -/
theorem path_set (n : Nat) : ∀ (l : List H) (i : Nat) (h : H), l.length ≤ n → i < l.length → foldP node h (leftsM i l.length) (pathM node z l i) = rootM node z (l.set i h) := by
  induction n with
  | zero => intro l i h hn hi; omega
  | succ n ih =>
    intro l i h hn hi
    by_cases h2 : l.length < 2
    · match l, h2, hi with
      | [x], _, hi =>
        obtain rfl : i = 0 := by simpa using hi
        rw [pathM_few _ _ _ _ (by simp), leftsM_few _ _ (by simp)]
        simp [foldP, rootM_one]
    · have hs := splitN_lt l.length (by omega)
      have hr := rootM_split node z (l.set i h) (by rw [List.length_set]; omega)
      rw [List.length_set] at hr
      by_cases hik : i < splitN l.length
      · have e1 : (l.set i h).take (splitN l.length) = (l.take (splitN l.length)).set i h := List.take_set ..
        have e2 : (l.set i h).drop (splitN l.length) = l.drop (splitN l.length) := List.drop_set_of_lt hik
        have hlen : (l.take (splitN l.length)).length = splitN l.length := by rw [List.length_take]; omega
        have h3 := ih (l.take (splitN l.length)) i h (by omega) (by omega)
        rw [hlen] at h3
        rw [pathM_l _ _ _ _ (by omega) hik, leftsM_l _ _ (by omega) hik, foldP_app _ _ _ _ _ _ (by rw [pathM_length _ _ _ (Nat.le_refl _), hlen]), h3, if_pos rfl, hr, e1, e2]
      · have e1 : (l.set i h).take (splitN l.length) = l.take (splitN l.length) := List.take_set_of_le (by omega)
        have e2 : (l.set i h).drop (splitN l.length) = (l.drop (splitN l.length)).set (i - splitN l.length) h := by rw [List.drop_set, if_neg (by omega)]
        have hlen : (l.drop (splitN l.length)).length = l.length - splitN l.length := by rw [List.length_drop]
        have h3 := ih (l.drop (splitN l.length)) (i - splitN l.length) h (by omega) (by omega)
        rw [hlen] at h3
        rw [pathM_r _ _ _ _ (by omega) hik, leftsM_r _ _ (by omega) hik, foldP_app _ _ _ _ _ _ (by rw [pathM_length _ _ _ (Nat.le_refl _), hlen]), h3, if_neg (by decide), hr, e1, e2]
/-- A leaf's path comes to the list's root. -/
theorem path_comes (l : List H) (i : Nat) (h : H) (hi : l[i]? = some h) : foldP node h (leftsM i l.length) (pathM node z l i) = rootM node z l := by
  obtain ⟨hlt, rfl⟩ := List.getElem?_eq_some_iff.1 hi
  rw [path_set l.length l i l[i] (Nat.le_refl _) hlt, List.set_getElem_self]
variable (node z)
/-- The proof that the first m begin a list. -/
def subM (m : Nat) (l : List H) (b : Bool) : List H :=
  if h : l.length ≤ m ∨ l.length < 2 then (if b then [] else [rootM node z l]) else if m ≤ splitN l.length then subM m (l.take (splitN l.length)) b ++ [rootM node z (l.drop (splitN l.length))] else subM (m - splitN l.length) (l.drop (splitN l.length)) false ++ [rootM node z (l.take (splitN l.length))]
termination_by l.length
decreasing_by
  · have := splitN_lt l.length (by omega); simp; omega
  · have := splitN_lt l.length (by omega); simp; omega
theorem subM_all (m : Nat) (l : List H) (b : Bool) (h : l.length ≤ m ∨ l.length < 2) : subM node z m l b = if b then [] else [rootM node z l] := by rw [subM, dif_pos h]
theorem subM_l (m : Nat) (l : List H) (b : Bool) (h : m < l.length) (h2 : 2 ≤ l.length) (hm : m ≤ splitN l.length) : subM node z m l b = subM node z m (l.take (splitN l.length)) b ++ [rootM node z (l.drop (splitN l.length))] := by rw [subM, dif_neg (by omega), if_pos hm]
theorem subM_r (m : Nat) (l : List H) (b : Bool) (h : m < l.length) (h2 : 2 ≤ l.length) (hm : ¬ m ≤ splitN l.length) : subM node z m l b = subM node z (m - splitN l.length) (l.drop (splitN l.length)) false ++ [rootM node z (l.take (splitN l.length))] := by rw [subM, dif_neg (by omega), if_neg hm]
/-- What a proof comes to, side by side: both roots. -/
def foldB : H × H → List Bool → List H → H × H
  | h, b :: bs, p :: ps => foldB (if b then (h.1, node h.2 p) else (node p h.1, node p h.2)) bs ps
  | h, _, _ => h
theorem foldB_app (bs : List Bool) : ∀ (h : H × H) (ps : List H) (b : Bool) (p : H), bs.length = ps.length → foldB node h (bs ++ [b]) (ps ++ [p]) = if b then ((foldB node h bs ps).1, node (foldB node h bs ps).2 p) else (node p (foldB node h bs ps).1, node p (foldB node h bs ps).2) := by
  induction bs with
  | nil => intro h ps b p hl; obtain rfl : ps = [] := List.eq_nil_of_length_eq_zero (by simpa using hl.symm)
           rfl
  | cons b bs ih =>
    intro h ps b' p hl
    match ps, hl with
    | q :: ps, hl => simp only [List.cons_append, foldB]; exact ih _ ps b' p (by simpa using hl)
variable {node z}
/-- A proof has one hash for each side, and one more if the beginning is no whole tree. -/
theorem subM_length (n : Nat) : ∀ (m : Nat) (l : List H) (b : Bool), l.length ≤ n → (subM node z m l b).length = (leftsS m l.length).length + (if b && wholeS m l.length then 0 else 1) := by
  induction n with
  | zero => intro m l b h; rw [subM_all _ _ _ _ _ (by omega), leftsS_all _ _ (by omega), wholeS_all _ _ (by omega)]; cases b <;> simp
  | succ n ih =>
    intro m l b h
    by_cases h2 : l.length ≤ m ∨ l.length < 2
    · rw [subM_all _ _ _ _ _ h2, leftsS_all _ _ h2, wholeS_all _ _ h2]; cases b <;> simp
    · have hs := splitN_lt l.length (by omega)
      by_cases hm : m ≤ splitN l.length
      · have hlen : (l.take (splitN l.length)).length = splitN l.length := by rw [List.length_take]; omega
        rw [subM_l _ _ _ _ _ (by omega) (by omega) hm, leftsS_l _ _ (by omega) (by omega) hm, wholeS_l _ _ (by omega) (by omega) hm, List.length_append, List.length_append, ih _ _ _ (by omega), hlen]; simp; omega
      · have hlen : (l.drop (splitN l.length)).length = l.length - splitN l.length := by rw [List.length_drop]
        rw [subM_r _ _ _ _ _ (by omega) (by omega) hm, leftsS_r _ _ (by omega) (by omega) hm, wholeS_r _ _ (by omega) (by omega) hm, List.length_append, List.length_append, ih _ _ _ (by omega), hlen]; simp
theorem rootM_take (l : List H) (m : Nat) (h2 : 2 ≤ l.length) (hm : ¬ m ≤ splitN l.length) (hn : m ≤ l.length) : rootM node z (l.take m) = node (rootM node z (l.take (splitN l.length))) (rootM node z ((l.drop (splitN l.length)).take (m - splitN l.length))) := by
  obtain ⟨e, h3, h4, h5⟩ := splitN_pow l.length h2
  have e1 : l.take m = l.take (splitN l.length) ++ (l.drop (splitN l.length)).take (m - splitN l.length) := by
    have : m = splitN l.length + (m - splitN l.length) := by omega
    rw [this, List.take_add, Nat.add_sub_cancel_left]
  rw [Nat.pow_succ] at h5
  rw [e1]
  exact rootM_app node z _ _ e (by rw [List.length_take, ← h3]; omega) (by rw [List.length_take, List.length_drop]; omega) (by rw [List.length_take, List.length_drop]; omega)
/-- A proof that tells its own first root comes to both roots. -/
theorem sub_false (n : Nat) : ∀ (m : Nat) (l : List H), l.length ≤ n → 1 ≤ m → m ≤ l.length → ∃ q qs, subM node z m l false = q :: qs ∧ (leftsS m l.length).length = qs.length ∧ foldB node (q, q) (leftsS m l.length) qs = (rootM node z (l.take m), rootM node z l) := by
  induction n with
  | zero => intro m l h1 h2 h3; omega
  | succ n ih =>
    intro m l hn h1 hml
    by_cases h2 : l.length ≤ m ∨ l.length < 2
    · refine ⟨rootM node z l, [], by rw [subM_all _ _ _ _ _ h2]; rfl, by rw [leftsS_all _ _ h2]; rfl, ?_⟩
      rw [leftsS_all _ _ h2, List.take_of_length_le (by omega)]; rfl
    · have hs := splitN_lt l.length (by omega)
      by_cases hm : m ≤ splitN l.length
      · have hlen : (l.take (splitN l.length)).length = splitN l.length := by rw [List.length_take]; omega
        obtain ⟨q, qs, e1, e2, e3⟩ := ih m (l.take (splitN l.length)) (by omega) h1 (by omega)
        rw [hlen] at e2 e3
        refine ⟨q, qs ++ [rootM node z (l.drop (splitN l.length))], by rw [subM_l _ _ _ _ _ (by omega) (by omega) hm, e1]; rfl, by rw [leftsS_l _ _ (by omega) (by omega) hm]; simp [e2], ?_⟩
        rw [leftsS_l _ _ (by omega) (by omega) hm, foldB_app _ _ _ _ _ _ e2, if_pos rfl, e3, List.take_take, Nat.min_eq_left hm, ← rootM_split node z l (by omega)]
      · have hlen : (l.drop (splitN l.length)).length = l.length - splitN l.length := by rw [List.length_drop]
        obtain ⟨q, qs, e1, e2, e3⟩ := ih (m - splitN l.length) (l.drop (splitN l.length)) (by omega) (by omega) (by omega)
        rw [hlen] at e2 e3
        refine ⟨q, qs ++ [rootM node z (l.take (splitN l.length))], by rw [subM_r _ _ _ _ _ (by omega) (by omega) hm, e1]; rfl, by rw [leftsS_r _ _ (by omega) (by omega) hm]; simp [e2], ?_⟩
        rw [leftsS_r _ _ (by omega) (by omega) hm, foldB_app _ _ _ _ _ _ e2, if_neg (by decide), e3, ← rootM_split node z l (by omega), ← rootM_take (node := node) (z := z) l m (by omega) hm hml]
/-- A proof comes to both roots. -/
theorem sub_true (n : Nat) : ∀ (m : Nat) (l : List H), l.length ≤ n → 1 ≤ m → m ≤ l.length →
    (wholeS m l.length = true → (leftsS m l.length).length = (subM node z m l true).length ∧ foldB node (rootM node z (l.take m), rootM node z (l.take m)) (leftsS m l.length) (subM node z m l true) = (rootM node z (l.take m), rootM node z l)) ∧
    (wholeS m l.length = false → ∃ q qs, subM node z m l true = q :: qs ∧ (leftsS m l.length).length = qs.length ∧ foldB node (q, q) (leftsS m l.length) qs = (rootM node z (l.take m), rootM node z l)) := by
  induction n with
  | zero => intro m l h1 h2 h3; omega
  | succ n ih =>
    intro m l hn h1 hml
    by_cases h2 : l.length ≤ m ∨ l.length < 2
    · rw [wholeS_all _ _ h2, leftsS_all _ _ h2, subM_all _ _ _ _ _ h2, List.take_of_length_le (by omega)]
      exact ⟨fun _ => ⟨rfl, rfl⟩, fun h => by cases h⟩
    · have hs := splitN_lt l.length (by omega)
      by_cases hm : m ≤ splitN l.length
      · have hlen : (l.take (splitN l.length)).length = splitN l.length := by rw [List.length_take]; omega
        have h3 := ih m (l.take (splitN l.length)) (by omega) h1 (by omega)
        rw [hlen, List.take_take, Nat.min_eq_left hm] at h3
        rw [wholeS_l _ _ (by omega) (by omega) hm, leftsS_l _ _ (by omega) (by omega) hm, subM_l _ _ _ _ _ (by omega) (by omega) hm]
        refine ⟨fun hw => ?_, fun hw => ?_⟩
        · obtain ⟨e2, e3⟩ := h3.1 hw
          refine ⟨by simp [e2], ?_⟩
          rw [foldB_app _ _ _ _ _ _ e2, if_pos rfl, e3, ← rootM_split node z l (by omega)]
        · obtain ⟨q, qs, e1, e2, e3⟩ := h3.2 hw
          refine ⟨q, qs ++ [rootM node z (l.drop (splitN l.length))], by rw [e1]; rfl, by simp [e2], ?_⟩
          rw [foldB_app _ _ _ _ _ _ e2, if_pos rfl, e3, ← rootM_split node z l (by omega)]
      · have hlen : (l.drop (splitN l.length)).length = l.length - splitN l.length := by rw [List.length_drop]
        rw [wholeS_r _ _ (by omega) (by omega) hm]
        refine ⟨fun h => (by cases h), fun _ => ?_⟩
        obtain ⟨q, qs, e1, e2, e3⟩ := sub_false (l.length - splitN l.length) (m - splitN l.length) (l.drop (splitN l.length)) (by omega) (by omega) (by omega)
        rw [hlen] at e2 e3
        refine ⟨q, qs ++ [rootM node z (l.take (splitN l.length))], by rw [subM_r _ _ _ _ _ (by omega) (by omega) hm, e1]; rfl, by rw [leftsS_r _ _ (by omega) (by omega) hm]; simp [e2], ?_⟩
        rw [leftsS_r _ _ (by omega) (by omega) hm, foldB_app _ _ _ _ _ _ e2, if_neg (by decide), e3, ← rootM_split node z l (by omega), ← rootM_take (node := node) (z := z) l m (by omega) hm hml]
end
end Go.Proofs.YtoigjcadncecpaaDoor
/- What a path or a proof comes to when its hashes are taken from the end, whatever a node's hash is. No program is named. -/
namespace Go.Proofs.YtoigjcadncecpaaDoor
set_option maxRecDepth 8000
set_option linter.all false
section
variable {H : Type} (node : H → H → H)
/-- The last c of the first k. -/
def winM (l : List H) (k c : Nat) : List H := (l.take k).drop (k - c)
theorem winM_length (l : List H) (k c : Nat) (hc : c ≤ k) (hk : k ≤ l.length) : (winM l k c).length = c := by
  unfold winM; rw [List.length_drop, List.length_take]; omega
theorem winM_succ (l : List H) (k c : Nat) (d : H) (hc : c ≤ k) (hd : l[k]? = some d) : winM l (k + 1) (c + 1) = winM l k c ++ [d] := by
  have hk : k < l.length := (List.getElem?_eq_some_iff.1 hd).1
  unfold winM
  rw [List.take_add_one, hd, show k + 1 - (c + 1) = k - c by omega, List.drop_append_of_le_length (by rw [List.length_take]; omega)]
  rfl
theorem winM_all (l : List H) : winM l l.length l.length = l := by unfold winM; simp
theorem winM_none (l : List H) (k : Nat) : winM l k 0 = [] := by unfold winM; rw [List.drop_eq_nil_of_le]; rw [List.length_take]; omega
/-- What a path comes to, of its last hashes. -/
def upP (leaf : H) (i n : Nat) (q : List H) : H := foldP node leaf (leftsM i n) q
theorem upP_few (leaf : H) (i n : Nat) (q : List H) (h : n < 2) : upP node leaf i n q = leaf := by unfold upP; rw [leftsM_few _ _ h]; rfl
theorem upP_l (leaf : H) (i n : Nat) (q : List H) (d : H) (h : 2 ≤ n) (hi : i < splitN n) (hq : q.length = (leftsM i (splitN n)).length) : upP node leaf i n (q ++ [d]) = node (upP node leaf i (splitN n) q) d := by
  unfold upP; rw [leftsM_l _ _ h hi, foldP_app _ _ _ _ _ _ hq.symm, if_pos rfl]
theorem upP_r (leaf : H) (i n : Nat) (q : List H) (d : H) (h : 2 ≤ n) (hi : ¬ i < splitN n) (hq : q.length = (leftsM (i - splitN n) (n - splitN n)).length) : upP node leaf i n (q ++ [d]) = node d (upP node leaf (i - splitN n) (n - splitN n) q) := by
  unfold upP; rw [leftsM_r _ _ h hi, foldP_app _ _ _ _ _ _ hq.symm, if_neg (by decide)]
/-- How many hashes a proof takes. -/
def needS (b : Bool) (m n : Nat) : Nat := (leftsS m n).length + (if b && wholeS m n then 0 else 1)
/-- What a proof comes to, of its last hashes. -/
def upB (b : Bool) (old : H) (m n : Nat) (q : List H) : H × H := if b && wholeS m n then foldB node (old, old) (leftsS m n) q else foldB node (q.headD old, q.headD old) (leftsS m n) q.tail
theorem needS_all (b : Bool) (n : Nat) : needS b n n = if b then 0 else 1 := by unfold needS; rw [leftsS_all _ _ (.inl (Nat.le_refl _)), wholeS_all _ _ (.inl (Nat.le_refl _))]; cases b <;> rfl
theorem needS_l (b : Bool) (m n : Nat) (h : m < n) (h2 : 2 ≤ n) (hm : m ≤ splitN n) : needS b m n = needS b m (splitN n) + 1 := by unfold needS; rw [leftsS_l _ _ h h2 hm, wholeS_l _ _ h h2 hm]; simp; omega
theorem needS_r (b : Bool) (m n : Nat) (h : m < n) (h2 : 2 ≤ n) (hm : ¬ m ≤ splitN n) : needS b m n = needS false (m - splitN n) (n - splitN n) + 1 := by unfold needS; rw [leftsS_r _ _ h h2 hm, wholeS_r _ _ h h2 hm]; simp
theorem upB_told (old : H) (n : Nat) : upB node true old n n [] = (old, old) := by unfold upB; rw [leftsS_all _ _ (.inl (Nat.le_refl _)), wholeS_all _ _ (.inl (Nat.le_refl _))]; rfl
theorem upB_own (old : H) (n : Nat) (d : H) : upB node false old n n [d] = (d, d) := by unfold upB; rw [leftsS_all _ _ (.inl (Nat.le_refl _))]; rfl
theorem upB_l (b : Bool) (old : H) (m n : Nat) (q : List H) (d : H) (h : m < n) (h2 : 2 ≤ n) (hm : m ≤ splitN n) (hq : q.length = needS b m (splitN n)) : upB node b old m n (q ++ [d]) = ((upB node b old m (splitN n) q).1, node (upB node b old m (splitN n) q).2 d) := by
  unfold needS at hq
  unfold upB
  rw [leftsS_l _ _ h h2 hm, wholeS_l _ _ h h2 hm]
  cases hb : b && wholeS m (splitN n)
  · rw [hb] at hq
    simp only [Bool.false_eq_true, if_false] at hq ⊢
    match q, hq with
    | x :: q, hq => simp only [List.cons_append, List.headD_cons, List.tail_cons]; rw [foldB_app _ _ _ _ _ _ (by simpa using hq.symm), if_pos rfl]
  · rw [hb] at hq
    simp only [if_true] at hq ⊢
    rw [foldB_app _ _ _ _ _ _ (by omega), if_pos rfl]
theorem upB_r (b : Bool) (old : H) (m n : Nat) (q : List H) (d : H) (h : m < n) (h2 : 2 ≤ n) (hm : ¬ m ≤ splitN n) (hq : q.length = needS false (m - splitN n) (n - splitN n)) : upB node b old m n (q ++ [d]) = (node d (upB node false old (m - splitN n) (n - splitN n) q).1, node d (upB node false old (m - splitN n) (n - splitN n) q).2) := by
  unfold needS at hq
  unfold upB
  rw [leftsS_r _ _ h h2 hm, wholeS_r _ _ h h2 hm]
  simp only [Bool.and_false, Bool.false_and, Bool.false_eq_true, if_false] at hq ⊢
  match q, hq with
  | x :: q, hq => simp only [List.cons_append, List.headD_cons, List.tail_cons]; rw [foldB_app _ _ _ _ _ _ (by simpa using hq.symm), if_neg (by decide)]
/-- May a path be asked? -/
def okP (i n : Int) (c : Nat) : Bool := decide (0 ≤ i) && (decide (i < n) && (decide (n ≤ 1048576) && decide ((leftsM i.toNat n.toNat).length = c)))
/-- May a proof be asked? -/
def okB (m n : Int) (c : Nat) : Bool := decide (1 ≤ m) && (decide (m ≤ n) && (decide (n ≤ 1048576) && decide (needS true m.toNat n.toNat = c)))
/-- What a path comes to. -/
def comesM (z0 : H) (leaf : H) (i n : Int) (l : List H) : H := if okP i n l.length then upP node leaf i.toNat n.toNat l else z0
/-- What a proof comes to. -/
def bothM (z0 : H) (old : H) (m n : Int) (l : List H) : H × H := if okB m n l.length then upB node true old m.toNat n.toNat l else (z0, z0)
variable {node} {z : H}
/-- A leaf's path comes to the root of the list with it in its place. -/
theorem comes_set (z0 : H) (l : List H) (i : Nat) (h : H) (hi : i < l.length) (hn : l.length ≤ 1048576) : okP (i : Int) (l.length : Int) (pathM node z l i).length = true ∧ comesM node z0 h (i : Int) (l.length : Int) (pathM node z l i) = rootM node z (l.set i h) := by
  have h1 : okP (i : Int) (l.length : Int) (pathM node z l i).length = true := by
    unfold okP
    rw [pathM_length (node := node) (z := z) _ l i (Nat.le_refl _)]
    simp; omega
  refine ⟨h1, ?_⟩
  unfold comesM upP
  rw [if_pos h1, Int.toNat_natCast, Int.toNat_natCast]
  exact path_set (node := node) (z := z) _ l i h (Nat.le_refl _) hi
theorem comes_root (z0 : H) (l : List H) (i : Nat) (h : H) (hi : l[i]? = some h) (hn : l.length ≤ 1048576) : comesM node z0 h (i : Int) (l.length : Int) (pathM node z l i) = rootM node z l := by
  obtain ⟨h1, h2⟩ := List.getElem?_eq_some_iff.1 hi
  rw [(comes_set z0 l i h h1 hn).2]
  congr 1
  rw [← h2]; exact List.set_getElem_self h1
/-- A list's proof comes to both roots. -/
theorem both_root (z0 : H) (l : List H) (m : Nat) (h1 : 1 ≤ m) (hm : m ≤ l.length) (hn : l.length ≤ 1048576) : okB (m : Int) (l.length : Int) (subM node z m l true).length = true ∧ bothM node z0 (rootM node z (l.take m)) (m : Int) (l.length : Int) (subM node z m l true) = (rootM node z (l.take m), rootM node z l) := by
  have hk : okB (m : Int) (l.length : Int) (subM node z m l true).length = true := by
    unfold okB
    rw [subM_length (node := node) (z := z) _ m l true (Nat.le_refl _)]
    simp [needS]; omega
  refine ⟨hk, ?_⟩
  unfold bothM upB
  rw [if_pos hk, Int.toNat_natCast, Int.toNat_natCast]
  obtain ⟨s1, s2⟩ := sub_true (node := node) (z := z) l.length m l (Nat.le_refl _) h1 hm
  cases hw : wholeS m l.length
  · obtain ⟨q, qs, e1, e2, e3⟩ := s2 hw
    simp only [Bool.and_false, Bool.false_eq_true, if_false]
    rw [e1]
    exact e3
  · simp only [Bool.and_true, if_true]
    exact (s1 hw).2
end
end Go.Proofs.YtoigjcadncecpaaDoor
/- Hashes that are taken from the end of a list, one by one: the variable that holds what is left. -/
namespace Go.Proofs.YtoigjcadncecpaaDoor
open Go Go.RowKit
set_option maxRecDepth 8000
set_option linter.all false
/-- Block g holds what is left of the list: its first k. The list, and the tables, lay there ahead of g. -/
def TkAt (w : World) (g : Nat) (l : List Hs) (k : Nat) : Prop :=
  ∃ A c W, w.rowIs g 22 1 (fun _ => .slice A k c) ∧ Tables W ∧ NewT W w ∧ W.heap.size ≤ g ∧ RdH W (.slice A l.length c) l ∧ k ≤ l.length
theorem TkAt.lt {w : World} {g k : Nat} {l : List Hs} (h : TkAt w g l k) : g < w.heap.size := by obtain ⟨A, c, W, h1, _⟩ := h; exact h1.lt
theorem TkAt.le {w : World} {g k : Nat} {l : List Hs} (h : TkAt w g l k) : k ≤ l.length := by obtain ⟨A, c, W, _, _, _, _, _, h1⟩ := h; exact h1
theorem TkAt.tables {w : World} {g k : Nat} {l : List Hs} (h : TkAt w g l k) : Tables w := by obtain ⟨A, c, W, _, h1, h2, _⟩ := h; exact h2.tables h1
theorem TkAt.new {w w' : World} {g k : Nat} {l : List Hs} (h : TkAt w g l k) (hN : NewT w w') : TkAt w' g l k := by
  obtain ⟨A, c, W, h1, h2, h3, h4⟩ := h
  exact ⟨A, c, W, hN.row h1, h2, NewT.trans _ _ _ h3 hN, h4⟩
/-- A block behind g is written. -/
theorem TkAt.late {w w' : World} {g b k : Nat} {l : List Hs} (h : TkAt w g l k) (hR : RT b w w') (hb : g < b) : TkAt w' g l k := by
  obtain ⟨A, c, W, h1, h2, h3, h4, h5⟩ := h
  exact ⟨A, c, W, hR.row (by omega) h1, h2, NewT.of (h3.out.trans (hR.below.mono (by omega))), h4, h5⟩
theorem TkAt.tabs {w w' : World} {g k : Nat} {l : List Hs} (h : TkAt w g l k) (hR : RT g w w') : Tables w' := by
  obtain ⟨A, c, W, h1, h2, h3, h4, _⟩ := h
  exact (NewT.of (h3.out.trans (hR.below.mono h4))).tables h2
/-- What never comes. -/
def svNo {T : World → World → Prop} : SV T := ⟨fun _ _ => False, fun _ _ _ h _ => h⟩
/-- The panic that says that there is no hash left. -/
def fewP : List PanicEntry := [{ v := .iface 9 (.string ⟨#[116, 111, 111, 32, 102, 101, 119, 32, 104, 97, 115, 104, 101, 115]⟩), recovered := false }]
section
variable {P : Program} {a : Act} {w : World} {o : Oper} {K : Act → World → Prop} {Q : Exit → Act → World → Prop} {f : Nat} {fn : Func} {x : Operand} {args : Array Operand} {vs cap : Array Value} {ts : Array TypeId}
/-- A function value is called, and panics. -/
theorem opr_callvP (ho : o.op = .call { callee := .value x, args := args, argTypes := ts }) (hx : a.eval x = .func (.func f) #[] cap) (hf : P.funcs[f]? = some fn)
    (hn : (fn.name == "runtime.NumGoroutine") = false) (hb : fn.body.isNone = false) (hv : args.map a.eval ++ cap = vs)
    (h : Calls P f vs w fun e w' => ∃ ch, e = .panicked ch ∧ Q (.panic ch) a w') : o.wp P a w K Q := by
  obtain ⟨dst, op, type, pos, after, guard⟩ := o
  simp only at ho
  subst ho
  have e : execOp a.eval { dst, op := .call { callee := .value x, args := args, argTypes := ts }, type, pos, after, guard } = callFunc f vs := by
    show (do let d ← resolve a.eval { callee := .value x, args := args, argTypes := ts } type; invoke d.target d.args) = _
    simp only [resolve, Deferred.ofValue, hx, invoke, pure_bind]
    rw [← hv]; simp
  unfold Oper.wp
  rw [e, run_callFunc_go hf hn hb, Oper.upon_enter]
  refine h.mono ?_
  rintro e w' ⟨v, rfl, hk⟩
  exact hk
/-- A Go function is called, and panics. -/
theorem opr_callP (ho : o.op = .call { callee := .value (.func f), args := args, argTypes := ts }) (hf : P.funcs[f]? = some fn)
    (hn : (fn.name == "runtime.NumGoroutine") = false) (hb : fn.body.isNone = false) (hv : args.map a.eval = vs)
    (h : Calls P f vs w fun e w' => ∃ ch, e = .panicked ch ∧ Q (.panic ch) a w') : o.wp P a w K Q := by
  obtain ⟨dst, op, type, pos, after, guard⟩ := o
  simp only at ho
  subst ho
  subst hv
  unfold Oper.wp
  rw [execOp_call_go, show #[] ++ args.map a.eval ++ #[] = args.map a.eval by simp, run_callFunc_go hf hn hb, Oper.upon_enter]
  refine h.mono ?_
  rintro e w' ⟨v, rfl, hk⟩
  exact hk
end
end Go.Proofs.YtoigjcadncecpaaDoor
/- Boxes of one value; what calls hand back together: rows, flags. -/
namespace Go.Proofs.YtoigjcadncecpaaDoor
open Go Go.RowKit
set_option maxRecDepth 8000
set_option linter.all false
theorem rowIs_one (w : World) (t : TypeId) (v : Value) : (w.alloc (.cells #[v] t)).rowIs w.heap.size t 1 (fun _ => v) := rowIs_box w t 1 (fun _ => v)
/-- A block that is new is written. -/
theorem NewT.rt {w w1 w2 : World} {b : Nat} (h : NewT w w1) (hR : RT b w1 w2) (hb : w.heap.size ≤ b) : NewT w w2 := NewT.of (h.out.trans (hR.below.mono hb))
section
variable {P : Program} {w : World} {fn : Func} {tmps : Array Value}
theorem run_ldV_row {b n : Nat} {t ty : TypeId} {d : TypeDesc} {f : Nat → Value} (h : w.rowIs b t n f) (hu : P.underlying ty = some d) (hd : d.isRow = true) (hi : (P.info? ty).map (·.size) = some n) : (loadVar ty ⟨b, 0, none⟩).run P w = .ok (.agg (rowA n f)) w := by
  simpa using run_loadVar_mid (P := P) w b 0 ty (rowA n f).toList d (rangeAt_row h) hu hd (by rw [hi, rowA_toList]; simp)
theorem run_ldV_one {b : Nat} {t ty : TypeId} {v : Value} {d : TypeDesc} (h : w.rowIs b t 1 (fun _ => v)) (hu : P.underlying ty = some d) (hd : d.isRow = false) : (loadVar ty ⟨b, 0, none⟩).run P w = .ok v w := by
  have ha : (isAgg ty).run P w = .ok false w := by
    unfold isAgg
    rw [Sem.run_bind, run_underlying hu w]
    cases d <;> first | rfl | cases hd
  have hc := h.cell (i := 0) (by omega)
  simp only [loadVar, Sem.run_bind, ha, Result.andThen_ok, Bool.false_eq_true, if_false]
  simp [run_load, hc]
/-- A row, and what lies in a variable. -/
theorem results_rv {p q : Tmp} {tp tq t t' : TypeId} {d d' : TypeDesc} {n b b' : Nat} {f : Nat → Value} {v : Value} (hf : fn.results = #[.cell p tp, .cell q tq]) (hp : tmps.getD p undef = .pointer (some ⟨b, 0, none⟩)) (hq : tmps.getD q undef = .pointer (some ⟨b', 0, none⟩))
    (h : w.rowIs b t n f) (h' : w.rowIs b' t' 1 (fun _ => v)) (hu : P.underlying tp = some d) (hd : d.isRow = true) (hi : (P.info? tp).map (·.size) = some n) (hu' : P.underlying tq = some d') (hd' : d'.isRow = false) : (results fn tmps).run P w = .ok (.tuple #[.agg (rowA n f), v]) w := by
  have e1 := run_ldV_row (P := P) h hu hd hi
  have e2 := run_ldV_one (P := P) h' hu' hd'
  have hp' : tmps[p]?.getD undef = .pointer (some ⟨b, 0, none⟩) := by simpa using hp
  have hq' : tmps[q]?.getD undef = .pointer (some ⟨b', 0, none⟩) := by simpa using hq
  simp [results, hf, hp', hq', asAddr, e1, e2]
/-- A row, and a value of the frame. -/
theorem results_rt {p u : Tmp} {tp t : TypeId} {d : TypeDesc} {n b : Nat} {f : Nat → Value} {v : Value} (hf : fn.results = #[.cell p tp, .tmp u]) (hp : tmps.getD p undef = .pointer (some ⟨b, 0, none⟩)) (hv : tmps.getD u undef = v)
    (h : w.rowIs b t n f) (hu : P.underlying tp = some d) (hd : d.isRow = true) (hi : (P.info? tp).map (·.size) = some n) : (results fn tmps).run P w = .ok (.tuple #[.agg (rowA n f), v]) w := by
  have e1 := run_ldV_row (P := P) h hu hd hi
  have hp' : tmps[p]?.getD undef = .pointer (some ⟨b, 0, none⟩) := by simpa using hp
  have hv' : tmps[u]?.getD undef = v := by simpa using hv
  simp [results, hf, hp', hv', asAddr, e1]
/-- Two rows, and a value of the frame. -/
theorem results_rrt {p q u : Tmp} {tp t t' : TypeId} {d : TypeDesc} {n b b' : Nat} {f f' : Nat → Value} {v : Value} (hf : fn.results = #[.cell p tp, .cell q tp, .tmp u]) (hp : tmps.getD p undef = .pointer (some ⟨b, 0, none⟩)) (hq : tmps.getD q undef = .pointer (some ⟨b', 0, none⟩)) (hv : tmps.getD u undef = v)
    (h : w.rowIs b t n f) (h' : w.rowIs b' t' n f') (hu : P.underlying tp = some d) (hd : d.isRow = true) (hi : (P.info? tp).map (·.size) = some n) : (results fn tmps).run P w = .ok (.tuple #[.agg (rowA n f), .agg (rowA n f'), v]) w := by
  have e1 := run_ldV_row (P := P) h hu hd hi
  have e2 := run_ldV_row (P := P) h' hu hd hi
  have hp' : tmps[p]?.getD undef = .pointer (some ⟨b, 0, none⟩) := by simpa using hp
  have hq' : tmps[q]?.getD undef = .pointer (some ⟨b', 0, none⟩) := by simpa using hq
  have hv' : tmps[u]?.getD undef = v := by simpa using hv
  simp [results, hf, hp', hq', hv', asAddr, e1, e2]
variable {a : Act} {o : Oper} {K : Act → World → Prop} {Q : Exit → Act → World → Prop}
/-- A closure is made. -/
theorem opr_mkf {fid : Nat} {xs : Array Operand} {cap : Array Value} (ho : o.op = .makeFunc (.func fid) #[] xs) (hx : xs.map a.eval = cap) (h : K (a.put o.dst (.func (.func fid) #[] cap)) w) : o.wp P a w K Q := by
  obtain ⟨dst, op, type, pos, after, guard⟩ := o
  simp only at ho
  subst ho
  subst hx
  exact opr_val (s := Instr.makeFunc (.func fid) #[] (xs.map a.eval)) (by simp [execOp]) rfl h
/-- One of the values that a call hands back together. -/
theorem opr_ext {k : Nat} {x : Operand} {vs : Array Value} {v : Value} (ho : o.op = .extract x k) (hx : a.eval x = .tuple vs) (hv : vs[k]? = some v) (h : K (a.put o.dst v) w) : o.wp P a w K Q := by
  obtain ⟨dst, op, type, pos, after, guard⟩ := o
  simp only at ho
  subst ho
  exact opr_val (s := Instr.extract (a.eval x) k) (by simp [execOp]) (by rw [hx]; simp [Instr.extract, hv]) h
end
end Go.Proofs.YtoigjcadncecpaaDoor
/- A hash is taken from the end, or there is none: what the closures of ofAll come to. -/
namespace Go.Proofs.YtoigjcadncecpaaDoor
open Go Go.RowKit
set_option maxRecDepth 8000
set_option linter.all false
set_option maxHeartbeats 2000000 in
theorem takeP_ok (g k : Nat) (path : List Hs) (d : Hs) (w : World) (h : TkAt w g path (k + 1)) (hd : path[k]? = some d) (hk : k ≤ 1000000) :
    Calls Tryd.prog 44 #[.pointer (some ⟨g, 0, none⟩)] w fun e w' => e = .returned (.agg (rowA 32 (bF d))) ∧ RT g w w' ∧ TkAt w' g path k := by
  obtain ⟨A, c, W, hg, htw, hnw, hwg, hr, hkl⟩ := h
  have HG := Lib.hid hg.lt
  have HRD := Lib.hid hr
  have HKL := Lib.hid hkl
  have HTW := Lib.hid htw
  have HNW := Lib.hid hnw
  have HWG := Lib.hid hwg
  have HC : Hid (k + 1 ≤ c) := Lib.hid (by obtain ⟨A', c', hv, h1, _⟩ := hr; injection hv with _ _ e; omega)
  have hs := rdH_take (hnw.hs hr) hkl
  obtain ⟨L, hL⟩ : ∃ L, List.take (k + 1) path = L := ⟨_, rfl⟩
  have HLEN : Hid ((L.length : Int) = (k : Int) + 1) := Lib.hid (by rw [← hL, List.length_take]; omega)
  have HD : Hid (L[k]? = some d) := Lib.hid (by rw [← hL, List.getElem?_take, if_pos (by omega)]; exact hd)
  rw [hL] at hs
  have HS := Lib.hid hs
  clear hL hs hr hkl htw hnw hwg hd
  go_enter Tryd.func44, Tryd.ntmps44
  go_upto_region 1 with fail
  have r0 := rowIs_box w 29 32 (bF fun _ => 0)
  have hN := NewT.alloc w (.cells (rowA 32 (bF fun _ => 0)) 29)
  change Code.wp _ _ _ _ (w.alloc (.cells (rowA 32 (bF fun _ => 0)) 29))
  generalize w.alloc (.cells (rowA 32 (bF fun _ => 0)) 29) = W0 at r0 hN ⊢
  have R0 := Lib.hid r0
  have HR := Lib.hid (RT.new HG.out hN)
  have RG := Lib.hid (hN.row hg)
  replace HS := Lib.hid (hN.hs HS.out)
  clear r0 hN hg
  refine wp_region_steps0 NewT [SV.eq ((.slice A (k + 1) c)), SV.eq (.int .i64 ((List.length (L) : Int))), SV.eq (.int .i64 ((k : Int))), SV.eq (.int .i64 ((k : Int)))] [([(0, none)], none), ([(4, some 0)], none), ([(5, some 1)], none), ([(6, some 2)], none)] 18 4 rfl rfl (by kernel_rfl) NewT.trans (NewT.refl _) (Nat.le_of_ble_eq_true rfl) ⟨?_, ?_, ?_, ?_, trivial⟩ ?_
  · intro a wx hT hF K hK
    obtain ⟨f0, _⟩ := hF
    have f0 : a.tmps.getD 0 undef = .pointer (some ⟨g, 0, none⟩) := f0
    refine rely_wp rfl ?_
    exact opr_ldHs (hT.row RG.out) (by decide) rfl rfl f0 (hK _ _ (NewT.refl _) rfl)
  · intro a wx hT hF K hK
    obtain ⟨f4, _⟩ := hF
    have f4 : a.tmps.getD 4 undef = (.slice A (k + 1) c) := f4
    refine rely_wp rfl ?_
    exact opr_len_h rfl (by rw [eval_tmp, f4]; exact (hT.hs HS.out)) (hK _ _ (NewT.refl _) rfl)
  · intro a wx hT hF K hK
    obtain ⟨f5, _⟩ := hF
    have f5 : a.tmps.getD 5 undef = .int .i64 ((List.length (L) : Int)) := f5
    refine rely_wp rfl ?_
    exact opr_sub (r := (k : Int)) Tryd.underlying3 (by rw [HLEN.out]; unfold wrap64; omega) rfl f5 rfl (hK _ _ (NewT.refl _) rfl)
  · intro a wx hT hF K hK
    obtain ⟨f6, _⟩ := hF
    have f6 : a.tmps.getD 6 undef = .int .i64 ((k : Int)) := f6
    refine rely_wp rfl ?_
    exact opr_move (.inr rfl) (hK _ _ (NewT.refl _) f6)
  · intro w1 k1
    intro u h; obtain rfl := Eq.symm (h (by simp)); clear h
    intro u h; obtain rfl := Eq.symm (h (by simp)); clear h
    intro u h; obtain rfl := Eq.symm (h (by simp)); clear h
    intro u h; obtain rfl := Eq.symm (h (by simp)); clear h
    refine relyEnd_nil rfl ?_
    refine wpList_end rfl ?_
    simp only [Act.put, List.setIfInBounds_toArray, List.set_cons_zero, List.set_cons_succ]
    go_simp
    replace R0 := Lib.hid (k1.row R0.out)
    replace RG := Lib.hid (k1.row RG.out)
    replace HS := Lib.hid (k1.hs HS.out)
    replace HR := Lib.hid (RT.trans _ _ _ HR.out (RT.new (by have := HG.out; have := R0.out.lt; have := HR.out.size; omega) k1))
    clear k1 HLEN
    have t0 : ¬ (k : Int) < 0 := by omega
    go_upto_region 4 with fail
    refine wp_region_steps0 NewT [SV.eq ((.slice A (k + 1) c)), SV.eq (.int .i64 ((k : Int))), svP (d), SV.eq (.agg (rowA 32 (bF (d))))] [([(0, none)], none), ([(2, none)], none), ([(10, some 0), (11, some 1)], none), ([(12, some 2)], none)] 18 4 rfl rfl (by kernel_rfl) NewT.trans (NewT.refl _) (Nat.le_of_ble_eq_true rfl) ⟨?_, ?_, ?_, ?_, trivial⟩ ?_
    · intro a wx hT hF K hK
      obtain ⟨f0, _⟩ := hF
      have f0 : a.tmps.getD 0 undef = .pointer (some ⟨g, 0, none⟩) := f0
      refine rely_wp rfl ?_
      exact opr_ldHs (hT.row RG.out) (by decide) rfl rfl f0 (hK _ _ (NewT.refl _) rfl)
    · intro a wx hT hF K hK
      obtain ⟨f2, _⟩ := hF
      have f2 : a.tmps.getD 2 undef = .int .i64 ((k : Int)) := f2
      refine rely_wp rfl ?_
      exact opr_move (.inl rfl) (hK _ _ (NewT.refl _) f2)
    · intro a wx hT hF K hK
      obtain ⟨f10, f11, _⟩ := hF
      have f10 : a.tmps.getD 10 undef = (.slice A (k + 1) c) := f10
      have f11 : a.tmps.getD 11 undef = .int .i64 ((k : Int)) := f11
      refine rely_wp rfl ?_
      exact opr_idxH (i := k) (d := d) (HD.out) (rfl) rfl (by rw [eval_tmp, f10]; exact (hT.hs HS.out)) f11 (fun v hv => hK v _ (NewT.refl _) hv)
    · intro a wx hT hF K hK
      obtain ⟨f12, _⟩ := hF
      replace f12 := show (svP (d)).pred (a.tmps.getD 12 undef) wx from f12
      refine rely_wp rfl ?_
      exact opr_ldP rfl f12 (hK _ _ (NewT.refl _) rfl)
    · intro w2 k2
      intro u h; obtain rfl := Eq.symm (h (by simp)); clear h
      intro u h; obtain rfl := Eq.symm (h (by simp)); clear h
      intro _ _
      intro u h; obtain rfl := Eq.symm (h (by simp)); clear h
      refine relyEnd_nil rfl ?_
      simp only [Act.put, List.setIfInBounds_toArray, List.set_cons_zero, List.set_cons_succ]
      refine wpList_new (n := 32) rfl rfl rfl rfl rfl rfl (by simp) run_alloc_hash info31 (fun _ => rfl) rfl ?_
      intro w3 hn1 r3
      refine wpList_end rfl ?_
      simp only [Act.put, List.setIfInBounds_toArray, List.set_cons_zero, List.set_cons_succ]
      go_simp
      obtain ⟨p3, hp3⟩ : ∃ p, w2.heap.size = p := ⟨_, rfl⟩
      rw [hp3] at r3 ⊢
      have hk23 := NewT.trans _ _ _ k2 hn1
      have hge : w.heap.size < p3 := by have := (k2.row R0.out).lt; omega
      have R4 := Lib.hid r3
      replace R0 := Lib.hid (hk23.row R0.out)
      replace RG := Lib.hid (hk23.row RG.out)
      have hgl : g < w1.heap.size := by have := HR.out.size; have := HG.out; omega
      replace HR := Lib.hid (RT.trans _ _ _ HR.out (RT.new hgl hk23))
      have HGE := Lib.hid hge
      clear k2 hn1 r3 hk23 HD hp3 hge hgl HS
      go_upto_region 5 with fail
      refine wp_region_steps0 NewT [SV.eq ((.slice A (k + 1) c)), SV.eq (.int .i64 ((k : Int))), SV.eq ((.slice A k c))] [([(0, none)], none), ([(2, none)], none), ([(14, some 0), (15, some 1)], none)] 18 3 rfl rfl (by kernel_rfl) NewT.trans (NewT.refl _) (Nat.le_of_ble_eq_true rfl) ⟨?_, ?_, ?_, trivial⟩ ?_
      · intro a wx hT hF K hK
        obtain ⟨f0, _⟩ := hF
        have f0 : a.tmps.getD 0 undef = .pointer (some ⟨g, 0, none⟩) := f0
        refine rely_wp rfl ?_
        exact opr_ldHs (hT.row RG.out) (by decide) rfl rfl f0 (hK _ _ (NewT.refl _) rfl)
      · intro a wx hT hF K hK
        obtain ⟨f2, _⟩ := hF
        have f2 : a.tmps.getD 2 undef = .int .i64 ((k : Int)) := f2
        refine rely_wp rfl ?_
        exact opr_move (.inl rfl) (hK _ _ (NewT.refl _) f2)
      · intro a wx hT hF K hK
        obtain ⟨f14, f15, _⟩ := hF
        have f14 : a.tmps.getD 14 undef = (.slice A (k + 1) c) := f14
        have f15 : a.tmps.getD 15 undef = .int .i64 ((k : Int)) := f15
        refine rely_wp rfl ?_
        exact opr_toV (n := k + 1) (by omega) HC.out rfl f14 f15 (hK _ _ (NewT.refl _) rfl)
      · intro w4 k4
        intro u h; obtain rfl := Eq.symm (h (by simp)); clear h
        intro u h; obtain rfl := Eq.symm (h (by simp)); clear h
        intro u h; obtain rfl := Eq.symm (h (by simp)); clear h
        refine relyEnd_nil rfl ?_
        simp only [Act.put, List.setIfInBounds_toArray, List.set_cons_zero, List.set_cons_succ]
        refine wpList_plain rfl (fun K hK => ?_)
        refine opr_put1 (F := fun _ => .slice A k c) rfl rfl rfl (k4.row RG.out) (by decide) info_hs rfl (fun i hi => by rw [if_pos (by omega)]; rfl) ?_
        intro w5 hR3 rg3
        refine hK _ _ ?_
        refine wpList_end rfl ?_
        simp only [Act.put]
        go_simp
        have RTk := RT.new (R := g) (by have := RG.out.lt; omega) k4
        replace R0 := Lib.hid (hR3.row (by have := HG.out; omega) (k4.row R0.out))
        replace R4 := Lib.hid (hR3.row (by have := HG.out; have := HGE.out; omega) (k4.row R4.out))
        replace HR := Lib.hid (RT.trans _ _ _ HR.out (RT.trans _ _ _ RTk hR3))
        replace RG := Lib.hid rg3
        clear k4 hR3 rg3 RTk
        go_upto_region 6 with fail
        refine wp_region_steps0 NewT [SV.eq (.agg (rowA 32 (bF (d))))] [([(3, none)], none)] 18 1 rfl rfl (by kernel_rfl) NewT.trans (NewT.refl _) (Nat.le_of_ble_eq_true rfl) ⟨?_, trivial⟩ ?_
        · intro a wx hT hF K hK
          obtain ⟨f3, _⟩ := hF
          have f3 : a.tmps.getD 3 undef = .pointer (some ⟨p3, 0, none⟩) := f3
          refine rely_wp rfl ?_
          exact opr_load_hash rfl f3 (hT.row R4.out) (hK _ _ (NewT.refl _) rfl)
        · intro w6 hT
          intro u h; obtain rfl := Eq.symm (h (by simp)); clear h
          refine relyEnd_nil rfl ?_
          simp only [Act.put, List.setIfInBounds_toArray, List.set_cons_zero, List.set_cons_succ]
          refine wpList_plain rfl (fun K hK => ?_)
          refine opr_putm (F := bF d) rfl rfl rfl (hT.row R0.out) (by decide) info31 (fun _ => rfl) (fun i hi => by rw [if_pos (by omega), Nat.sub_zero]) ?_
          intro w7 hR7 r7
          refine hK _ _ ?_
          refine wpList_end rfl ?_
          simp only [Act.put]
          go_simp
          go_wp2
          have hend := RT.late2 (RT.trans _ _ _ HR.out (RT.new (by have := RG.out.lt; omega) hT)) (Nat.le_refl _) HG.out hR7
          exact bodyPost_ret (results_row rfl _ rfl r7 Tryd.underlying29 info31) rfl ⟨rfl, hend, A, c, W, hR7.row (by have := HG.out; omega) (hT.row RG.out), HTW.out, NewT.of (HNW.out.out.trans (hend.below.mono HWG.out)), HWG.out, HRD.out, by have := HKL.out; omega⟩
set_option maxHeartbeats 1000000 in
theorem takeP_no (g : Nat) (path : List Hs) (w : World) (h : TkAt w g path 0) :
    Calls Tryd.prog 44 #[.pointer (some ⟨g, 0, none⟩)] w fun e w' => e = .panicked fewP ∧ RT g w w' := by
  obtain ⟨A, c, W, hg, htw, hnw, hwg, hr, hkl⟩ := h
  have HG := Lib.hid hg.lt
  have hs := rdH_take (hnw.hs hr) hkl
  rw [List.take_zero] at hs
  have HS := Lib.hid hs
  clear hs hr hkl htw hnw hwg
  go_enter Tryd.func44, Tryd.ntmps44
  go_upto_region 1 with fail
  have hN := NewT.alloc w (.cells (rowA 32 (bF fun _ => 0)) 29)
  change Code.wp _ _ _ _ (w.alloc (.cells (rowA 32 (bF fun _ => 0)) 29))
  generalize w.alloc (.cells (rowA 32 (bF fun _ => 0)) 29) = W0 at hN ⊢
  have HR := Lib.hid hN
  have RG := Lib.hid (hN.row hg)
  replace HS := Lib.hid (hN.hs HS.out)
  clear hN hg
  refine wp_region_steps0 NewT [SV.eq ((.slice A 0 c)), SV.eq (.int .i64 ((List.length (([] : List Hs)) : Int))), SV.eq (.int .i64 ((-1 : Int))), SV.eq (.int .i64 ((-1 : Int)))] [([(0, none)], none), ([(4, some 0)], none), ([(5, some 1)], none), ([(6, some 2)], none)] 18 4 rfl rfl (by kernel_rfl) NewT.trans (NewT.refl _) (Nat.le_of_ble_eq_true rfl) ⟨?_, ?_, ?_, ?_, trivial⟩ ?_
  · intro a wx hT hF K hK
    obtain ⟨f0, _⟩ := hF
    have f0 : a.tmps.getD 0 undef = .pointer (some ⟨g, 0, none⟩) := f0
    refine rely_wp rfl ?_
    exact opr_ldHs (hT.row RG.out) (by decide) rfl rfl f0 (hK _ _ (NewT.refl _) rfl)
  · intro a wx hT hF K hK
    obtain ⟨f4, _⟩ := hF
    have f4 : a.tmps.getD 4 undef = (.slice A 0 c) := f4
    refine rely_wp rfl ?_
    exact opr_len_h rfl (by rw [eval_tmp, f4]; exact (hT.hs HS.out)) (hK _ _ (NewT.refl _) rfl)
  · intro a wx hT hF K hK
    obtain ⟨f5, _⟩ := hF
    have f5 : a.tmps.getD 5 undef = .int .i64 ((List.length (([] : List Hs)) : Int)) := f5
    refine rely_wp rfl ?_
    exact opr_sub (r := (-1 : Int)) Tryd.underlying3 (by unfold wrap64; simp) rfl f5 rfl (hK _ _ (NewT.refl _) rfl)
  · intro a wx hT hF K hK
    obtain ⟨f6, _⟩ := hF
    have f6 : a.tmps.getD 6 undef = .int .i64 ((-1 : Int)) := f6
    refine rely_wp rfl ?_
    exact opr_move (.inr rfl) (hK _ _ (NewT.refl _) f6)
  · intro w1 k1
    intro u h; obtain rfl := Eq.symm (h (by simp)); clear h
    intro u h; obtain rfl := Eq.symm (h (by simp)); clear h
    intro u h; obtain rfl := Eq.symm (h (by simp)); clear h
    intro u h; obtain rfl := Eq.symm (h (by simp)); clear h
    refine relyEnd_nil rfl ?_
    refine wpList_end rfl ?_
    simp only [Act.put, List.setIfInBounds_toArray, List.set_cons_zero, List.set_cons_succ]
    go_simp
    replace HR := Lib.hid (NewT.trans _ _ _ HR.out k1)
    clear k1
    go_wp2
    exact ⟨rfl, rfl, RT.new HG.out HR.out⟩
set_option maxHeartbeats 2000000 in
theorem takeB_ok (g k : Nat) (path : List Hs) (d : Hs) (w : World) (h : TkAt w g path (k + 1)) (hd : path[k]? = some d) (hk : k ≤ 1000000) :
    Calls Tryd.prog 46 #[.pointer (some ⟨g, 0, none⟩)] w fun e w' => e = .returned (.agg (rowA 32 (bF d))) ∧ RT g w w' ∧ TkAt w' g path k := by
  obtain ⟨A, c, W, hg, htw, hnw, hwg, hr, hkl⟩ := h
  have HG := Lib.hid hg.lt
  have HRD := Lib.hid hr
  have HKL := Lib.hid hkl
  have HTW := Lib.hid htw
  have HNW := Lib.hid hnw
  have HWG := Lib.hid hwg
  have HC : Hid (k + 1 ≤ c) := Lib.hid (by obtain ⟨A', c', hv, h1, _⟩ := hr; injection hv with _ _ e; omega)
  have hs := rdH_take (hnw.hs hr) hkl
  obtain ⟨L, hL⟩ : ∃ L, List.take (k + 1) path = L := ⟨_, rfl⟩
  have HLEN : Hid ((L.length : Int) = (k : Int) + 1) := Lib.hid (by rw [← hL, List.length_take]; omega)
  have HD : Hid (L[k]? = some d) := Lib.hid (by rw [← hL, List.getElem?_take, if_pos (by omega)]; exact hd)
  rw [hL] at hs
  have HS := Lib.hid hs
  clear hL hs hr hkl htw hnw hwg hd
  go_enter Tryd.func46, Tryd.ntmps46
  go_upto_region 1 with fail
  have r0 := rowIs_box w 29 32 (bF fun _ => 0)
  have hN := NewT.alloc w (.cells (rowA 32 (bF fun _ => 0)) 29)
  change Code.wp _ _ _ _ (w.alloc (.cells (rowA 32 (bF fun _ => 0)) 29))
  generalize w.alloc (.cells (rowA 32 (bF fun _ => 0)) 29) = W0 at r0 hN ⊢
  have R0 := Lib.hid r0
  have HR := Lib.hid (RT.new HG.out hN)
  have RG := Lib.hid (hN.row hg)
  replace HS := Lib.hid (hN.hs HS.out)
  clear r0 hN hg
  refine wp_region_steps0 NewT [SV.eq ((.slice A (k + 1) c)), SV.eq (.int .i64 ((List.length (L) : Int))), SV.eq (.int .i64 ((k : Int))), SV.eq (.int .i64 ((k : Int)))] [([(0, none)], none), ([(4, some 0)], none), ([(5, some 1)], none), ([(6, some 2)], none)] 18 4 rfl rfl (by kernel_rfl) NewT.trans (NewT.refl _) (Nat.le_of_ble_eq_true rfl) ⟨?_, ?_, ?_, ?_, trivial⟩ ?_
  · intro a wx hT hF K hK
    obtain ⟨f0, _⟩ := hF
    have f0 : a.tmps.getD 0 undef = .pointer (some ⟨g, 0, none⟩) := f0
    refine rely_wp rfl ?_
    exact opr_ldHs (hT.row RG.out) (by decide) rfl rfl f0 (hK _ _ (NewT.refl _) rfl)
  · intro a wx hT hF K hK
    obtain ⟨f4, _⟩ := hF
    have f4 : a.tmps.getD 4 undef = (.slice A (k + 1) c) := f4
    refine rely_wp rfl ?_
    exact opr_len_h rfl (by rw [eval_tmp, f4]; exact (hT.hs HS.out)) (hK _ _ (NewT.refl _) rfl)
  · intro a wx hT hF K hK
    obtain ⟨f5, _⟩ := hF
    have f5 : a.tmps.getD 5 undef = .int .i64 ((List.length (L) : Int)) := f5
    refine rely_wp rfl ?_
    exact opr_sub (r := (k : Int)) Tryd.underlying3 (by rw [HLEN.out]; unfold wrap64; omega) rfl f5 rfl (hK _ _ (NewT.refl _) rfl)
  · intro a wx hT hF K hK
    obtain ⟨f6, _⟩ := hF
    have f6 : a.tmps.getD 6 undef = .int .i64 ((k : Int)) := f6
    refine rely_wp rfl ?_
    exact opr_move (.inr rfl) (hK _ _ (NewT.refl _) f6)
  · intro w1 k1
    intro u h; obtain rfl := Eq.symm (h (by simp)); clear h
    intro u h; obtain rfl := Eq.symm (h (by simp)); clear h
    intro u h; obtain rfl := Eq.symm (h (by simp)); clear h
    intro u h; obtain rfl := Eq.symm (h (by simp)); clear h
    refine relyEnd_nil rfl ?_
    refine wpList_end rfl ?_
    simp only [Act.put, List.setIfInBounds_toArray, List.set_cons_zero, List.set_cons_succ]
    go_simp
    replace R0 := Lib.hid (k1.row R0.out)
    replace RG := Lib.hid (k1.row RG.out)
    replace HS := Lib.hid (k1.hs HS.out)
    replace HR := Lib.hid (RT.trans _ _ _ HR.out (RT.new (by have := HG.out; have := R0.out.lt; have := HR.out.size; omega) k1))
    clear k1 HLEN
    have t0 : ¬ (k : Int) < 0 := by omega
    go_upto_region 4 with fail
    refine wp_region_steps0 NewT [SV.eq ((.slice A (k + 1) c)), SV.eq (.int .i64 ((k : Int))), svP (d), SV.eq (.agg (rowA 32 (bF (d))))] [([(0, none)], none), ([(2, none)], none), ([(10, some 0), (11, some 1)], none), ([(12, some 2)], none)] 18 4 rfl rfl (by kernel_rfl) NewT.trans (NewT.refl _) (Nat.le_of_ble_eq_true rfl) ⟨?_, ?_, ?_, ?_, trivial⟩ ?_
    · intro a wx hT hF K hK
      obtain ⟨f0, _⟩ := hF
      have f0 : a.tmps.getD 0 undef = .pointer (some ⟨g, 0, none⟩) := f0
      refine rely_wp rfl ?_
      exact opr_ldHs (hT.row RG.out) (by decide) rfl rfl f0 (hK _ _ (NewT.refl _) rfl)
    · intro a wx hT hF K hK
      obtain ⟨f2, _⟩ := hF
      have f2 : a.tmps.getD 2 undef = .int .i64 ((k : Int)) := f2
      refine rely_wp rfl ?_
      exact opr_move (.inl rfl) (hK _ _ (NewT.refl _) f2)
    · intro a wx hT hF K hK
      obtain ⟨f10, f11, _⟩ := hF
      have f10 : a.tmps.getD 10 undef = (.slice A (k + 1) c) := f10
      have f11 : a.tmps.getD 11 undef = .int .i64 ((k : Int)) := f11
      refine rely_wp rfl ?_
      exact opr_idxH (i := k) (d := d) (HD.out) (rfl) rfl (by rw [eval_tmp, f10]; exact (hT.hs HS.out)) f11 (fun v hv => hK v _ (NewT.refl _) hv)
    · intro a wx hT hF K hK
      obtain ⟨f12, _⟩ := hF
      replace f12 := show (svP (d)).pred (a.tmps.getD 12 undef) wx from f12
      refine rely_wp rfl ?_
      exact opr_ldP rfl f12 (hK _ _ (NewT.refl _) rfl)
    · intro w2 k2
      intro u h; obtain rfl := Eq.symm (h (by simp)); clear h
      intro u h; obtain rfl := Eq.symm (h (by simp)); clear h
      intro _ _
      intro u h; obtain rfl := Eq.symm (h (by simp)); clear h
      refine relyEnd_nil rfl ?_
      simp only [Act.put, List.setIfInBounds_toArray, List.set_cons_zero, List.set_cons_succ]
      refine wpList_new (n := 32) rfl rfl rfl rfl rfl rfl (by simp) run_alloc_hash info31 (fun _ => rfl) rfl ?_
      intro w3 hn1 r3
      refine wpList_end rfl ?_
      simp only [Act.put, List.setIfInBounds_toArray, List.set_cons_zero, List.set_cons_succ]
      go_simp
      obtain ⟨p3, hp3⟩ : ∃ p, w2.heap.size = p := ⟨_, rfl⟩
      rw [hp3] at r3 ⊢
      have hk23 := NewT.trans _ _ _ k2 hn1
      have hge : w.heap.size < p3 := by have := (k2.row R0.out).lt; omega
      have R4 := Lib.hid r3
      replace R0 := Lib.hid (hk23.row R0.out)
      replace RG := Lib.hid (hk23.row RG.out)
      have hgl : g < w1.heap.size := by have := HR.out.size; have := HG.out; omega
      replace HR := Lib.hid (RT.trans _ _ _ HR.out (RT.new hgl hk23))
      have HGE := Lib.hid hge
      clear k2 hn1 r3 hk23 HD hp3 hge hgl HS
      go_upto_region 5 with fail
      refine wp_region_steps0 NewT [SV.eq ((.slice A (k + 1) c)), SV.eq (.int .i64 ((k : Int))), SV.eq ((.slice A k c))] [([(0, none)], none), ([(2, none)], none), ([(14, some 0), (15, some 1)], none)] 18 3 rfl rfl (by kernel_rfl) NewT.trans (NewT.refl _) (Nat.le_of_ble_eq_true rfl) ⟨?_, ?_, ?_, trivial⟩ ?_
      · intro a wx hT hF K hK
        obtain ⟨f0, _⟩ := hF
        have f0 : a.tmps.getD 0 undef = .pointer (some ⟨g, 0, none⟩) := f0
        refine rely_wp rfl ?_
        exact opr_ldHs (hT.row RG.out) (by decide) rfl rfl f0 (hK _ _ (NewT.refl _) rfl)
      · intro a wx hT hF K hK
        obtain ⟨f2, _⟩ := hF
        have f2 : a.tmps.getD 2 undef = .int .i64 ((k : Int)) := f2
        refine rely_wp rfl ?_
        exact opr_move (.inl rfl) (hK _ _ (NewT.refl _) f2)
      · intro a wx hT hF K hK
        obtain ⟨f14, f15, _⟩ := hF
        have f14 : a.tmps.getD 14 undef = (.slice A (k + 1) c) := f14
        have f15 : a.tmps.getD 15 undef = .int .i64 ((k : Int)) := f15
        refine rely_wp rfl ?_
        exact opr_toV (n := k + 1) (by omega) HC.out rfl f14 f15 (hK _ _ (NewT.refl _) rfl)
      · intro w4 k4
        intro u h; obtain rfl := Eq.symm (h (by simp)); clear h
        intro u h; obtain rfl := Eq.symm (h (by simp)); clear h
        intro u h; obtain rfl := Eq.symm (h (by simp)); clear h
        refine relyEnd_nil rfl ?_
        simp only [Act.put, List.setIfInBounds_toArray, List.set_cons_zero, List.set_cons_succ]
        refine wpList_plain rfl (fun K hK => ?_)
        refine opr_put1 (F := fun _ => .slice A k c) rfl rfl rfl (k4.row RG.out) (by decide) info_hs rfl (fun i hi => by rw [if_pos (by omega)]; rfl) ?_
        intro w5 hR3 rg3
        refine hK _ _ ?_
        refine wpList_end rfl ?_
        simp only [Act.put]
        go_simp
        have RTk := RT.new (R := g) (by have := RG.out.lt; omega) k4
        replace R0 := Lib.hid (hR3.row (by have := HG.out; omega) (k4.row R0.out))
        replace R4 := Lib.hid (hR3.row (by have := HG.out; have := HGE.out; omega) (k4.row R4.out))
        replace HR := Lib.hid (RT.trans _ _ _ HR.out (RT.trans _ _ _ RTk hR3))
        replace RG := Lib.hid rg3
        clear k4 hR3 rg3 RTk
        go_upto_region 6 with fail
        refine wp_region_steps0 NewT [SV.eq (.agg (rowA 32 (bF (d))))] [([(3, none)], none)] 18 1 rfl rfl (by kernel_rfl) NewT.trans (NewT.refl _) (Nat.le_of_ble_eq_true rfl) ⟨?_, trivial⟩ ?_
        · intro a wx hT hF K hK
          obtain ⟨f3, _⟩ := hF
          have f3 : a.tmps.getD 3 undef = .pointer (some ⟨p3, 0, none⟩) := f3
          refine rely_wp rfl ?_
          exact opr_load_hash rfl f3 (hT.row R4.out) (hK _ _ (NewT.refl _) rfl)
        · intro w6 hT
          intro u h; obtain rfl := Eq.symm (h (by simp)); clear h
          refine relyEnd_nil rfl ?_
          simp only [Act.put, List.setIfInBounds_toArray, List.set_cons_zero, List.set_cons_succ]
          refine wpList_plain rfl (fun K hK => ?_)
          refine opr_putm (F := bF d) rfl rfl rfl (hT.row R0.out) (by decide) info31 (fun _ => rfl) (fun i hi => by rw [if_pos (by omega), Nat.sub_zero]) ?_
          intro w7 hR7 r7
          refine hK _ _ ?_
          refine wpList_end rfl ?_
          simp only [Act.put]
          go_simp
          go_wp2
          have hend := RT.late2 (RT.trans _ _ _ HR.out (RT.new (by have := RG.out.lt; omega) hT)) (Nat.le_refl _) HG.out hR7
          exact bodyPost_ret (results_row rfl _ rfl r7 Tryd.underlying29 info31) rfl ⟨rfl, hend, A, c, W, hR7.row (by have := HG.out; omega) (hT.row RG.out), HTW.out, NewT.of (HNW.out.out.trans (hend.below.mono HWG.out)), HWG.out, HRD.out, by have := HKL.out; omega⟩
set_option maxHeartbeats 1000000 in
theorem takeB_no (g : Nat) (path : List Hs) (w : World) (h : TkAt w g path 0) :
    Calls Tryd.prog 46 #[.pointer (some ⟨g, 0, none⟩)] w fun e w' => e = .panicked fewP ∧ RT g w w' := by
  obtain ⟨A, c, W, hg, htw, hnw, hwg, hr, hkl⟩ := h
  have HG := Lib.hid hg.lt
  have hs := rdH_take (hnw.hs hr) hkl
  rw [List.take_zero] at hs
  have HS := Lib.hid hs
  clear hs hr hkl htw hnw hwg
  go_enter Tryd.func46, Tryd.ntmps46
  go_upto_region 1 with fail
  have hN := NewT.alloc w (.cells (rowA 32 (bF fun _ => 0)) 29)
  change Code.wp _ _ _ _ (w.alloc (.cells (rowA 32 (bF fun _ => 0)) 29))
  generalize w.alloc (.cells (rowA 32 (bF fun _ => 0)) 29) = W0 at hN ⊢
  have HR := Lib.hid hN
  have RG := Lib.hid (hN.row hg)
  replace HS := Lib.hid (hN.hs HS.out)
  clear hN hg
  refine wp_region_steps0 NewT [SV.eq ((.slice A 0 c)), SV.eq (.int .i64 ((List.length (([] : List Hs)) : Int))), SV.eq (.int .i64 ((-1 : Int))), SV.eq (.int .i64 ((-1 : Int)))] [([(0, none)], none), ([(4, some 0)], none), ([(5, some 1)], none), ([(6, some 2)], none)] 18 4 rfl rfl (by kernel_rfl) NewT.trans (NewT.refl _) (Nat.le_of_ble_eq_true rfl) ⟨?_, ?_, ?_, ?_, trivial⟩ ?_
  · intro a wx hT hF K hK
    obtain ⟨f0, _⟩ := hF
    have f0 : a.tmps.getD 0 undef = .pointer (some ⟨g, 0, none⟩) := f0
    refine rely_wp rfl ?_
    exact opr_ldHs (hT.row RG.out) (by decide) rfl rfl f0 (hK _ _ (NewT.refl _) rfl)
  · intro a wx hT hF K hK
    obtain ⟨f4, _⟩ := hF
    have f4 : a.tmps.getD 4 undef = (.slice A 0 c) := f4
    refine rely_wp rfl ?_
    exact opr_len_h rfl (by rw [eval_tmp, f4]; exact (hT.hs HS.out)) (hK _ _ (NewT.refl _) rfl)
  · intro a wx hT hF K hK
    obtain ⟨f5, _⟩ := hF
    have f5 : a.tmps.getD 5 undef = .int .i64 ((List.length (([] : List Hs)) : Int)) := f5
    refine rely_wp rfl ?_
    exact opr_sub (r := (-1 : Int)) Tryd.underlying3 (by unfold wrap64; simp) rfl f5 rfl (hK _ _ (NewT.refl _) rfl)
  · intro a wx hT hF K hK
    obtain ⟨f6, _⟩ := hF
    have f6 : a.tmps.getD 6 undef = .int .i64 ((-1 : Int)) := f6
    refine rely_wp rfl ?_
    exact opr_move (.inr rfl) (hK _ _ (NewT.refl _) f6)
  · intro w1 k1
    intro u h; obtain rfl := Eq.symm (h (by simp)); clear h
    intro u h; obtain rfl := Eq.symm (h (by simp)); clear h
    intro u h; obtain rfl := Eq.symm (h (by simp)); clear h
    intro u h; obtain rfl := Eq.symm (h (by simp)); clear h
    refine relyEnd_nil rfl ?_
    refine wpList_end rfl ?_
    simp only [Act.put, List.setIfInBounds_toArray, List.set_cons_zero, List.set_cons_succ]
    go_simp
    replace HR := Lib.hid (NewT.trans _ _ _ HR.out k1)
    clear k1
    go_wp2
    exact ⟨rfl, rfl, RT.new HG.out HR.out⟩
end Go.Proofs.YtoigjcadncecpaaDoor
/- Two roots in one value: made, laid down, read. -/
namespace Go.Proofs.YtoigjcadncecpaaDoor
open Go Go.RowKit
set_option maxRecDepth 8000
set_option linter.all false
/-- The cells of two roots. -/
def rtF (p q : Hs) (i : Nat) : Value := bif Nat.blt i 32 then bF p i else bF q (i - 32)
theorem rtF_0 (p q : Hs) (j : Nat) (h : j < 32) : rtF p q (0 + j) = bF p j := by
  unfold rtF; rw [Nat.zero_add, show Nat.blt j 32 = true by rw [Nat.blt_eq]; exact h]; rfl
theorem rtF_1 (p q : Hs) (j : Nat) (h : j < 32) : rtF p q (32 + j) = bF q j := by
  unfold rtF
  have : Nat.blt (32 + j) 32 = false := by
    cases hb : Nat.blt (32 + j) 32
    · rfl
    · rw [Nat.blt_eq] at hb; omega
  rw [this, show 32 + j - 32 = j by omega]; rfl
theorem rtF_one (p q : Hs) (i : Nat) : (rtF p q i).oneCell' = true := by unfold rtF; cases Nat.blt i 32 <;> rfl
theorem infoB : (Tryd.prog.info? 51).map (·.size) = some 64 := by kernel_rfl
theorem run_alloc_roots (w : World) : (Instr.alloc 51 true (.tuple #[])).run Tryd.prog w = .ok (.pointer (some ⟨w.heap.size, 0, none⟩)) (w.alloc (.cells (rowA 64 (rtF (fun _ => 0) (fun _ => 0))) 51)) := by kernel_rfl
theorem run_build_roots (p q : Hs) (w : World) : (Instr.build 51 #[(0, .agg (rowA 32 (bF p))), (1, .agg (rowA 32 (bF q)))]).run Tryd.prog w = .ok (.agg (rowA 64 (rtF p q))) w := by kernel_rfl
section
variable {a : Act} {w : World} {o : Oper} {K : Act → World → Prop} {Q : Exit → Act → World → Prop} {x y : Operand} {g n : Nat} {t' : TypeId} {F : Nat → Value}
theorem opr_bldB {p q : Hs} (ho : o.op = .build 51 #[(0, x), (1, y)]) (hx : a.eval x = .agg (rowA 32 (bF p))) (hy : a.eval y = .agg (rowA 32 (bF q))) (h : K (a.put o.dst (.agg (rowA 64 (rtF p q)))) w) : o.wp Tryd.prog a w K Q := by
  obtain ⟨dst, op, type, pos, after, guard⟩ := o
  simp only at ho
  subst ho
  exact opr_val (s := Instr.build 51 #[(0, a.eval x), (1, a.eval y)]) (by simp [execOp]) (by rw [hx, hy]; exact run_build_roots p q w) h
theorem info31z : (Tryd.prog.info? 29).map (·.size) = some (31 + 1) := info31
theorem opr_fldB0 (ho : o.op = .fieldAddr 51 x 0) (hx : a.eval x = .pointer (some ⟨g, 0, none⟩)) (h : K (a.put o.dst (.pointer (some ⟨g, 0, none⟩))) w) : o.wp Tryd.prog a w K Q :=
  opr_fld Tryd.underlying51 rfl info31z ho hx (by rfl) h
theorem opr_fldB1 (ho : o.op = .fieldAddr 51 x 1) (hx : a.eval x = .pointer (some ⟨g, 0, none⟩)) (h : K (a.put o.dst (.pointer (some ⟨g, 32, none⟩))) w) : o.wp Tryd.prog a w K Q :=
  opr_fld Tryd.underlying51 rfl info31z ho hx (by rfl) h
theorem opr_ldAg {d e : Hs} (ho : o.op = .load 51 x) (hx : a.eval x = .pointer (some ⟨g, 0, none⟩)) (hr : w.rowIs g t' 64 (rtF d e)) (h : K (a.put o.dst (.agg (rowA 64 (rtF d e)))) w) : o.wp Tryd.prog a w K Q := by
  obtain ⟨dst, op, type, pos, after, guard⟩ := o
  simp only at ho
  subst ho
  have := run_loadAt_mid (P := Tryd.prog) w g 0 51 (rowA 64 (rtF d e)).toList _ (rangeAt_row hr) Tryd.underlying51 rfl (by rw [rowA_toList]; simpa using infoB)
  exact opr_val (s := Instr.loadAt 51 (a.eval x)) rfl (by rw [hx]; simpa using this) h
end
end Go.Proofs.YtoigjcadncecpaaDoor
/- The root above a leaf, by hashes that are taken: what rootAbove comes to. -/
namespace Go.Proofs.YtoigjcadncecpaaDoor
open Go Go.RowKit
set_option maxRecDepth 8000
set_option linter.all false
set_option maxHeartbeats 1000000 in
theorem rootAbove_1 (leaf : Hs) (i : Int) (v : Value) (w : World) : Calls Tryd.prog 31 #[.agg (rowA 32 (bF leaf)), .int .i64 i, .int .i64 1, v] w fun e w' => e = .returned (.agg (rowA 32 (bF leaf))) ∧ NewT w w' := by
  go_enter Tryd.func31, Tryd.ntmps31
  go_upto_region 2 with fail
  have r1 := (rowIs_box w 29 32 (bF leaf)).alloc (.cells (rowA 32 (bF fun _ => 0)) 29)
  have r0 := rowIs_box (w.alloc (.cells (rowA 32 (bF leaf)) 29)) 29 32 (bF fun _ => 0)
  rw [World.size_alloc] at r0
  have hN : NewT w ((w.alloc (.cells (rowA 32 (bF leaf)) 29)).alloc (.cells (rowA 32 (bF fun _ => 0)) 29)) := NewT.trans _ _ _ (NewT.alloc _ _) (NewT.alloc _ _)
  change Code.wp _ _ _ _ ((w.alloc (.cells (rowA 32 (bF leaf)) 29)).alloc (.cells (rowA 32 (bF fun _ => 0)) 29))
  generalize ((w.alloc (.cells (rowA 32 (bF leaf)) 29)).alloc (.cells (rowA 32 (bF fun _ => 0)) 29)) = W0 at r0 r1 hN ⊢
  have R0 := Lib.hid r0
  have R1 := Lib.hid r1
  have HN := Lib.hid hN
  clear r0 r1 hN
  refine wp_region_steps0 NewT [SV.eq (.agg (rowA 32 (bF (leaf))))] [([(4, none)], none)] 39 1 rfl rfl (by kernel_rfl) NewT.trans (NewT.refl _) (Nat.le_of_ble_eq_true rfl) ⟨?_, trivial⟩ ?_
  · intro a wx hT hF K hK
    obtain ⟨f4, _⟩ := hF
    have f4 : a.tmps.getD 4 undef = .pointer (some ⟨w.heap.size, 0, none⟩) := f4
    refine rely_wp rfl ?_
    exact opr_load_hash rfl f4 (hT.row R1.out) (hK _ _ (NewT.refl _) rfl)
  · intro wx hT
    intro u h; obtain rfl := Eq.symm (h (by simp)); clear h
    refine relyEnd_nil rfl ?_
    simp only [Act.put, List.setIfInBounds_toArray, List.set_cons_zero, List.set_cons_succ]
    refine wpList_plain rfl (fun K hK => ?_)
    refine opr_store_new (B := w.heap.size) (W := w) info31 rfl rfl rfl (hT.row R0.out) (NewT.trans _ _ _ HN.out hT) (by omega) ?_
    intro w9 hB9 r9
    refine hK _ _ ?_
    refine wpList_end rfl ?_
    simp only [Act.put]
    go_simp
    go_wp2
    exact bodyPost_ret (results_row rfl _ rfl r9 Tryd.underlying29 info31) rfl ⟨rfl, NewT.of hB9⟩
set_option maxHeartbeats 1000000 in
theorem rootAbove_0n (leaf : Hs) (i n s g : Nat) (path : List Hs) (w : World) (hn : 2 ≤ n) (hs : ∀ w, Cv 40 #[.int .i64 (n : Int)] w (.eq (.int .i64 (s : Int)))) (h : TkAt w g path 0) :
    Calls Tryd.prog 31 #[.agg (rowA 32 (bF leaf)), .int .i64 (i : Int), .int .i64 (n : Int), .func (.func 44) #[] #[.pointer (some ⟨g, 0, none⟩)]] w fun e w' => e = .panicked fewP ∧ RT g w w' := by
  have HG := Lib.hid h.lt
  have HTK := Lib.hid h
  have HSP := Lib.hid hs
  have t1 : ((n : Int) == 1) = false := beq_eq_false_iff_ne.2 (by omega)
  clear h hs
  go_enter Tryd.func31, Tryd.ntmps31
  go_upto_region 3 with fail
  clear t1
  have r1 := (rowIs_box w 29 32 (bF leaf)).alloc (.cells (rowA 32 (bF fun _ => 0)) 29)
  have r0 := rowIs_box (w.alloc (.cells (rowA 32 (bF leaf)) 29)) 29 32 (bF fun _ => 0)
  rw [World.size_alloc] at r0
  have hN : NewT w ((w.alloc (.cells (rowA 32 (bF leaf)) 29)).alloc (.cells (rowA 32 (bF fun _ => 0)) 29)) := NewT.trans _ _ _ (NewT.alloc _ _) (NewT.alloc _ _)
  change Code.wp _ _ _ _ ((w.alloc (.cells (rowA 32 (bF leaf)) 29)).alloc (.cells (rowA 32 (bF fun _ => 0)) 29))
  generalize ((w.alloc (.cells (rowA 32 (bF leaf)) 29)).alloc (.cells (rowA 32 (bF fun _ => 0)) 29)) = W0 at r0 r1 hN ⊢
  have R0 := Lib.hid r0
  have R1 := Lib.hid r1
  have HN := Lib.hid hN
  clear r0 r1 hN
  refine wp_region_steps0 NewT [SV.eq (.int .i64 ((n : Int))), SV.eq (.int .i64 ((s : Int))), SV.eq (.int .i64 ((s : Int)))] [([(2, none)], none), ([(14, some 0)], none), ([(15, some 1)], none)] 39 3 rfl rfl (by kernel_rfl) NewT.trans (NewT.refl _) (Nat.le_of_ble_eq_true rfl) ⟨?_, ?_, ?_, trivial⟩ ?_
  · intro a wx hT hF K hK
    obtain ⟨f2, _⟩ := hF
    have f2 : a.tmps.getD 2 undef = .int .i64 ((n : Int)) := f2
    refine rely_wp rfl ?_
    exact opr_move (.inl rfl) (hK _ _ (NewT.refl _) f2)
  · intro a wx hT hF K hK
    obtain ⟨f14, _⟩ := hF
    have f14 : a.tmps.getD 14 undef = .int .i64 ((n : Int)) := f14
    refine rely_wp rfl ?_
    exact opr_cv (HSP.out wx) rfl Tryd.func40 (by kernel_rfl) (by kernel_rfl) (by simp only [List.map_toArray, List.map_cons, List.map_nil, eval_tmp, f14]) hK
  · intro a wx hT hF K hK
    obtain ⟨f15, _⟩ := hF
    have f15 : a.tmps.getD 15 undef = .int .i64 ((s : Int)) := f15
    refine rely_wp rfl ?_
    exact opr_move (.inr rfl) (hK _ _ (NewT.refl _) f15)
  · intro w3 k3
    intro u h; obtain rfl := Eq.symm (h (by simp)); clear h
    intro u h; obtain rfl := Eq.symm (h (by simp)); clear h
    intro u h; obtain rfl := Eq.symm (h (by simp)); clear h
    refine relyEnd_nil rfl ?_
    refine wpList_end rfl ?_
    simp only [Act.put, List.setIfInBounds_toArray, List.set_cons_zero, List.set_cons_succ]
    go_simp
    replace HTK := Lib.hid (HTK.out.new (NewT.trans _ _ _ HN.out k3))
    replace R0 := Lib.hid (k3.row R0.out)
    replace R1 := Lib.hid (k3.row R1.out)
    have HR := Lib.hid (RT.new HG.out (NewT.trans _ _ _ HN.out k3))
    clear k3 HN HSP
    go_upto_region 4 with fail
    refine wp_region_lit ?_
    refine wpList_plain rfl (fun K hK => ?_)
    refine opr_move (.inl rfl) (hK _ _ ?_)
    clear hK K
    refine wpList_plain rfl (fun K hK => ?_)
    refine opr_callvP (cap := #[.pointer (some ⟨g, 0, none⟩)]) rfl rfl Tryd.func44 (by kernel_rfl) (by kernel_rfl) (vs := #[.pointer (some ⟨g, 0, none⟩)]) (by simp only [List.map_toArray, List.map_nil]; rfl) ((takeP_no g path _ HTK.out).mono ?_)
    rintro e w4 ⟨rfl, hR4⟩
    exact ⟨_, rfl, rfl, rfl, RT.trans _ _ _ HR.out hR4⟩
set_option maxRecDepth 20000 in
set_option maxHeartbeats 2000000 in
theorem rootAbove_lk {node : Hs → Hs → Hs} {z : Hs} (hX : TreeH node z) (leaf x d : Hs) (i n s g k kk : Nat) (path : List Hs) (w : World) (hn : 2 ≤ n) (hn2 : n ≤ 1048576) (hin : i < n) (hsn : s < n) (hsi : i < s) (hs : ∀ w, Cv 40 #[.int .i64 (n : Int)] w (.eq (.int .i64 (s : Int)))) (h : TkAt w g path (k + 1)) (hd : path[k]? = some d) (hk : k ≤ 1000000)
    (ih : ∀ w, TkAt w g path k → Calls Tryd.prog 31 #[.agg (rowA 32 (bF leaf)), .int .i64 (i : Int), .int .i64 (s : Int), .func (.func 44) #[] #[.pointer (some ⟨g, 0, none⟩)]] w fun e w' => e = .returned (.agg (rowA 32 (bF x))) ∧ RT g w w' ∧ TkAt w' g path kk) :
    Calls Tryd.prog 31 #[.agg (rowA 32 (bF leaf)), .int .i64 (i : Int), .int .i64 (n : Int), .func (.func 44) #[] #[.pointer (some ⟨g, 0, none⟩)]] w fun e w' => e = .returned (.agg (rowA 32 (bF (node x d)))) ∧ RT g w w' ∧ TkAt w' g path kk := by
  have HD := Lib.hid hd
  have HK := Lib.hid hk
  have IH := Lib.hid ih
  clear hd hk ih
  have HG := Lib.hid h.lt
  have HTK := Lib.hid h
  have HSP := Lib.hid hs
  have t1 : ((n : Int) == 1) = false := beq_eq_false_iff_ne.2 (by omega)
  clear h hs
  go_enter Tryd.func31, Tryd.ntmps31
  go_upto_region 3 with fail
  clear t1
  have r1 := (rowIs_box w 29 32 (bF leaf)).alloc (.cells (rowA 32 (bF fun _ => 0)) 29)
  have r0 := rowIs_box (w.alloc (.cells (rowA 32 (bF leaf)) 29)) 29 32 (bF fun _ => 0)
  rw [World.size_alloc] at r0
  have hN : NewT w ((w.alloc (.cells (rowA 32 (bF leaf)) 29)).alloc (.cells (rowA 32 (bF fun _ => 0)) 29)) := NewT.trans _ _ _ (NewT.alloc _ _) (NewT.alloc _ _)
  change Code.wp _ _ _ _ ((w.alloc (.cells (rowA 32 (bF leaf)) 29)).alloc (.cells (rowA 32 (bF fun _ => 0)) 29))
  generalize ((w.alloc (.cells (rowA 32 (bF leaf)) 29)).alloc (.cells (rowA 32 (bF fun _ => 0)) 29)) = W0 at r0 r1 hN ⊢
  have R0 := Lib.hid r0
  have R1 := Lib.hid r1
  have HN := Lib.hid hN
  clear r0 r1 hN
  refine wp_region_steps0 NewT [SV.eq (.int .i64 ((n : Int))), SV.eq (.int .i64 ((s : Int))), SV.eq (.int .i64 ((s : Int)))] [([(2, none)], none), ([(14, some 0)], none), ([(15, some 1)], none)] 39 3 rfl rfl (by kernel_rfl) NewT.trans (NewT.refl _) (Nat.le_of_ble_eq_true rfl) ⟨?_, ?_, ?_, trivial⟩ ?_
  · intro a wx hT hF K hK
    obtain ⟨f2, _⟩ := hF
    have f2 : a.tmps.getD 2 undef = .int .i64 ((n : Int)) := f2
    refine rely_wp rfl ?_
    exact opr_move (.inl rfl) (hK _ _ (NewT.refl _) f2)
  · intro a wx hT hF K hK
    obtain ⟨f14, _⟩ := hF
    have f14 : a.tmps.getD 14 undef = .int .i64 ((n : Int)) := f14
    refine rely_wp rfl ?_
    exact opr_cv (HSP.out wx) rfl Tryd.func40 (by kernel_rfl) (by kernel_rfl) (by simp only [List.map_toArray, List.map_cons, List.map_nil, eval_tmp, f14]) hK
  · intro a wx hT hF K hK
    obtain ⟨f15, _⟩ := hF
    have f15 : a.tmps.getD 15 undef = .int .i64 ((s : Int)) := f15
    refine rely_wp rfl ?_
    exact opr_move (.inr rfl) (hK _ _ (NewT.refl _) f15)
  · intro w3 k3
    intro u h; obtain rfl := Eq.symm (h (by simp)); clear h
    intro u h; obtain rfl := Eq.symm (h (by simp)); clear h
    intro u h; obtain rfl := Eq.symm (h (by simp)); clear h
    refine relyEnd_nil rfl ?_
    refine wpList_end rfl ?_
    simp only [Act.put, List.setIfInBounds_toArray, List.set_cons_zero, List.set_cons_succ]
    go_simp
    replace HTK := Lib.hid (HTK.out.new (NewT.trans _ _ _ HN.out k3))
    replace R0 := Lib.hid (k3.row R0.out)
    replace R1 := Lib.hid (k3.row R1.out)
    have HR := Lib.hid (RT.new HG.out (NewT.trans _ _ _ HN.out k3))
    clear k3 HN HSP
    go_upto_region 4 with fail
    refine wp_region_lit ?_
    refine wpList_plain rfl (fun K hK => ?_)
    refine opr_move (.inl rfl) (hK _ _ ?_)
    clear hK K
    refine wpList_plain rfl (fun K hK => ?_)
    refine opr_callv (cap := #[.pointer (some ⟨g, 0, none⟩)]) rfl rfl Tryd.func44 (by kernel_rfl) (by kernel_rfl) (vs := #[.pointer (some ⟨g, 0, none⟩)]) (by simp only [List.map_toArray, List.map_nil]; rfl) ((takeP_ok g k path d _ HTK.out HD.out HK.out).mono ?_)
    rintro e w4 ⟨rfl, hR4, hk4⟩
    refine ⟨_, rfl, hK _ _ ?_⟩
    clear hK K
    simp only [Act.put, List.setIfInBounds_toArray, List.set_cons_zero, List.set_cons_succ]
    refine wpList_new (n := 32) rfl rfl rfl rfl rfl rfl (by simp) run_alloc_hash info31 (fun _ => rfl) rfl ?_
    intro w5 hn5 r5
    refine wpList_end rfl ?_
    simp only [Act.put, List.setIfInBounds_toArray, List.set_cons_zero, List.set_cons_succ]
    go_simp
    have hg := HG.out
    have hle := HR.out.size
    obtain ⟨p10, hp10⟩ : ∃ p, w4.heap.size = p := ⟨_, rfl⟩
    rw [hp10] at r5 ⊢
    have hge : g < p10 := by have := hR4.size; omega
    have R10 := Lib.hid r5
    replace R0 := Lib.hid (hn5.row (hR4.row (by omega) R0.out))
    replace R1 := Lib.hid (hn5.row (hR4.row (by omega) R1.out))
    replace HTK := Lib.hid (hk4.new hn5)
    replace HR := Lib.hid (RT.trans _ _ _ HR.out (RT.trans _ _ _ hR4 (RT.new hk4.lt hn5)))
    have HGL := Lib.hid HTK.out.lt
    clear hk4 hR4 r5 hn5 HD HK hp10 hle
    have t5 : (i : Int) < (s : Int) := by omega
    go_upto_region 6 with fail
    refine wp_region_relyX (RT g) (fun j w => TkAt w g path (match j with | 0 => k | _ => kk)) [SV.eq (.agg (rowA 32 (bF (leaf)))), SV.eq (.int .i64 ((i : Int))), SV.eq (.int .i64 ((s : Int))), SV.eq (.func (.func 44) #[] #[.pointer (some ⟨g, 0, none⟩)]), SV.eq (.agg (rowA 32 (bF (x)))), SV.eq (.agg (rowA 32 (bF (d)))), SV.eq (.agg (rowA 32 (bF (node (x) (d)))))] [([(4, none)], none), ([(1, none)], none), ([(9, none)], none), ([(3, none)], none), ([(21, some 0), (22, some 1), (23, some 2), (24, some 3)], none), ([(10, none)], none), ([(25, some 4), (26, some 5)], none)] [none, none, none, none, some 0, none, none] [4] 39 rfl (by kernel_rfl) rfl (by kernel_rfl) (by kernel_rfl) rfl (by kernel_rfl) RT.trans (RT.drew _ _) (TkAt.new HTK.out (NewT.drew _)) (Nat.le_of_ble_eq_true rfl) ⟨?_, ?_, ?_, ?_, ?_, ?_, ?_, trivial⟩ ?_
    · intro a wx hT hF K hK
      replace hK := fun v w' (hN : NewT wx w') hv => hK v w' (RT.new (Nat.lt_of_lt_of_le HGL.out hT.size) hN) (fun k h => TkAt.new h hN) hv
      obtain ⟨f4, _⟩ := hF
      have f4 : a.tmps.getD 4 undef = .pointer (some ⟨w.heap.size, 0, none⟩) := f4
      refine rely_wp rfl ?_
      exact opr_load_hash rfl f4 (hT.row (by omega) R1.out) (hK _ _ (NewT.refl _) rfl)
    · intro a wx hT hF K hK
      replace hK := fun v w' (hN : NewT wx w') hv => hK v w' (RT.new (Nat.lt_of_lt_of_le HGL.out hT.size) hN) (fun k h => TkAt.new h hN) hv
      obtain ⟨f1, _⟩ := hF
      have f1 : a.tmps.getD 1 undef = .int .i64 ((i : Int)) := f1
      refine rely_wp rfl ?_
      exact opr_move (.inl rfl) (hK _ _ (NewT.refl _) f1)
    · intro a wx hT hF K hK
      replace hK := fun v w' (hN : NewT wx w') hv => hK v w' (RT.new (Nat.lt_of_lt_of_le HGL.out hT.size) hN) (fun k h => TkAt.new h hN) hv
      obtain ⟨f9, _⟩ := hF
      have f9 : a.tmps.getD 9 undef = .int .i64 ((s : Int)) := f9
      refine rely_wp rfl ?_
      exact opr_move (.inl rfl) (hK _ _ (NewT.refl _) f9)
    · intro a wx hT hF K hK
      replace hK := fun v w' (hN : NewT wx w') hv => hK v w' (RT.new (Nat.lt_of_lt_of_le HGL.out hT.size) hN) (fun k h => TkAt.new h hN) hv
      obtain ⟨f3, _⟩ := hF
      have f3 : a.tmps.getD 3 undef = .func (.func 44) #[] #[.pointer (some ⟨g, 0, none⟩)] := f3
      refine rely_wp rfl ?_
      exact opr_move (.inl rfl) (hK _ _ (NewT.refl _) f3)
    · intro a wx hT hF hJ K hK
      obtain ⟨f21, f22, f23, f24, _⟩ := hF
      have f21 : a.tmps.getD 21 undef = .agg (rowA 32 (bF (leaf))) := f21
      have f22 : a.tmps.getD 22 undef = .int .i64 ((i : Int)) := f22
      have f23 : a.tmps.getD 23 undef = .int .i64 ((s : Int)) := f23
      have f24 : a.tmps.getD 24 undef = .func (.func 44) #[] #[.pointer (some ⟨g, 0, none⟩)] := f24
      refine rely_wp rfl ?_
      refine opr_call rfl Tryd.func31 (by kernel_rfl) (by kernel_rfl) (by simp only [List.map_toArray, List.map_cons, List.map_nil, eval_tmp, f21, f22, f23, f24]) ((IH.out wx hJ).mono ?_)
      rintro e w' ⟨rfl, hR, hk'⟩
      exact ⟨_, rfl, hK _ _ hR hk' rfl⟩
    · intro a wx hT hF K hK
      replace hK := fun v w' (hN : NewT wx w') hv => hK v w' (RT.new (Nat.lt_of_lt_of_le HGL.out hT.size) hN) (fun k h => TkAt.new h hN) hv
      obtain ⟨f10, _⟩ := hF
      have f10 : a.tmps.getD 10 undef = .pointer (some ⟨p10, 0, none⟩) := f10
      refine rely_wp rfl ?_
      exact opr_load_hash rfl f10 (hT.row (by omega) R10.out) (hK _ _ (NewT.refl _) rfl)
    · intro a wx hT hF K hK
      replace hK := fun v w' (hN : NewT wx w') hv => hK v w' (RT.new (Nat.lt_of_lt_of_le HGL.out hT.size) hN) (fun k h => TkAt.new h hN) hv
      obtain ⟨f25, f26, _⟩ := hF
      have f25 : a.tmps.getD 25 undef = .agg (rowA 32 (bF (x))) := f25
      have f26 : a.tmps.getD 26 undef = .agg (rowA 32 (bF (d))) := f26
      refine rely_wp rfl ?_
      exact opr_cv (Node_cv hX (x) (d) wx (HTK.out.tabs hT)) rfl Tryd.func41 (by kernel_rfl) (by kernel_rfl) (by simp only [List.map_toArray, List.map_cons, List.map_nil, eval_tmp, f25, f26]) hK
    · intro w8 hT hJ
      intro u h; obtain rfl := Eq.symm (h (by simp)); clear h
      intro u h; obtain rfl := Eq.symm (h (by simp)); clear h
      intro u h; obtain rfl := Eq.symm (h (by simp)); clear h
      intro u h; obtain rfl := Eq.symm (h (by simp)); clear h
      intro u h; obtain rfl := Eq.symm (h (by simp)); clear h
      intro u h; obtain rfl := Eq.symm (h (by simp)); clear h
      intro u h; obtain rfl := Eq.symm (h (by simp)); clear h
      refine relyEnd_nil rfl ?_
      simp only [Act.put, List.setIfInBounds_toArray, List.set_cons_zero, List.set_cons_succ]
      refine opr_putm (F := bF (node x d)) rfl rfl rfl (hT.row (by omega) R0.out) (by decide) info31 (fun _ => rfl) (fun i hi => by rw [if_pos (by omega), Nat.sub_zero]) ?_
      intro w9 hR9 r9
      go_simp
      go_wp2
      exact bodyPost_ret (results_row rfl _ rfl r9 Tryd.underlying29 info31) rfl ⟨rfl, RT.late2 (RT.trans _ _ _ HR.out hT) (Nat.le_succ _) HG.out hR9, TkAt.late hJ hR9 (by have := HG.out; omega)⟩
set_option maxRecDepth 20000 in
set_option maxHeartbeats 2000000 in
theorem rootAbove_ln {node : Hs → Hs → Hs} {z : Hs} (hX : TreeH node z) (leaf d : Hs) (i n s g k kk : Nat) (path : List Hs) (w : World) (hn : 2 ≤ n) (hn2 : n ≤ 1048576) (hin : i < n) (hsn : s < n) (hsi : i < s) (hs : ∀ w, Cv 40 #[.int .i64 (n : Int)] w (.eq (.int .i64 (s : Int)))) (h : TkAt w g path (k + 1)) (hd : path[k]? = some d) (hk : k ≤ 1000000)
    (ih : ∀ w, TkAt w g path k → Calls Tryd.prog 31 #[.agg (rowA 32 (bF leaf)), .int .i64 (i : Int), .int .i64 (s : Int), .func (.func 44) #[] #[.pointer (some ⟨g, 0, none⟩)]] w fun e w' => e = .panicked fewP ∧ RT g w w') :
    Calls Tryd.prog 31 #[.agg (rowA 32 (bF leaf)), .int .i64 (i : Int), .int .i64 (n : Int), .func (.func 44) #[] #[.pointer (some ⟨g, 0, none⟩)]] w fun e w' => e = .panicked fewP ∧ RT g w w' := by
  have HD := Lib.hid hd
  have HK := Lib.hid hk
  have IH := Lib.hid ih
  clear hd hk ih
  have HG := Lib.hid h.lt
  have HTK := Lib.hid h
  have HSP := Lib.hid hs
  have t1 : ((n : Int) == 1) = false := beq_eq_false_iff_ne.2 (by omega)
  clear h hs
  go_enter Tryd.func31, Tryd.ntmps31
  go_upto_region 3 with fail
  clear t1
  have r1 := (rowIs_box w 29 32 (bF leaf)).alloc (.cells (rowA 32 (bF fun _ => 0)) 29)
  have r0 := rowIs_box (w.alloc (.cells (rowA 32 (bF leaf)) 29)) 29 32 (bF fun _ => 0)
  rw [World.size_alloc] at r0
  have hN : NewT w ((w.alloc (.cells (rowA 32 (bF leaf)) 29)).alloc (.cells (rowA 32 (bF fun _ => 0)) 29)) := NewT.trans _ _ _ (NewT.alloc _ _) (NewT.alloc _ _)
  change Code.wp _ _ _ _ ((w.alloc (.cells (rowA 32 (bF leaf)) 29)).alloc (.cells (rowA 32 (bF fun _ => 0)) 29))
  generalize ((w.alloc (.cells (rowA 32 (bF leaf)) 29)).alloc (.cells (rowA 32 (bF fun _ => 0)) 29)) = W0 at r0 r1 hN ⊢
  have R0 := Lib.hid r0
  have R1 := Lib.hid r1
  have HN := Lib.hid hN
  clear r0 r1 hN
  refine wp_region_steps0 NewT [SV.eq (.int .i64 ((n : Int))), SV.eq (.int .i64 ((s : Int))), SV.eq (.int .i64 ((s : Int)))] [([(2, none)], none), ([(14, some 0)], none), ([(15, some 1)], none)] 39 3 rfl rfl (by kernel_rfl) NewT.trans (NewT.refl _) (Nat.le_of_ble_eq_true rfl) ⟨?_, ?_, ?_, trivial⟩ ?_
  · intro a wx hT hF K hK
    obtain ⟨f2, _⟩ := hF
    have f2 : a.tmps.getD 2 undef = .int .i64 ((n : Int)) := f2
    refine rely_wp rfl ?_
    exact opr_move (.inl rfl) (hK _ _ (NewT.refl _) f2)
  · intro a wx hT hF K hK
    obtain ⟨f14, _⟩ := hF
    have f14 : a.tmps.getD 14 undef = .int .i64 ((n : Int)) := f14
    refine rely_wp rfl ?_
    exact opr_cv (HSP.out wx) rfl Tryd.func40 (by kernel_rfl) (by kernel_rfl) (by simp only [List.map_toArray, List.map_cons, List.map_nil, eval_tmp, f14]) hK
  · intro a wx hT hF K hK
    obtain ⟨f15, _⟩ := hF
    have f15 : a.tmps.getD 15 undef = .int .i64 ((s : Int)) := f15
    refine rely_wp rfl ?_
    exact opr_move (.inr rfl) (hK _ _ (NewT.refl _) f15)
  · intro w3 k3
    intro u h; obtain rfl := Eq.symm (h (by simp)); clear h
    intro u h; obtain rfl := Eq.symm (h (by simp)); clear h
    intro u h; obtain rfl := Eq.symm (h (by simp)); clear h
    refine relyEnd_nil rfl ?_
    refine wpList_end rfl ?_
    simp only [Act.put, List.setIfInBounds_toArray, List.set_cons_zero, List.set_cons_succ]
    go_simp
    replace HTK := Lib.hid (HTK.out.new (NewT.trans _ _ _ HN.out k3))
    replace R0 := Lib.hid (k3.row R0.out)
    replace R1 := Lib.hid (k3.row R1.out)
    have HR := Lib.hid (RT.new HG.out (NewT.trans _ _ _ HN.out k3))
    clear k3 HN HSP
    go_upto_region 4 with fail
    refine wp_region_lit ?_
    refine wpList_plain rfl (fun K hK => ?_)
    refine opr_move (.inl rfl) (hK _ _ ?_)
    clear hK K
    refine wpList_plain rfl (fun K hK => ?_)
    refine opr_callv (cap := #[.pointer (some ⟨g, 0, none⟩)]) rfl rfl Tryd.func44 (by kernel_rfl) (by kernel_rfl) (vs := #[.pointer (some ⟨g, 0, none⟩)]) (by simp only [List.map_toArray, List.map_nil]; rfl) ((takeP_ok g k path d _ HTK.out HD.out HK.out).mono ?_)
    rintro e w4 ⟨rfl, hR4, hk4⟩
    refine ⟨_, rfl, hK _ _ ?_⟩
    clear hK K
    simp only [Act.put, List.setIfInBounds_toArray, List.set_cons_zero, List.set_cons_succ]
    refine wpList_new (n := 32) rfl rfl rfl rfl rfl rfl (by simp) run_alloc_hash info31 (fun _ => rfl) rfl ?_
    intro w5 hn5 r5
    refine wpList_end rfl ?_
    simp only [Act.put, List.setIfInBounds_toArray, List.set_cons_zero, List.set_cons_succ]
    go_simp
    have hg := HG.out
    have hle := HR.out.size
    obtain ⟨p10, hp10⟩ : ∃ p, w4.heap.size = p := ⟨_, rfl⟩
    rw [hp10] at r5 ⊢
    have hge : g < p10 := by have := hR4.size; omega
    have R10 := Lib.hid r5
    replace R0 := Lib.hid (hn5.row (hR4.row (by omega) R0.out))
    replace R1 := Lib.hid (hn5.row (hR4.row (by omega) R1.out))
    replace HTK := Lib.hid (hk4.new hn5)
    replace HR := Lib.hid (RT.trans _ _ _ HR.out (RT.trans _ _ _ hR4 (RT.new hk4.lt hn5)))
    have HGL := Lib.hid HTK.out.lt
    clear hk4 hR4 r5 hn5 HD HK hp10 hle
    have t5 : (i : Int) < (s : Int) := by omega
    go_upto_region 6 with fail
    refine wp_region_relyX (RT g) (fun j w => TkAt w g path (match j with | 0 => k | _ => kk)) [SV.eq (.agg (rowA 32 (bF (leaf)))), SV.eq (.int .i64 ((i : Int))), SV.eq (.int .i64 ((s : Int))), SV.eq (.func (.func 44) #[] #[.pointer (some ⟨g, 0, none⟩)]), svNo, SV.eq (.agg (rowA 32 (bF (d)))), SV.eq (.agg (rowA 32 (bF (z))))] [([(4, none)], none), ([(1, none)], none), ([(9, none)], none), ([(3, none)], none), ([(21, some 0), (22, some 1), (23, some 2), (24, some 3)], none), ([(10, none)], none), ([(25, some 4), (26, some 5)], none)] [none, none, none, none, some 0, none, none] [4] 39 rfl (by kernel_rfl) rfl (by kernel_rfl) (by kernel_rfl) rfl (by kernel_rfl) RT.trans (RT.drew _ _) (TkAt.new HTK.out (NewT.drew _)) (Nat.le_of_ble_eq_true rfl) ⟨?_, ?_, ?_, ?_, ?_, ?_, ?_, trivial⟩ ?_
    · intro a wx hT hF K hK
      replace hK := fun v w' (hN : NewT wx w') hv => hK v w' (RT.new (Nat.lt_of_lt_of_le HGL.out hT.size) hN) (fun k h => TkAt.new h hN) hv
      obtain ⟨f4, _⟩ := hF
      have f4 : a.tmps.getD 4 undef = .pointer (some ⟨w.heap.size, 0, none⟩) := f4
      refine rely_wp rfl ?_
      exact opr_load_hash rfl f4 (hT.row (by omega) R1.out) (hK _ _ (NewT.refl _) rfl)
    · intro a wx hT hF K hK
      replace hK := fun v w' (hN : NewT wx w') hv => hK v w' (RT.new (Nat.lt_of_lt_of_le HGL.out hT.size) hN) (fun k h => TkAt.new h hN) hv
      obtain ⟨f1, _⟩ := hF
      have f1 : a.tmps.getD 1 undef = .int .i64 ((i : Int)) := f1
      refine rely_wp rfl ?_
      exact opr_move (.inl rfl) (hK _ _ (NewT.refl _) f1)
    · intro a wx hT hF K hK
      replace hK := fun v w' (hN : NewT wx w') hv => hK v w' (RT.new (Nat.lt_of_lt_of_le HGL.out hT.size) hN) (fun k h => TkAt.new h hN) hv
      obtain ⟨f9, _⟩ := hF
      have f9 : a.tmps.getD 9 undef = .int .i64 ((s : Int)) := f9
      refine rely_wp rfl ?_
      exact opr_move (.inl rfl) (hK _ _ (NewT.refl _) f9)
    · intro a wx hT hF K hK
      replace hK := fun v w' (hN : NewT wx w') hv => hK v w' (RT.new (Nat.lt_of_lt_of_le HGL.out hT.size) hN) (fun k h => TkAt.new h hN) hv
      obtain ⟨f3, _⟩ := hF
      have f3 : a.tmps.getD 3 undef = .func (.func 44) #[] #[.pointer (some ⟨g, 0, none⟩)] := f3
      refine rely_wp rfl ?_
      exact opr_move (.inl rfl) (hK _ _ (NewT.refl _) f3)
    · intro a wx hT hF hJ K hK
      obtain ⟨f21, f22, f23, f24, _⟩ := hF
      have f21 : a.tmps.getD 21 undef = .agg (rowA 32 (bF (leaf))) := f21
      have f22 : a.tmps.getD 22 undef = .int .i64 ((i : Int)) := f22
      have f23 : a.tmps.getD 23 undef = .int .i64 ((s : Int)) := f23
      have f24 : a.tmps.getD 24 undef = .func (.func 44) #[] #[.pointer (some ⟨g, 0, none⟩)] := f24
      refine rely_wp rfl ?_
      refine opr_callP rfl Tryd.func31 (by kernel_rfl) (by kernel_rfl) (by simp only [List.map_toArray, List.map_cons, List.map_nil, eval_tmp, f21, f22, f23, f24]) ((IH.out wx hJ).mono ?_)
      rintro e w' ⟨rfl, hR⟩
      exact ⟨_, rfl, fun hd => ⟨hd, rfl, RT.trans _ _ _ HR.out (RT.trans _ _ _ hT hR)⟩⟩
    · intro a wx hT hF K hK
      replace hK := fun v w' (hN : NewT wx w') hv => hK v w' (RT.new (Nat.lt_of_lt_of_le HGL.out hT.size) hN) (fun k h => TkAt.new h hN) hv
      obtain ⟨f10, _⟩ := hF
      have f10 : a.tmps.getD 10 undef = .pointer (some ⟨p10, 0, none⟩) := f10
      refine rely_wp rfl ?_
      exact opr_load_hash rfl f10 (hT.row (by omega) R10.out) (hK _ _ (NewT.refl _) rfl)
    · intro a wx hT hF K hK
      replace hK := fun v w' (hN : NewT wx w') hv => hK v w' (RT.new (Nat.lt_of_lt_of_le HGL.out hT.size) hN) (fun k h => TkAt.new h hN) hv
      obtain ⟨f25, f26, _⟩ := hF
      replace f25 := show (svNo).pred (a.tmps.getD 25 undef) wx from f25
      have f26 : a.tmps.getD 26 undef = .agg (rowA 32 (bF (d))) := f26
      refine rely_wp rfl ?_
      exact (show False from f25).elim
    · intro w8 hT hJ
      intro u h; obtain rfl := Eq.symm (h (by simp)); clear h
      intro u h; obtain rfl := Eq.symm (h (by simp)); clear h
      intro u h; obtain rfl := Eq.symm (h (by simp)); clear h
      intro u h; obtain rfl := Eq.symm (h (by simp)); clear h
      intro u25 h; have g25 := h (by simp); clear h; replace g25 := show (svNo).pred u25 w8 from g25
      intro u h; obtain rfl := Eq.symm (h (by simp)); clear h
      intro u h; obtain rfl := Eq.symm (h (by simp)); clear h
      refine relyEnd_nil rfl ?_
      simp only [Act.put, List.setIfInBounds_toArray, List.set_cons_zero, List.set_cons_succ]
      exact (show False from g25).elim
set_option maxRecDepth 20000 in
set_option maxHeartbeats 2000000 in
theorem rootAbove_rk {node : Hs → Hs → Hs} {z : Hs} (hX : TreeH node z) (leaf x d : Hs) (i n s g k kk : Nat) (path : List Hs) (w : World) (hn : 2 ≤ n) (hn2 : n ≤ 1048576) (hin : i < n) (hsn : s < n) (hsi : ¬ i < s) (hs : ∀ w, Cv 40 #[.int .i64 (n : Int)] w (.eq (.int .i64 (s : Int)))) (h : TkAt w g path (k + 1)) (hd : path[k]? = some d) (hk : k ≤ 1000000)
    (ih : ∀ w, TkAt w g path k → Calls Tryd.prog 31 #[.agg (rowA 32 (bF leaf)), .int .i64 ((i - s : Nat) : Int), .int .i64 ((n - s : Nat) : Int), .func (.func 44) #[] #[.pointer (some ⟨g, 0, none⟩)]] w fun e w' => e = .returned (.agg (rowA 32 (bF x))) ∧ RT g w w' ∧ TkAt w' g path kk) :
    Calls Tryd.prog 31 #[.agg (rowA 32 (bF leaf)), .int .i64 (i : Int), .int .i64 (n : Int), .func (.func 44) #[] #[.pointer (some ⟨g, 0, none⟩)]] w fun e w' => e = .returned (.agg (rowA 32 (bF (node d x)))) ∧ RT g w w' ∧ TkAt w' g path kk := by
  have HD := Lib.hid hd
  have HK := Lib.hid hk
  have IH := Lib.hid ih
  clear hd hk ih
  have HG := Lib.hid h.lt
  have HTK := Lib.hid h
  have HSP := Lib.hid hs
  have t1 : ((n : Int) == 1) = false := beq_eq_false_iff_ne.2 (by omega)
  clear h hs
  go_enter Tryd.func31, Tryd.ntmps31
  go_upto_region 3 with fail
  clear t1
  have r1 := (rowIs_box w 29 32 (bF leaf)).alloc (.cells (rowA 32 (bF fun _ => 0)) 29)
  have r0 := rowIs_box (w.alloc (.cells (rowA 32 (bF leaf)) 29)) 29 32 (bF fun _ => 0)
  rw [World.size_alloc] at r0
  have hN : NewT w ((w.alloc (.cells (rowA 32 (bF leaf)) 29)).alloc (.cells (rowA 32 (bF fun _ => 0)) 29)) := NewT.trans _ _ _ (NewT.alloc _ _) (NewT.alloc _ _)
  change Code.wp _ _ _ _ ((w.alloc (.cells (rowA 32 (bF leaf)) 29)).alloc (.cells (rowA 32 (bF fun _ => 0)) 29))
  generalize ((w.alloc (.cells (rowA 32 (bF leaf)) 29)).alloc (.cells (rowA 32 (bF fun _ => 0)) 29)) = W0 at r0 r1 hN ⊢
  have R0 := Lib.hid r0
  have R1 := Lib.hid r1
  have HN := Lib.hid hN
  clear r0 r1 hN
  refine wp_region_steps0 NewT [SV.eq (.int .i64 ((n : Int))), SV.eq (.int .i64 ((s : Int))), SV.eq (.int .i64 ((s : Int)))] [([(2, none)], none), ([(14, some 0)], none), ([(15, some 1)], none)] 39 3 rfl rfl (by kernel_rfl) NewT.trans (NewT.refl _) (Nat.le_of_ble_eq_true rfl) ⟨?_, ?_, ?_, trivial⟩ ?_
  · intro a wx hT hF K hK
    obtain ⟨f2, _⟩ := hF
    have f2 : a.tmps.getD 2 undef = .int .i64 ((n : Int)) := f2
    refine rely_wp rfl ?_
    exact opr_move (.inl rfl) (hK _ _ (NewT.refl _) f2)
  · intro a wx hT hF K hK
    obtain ⟨f14, _⟩ := hF
    have f14 : a.tmps.getD 14 undef = .int .i64 ((n : Int)) := f14
    refine rely_wp rfl ?_
    exact opr_cv (HSP.out wx) rfl Tryd.func40 (by kernel_rfl) (by kernel_rfl) (by simp only [List.map_toArray, List.map_cons, List.map_nil, eval_tmp, f14]) hK
  · intro a wx hT hF K hK
    obtain ⟨f15, _⟩ := hF
    have f15 : a.tmps.getD 15 undef = .int .i64 ((s : Int)) := f15
    refine rely_wp rfl ?_
    exact opr_move (.inr rfl) (hK _ _ (NewT.refl _) f15)
  · intro w3 k3
    intro u h; obtain rfl := Eq.symm (h (by simp)); clear h
    intro u h; obtain rfl := Eq.symm (h (by simp)); clear h
    intro u h; obtain rfl := Eq.symm (h (by simp)); clear h
    refine relyEnd_nil rfl ?_
    refine wpList_end rfl ?_
    simp only [Act.put, List.setIfInBounds_toArray, List.set_cons_zero, List.set_cons_succ]
    go_simp
    replace HTK := Lib.hid (HTK.out.new (NewT.trans _ _ _ HN.out k3))
    replace R0 := Lib.hid (k3.row R0.out)
    replace R1 := Lib.hid (k3.row R1.out)
    have HR := Lib.hid (RT.new HG.out (NewT.trans _ _ _ HN.out k3))
    clear k3 HN HSP
    go_upto_region 4 with fail
    refine wp_region_lit ?_
    refine wpList_plain rfl (fun K hK => ?_)
    refine opr_move (.inl rfl) (hK _ _ ?_)
    clear hK K
    refine wpList_plain rfl (fun K hK => ?_)
    refine opr_callv (cap := #[.pointer (some ⟨g, 0, none⟩)]) rfl rfl Tryd.func44 (by kernel_rfl) (by kernel_rfl) (vs := #[.pointer (some ⟨g, 0, none⟩)]) (by simp only [List.map_toArray, List.map_nil]; rfl) ((takeP_ok g k path d _ HTK.out HD.out HK.out).mono ?_)
    rintro e w4 ⟨rfl, hR4, hk4⟩
    refine ⟨_, rfl, hK _ _ ?_⟩
    clear hK K
    simp only [Act.put, List.setIfInBounds_toArray, List.set_cons_zero, List.set_cons_succ]
    refine wpList_new (n := 32) rfl rfl rfl rfl rfl rfl (by simp) run_alloc_hash info31 (fun _ => rfl) rfl ?_
    intro w5 hn5 r5
    refine wpList_end rfl ?_
    simp only [Act.put, List.setIfInBounds_toArray, List.set_cons_zero, List.set_cons_succ]
    go_simp
    have hg := HG.out
    have hle := HR.out.size
    obtain ⟨p10, hp10⟩ : ∃ p, w4.heap.size = p := ⟨_, rfl⟩
    rw [hp10] at r5 ⊢
    have hge : g < p10 := by have := hR4.size; omega
    have R10 := Lib.hid r5
    replace R0 := Lib.hid (hn5.row (hR4.row (by omega) R0.out))
    replace R1 := Lib.hid (hn5.row (hR4.row (by omega) R1.out))
    replace HTK := Lib.hid (hk4.new hn5)
    replace HR := Lib.hid (RT.trans _ _ _ HR.out (RT.trans _ _ _ hR4 (RT.new hk4.lt hn5)))
    have HGL := Lib.hid HTK.out.lt
    clear hk4 hR4 r5 hn5 HD HK hp10 hle
    have t5 : ¬ (i : Int) < (s : Int) := by omega
    go_upto_region 7 with fail
    refine wp_region_relyX (RT g) (fun j w => TkAt w g path (match j with | 0 => k | _ => kk)) [SV.eq (.agg (rowA 32 (bF (d)))), SV.eq (.agg (rowA 32 (bF (leaf)))), SV.eq (.int .i64 ((i : Int))), SV.eq (.int .i64 ((s : Int))), SV.eq (.int .i64 (((i - s : Nat) : Int))), SV.eq (.int .i64 ((n : Int))), SV.eq (.int .i64 ((s : Int))), SV.eq (.int .i64 (((n - s : Nat) : Int))), SV.eq (.func (.func 44) #[] #[.pointer (some ⟨g, 0, none⟩)]), SV.eq (.agg (rowA 32 (bF (x)))), SV.eq (.agg (rowA 32 (bF (node (d) (x)))))] [([(10, none)], none), ([(4, none)], none), ([(1, none)], none), ([(9, none)], none), ([(30, some 2), (31, some 3)], none), ([(2, none)], none), ([(9, none)], none), ([(33, some 5), (34, some 6)], none), ([(3, none)], none), ([(29, some 1), (32, some 4), (35, some 7), (36, some 8)], none), ([(28, some 0), (37, some 9)], none)] [none, none, none, none, none, none, none, none, none, some 0, none] [9] 39 rfl (by kernel_rfl) rfl (by kernel_rfl) (by kernel_rfl) rfl (by kernel_rfl) RT.trans (RT.drew _ _) (TkAt.new HTK.out (NewT.drew _)) (Nat.le_of_ble_eq_true rfl) ⟨?_, ?_, ?_, ?_, ?_, ?_, ?_, ?_, ?_, ?_, ?_, trivial⟩ ?_
    · intro a wx hT hF K hK
      replace hK := fun v w' (hN : NewT wx w') hv => hK v w' (RT.new (Nat.lt_of_lt_of_le HGL.out hT.size) hN) (fun k h => TkAt.new h hN) hv
      obtain ⟨f10, _⟩ := hF
      have f10 : a.tmps.getD 10 undef = .pointer (some ⟨p10, 0, none⟩) := f10
      refine rely_wp rfl ?_
      exact opr_load_hash rfl f10 (hT.row (by omega) R10.out) (hK _ _ (NewT.refl _) rfl)
    · intro a wx hT hF K hK
      replace hK := fun v w' (hN : NewT wx w') hv => hK v w' (RT.new (Nat.lt_of_lt_of_le HGL.out hT.size) hN) (fun k h => TkAt.new h hN) hv
      obtain ⟨f4, _⟩ := hF
      have f4 : a.tmps.getD 4 undef = .pointer (some ⟨w.heap.size, 0, none⟩) := f4
      refine rely_wp rfl ?_
      exact opr_load_hash rfl f4 (hT.row (by omega) R1.out) (hK _ _ (NewT.refl _) rfl)
    · intro a wx hT hF K hK
      replace hK := fun v w' (hN : NewT wx w') hv => hK v w' (RT.new (Nat.lt_of_lt_of_le HGL.out hT.size) hN) (fun k h => TkAt.new h hN) hv
      obtain ⟨f1, _⟩ := hF
      have f1 : a.tmps.getD 1 undef = .int .i64 ((i : Int)) := f1
      refine rely_wp rfl ?_
      exact opr_move (.inl rfl) (hK _ _ (NewT.refl _) f1)
    · intro a wx hT hF K hK
      replace hK := fun v w' (hN : NewT wx w') hv => hK v w' (RT.new (Nat.lt_of_lt_of_le HGL.out hT.size) hN) (fun k h => TkAt.new h hN) hv
      obtain ⟨f9, _⟩ := hF
      have f9 : a.tmps.getD 9 undef = .int .i64 ((s : Int)) := f9
      refine rely_wp rfl ?_
      exact opr_move (.inl rfl) (hK _ _ (NewT.refl _) f9)
    · intro a wx hT hF K hK
      replace hK := fun v w' (hN : NewT wx w') hv => hK v w' (RT.new (Nat.lt_of_lt_of_le HGL.out hT.size) hN) (fun k h => TkAt.new h hN) hv
      obtain ⟨f30, f31, _⟩ := hF
      have f30 : a.tmps.getD 30 undef = .int .i64 ((i : Int)) := f30
      have f31 : a.tmps.getD 31 undef = .int .i64 ((s : Int)) := f31
      refine rely_wp rfl ?_
      exact opr_sub (r := ((i - s : Nat) : Int)) Tryd.underlying3 (by unfold wrap64; omega) rfl f30 f31 (hK _ _ (NewT.refl _) rfl)
    · intro a wx hT hF K hK
      replace hK := fun v w' (hN : NewT wx w') hv => hK v w' (RT.new (Nat.lt_of_lt_of_le HGL.out hT.size) hN) (fun k h => TkAt.new h hN) hv
      obtain ⟨f2, _⟩ := hF
      have f2 : a.tmps.getD 2 undef = .int .i64 ((n : Int)) := f2
      refine rely_wp rfl ?_
      exact opr_move (.inl rfl) (hK _ _ (NewT.refl _) f2)
    · intro a wx hT hF K hK
      replace hK := fun v w' (hN : NewT wx w') hv => hK v w' (RT.new (Nat.lt_of_lt_of_le HGL.out hT.size) hN) (fun k h => TkAt.new h hN) hv
      obtain ⟨f9, _⟩ := hF
      have f9 : a.tmps.getD 9 undef = .int .i64 ((s : Int)) := f9
      refine rely_wp rfl ?_
      exact opr_move (.inl rfl) (hK _ _ (NewT.refl _) f9)
    · intro a wx hT hF K hK
      replace hK := fun v w' (hN : NewT wx w') hv => hK v w' (RT.new (Nat.lt_of_lt_of_le HGL.out hT.size) hN) (fun k h => TkAt.new h hN) hv
      obtain ⟨f33, f34, _⟩ := hF
      have f33 : a.tmps.getD 33 undef = .int .i64 ((n : Int)) := f33
      have f34 : a.tmps.getD 34 undef = .int .i64 ((s : Int)) := f34
      refine rely_wp rfl ?_
      exact opr_sub (r := ((n - s : Nat) : Int)) Tryd.underlying3 (by unfold wrap64; omega) rfl f33 f34 (hK _ _ (NewT.refl _) rfl)
    · intro a wx hT hF K hK
      replace hK := fun v w' (hN : NewT wx w') hv => hK v w' (RT.new (Nat.lt_of_lt_of_le HGL.out hT.size) hN) (fun k h => TkAt.new h hN) hv
      obtain ⟨f3, _⟩ := hF
      have f3 : a.tmps.getD 3 undef = .func (.func 44) #[] #[.pointer (some ⟨g, 0, none⟩)] := f3
      refine rely_wp rfl ?_
      exact opr_move (.inl rfl) (hK _ _ (NewT.refl _) f3)
    · intro a wx hT hF hJ K hK
      obtain ⟨f29, f32, f35, f36, _⟩ := hF
      have f29 : a.tmps.getD 29 undef = .agg (rowA 32 (bF (leaf))) := f29
      have f32 : a.tmps.getD 32 undef = .int .i64 (((i - s : Nat) : Int)) := f32
      have f35 : a.tmps.getD 35 undef = .int .i64 (((n - s : Nat) : Int)) := f35
      have f36 : a.tmps.getD 36 undef = .func (.func 44) #[] #[.pointer (some ⟨g, 0, none⟩)] := f36
      refine rely_wp rfl ?_
      refine opr_call rfl Tryd.func31 (by kernel_rfl) (by kernel_rfl) (by simp only [List.map_toArray, List.map_cons, List.map_nil, eval_tmp, f29, f32, f35, f36]) ((IH.out wx hJ).mono ?_)
      rintro e w' ⟨rfl, hR, hk'⟩
      exact ⟨_, rfl, hK _ _ hR hk' rfl⟩
    · intro a wx hT hF K hK
      replace hK := fun v w' (hN : NewT wx w') hv => hK v w' (RT.new (Nat.lt_of_lt_of_le HGL.out hT.size) hN) (fun k h => TkAt.new h hN) hv
      obtain ⟨f28, f37, _⟩ := hF
      have f28 : a.tmps.getD 28 undef = .agg (rowA 32 (bF (d))) := f28
      have f37 : a.tmps.getD 37 undef = .agg (rowA 32 (bF (x))) := f37
      refine rely_wp rfl ?_
      exact opr_cv (Node_cv hX (d) (x) wx (HTK.out.tabs hT)) rfl Tryd.func41 (by kernel_rfl) (by kernel_rfl) (by simp only [List.map_toArray, List.map_cons, List.map_nil, eval_tmp, f28, f37]) hK
    · intro w8 hT hJ
      intro u h; obtain rfl := Eq.symm (h (by simp)); clear h
      intro u h; obtain rfl := Eq.symm (h (by simp)); clear h
      intro u h; obtain rfl := Eq.symm (h (by simp)); clear h
      intro u h; obtain rfl := Eq.symm (h (by simp)); clear h
      intro u h; obtain rfl := Eq.symm (h (by simp)); clear h
      intro u h; obtain rfl := Eq.symm (h (by simp)); clear h
      intro u h; obtain rfl := Eq.symm (h (by simp)); clear h
      intro u h; obtain rfl := Eq.symm (h (by simp)); clear h
      intro u h; obtain rfl := Eq.symm (h (by simp)); clear h
      intro u h; obtain rfl := Eq.symm (h (by simp)); clear h
      intro u h; obtain rfl := Eq.symm (h (by simp)); clear h
      refine relyEnd_nil rfl ?_
      simp only [Act.put, List.setIfInBounds_toArray, List.set_cons_zero, List.set_cons_succ]
      refine opr_putm (F := bF (node d x)) rfl rfl rfl (hT.row (by omega) R0.out) (by decide) info31 (fun _ => rfl) (fun i hi => by rw [if_pos (by omega), Nat.sub_zero]) ?_
      intro w9 hR9 r9
      go_simp
      go_wp2
      exact bodyPost_ret (results_row rfl _ rfl r9 Tryd.underlying29 info31) rfl ⟨rfl, RT.late2 (RT.trans _ _ _ HR.out hT) (Nat.le_succ _) HG.out hR9, TkAt.late hJ hR9 (by have := HG.out; omega)⟩
set_option maxRecDepth 20000 in
set_option maxHeartbeats 2000000 in
theorem rootAbove_rn {node : Hs → Hs → Hs} {z : Hs} (hX : TreeH node z) (leaf d : Hs) (i n s g k kk : Nat) (path : List Hs) (w : World) (hn : 2 ≤ n) (hn2 : n ≤ 1048576) (hin : i < n) (hsn : s < n) (hsi : ¬ i < s) (hs : ∀ w, Cv 40 #[.int .i64 (n : Int)] w (.eq (.int .i64 (s : Int)))) (h : TkAt w g path (k + 1)) (hd : path[k]? = some d) (hk : k ≤ 1000000)
    (ih : ∀ w, TkAt w g path k → Calls Tryd.prog 31 #[.agg (rowA 32 (bF leaf)), .int .i64 ((i - s : Nat) : Int), .int .i64 ((n - s : Nat) : Int), .func (.func 44) #[] #[.pointer (some ⟨g, 0, none⟩)]] w fun e w' => e = .panicked fewP ∧ RT g w w') :
    Calls Tryd.prog 31 #[.agg (rowA 32 (bF leaf)), .int .i64 (i : Int), .int .i64 (n : Int), .func (.func 44) #[] #[.pointer (some ⟨g, 0, none⟩)]] w fun e w' => e = .panicked fewP ∧ RT g w w' := by
  have HD := Lib.hid hd
  have HK := Lib.hid hk
  have IH := Lib.hid ih
  clear hd hk ih
  have HG := Lib.hid h.lt
  have HTK := Lib.hid h
  have HSP := Lib.hid hs
  have t1 : ((n : Int) == 1) = false := beq_eq_false_iff_ne.2 (by omega)
  clear h hs
  go_enter Tryd.func31, Tryd.ntmps31
  go_upto_region 3 with fail
  clear t1
  have r1 := (rowIs_box w 29 32 (bF leaf)).alloc (.cells (rowA 32 (bF fun _ => 0)) 29)
  have r0 := rowIs_box (w.alloc (.cells (rowA 32 (bF leaf)) 29)) 29 32 (bF fun _ => 0)
  rw [World.size_alloc] at r0
  have hN : NewT w ((w.alloc (.cells (rowA 32 (bF leaf)) 29)).alloc (.cells (rowA 32 (bF fun _ => 0)) 29)) := NewT.trans _ _ _ (NewT.alloc _ _) (NewT.alloc _ _)
  change Code.wp _ _ _ _ ((w.alloc (.cells (rowA 32 (bF leaf)) 29)).alloc (.cells (rowA 32 (bF fun _ => 0)) 29))
  generalize ((w.alloc (.cells (rowA 32 (bF leaf)) 29)).alloc (.cells (rowA 32 (bF fun _ => 0)) 29)) = W0 at r0 r1 hN ⊢
  have R0 := Lib.hid r0
  have R1 := Lib.hid r1
  have HN := Lib.hid hN
  clear r0 r1 hN
  refine wp_region_steps0 NewT [SV.eq (.int .i64 ((n : Int))), SV.eq (.int .i64 ((s : Int))), SV.eq (.int .i64 ((s : Int)))] [([(2, none)], none), ([(14, some 0)], none), ([(15, some 1)], none)] 39 3 rfl rfl (by kernel_rfl) NewT.trans (NewT.refl _) (Nat.le_of_ble_eq_true rfl) ⟨?_, ?_, ?_, trivial⟩ ?_
  · intro a wx hT hF K hK
    obtain ⟨f2, _⟩ := hF
    have f2 : a.tmps.getD 2 undef = .int .i64 ((n : Int)) := f2
    refine rely_wp rfl ?_
    exact opr_move (.inl rfl) (hK _ _ (NewT.refl _) f2)
  · intro a wx hT hF K hK
    obtain ⟨f14, _⟩ := hF
    have f14 : a.tmps.getD 14 undef = .int .i64 ((n : Int)) := f14
    refine rely_wp rfl ?_
    exact opr_cv (HSP.out wx) rfl Tryd.func40 (by kernel_rfl) (by kernel_rfl) (by simp only [List.map_toArray, List.map_cons, List.map_nil, eval_tmp, f14]) hK
  · intro a wx hT hF K hK
    obtain ⟨f15, _⟩ := hF
    have f15 : a.tmps.getD 15 undef = .int .i64 ((s : Int)) := f15
    refine rely_wp rfl ?_
    exact opr_move (.inr rfl) (hK _ _ (NewT.refl _) f15)
  · intro w3 k3
    intro u h; obtain rfl := Eq.symm (h (by simp)); clear h
    intro u h; obtain rfl := Eq.symm (h (by simp)); clear h
    intro u h; obtain rfl := Eq.symm (h (by simp)); clear h
    refine relyEnd_nil rfl ?_
    refine wpList_end rfl ?_
    simp only [Act.put, List.setIfInBounds_toArray, List.set_cons_zero, List.set_cons_succ]
    go_simp
    replace HTK := Lib.hid (HTK.out.new (NewT.trans _ _ _ HN.out k3))
    replace R0 := Lib.hid (k3.row R0.out)
    replace R1 := Lib.hid (k3.row R1.out)
    have HR := Lib.hid (RT.new HG.out (NewT.trans _ _ _ HN.out k3))
    clear k3 HN HSP
    go_upto_region 4 with fail
    refine wp_region_lit ?_
    refine wpList_plain rfl (fun K hK => ?_)
    refine opr_move (.inl rfl) (hK _ _ ?_)
    clear hK K
    refine wpList_plain rfl (fun K hK => ?_)
    refine opr_callv (cap := #[.pointer (some ⟨g, 0, none⟩)]) rfl rfl Tryd.func44 (by kernel_rfl) (by kernel_rfl) (vs := #[.pointer (some ⟨g, 0, none⟩)]) (by simp only [List.map_toArray, List.map_nil]; rfl) ((takeP_ok g k path d _ HTK.out HD.out HK.out).mono ?_)
    rintro e w4 ⟨rfl, hR4, hk4⟩
    refine ⟨_, rfl, hK _ _ ?_⟩
    clear hK K
    simp only [Act.put, List.setIfInBounds_toArray, List.set_cons_zero, List.set_cons_succ]
    refine wpList_new (n := 32) rfl rfl rfl rfl rfl rfl (by simp) run_alloc_hash info31 (fun _ => rfl) rfl ?_
    intro w5 hn5 r5
    refine wpList_end rfl ?_
    simp only [Act.put, List.setIfInBounds_toArray, List.set_cons_zero, List.set_cons_succ]
    go_simp
    have hg := HG.out
    have hle := HR.out.size
    obtain ⟨p10, hp10⟩ : ∃ p, w4.heap.size = p := ⟨_, rfl⟩
    rw [hp10] at r5 ⊢
    have hge : g < p10 := by have := hR4.size; omega
    have R10 := Lib.hid r5
    replace R0 := Lib.hid (hn5.row (hR4.row (by omega) R0.out))
    replace R1 := Lib.hid (hn5.row (hR4.row (by omega) R1.out))
    replace HTK := Lib.hid (hk4.new hn5)
    replace HR := Lib.hid (RT.trans _ _ _ HR.out (RT.trans _ _ _ hR4 (RT.new hk4.lt hn5)))
    have HGL := Lib.hid HTK.out.lt
    clear hk4 hR4 r5 hn5 HD HK hp10 hle
    have t5 : ¬ (i : Int) < (s : Int) := by omega
    go_upto_region 7 with fail
    refine wp_region_relyX (RT g) (fun j w => TkAt w g path (match j with | 0 => k | _ => kk)) [SV.eq (.agg (rowA 32 (bF (d)))), SV.eq (.agg (rowA 32 (bF (leaf)))), SV.eq (.int .i64 ((i : Int))), SV.eq (.int .i64 ((s : Int))), SV.eq (.int .i64 (((i - s : Nat) : Int))), SV.eq (.int .i64 ((n : Int))), SV.eq (.int .i64 ((s : Int))), SV.eq (.int .i64 (((n - s : Nat) : Int))), SV.eq (.func (.func 44) #[] #[.pointer (some ⟨g, 0, none⟩)]), svNo, SV.eq (.agg (rowA 32 (bF (z))))] [([(10, none)], none), ([(4, none)], none), ([(1, none)], none), ([(9, none)], none), ([(30, some 2), (31, some 3)], none), ([(2, none)], none), ([(9, none)], none), ([(33, some 5), (34, some 6)], none), ([(3, none)], none), ([(29, some 1), (32, some 4), (35, some 7), (36, some 8)], none), ([(28, some 0), (37, some 9)], none)] [none, none, none, none, none, none, none, none, none, some 0, none] [9] 39 rfl (by kernel_rfl) rfl (by kernel_rfl) (by kernel_rfl) rfl (by kernel_rfl) RT.trans (RT.drew _ _) (TkAt.new HTK.out (NewT.drew _)) (Nat.le_of_ble_eq_true rfl) ⟨?_, ?_, ?_, ?_, ?_, ?_, ?_, ?_, ?_, ?_, ?_, trivial⟩ ?_
    · intro a wx hT hF K hK
      replace hK := fun v w' (hN : NewT wx w') hv => hK v w' (RT.new (Nat.lt_of_lt_of_le HGL.out hT.size) hN) (fun k h => TkAt.new h hN) hv
      obtain ⟨f10, _⟩ := hF
      have f10 : a.tmps.getD 10 undef = .pointer (some ⟨p10, 0, none⟩) := f10
      refine rely_wp rfl ?_
      exact opr_load_hash rfl f10 (hT.row (by omega) R10.out) (hK _ _ (NewT.refl _) rfl)
    · intro a wx hT hF K hK
      replace hK := fun v w' (hN : NewT wx w') hv => hK v w' (RT.new (Nat.lt_of_lt_of_le HGL.out hT.size) hN) (fun k h => TkAt.new h hN) hv
      obtain ⟨f4, _⟩ := hF
      have f4 : a.tmps.getD 4 undef = .pointer (some ⟨w.heap.size, 0, none⟩) := f4
      refine rely_wp rfl ?_
      exact opr_load_hash rfl f4 (hT.row (by omega) R1.out) (hK _ _ (NewT.refl _) rfl)
    · intro a wx hT hF K hK
      replace hK := fun v w' (hN : NewT wx w') hv => hK v w' (RT.new (Nat.lt_of_lt_of_le HGL.out hT.size) hN) (fun k h => TkAt.new h hN) hv
      obtain ⟨f1, _⟩ := hF
      have f1 : a.tmps.getD 1 undef = .int .i64 ((i : Int)) := f1
      refine rely_wp rfl ?_
      exact opr_move (.inl rfl) (hK _ _ (NewT.refl _) f1)
    · intro a wx hT hF K hK
      replace hK := fun v w' (hN : NewT wx w') hv => hK v w' (RT.new (Nat.lt_of_lt_of_le HGL.out hT.size) hN) (fun k h => TkAt.new h hN) hv
      obtain ⟨f9, _⟩ := hF
      have f9 : a.tmps.getD 9 undef = .int .i64 ((s : Int)) := f9
      refine rely_wp rfl ?_
      exact opr_move (.inl rfl) (hK _ _ (NewT.refl _) f9)
    · intro a wx hT hF K hK
      replace hK := fun v w' (hN : NewT wx w') hv => hK v w' (RT.new (Nat.lt_of_lt_of_le HGL.out hT.size) hN) (fun k h => TkAt.new h hN) hv
      obtain ⟨f30, f31, _⟩ := hF
      have f30 : a.tmps.getD 30 undef = .int .i64 ((i : Int)) := f30
      have f31 : a.tmps.getD 31 undef = .int .i64 ((s : Int)) := f31
      refine rely_wp rfl ?_
      exact opr_sub (r := ((i - s : Nat) : Int)) Tryd.underlying3 (by unfold wrap64; omega) rfl f30 f31 (hK _ _ (NewT.refl _) rfl)
    · intro a wx hT hF K hK
      replace hK := fun v w' (hN : NewT wx w') hv => hK v w' (RT.new (Nat.lt_of_lt_of_le HGL.out hT.size) hN) (fun k h => TkAt.new h hN) hv
      obtain ⟨f2, _⟩ := hF
      have f2 : a.tmps.getD 2 undef = .int .i64 ((n : Int)) := f2
      refine rely_wp rfl ?_
      exact opr_move (.inl rfl) (hK _ _ (NewT.refl _) f2)
    · intro a wx hT hF K hK
      replace hK := fun v w' (hN : NewT wx w') hv => hK v w' (RT.new (Nat.lt_of_lt_of_le HGL.out hT.size) hN) (fun k h => TkAt.new h hN) hv
      obtain ⟨f9, _⟩ := hF
      have f9 : a.tmps.getD 9 undef = .int .i64 ((s : Int)) := f9
      refine rely_wp rfl ?_
      exact opr_move (.inl rfl) (hK _ _ (NewT.refl _) f9)
    · intro a wx hT hF K hK
      replace hK := fun v w' (hN : NewT wx w') hv => hK v w' (RT.new (Nat.lt_of_lt_of_le HGL.out hT.size) hN) (fun k h => TkAt.new h hN) hv
      obtain ⟨f33, f34, _⟩ := hF
      have f33 : a.tmps.getD 33 undef = .int .i64 ((n : Int)) := f33
      have f34 : a.tmps.getD 34 undef = .int .i64 ((s : Int)) := f34
      refine rely_wp rfl ?_
      exact opr_sub (r := ((n - s : Nat) : Int)) Tryd.underlying3 (by unfold wrap64; omega) rfl f33 f34 (hK _ _ (NewT.refl _) rfl)
    · intro a wx hT hF K hK
      replace hK := fun v w' (hN : NewT wx w') hv => hK v w' (RT.new (Nat.lt_of_lt_of_le HGL.out hT.size) hN) (fun k h => TkAt.new h hN) hv
      obtain ⟨f3, _⟩ := hF
      have f3 : a.tmps.getD 3 undef = .func (.func 44) #[] #[.pointer (some ⟨g, 0, none⟩)] := f3
      refine rely_wp rfl ?_
      exact opr_move (.inl rfl) (hK _ _ (NewT.refl _) f3)
    · intro a wx hT hF hJ K hK
      obtain ⟨f29, f32, f35, f36, _⟩ := hF
      have f29 : a.tmps.getD 29 undef = .agg (rowA 32 (bF (leaf))) := f29
      have f32 : a.tmps.getD 32 undef = .int .i64 (((i - s : Nat) : Int)) := f32
      have f35 : a.tmps.getD 35 undef = .int .i64 (((n - s : Nat) : Int)) := f35
      have f36 : a.tmps.getD 36 undef = .func (.func 44) #[] #[.pointer (some ⟨g, 0, none⟩)] := f36
      refine rely_wp rfl ?_
      refine opr_callP rfl Tryd.func31 (by kernel_rfl) (by kernel_rfl) (by simp only [List.map_toArray, List.map_cons, List.map_nil, eval_tmp, f29, f32, f35, f36]) ((IH.out wx hJ).mono ?_)
      rintro e w' ⟨rfl, hR⟩
      exact ⟨_, rfl, fun hd => ⟨hd, rfl, RT.trans _ _ _ HR.out (RT.trans _ _ _ hT hR)⟩⟩
    · intro a wx hT hF K hK
      replace hK := fun v w' (hN : NewT wx w') hv => hK v w' (RT.new (Nat.lt_of_lt_of_le HGL.out hT.size) hN) (fun k h => TkAt.new h hN) hv
      obtain ⟨f28, f37, _⟩ := hF
      have f28 : a.tmps.getD 28 undef = .agg (rowA 32 (bF (d))) := f28
      replace f37 := show (svNo).pred (a.tmps.getD 37 undef) wx from f37
      refine rely_wp rfl ?_
      exact (show False from f37).elim
    · intro w8 hT hJ
      intro u h; obtain rfl := Eq.symm (h (by simp)); clear h
      intro u h; obtain rfl := Eq.symm (h (by simp)); clear h
      intro u h; obtain rfl := Eq.symm (h (by simp)); clear h
      intro u h; obtain rfl := Eq.symm (h (by simp)); clear h
      intro u h; obtain rfl := Eq.symm (h (by simp)); clear h
      intro u h; obtain rfl := Eq.symm (h (by simp)); clear h
      intro u h; obtain rfl := Eq.symm (h (by simp)); clear h
      intro u h; obtain rfl := Eq.symm (h (by simp)); clear h
      intro u h; obtain rfl := Eq.symm (h (by simp)); clear h
      intro u37 h; have g37 := h (by simp); clear h; replace g37 := show (svNo).pred u37 w8 from g37
      intro u h; obtain rfl := Eq.symm (h (by simp)); clear h
      refine relyEnd_nil rfl ?_
      simp only [Act.put, List.setIfInBounds_toArray, List.set_cons_zero, List.set_cons_succ]
      exact (show False from g37).elim
end Go.Proofs.YtoigjcadncecpaaDoor
/- Two roots above a beginning, by hashes that are taken: what rootsAbove comes to. -/
namespace Go.Proofs.YtoigjcadncecpaaDoor
open Go Go.RowKit
set_option maxRecDepth 8000
set_option linter.all false
set_option maxHeartbeats 1000000 in
theorem rootsAbove_0n (m n s g : Nat) (wv : Value) (path : List Hs) (w : World) (hmn : m < n) (hs : ∀ w, Cv 40 #[.int .i64 (n : Int)] w (.eq (.int .i64 (s : Int)))) (h : TkAt w g path 0) :
    Calls Tryd.prog 35 #[.int .i64 (m : Int), .int .i64 (n : Int), wv, .func (.func 46) #[] #[.pointer (some ⟨g, 0, none⟩)]] w fun e w' => e = .panicked fewP ∧ RT g w w' := by
  have HG := Lib.hid h.lt
  have HTK := Lib.hid h
  have HSP := Lib.hid hs
  have t1 : ((m : Int) == (n : Int)) = false := beq_eq_false_iff_ne.2 (by omega)
  clear h hs
  go_enter Tryd.func35, Tryd.ntmps35
  go_upto_region 4 with fail
  have r8 := rowIs_box w 51 64 (rtF (fun _ => 0) (fun _ => 0))
  have hN : NewT w (w.alloc (.cells (rowA 64 (rtF (fun _ => 0) (fun _ => 0))) 51)) := (NewT.alloc _ _)
  change Code.wp _ _ _ _ (w.alloc (.cells (rowA 64 (rtF (fun _ => 0) (fun _ => 0))) 51))
  generalize (w.alloc (.cells (rowA 64 (rtF (fun _ => 0) (fun _ => 0))) 51)) = W0 at r8 hN ⊢
  have R8 := Lib.hid r8
  have HR := Lib.hid (RT.new HG.out hN)
  replace HTK := Lib.hid (HTK.out.new hN)
  clear r8 hN t1
  refine wp_region_steps0 NewT [SV.eq (.int .i64 ((n : Int))), SV.eq (.int .i64 ((s : Int))), SV.eq (.int .i64 ((s : Int)))] [([(1, none)], none), ([(22, some 0)], none), ([(23, some 1)], none)] 59 3 rfl rfl (by kernel_rfl) NewT.trans (NewT.refl _) (Nat.le_of_ble_eq_true rfl) ⟨?_, ?_, ?_, trivial⟩ ?_
  · intro a wx hT hF K hK
    obtain ⟨f1, _⟩ := hF
    have f1 : a.tmps.getD 1 undef = .int .i64 ((n : Int)) := f1
    refine rely_wp rfl ?_
    exact opr_move (.inl rfl) (hK _ _ (NewT.refl _) f1)
  · intro a wx hT hF K hK
    obtain ⟨f22, _⟩ := hF
    have f22 : a.tmps.getD 22 undef = .int .i64 ((n : Int)) := f22
    refine rely_wp rfl ?_
    exact opr_cv (HSP.out wx) rfl Tryd.func40 (by kernel_rfl) (by kernel_rfl) (by simp only [List.map_toArray, List.map_cons, List.map_nil, eval_tmp, f22]) hK
  · intro a wx hT hF K hK
    obtain ⟨f23, _⟩ := hF
    have f23 : a.tmps.getD 23 undef = .int .i64 ((s : Int)) := f23
    refine rely_wp rfl ?_
    exact opr_move (.inr rfl) (hK _ _ (NewT.refl _) f23)
  · intro w3 k3
    intro u h; obtain rfl := Eq.symm (h (by simp)); clear h
    intro u h; obtain rfl := Eq.symm (h (by simp)); clear h
    intro u h; obtain rfl := Eq.symm (h (by simp)); clear h
    refine relyEnd_nil rfl ?_
    refine wpList_end rfl ?_
    simp only [Act.put, List.setIfInBounds_toArray, List.set_cons_zero, List.set_cons_succ]
    go_simp
    replace HTK := Lib.hid (HTK.out.new k3)
    replace R8 := Lib.hid (k3.row R8.out)
    replace HR := Lib.hid (RT.trans _ _ _ HR.out (RT.new (by have := HR.out.size; have := HG.out; omega) k3))
    clear k3 HSP
    go_upto_region 5 with fail
    refine wp_region_lit ?_
    refine wpList_plain rfl (fun K hK => ?_)
    refine opr_move (.inl rfl) (hK _ _ ?_)
    clear hK K
    refine wpList_plain rfl (fun K hK => ?_)
    refine opr_callvP (cap := #[.pointer (some ⟨g, 0, none⟩)]) rfl rfl Tryd.func46 (by kernel_rfl) (by kernel_rfl) (vs := #[.pointer (some ⟨g, 0, none⟩)]) (by simp only [List.map_toArray, List.map_nil]; rfl) ((takeB_no g path _ HTK.out).mono ?_)
    rintro e w4 ⟨rfl, hR4⟩
    exact ⟨_, rfl, rfl, rfl, RT.trans _ _ _ HR.out hR4⟩
set_option maxRecDepth 20000 in
set_option maxHeartbeats 4000000 in
theorem rootsAbove_lk {node : Hs → Hs → Hs} {z : Hs} (hX : TreeH node z) (p q d : Hs) (m n s g k kk : Nat) (wv : Value) (path : List Hs) (w : World) (hmn : m < n) (hn2 : n ≤ 1048576) (hsn : s < n) (hsi : m ≤ s) (hs : ∀ w, Cv 40 #[.int .i64 (n : Int)] w (.eq (.int .i64 (s : Int)))) (h : TkAt w g path (k + 1)) (hd : path[k]? = some d) (hk : k ≤ 1000000)
    (ih : ∀ w', RT g w w' → TkAt w' g path k → Calls Tryd.prog 35 #[.int .i64 (m : Int), .int .i64 (s : Int), wv, .func (.func 46) #[] #[.pointer (some ⟨g, 0, none⟩)]] w' fun e w'' => e = .returned (.agg (rowA 64 (rtF p q))) ∧ RT g w' w'' ∧ TkAt w'' g path kk) :
    Calls Tryd.prog 35 #[.int .i64 (m : Int), .int .i64 (n : Int), wv, .func (.func 46) #[] #[.pointer (some ⟨g, 0, none⟩)]] w fun e w' => e = .returned (.agg (rowA 64 (rtF (p) (node q d)))) ∧ RT g w w' ∧ TkAt w' g path kk := by
  have HD := Lib.hid hd
  have HK := Lib.hid hk
  have IH := Lib.hid ih
  clear hd hk ih
  have HG := Lib.hid h.lt
  have HTK := Lib.hid h
  have HSP := Lib.hid hs
  have t1 : ((m : Int) == (n : Int)) = false := beq_eq_false_iff_ne.2 (by omega)
  clear h hs
  go_enter Tryd.func35, Tryd.ntmps35
  go_upto_region 4 with fail
  have r8 := rowIs_box w 51 64 (rtF (fun _ => 0) (fun _ => 0))
  have hN : NewT w (w.alloc (.cells (rowA 64 (rtF (fun _ => 0) (fun _ => 0))) 51)) := (NewT.alloc _ _)
  change Code.wp _ _ _ _ (w.alloc (.cells (rowA 64 (rtF (fun _ => 0) (fun _ => 0))) 51))
  generalize (w.alloc (.cells (rowA 64 (rtF (fun _ => 0) (fun _ => 0))) 51)) = W0 at r8 hN ⊢
  have R8 := Lib.hid r8
  have HR := Lib.hid (RT.new HG.out hN)
  replace HTK := Lib.hid (HTK.out.new hN)
  clear r8 hN t1
  refine wp_region_steps0 NewT [SV.eq (.int .i64 ((n : Int))), SV.eq (.int .i64 ((s : Int))), SV.eq (.int .i64 ((s : Int)))] [([(1, none)], none), ([(22, some 0)], none), ([(23, some 1)], none)] 59 3 rfl rfl (by kernel_rfl) NewT.trans (NewT.refl _) (Nat.le_of_ble_eq_true rfl) ⟨?_, ?_, ?_, trivial⟩ ?_
  · intro a wx hT hF K hK
    obtain ⟨f1, _⟩ := hF
    have f1 : a.tmps.getD 1 undef = .int .i64 ((n : Int)) := f1
    refine rely_wp rfl ?_
    exact opr_move (.inl rfl) (hK _ _ (NewT.refl _) f1)
  · intro a wx hT hF K hK
    obtain ⟨f22, _⟩ := hF
    have f22 : a.tmps.getD 22 undef = .int .i64 ((n : Int)) := f22
    refine rely_wp rfl ?_
    exact opr_cv (HSP.out wx) rfl Tryd.func40 (by kernel_rfl) (by kernel_rfl) (by simp only [List.map_toArray, List.map_cons, List.map_nil, eval_tmp, f22]) hK
  · intro a wx hT hF K hK
    obtain ⟨f23, _⟩ := hF
    have f23 : a.tmps.getD 23 undef = .int .i64 ((s : Int)) := f23
    refine rely_wp rfl ?_
    exact opr_move (.inr rfl) (hK _ _ (NewT.refl _) f23)
  · intro w3 k3
    intro u h; obtain rfl := Eq.symm (h (by simp)); clear h
    intro u h; obtain rfl := Eq.symm (h (by simp)); clear h
    intro u h; obtain rfl := Eq.symm (h (by simp)); clear h
    refine relyEnd_nil rfl ?_
    refine wpList_end rfl ?_
    simp only [Act.put, List.setIfInBounds_toArray, List.set_cons_zero, List.set_cons_succ]
    go_simp
    replace HTK := Lib.hid (HTK.out.new k3)
    replace R8 := Lib.hid (k3.row R8.out)
    replace HR := Lib.hid (RT.trans _ _ _ HR.out (RT.new (by have := HR.out.size; have := HG.out; omega) k3))
    clear k3 HSP
    go_upto_region 5 with fail
    refine wp_region_lit ?_
    refine wpList_plain rfl (fun K hK => ?_)
    refine opr_move (.inl rfl) (hK _ _ ?_)
    clear hK K
    refine wpList_plain rfl (fun K hK => ?_)
    refine opr_callv (cap := #[.pointer (some ⟨g, 0, none⟩)]) rfl rfl Tryd.func46 (by kernel_rfl) (by kernel_rfl) (vs := #[.pointer (some ⟨g, 0, none⟩)]) (by simp only [List.map_toArray, List.map_nil]; rfl) ((takeB_ok g k path d _ HTK.out HD.out HK.out).mono ?_)
    rintro e w4 ⟨rfl, hR4, hk4⟩
    refine ⟨_, rfl, hK _ _ ?_⟩
    clear hK K
    simp only [Act.put, List.setIfInBounds_toArray, List.set_cons_zero, List.set_cons_succ]
    refine wpList_new (n := 32) rfl rfl rfl rfl rfl rfl (by simp) run_alloc_hash info31 (fun _ => rfl) rfl ?_
    intro w5 hn5 r5
    refine wpList_end rfl ?_
    simp only [Act.put, List.setIfInBounds_toArray, List.set_cons_zero, List.set_cons_succ]
    go_simp
    have hg := HG.out
    obtain ⟨p11, hp11⟩ : ∃ p, w4.heap.size = p := ⟨_, rfl⟩
    rw [hp11] at r5 ⊢
    have hge : g < p11 := by have := hk4.lt; omega
    have R11 := Lib.hid r5
    replace R8 := Lib.hid (hn5.row (hR4.row (by omega) R8.out))
    replace HTK := Lib.hid (hk4.new hn5)
    replace HR := Lib.hid (RT.trans _ _ _ HR.out (RT.trans _ _ _ hR4 (RT.new hk4.lt hn5)))
    clear hk4 hR4 r5 hn5 HD HK hp11
    have t5 : (m : Int) ≤ (s : Int) := by omega
    go_upto_region 7 with fail
    clear t5
    refine wp_region_lit ?_
    refine wpList_plain rfl (fun K hK => ?_)
    refine opr_move (.inl rfl) (hK _ _ ?_)
    clear hK K
    refine wpList_plain rfl (fun K hK => ?_)
    refine opr_move (.inl rfl) (hK _ _ ?_)
    clear hK K
    refine wpList_plain rfl (fun K hK => ?_)
    refine opr_move (.inl rfl) (hK _ _ ?_)
    clear hK K
    refine wpList_plain rfl (fun K hK => ?_)
    refine opr_move (.inl rfl) (hK _ _ ?_)
    clear hK K
    simp only [Act.put, List.setIfInBounds_toArray, List.set_cons_zero, List.set_cons_succ]
    refine wpList_plain rfl (fun K hK => ?_)
    refine opr_call (vs := #[.int .i64 (m : Int), .int .i64 (s : Int), wv, .func (.func 46) #[] #[.pointer (some ⟨g, 0, none⟩)]]) rfl Tryd.func35 (by kernel_rfl) (by kernel_rfl) (by simp only [List.map_toArray, List.map_cons, List.map_nil]; rfl) ((IH.out w5 HR.out HTK.out).mono ?_)
    rintro e w6 ⟨rfl, hR6, hk6⟩
    refine ⟨_, rfl, hK _ _ ?_⟩
    clear hK K
    simp only [Act.put, List.setIfInBounds_toArray, List.set_cons_zero, List.set_cons_succ]
    refine wpList_new (n := 64) rfl rfl rfl rfl rfl rfl (by simp) run_alloc_roots infoB (rtF_one _ _) rfl ?_
    intro w7 hn7 r12
    refine wpList_end rfl ?_
    simp only [Act.put, List.setIfInBounds_toArray, List.set_cons_zero, List.set_cons_succ]
    go_simp
    obtain ⟨p12, hp12⟩ : ∃ p, w6.heap.size = p := ⟨_, rfl⟩
    rw [hp12] at r12 ⊢
    have R12 := Lib.hid r12
    replace R8 := Lib.hid (hn7.row (hR6.row (by omega) R8.out))
    replace R11 := Lib.hid (hn7.row (hR6.row (by omega) R11.out))
    replace HTK := Lib.hid (hk6.new hn7)
    replace HR := Lib.hid (RT.trans _ _ _ HR.out (RT.trans _ _ _ hR6 (RT.new hk6.lt hn7)))
    clear hk6 hR6 r12 hn7 hp12 IH
    go_upto_region 8 with fail
    refine wp_region_rely (NewT) [SV.eq (.pointer (some ⟨p12, 0, none⟩)), SV.eq (.agg (rowA 32 (bF (p)))), SV.eq (.pointer (some ⟨p12, 32, none⟩)), SV.eq (.agg (rowA 32 (bF (q)))), SV.eq (.agg (rowA 32 (bF (d)))), SV.eq (.agg (rowA 32 (bF (node (q) (d))))), SV.eq ((.agg (rowA 64 (rtF (p) (node (q) (d))))))] [([(12, none)], none), ([(34, some 0)], none), ([(12, none)], none), ([(36, some 2)], none), ([(11, none)], none), ([(37, some 3), (38, some 4)], none), ([(35, some 1), (39, some 5)], none)] 59 rfl (by kernel_rfl) rfl (by kernel_rfl) (by kernel_rfl) rfl NewT.trans (NewT.drew _) (Nat.le_of_ble_eq_true rfl) ⟨?_, ?_, ?_, ?_, ?_, ?_, ?_, trivial⟩ ?_
    · intro a wx hT hF K hK
      obtain ⟨f12, _⟩ := hF
      have f12 : a.tmps.getD 12 undef = .pointer (some ⟨p12, 0, none⟩) := f12
      refine rely_wp rfl ?_
      exact opr_fldB0 rfl f12 (hK _ _ (NewT.refl _) rfl)
    · intro a wx hT hF K hK
      obtain ⟨f34, _⟩ := hF
      have f34 : a.tmps.getD 34 undef = .pointer (some ⟨p12, 0, none⟩) := f34
      refine rely_wp rfl ?_
      exact opr_ldH (hT.row R12.out) (by decide) (rtF_0 _ _) rfl f34 (hK _ _ (NewT.refl _) rfl)
    · intro a wx hT hF K hK
      obtain ⟨f12, _⟩ := hF
      have f12 : a.tmps.getD 12 undef = .pointer (some ⟨p12, 0, none⟩) := f12
      refine rely_wp rfl ?_
      exact opr_fldB1 rfl f12 (hK _ _ (NewT.refl _) rfl)
    · intro a wx hT hF K hK
      obtain ⟨f36, _⟩ := hF
      have f36 : a.tmps.getD 36 undef = .pointer (some ⟨p12, 32, none⟩) := f36
      refine rely_wp rfl ?_
      exact opr_ldH (hT.row R12.out) (by decide) (rtF_1 _ _) rfl f36 (hK _ _ (NewT.refl _) rfl)
    · intro a wx hT hF K hK
      obtain ⟨f11, _⟩ := hF
      have f11 : a.tmps.getD 11 undef = .pointer (some ⟨p11, 0, none⟩) := f11
      refine rely_wp rfl ?_
      exact opr_load_hash rfl f11 (hT.row R11.out) (hK _ _ (NewT.refl _) rfl)
    · intro a wx hT hF K hK
      obtain ⟨f37, f38, _⟩ := hF
      have f37 : a.tmps.getD 37 undef = .agg (rowA 32 (bF (q))) := f37
      have f38 : a.tmps.getD 38 undef = .agg (rowA 32 (bF (d))) := f38
      refine rely_wp rfl ?_
      exact opr_cv (Node_cv hX (q) (d) wx (hT.tables HTK.out.tables)) rfl Tryd.func41 (by kernel_rfl) (by kernel_rfl) (by simp only [List.map_toArray, List.map_cons, List.map_nil, eval_tmp, f37, f38]) hK
    · intro a wx hT hF K hK
      obtain ⟨f35, f39, _⟩ := hF
      have f35 : a.tmps.getD 35 undef = .agg (rowA 32 (bF (p))) := f35
      have f39 : a.tmps.getD 39 undef = .agg (rowA 32 (bF (node (q) (d)))) := f39
      refine rely_wp rfl ?_
      exact opr_bldB rfl f35 f39 (hK _ _ (NewT.refl _) rfl)
    · intro w8 hT
      intro u h; obtain rfl := Eq.symm (h (by simp)); clear h
      intro u h; obtain rfl := Eq.symm (h (by simp)); clear h
      intro u h; obtain rfl := Eq.symm (h (by simp)); clear h
      intro u h; obtain rfl := Eq.symm (h (by simp)); clear h
      intro u h; obtain rfl := Eq.symm (h (by simp)); clear h
      intro u h; obtain rfl := Eq.symm (h (by simp)); clear h
      intro u h; obtain rfl := Eq.symm (h (by simp)); clear h
      refine relyEnd_nil rfl ?_
      simp only [Act.put, List.setIfInBounds_toArray, List.set_cons_zero, List.set_cons_succ]
      refine opr_putm (F := rtF (p) (node q d)) rfl rfl rfl (hT.row R8.out) (by decide) infoB (rtF_one _ _) (fun i hi => by rw [if_pos (by omega), Nat.sub_zero]) ?_
      intro w9 hR9 r9
      go_simp
      go_wp2
      exact bodyPost_ret (results_agg rfl _ rfl r9 Tryd.underlying51 rfl infoB) rfl ⟨rfl, RT.late2 (RT.trans _ _ _ HR.out (RT.new (by have := HTK.out.lt; omega) hT)) (Nat.le_refl _) HG.out hR9, TkAt.late (HTK.out.new hT) hR9 HG.out⟩
set_option maxRecDepth 20000 in
set_option maxHeartbeats 4000000 in
theorem rootsAbove_ln (d : Hs) (m n s g k : Nat) (wv : Value) (path : List Hs) (w : World) (hmn : m < n) (hn2 : n ≤ 1048576) (hsn : s < n) (hsi : m ≤ s) (hs : ∀ w, Cv 40 #[.int .i64 (n : Int)] w (.eq (.int .i64 (s : Int)))) (h : TkAt w g path (k + 1)) (hd : path[k]? = some d) (hk : k ≤ 1000000)
    (ih : ∀ w', RT g w w' → TkAt w' g path k → Calls Tryd.prog 35 #[.int .i64 (m : Int), .int .i64 (s : Int), wv, .func (.func 46) #[] #[.pointer (some ⟨g, 0, none⟩)]] w' fun e w'' => e = .panicked fewP ∧ RT g w' w'') :
    Calls Tryd.prog 35 #[.int .i64 (m : Int), .int .i64 (n : Int), wv, .func (.func 46) #[] #[.pointer (some ⟨g, 0, none⟩)]] w fun e w' => e = .panicked fewP ∧ RT g w w' := by
  have HD := Lib.hid hd
  have HK := Lib.hid hk
  have IH := Lib.hid ih
  clear hd hk ih
  have HG := Lib.hid h.lt
  have HTK := Lib.hid h
  have HSP := Lib.hid hs
  have t1 : ((m : Int) == (n : Int)) = false := beq_eq_false_iff_ne.2 (by omega)
  clear h hs
  go_enter Tryd.func35, Tryd.ntmps35
  go_upto_region 4 with fail
  have r8 := rowIs_box w 51 64 (rtF (fun _ => 0) (fun _ => 0))
  have hN : NewT w (w.alloc (.cells (rowA 64 (rtF (fun _ => 0) (fun _ => 0))) 51)) := (NewT.alloc _ _)
  change Code.wp _ _ _ _ (w.alloc (.cells (rowA 64 (rtF (fun _ => 0) (fun _ => 0))) 51))
  generalize (w.alloc (.cells (rowA 64 (rtF (fun _ => 0) (fun _ => 0))) 51)) = W0 at r8 hN ⊢
  have R8 := Lib.hid r8
  have HR := Lib.hid (RT.new HG.out hN)
  replace HTK := Lib.hid (HTK.out.new hN)
  clear r8 hN t1
  refine wp_region_steps0 NewT [SV.eq (.int .i64 ((n : Int))), SV.eq (.int .i64 ((s : Int))), SV.eq (.int .i64 ((s : Int)))] [([(1, none)], none), ([(22, some 0)], none), ([(23, some 1)], none)] 59 3 rfl rfl (by kernel_rfl) NewT.trans (NewT.refl _) (Nat.le_of_ble_eq_true rfl) ⟨?_, ?_, ?_, trivial⟩ ?_
  · intro a wx hT hF K hK
    obtain ⟨f1, _⟩ := hF
    have f1 : a.tmps.getD 1 undef = .int .i64 ((n : Int)) := f1
    refine rely_wp rfl ?_
    exact opr_move (.inl rfl) (hK _ _ (NewT.refl _) f1)
  · intro a wx hT hF K hK
    obtain ⟨f22, _⟩ := hF
    have f22 : a.tmps.getD 22 undef = .int .i64 ((n : Int)) := f22
    refine rely_wp rfl ?_
    exact opr_cv (HSP.out wx) rfl Tryd.func40 (by kernel_rfl) (by kernel_rfl) (by simp only [List.map_toArray, List.map_cons, List.map_nil, eval_tmp, f22]) hK
  · intro a wx hT hF K hK
    obtain ⟨f23, _⟩ := hF
    have f23 : a.tmps.getD 23 undef = .int .i64 ((s : Int)) := f23
    refine rely_wp rfl ?_
    exact opr_move (.inr rfl) (hK _ _ (NewT.refl _) f23)
  · intro w3 k3
    intro u h; obtain rfl := Eq.symm (h (by simp)); clear h
    intro u h; obtain rfl := Eq.symm (h (by simp)); clear h
    intro u h; obtain rfl := Eq.symm (h (by simp)); clear h
    refine relyEnd_nil rfl ?_
    refine wpList_end rfl ?_
    simp only [Act.put, List.setIfInBounds_toArray, List.set_cons_zero, List.set_cons_succ]
    go_simp
    replace HTK := Lib.hid (HTK.out.new k3)
    replace R8 := Lib.hid (k3.row R8.out)
    replace HR := Lib.hid (RT.trans _ _ _ HR.out (RT.new (by have := HR.out.size; have := HG.out; omega) k3))
    clear k3 HSP
    go_upto_region 5 with fail
    refine wp_region_lit ?_
    refine wpList_plain rfl (fun K hK => ?_)
    refine opr_move (.inl rfl) (hK _ _ ?_)
    clear hK K
    refine wpList_plain rfl (fun K hK => ?_)
    refine opr_callv (cap := #[.pointer (some ⟨g, 0, none⟩)]) rfl rfl Tryd.func46 (by kernel_rfl) (by kernel_rfl) (vs := #[.pointer (some ⟨g, 0, none⟩)]) (by simp only [List.map_toArray, List.map_nil]; rfl) ((takeB_ok g k path d _ HTK.out HD.out HK.out).mono ?_)
    rintro e w4 ⟨rfl, hR4, hk4⟩
    refine ⟨_, rfl, hK _ _ ?_⟩
    clear hK K
    simp only [Act.put, List.setIfInBounds_toArray, List.set_cons_zero, List.set_cons_succ]
    refine wpList_new (n := 32) rfl rfl rfl rfl rfl rfl (by simp) run_alloc_hash info31 (fun _ => rfl) rfl ?_
    intro w5 hn5 r5
    refine wpList_end rfl ?_
    simp only [Act.put, List.setIfInBounds_toArray, List.set_cons_zero, List.set_cons_succ]
    go_simp
    have hg := HG.out
    obtain ⟨p11, hp11⟩ : ∃ p, w4.heap.size = p := ⟨_, rfl⟩
    rw [hp11] at r5 ⊢
    have hge : g < p11 := by have := hk4.lt; omega
    have R11 := Lib.hid r5
    replace R8 := Lib.hid (hn5.row (hR4.row (by omega) R8.out))
    replace HTK := Lib.hid (hk4.new hn5)
    replace HR := Lib.hid (RT.trans _ _ _ HR.out (RT.trans _ _ _ hR4 (RT.new hk4.lt hn5)))
    clear hk4 hR4 r5 hn5 HD HK hp11
    have t5 : (m : Int) ≤ (s : Int) := by omega
    go_upto_region 7 with fail
    clear t5
    refine wp_region_lit ?_
    refine wpList_plain rfl (fun K hK => ?_)
    refine opr_move (.inl rfl) (hK _ _ ?_)
    clear hK K
    refine wpList_plain rfl (fun K hK => ?_)
    refine opr_move (.inl rfl) (hK _ _ ?_)
    clear hK K
    refine wpList_plain rfl (fun K hK => ?_)
    refine opr_move (.inl rfl) (hK _ _ ?_)
    clear hK K
    refine wpList_plain rfl (fun K hK => ?_)
    refine opr_move (.inl rfl) (hK _ _ ?_)
    clear hK K
    simp only [Act.put, List.setIfInBounds_toArray, List.set_cons_zero, List.set_cons_succ]
    refine wpList_plain rfl (fun K hK => ?_)
    refine opr_callP (vs := #[.int .i64 (m : Int), .int .i64 (s : Int), wv, .func (.func 46) #[] #[.pointer (some ⟨g, 0, none⟩)]]) rfl Tryd.func35 (by kernel_rfl) (by kernel_rfl) (by simp only [List.map_toArray, List.map_cons, List.map_nil]; rfl) ((IH.out w5 HR.out HTK.out).mono ?_)
    rintro e w6 ⟨rfl, hR6⟩
    exact ⟨_, rfl, rfl, rfl, RT.trans _ _ _ HR.out hR6⟩
set_option maxRecDepth 20000 in
set_option maxHeartbeats 4000000 in
theorem rootsAbove_rk {node : Hs → Hs → Hs} {z : Hs} (hX : TreeH node z) (p q d : Hs) (m n s g k kk : Nat) (wv : Value) (path : List Hs) (w : World) (hmn : m < n) (hn2 : n ≤ 1048576) (hsn : s < n) (hsi : ¬ m ≤ s) (hs : ∀ w, Cv 40 #[.int .i64 (n : Int)] w (.eq (.int .i64 (s : Int)))) (h : TkAt w g path (k + 1)) (hd : path[k]? = some d) (hk : k ≤ 1000000)
    (ih : ∀ w', RT g w w' → TkAt w' g path k → Calls Tryd.prog 35 #[.int .i64 ((m - s : Nat) : Int), .int .i64 ((n - s : Nat) : Int), .func (.func 46) #[] #[.pointer (some ⟨g, 0, none⟩)], .func (.func 46) #[] #[.pointer (some ⟨g, 0, none⟩)]] w' fun e w'' => e = .returned (.agg (rowA 64 (rtF p q))) ∧ RT g w' w'' ∧ TkAt w'' g path kk) :
    Calls Tryd.prog 35 #[.int .i64 (m : Int), .int .i64 (n : Int), wv, .func (.func 46) #[] #[.pointer (some ⟨g, 0, none⟩)]] w fun e w' => e = .returned (.agg (rowA 64 (rtF (node d p) (node d q)))) ∧ RT g w w' ∧ TkAt w' g path kk := by
  have HD := Lib.hid hd
  have HK := Lib.hid hk
  have IH := Lib.hid ih
  clear hd hk ih
  have HG := Lib.hid h.lt
  have HTK := Lib.hid h
  have HSP := Lib.hid hs
  have t1 : ((m : Int) == (n : Int)) = false := beq_eq_false_iff_ne.2 (by omega)
  clear h hs
  go_enter Tryd.func35, Tryd.ntmps35
  go_upto_region 4 with fail
  have r8 := rowIs_box w 51 64 (rtF (fun _ => 0) (fun _ => 0))
  have hN : NewT w (w.alloc (.cells (rowA 64 (rtF (fun _ => 0) (fun _ => 0))) 51)) := (NewT.alloc _ _)
  change Code.wp _ _ _ _ (w.alloc (.cells (rowA 64 (rtF (fun _ => 0) (fun _ => 0))) 51))
  generalize (w.alloc (.cells (rowA 64 (rtF (fun _ => 0) (fun _ => 0))) 51)) = W0 at r8 hN ⊢
  have R8 := Lib.hid r8
  have HR := Lib.hid (RT.new HG.out hN)
  replace HTK := Lib.hid (HTK.out.new hN)
  clear r8 hN t1
  refine wp_region_steps0 NewT [SV.eq (.int .i64 ((n : Int))), SV.eq (.int .i64 ((s : Int))), SV.eq (.int .i64 ((s : Int)))] [([(1, none)], none), ([(22, some 0)], none), ([(23, some 1)], none)] 59 3 rfl rfl (by kernel_rfl) NewT.trans (NewT.refl _) (Nat.le_of_ble_eq_true rfl) ⟨?_, ?_, ?_, trivial⟩ ?_
  · intro a wx hT hF K hK
    obtain ⟨f1, _⟩ := hF
    have f1 : a.tmps.getD 1 undef = .int .i64 ((n : Int)) := f1
    refine rely_wp rfl ?_
    exact opr_move (.inl rfl) (hK _ _ (NewT.refl _) f1)
  · intro a wx hT hF K hK
    obtain ⟨f22, _⟩ := hF
    have f22 : a.tmps.getD 22 undef = .int .i64 ((n : Int)) := f22
    refine rely_wp rfl ?_
    exact opr_cv (HSP.out wx) rfl Tryd.func40 (by kernel_rfl) (by kernel_rfl) (by simp only [List.map_toArray, List.map_cons, List.map_nil, eval_tmp, f22]) hK
  · intro a wx hT hF K hK
    obtain ⟨f23, _⟩ := hF
    have f23 : a.tmps.getD 23 undef = .int .i64 ((s : Int)) := f23
    refine rely_wp rfl ?_
    exact opr_move (.inr rfl) (hK _ _ (NewT.refl _) f23)
  · intro w3 k3
    intro u h; obtain rfl := Eq.symm (h (by simp)); clear h
    intro u h; obtain rfl := Eq.symm (h (by simp)); clear h
    intro u h; obtain rfl := Eq.symm (h (by simp)); clear h
    refine relyEnd_nil rfl ?_
    refine wpList_end rfl ?_
    simp only [Act.put, List.setIfInBounds_toArray, List.set_cons_zero, List.set_cons_succ]
    go_simp
    replace HTK := Lib.hid (HTK.out.new k3)
    replace R8 := Lib.hid (k3.row R8.out)
    replace HR := Lib.hid (RT.trans _ _ _ HR.out (RT.new (by have := HR.out.size; have := HG.out; omega) k3))
    clear k3 HSP
    go_upto_region 5 with fail
    refine wp_region_lit ?_
    refine wpList_plain rfl (fun K hK => ?_)
    refine opr_move (.inl rfl) (hK _ _ ?_)
    clear hK K
    refine wpList_plain rfl (fun K hK => ?_)
    refine opr_callv (cap := #[.pointer (some ⟨g, 0, none⟩)]) rfl rfl Tryd.func46 (by kernel_rfl) (by kernel_rfl) (vs := #[.pointer (some ⟨g, 0, none⟩)]) (by simp only [List.map_toArray, List.map_nil]; rfl) ((takeB_ok g k path d _ HTK.out HD.out HK.out).mono ?_)
    rintro e w4 ⟨rfl, hR4, hk4⟩
    refine ⟨_, rfl, hK _ _ ?_⟩
    clear hK K
    simp only [Act.put, List.setIfInBounds_toArray, List.set_cons_zero, List.set_cons_succ]
    refine wpList_new (n := 32) rfl rfl rfl rfl rfl rfl (by simp) run_alloc_hash info31 (fun _ => rfl) rfl ?_
    intro w5 hn5 r5
    refine wpList_end rfl ?_
    simp only [Act.put, List.setIfInBounds_toArray, List.set_cons_zero, List.set_cons_succ]
    go_simp
    have hg := HG.out
    obtain ⟨p11, hp11⟩ : ∃ p, w4.heap.size = p := ⟨_, rfl⟩
    rw [hp11] at r5 ⊢
    have hge : g < p11 := by have := hk4.lt; omega
    have R11 := Lib.hid r5
    replace R8 := Lib.hid (hn5.row (hR4.row (by omega) R8.out))
    replace HTK := Lib.hid (hk4.new hn5)
    replace HR := Lib.hid (RT.trans _ _ _ HR.out (RT.trans _ _ _ hR4 (RT.new hk4.lt hn5)))
    clear hk4 hR4 r5 hn5 HD HK hp11
    have t5 : ¬ (m : Int) ≤ (s : Int) := by omega
    go_upto_region 9 with fail
    clear t5
    refine wp_region_lit ?_
    refine wpList_plain rfl (fun K hK => ?_)
    refine opr_move (.inl rfl) (hK _ _ ?_)
    clear hK K
    refine wpList_plain rfl (fun K hK => ?_)
    refine opr_move (.inl rfl) (hK _ _ ?_)
    clear hK K
    simp only [Act.put, List.setIfInBounds_toArray, List.set_cons_zero, List.set_cons_succ]
    refine wpList_plain rfl (fun K hK => ?_)
    refine opr_sub (r := ((m - s : Nat) : Int)) Tryd.underlying3 (by unfold wrap64; omega) rfl rfl rfl (hK _ _ ?_)
    clear hK K
    refine wpList_plain rfl (fun K hK => ?_)
    refine opr_move (.inl rfl) (hK _ _ ?_)
    clear hK K
    refine wpList_plain rfl (fun K hK => ?_)
    refine opr_move (.inl rfl) (hK _ _ ?_)
    clear hK K
    simp only [Act.put, List.setIfInBounds_toArray, List.set_cons_zero, List.set_cons_succ]
    refine wpList_plain rfl (fun K hK => ?_)
    refine opr_sub (r := ((n - s : Nat) : Int)) Tryd.underlying3 (by unfold wrap64; omega) rfl rfl rfl (hK _ _ ?_)
    clear hK K
    refine wpList_plain rfl (fun K hK => ?_)
    refine opr_move (.inl rfl) (hK _ _ ?_)
    clear hK K
    refine wpList_plain rfl (fun K hK => ?_)
    refine opr_move (.inl rfl) (hK _ _ ?_)
    clear hK K
    simp only [Act.put, List.setIfInBounds_toArray, List.set_cons_zero, List.set_cons_succ]
    refine wpList_plain rfl (fun K hK => ?_)
    refine opr_call (vs := #[.int .i64 ((m - s : Nat) : Int), .int .i64 ((n - s : Nat) : Int), .func (.func 46) #[] #[.pointer (some ⟨g, 0, none⟩)], .func (.func 46) #[] #[.pointer (some ⟨g, 0, none⟩)]]) rfl Tryd.func35 (by kernel_rfl) (by kernel_rfl) (by simp only [List.map_toArray, List.map_cons, List.map_nil]; rfl) ((IH.out w5 HR.out HTK.out).mono ?_)
    rintro e w6 ⟨rfl, hR6, hk6⟩
    refine ⟨_, rfl, hK _ _ ?_⟩
    clear hK K
    simp only [Act.put, List.setIfInBounds_toArray, List.set_cons_zero, List.set_cons_succ]
    refine wpList_new (n := 64) rfl rfl rfl rfl rfl rfl (by simp) run_alloc_roots infoB (rtF_one _ _) rfl ?_
    intro w7 hn7 r12
    refine wpList_end rfl ?_
    simp only [Act.put, List.setIfInBounds_toArray, List.set_cons_zero, List.set_cons_succ]
    go_simp
    obtain ⟨p12, hp12⟩ : ∃ p, w6.heap.size = p := ⟨_, rfl⟩
    rw [hp12] at r12 ⊢
    have R12 := Lib.hid r12
    replace R8 := Lib.hid (hn7.row (hR6.row (by omega) R8.out))
    replace R11 := Lib.hid (hn7.row (hR6.row (by omega) R11.out))
    replace HTK := Lib.hid (hk6.new hn7)
    replace HR := Lib.hid (RT.trans _ _ _ HR.out (RT.trans _ _ _ hR6 (RT.new hk6.lt hn7)))
    clear hk6 hR6 r12 hn7 hp12 IH
    go_upto_region 10 with fail
    refine wp_region_rely (NewT) [SV.eq (.agg (rowA 32 (bF (d)))), SV.eq (.pointer (some ⟨p12, 0, none⟩)), SV.eq (.agg (rowA 32 (bF (p)))), SV.eq (.agg (rowA 32 (bF (node (d) (p))))), SV.eq (.agg (rowA 32 (bF (d)))), SV.eq (.pointer (some ⟨p12, 32, none⟩)), SV.eq (.agg (rowA 32 (bF (q)))), SV.eq (.agg (rowA 32 (bF (node (d) (q))))), SV.eq ((.agg (rowA 64 (rtF (node (d) (p)) (node (d) (q))))))] [([(11, none)], none), ([(13, none)], none), ([(51, some 1)], none), ([(50, some 0), (52, some 2)], none), ([(11, none)], none), ([(13, none)], none), ([(55, some 5)], none), ([(54, some 4), (56, some 6)], none), ([(53, some 3), (57, some 7)], none)] 59 rfl (by kernel_rfl) rfl (by kernel_rfl) (by kernel_rfl) rfl NewT.trans (NewT.drew _) (Nat.le_of_ble_eq_true rfl) ⟨?_, ?_, ?_, ?_, ?_, ?_, ?_, ?_, ?_, trivial⟩ ?_
    · intro a wx hT hF K hK
      obtain ⟨f11, _⟩ := hF
      have f11 : a.tmps.getD 11 undef = .pointer (some ⟨p11, 0, none⟩) := f11
      refine rely_wp rfl ?_
      exact opr_load_hash rfl f11 (hT.row R11.out) (hK _ _ (NewT.refl _) rfl)
    · intro a wx hT hF K hK
      obtain ⟨f13, _⟩ := hF
      have f13 : a.tmps.getD 13 undef = .pointer (some ⟨p12, 0, none⟩) := f13
      refine rely_wp rfl ?_
      exact opr_fldB0 rfl f13 (hK _ _ (NewT.refl _) rfl)
    · intro a wx hT hF K hK
      obtain ⟨f51, _⟩ := hF
      have f51 : a.tmps.getD 51 undef = .pointer (some ⟨p12, 0, none⟩) := f51
      refine rely_wp rfl ?_
      exact opr_ldH (hT.row R12.out) (by decide) (rtF_0 _ _) rfl f51 (hK _ _ (NewT.refl _) rfl)
    · intro a wx hT hF K hK
      obtain ⟨f50, f52, _⟩ := hF
      have f50 : a.tmps.getD 50 undef = .agg (rowA 32 (bF (d))) := f50
      have f52 : a.tmps.getD 52 undef = .agg (rowA 32 (bF (p))) := f52
      refine rely_wp rfl ?_
      exact opr_cv (Node_cv hX (d) (p) wx (hT.tables HTK.out.tables)) rfl Tryd.func41 (by kernel_rfl) (by kernel_rfl) (by simp only [List.map_toArray, List.map_cons, List.map_nil, eval_tmp, f50, f52]) hK
    · intro a wx hT hF K hK
      obtain ⟨f11, _⟩ := hF
      have f11 : a.tmps.getD 11 undef = .pointer (some ⟨p11, 0, none⟩) := f11
      refine rely_wp rfl ?_
      exact opr_load_hash rfl f11 (hT.row R11.out) (hK _ _ (NewT.refl _) rfl)
    · intro a wx hT hF K hK
      obtain ⟨f13, _⟩ := hF
      have f13 : a.tmps.getD 13 undef = .pointer (some ⟨p12, 0, none⟩) := f13
      refine rely_wp rfl ?_
      exact opr_fldB1 rfl f13 (hK _ _ (NewT.refl _) rfl)
    · intro a wx hT hF K hK
      obtain ⟨f55, _⟩ := hF
      have f55 : a.tmps.getD 55 undef = .pointer (some ⟨p12, 32, none⟩) := f55
      refine rely_wp rfl ?_
      exact opr_ldH (hT.row R12.out) (by decide) (rtF_1 _ _) rfl f55 (hK _ _ (NewT.refl _) rfl)
    · intro a wx hT hF K hK
      obtain ⟨f54, f56, _⟩ := hF
      have f54 : a.tmps.getD 54 undef = .agg (rowA 32 (bF (d))) := f54
      have f56 : a.tmps.getD 56 undef = .agg (rowA 32 (bF (q))) := f56
      refine rely_wp rfl ?_
      exact opr_cv (Node_cv hX (d) (q) wx (hT.tables HTK.out.tables)) rfl Tryd.func41 (by kernel_rfl) (by kernel_rfl) (by simp only [List.map_toArray, List.map_cons, List.map_nil, eval_tmp, f54, f56]) hK
    · intro a wx hT hF K hK
      obtain ⟨f53, f57, _⟩ := hF
      have f53 : a.tmps.getD 53 undef = .agg (rowA 32 (bF (node (d) (p)))) := f53
      have f57 : a.tmps.getD 57 undef = .agg (rowA 32 (bF (node (d) (q)))) := f57
      refine rely_wp rfl ?_
      exact opr_bldB rfl f53 f57 (hK _ _ (NewT.refl _) rfl)
    · intro w8 hT
      intro u h; obtain rfl := Eq.symm (h (by simp)); clear h
      intro u h; obtain rfl := Eq.symm (h (by simp)); clear h
      intro u h; obtain rfl := Eq.symm (h (by simp)); clear h
      intro u h; obtain rfl := Eq.symm (h (by simp)); clear h
      intro u h; obtain rfl := Eq.symm (h (by simp)); clear h
      intro u h; obtain rfl := Eq.symm (h (by simp)); clear h
      intro u h; obtain rfl := Eq.symm (h (by simp)); clear h
      intro u h; obtain rfl := Eq.symm (h (by simp)); clear h
      intro u h; obtain rfl := Eq.symm (h (by simp)); clear h
      refine relyEnd_nil rfl ?_
      simp only [Act.put, List.setIfInBounds_toArray, List.set_cons_zero, List.set_cons_succ]
      refine opr_putm (F := rtF (node d p) (node d q)) rfl rfl rfl (hT.row R8.out) (by decide) infoB (rtF_one _ _) (fun i hi => by rw [if_pos (by omega), Nat.sub_zero]) ?_
      intro w9 hR9 r9
      go_simp
      go_wp2
      exact bodyPost_ret (results_agg rfl _ rfl r9 Tryd.underlying51 rfl infoB) rfl ⟨rfl, RT.late2 (RT.trans _ _ _ HR.out (RT.new (by have := HTK.out.lt; omega) hT)) (Nat.le_refl _) HG.out hR9, TkAt.late (HTK.out.new hT) hR9 HG.out⟩
set_option maxRecDepth 20000 in
set_option maxHeartbeats 4000000 in
theorem rootsAbove_rn (d : Hs) (m n s g k : Nat) (wv : Value) (path : List Hs) (w : World) (hmn : m < n) (hn2 : n ≤ 1048576) (hsn : s < n) (hsi : ¬ m ≤ s) (hs : ∀ w, Cv 40 #[.int .i64 (n : Int)] w (.eq (.int .i64 (s : Int)))) (h : TkAt w g path (k + 1)) (hd : path[k]? = some d) (hk : k ≤ 1000000)
    (ih : ∀ w', RT g w w' → TkAt w' g path k → Calls Tryd.prog 35 #[.int .i64 ((m - s : Nat) : Int), .int .i64 ((n - s : Nat) : Int), .func (.func 46) #[] #[.pointer (some ⟨g, 0, none⟩)], .func (.func 46) #[] #[.pointer (some ⟨g, 0, none⟩)]] w' fun e w'' => e = .panicked fewP ∧ RT g w' w'') :
    Calls Tryd.prog 35 #[.int .i64 (m : Int), .int .i64 (n : Int), wv, .func (.func 46) #[] #[.pointer (some ⟨g, 0, none⟩)]] w fun e w' => e = .panicked fewP ∧ RT g w w' := by
  have HD := Lib.hid hd
  have HK := Lib.hid hk
  have IH := Lib.hid ih
  clear hd hk ih
  have HG := Lib.hid h.lt
  have HTK := Lib.hid h
  have HSP := Lib.hid hs
  have t1 : ((m : Int) == (n : Int)) = false := beq_eq_false_iff_ne.2 (by omega)
  clear h hs
  go_enter Tryd.func35, Tryd.ntmps35
  go_upto_region 4 with fail
  have r8 := rowIs_box w 51 64 (rtF (fun _ => 0) (fun _ => 0))
  have hN : NewT w (w.alloc (.cells (rowA 64 (rtF (fun _ => 0) (fun _ => 0))) 51)) := (NewT.alloc _ _)
  change Code.wp _ _ _ _ (w.alloc (.cells (rowA 64 (rtF (fun _ => 0) (fun _ => 0))) 51))
  generalize (w.alloc (.cells (rowA 64 (rtF (fun _ => 0) (fun _ => 0))) 51)) = W0 at r8 hN ⊢
  have R8 := Lib.hid r8
  have HR := Lib.hid (RT.new HG.out hN)
  replace HTK := Lib.hid (HTK.out.new hN)
  clear r8 hN t1
  refine wp_region_steps0 NewT [SV.eq (.int .i64 ((n : Int))), SV.eq (.int .i64 ((s : Int))), SV.eq (.int .i64 ((s : Int)))] [([(1, none)], none), ([(22, some 0)], none), ([(23, some 1)], none)] 59 3 rfl rfl (by kernel_rfl) NewT.trans (NewT.refl _) (Nat.le_of_ble_eq_true rfl) ⟨?_, ?_, ?_, trivial⟩ ?_
  · intro a wx hT hF K hK
    obtain ⟨f1, _⟩ := hF
    have f1 : a.tmps.getD 1 undef = .int .i64 ((n : Int)) := f1
    refine rely_wp rfl ?_
    exact opr_move (.inl rfl) (hK _ _ (NewT.refl _) f1)
  · intro a wx hT hF K hK
    obtain ⟨f22, _⟩ := hF
    have f22 : a.tmps.getD 22 undef = .int .i64 ((n : Int)) := f22
    refine rely_wp rfl ?_
    exact opr_cv (HSP.out wx) rfl Tryd.func40 (by kernel_rfl) (by kernel_rfl) (by simp only [List.map_toArray, List.map_cons, List.map_nil, eval_tmp, f22]) hK
  · intro a wx hT hF K hK
    obtain ⟨f23, _⟩ := hF
    have f23 : a.tmps.getD 23 undef = .int .i64 ((s : Int)) := f23
    refine rely_wp rfl ?_
    exact opr_move (.inr rfl) (hK _ _ (NewT.refl _) f23)
  · intro w3 k3
    intro u h; obtain rfl := Eq.symm (h (by simp)); clear h
    intro u h; obtain rfl := Eq.symm (h (by simp)); clear h
    intro u h; obtain rfl := Eq.symm (h (by simp)); clear h
    refine relyEnd_nil rfl ?_
    refine wpList_end rfl ?_
    simp only [Act.put, List.setIfInBounds_toArray, List.set_cons_zero, List.set_cons_succ]
    go_simp
    replace HTK := Lib.hid (HTK.out.new k3)
    replace R8 := Lib.hid (k3.row R8.out)
    replace HR := Lib.hid (RT.trans _ _ _ HR.out (RT.new (by have := HR.out.size; have := HG.out; omega) k3))
    clear k3 HSP
    go_upto_region 5 with fail
    refine wp_region_lit ?_
    refine wpList_plain rfl (fun K hK => ?_)
    refine opr_move (.inl rfl) (hK _ _ ?_)
    clear hK K
    refine wpList_plain rfl (fun K hK => ?_)
    refine opr_callv (cap := #[.pointer (some ⟨g, 0, none⟩)]) rfl rfl Tryd.func46 (by kernel_rfl) (by kernel_rfl) (vs := #[.pointer (some ⟨g, 0, none⟩)]) (by simp only [List.map_toArray, List.map_nil]; rfl) ((takeB_ok g k path d _ HTK.out HD.out HK.out).mono ?_)
    rintro e w4 ⟨rfl, hR4, hk4⟩
    refine ⟨_, rfl, hK _ _ ?_⟩
    clear hK K
    simp only [Act.put, List.setIfInBounds_toArray, List.set_cons_zero, List.set_cons_succ]
    refine wpList_new (n := 32) rfl rfl rfl rfl rfl rfl (by simp) run_alloc_hash info31 (fun _ => rfl) rfl ?_
    intro w5 hn5 r5
    refine wpList_end rfl ?_
    simp only [Act.put, List.setIfInBounds_toArray, List.set_cons_zero, List.set_cons_succ]
    go_simp
    have hg := HG.out
    obtain ⟨p11, hp11⟩ : ∃ p, w4.heap.size = p := ⟨_, rfl⟩
    rw [hp11] at r5 ⊢
    have hge : g < p11 := by have := hk4.lt; omega
    have R11 := Lib.hid r5
    replace R8 := Lib.hid (hn5.row (hR4.row (by omega) R8.out))
    replace HTK := Lib.hid (hk4.new hn5)
    replace HR := Lib.hid (RT.trans _ _ _ HR.out (RT.trans _ _ _ hR4 (RT.new hk4.lt hn5)))
    clear hk4 hR4 r5 hn5 HD HK hp11
    have t5 : ¬ (m : Int) ≤ (s : Int) := by omega
    go_upto_region 9 with fail
    clear t5
    refine wp_region_lit ?_
    refine wpList_plain rfl (fun K hK => ?_)
    refine opr_move (.inl rfl) (hK _ _ ?_)
    clear hK K
    refine wpList_plain rfl (fun K hK => ?_)
    refine opr_move (.inl rfl) (hK _ _ ?_)
    clear hK K
    simp only [Act.put, List.setIfInBounds_toArray, List.set_cons_zero, List.set_cons_succ]
    refine wpList_plain rfl (fun K hK => ?_)
    refine opr_sub (r := ((m - s : Nat) : Int)) Tryd.underlying3 (by unfold wrap64; omega) rfl rfl rfl (hK _ _ ?_)
    clear hK K
    refine wpList_plain rfl (fun K hK => ?_)
    refine opr_move (.inl rfl) (hK _ _ ?_)
    clear hK K
    refine wpList_plain rfl (fun K hK => ?_)
    refine opr_move (.inl rfl) (hK _ _ ?_)
    clear hK K
    simp only [Act.put, List.setIfInBounds_toArray, List.set_cons_zero, List.set_cons_succ]
    refine wpList_plain rfl (fun K hK => ?_)
    refine opr_sub (r := ((n - s : Nat) : Int)) Tryd.underlying3 (by unfold wrap64; omega) rfl rfl rfl (hK _ _ ?_)
    clear hK K
    refine wpList_plain rfl (fun K hK => ?_)
    refine opr_move (.inl rfl) (hK _ _ ?_)
    clear hK K
    refine wpList_plain rfl (fun K hK => ?_)
    refine opr_move (.inl rfl) (hK _ _ ?_)
    clear hK K
    simp only [Act.put, List.setIfInBounds_toArray, List.set_cons_zero, List.set_cons_succ]
    refine wpList_plain rfl (fun K hK => ?_)
    refine opr_callP (vs := #[.int .i64 ((m - s : Nat) : Int), .int .i64 ((n - s : Nat) : Int), .func (.func 46) #[] #[.pointer (some ⟨g, 0, none⟩)], .func (.func 46) #[] #[.pointer (some ⟨g, 0, none⟩)]]) rfl Tryd.func35 (by kernel_rfl) (by kernel_rfl) (by simp only [List.map_toArray, List.map_cons, List.map_nil]; rfl) ((IH.out w5 HR.out HTK.out).mono ?_)
    rintro e w6 ⟨rfl, hR6⟩
    exact ⟨_, rfl, rfl, rfl, RT.trans _ _ _ HR.out hR6⟩
end Go.Proofs.YtoigjcadncecpaaDoor
/- The root above a leaf: by as many hashes as it takes, and by fewer. -/
namespace Go.Proofs.YtoigjcadncecpaaDoor
open Go Go.RowKit
set_option maxRecDepth 8000
set_option linter.all false
theorem rootAbove_ok {node : Hs → Hs → Hs} {z : Hs} (hX : TreeH node z) (leaf : Hs) (g : Nat) (path : List Hs) (hl : path.length ≤ 1000000) : ∀ (b n i k : Nat) (w : World), n ≤ b → i < n → n ≤ 1048576 → TkAt w g path k → (leftsM i n).length ≤ k →
    Calls Tryd.prog 31 #[.agg (rowA 32 (bF leaf)), .int .i64 (i : Int), .int .i64 (n : Int), .func (.func 44) #[] #[.pointer (some ⟨g, 0, none⟩)]] w fun e w' => e = .returned (.agg (rowA 32 (bF (upP node leaf i n (winM path k (leftsM i n).length))))) ∧ RT g w w' ∧ TkAt w' g path (k - (leftsM i n).length) := by
  intro b
  induction b with
  | zero => intro n i k w h1 h2; omega
  | succ b ih =>
    intro n i k w hb hi hn h hc
    by_cases h1 : n < 2
    · obtain rfl : n = 1 := by omega
      refine (rootAbove_1 leaf (i : Int) _ w).mono ?_
      rintro e w' ⟨rfl, hN⟩
      rw [leftsM_few _ _ h1]
      refine ⟨by rw [upP_few _ _ _ _ _ h1], RT.new h.lt hN, ?_⟩
      exact h.new hN
    · have h2 : 2 ≤ n := by omega
      obtain ⟨s1, s2, _⟩ := splitN_lt n h2
      have hs : ∀ w, Cv 40 #[.int .i64 (n : Int)] w (.eq (.int .i64 ((splitN n : Nat) : Int))) := fun w => Split_cv (n : Int) (by omega) (by omega) w
      by_cases hil : i < splitN n
      · rw [leftsM_l _ _ h2 hil, List.length_append, List.length_singleton] at hc ⊢
        obtain ⟨k, rfl⟩ : ∃ k', k = k' + 1 := ⟨k - 1, by omega⟩
        have hkl := h.le
        have hd : path[k]? = some path[k] := List.getElem?_eq_getElem (by omega)
        have hlen := winM_length path k (leftsM i (splitN n)).length (by omega) (by omega)
        rw [winM_succ path k _ _ (by omega) hd, upP_l node leaf i n _ _ h2 hil hlen, show k + 1 - ((leftsM i (splitN n)).length + 1) = k - (leftsM i (splitN n)).length by omega]
        exact rootAbove_lk hX leaf _ _ i n (splitN n) g k _ path w h2 hn hi s1 hil hs h hd (by omega) (fun w h' => ih (splitN n) i k w (by omega) hil (by omega) h' (by omega))
      · rw [leftsM_r _ _ h2 hil, List.length_append, List.length_singleton] at hc ⊢
        obtain ⟨k, rfl⟩ : ∃ k', k = k' + 1 := ⟨k - 1, by omega⟩
        have hkl := h.le
        have hd : path[k]? = some path[k] := List.getElem?_eq_getElem (by omega)
        have hlen := winM_length path k (leftsM (i - splitN n) (n - splitN n)).length (by omega) (by omega)
        rw [winM_succ path k _ _ (by omega) hd, upP_r node leaf i n _ _ h2 hil hlen, show k + 1 - ((leftsM (i - splitN n) (n - splitN n)).length + 1) = k - (leftsM (i - splitN n) (n - splitN n)).length by omega]
        exact rootAbove_rk hX leaf _ _ i n (splitN n) g k _ path w h2 hn hi s1 hil hs h hd (by omega) (fun w h' => ih (n - splitN n) (i - splitN n) k w (by omega) (by omega) (by omega) h' (by omega))
theorem rootAbove_no {node : Hs → Hs → Hs} {z : Hs} (hX : TreeH node z) (leaf : Hs) (g : Nat) (path : List Hs) (hl : path.length ≤ 1000000) : ∀ (b n i k : Nat) (w : World), n ≤ b → i < n → n ≤ 1048576 → TkAt w g path k → k < (leftsM i n).length →
    Calls Tryd.prog 31 #[.agg (rowA 32 (bF leaf)), .int .i64 (i : Int), .int .i64 (n : Int), .func (.func 44) #[] #[.pointer (some ⟨g, 0, none⟩)]] w fun e w' => e = .panicked fewP ∧ RT g w w' := by
  intro b
  induction b with
  | zero => intro n i k w h1 h2; omega
  | succ b ih =>
    intro n i k w hb hi hn h hc
    by_cases h1 : n < 2
    · rw [leftsM_few _ _ h1] at hc; simp at hc
    · have h2 : 2 ≤ n := by omega
      obtain ⟨s1, s2, _⟩ := splitN_lt n h2
      have hs : ∀ w, Cv 40 #[.int .i64 (n : Int)] w (.eq (.int .i64 ((splitN n : Nat) : Int))) := fun w => Split_cv (n : Int) (by omega) (by omega) w
      match k, h, hc with
      | 0, h, _ => exact rootAbove_0n leaf i n (splitN n) g path w h2 hs h
      | k + 1, h, hc =>
        have hkl := h.le
        have hd : path[k]? = some path[k] := List.getElem?_eq_getElem (by omega)
        by_cases hil : i < splitN n
        · rw [leftsM_l _ _ h2 hil, List.length_append, List.length_singleton] at hc
          exact rootAbove_ln hX leaf _ i n (splitN n) g k 0 path w h2 hn hi s1 hil hs h hd (by omega) (fun w h' => ih (splitN n) i k w (by omega) hil (by omega) h' (by omega))
        · rw [leftsM_r _ _ h2 hil, List.length_append, List.length_singleton] at hc
          exact rootAbove_rn hX leaf _ i n (splitN n) g k 0 path w h2 hn hi s1 hil hs h hd (by omega) (fun w h' => ih (n - splitN n) (i - splitN n) k w (by omega) (by omega) (by omega) h' (by omega))
end Go.Proofs.YtoigjcadncecpaaDoor
/- What a path's work comes to; the closure that answers a panic. -/
namespace Go.Proofs.YtoigjcadncecpaaDoor
open Go Go.RowKit
set_option maxRecDepth 8000
set_option linter.all false
theorem catchP_panics (p : Addr) (x : Bool) (u : TypeId) (pv : Value) (older : List PanicEntry) (w : World) (hc : w.cell? p = some (.bool x)) (hz : w.frozen? p = false) :
    CallsD Tryd.prog 43 #[.pointer (some p)] (.panicking ({ v := .iface u pv, recovered := false } :: older)) w fun e u' w' =>
      e = .returned (.tuple #[]) ∧ u' = .panicking ({ v := .iface u pv, recovered := true } :: older) ∧ w' = w.setCell p (.bool false) := by
  refine callsD_of_wpS Tryd.func43 rfl fun c₀ cs hu => ?_
  apply wpS_seq
  apply wpS_region
  simp [wpOpsS, go_sem, recoverD, hu, Tryd.ntmps43, Exit.thenS]
  refine wpS_cond (t := true) (by simp [Act.eval, Array.replicate]) ?_
  simp only [if_true]
  apply wpS_region
  simp [wpOpsS, go_sem, hc, hz, bodyPostS, results, Tryd.results43]
theorem catchP_idle (p : Addr) (w : World) :
    CallsD Tryd.prog 43 #[.pointer (some p)] .returning w fun e u' w' => e = .returned (.tuple #[]) ∧ u' = .returning ∧ w' = w := by
  refine callsD_of_wpS Tryd.func43 rfl fun c₀ cs hu => ?_
  apply wpS_seq
  apply wpS_region
  simp [wpOpsS, go_sem, recoverD, hu, Tryd.ntmps43, Exit.thenS]
  refine wpS_cond (t := false) (by simp [Act.eval, Array.replicate]) ?_
  simp only [Bool.false_eq_true, if_false]
  refine wpS_of_wp (wp_skip ?_)
  cases c₀
  simp_all [bodyPostS, results, Tryd.results43]
theorem catchB_panics (p : Addr) (x : Bool) (u : TypeId) (pv : Value) (older : List PanicEntry) (w : World) (hc : w.cell? p = some (.bool x)) (hz : w.frozen? p = false) :
    CallsD Tryd.prog 45 #[.pointer (some p)] (.panicking ({ v := .iface u pv, recovered := false } :: older)) w fun e u' w' =>
      e = .returned (.tuple #[]) ∧ u' = .panicking ({ v := .iface u pv, recovered := true } :: older) ∧ w' = w.setCell p (.bool false) := by
  refine callsD_of_wpS Tryd.func45 rfl fun c₀ cs hu => ?_
  apply wpS_seq
  apply wpS_region
  simp [wpOpsS, go_sem, recoverD, hu, Tryd.ntmps45, Exit.thenS]
  refine wpS_cond (t := true) (by simp [Act.eval, Array.replicate]) ?_
  simp only [if_true]
  apply wpS_region
  simp [wpOpsS, go_sem, hc, hz, bodyPostS, results, Tryd.results45]
theorem catchB_idle (p : Addr) (w : World) :
    CallsD Tryd.prog 45 #[.pointer (some p)] .returning w fun e u' w' => e = .returned (.tuple #[]) ∧ u' = .returning ∧ w' = w := by
  refine callsD_of_wpS Tryd.func45 rfl fun c₀ cs hu => ?_
  apply wpS_seq
  apply wpS_region
  simp [wpOpsS, go_sem, recoverD, hu, Tryd.ntmps45, Exit.thenS]
  refine wpS_cond (t := false) (by simp [Act.eval, Array.replicate]) ?_
  simp only [Bool.false_eq_true, if_false]
  refine wpS_of_wp (wp_skip ?_)
  cases c₀
  simp_all [bodyPostS, results, Tryd.results45]
set_option maxHeartbeats 1000000 in
theorem Comes1_ok {node : Hs → Hs → Hs} {z : Hs} (hX : TreeH node z) (leaf : Hs) (i n g k bl bi bn : Nat) (path : List Hs) (w : World) (hpl : path.length ≤ 1000000) (hi : i < n) (hn : n ≤ 1048576) (h : TkAt w g path k) (hc : (leftsM i n).length ≤ k)
    (h1 : w.rowIs bl 29 32 (bF leaf)) (h2 : w.rowIs bi 3 1 (fun _ => .int .i64 ((i : Int)))) (h3 : w.rowIs bn 3 1 (fun _ => .int .i64 ((n : Int)))) :
    Calls Tryd.prog 30 #[.func (.func 44) #[] #[.pointer (some ⟨g, 0, none⟩)], .pointer (some ⟨bl, 0, none⟩), .pointer (some ⟨bi, 0, none⟩), .pointer (some ⟨bn, 0, none⟩)] w fun e w' => e = .returned (.agg (rowA 32 (bF (upP node leaf i n (winM path k (leftsM i n).length))))) ∧ RT g w w' ∧ TkAt w' g path (k - (leftsM i n).length) := by
  have hg := h.lt
  have HG := Lib.hid h.lt
  have HPL := Lib.hid hpl
  have HI := Lib.hid hi
  have HN := Lib.hid hn
  have HC := Lib.hid hc
  have HTK := Lib.hid h
  have R1 := Lib.hid h1
  have R2 := Lib.hid h2
  have R3 := Lib.hid h3
  clear hpl hi hn hc h h1 h2 h3
  go_enter Tryd.func30, Tryd.ntmps30
  go_upto_region 1 with fail
  have r0 := rowIs_box w 29 32 (bF fun _ => 0)
  have hN := NewT.alloc w (.cells (rowA 32 (bF fun _ => 0)) 29)
  change Code.wp _ _ _ _ (w.alloc (.cells (rowA 32 (bF fun _ => 0)) 29))
  generalize w.alloc (.cells (rowA 32 (bF fun _ => 0)) 29) = W0 at r0 hN ⊢
  have R0 := Lib.hid r0
  have HR := Lib.hid (RT.new HG.out hN)
  replace R1 := Lib.hid (hN.row R1.out)
  replace R2 := Lib.hid (hN.row R2.out)
  replace R3 := Lib.hid (hN.row R3.out)
  replace HTK := Lib.hid (HTK.out.new hN)
  clear r0 hN
  refine wp_region_lit ?_
  refine wpList_plain rfl (fun K hK => ?_)
  refine opr_load_hash rfl rfl R1.out (hK _ _ ?_)
  clear hK K
  refine wpList_plain rfl (fun K hK => ?_)
  refine opr_ldI R2.out (by decide) rfl rfl rfl (hK _ _ ?_)
  clear hK K
  refine wpList_plain rfl (fun K hK => ?_)
  refine opr_ldI R3.out (by decide) rfl rfl rfl (hK _ _ ?_)
  clear hK K
  refine wpList_plain rfl (fun K hK => ?_)
  refine opr_move (.inl rfl) (hK _ _ ?_)
  clear hK K
  simp only [Act.put, List.setIfInBounds_toArray, List.set_cons_zero, List.set_cons_succ]
  refine wpList_plain rfl (fun K hK => ?_)
  refine opr_call rfl Tryd.func31 (by kernel_rfl) (by kernel_rfl) (vs := #[.agg (rowA 32 (bF leaf)), .int .i64 (i : Int), .int .i64 (n : Int), .func (.func 44) #[] #[.pointer (some ⟨g, 0, none⟩)]]) (by simp only [List.map_toArray, List.map_cons, List.map_nil]; rfl) ((rootAbove_ok hX leaf g path HPL.out _ n i k W0 (Nat.le_refl _) HI.out HN.out HTK.out HC.out).mono ?_)
  rintro e w4 ⟨rfl, hR4, hk4⟩
  refine ⟨_, rfl, hK _ _ ?_⟩
  clear hK K
  refine wpList_plain rfl (fun K hK => ?_)
  refine opr_putm (F := bF _) rfl rfl rfl (hR4.row (by omega) R0.out) (by decide) info31 (fun _ => rfl) (fun i hi => by rw [if_pos (by omega), Nat.sub_zero]) ?_
  intro w9 hR9 r9
  refine hK _ _ ?_
  refine wpList_end rfl ?_
  simp only [Act.put]
  go_simp
  go_wp2
  exact bodyPost_ret (results_row rfl _ rfl r9 Tryd.underlying29 info31) rfl ⟨rfl, RT.late2 (RT.trans _ _ _ HR.out hR4) (Nat.le_refl _) HG.out hR9, TkAt.late hk4 hR9 (by omega)⟩
set_option maxHeartbeats 1000000 in
theorem Comes1_no {node : Hs → Hs → Hs} {z : Hs} (hX : TreeH node z) (leaf : Hs) (i n g k bl bi bn : Nat) (path : List Hs) (w : World) (hpl : path.length ≤ 1000000) (hi : i < n) (hn : n ≤ 1048576) (h : TkAt w g path k) (hc : k < (leftsM i n).length)
    (h1 : w.rowIs bl 29 32 (bF leaf)) (h2 : w.rowIs bi 3 1 (fun _ => .int .i64 ((i : Int)))) (h3 : w.rowIs bn 3 1 (fun _ => .int .i64 ((n : Int)))) :
    Calls Tryd.prog 30 #[.func (.func 44) #[] #[.pointer (some ⟨g, 0, none⟩)], .pointer (some ⟨bl, 0, none⟩), .pointer (some ⟨bi, 0, none⟩), .pointer (some ⟨bn, 0, none⟩)] w fun e w' => e = .panicked fewP ∧ RT g w w' := by
  have hg := h.lt
  have HG := Lib.hid h.lt
  have HPL := Lib.hid hpl
  have HI := Lib.hid hi
  have HN := Lib.hid hn
  have HC := Lib.hid hc
  have HTK := Lib.hid h
  have R1 := Lib.hid h1
  have R2 := Lib.hid h2
  have R3 := Lib.hid h3
  clear hpl hi hn hc h h1 h2 h3
  go_enter Tryd.func30, Tryd.ntmps30
  go_upto_region 1 with fail
  have r0 := rowIs_box w 29 32 (bF fun _ => 0)
  have hN := NewT.alloc w (.cells (rowA 32 (bF fun _ => 0)) 29)
  change Code.wp _ _ _ _ (w.alloc (.cells (rowA 32 (bF fun _ => 0)) 29))
  generalize w.alloc (.cells (rowA 32 (bF fun _ => 0)) 29) = W0 at r0 hN ⊢
  have R0 := Lib.hid r0
  have HR := Lib.hid (RT.new HG.out hN)
  replace R1 := Lib.hid (hN.row R1.out)
  replace R2 := Lib.hid (hN.row R2.out)
  replace R3 := Lib.hid (hN.row R3.out)
  replace HTK := Lib.hid (HTK.out.new hN)
  clear r0 hN
  refine wp_region_lit ?_
  refine wpList_plain rfl (fun K hK => ?_)
  refine opr_load_hash rfl rfl R1.out (hK _ _ ?_)
  clear hK K
  refine wpList_plain rfl (fun K hK => ?_)
  refine opr_ldI R2.out (by decide) rfl rfl rfl (hK _ _ ?_)
  clear hK K
  refine wpList_plain rfl (fun K hK => ?_)
  refine opr_ldI R3.out (by decide) rfl rfl rfl (hK _ _ ?_)
  clear hK K
  refine wpList_plain rfl (fun K hK => ?_)
  refine opr_move (.inl rfl) (hK _ _ ?_)
  clear hK K
  simp only [Act.put, List.setIfInBounds_toArray, List.set_cons_zero, List.set_cons_succ]
  refine wpList_plain rfl (fun K hK => ?_)
  refine opr_callP rfl Tryd.func31 (by kernel_rfl) (by kernel_rfl) (vs := #[.agg (rowA 32 (bF leaf)), .int .i64 (i : Int), .int .i64 (n : Int), .func (.func 44) #[] #[.pointer (some ⟨g, 0, none⟩)]]) (by simp only [List.map_toArray, List.map_cons, List.map_nil]; rfl) ((rootAbove_no hX leaf g path HPL.out _ n i k W0 (Nat.le_refl _) HI.out HN.out HTK.out HC.out).mono ?_)
  rintro e w4 ⟨rfl, hR4⟩
  exact ⟨_, rfl, rfl, rfl, RT.trans _ _ _ HR.out hR4⟩
end Go.Proofs.YtoigjcadncecpaaDoor
/- What work makes of hashes that it takes: by as many as there are, by fewer, and by more than there are. -/
namespace Go.Proofs.YtoigjcadncecpaaDoor
open Go Go.RowKit
set_option maxRecDepth 8000
set_option linter.all false
set_option maxHeartbeats 2000000 in
theorem ofAllP_ok (cap : Array Value) (v : Value) (path : List Hs) (x : Hs) (w : World) (hT : Tables w) (hv : RdH w v path)
    (hwork : ∀ w' g, NewT w w' → w.heap.size ≤ g → TkAt w' g path path.length → Calls Tryd.prog 30 (#[.func (.func 44) #[] #[.pointer (some ⟨g, 0, none⟩)]] ++ cap) w' fun e w'' => e = .returned (.agg (rowA 32 (bF x))) ∧ RT g w' w'' ∧ TkAt w'' g path (0)) : Calls Tryd.prog 29 #[v, .func (.func 30) #[] cap] w fun e w' => e = .returned (.tuple #[.agg (rowA 32 (bF x)), .bool true]) ∧ NewT w w' := by
  have hmf : ∀ (fn : Fn) (first cap : Array Value) (w : World), (Instr.makeFunc fn first cap).run Tryd.prog w = .ok (.func fn first cap) w := fun _ _ _ _ => rfl
  have HV := Lib.hid hv
  have HT := Lib.hid hT
  have HW := Lib.hid hwork
  obtain ⟨A, c, hvv⟩ := rdH_form hv
  subst hvv
  clear hv hT hwork
  go_enter_defers Tryd.func29, Tryd.ntmps29
  go_upto_region 2 with fail
  clear hmf
  obtain ⟨g, hg⟩ : ∃ g, w.heap.size = g := ⟨_, rfl⟩
  have r2 := ((rowIs_one w 22 (.slice A path.length c)).alloc (.cells (rowA 32 (bF fun _ => 0)) 29)).alloc (.cells #[.bool false] 4)
  have r4 := (rowIs_box (w.alloc (.cells #[.slice A path.length c] 22)) 29 32 (bF fun _ => 0)).alloc (.cells #[.bool false] 4)
  have r5 := rowIs_one ((w.alloc (.cells #[.slice A path.length c] 22)).alloc (.cells (rowA 32 (bF fun _ => 0)) 29)) 4 (.bool false)
  rw [World.size_alloc] at r4
  rw [World.size_alloc, World.size_alloc] at r5
  have hN : NewT w (((w.alloc (.cells #[.slice A path.length c] 22)).alloc (.cells (rowA 32 (bF fun _ => 0)) 29)).alloc (.cells #[.bool false] 4)) := NewT.trans _ _ _ (NewT.trans _ _ _ (NewT.alloc _ _) (NewT.alloc _ _)) (NewT.alloc _ _)
  change Code.wp _ _ _ _ (((w.alloc (.cells #[.slice A path.length c] 22)).alloc (.cells (rowA 32 (bF fun _ => 0)) 29)).alloc (.cells #[.bool false] 4))
  generalize (((w.alloc (.cells #[.slice A path.length c] 22)).alloc (.cells (rowA 32 (bF fun _ => 0)) 29)).alloc (.cells #[.bool false] 4)) = W0 at r2 r4 r5 hN ⊢
  rw [hg] at r2 r4 r5 ⊢
  have HTK : Hid (TkAt W0 g path path.length) := Lib.hid ⟨A, c, w, r2, HT.out, hN, by omega, HV.out, Nat.le_refl _⟩
  have R4 := Lib.hid r4
  have R5 := Lib.hid r5
  have HN := Lib.hid hN
  have HGW : Hid (w.heap.size ≤ g) := Lib.hid (by omega)
  clear r2 r4 r5 hN HV
  refine wp_region_lit ?_
  refine wpList_plain rfl (fun K hK => ?_)
  refine opr_move (.inl rfl) (hK _ _ ?_)
  clear hK K
  refine wpList_plain rfl (fun K hK => ?_)
  refine opr_mkf (cap := #[.pointer (some ⟨g, 0, none⟩)]) rfl (by simp only [List.map_toArray, List.map_cons, List.map_nil]; rfl) (hK _ _ ?_)
  clear hK K
  refine wpList_plain rfl (fun K hK => ?_)
  have hwk := HW.out W0 g HN.out HGW.out HTK.out
  obtain ⟨VS, hVS⟩ : ∃ VS, (#[.func (.func 44) #[] #[.pointer (some ⟨g, 0, none⟩)]] ++ cap : Array Value) = VS := ⟨_, rfl⟩
  rw [hVS] at hwk
  refine opr_callv (f := 30) (cap := cap) (vs := VS) rfl rfl Tryd.func30 (by kernel_rfl) (by kernel_rfl) (hVS ▸ congrArg (fun u : Array Value => u ++ cap) (a₂ := #[.func (.func 44) #[] #[.pointer (some ⟨g, 0, none⟩)]]) (by simp only [List.map_toArray, List.map_cons, List.map_nil]; rfl)) (hwk.mono ?_)
  clear hwk
  rintro e w4 ⟨rfl, hR4, hk4⟩
  refine ⟨_, rfl, hK _ _ ?_⟩
  clear hK K
  simp only [Act.put, List.setIfInBounds_toArray, List.set_cons_zero, List.set_cons_succ]
  refine wpList_new (n := 32) rfl rfl rfl rfl rfl rfl (by simp) run_alloc_hash info31 (fun _ => rfl) rfl ?_
  intro w5 hn5 r6
  refine wpList_end rfl ?_
  simp only [Act.put, List.setIfInBounds_toArray, List.set_cons_zero, List.set_cons_succ]
  go_simp
  obtain ⟨p6, hp6⟩ : ∃ p, w4.heap.size = p := ⟨_, rfl⟩
  rw [hp6] at r6 ⊢
  have hge : g + 1 + 1 < p6 := by have := (hR4.row (by omega) R5.out).lt; omega
  have R6 := Lib.hid r6
  replace R4 := Lib.hid (hn5.row (hR4.row (by omega) R4.out))
  replace R5 := Lib.hid (hn5.row (hR4.row (by omega) R5.out))
  replace HN := Lib.hid (NewT.trans _ _ _ (NewT.rt HN.out hR4 HGW.out) hn5)
  replace hk4 := hk4.new hn5
  obtain ⟨A1, c1, W1, rg, hTW, hNW, hWg, hrd, hkl⟩ := hk4
  have RG := Lib.hid rg
  have HS := Lib.hid (rdH_take (hNW.hs hrd) hkl)
  clear hR4 hn5 r6 hp6 rg hTW hNW hWg HTK HW
  have t3 : ¬ (0 : Int) < ((List.take 0 path).length : Int) := by rw [List.length_take]; omega
  go_upto_region 3 with fail
  refine wp_region_steps0 NewT [SV.eq ((.slice A1 (0) c1)), SV.eq (.int .i64 ((List.length ((List.take 0 path)) : Int))), SV.eq (.bool (decide (0 < ((List.length ((List.take 0 path)) : Int)))))] [([(2, none)], none), ([(11, some 0)], none), ([(12, some 1)], none)] 16 3 rfl rfl (by kernel_rfl) NewT.trans (NewT.refl _) (Nat.le_of_ble_eq_true rfl) ⟨?_, ?_, ?_, trivial⟩ ?_
  · intro a wx hT hF K hK
    obtain ⟨f2, _⟩ := hF
    have f2 : a.tmps.getD 2 undef = .pointer (some ⟨g, 0, none⟩) := f2
    refine rely_wp rfl ?_
    exact opr_ldHs (hT.row RG.out) (by decide) rfl rfl f2 (hK _ _ (NewT.refl _) rfl)
  · intro a wx hT hF K hK
    obtain ⟨f11, _⟩ := hF
    have f11 : a.tmps.getD 11 undef = (.slice A1 (0) c1) := f11
    refine rely_wp rfl ?_
    exact opr_len_h rfl (by rw [eval_tmp, f11]; exact (hT.hs HS.out)) (hK _ _ (NewT.refl _) rfl)
  · intro a wx hT hF K hK
    obtain ⟨f12, _⟩ := hF
    have f12 : a.tmps.getD 12 undef = .int .i64 ((List.length ((List.take 0 path)) : Int)) := f12
    refine rely_wp rfl ?_
    exact opr_cmp (b := decide (0 < ((List.length ((List.take 0 path)) : Int)))) (.inr (.inr (.inr (.inr (.inl ⟨rfl, rfl⟩))))) Tryd.underlying3 rfl f12 rfl (hK _ _ (NewT.refl _) rfl)
  · intro w6 k6
    intro u h; obtain rfl := Eq.symm (h (by simp)); clear h
    intro u h; obtain rfl := Eq.symm (h (by simp)); clear h
    intro u h; obtain rfl := Eq.symm (h (by simp)); clear h
    refine relyEnd_nil rfl ?_
    refine wpList_end rfl ?_
    simp only [Act.put, List.setIfInBounds_toArray, List.set_cons_zero, List.set_cons_succ]
    go_simp
    replace R4 := Lib.hid (k6.row R4.out)
    replace R5 := Lib.hid (k6.row R5.out)
    replace R6 := Lib.hid (k6.row R6.out)
    replace HN := Lib.hid (NewT.trans _ _ _ HN.out k6)
    clear k6 RG HS hrd
    go_upto_region 5 with fail
    refine wp_region_lit ?_
    refine wpList_plain rfl (fun K hK => ?_)
    refine opr_load_hash rfl rfl R6.out (hK _ _ ?_)
    clear hK K
    simp only [Act.put, List.setIfInBounds_toArray, List.set_cons_zero, List.set_cons_succ]
    refine wpList_plain rfl (fun K hK => ?_)
    refine opr_putm (F := bF x) rfl rfl rfl R4.out (by decide) info31 (fun _ => rfl) (fun i hi => by rw [if_pos (by omega), Nat.sub_zero]) ?_
    intro w8 hR8 r4'
    refine hK _ _ ?_
    clear hK K
    simp only [Act.put, List.setIfInBounds_toArray, List.set_cons_zero, List.set_cons_succ]
    refine wpList_plain rfl (fun K hK => ?_)
    refine opr_put1 (F := fun _ => .bool true) rfl rfl rfl (hR8.row (by omega) R5.out) (by decide) info_bool rfl (fun i hi => by rw [if_pos (by omega)]; rfl) ?_
    intro w9 hR9 r5'
    refine hK _ _ ?_
    refine wpList_end rfl ?_
    simp only [Act.put]
    go_simp
    replace r4' := hR9.row (by omega) r4'
    have HN9 := NewT.rt (NewT.rt HN.out hR8 (by have := HGW.out; omega)) hR9 (by have := HGW.out; omega)
    go_wp2
    refine leaves_cons (f := 43) (args := #[.pointer (some ⟨g + 1 + 1, 0, none⟩)]) (by simp) (by simp [go_sem]) ?_
    refine (catchP_idle ⟨g + 1 + 1, 0, none⟩ _).mono ?_
    rintro e u' w'' ⟨rfl, rfl, rfl⟩
    exact ⟨_, results_rv rfl rfl rfl r4' r5' Tryd.underlying29 rfl info31 Tryd.underlying4 rfl, rfl, HN9⟩
set_option maxHeartbeats 2000000 in
theorem ofAllP_many (cap : Array Value) (v : Value) (path : List Hs) (x : Hs) (kk : Nat) (w : World) (hT : Tables w) (hv : RdH w v path)
    (hwork : ∀ w' g, NewT w w' → w.heap.size ≤ g → TkAt w' g path path.length → Calls Tryd.prog 30 (#[.func (.func 44) #[] #[.pointer (some ⟨g, 0, none⟩)]] ++ cap) w' fun e w'' => e = .returned (.agg (rowA 32 (bF x))) ∧ RT g w' w'' ∧ TkAt w'' g path (kk + 1)) : Calls Tryd.prog 29 #[v, .func (.func 30) #[] cap] w fun e w' => e = .returned (.tuple #[.agg (rowA 32 (bF fun _ => 0)), .bool false]) ∧ NewT w w' := by
  have hmf : ∀ (fn : Fn) (first cap : Array Value) (w : World), (Instr.makeFunc fn first cap).run Tryd.prog w = .ok (.func fn first cap) w := fun _ _ _ _ => rfl
  have HV := Lib.hid hv
  have HT := Lib.hid hT
  have HW := Lib.hid hwork
  obtain ⟨A, c, hvv⟩ := rdH_form hv
  subst hvv
  clear hv hT hwork
  go_enter_defers Tryd.func29, Tryd.ntmps29
  go_upto_region 2 with fail
  clear hmf
  obtain ⟨g, hg⟩ : ∃ g, w.heap.size = g := ⟨_, rfl⟩
  have r2 := ((rowIs_one w 22 (.slice A path.length c)).alloc (.cells (rowA 32 (bF fun _ => 0)) 29)).alloc (.cells #[.bool false] 4)
  have r4 := (rowIs_box (w.alloc (.cells #[.slice A path.length c] 22)) 29 32 (bF fun _ => 0)).alloc (.cells #[.bool false] 4)
  have r5 := rowIs_one ((w.alloc (.cells #[.slice A path.length c] 22)).alloc (.cells (rowA 32 (bF fun _ => 0)) 29)) 4 (.bool false)
  rw [World.size_alloc] at r4
  rw [World.size_alloc, World.size_alloc] at r5
  have hN : NewT w (((w.alloc (.cells #[.slice A path.length c] 22)).alloc (.cells (rowA 32 (bF fun _ => 0)) 29)).alloc (.cells #[.bool false] 4)) := NewT.trans _ _ _ (NewT.trans _ _ _ (NewT.alloc _ _) (NewT.alloc _ _)) (NewT.alloc _ _)
  change Code.wp _ _ _ _ (((w.alloc (.cells #[.slice A path.length c] 22)).alloc (.cells (rowA 32 (bF fun _ => 0)) 29)).alloc (.cells #[.bool false] 4))
  generalize (((w.alloc (.cells #[.slice A path.length c] 22)).alloc (.cells (rowA 32 (bF fun _ => 0)) 29)).alloc (.cells #[.bool false] 4)) = W0 at r2 r4 r5 hN ⊢
  rw [hg] at r2 r4 r5 ⊢
  have HTK : Hid (TkAt W0 g path path.length) := Lib.hid ⟨A, c, w, r2, HT.out, hN, by omega, HV.out, Nat.le_refl _⟩
  have R4 := Lib.hid r4
  have R5 := Lib.hid r5
  have HN := Lib.hid hN
  have HGW : Hid (w.heap.size ≤ g) := Lib.hid (by omega)
  clear r2 r4 r5 hN HV
  refine wp_region_lit ?_
  refine wpList_plain rfl (fun K hK => ?_)
  refine opr_move (.inl rfl) (hK _ _ ?_)
  clear hK K
  refine wpList_plain rfl (fun K hK => ?_)
  refine opr_mkf (cap := #[.pointer (some ⟨g, 0, none⟩)]) rfl (by simp only [List.map_toArray, List.map_cons, List.map_nil]; rfl) (hK _ _ ?_)
  clear hK K
  refine wpList_plain rfl (fun K hK => ?_)
  have hwk := HW.out W0 g HN.out HGW.out HTK.out
  obtain ⟨VS, hVS⟩ : ∃ VS, (#[.func (.func 44) #[] #[.pointer (some ⟨g, 0, none⟩)]] ++ cap : Array Value) = VS := ⟨_, rfl⟩
  rw [hVS] at hwk
  refine opr_callv (f := 30) (cap := cap) (vs := VS) rfl rfl Tryd.func30 (by kernel_rfl) (by kernel_rfl) (hVS ▸ congrArg (fun u : Array Value => u ++ cap) (a₂ := #[.func (.func 44) #[] #[.pointer (some ⟨g, 0, none⟩)]]) (by simp only [List.map_toArray, List.map_cons, List.map_nil]; rfl)) (hwk.mono ?_)
  clear hwk
  rintro e w4 ⟨rfl, hR4, hk4⟩
  refine ⟨_, rfl, hK _ _ ?_⟩
  clear hK K
  simp only [Act.put, List.setIfInBounds_toArray, List.set_cons_zero, List.set_cons_succ]
  refine wpList_new (n := 32) rfl rfl rfl rfl rfl rfl (by simp) run_alloc_hash info31 (fun _ => rfl) rfl ?_
  intro w5 hn5 r6
  refine wpList_end rfl ?_
  simp only [Act.put, List.setIfInBounds_toArray, List.set_cons_zero, List.set_cons_succ]
  go_simp
  obtain ⟨p6, hp6⟩ : ∃ p, w4.heap.size = p := ⟨_, rfl⟩
  rw [hp6] at r6 ⊢
  have hge : g + 1 + 1 < p6 := by have := (hR4.row (by omega) R5.out).lt; omega
  have R6 := Lib.hid r6
  replace R4 := Lib.hid (hn5.row (hR4.row (by omega) R4.out))
  replace R5 := Lib.hid (hn5.row (hR4.row (by omega) R5.out))
  replace HN := Lib.hid (NewT.trans _ _ _ (NewT.rt HN.out hR4 HGW.out) hn5)
  replace hk4 := hk4.new hn5
  obtain ⟨A1, c1, W1, rg, hTW, hNW, hWg, hrd, hkl⟩ := hk4
  have RG := Lib.hid rg
  have HS := Lib.hid (rdH_take (hNW.hs hrd) hkl)
  clear hR4 hn5 r6 hp6 rg hTW hNW hWg HTK HW
  have t3 : (0 : Int) < ((List.take (kk + 1) path).length : Int) := by rw [List.length_take]; omega
  go_upto_region 3 with fail
  refine wp_region_steps0 NewT [SV.eq ((.slice A1 (kk + 1) c1)), SV.eq (.int .i64 ((List.length ((List.take (kk + 1) path)) : Int))), SV.eq (.bool (decide (0 < ((List.length ((List.take (kk + 1) path)) : Int)))))] [([(2, none)], none), ([(11, some 0)], none), ([(12, some 1)], none)] 16 3 rfl rfl (by kernel_rfl) NewT.trans (NewT.refl _) (Nat.le_of_ble_eq_true rfl) ⟨?_, ?_, ?_, trivial⟩ ?_
  · intro a wx hT hF K hK
    obtain ⟨f2, _⟩ := hF
    have f2 : a.tmps.getD 2 undef = .pointer (some ⟨g, 0, none⟩) := f2
    refine rely_wp rfl ?_
    exact opr_ldHs (hT.row RG.out) (by decide) rfl rfl f2 (hK _ _ (NewT.refl _) rfl)
  · intro a wx hT hF K hK
    obtain ⟨f11, _⟩ := hF
    have f11 : a.tmps.getD 11 undef = (.slice A1 (kk + 1) c1) := f11
    refine rely_wp rfl ?_
    exact opr_len_h rfl (by rw [eval_tmp, f11]; exact (hT.hs HS.out)) (hK _ _ (NewT.refl _) rfl)
  · intro a wx hT hF K hK
    obtain ⟨f12, _⟩ := hF
    have f12 : a.tmps.getD 12 undef = .int .i64 ((List.length ((List.take (kk + 1) path)) : Int)) := f12
    refine rely_wp rfl ?_
    exact opr_cmp (b := decide (0 < ((List.length ((List.take (kk + 1) path)) : Int)))) (.inr (.inr (.inr (.inr (.inl ⟨rfl, rfl⟩))))) Tryd.underlying3 rfl f12 rfl (hK _ _ (NewT.refl _) rfl)
  · intro w6 k6
    intro u h; obtain rfl := Eq.symm (h (by simp)); clear h
    intro u h; obtain rfl := Eq.symm (h (by simp)); clear h
    intro u h; obtain rfl := Eq.symm (h (by simp)); clear h
    refine relyEnd_nil rfl ?_
    refine wpList_end rfl ?_
    simp only [Act.put, List.setIfInBounds_toArray, List.set_cons_zero, List.set_cons_succ]
    go_simp
    replace R4 := Lib.hid (k6.row R4.out)
    replace R5 := Lib.hid (k6.row R5.out)
    replace R6 := Lib.hid (k6.row R6.out)
    replace HN := Lib.hid (NewT.trans _ _ _ HN.out k6)
    clear k6 RG HS hrd
    go_upto_region 4 with fail
    refine wp_region_lit ?_
    refine wpList_plain rfl (fun K hK => ?_)
    refine opr_load_hash rfl rfl R4.out (hK _ _ ?_)
    clear hK K
    simp only [Act.put, List.setIfInBounds_toArray, List.set_cons_zero, List.set_cons_succ]
    refine wpList_plain rfl (fun K hK => ?_)
    refine opr_putm (F := bF fun _ => 0) rfl rfl rfl R4.out (by decide) info31 (fun _ => rfl) (fun i hi => by rw [if_pos (by omega), Nat.sub_zero]) ?_
    intro w8 hR8 r4'
    refine hK _ _ ?_
    clear hK K
    simp only [Act.put, List.setIfInBounds_toArray, List.set_cons_zero, List.set_cons_succ]
    refine wpList_plain rfl (fun K hK => ?_)
    refine opr_put1 (F := fun _ => .bool false) rfl rfl rfl (hR8.row (by omega) R5.out) (by decide) info_bool rfl (fun i hi => by rw [if_pos (by omega)]; rfl) ?_
    intro w9 hR9 r5'
    refine hK _ _ ?_
    refine wpList_end rfl ?_
    simp only [Act.put]
    go_simp
    replace r4' := hR9.row (by omega) r4'
    have HN9 := NewT.rt (NewT.rt HN.out hR8 (by have := HGW.out; omega)) hR9 (by have := HGW.out; omega)
    go_wp2
    refine leaves_cons (f := 43) (args := #[.pointer (some ⟨g + 1 + 1, 0, none⟩)]) (by simp) (by simp [go_sem]) ?_
    refine (catchP_idle ⟨g + 1 + 1, 0, none⟩ _).mono ?_
    rintro e u' w'' ⟨rfl, rfl, rfl⟩
    exact ⟨_, results_rv rfl rfl rfl r4' r5' Tryd.underlying29 rfl info31 Tryd.underlying4 rfl, rfl, HN9⟩
set_option maxHeartbeats 2000000 in
theorem ofAllP_few (cap : Array Value) (v : Value) (path : List Hs) (w : World) (hT : Tables w) (hv : RdH w v path)
    (hwork : ∀ w' g, NewT w w' → w.heap.size ≤ g → TkAt w' g path path.length → Calls Tryd.prog 30 (#[.func (.func 44) #[] #[.pointer (some ⟨g, 0, none⟩)]] ++ cap) w' fun e w'' => e = .panicked fewP ∧ RT g w' w'') : Calls Tryd.prog 29 #[v, .func (.func 30) #[] cap] w fun e w' => e = .returned (.tuple #[.agg (rowA 32 (bF fun _ => 0)), .bool false]) ∧ NewT w w' := by
  have hmf : ∀ (fn : Fn) (first cap : Array Value) (w : World), (Instr.makeFunc fn first cap).run Tryd.prog w = .ok (.func fn first cap) w := fun _ _ _ _ => rfl
  have HV := Lib.hid hv
  have HT := Lib.hid hT
  have HW := Lib.hid hwork
  obtain ⟨A, c, hvv⟩ := rdH_form hv
  subst hvv
  clear hv hT hwork
  go_enter_defers Tryd.func29, Tryd.ntmps29
  go_upto_region 2 with fail
  clear hmf
  obtain ⟨g, hg⟩ : ∃ g, w.heap.size = g := ⟨_, rfl⟩
  have r2 := ((rowIs_one w 22 (.slice A path.length c)).alloc (.cells (rowA 32 (bF fun _ => 0)) 29)).alloc (.cells #[.bool false] 4)
  have r4 := (rowIs_box (w.alloc (.cells #[.slice A path.length c] 22)) 29 32 (bF fun _ => 0)).alloc (.cells #[.bool false] 4)
  have r5 := rowIs_one ((w.alloc (.cells #[.slice A path.length c] 22)).alloc (.cells (rowA 32 (bF fun _ => 0)) 29)) 4 (.bool false)
  rw [World.size_alloc] at r4
  rw [World.size_alloc, World.size_alloc] at r5
  have hN : NewT w (((w.alloc (.cells #[.slice A path.length c] 22)).alloc (.cells (rowA 32 (bF fun _ => 0)) 29)).alloc (.cells #[.bool false] 4)) := NewT.trans _ _ _ (NewT.trans _ _ _ (NewT.alloc _ _) (NewT.alloc _ _)) (NewT.alloc _ _)
  change Code.wp _ _ _ _ (((w.alloc (.cells #[.slice A path.length c] 22)).alloc (.cells (rowA 32 (bF fun _ => 0)) 29)).alloc (.cells #[.bool false] 4))
  generalize (((w.alloc (.cells #[.slice A path.length c] 22)).alloc (.cells (rowA 32 (bF fun _ => 0)) 29)).alloc (.cells #[.bool false] 4)) = W0 at r2 r4 r5 hN ⊢
  rw [hg] at r2 r4 r5 ⊢
  have HTK : Hid (TkAt W0 g path path.length) := Lib.hid ⟨A, c, w, r2, HT.out, hN, by omega, HV.out, Nat.le_refl _⟩
  have R4 := Lib.hid r4
  have R5 := Lib.hid r5
  have HN := Lib.hid hN
  have HGW : Hid (w.heap.size ≤ g) := Lib.hid (by omega)
  clear r2 r4 r5 hN HV
  refine wp_region_lit ?_
  refine wpList_plain rfl (fun K hK => ?_)
  refine opr_move (.inl rfl) (hK _ _ ?_)
  clear hK K
  refine wpList_plain rfl (fun K hK => ?_)
  refine opr_mkf (cap := #[.pointer (some ⟨g, 0, none⟩)]) rfl (by simp only [List.map_toArray, List.map_cons, List.map_nil]; rfl) (hK _ _ ?_)
  clear hK K
  refine wpList_plain rfl (fun K hK => ?_)
  have hwk := HW.out W0 g HN.out HGW.out HTK.out
  obtain ⟨VS, hVS⟩ : ∃ VS, (#[.func (.func 44) #[] #[.pointer (some ⟨g, 0, none⟩)]] ++ cap : Array Value) = VS := ⟨_, rfl⟩
  rw [hVS] at hwk
  refine opr_callvP (f := 30) (cap := cap) (vs := VS) rfl rfl Tryd.func30 (by kernel_rfl) (by kernel_rfl) (hVS ▸ congrArg (fun u : Array Value => u ++ cap) (a₂ := #[.func (.func 44) #[] #[.pointer (some ⟨g, 0, none⟩)]]) (by simp only [List.map_toArray, List.map_cons, List.map_nil]; rfl)) (hwk.mono ?_)
  clear hwk
  rintro e w4 ⟨rfl, hR4⟩
  refine ⟨_, rfl, ?_⟩
  have r4 := hR4.row (by omega) R4.out
  have r5 := hR4.row (by omega) R5.out
  refine leaves_cons (f := 43) (args := #[.pointer (some ⟨g + 1 + 1, 0, none⟩)]) (by simp) (by simp [go_sem]) ?_
  refine (catchP_panics ⟨g + 1 + 1, 0, none⟩ false _ _ [] w4 (r5.cell (i := 0) (by omega)) (r5.frozen 0)).mono ?_
  rintro e u' w'' ⟨rfl, rfl, rfl⟩
  have hR9 := RT.setCell (R := g + 1 + 1) w4 0 (.bool false)
  exact ⟨_, results_rv rfl rfl rfl (hR9.row (by omega) r4) ((r5.set 0 (.bool false)).congr (g := fun _ => .bool false) fun i hi => by simp [show i = 0 by omega]) Tryd.underlying29 rfl info31 Tryd.underlying4 rfl, rfl, NewT.rt (NewT.rt HN.out hR4 HGW.out) hR9 (by have := HGW.out; omega)⟩
end Go.Proofs.YtoigjcadncecpaaDoor
