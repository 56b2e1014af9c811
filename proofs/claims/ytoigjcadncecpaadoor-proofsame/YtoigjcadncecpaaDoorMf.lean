/- A row of hashes of the own, one of which is written over. -/
import Derived.Test.YtoigjcadncecpaaDoorMd
import Derived.Test.YtoigjcadncecpaaDoorMc
import Derived.Test.YtoigjcadncecpaaDoorMe
set_option linter.all false
namespace Go.Proofs.YtoigjcadncecpaaDoor
open Go Go.RowKit
set_option maxRecDepth 8000
set_option linter.all false
theorem OwnH.rows {w : World} {B : Nat} {u : Value} {l : List Hs} (h : OwnH w B u l) (h0 : 0 < l.length) : ∃ g c f, u = .slice (some ⟨g, 0, none⟩) l.length c ∧ B ≤ g ∧ w.rowIs g 29 (c * 32) f ∧ l.length ≤ c ∧ c ≤ maxLen ∧ ∀ i d, l[i]? = some d → ∀ j, j < 32 → f (i * 32 + j) = bF d j := by
  rcases h.2 with ⟨_, h2⟩ | ⟨g, c, cur, hv, hb, hg, hc, hm, hs, ht⟩
  · omega
  · refine ⟨g, c, fun i => cur.getD i undef, hv, hb, ⟨cur, hg, hs, fun i hi => ?_⟩, hc, hm, fun i d hd j hj => ?_⟩
    · have : i < cur.size := by omega
      simp [this]
    · have h1 := hcs_at l i d hd j hj
      rw [← ht, List.getElem?_take] at h1
      split at h1
      · simp only [Array.getD_eq_getD_getElem?]
        rw [← Array.getElem?_toList, h1]; rfl
      · cases h1
theorem rdH_rowc {W : World} {g t c : Nat} {f : Nat → Value} {l : List Hs} (h : W.rowIs g t (c * 32) f) (hn : l.length ≤ c) (hm : c ≤ maxLen) (hf : ∀ i d, l[i]? = some d → ∀ j, j < 32 → f (i * 32 + j) = bF d j) : RdH W (.slice (some ⟨g, 0, none⟩) l.length c) l := by
  refine ⟨some ⟨g, 0, none⟩, c, rfl, hn, hm, fun _ => ⟨g, 0, rfl, fun i d hd j hj => ?_⟩⟩
  have hi : i < l.length := (List.getElem?_eq_some_iff.1 hd).1
  rw [show 0 + i * 32 + j = i * 32 + j by omega, h.cell (by omega), hf i d hd j hj]
theorem set_cells {f : Nat → Value} {l : List Hs} {i : Nat} {d : Hs} (hi : i < l.length) (hf : ∀ i d, l[i]? = some d → ∀ j, j < 32 → f (i * 32 + j) = bF d j) : ∀ i' e, (l.set i d)[i']? = some e → ∀ j, j < 32 → (fun k => if i * 32 ≤ k ∧ k < i * 32 + 32 then bF d (k - i * 32) else f k) (i' * 32 + j) = bF e j := by
  intro i' e he j hj
  by_cases h : i' = i
  · subst h
    rw [List.getElem?_set_self hi] at he
    cases he
    show (if _ then _ else _) = _
    rw [if_pos (by omega), show i' * 32 + j - i' * 32 = j by omega]
  · rw [List.getElem?_set_ne (Ne.symm h)] at he
    show (if _ then _ else _) = _
    rw [if_neg (by omega)]
    exact hf i' e he j hj
theorem opr_idxV {a : Act} {w : World} {o : Oper} {K : Act → World → Prop} {Q : Exit → Act → World → Prop} {x y : Operand} {b off n c i : Nat} (hi : i < n) (ho : o.op = .indexAddr 22 x y) (hx : a.eval x = .slice (some ⟨b, off, none⟩) n c) (hy : a.eval y = .int .i64 (i : Int)) (h : K (a.put o.dst (.pointer (some ⟨b, off + i * 32, none⟩))) w) : o.wp Tryd.prog a w K Q := by
  obtain ⟨dst, op, type, pos, after, guard⟩ := o
  simp only at ho
  subst ho
  exact opr_val (s := Instr.indexAt 22 (a.eval x) (a.eval y)) rfl (by rw [hx, hy]; exact run_idxH w hi) h
end Go.Proofs.YtoigjcadncecpaaDoor
/- Clashes on lists, whatever the digest is (of 32 bytes): two lists of one length and one root are the same, or two texts are found that differ with one digest; likewise two leaves' paths. No program is named. -/
namespace Go.Proofs.YtoigjcadncecpaaDoor
set_option maxRecDepth 8000
set_option linter.all false
section
variable {H G : Type} {node : H → H → H} {z : H} {node' : G → G → G}
/-- A root in other words. -/
theorem rootM_hom (f : H → G) (hf : ∀ a b, f (node a b) = node' (f a) (f b)) (n : Nat) : ∀ l : List H, l.length ≤ n → f (rootM node z l) = rootM node' (f z) (l.map f) := by
  induction n with
  | zero => intro l h; obtain rfl : l = [] := List.eq_nil_of_length_eq_zero (by omega)
            rw [List.map_nil, rootM_nil, rootM_nil]
  | succ n ih =>
    intro l h
    match l, h with
    | [], _ => rw [List.map_nil, rootM_nil, rootM_nil]
    | [x], _ => rw [List.map_cons, List.map_nil, rootM_one, rootM_one]
    | x :: y :: l, h =>
      have h2 : 2 ≤ (x :: y :: l).length := by simp
      generalize x :: y :: l = m at h h2 ⊢
      have hs := splitN_lt m.length h2
      rw [rootM_split node z m h2, rootM_split node' (f z) (m.map f) (by rw [List.length_map]; exact h2), List.length_map, hf, ih _ (by rw [List.length_take]; omega), ih _ (by rw [List.length_drop]; omega), List.map_take, List.map_drop]
end
abbrev Tx := List UInt8
section
variable (sum : Tx → Tx)
def leafS (x : Tx) : Tx := sum (0 :: x)
def nodeS (a b : Tx) : Tx := sum (1 :: (a ++ b))
/-- The root of leaves. -/
def rootS (l : List Tx) : Tx := rootM (nodeS sum) (sum []) (l.map (leafS sum))
theorem rootS_split (l : List Tx) (h : 2 ≤ l.length) : rootS sum l = nodeS sum (rootS sum (l.take (splitN l.length))) (rootS sum (l.drop (splitN l.length))) := by
  unfold rootS
  rw [rootM_split _ _ (l.map (leafS sum)) (by rw [List.length_map]; exact h), List.length_map, List.map_take, List.map_drop]
theorem rootS_one (x : Tx) : rootS sum [x] = leafS sum x := by unfold rootS; rw [List.map_cons, List.map_nil, rootM_one]
/-- The clash of two lists. -/
def extM (a b : List Tx) : Option (Tx × Tx) :=
  if a.length ≠ b.length ∨ a = b ∨ rootS sum a ≠ rootS sum b then none
  else if h : a.length < 2 then some (0 :: a.headD [], 0 :: b.headD [])
  else if rootS sum (a.take (splitN a.length)) ≠ rootS sum (b.take (splitN a.length)) ∨ rootS sum (a.drop (splitN a.length)) ≠ rootS sum (b.drop (splitN a.length)) then
    some (1 :: (rootS sum (a.take (splitN a.length)) ++ rootS sum (a.drop (splitN a.length))), 1 :: (rootS sum (b.take (splitN a.length)) ++ rootS sum (b.drop (splitN a.length))))
  else if a.take (splitN a.length) ≠ b.take (splitN a.length) then extM (a.take (splitN a.length)) (b.take (splitN a.length)) else extM (a.drop (splitN a.length)) (b.drop (splitN a.length))
termination_by a.length
decreasing_by
  · have := splitN_lt a.length (by omega); simp; omega
  · have := splitN_lt a.length (by omega); simp; omega
variable {sum}
theorem rootS_len (h32 : ∀ t, (sum t).length = 32) (l : List Tx) : (rootS sum l).length = 32 := by
  match l with
  | [] => unfold rootS; rw [List.map_nil, rootM_nil]; exact h32 _
  | [x] => rw [rootS_one]; exact h32 _
  | x :: y :: l => rw [rootS_split sum _ (by simp)]; exact h32 _
theorem extM_clash (h32 : ∀ t, (sum t).length = 32) (n : Nat) : ∀ (a b : List Tx) (x y : Tx), a.length ≤ n → extM sum a b = some (x, y) → x ≠ y ∧ sum x = sum y := by
  induction n with
  | zero =>
    intro a b x y hn he
    obtain rfl : a = [] := List.eq_nil_of_length_eq_zero (by omega)
    rw [extM] at he
    by_cases hb : b = []
    · subst hb; simp at he
    · rw [if_pos (.inl (by have := List.length_pos_iff.2 hb; simp; omega))] at he; cases he
  | succ n ih =>
    intro a b x y hn he
    rw [extM] at he
    by_cases h1 : a.length ≠ b.length ∨ a = b ∨ rootS sum a ≠ rootS sum b
    · rw [if_pos h1] at he; cases he
    rw [if_neg h1] at he
    simp only [not_or, ne_eq, Decidable.not_not] at h1
    obtain ⟨hl, hne, hr⟩ := h1
    by_cases h2 : a.length < 2
    · rw [dif_pos h2] at he
      simp only [Option.some.injEq, Prod.mk.injEq] at he
      obtain ⟨rfl, rfl⟩ := he
      match a, b, hl, h2 with
      | [], [], _, _ => exact absurd rfl hne
      | [p], [q], _, _ =>
        rw [rootS_one, rootS_one] at hr
        exact ⟨fun e => hne (by simp at e; rw [e]), hr⟩
    rw [dif_neg h2] at he
    have hs := splitN_lt a.length (by omega)
    have ra := rootS_split sum a (by omega)
    have rb := rootS_split sum b (by omega)
    rw [← hl] at rb
    by_cases h3 : rootS sum (a.take (splitN a.length)) ≠ rootS sum (b.take (splitN a.length)) ∨ rootS sum (a.drop (splitN a.length)) ≠ rootS sum (b.drop (splitN a.length))
    · rw [if_pos h3] at he
      simp only [Option.some.injEq, Prod.mk.injEq] at he
      obtain ⟨rfl, rfl⟩ := he
      refine ⟨fun e => ?_, ?_⟩
      · have e2 := List.append_inj (List.cons_inj_right 1 |>.1 e) (by rw [rootS_len h32, rootS_len h32])
        rcases h3 with h3 | h3
        · exact h3 e2.1
        · exact h3 e2.2
      · rw [ra, rb] at hr; exact hr
    rw [if_neg h3] at he
    by_cases h4 : a.take (splitN a.length) ≠ b.take (splitN a.length)
    · rw [if_pos h4] at he
      exact ih _ _ _ _ (by rw [List.length_take]; omega) he
    · rw [if_neg h4] at he
      exact ih _ _ _ _ (by rw [List.length_drop]; omega) he
theorem extM_none (n : Nat) : ∀ (a b : List Tx), a.length ≤ n → extM sum a b = none → a.length ≠ b.length ∨ rootS sum a ≠ rootS sum b ∨ a = b := by
  induction n with
  | zero =>
    intro a b hn he
    obtain rfl : a = [] := List.eq_nil_of_length_eq_zero (by omega)
    by_cases hb : b = []
    · exact .inr (.inr hb.symm)
    · exact .inl (by have := List.length_pos_iff.2 hb; simp; omega)
  | succ n ih =>
    intro a b hn he
    rw [extM] at he
    by_cases h1 : a.length ≠ b.length ∨ a = b ∨ rootS sum a ≠ rootS sum b
    · rcases h1 with h | h | h
      · exact .inl h
      · exact .inr (.inr h)
      · exact .inr (.inl h)
    exfalso
    rw [if_neg h1] at he
    simp only [not_or, ne_eq, Decidable.not_not] at h1
    obtain ⟨hl, hne, hr⟩ := h1
    by_cases h2 : a.length < 2
    · rw [dif_pos h2] at he; cases he
    rw [dif_neg h2] at he
    have hs := splitN_lt a.length (by omega)
    by_cases h3 : rootS sum (a.take (splitN a.length)) ≠ rootS sum (b.take (splitN a.length)) ∨ rootS sum (a.drop (splitN a.length)) ≠ rootS sum (b.drop (splitN a.length))
    · rw [if_pos h3] at he; cases he
    rw [if_neg h3] at he
    simp only [not_or, ne_eq, Decidable.not_not] at h3
    by_cases h4 : a.take (splitN a.length) ≠ b.take (splitN a.length)
    · rw [if_pos h4] at he
      rcases ih _ _ (by rw [List.length_take]; omega) he with h | h | h
      · rw [List.length_take, List.length_take, hl] at h; exact h rfl
      · exact h h3.1
      · exact h4 h
    · rw [if_neg h4] at he
      simp only [ne_eq, Decidable.not_not] at h4
      rcases ih _ _ (by rw [List.length_drop]; omega) he with h | h | h
      · rw [List.length_drop, List.length_drop, hl] at h; exact h rfl
      · exact h h3.2
      · exact hne (by rw [← List.take_append_drop (splitN a.length) a, ← List.take_append_drop (splitN a.length) b, h4, h])
variable (sum)
/-- The text that stands above another one by a path's next hash. -/
def upT (t : Tx) (b : Bool) (p : Tx) : Tx := if b then 1 :: (sum t ++ p) else 1 :: (p ++ sum t)
/-- The text at a path's end. -/
def textP : Tx → List Bool → List Tx → Tx
  | t, b :: bs, p :: ps => textP (upT sum t b p) bs ps
  | t, _, _ => t
theorem textP_fold (bs : List Bool) : ∀ (t : Tx) (ps : List Tx), bs.length = ps.length → foldP (nodeS sum) (sum t) bs ps = sum (textP sum t bs ps) := by
  induction bs with
  | nil => intro t ps h; cases ps <;> rfl
  | cons b bs ih =>
    intro t ps h
    match ps, h with
    | p :: ps, h =>
      simp only [foldP, textP]
      rw [← ih _ _ (by simpa using h)]
      cases b <;> rfl
/-- The first pair of texts from the root down that differ, though their digests are the same. -/
def findP : Tx → Tx → List Bool → List Tx → List Tx → Option (Tx × Tx)
  | t, u, b :: bs, p :: ps, q :: qs => (findP (upT sum t b p) (upT sum u b q) bs ps qs).or (if t ≠ u ∧ sum t = sum u then some (t, u) else none)
  | t, u, _, _, _ => if t ≠ u ∧ sum t = sum u then some (t, u) else none
theorem findP_clash (bs : List Bool) : ∀ (t u : Tx) (ps qs : List Tx) (x y : Tx), findP sum t u bs ps qs = some (x, y) → x ≠ y ∧ sum x = sum y := by
  have one : ∀ (t u x y : Tx), (if t ≠ u ∧ sum t = sum u then some (t, u) else none) = some (x, y) → x ≠ y ∧ sum x = sum y := by
    intro t u x y h
    by_cases hc : t ≠ u ∧ sum t = sum u
    · rw [if_pos hc] at h; cases h; exact hc
    · rw [if_neg hc] at h; cases h
  induction bs with
  | nil => intro t u ps qs x y h; exact one _ _ _ _ h
  | cons b bs ih =>
    intro t u ps qs x y h
    match ps, qs with
    | [], _ => exact one _ _ _ _ h
    | _ :: _, [] => exact one _ _ _ _ h
    | p :: ps, q :: qs =>
      simp only [findP, Option.or_eq_some_iff] at h
      rcases h with h | ⟨_, h⟩
      · exact ih _ _ _ _ _ _ h
      · exact one _ _ _ _ h
variable {sum}
theorem upT_inj (h32 : ∀ t, (sum t).length = 32) {t u : Tx} {b : Bool} {p q : Tx} (hp : p.length = 32) (hq : q.length = 32) (h : upT sum t b p = upT sum u b q) : sum t = sum u ∧ p = q := by
  unfold upT at h
  cases b
  · simp only [Bool.false_eq_true, if_false, List.cons.injEq, true_and] at h
    have := List.append_inj h (by rw [hp, hq])
    exact ⟨this.2, this.1⟩
  · simp only [if_true, List.cons.injEq, true_and] at h
    exact List.append_inj h (by rw [h32, h32])
/-- Two leaves whose paths come to one root are the same, or there is a clash. -/
theorem findP_ex (h32 : ∀ t, (sum t).length = 32) (bs : List Bool) : ∀ (t u : Tx) (ps qs : List Tx), bs.length = ps.length → bs.length = qs.length → (∀ p ∈ ps, p.length = 32) → (∀ q ∈ qs, q.length = 32) → sum (textP sum t bs ps) = sum (textP sum u bs qs) → t ≠ u → findP sum t u bs ps qs ≠ none := by
  induction bs with
  | nil =>
    intro t u ps qs h1 h2 _ _ h hne
    obtain rfl : ps = [] := List.eq_nil_of_length_eq_zero (by simpa using h1.symm)
    obtain rfl : qs = [] := List.eq_nil_of_length_eq_zero (by simpa using h2.symm)
    simp only [textP] at h
    simp [findP, hne, h]
  | cons b bs ih =>
    intro t u ps qs h1 h2 hp hq h hne
    match ps, qs, h1, h2 with
    | p :: ps, q :: qs, h1, h2 =>
      simp only [textP] at h
      simp only [findP]
      by_cases hu : upT sum t b p = upT sum u b q
      · have := (upT_inj h32 (hp p (by simp)) (hq q (by simp)) hu).1
        rw [if_pos ⟨hne, this⟩]
        cases findP sum (upT sum t b p) (upT sum u b q) bs ps qs <;> simp
      · have := ih _ _ ps qs (by simpa using h1) (by simpa using h2) (fun p hp' => hp p (by simp [hp'])) (fun q hq' => hq q (by simp [hq'])) h hu
        cases hf : findP sum (upT sum t b p) (upT sum u b q) bs ps qs with
        | none => exact absurd hf this
        | some c => simp
end
end Go.Proofs.YtoigjcadncecpaaDoor
/- The law ProofSame, walked: a leaf's path comes to the list's root, and of another leaf to the root of the list that has that in its place. -/
namespace Go.Proofs.YtoigjcadncecpaaDoor
open Go Go.RowKit
set_option maxRecDepth 8000
set_option linter.all false
theorem eqH_dig (d e : Hs) : eqH d e = true ↔ digL d = digL e := by
  rw [eqH_iff]
  unfold digL
  constructor
  · intro h; exact List.map_congr_left fun i hi => h i (List.mem_range.1 hi)
  · intro h i hi
    have := congrArg (fun l => l[i]?) h
    simpa [hi] using this
theorem root_same {node : Hs → Hs → Hs} {z : Hs} (hX : TreeH node z) (l : List Hs) (i : Nat) (e other : Hs) (he : l[i]? = some e) (h : eqH other e = true) : eqH (rootM node z l) (rootM node z (l.set i other)) = true := by
  rw [eqH_dig] at h ⊢
  have hom : ∀ m : List Hs, digL (rootM node z m) = rootM (fun a b => digL (shaL Kc Fc ([1] ++ (a ++ (b ++ []))))) (digL z) (m.map digL) := fun m =>
    rootM_hom (node := node) (z := z) (node' := fun a b => digL (shaL Kc Fc ([1] ++ (a ++ (b ++ []))))) digL (fun p q => by rw [← hX.node p q]) m.length m (Nat.le_refl _)
  rw [hom, hom, List.map_set, h]
  obtain ⟨hi, h2⟩ := List.getElem?_eq_some_iff.1 he
  congr 1
  apply List.ext_getElem?
  intro j
  by_cases hj : j = i
  · subst hj; rw [List.getElem?_set_self (by simpa using hi)]; simp [he]
  · rw [List.getElem?_set_ne (Ne.symm hj)]
set_option maxHeartbeats 8000000 in
theorem ProofSame_walk (v : Value) (l : List Hs) (i : Int) (other : Hs) (w : World) (hT : Tables w) (hl : RdH w v l) : Calls Tryd.prog 7 #[v, .int .i64 i, .agg (rowA 32 (bF other))] w fun e w' => e = .returned (.bool true) ∧ Below w.heap.size w w' := by
  by_cases h60 : 60 < l.length
  · have t1 : decide ((60 : Int) < (l.length : Int)) = true := by simp; omega
    obtain ⟨node, z, hX⟩ := tree_ex
    have HT := Lib.hid hT
    have HL := Lib.hid hl
    obtain ⟨A, c, hv⟩ := rdH_form hl
    subst hv
    clear hT hl
    go_enter Tryd.func7, Tryd.ntmps7
    go_upto_region 1 with fail
    have rb := rowIs_box w 29 32 (bF other)
    have hN : NewT w (w.alloc (.cells (rowA 32 (bF other)) 29)) := (NewT.alloc _ _)
    change Code.wp _ _ _ _ (w.alloc (.cells (rowA 32 (bF other)) 29))
    generalize (w.alloc (.cells (rowA 32 (bF other)) 29)) = W0 at rb hN ⊢
    have RB := Lib.hid rb
    have HN := Lib.hid hN
    replace HT := Lib.hid (hN.tables HT.out)
    replace HL := Lib.hid (hN.hs HL.out)
    clear rb hN
    go_upto_region 4 with (go_at_call 10; refine (alive6_any _ HT.out).mono ?_; rintro _ w1 ⟨rfl, hA1⟩)
    go_wp2
    go_ret
    exact ⟨rfl, (NewT.trans _ _ _ HN.out (NewT.of hA1)).out⟩
  have t1 : decide ((60 : Int) < (l.length : Int)) = false := by simp; omega
  by_cases hi0 : i < 0
  · have t2 : i < 0 := hi0
    obtain ⟨node, z, hX⟩ := tree_ex
    have HT := Lib.hid hT
    have HL := Lib.hid hl
    obtain ⟨A, c, hv⟩ := rdH_form hl
    subst hv
    clear hT hl
    go_enter Tryd.func7, Tryd.ntmps7
    go_upto_region 1 with fail
    have rb := rowIs_box w 29 32 (bF other)
    have hN : NewT w (w.alloc (.cells (rowA 32 (bF other)) 29)) := (NewT.alloc _ _)
    change Code.wp _ _ _ _ (w.alloc (.cells (rowA 32 (bF other)) 29))
    generalize (w.alloc (.cells (rowA 32 (bF other)) 29)) = W0 at rb hN ⊢
    have RB := Lib.hid rb
    have HN := Lib.hid hN
    replace HT := Lib.hid (hN.tables HT.out)
    replace HL := Lib.hid (hN.hs HL.out)
    clear rb hN
    go_upto_region 4 with (go_at_call 10; refine (alive6_any _ HT.out).mono ?_; rintro _ w1 ⟨rfl, hA1⟩)
    go_wp2
    go_ret
    exact ⟨rfl, (NewT.trans _ _ _ HN.out (NewT.of hA1)).out⟩
  by_cases hil : (l.length : Int) ≤ i
  · have t2 : ¬ i < 0 := hi0
    have t3 : (l.length : Int) ≤ i := hil
    obtain ⟨node, z, hX⟩ := tree_ex
    have HT := Lib.hid hT
    have HL := Lib.hid hl
    obtain ⟨A, c, hv⟩ := rdH_form hl
    subst hv
    clear hT hl
    go_enter Tryd.func7, Tryd.ntmps7
    go_upto_region 1 with fail
    have rb := rowIs_box w 29 32 (bF other)
    have hN : NewT w (w.alloc (.cells (rowA 32 (bF other)) 29)) := (NewT.alloc _ _)
    change Code.wp _ _ _ _ (w.alloc (.cells (rowA 32 (bF other)) 29))
    generalize (w.alloc (.cells (rowA 32 (bF other)) 29)) = W0 at rb hN ⊢
    have RB := Lib.hid rb
    have HN := Lib.hid hN
    replace HT := Lib.hid (hN.tables HT.out)
    replace HL := Lib.hid (hN.hs HL.out)
    clear rb hN
    go_upto_region 4 with (go_at_call 10; refine (alive6_any _ HT.out).mono ?_; rintro _ w1 ⟨rfl, hA1⟩)
    go_wp2
    go_ret
    exact ⟨rfl, (NewT.trans _ _ _ HN.out (NewT.of hA1)).out⟩
  obtain ⟨i, rfl⟩ : ∃ k : Nat, i = (k : Int) := ⟨i.toNat, by omega⟩
  have HLEN : Hid (l.length ≤ 60) := Lib.hid (by omega)
  have HI : Hid (i < l.length) := Lib.hid (by omega)
  obtain ⟨e, he⟩ : ∃ e, l[i]? = some e := ⟨_, List.getElem?_eq_getElem (by omega)⟩
  have HE := Lib.hid he
  have HSET : Hid ((l.set i other).length = l.length) := Lib.hid (by simp)
  have HL0 := Lib.hid hl
  have HTT := Lib.hid hT
  obtain ⟨node, z, hX⟩ := tree_ex
  have HT := Lib.hid hT
  have HL := Lib.hid hl
  obtain ⟨A, c, hv⟩ := rdH_form hl
  subst hv
  clear hT hl
  go_enter Tryd.func7, Tryd.ntmps7
  go_upto_region 1 with fail
  have rb := rowIs_box w 29 32 (bF other)
  have hN : NewT w (w.alloc (.cells (rowA 32 (bF other)) 29)) := (NewT.alloc _ _)
  change Code.wp _ _ _ _ (w.alloc (.cells (rowA 32 (bF other)) 29))
  generalize (w.alloc (.cells (rowA 32 (bF other)) 29)) = W0 at rb hN ⊢
  have RB := Lib.hid rb
  have HN := Lib.hid hN
  replace HT := Lib.hid (hN.tables HT.out)
  replace HL := Lib.hid (hN.hs HL.out)
  clear rb hN
  go_upto_region 5 with (go_at_call 10; refine (alive6_any _ HT.out).mono ?_; rintro _ w1 ⟨rfl, hA1⟩)
  clear t1 hi0 hil h60 he
  have HC1 : Hid (∀ (u : Value) (w : World), Tables w → RdH w u (pathM node z l i) → Cv 16 #[.agg (rowA 32 (bF e)), .int .i64 (i : Int), .int .i64 (l.length : Int), u] w (svHq (rootM node z l) true)) := Lib.hid fun u w hT hu => by
    have h := Comes_cv hX e (i : Int) (l.length : Int) u _ w hT hu (Nat.le_trans (pathM_short _ _ (by have := HLEN.out; omega)) (by omega))
    rw [comes_root (fun _ => 0) l i e HE.out (by have := HLEN.out; omega), (comes_set (node := node) (z := z) (fun _ => 0) l i e HI.out (by have := HLEN.out; omega)).1] at h
    exact h
  have HC2 : Hid (∀ (u : Value) (w : World), Tables w → RdH w u (pathM node z l i) → Cv 16 #[.agg (rowA 32 (bF other)), .int .i64 (i : Int), .int .i64 (l.length : Int), u] w (svHq (rootM node z (l.set i other)) true)) := Lib.hid fun u w hT hu => by
    have h := Comes_cv hX other (i : Int) (l.length : Int) u _ w hT hu (Nat.le_trans (pathM_short _ _ (by have := HLEN.out; omega)) (by omega))
    obtain ⟨e1, e2⟩ := comes_set (node := node) (z := z) (fun _ => 0) l i other HI.out (by have := HLEN.out; omega)
    rw [e1, e2] at h
    exact h
  replace RB := Lib.hid ((NewT.of hA1).row RB.out)
  have HVV : Hid (RdH w (.slice A l.length c) l) := Lib.hid HL0.out
  have hn1 := NewT.of hA1
  replace HT := Lib.hid (hn1.tables HT.out)
  replace HL := Lib.hid (hn1.hs HL.out)
  replace HN := Lib.hid (NewT.trans _ _ _ HN.out hn1)
  obtain ⟨v, ev⟩ : ∃ v, Value.slice A l.length c = v := ⟨_, rfl⟩
  rw [ev] at HL HVV ⊢
  clear ev hA1 HL0
  refine wp_region_steps0 NewT [SV.eq (v), SV.eq (.int .i64 ((i : Int))), svPq (pathM node z l i) true, svPq (pathM node z l i) true, svH (pathM node z l i), SV.eq (.bool true), svH (pathM node z l i), SV.eq (.bool true)] [([(0, none)], none), ([(1, none)], none), ([(30, some 0), (31, some 1)], none), ([(32, some 2)], none), ([(29, some 3)], none), ([(29, some 3)], none), ([(33, some 4)], none), ([(34, some 5)], none)] 92 8 rfl rfl (by kernel_rfl) NewT.trans (NewT.refl _) (Nat.le_of_ble_eq_true rfl) ⟨?_, ?_, ?_, ?_, ?_, ?_, ?_, ?_, trivial⟩ ?_
  · intro a wx hT hF K hK
    obtain ⟨f0, _⟩ := hF
    have f0 : a.tmps.getD 0 undef = v := f0
    refine rely_wp rfl ?_
    exact opr_move (.inl rfl) (hK _ _ (NewT.refl _) f0)
  · intro a wx hT hF K hK
    obtain ⟨f1, _⟩ := hF
    have f1 : a.tmps.getD 1 undef = .int .i64 ((i : Int)) := f1
    refine rely_wp rfl ?_
    exact opr_move (.inl rfl) (hK _ _ (NewT.refl _) f1)
  · intro a wx hT hF K hK
    obtain ⟨f30, f31, _⟩ := hF
    have f30 : a.tmps.getD 30 undef = v := f30
    have f31 : a.tmps.getD 31 undef = .int .i64 ((i : Int)) := f31
    refine rely_wp rfl ?_
    exact opr_cv (Path_good hX _ l i wx (hT.tables HT.out) (hT.hs HL.out) HI.out (by have := HLEN.out; omega)) rfl Tryd.func11 (by kernel_rfl) (by kernel_rfl) (by simp only [List.map_toArray, List.map_cons, List.map_nil, eval_tmp, f30, f31]) hK
  · intro a wx hT hF K hK
    obtain ⟨f32, _⟩ := hF
    replace f32 := show (svPq (pathM node z l i) true).pred (a.tmps.getD 32 undef) wx from f32
    refine rely_wp rfl ?_
    exact opr_move (.inl rfl) (hK _ _ (NewT.refl _) f32)
  · intro a wx hT hF K hK
    obtain ⟨f29, _⟩ := hF
    replace f29 := show (svPq (pathM node z l i) true).pred (a.tmps.getD 29 undef) wx from f29
    refine rely_wp rfl ?_
    exact opr_extP0 rfl f29 (fun u hu => hK u _ (NewT.refl _) hu)
  · intro a wx hT hF K hK
    obtain ⟨f29, _⟩ := hF
    replace f29 := show (svPq (pathM node z l i) true).pred (a.tmps.getD 29 undef) wx from f29
    refine rely_wp rfl ?_
    exact opr_extP1 rfl f29 (hK _ _ (NewT.refl _) rfl)
  · intro a wx hT hF K hK
    obtain ⟨f33, _⟩ := hF
    replace f33 := show (svH (pathM node z l i)).pred (a.tmps.getD 33 undef) wx from f33
    refine rely_wp rfl ?_
    exact opr_move (.inr rfl) (hK _ _ (NewT.refl _) f33)
  · intro a wx hT hF K hK
    obtain ⟨f34, _⟩ := hF
    have f34 : a.tmps.getD 34 undef = .bool true := f34
    refine rely_wp rfl ?_
    exact opr_move (.inr rfl) (hK _ _ (NewT.refl _) f34)
  · intro w2 k2
    intro u h; obtain rfl := Eq.symm (h (by simp)); clear h
    intro u h; obtain rfl := Eq.symm (h (by simp)); clear h
    intro _ _
    intro _ _
    intro _ _
    intro u h; obtain rfl := Eq.symm (h (by simp)); clear h
    intro u7 h; have g7 := h (by simp); clear h; replace g7 := show (svH (pathM node z l i)).pred u7 w2 from g7
    intro u h; obtain rfl := Eq.symm (h (by simp)); clear h
    refine relyEnd_nil rfl ?_
    refine wpList_end rfl ?_
    simp only [Act.put, List.setIfInBounds_toArray, List.set_cons_zero, List.set_cons_succ]
    go_simp
    have HU7 := Lib.hid (show RdH w2 u7 (pathM node z l i) from g7)
    clear g7
    replace RB := Lib.hid (k2.row RB.out)
    replace HL := Lib.hid (k2.hs HL.out)
    replace HT := Lib.hid (k2.tables HT.out)
    replace HN := Lib.hid (NewT.trans _ _ _ HN.out k2)
    clear k2
    go_upto_region 6 with fail
    refine wp_region_steps0 NewT [SV.eq (v), SV.eq (.int .i64 ((i : Int))), svP (e), SV.eq (.agg (rowA 32 (bF (e)))), SV.eq (.int .i64 ((i : Int))), SV.eq (v), SV.eq (.int .i64 ((List.length (l) : Int))), SV.eq (u7), SV.eq ((.tuple #[.agg (rowA 32 (bF (rootM node z l))), .bool true])), SV.eq ((.tuple #[.agg (rowA 32 (bF (rootM node z l))), .bool true])), SV.eq (.agg (rowA 32 (bF (rootM node z l)))), SV.eq (.bool true)] [([(0, none)], none), ([(1, none)], none), ([(36, some 0), (37, some 1)], none), ([(38, some 2)], none), ([(1, none)], none), ([(0, none)], none), ([(41, some 5)], none), ([(7, none)], none), ([(39, some 3), (40, some 4), (42, some 6), (43, some 7)], none), ([(44, some 8)], none), ([(35, some 9)], none), ([(35, some 9)], none)] 92 12 rfl rfl (by kernel_rfl) NewT.trans (NewT.refl _) (Nat.le_of_ble_eq_true rfl) ⟨?_, ?_, ?_, ?_, ?_, ?_, ?_, ?_, ?_, ?_, ?_, ?_, trivial⟩ ?_
    · intro a wx hT hF K hK
      obtain ⟨f0, _⟩ := hF
      have f0 : a.tmps.getD 0 undef = v := f0
      refine rely_wp rfl ?_
      exact opr_move (.inl rfl) (hK _ _ (NewT.refl _) f0)
    · intro a wx hT hF K hK
      obtain ⟨f1, _⟩ := hF
      have f1 : a.tmps.getD 1 undef = .int .i64 ((i : Int)) := f1
      refine rely_wp rfl ?_
      exact opr_move (.inl rfl) (hK _ _ (NewT.refl _) f1)
    · intro a wx hT hF K hK
      obtain ⟨f36, f37, _⟩ := hF
      have f36 : a.tmps.getD 36 undef = v := f36
      have f37 : a.tmps.getD 37 undef = .int .i64 ((i : Int)) := f37
      refine rely_wp rfl ?_
      exact opr_idxH (i := i) (d := e) (HE.out) (rfl) rfl (by rw [eval_tmp, f36]; exact (hT.hs HL.out)) f37 (fun v hv => hK v _ (NewT.refl _) hv)
    · intro a wx hT hF K hK
      obtain ⟨f38, _⟩ := hF
      replace f38 := show (svP (e)).pred (a.tmps.getD 38 undef) wx from f38
      refine rely_wp rfl ?_
      exact opr_ldP rfl f38 (hK _ _ (NewT.refl _) rfl)
    · intro a wx hT hF K hK
      obtain ⟨f1, _⟩ := hF
      have f1 : a.tmps.getD 1 undef = .int .i64 ((i : Int)) := f1
      refine rely_wp rfl ?_
      exact opr_move (.inl rfl) (hK _ _ (NewT.refl _) f1)
    · intro a wx hT hF K hK
      obtain ⟨f0, _⟩ := hF
      have f0 : a.tmps.getD 0 undef = v := f0
      refine rely_wp rfl ?_
      exact opr_move (.inl rfl) (hK _ _ (NewT.refl _) f0)
    · intro a wx hT hF K hK
      obtain ⟨f41, _⟩ := hF
      have f41 : a.tmps.getD 41 undef = v := f41
      refine rely_wp rfl ?_
      exact opr_len_h rfl (by rw [eval_tmp, f41]; exact (hT.hs HL.out)) (hK _ _ (NewT.refl _) rfl)
    · intro a wx hT hF K hK
      obtain ⟨f7, _⟩ := hF
      have f7 : a.tmps.getD 7 undef = u7 := f7
      refine rely_wp rfl ?_
      exact opr_move (.inl rfl) (hK _ _ (NewT.refl _) f7)
    · intro a wx hT hF K hK
      obtain ⟨f39, f40, f42, f43, _⟩ := hF
      have f39 : a.tmps.getD 39 undef = .agg (rowA 32 (bF (e))) := f39
      have f40 : a.tmps.getD 40 undef = .int .i64 ((i : Int)) := f40
      have f42 : a.tmps.getD 42 undef = .int .i64 ((List.length (l) : Int)) := f42
      have f43 : a.tmps.getD 43 undef = u7 := f43
      refine rely_wp rfl ?_
      exact opr_cv (HC1.out u7 wx (hT.tables HT.out) (hT.hs HU7.out)) rfl Tryd.func16 (by kernel_rfl) (by kernel_rfl) (by simp only [List.map_toArray, List.map_cons, List.map_nil, eval_tmp, f39, f40, f42, f43]) hK
    · intro a wx hT hF K hK
      obtain ⟨f44, _⟩ := hF
      have f44 : a.tmps.getD 44 undef = (.tuple #[.agg (rowA 32 (bF (rootM node z l))), .bool true]) := f44
      refine rely_wp rfl ?_
      exact opr_move (.inl rfl) (hK _ _ (NewT.refl _) f44)
    · intro a wx hT hF K hK
      obtain ⟨f35, _⟩ := hF
      have f35 : a.tmps.getD 35 undef = (.tuple #[.agg (rowA 32 (bF (rootM node z l))), .bool true]) := f35
      refine rely_wp rfl ?_
      exact opr_ext rfl f35 rfl (hK _ _ (NewT.refl _) rfl)
    · intro a wx hT hF K hK
      obtain ⟨f35, _⟩ := hF
      have f35 : a.tmps.getD 35 undef = (.tuple #[.agg (rowA 32 (bF (rootM node z l))), .bool true]) := f35
      refine rely_wp rfl ?_
      exact opr_ext rfl f35 rfl (hK _ _ (NewT.refl _) rfl)
    · intro w3 k3
      intro u h; obtain rfl := Eq.symm (h (by simp)); clear h
      intro u h; obtain rfl := Eq.symm (h (by simp)); clear h
      intro _ _
      intro u h; obtain rfl := Eq.symm (h (by simp)); clear h
      intro u h; obtain rfl := Eq.symm (h (by simp)); clear h
      intro u h; obtain rfl := Eq.symm (h (by simp)); clear h
      intro u h; obtain rfl := Eq.symm (h (by simp)); clear h
      intro u h; obtain rfl := Eq.symm (h (by simp)); clear h
      intro u h; obtain rfl := Eq.symm (h (by simp)); clear h
      intro u h; obtain rfl := Eq.symm (h (by simp)); clear h
      intro u h; obtain rfl := Eq.symm (h (by simp)); clear h
      intro u h; obtain rfl := Eq.symm (h (by simp)); clear h
      refine relyEnd_nil rfl ?_
      simp only [Act.put, List.setIfInBounds_toArray, List.set_cons_zero, List.set_cons_succ]
      refine wpList_new (n := 32) rfl rfl rfl rfl rfl rfl (by simp) run_alloc_hash info31 (fun _ => rfl) rfl ?_
      intro w4 hn4 r9
      refine wpList_plain rfl (fun K hK => ?_)
      refine opr_move (.inr rfl) (hK _ _ ?_)
      refine wpList_end rfl ?_
      simp only [Act.put, List.setIfInBounds_toArray, List.set_cons_zero, List.set_cons_succ]
      go_simp
      obtain ⟨p9, hp9⟩ : ∃ p, w3.heap.size = p := ⟨_, rfl⟩
      rw [hp9] at r9 ⊢
      have R9 := Lib.hid r9
      have k34 := NewT.trans _ _ _ k3 hn4
      clear k3 hn4 r9 hp9 HC1
      replace RB := Lib.hid (k34.row RB.out)
      replace HL := Lib.hid (k34.hs HL.out)
      replace HU7 := Lib.hid (k34.hs HU7.out)
      replace HT := Lib.hid (k34.tables HT.out)
      replace HN := Lib.hid (NewT.trans _ _ _ HN.out k34)
      clear k34
      go_upto_region 7 with fail
      refine wp_region_steps0 NewT [SV.eq (.agg (rowA 32 (bF (other)))), SV.eq (.int .i64 ((i : Int))), SV.eq (v), SV.eq (.int .i64 ((List.length (l) : Int))), SV.eq (u7), SV.eq ((.tuple #[.agg (rowA 32 (bF (rootM node z (l.set i other)))), .bool true])), SV.eq ((.tuple #[.agg (rowA 32 (bF (rootM node z (l.set i other)))), .bool true])), SV.eq (.agg (rowA 32 (bF (rootM node z (l.set i other))))), SV.eq (.bool true)] [([(5, none)], none), ([(1, none)], none), ([(0, none)], none), ([(50, some 2)], none), ([(7, none)], none), ([(48, some 0), (49, some 1), (51, some 3), (52, some 4)], none), ([(53, some 5)], none), ([(47, some 6)], none), ([(47, some 6)], none)] 92 9 rfl rfl (by kernel_rfl) NewT.trans (NewT.refl _) (Nat.le_of_ble_eq_true rfl) ⟨?_, ?_, ?_, ?_, ?_, ?_, ?_, ?_, ?_, trivial⟩ ?_
      · intro a wx hT hF K hK
        obtain ⟨f5, _⟩ := hF
        have f5 : a.tmps.getD 5 undef = .pointer (some ⟨w.heap.size, 0, none⟩) := f5
        refine rely_wp rfl ?_
        exact opr_load_hash rfl f5 (hT.row RB.out) (hK _ _ (NewT.refl _) rfl)
      · intro a wx hT hF K hK
        obtain ⟨f1, _⟩ := hF
        have f1 : a.tmps.getD 1 undef = .int .i64 ((i : Int)) := f1
        refine rely_wp rfl ?_
        exact opr_move (.inl rfl) (hK _ _ (NewT.refl _) f1)
      · intro a wx hT hF K hK
        obtain ⟨f0, _⟩ := hF
        have f0 : a.tmps.getD 0 undef = v := f0
        refine rely_wp rfl ?_
        exact opr_move (.inl rfl) (hK _ _ (NewT.refl _) f0)
      · intro a wx hT hF K hK
        obtain ⟨f50, _⟩ := hF
        have f50 : a.tmps.getD 50 undef = v := f50
        refine rely_wp rfl ?_
        exact opr_len_h rfl (by rw [eval_tmp, f50]; exact (hT.hs HL.out)) (hK _ _ (NewT.refl _) rfl)
      · intro a wx hT hF K hK
        obtain ⟨f7, _⟩ := hF
        have f7 : a.tmps.getD 7 undef = u7 := f7
        refine rely_wp rfl ?_
        exact opr_move (.inl rfl) (hK _ _ (NewT.refl _) f7)
      · intro a wx hT hF K hK
        obtain ⟨f48, f49, f51, f52, _⟩ := hF
        have f48 : a.tmps.getD 48 undef = .agg (rowA 32 (bF (other))) := f48
        have f49 : a.tmps.getD 49 undef = .int .i64 ((i : Int)) := f49
        have f51 : a.tmps.getD 51 undef = .int .i64 ((List.length (l) : Int)) := f51
        have f52 : a.tmps.getD 52 undef = u7 := f52
        refine rely_wp rfl ?_
        exact opr_cv (HC2.out u7 wx (hT.tables HT.out) (hT.hs HU7.out)) rfl Tryd.func16 (by kernel_rfl) (by kernel_rfl) (by simp only [List.map_toArray, List.map_cons, List.map_nil, eval_tmp, f48, f49, f51, f52]) hK
      · intro a wx hT hF K hK
        obtain ⟨f53, _⟩ := hF
        have f53 : a.tmps.getD 53 undef = (.tuple #[.agg (rowA 32 (bF (rootM node z (l.set i other)))), .bool true]) := f53
        refine rely_wp rfl ?_
        exact opr_move (.inl rfl) (hK _ _ (NewT.refl _) f53)
      · intro a wx hT hF K hK
        obtain ⟨f47, _⟩ := hF
        have f47 : a.tmps.getD 47 undef = (.tuple #[.agg (rowA 32 (bF (rootM node z (l.set i other)))), .bool true]) := f47
        refine rely_wp rfl ?_
        exact opr_ext rfl f47 rfl (hK _ _ (NewT.refl _) rfl)
      · intro a wx hT hF K hK
        obtain ⟨f47, _⟩ := hF
        have f47 : a.tmps.getD 47 undef = (.tuple #[.agg (rowA 32 (bF (rootM node z (l.set i other)))), .bool true]) := f47
        refine rely_wp rfl ?_
        exact opr_ext rfl f47 rfl (hK _ _ (NewT.refl _) rfl)
      · intro w5 k5
        intro u h; obtain rfl := Eq.symm (h (by simp)); clear h
        intro u h; obtain rfl := Eq.symm (h (by simp)); clear h
        intro u h; obtain rfl := Eq.symm (h (by simp)); clear h
        intro u h; obtain rfl := Eq.symm (h (by simp)); clear h
        intro u h; obtain rfl := Eq.symm (h (by simp)); clear h
        intro u h; obtain rfl := Eq.symm (h (by simp)); clear h
        intro u h; obtain rfl := Eq.symm (h (by simp)); clear h
        intro u h; obtain rfl := Eq.symm (h (by simp)); clear h
        intro u h; obtain rfl := Eq.symm (h (by simp)); clear h
        refine relyEnd_nil rfl ?_
        simp only [Act.put, List.setIfInBounds_toArray, List.set_cons_zero, List.set_cons_succ]
        refine wpList_new (n := 32) rfl rfl rfl rfl rfl rfl (by simp) run_alloc_hash info31 (fun _ => rfl) rfl ?_
        intro w6 hn6 r11
        refine wpList_plain rfl (fun K hK => ?_)
        refine opr_move (.inr rfl) (hK _ _ ?_)
        refine wpList_end rfl ?_
        simp only [Act.put, List.setIfInBounds_toArray, List.set_cons_zero, List.set_cons_succ]
        go_simp
        obtain ⟨p11, hp11⟩ : ∃ p, w5.heap.size = p := ⟨_, rfl⟩
        rw [hp11] at r11 ⊢
        have R11 := Lib.hid r11
        have k56 := NewT.trans _ _ _ k5 hn6
        clear k5 hn6 r11 hp11 HC2
        replace RB := Lib.hid (k56.row RB.out)
        replace R9 := Lib.hid (k56.row R9.out)
        replace HL := Lib.hid (k56.hs HL.out)
        replace HU7 := Lib.hid (k56.hs HU7.out)
        replace HT := Lib.hid (k56.tables HT.out)
        replace HN := Lib.hid (NewT.trans _ _ _ HN.out k56)
        clear k56
        go_upto_region 8 with fail
        refine wp_region_rely (NewT) [SV.eq (.bool true), SV.eq (.bool false), SV.eq (.bool false), SV.eq (.bool true), SV.eq (.bool false), SV.eq (.bool false), SV.eq (.bool false), SV.eq (.agg (rowA 32 (bF (rootM node z l)))), SV.eq (v), SV.eq (.agg (rowA 32 (bF (rootM node z (l))))), SV.eq (.bool false)] [([(10, none)], none), ([(56, some 0)], none), ([(57, some 1)], none), ([(12, none), (58, some 2)], some (58, false)), ([(59, some 3), (58, some 2)], some (58, false)), ([(58, some 2), (60, some 4)], none), ([(61, some 5)], none), ([(9, none), (62, some 6)], some (62, false)), ([(0, none), (62, some 6)], some (62, false)), ([(64, some 8), (62, some 6)], some (62, false)), ([(63, some 7), (65, some 9), (62, some 6)], some (62, false))] 92 rfl (by kernel_rfl) rfl (by kernel_rfl) (by kernel_rfl) rfl NewT.trans (NewT.drew _) (Nat.le_of_ble_eq_true rfl) ⟨?_, ?_, ?_, ?_, ?_, ?_, ?_, ?_, ?_, ?_, ?_, trivial⟩ ?_
        · intro a wx hT hF K hK
          obtain ⟨f10, _⟩ := hF
          have f10 : a.tmps.getD 10 undef = .bool true := f10
          refine rely_wp rfl ?_
          exact opr_move (.inl rfl) (hK _ _ (NewT.refl _) f10)
        · intro a wx hT hF K hK
          obtain ⟨f56, _⟩ := hF
          have f56 : a.tmps.getD 56 undef = .bool true := f56
          refine rely_wp rfl ?_
          exact opr_not rfl f56 (hK _ _ (NewT.refl _) rfl)
        · intro a wx hT hF K hK
          obtain ⟨f57, _⟩ := hF
          have f57 : a.tmps.getD 57 undef = .bool false := f57
          refine rely_wp rfl ?_
          exact opr_move (.inl rfl) (hK _ _ (NewT.refl _) f57)
        · intro a wx hT hF K hK
          obtain ⟨f12, f58, _⟩ := hF
          have f12 : a.tmps.getD 12 undef = .bool true := f12
          have f58 : a.tmps.getD 58 undef = .bool false := f58
          refine rely_wp (rely_guard f58) ?_
          exact opr_move (.inl rfl) (hK _ _ (NewT.refl _) f12)
        · intro a wx hT hF K hK
          obtain ⟨f59, f58, _⟩ := hF
          have f59 : a.tmps.getD 59 undef = .bool true := f59
          have f58 : a.tmps.getD 58 undef = .bool false := f58
          refine rely_wp (rely_guard f58) ?_
          exact opr_not rfl f59 (hK _ _ (NewT.refl _) rfl)
        · intro a wx hT hF K hK
          obtain ⟨f58, f60, _⟩ := hF
          have f58 : a.tmps.getD 58 undef = .bool false := f58
          have f60 : a.tmps.getD 60 undef = .bool false := f60
          refine rely_wp rfl ?_
          exact opr_pick_false rfl f58 (hK _ _ (NewT.refl _) f60)
        · intro a wx hT hF K hK
          obtain ⟨f61, _⟩ := hF
          have f61 : a.tmps.getD 61 undef = .bool false := f61
          refine rely_wp rfl ?_
          exact opr_move (.inl rfl) (hK _ _ (NewT.refl _) f61)
        · intro a wx hT hF K hK
          obtain ⟨f9, f62, _⟩ := hF
          have f9 : a.tmps.getD 9 undef = .pointer (some ⟨p9, 0, none⟩) := f9
          have f62 : a.tmps.getD 62 undef = .bool false := f62
          refine rely_wp (rely_guard f62) ?_
          exact opr_load_hash rfl f9 (hT.row R9.out) (hK _ _ (NewT.refl _) rfl)
        · intro a wx hT hF K hK
          obtain ⟨f0, f62, _⟩ := hF
          have f0 : a.tmps.getD 0 undef = v := f0
          have f62 : a.tmps.getD 62 undef = .bool false := f62
          refine rely_wp (rely_guard f62) ?_
          exact opr_move (.inl rfl) (hK _ _ (NewT.refl _) f0)
        · intro a wx hT hF K hK
          obtain ⟨f64, f62, _⟩ := hF
          have f64 : a.tmps.getD 64 undef = v := f64
          have f62 : a.tmps.getD 62 undef = .bool false := f62
          refine rely_wp (rely_guard f62) ?_
          exact opr_cv (Root_cv hX _ _ (l) wx (hT.tables HT.out) ((hT.hs HL.out)) (Nat.le_refl _) (by have := HLEN.out; omega)) rfl Tryd.func24 (by kernel_rfl) (by kernel_rfl) (by simp only [List.map_toArray, List.map_cons, List.map_nil, eval_tmp, f64]) hK
        · intro a wx hT hF K hK
          obtain ⟨f63, f65, f62, _⟩ := hF
          have f63 : a.tmps.getD 63 undef = .agg (rowA 32 (bF (rootM node z l))) := f63
          have f65 : a.tmps.getD 65 undef = .agg (rowA 32 (bF (rootM node z (l)))) := f65
          have f62 : a.tmps.getD 62 undef = .bool false := f62
          refine rely_wp (rely_guard f62) ?_
          exact opr_neq_hash (b := false) rfl f63 f65 ((by rw [eqH_same]; rfl)) (hK _ _ (NewT.refl _) rfl)
        · intro w7 k7
          intro u h; obtain rfl := Eq.symm (h (by simp)); clear h
          intro u h; obtain rfl := Eq.symm (h (by simp)); clear h
          intro u h; obtain rfl := Eq.symm (h (by simp)); clear h
          intro u h; obtain rfl := Eq.symm (h (by simp)); clear h
          intro u h; obtain rfl := Eq.symm (h (by simp)); clear h
          intro u h; obtain rfl := Eq.symm (h (by simp)); clear h
          intro u h; obtain rfl := Eq.symm (h (by simp)); clear h
          intro u h; obtain rfl := Eq.symm (h (by simp)); clear h
          intro u h; obtain rfl := Eq.symm (h (by simp)); clear h
          intro u h; obtain rfl := Eq.symm (h (by simp)); clear h
          intro u h; obtain rfl := Eq.symm (h (by simp)); clear h
          refine relyEnd_nil rfl ?_
          simp only [Act.put, List.setIfInBounds_toArray, List.set_cons_zero, List.set_cons_succ]
          refine opr_pick_false rfl rfl ?_
          go_simp
          replace RB := Lib.hid (k7.row RB.out)
          replace R9 := Lib.hid (k7.row R9.out)
          replace R11 := Lib.hid (k7.row R11.out)
          replace HL := Lib.hid (k7.hs HL.out)
          replace HT := Lib.hid (k7.tables HT.out)
          replace HN := Lib.hid (NewT.trans _ _ _ HN.out k7)
          clear k7
          clear HU7
          go_upto_region 10 with fail
          refine wp_region_lit ?_
          refine wpList_plain rfl (fun K hK => ?_)
          refine opr_bsH0 (B := w7.heap.size) rfl (Nat.le_refl _) ?_
          intro u68 w8 hn8 ho8
          refine hK _ _ ?_
          clear hK K
          refine wpList_plain rfl (fun K hK => ?_)
          refine opr_move (.inl rfl) (hK _ _ ?_)
          clear hK K
          simp only [Act.put, List.setIfInBounds_toArray, List.set_cons_zero, List.set_cons_succ]
          refine wpList_plain rfl (fun K hK => ?_)
          obtain ⟨u13, w9, hrun, ho9, hg9⟩ := run_appH ho8 (hn8.hs HL.out) (by have := HLEN.out; simp; omega) hn8.out.size 22
          rw [List.nil_append] at ho9
          refine opr_append rfl rfl rfl hrun (hK _ _ ?_)
          clear hK K
          refine wpList_plain rfl (fun K hK => ?_)
          refine opr_move (.inr rfl) (hK _ _ ?_)
          refine wpList_end rfl ?_
          simp only [Act.put, List.setIfInBounds_toArray, List.set_cons_zero, List.set_cons_succ]
          go_simp
          have k9 := app_below hn8 rfl ho8 hg9
          obtain ⟨g, cc, fc, hu, hgB, hrow, hcl, hcm, hfc⟩ := ho9.rows (by have := HI.out; omega)
          subst hu
          have HGB : Hid (w7.heap.size ≤ g) := Lib.hid hgB
          have hb0 := RB.out.lt
          have hb9 := R9.out.lt
          have hb11 := R11.out.lt
          have HNS : Hid (w.heap.size ≤ w7.heap.size) := Lib.hid HN.out.out.size
          clear hrun ho9 hg9 ho8 hn8
          replace RB := Lib.hid (k9.row RB.out)
          replace R9 := Lib.hid (k9.row R9.out)
          replace R11 := Lib.hid (k9.row R11.out)
          replace HL := Lib.hid (k9.hs HL.out)
          replace HT := Lib.hid (k9.tables HT.out)
          replace HN := Lib.hid (NewT.trans _ _ _ HN.out k9)
          clear k9
          go_upto_region 11 with fail
          refine wp_region_lit ?_
          refine wpList_plain rfl (fun K hK => ?_)
          refine opr_move (.inl rfl) (hK _ _ ?_)
          clear hK K
          refine wpList_plain rfl (fun K hK => ?_)
          refine opr_move (.inl rfl) (hK _ _ ?_)
          clear hK K
          refine wpList_plain rfl (fun K hK => ?_)
          refine opr_load_hash rfl rfl RB.out (hK _ _ ?_)
          clear hK K
          refine wpList_plain rfl (fun K hK => ?_)
          refine opr_idxV (i := i) HI.out rfl rfl rfl (hK _ _ ?_)
          clear hK K
          rw [Nat.zero_add]
          simp only [Act.put, List.setIfInBounds_toArray, List.set_cons_zero, List.set_cons_succ]
          refine wpList_plain rfl (fun K hK => ?_)
          refine opr_putm (F := fun k => if i * 32 ≤ k ∧ k < i * 32 + 32 then bF other (k - i * 32) else fc k) rfl rfl rfl hrow (by have := HI.out; omega) info31 (fun _ => rfl) (fun k hk => rfl) ?_
          intro w10 hR10 hrow'
          refine hK _ _ ?_
          refine wpList_end rfl ?_
          simp only [Act.put, List.setIfInBounds_toArray, List.set_cons_zero, List.set_cons_succ]
          go_simp
          have hU : RdH w10 (.slice (some ⟨g, 0, none⟩) (l.set i other).length cc) (l.set i other) := rdH_rowc hrow' (by rw [HSET.out]; exact hcl) hcm (set_cells HI.out hfc)
          rw [HSET.out] at hU
          have hNw : NewT w w10 := NewT.rt HN.out hR10 (by have := HGB.out; have := HNS.out; omega)
          replace RB := Lib.hid (hR10.row (by have := HGB.out; omega) RB.out)
          replace R9 := Lib.hid (hR10.row (by have := HGB.out; omega) R9.out)
          replace R11 := Lib.hid (hR10.row (by have := HGB.out; omega) R11.out)
          replace HL := Lib.hid (hNw.hs HVV.out)
          replace HT := Lib.hid (hNw.tables HTT.out)
          replace HN := Lib.hid hNw
          obtain ⟨u13, eu⟩ : ∃ u, Value.slice (some ⟨g, 0, none⟩) l.length cc = u := ⟨_, rfl⟩
          rw [eu] at hU ⊢
          have HU13 := Lib.hid hU
          have HSM0 : Hid (eqH other e = true → eqH (rootM node z l) (rootM node z (l.set i other)) = true) := Lib.hid fun h => root_same hX l i e other HE.out h
          clear hR10 hrow' hrow hcl hcm hfc hU hNw eu hgB hb0 hb9 hb11
          go_upto_region 12 with fail
          by_cases heq : eqH other e = true
          · have HNE := Lib.hid heq
            have HSM := Lib.hid (HSM0.out heq)
            refine wp_region_rely (NewT) [SV.eq (.agg (rowA 32 (bF (rootM node z (l.set i other))))), SV.eq (u13), SV.eq (.agg (rowA 32 (bF (rootM node z ((l.set i other)))))), SV.eq (.bool true), SV.eq (.bool true), SV.eq (.agg (rowA 32 (bF (other)))), SV.eq (v), SV.eq (.int .i64 ((i : Int))), svP (e), SV.eq (.agg (rowA 32 (bF (e)))), SV.eq (.bool false), SV.eq (.bool false), SV.eq (.agg (rowA 32 (bF (rootM node z l)))), SV.eq (.agg (rowA 32 (bF (rootM node z (l.set i other))))), SV.eq (.bool true), SV.eq (.bool true), SV.eq (.bool true)] [([(11, none)], none), ([(13, none)], none), ([(76, some 1)], none), ([(75, some 0), (77, some 2)], none), ([(78, some 3)], none), ([(5, none), (79, some 4)], some (79, true)), ([(0, none), (79, some 4)], some (79, true)), ([(1, none), (79, some 4)], some (79, true)), ([(81, some 6), (82, some 7), (79, some 4)], some (79, true)), ([(83, some 8), (79, some 4)], some (79, true)), ([(80, some 5), (84, some 9), (79, some 4)], some (79, true)), ([(85, some 10), (79, some 4)], some (79, true)), ([(9, none), (86, some 11)], some (86, false)), ([(11, none), (86, some 11)], some (86, false)), ([(87, some 12), (88, some 13), (86, some 11)], some (86, false)), ([(86, some 11), (89, some 14), (79, some 4)], some (79, true)), ([(79, some 4), (90, some 15)], none)] 92 rfl (by kernel_rfl) rfl (by kernel_rfl) (by kernel_rfl) rfl NewT.trans (NewT.drew _) (Nat.le_of_ble_eq_true rfl) ⟨?_, ?_, ?_, ?_, ?_, ?_, ?_, ?_, ?_, ?_, ?_, ?_, ?_, ?_, ?_, ?_, ?_, trivial⟩ ?_
            · intro a wx hT hF K hK
              obtain ⟨f11, _⟩ := hF
              have f11 : a.tmps.getD 11 undef = .pointer (some ⟨p11, 0, none⟩) := f11
              refine rely_wp rfl ?_
              exact opr_load_hash rfl f11 (hT.row R11.out) (hK _ _ (NewT.refl _) rfl)
            · intro a wx hT hF K hK
              obtain ⟨f13, _⟩ := hF
              have f13 : a.tmps.getD 13 undef = u13 := f13
              refine rely_wp rfl ?_
              exact opr_move (.inl rfl) (hK _ _ (NewT.refl _) f13)
            · intro a wx hT hF K hK
              obtain ⟨f76, _⟩ := hF
              have f76 : a.tmps.getD 76 undef = u13 := f76
              refine rely_wp rfl ?_
              exact opr_cv (Root_cv hX _ _ ((l.set i other)) wx (hT.tables HT.out) ((hT.hs HU13.out)) (Nat.le_refl _) (by have := HLEN.out; simp; omega)) rfl Tryd.func24 (by kernel_rfl) (by kernel_rfl) (by simp only [List.map_toArray, List.map_cons, List.map_nil, eval_tmp, f76]) hK
            · intro a wx hT hF K hK
              obtain ⟨f75, f77, _⟩ := hF
              have f75 : a.tmps.getD 75 undef = .agg (rowA 32 (bF (rootM node z (l.set i other)))) := f75
              have f77 : a.tmps.getD 77 undef = .agg (rowA 32 (bF (rootM node z ((l.set i other))))) := f77
              refine rely_wp rfl ?_
              exact opr_eql_hash (b := true) rfl f75 f77 (eqH_same _) (hK _ _ (NewT.refl _) rfl)
            · intro a wx hT hF K hK
              obtain ⟨f78, _⟩ := hF
              have f78 : a.tmps.getD 78 undef = .bool true := f78
              refine rely_wp rfl ?_
              exact opr_move (.inl rfl) (hK _ _ (NewT.refl _) f78)
            · intro a wx hT hF K hK
              obtain ⟨f5, f79, _⟩ := hF
              have f5 : a.tmps.getD 5 undef = .pointer (some ⟨w.heap.size, 0, none⟩) := f5
              have f79 : a.tmps.getD 79 undef = .bool true := f79
              refine rely_wp (rely_guard f79) ?_
              exact opr_load_hash rfl f5 (hT.row RB.out) (hK _ _ (NewT.refl _) rfl)
            · intro a wx hT hF K hK
              obtain ⟨f0, f79, _⟩ := hF
              have f0 : a.tmps.getD 0 undef = v := f0
              have f79 : a.tmps.getD 79 undef = .bool true := f79
              refine rely_wp (rely_guard f79) ?_
              exact opr_move (.inl rfl) (hK _ _ (NewT.refl _) f0)
            · intro a wx hT hF K hK
              obtain ⟨f1, f79, _⟩ := hF
              have f1 : a.tmps.getD 1 undef = .int .i64 ((i : Int)) := f1
              have f79 : a.tmps.getD 79 undef = .bool true := f79
              refine rely_wp (rely_guard f79) ?_
              exact opr_move (.inl rfl) (hK _ _ (NewT.refl _) f1)
            · intro a wx hT hF K hK
              obtain ⟨f81, f82, f79, _⟩ := hF
              have f81 : a.tmps.getD 81 undef = v := f81
              have f82 : a.tmps.getD 82 undef = .int .i64 ((i : Int)) := f82
              have f79 : a.tmps.getD 79 undef = .bool true := f79
              refine rely_wp (rely_guard f79) ?_
              exact opr_idxH (i := i) (d := e) (HE.out) (rfl) rfl (by rw [eval_tmp, f81]; exact (hT.hs HL.out)) f82 (fun v hv => hK v _ (NewT.refl _) hv)
            · intro a wx hT hF K hK
              obtain ⟨f83, f79, _⟩ := hF
              replace f83 := show (svP (e)).pred (a.tmps.getD 83 undef) wx from f83
              have f79 : a.tmps.getD 79 undef = .bool true := f79
              refine rely_wp (rely_guard f79) ?_
              exact opr_ldP rfl f83 (hK _ _ (NewT.refl _) rfl)
            · intro a wx hT hF K hK
              obtain ⟨f80, f84, f79, _⟩ := hF
              have f80 : a.tmps.getD 80 undef = .agg (rowA 32 (bF (other))) := f80
              have f84 : a.tmps.getD 84 undef = .agg (rowA 32 (bF (e))) := f84
              have f79 : a.tmps.getD 79 undef = .bool true := f79
              refine rely_wp (rely_guard f79) ?_
              exact opr_neq_hash (b := false) rfl f80 f84 ((by rw [HNE.out]; rfl)) (hK _ _ (NewT.refl _) rfl)
            · intro a wx hT hF K hK
              obtain ⟨f85, f79, _⟩ := hF
              have f85 : a.tmps.getD 85 undef = .bool false := f85
              have f79 : a.tmps.getD 79 undef = .bool true := f79
              refine rely_wp (rely_guard f79) ?_
              exact opr_move (.inl rfl) (hK _ _ (NewT.refl _) f85)
            · intro a wx hT hF K hK
              obtain ⟨f9, f86, _⟩ := hF
              have f9 : a.tmps.getD 9 undef = .pointer (some ⟨p9, 0, none⟩) := f9
              have f86 : a.tmps.getD 86 undef = .bool false := f86
              refine rely_wp (rely_guard f86) ?_
              exact opr_load_hash rfl f9 (hT.row R9.out) (hK _ _ (NewT.refl _) rfl)
            · intro a wx hT hF K hK
              obtain ⟨f11, f86, _⟩ := hF
              have f11 : a.tmps.getD 11 undef = .pointer (some ⟨p11, 0, none⟩) := f11
              have f86 : a.tmps.getD 86 undef = .bool false := f86
              refine rely_wp (rely_guard f86) ?_
              exact opr_load_hash rfl f11 (hT.row R11.out) (hK _ _ (NewT.refl _) rfl)
            · intro a wx hT hF K hK
              obtain ⟨f87, f88, f86, _⟩ := hF
              have f87 : a.tmps.getD 87 undef = .agg (rowA 32 (bF (rootM node z l))) := f87
              have f88 : a.tmps.getD 88 undef = .agg (rowA 32 (bF (rootM node z (l.set i other)))) := f88
              have f86 : a.tmps.getD 86 undef = .bool false := f86
              refine rely_wp (rely_guard f86) ?_
              exact opr_eql_hash (b := true) rfl f87 f88 (HSM.out) (hK _ _ (NewT.refl _) rfl)
            · intro a wx hT hF K hK
              obtain ⟨f86, f89, f79, _⟩ := hF
              have f86 : a.tmps.getD 86 undef = .bool false := f86
              have f89 : a.tmps.getD 89 undef = .bool true := f89
              have f79 : a.tmps.getD 79 undef = .bool true := f79
              refine rely_wp (rely_guard f79) ?_
              exact opr_pick_false rfl f86 (hK _ _ (NewT.refl _) f89)
            · intro a wx hT hF K hK
              obtain ⟨f79, f90, _⟩ := hF
              have f79 : a.tmps.getD 79 undef = .bool true := f79
              have f90 : a.tmps.getD 90 undef = .bool true := f90
              refine rely_wp rfl ?_
              exact opr_pick_true rfl f79 (hK _ _ (NewT.refl _) f90)
            · intro we ke
              intro u h; obtain rfl := Eq.symm (h (by simp)); clear h
              intro u h; obtain rfl := Eq.symm (h (by simp)); clear h
              intro u h; obtain rfl := Eq.symm (h (by simp)); clear h
              intro u h; obtain rfl := Eq.symm (h (by simp)); clear h
              intro u h; obtain rfl := Eq.symm (h (by simp)); clear h
              intro u h; obtain rfl := Eq.symm (h (by simp)); clear h
              intro u h; obtain rfl := Eq.symm (h (by simp)); clear h
              intro u h; obtain rfl := Eq.symm (h (by simp)); clear h
              intro _ _
              intro u h; obtain rfl := Eq.symm (h (by simp)); clear h
              intro u h; obtain rfl := Eq.symm (h (by simp)); clear h
              intro u h; obtain rfl := Eq.symm (h (by simp)); clear h
              intro u h; obtain rfl := Eq.symm (h (by simp)); clear h
              intro u h; obtain rfl := Eq.symm (h (by simp)); clear h
              intro u h; obtain rfl := Eq.symm (h (by simp)); clear h
              intro u h; obtain rfl := Eq.symm (h (by simp)); clear h
              intro u h; obtain rfl := Eq.symm (h (by simp)); clear h
              refine relyEnd_nil rfl ?_
              simp only [Act.put, List.setIfInBounds_toArray, List.set_cons_zero, List.set_cons_succ]
              refine opr_move (.inr rfl) ?_
              go_simp
              go_wp2
              go_ret
              exact ⟨rfl, (NewT.trans _ _ _ HN.out ke).out⟩
          · have HNE : Hid (eqH other e = false) := Lib.hid (by simpa using heq)
            refine wp_region_rely (NewT) [SV.eq (.agg (rowA 32 (bF (rootM node z (l.set i other))))), SV.eq (u13), SV.eq (.agg (rowA 32 (bF (rootM node z ((l.set i other)))))), SV.eq (.bool true), SV.eq (.bool true), SV.eq (.agg (rowA 32 (bF (other)))), SV.eq (v), SV.eq (.int .i64 ((i : Int))), svP (e), SV.eq (.agg (rowA 32 (bF (e)))), SV.eq (.bool true), SV.eq (.bool true), SV.eq (undef), SV.eq (undef), SV.eq (undef), SV.eq (.bool true), SV.eq (.bool true)] [([(11, none)], none), ([(13, none)], none), ([(76, some 1)], none), ([(75, some 0), (77, some 2)], none), ([(78, some 3)], none), ([(5, none), (79, some 4)], some (79, true)), ([(0, none), (79, some 4)], some (79, true)), ([(1, none), (79, some 4)], some (79, true)), ([(81, some 6), (82, some 7), (79, some 4)], some (79, true)), ([(83, some 8), (79, some 4)], some (79, true)), ([(80, some 5), (84, some 9), (79, some 4)], some (79, true)), ([(85, some 10), (79, some 4)], some (79, true)), ([(9, none), (86, some 11)], some (86, false)), ([(11, none), (86, some 11)], some (86, false)), ([(87, some 12), (88, some 13), (86, some 11)], some (86, false)), ([(86, some 11), (89, some 14), (79, some 4)], some (79, true)), ([(79, some 4), (90, some 15)], none)] 92 rfl (by kernel_rfl) rfl (by kernel_rfl) (by kernel_rfl) rfl NewT.trans (NewT.drew _) (Nat.le_of_ble_eq_true rfl) ⟨?_, ?_, ?_, ?_, ?_, ?_, ?_, ?_, ?_, ?_, ?_, ?_, ?_, ?_, ?_, ?_, ?_, trivial⟩ ?_
            · intro a wx hT hF K hK
              obtain ⟨f11, _⟩ := hF
              have f11 : a.tmps.getD 11 undef = .pointer (some ⟨p11, 0, none⟩) := f11
              refine rely_wp rfl ?_
              exact opr_load_hash rfl f11 (hT.row R11.out) (hK _ _ (NewT.refl _) rfl)
            · intro a wx hT hF K hK
              obtain ⟨f13, _⟩ := hF
              have f13 : a.tmps.getD 13 undef = u13 := f13
              refine rely_wp rfl ?_
              exact opr_move (.inl rfl) (hK _ _ (NewT.refl _) f13)
            · intro a wx hT hF K hK
              obtain ⟨f76, _⟩ := hF
              have f76 : a.tmps.getD 76 undef = u13 := f76
              refine rely_wp rfl ?_
              exact opr_cv (Root_cv hX _ _ ((l.set i other)) wx (hT.tables HT.out) ((hT.hs HU13.out)) (Nat.le_refl _) (by have := HLEN.out; simp; omega)) rfl Tryd.func24 (by kernel_rfl) (by kernel_rfl) (by simp only [List.map_toArray, List.map_cons, List.map_nil, eval_tmp, f76]) hK
            · intro a wx hT hF K hK
              obtain ⟨f75, f77, _⟩ := hF
              have f75 : a.tmps.getD 75 undef = .agg (rowA 32 (bF (rootM node z (l.set i other)))) := f75
              have f77 : a.tmps.getD 77 undef = .agg (rowA 32 (bF (rootM node z ((l.set i other))))) := f77
              refine rely_wp rfl ?_
              exact opr_eql_hash (b := true) rfl f75 f77 (eqH_same _) (hK _ _ (NewT.refl _) rfl)
            · intro a wx hT hF K hK
              obtain ⟨f78, _⟩ := hF
              have f78 : a.tmps.getD 78 undef = .bool true := f78
              refine rely_wp rfl ?_
              exact opr_move (.inl rfl) (hK _ _ (NewT.refl _) f78)
            · intro a wx hT hF K hK
              obtain ⟨f5, f79, _⟩ := hF
              have f5 : a.tmps.getD 5 undef = .pointer (some ⟨w.heap.size, 0, none⟩) := f5
              have f79 : a.tmps.getD 79 undef = .bool true := f79
              refine rely_wp (rely_guard f79) ?_
              exact opr_load_hash rfl f5 (hT.row RB.out) (hK _ _ (NewT.refl _) rfl)
            · intro a wx hT hF K hK
              obtain ⟨f0, f79, _⟩ := hF
              have f0 : a.tmps.getD 0 undef = v := f0
              have f79 : a.tmps.getD 79 undef = .bool true := f79
              refine rely_wp (rely_guard f79) ?_
              exact opr_move (.inl rfl) (hK _ _ (NewT.refl _) f0)
            · intro a wx hT hF K hK
              obtain ⟨f1, f79, _⟩ := hF
              have f1 : a.tmps.getD 1 undef = .int .i64 ((i : Int)) := f1
              have f79 : a.tmps.getD 79 undef = .bool true := f79
              refine rely_wp (rely_guard f79) ?_
              exact opr_move (.inl rfl) (hK _ _ (NewT.refl _) f1)
            · intro a wx hT hF K hK
              obtain ⟨f81, f82, f79, _⟩ := hF
              have f81 : a.tmps.getD 81 undef = v := f81
              have f82 : a.tmps.getD 82 undef = .int .i64 ((i : Int)) := f82
              have f79 : a.tmps.getD 79 undef = .bool true := f79
              refine rely_wp (rely_guard f79) ?_
              exact opr_idxH (i := i) (d := e) (HE.out) (rfl) rfl (by rw [eval_tmp, f81]; exact (hT.hs HL.out)) f82 (fun v hv => hK v _ (NewT.refl _) hv)
            · intro a wx hT hF K hK
              obtain ⟨f83, f79, _⟩ := hF
              replace f83 := show (svP (e)).pred (a.tmps.getD 83 undef) wx from f83
              have f79 : a.tmps.getD 79 undef = .bool true := f79
              refine rely_wp (rely_guard f79) ?_
              exact opr_ldP rfl f83 (hK _ _ (NewT.refl _) rfl)
            · intro a wx hT hF K hK
              obtain ⟨f80, f84, f79, _⟩ := hF
              have f80 : a.tmps.getD 80 undef = .agg (rowA 32 (bF (other))) := f80
              have f84 : a.tmps.getD 84 undef = .agg (rowA 32 (bF (e))) := f84
              have f79 : a.tmps.getD 79 undef = .bool true := f79
              refine rely_wp (rely_guard f79) ?_
              exact opr_neq_hash (b := true) rfl f80 f84 ((by rw [HNE.out]; rfl)) (hK _ _ (NewT.refl _) rfl)
            · intro a wx hT hF K hK
              obtain ⟨f85, f79, _⟩ := hF
              have f85 : a.tmps.getD 85 undef = .bool true := f85
              have f79 : a.tmps.getD 79 undef = .bool true := f79
              refine rely_wp (rely_guard f79) ?_
              exact opr_move (.inl rfl) (hK _ _ (NewT.refl _) f85)
            · intro a wx hT hF K hK
              obtain ⟨f9, f86, _⟩ := hF
              have f9 : a.tmps.getD 9 undef = .pointer (some ⟨p9, 0, none⟩) := f9
              have f86 : a.tmps.getD 86 undef = .bool true := f86
              exact rely_skip (rely_guard_no f86 (by decide)) (hK _ _ (NewT.refl _) rfl)
            · intro a wx hT hF K hK
              obtain ⟨f11, f86, _⟩ := hF
              have f11 : a.tmps.getD 11 undef = .pointer (some ⟨p11, 0, none⟩) := f11
              have f86 : a.tmps.getD 86 undef = .bool true := f86
              exact rely_skip (rely_guard_no f86 (by decide)) (hK _ _ (NewT.refl _) rfl)
            · intro a wx hT hF K hK
              obtain ⟨f87, f88, f86, _⟩ := hF
              have f87 : a.tmps.getD 87 undef = undef := f87
              have f88 : a.tmps.getD 88 undef = undef := f88
              have f86 : a.tmps.getD 86 undef = .bool true := f86
              exact rely_skip (rely_guard_no f86 (by decide)) (hK _ _ (NewT.refl _) rfl)
            · intro a wx hT hF K hK
              obtain ⟨f86, f89, f79, _⟩ := hF
              have f86 : a.tmps.getD 86 undef = .bool true := f86
              have f89 : a.tmps.getD 89 undef = undef := f89
              have f79 : a.tmps.getD 79 undef = .bool true := f79
              refine rely_wp (rely_guard f79) ?_
              exact opr_pick_true rfl f86 (hK _ _ (NewT.refl _) rfl)
            · intro a wx hT hF K hK
              obtain ⟨f79, f90, _⟩ := hF
              have f79 : a.tmps.getD 79 undef = .bool true := f79
              have f90 : a.tmps.getD 90 undef = .bool true := f90
              refine rely_wp rfl ?_
              exact opr_pick_true rfl f79 (hK _ _ (NewT.refl _) f90)
            · intro we ke
              intro u h; obtain rfl := Eq.symm (h (by simp)); clear h
              intro u h; obtain rfl := Eq.symm (h (by simp)); clear h
              intro u h; obtain rfl := Eq.symm (h (by simp)); clear h
              intro u h; obtain rfl := Eq.symm (h (by simp)); clear h
              intro u h; obtain rfl := Eq.symm (h (by simp)); clear h
              intro u h; obtain rfl := Eq.symm (h (by simp)); clear h
              intro u h; obtain rfl := Eq.symm (h (by simp)); clear h
              intro u h; obtain rfl := Eq.symm (h (by simp)); clear h
              intro _ _
              intro u h; obtain rfl := Eq.symm (h (by simp)); clear h
              intro u h; obtain rfl := Eq.symm (h (by simp)); clear h
              intro u h; obtain rfl := Eq.symm (h (by simp)); clear h
              intro u h; obtain rfl := Eq.symm (h (by simp)); clear h
              intro u h; obtain rfl := Eq.symm (h (by simp)); clear h
              intro u h; obtain rfl := Eq.symm (h (by simp)); clear h
              intro u h; obtain rfl := Eq.symm (h (by simp)); clear h
              intro u h; obtain rfl := Eq.symm (h (by simp)); clear h
              refine relyEnd_nil rfl ?_
              simp only [Act.put, List.setIfInBounds_toArray, List.set_cons_zero, List.set_cons_succ]
              refine opr_move (.inr rfl) ?_
              go_simp
              go_wp2
              go_ret
              exact ⟨rfl, (NewT.trans _ _ _ HN.out ke).out⟩
end Go.Proofs.YtoigjcadncecpaaDoor
