/- A region that draws its order and makes two arrays: beside the conditions of single operations a relation on the frame that each step keeps. -/
import Derived.Test.YteelddmegmojpaaRely2
import Derived.Test.YteelddmegmojpaaCore2
namespace Go.Proofs.Yteelddmegmojpaa
open Go Go.RowKit

def relyStepJ (P : Program) (Q : Exit → Act → World → Prop) (T : World → World → Prop) (V : List (SV T)) (J : Act → World → Prop) (a0 : Act) (w0 : World) (o : Oper) (dp : List (Tmp × Option Nat)) (g : Option (Tmp × Bool)) (c : SV T) : Prop :=
  ∀ (a : Act) (w : World), T w0 w → relyFacts V a0 a w dp → J a w → ∀ K : Act → World → Prop, (∀ v w', T w w' → c.pred v w' → J (a.put o.dst v) w' → K (a.put o.dst v) w') →
    if relyGuard g a then o.wp P a w K Q else K (a.put o.dst undef) w
def relyAllJ (P : Program) (Q : Exit → Act → World → Prop) (T : World → World → Prop) (V : List (SV T)) (J : Act → World → Prop) (a0 : Act) (w0 : World) : List Oper → Deps → List (SV T) → Prop
  | [], _, _ => True
  | o :: r, (dp, g) :: D, c :: C => relyStepJ P Q T V J a0 w0 o dp g c ∧ relyAllJ P Q T V J a0 w0 r D C
  | _, _, _ => False
section
variable {P : Program} {ops : Array Oper} {Q : Exit → Act → World → Prop} {T : World → World → Prop} {V : List (SV T)} {J : Act → World → Prop} {a0 : Act} {w0 : World} {n : Nat} {D : Deps} {init tail : List Oper}
/-- A step that keeps the relation whatever its value is. -/
theorem relyStepJ_of {o : Oper} {dp : List (Tmp × Option Nat)} {g : Option (Tmp × Bool)} {c : SV T} (hj : ∀ a w v w', J a w → T w w' → J (a.put o.dst v) w') (h : relyStep P Q T V a0 w0 o dp g c) : relyStepJ P Q T V J a0 w0 o dp g c :=
  fun a w hT hF hJ K hK => h a w hT hF K fun v w' h1 h2 => hK v w' h1 h2 (hj a w v w' hJ h1)
theorem relyAllJ_at : ∀ (l : List Oper) (D : Deps) (C : List (SV T)) (k : Nat) (o : Oper) dp g, relyAllJ P Q T V J a0 w0 l D C → l[k]? = some o → D[k]? = some (dp, g) → relyStepJ P Q T V J a0 w0 o dp g (C.getD k SV.any)
  | [], _, _, _, _, _, _, _, h, _ => by simp at h
  | x :: r, [], _, _, _, _, _, h, _, _ => h.elim
  | x :: r, y :: D, [], _, _, _, _, h, _, _ => h.elim
  | x :: r, (dp, g) :: D, c :: C, 0, o, dp', g', h, ho, hD => by
    simp at ho hD
    obtain ⟨rfl, rfl⟩ := hD
    subst ho
    exact h.1
  | x :: r, (dp, g) :: D, c :: C, k + 1, o, dp', g', h, ho, hD => by
    have := relyAllJ_at r D C k o dp' g' h.2 (by simpa using ho) (by simpa using hD)
    simpa using this
theorem rely_next (hn : a0.tmps.size = n) (ht : ∀ a b c : World, T a b → T b c → T a c) {i : Nat} {o : Oper} {dp : List (Tmp × Option Nat)} {g : Option (Tmp × Bool)} {listed : Array Bool} {a : Act} {w : World}
    (ho : ops[i]? = some o) (h1 : relyOne ops n i o dp g = true) (h0 : listed.getD i true = false)
    (hall : ∀ e ∈ o.after, Region.binds .any e = true → listed.getD e.on false = true) (inv : RelyInv ops T V a0 w0 listed a w) :
    relyFacts V a0 a w dp ∧ Region.wanted o (yielded ops a.tmps) = relyGuard g a ∧ ∀ v w', T w w' → (V.getD i SV.any).pred v w' → RelyInv ops T V a0 w0 (listed.setIfInBounds i true) (a.put o.dst v) w' := by
  simp only [relyOne, Bool.and_eq_true] at h1
  obtain ⟨⟨⟨hdst, hafter⟩, hdp⟩, hg⟩ := h1
  have waits : ∀ j, Region.waitsFor .any ops i j = true → listed.getD j false = true := fun j hj => by
    obtain ⟨oi, hoi, e, he, hb, hon⟩ := Region.waitsFor_spec hj
    have : oi = o := Option.some.inj (hoi.symm.trans ho)
    subst this
    rw [← hon]
    exact hall e he hb
  have i0 : listed.getD i false = false := getD_both h0
  have hfacts : relyFacts V a0 a w dp := by
      induction dp with
    | nil => trivial
    | cons x r ih2 =>
      simp only [List.all_cons, Bool.and_eq_true] at hdp
      obtain ⟨hx, hr⟩ := hdp
      obtain ⟨d, j⟩ := x
      cases j with
      | some j =>
        simp only [Bool.and_eq_true, beq_iff_eq] at hx
        exact ⟨inv.new j d hx.1 (waits j hx.2), ih2 hr⟩
      | none =>
        refine ⟨inv.old d fun j hj => ?_, ih2 hr⟩
        have hjlt : j < ops.size := by
          unfold relyDst at hj
          cases hoj : ops[j]? with
          | none => simp [hoj] at hj
          | some oj => exact (Array.getElem?_eq_some_iff.1 hoj).1
        have h2 := List.all_eq_true.1 hx j (List.mem_range.2 hjlt)
        simp only [hj, bne_self_eq_false, Bool.false_or, Bool.or_eq_true, decide_eq_true_eq] at h2
        rcases h2 with rfl | h2
        · exact i0
        · cases hlj : listed.getD j false with
          | false => rfl
          | true =>
            obtain ⟨oj, hoj, e, he, hb, hon⟩ := Region.waitsFor_spec h2
            have := inv.closed j oj hoj hlj e he hb
            rw [hon, i0] at this
            cases this
  have hguard : Region.wanted o (yielded ops a.tmps) = relyGuard g a := by
    unfold Region.wanted
    cases hgo : o.guard with
    | none =>
      rw [hgo] at hg
      cases g with
      | none => rfl
      | some x => cases hg
    | some kb =>
      obtain ⟨k, b⟩ := kb
      rw [hgo] at hg
      cases g with
      | none => cases hg
      | some x =>
        obtain ⟨d, b'⟩ := x
        simp only [Bool.and_eq_true, beq_iff_eq, decide_eq_true_eq] at hg
        obtain ⟨⟨⟨rfl, hd⟩, _⟩, hlt⟩ := hg
        have hlt' : d < a.tmps.size := by rw [inv.slots, hn]; exact hlt
        have hd' : (ops[k]?).bind (·.dst) = some d := hd
        simp only [yielded, hd', Option.bind_some, relyGuard, Array.getD_eq_getD_getElem?, Array.getElem?_eq_getElem hlt', Option.getD_some]
        cases a.tmps[d] <;> simp
        all_goals (rename_i x; cases x <;> cases b <;> rfl)
  have next : ∀ v w', T w w' → (V.getD i SV.any).pred v w' → RelyInv ops T V a0 w0 (listed.setIfInBounds i true) (a.put o.dst v) w' := fun v w' hT hv => by
    have hilt : i < listed.size := by rw [inv.size]; exact (Array.getElem?_eq_some_iff.1 ho).1
    refine ⟨by simp [inv.size], fun j oj hj hlj e he hb => ?_, ht _ _ _ inv.now hT, by cases o.dst <;> simp [Act.put, inv.slots], by cases o.dst <;> simp [Act.put, inv.defers], fun j d hj hlj => ?_, fun d hno => ?_⟩
    · by_cases hij : i = j
      · subst hij
        have : oj = o := Option.some.inj (hj.symm.trans ho)
        subst this
        exact getD_set_true (hall e he hb)
      · rw [getD_set_ne false hij] at hlj
        exact getD_set_true (inv.closed j oj hj hlj e he hb)
    · by_cases hij : i = j
      · subst hij
        have hd : o.dst = some d := by simpa [relyDst, ho] using hj
        rw [hd] at hdst
        simp only [Bool.and_eq_true, decide_eq_true_eq] at hdst
        have hlt : d < a.tmps.size := by rw [inv.slots, hn]; exact hdst.1
        rw [hd]
        simpa [Act.put, hlt] using hv
      · rw [getD_set_ne false hij] at hlj
        have h3 := (V.getD j SV.any).stable _ _ _ (inv.new j d hj hlj) hT
        cases hod : o.dst with
        | none => exact h3
        | some d0 =>
          rw [hod] at hdst
          simp only [Bool.and_eq_true, decide_eq_true_eq] at hdst
          have hjlt : j < ops.size := by
            unfold relyDst at hj
            cases hoj : ops[j]? with
            | none => simp [hoj] at hj
            | some oj => exact (Array.getElem?_eq_some_iff.1 hoj).1
          have h4 := List.all_eq_true.1 hdst.2 j (List.mem_range.2 hjlt)
          simp only [Bool.or_eq_true, decide_eq_true_eq, bne_iff_ne, ne_eq] at h4
          have hne : d0 ≠ d := fun e => by
            subst e
            rcases h4 with h4 | h4
            · exact hij h4.symm
            · exact h4 hj
          simpa [Act.put, Array.getElem?_setIfInBounds_ne hne] using h3
    · have hni : o.dst ≠ some d := fun hd => by
        have := hno i (by simp [relyDst, ho, hd])
        simp [hilt] at this
      have hold := inv.old d fun j hj => by
        have hij : i ≠ j := fun e => by subst e; exact hni (by simpa [relyDst, ho] using hj)
        have := hno j hj
        rwa [getD_set_ne false hij] at this
      cases hod : o.dst with
      | none => exact hold
      | some d0 =>
        have hne : d0 ≠ d := fun e => hni (by rw [hod, e])
        simpa [Act.put, Array.getElem?_setIfInBounds_ne hne] using hold
  exact ⟨hfacts, hguard, next⟩
theorem wpAny_relyJ_tail (hsplit : ops.toList = init ++ tail) (hpos : 0 < tail.length) (hn : a0.tmps.size = n) (hB : relyB ops n 0 init D = true) (hsink : Region.sinkB .any ops init.length = true) (htb : tailB ops tail init.length = true) (ht : ∀ a b c : World, T a b → T b c → T a c)
    (hl : init.length ≤ V.length) (hA : relyAllJ P Q T V J a0 w0 init D V) (hE : ∀ w, T w0 w → relyEnd (fun _ a w => J a w → wpList P ops Q tail a w) T init V a0 w) :
    ∀ (fuel : Nat) (listed : Array Bool) (a : Act) (w : World), (unl ops listed).length = fuel → (∀ j, init.length ≤ j → j < ops.size → listed.getD j true = false) → RelyInv ops T V a0 w0 listed a w → J a w → wpAny P .any ops Q fuel listed a w := by
  obtain ⟨hsz, hpre, htl⟩ := split_at hsplit
  have hat : ∀ i o, init[i]? = some o → ∃ dp g, relyOne ops n i o dp g = true ∧ relyStepJ P Q T V J a0 w0 o dp g (V.getD i SV.any) := fun i o hi => by
    obtain ⟨dp, g, hD, h1⟩ := relyB_at init D 0 i o hB hi
    rw [Nat.zero_add] at h1
    exact ⟨dp, g, h1, relyAllJ_at _ _ _ i o dp g hA hi hD⟩
  -- once all of the first ones have come up
  have fin : ∀ (fuel : Nat) (listed : Array Bool) (a : Act) (w : World), (unl ops listed).length = fuel → (∀ j, init.length ≤ j → j < ops.size → listed.getD j true = false) → RelyInv ops T V a0 w0 listed a w → J a w → (∀ j, j < init.length → listed.getD j false = true) → wpAny P .any ops Q fuel listed a w := fun fuel listed a w hu hun inv hJ hdone => by
    have h1 : wpList P ops Q tail a w := rely_all (Q' := fun a w => J a w → wpList P ops Q tail a w) inv
      (fun k o hk => ⟨hpre k o hk, hdone k (List.getElem?_eq_some_iff.1 hk).1⟩) (fun j hj => by
        rcases Nat.lt_or_ge j init.length with h | h
        · exact h
        · rcases Nat.lt_or_ge j ops.size with h' | h'
          · rw [getD_both (hun j h h')] at hj; cases hj
          · have : listed.getD j false = false := by simp [Array.getElem?_eq_none (show listed.size ≤ j by rw [inv.size]; omega)]
            rw [this] at hj; cases hj) hl (hE w inv.now) hJ
    have hf : fuel = tail.length := by
      rw [← hu]
      unfold unl
      have e : (List.range ops.size).filter (fun i => !listed.getD i true) = List.range' init.length tail.length := by
        rw [List.range_eq_range', show ops.size = init.length + tail.length from hsz, ← List.range'_append_1, List.filter_append, List.filter_eq_nil_iff.2, List.filter_eq_self.2]
        · simp
        · intro i hi
          simp only [List.mem_range'_1] at hi
          rw [hun i (by omega) (by omega)]; rfl
        · intro i hi
          simp only [List.mem_range'_1] at hi
          have h2 := hdone i (by omega)
          have h3 : listed.getD i true = true := by
            have hlt : i < listed.size := by rw [inv.size]; omega
            simp [hlt] at h2 ⊢; exact h2
          rw [h3]; simp
      rw [e]; simp
    subst hf
    exact tail_seq hsplit htb tail.length 0 listed a w (by omega) inv.size (by simpa using hdone) (by simpa using hun) (by simpa using h1)
  intro fuel
  induction fuel with
  | zero =>
    intro listed a w hu hun inv hJ
    have : init.length ∈ unl ops listed := by
      unfold unl; rw [List.mem_filter]; exact ⟨List.mem_range.2 (by omega), by rw [hun _ (Nat.le_refl _) (by omega)]; rfl⟩
    rw [List.eq_nil_of_length_eq_zero hu] at this
    cases this
  | succ fuel ih =>
    intro listed a w hu hun inv hJ
    by_cases hdone : ∀ j, j < init.length → listed.getD j false = true
    · exact fin _ listed a w hu hun inv hJ hdone
    · -- none of the last ones may come up yet
      have hlow : ∀ i, i ∈ Region.ready .any ops listed → i < init.length := fun i hi => by
        rcases Nat.lt_or_ge i init.length with h | h
        · exact h
        · exfalso
          obtain ⟨h0, o, ho, hall⟩ := mem_ready.1 hi
          have hilt := (Array.getElem?_eq_some_iff.1 ho).1
          by_cases him : i = init.length
          · subst him
            apply hdone
            have hd : ∀ (d j : Nat), init.length - j = d → j < init.length → listed.getD j false = true := fun d => by
              induction d using Nat.strongRecOn with
              | _ d ihd =>
                intro j hd hj
                have h1 := List.all_eq_true.1 hsink j (List.mem_range.2 hj)
                obtain ⟨t, ht1, ht2⟩ := List.any_eq_true.1 h1
                simp only [Bool.and_eq_true, decide_eq_true_eq] at ht2
                obtain ⟨ot, hot, e, he, hb, hon⟩ := Region.waitsFor_spec ht2.2
                have htle : t ≤ init.length := by have := List.mem_range.1 ht1; omega
                rw [← hon]
                by_cases htm : t = init.length
                · subst htm
                  have : ot = o := Option.some.inj (hot.symm.trans ho)
                  subst this
                  exact hall e he hb
                · exact inv.closed t ot hot (ihd (init.length - t) (by omega) t rfl (by omega)) e he hb
            exact fun j hj => hd _ j rfl hj
          · have h := List.all_eq_true.1 htb (i - init.length) (List.mem_range.2 (by omega))
            simp only [Bool.and_eq_true, Bool.or_eq_true, decide_eq_true_eq] at h
            rw [show init.length + (i - init.length) = i by omega] at h
            rcases h.2 with h | h
            · omega
            · obtain ⟨oi, hoi', e, he, hbe, hon⟩ := Region.waitsFor_spec h
              have : oi = o := Option.some.inj (hoi'.symm.trans ho)
              subst this
              have h1 := hall e he hbe
              rw [hon, getD_both (hun (i - 1) (by omega) (by omega))] at h1
              cases h1
      refine ⟨fun hr => ?_, fun i hi => ?_⟩
      · exfalso
        apply hdone
        intro i
        induction i using Nat.strongRecOn with
        | _ i ih =>
          intro hi
          cases hli : listed.getD i false with
          | true => rfl
          | false =>
            exfalso
            have hmem : i ∈ Region.ready .any ops listed := by
              rw [mem_ready]
              refine ⟨getD_in (by rw [inv.size]; omega) hli, init[i], hpre i _ (List.getElem?_eq_getElem hi), fun e he hb => ?_⟩
              obtain ⟨dp, g, h1, _⟩ := hat i init[i] (List.getElem?_eq_getElem hi)
              simp only [relyOne, Bool.and_eq_true] at h1
              have h2 := (Array.all_eq_true_iff_forall_mem.1 h1.1.1.2) e he
              simp only [hb, Bool.not_true, Bool.false_or, decide_eq_true_eq] at h2
              exact ih e.on h2 (by omega)
            rw [hr] at hmem
            cases hmem
      · have hi' := hlow i hi
        obtain ⟨h0, o, ho, hall⟩ := mem_ready.1 hi
        have hio : init[i]? = some o := by
          have := hpre i init[i] (List.getElem?_eq_getElem hi')
          rw [ho] at this
          rw [List.getElem?_eq_getElem hi', Option.some.inj this]
        obtain ⟨dp, g, h1, hstep⟩ := hat i o hio
        obtain ⟨hfacts, hguard, next⟩ := rely_next hn ht ho h1 h0 hall inv
        have hs := hstep a w inv.now hfacts hJ (fun a' w' => wpAny P .any ops Q fuel (listed.setIfInBounds i true) a' w') (fun v w' hT hv hJ' => ih _ _ w' (by have := unl_set inv.size h0; omega) (fun j hj hj2 => by rw [getD_set_ne true (by omega)]; exact hun j hj hj2) (next v w' hT hv) hJ')
        unfold wpOp
        simp only [ho, hguard]
        split
        · rename_i hw; rw [if_pos hw] at hs; exact .inl hs
        · rename_i hw; rw [if_neg hw] at hs; exact hs
/-- **A region that draws its order, the last operations (from place m on) one behind the other.** -/
theorem wp_region_relyJ_tail {id : Nat} (T : World → World → Prop) (V : List (SV T)) (D : Deps) (n m : Nat) (hm : P.follows .mixedOrders = true) (hn : a0.tmps.size = n) (hlen : (ops.toList.take m).length = m) (hpos : 0 < (ops.toList.drop m).length) (hB : relyB ops n 0 (ops.toList.take m) D = true)
    (hsink : Region.sinkB .any ops m = true) (htb : tailB ops (ops.toList.drop m) m = true) (ht : ∀ a b c : World, T a b → T b c → T a c) (hd : T w0 w0.drew) (hJ0 : J a0 w0.drew) (hl : m ≤ V.length)
    (hA : relyAllJ P Q T V J a0 w0 (ops.toList.take m) D V) (hE : ∀ w, T w0 w → relyEnd (fun _ a w => J a w → wpList P ops Q (ops.toList.drop m) a w) T (ops.toList.take m) V a0 w) : (Code.region id ops true).wp P Q a0 w0 := by
  refine wp_region_any hm ?_
  refine wpAny_relyJ_tail (List.take_append_drop m ops.toList).symm hpos hn hB (by rw [hlen]; exact hsink) (by rw [hlen]; exact htb) ht (by rw [hlen]; exact hl) hA hE ops.size _ a0 w0.drew unl_start (fun j _ hj => by simp [hj]) (rely_start hd) hJ0
end
/-- Two slots hold pointers to different blocks, both there. -/
def TwoPtr (p q : Tmp) (a : Act) (w : World) : Prop :=
  (∀ g, a.tmps.getD p undef = .pointer (some ⟨g, 0, none⟩) → g < w.heap.size) ∧ (∀ g, a.tmps.getD q undef = .pointer (some ⟨g, 0, none⟩) → g < w.heap.size) ∧
    ∀ g g', a.tmps.getD p undef = .pointer (some ⟨g, 0, none⟩) → a.tmps.getD q undef = .pointer (some ⟨g', 0, none⟩) → g ≠ g'
theorem put_other {a : Act} {d : Option Tmp} {p : Tmp} (v : Value) (h : d ≠ some p) : (a.put d v).tmps.getD p undef = a.tmps.getD p undef := by
  cases d with
  | none => rfl
  | some d =>
    have hne : d ≠ p := fun e => h (by rw [e])
    simp [Act.put, Array.getElem?_setIfInBounds_ne hne]
theorem TwoPtr.keep {p q : Tmp} {a : Act} {w w' : World} {d : Option Tmp} {v : Value} (h : TwoPtr p q a w) (hp : d ≠ some p) (hq : d ≠ some q) (hT : NewT w w') : TwoPtr p q (a.put d v) w' := by
  unfold TwoPtr
  rw [put_other v hp, put_other v hq]
  exact ⟨fun g hg => Nat.lt_of_lt_of_le (h.1 g hg) hT.out.size, fun g hg => Nat.lt_of_lt_of_le (h.2.1 g hg) hT.out.size, h.2.2⟩
theorem put_same {a : Act} {p : Tmp} {g g' : Nat} (h : (a.put (some p) (.pointer (some ⟨g, 0, none⟩))).tmps.getD p undef = .pointer (some ⟨g', 0, none⟩)) : g' = g := by
  rcases Nat.lt_or_ge p a.tmps.size with hlt | hge
  · simp [Act.put, hlt] at h; exact h.symm
  · simp [Act.put, undef, Nat.not_lt.2 hge] at h
theorem TwoPtr.first {p q : Tmp} {a : Act} {w : World} {o : Obj} (h : TwoPtr p q a w) (hpq : p ≠ q) : TwoPtr p q (a.put (some p) (.pointer (some ⟨w.heap.size, 0, none⟩))) (w.alloc o) := by
  unfold TwoPtr
  rw [put_other (p := q) (d := some p) _ (by simpa using hpq)]
  refine ⟨fun g hg => by rw [put_same hg]; simp, fun g hg => by have := h.2.1 g hg; simp; omega, fun g g' hg hg' => ?_⟩
  have := h.2.1 g' hg'
  rw [put_same hg]; omega
theorem TwoPtr.second {p q : Tmp} {a : Act} {w : World} {o : Obj} (h : TwoPtr p q a w) (hpq : p ≠ q) : TwoPtr p q (a.put (some q) (.pointer (some ⟨w.heap.size, 0, none⟩))) (w.alloc o) := by
  unfold TwoPtr
  rw [put_other (p := p) (d := some q) _ (by simpa using Ne.symm hpq)]
  refine ⟨fun g hg => by have := h.1 g hg; simp; omega, fun g hg => by rw [put_same hg]; simp, fun g g' hg hg' => ?_⟩
  have := h.1 g hg
  rw [put_same hg']; omega
theorem opr_alloc_at {a : Act} {w : World} {o : Oper} {K : Act → World → Prop} {Q : Exit → Act → World → Prop} (ho : o.op = .alloc 24) (h : K (a.put o.dst (.pointer (some ⟨w.heap.size, 0, none⟩))) (w.alloc (.cells (rowA 32 (bF fun _ => 0)) 24))) : o.wp Try.prog a w K Q := by
  obtain ⟨dst, op, type, pos, after, guard⟩ := o
  simp only at ho
  subst ho
  exact opr_val (s := Instr.alloc 24 true (.tuple #[])) rfl (run_alloc_hash w) h
end Go.Proofs.Yteelddmegmojpaa
