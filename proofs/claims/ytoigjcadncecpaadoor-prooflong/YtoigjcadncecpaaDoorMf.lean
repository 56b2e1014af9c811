/- A region that draws its order, some of whose operations turn a state one behind the other; the state may speak of the frame's slots (of variables that the region itself makes). No program is named here. -/
import Derived.Test.YtoigjcadncecpaaDoorMb
import Derived.Test.YtoigjcadncecpaaDoorMc
import Derived.Test.YtoigjcadncecpaaDoorMd
import Derived.Test.YtoigjcadncecpaaDoorMe
set_option linter.all false
namespace Go.Proofs.YtoigjcadncecpaaDoor
open Go Go.RowKit
set_option maxRecDepth 8000
set_option linter.all false

/-- One operation: it turns phase k into the next one (some k), or keeps whatever phase there is (none); a phase speaks of the frame too. -/
def relyStepA (P : Program) (Q : Exit → Act → World → Prop) (T : World → World → Prop) (V : List (SV T)) (J : Nat → Act → World → Prop) (a0 : Act) (w0 : World) (o : Oper) (dp : List (Tmp × Option Nat)) (g : Option (Tmp × Bool)) (c : SV T) : Option Nat → Prop
  | none => ∀ (a : Act) (w : World), T w0 w → relyFacts V a0 a w dp → ∀ K : Act → World → Prop, (∀ v w', T w w' → (∀ k, J k a w → J k (a.put o.dst v) w') → c.pred v w' → K (a.put o.dst v) w') →
    if relyGuard g a then o.wp P a w K Q else K (a.put o.dst undef) w
  | some k => ∀ (a : Act) (w : World), T w0 w → relyFacts V a0 a w dp → J k a w → ∀ K : Act → World → Prop, (∀ v w', T w w' → J (k + 1) (a.put o.dst v) w' → c.pred v w' → K (a.put o.dst v) w') →
    if relyGuard g a then o.wp P a w K Q else K (a.put o.dst undef) w
def relyAllA (P : Program) (Q : Exit → Act → World → Prop) (T : World → World → Prop) (V : List (SV T)) (J : Nat → Act → World → Prop) (a0 : Act) (w0 : World) : List Oper → Deps → List (SV T) → List (Option Nat) → Prop
  | [], _, _, _ => True
  | o :: r, (dp, g) :: D, c :: C, s :: S => relyStepA P Q T V J a0 w0 o dp g c s ∧ relyAllA P Q T V J a0 w0 r D C S
  | _, _, _, _ => False
section
variable {P : Program} {ops : Array Oper} {Q : Exit → Act → World → Prop} {T : World → World → Prop} {V : List (SV T)} {J : Nat → Act → World → Prop} {a0 : Act} {w0 : World} {n : Nat} {D : Deps} {S : List (Option Nat)} {path : List Nat} {init : List Oper} {last : Oper}
theorem relyAllA_at : ∀ (l : List Oper) (D : Deps) (C : List (SV T)) (S : List (Option Nat)) (k : Nat) (o : Oper) dp g, relyAllA P Q T V J a0 w0 l D C S → l[k]? = some o → D[k]? = some (dp, g) → relyStepA P Q T V J a0 w0 o dp g (C.getD k SV.any) (S.getD k none)
  | [], _, _, _, _, _, _, _, _, h, _ => by simp at h
  | x :: r, [], _, _, _, _, _, _, h, _, _ => h.elim
  | x :: r, y :: D, [], _, _, _, _, _, h, _, _ => h.elim
  | x :: r, y :: D, c :: C, [], _, _, _, _, h, _, _ => h.elim
  | x :: r, (dp, g) :: D, c :: C, s :: S, 0, o, dp', g', h, ho, hD => by
    simp at ho hD
    obtain ⟨rfl, rfl⟩ := hD
    subst ho
    exact h.1
  | x :: r, (dp, g) :: D, c :: C, s :: S, k + 1, o, dp', g', h, ho, hD => by
    have := relyAllA_at r D C S k o dp' g' h.2 (by simpa using ho) (by simpa using hD)
    simpa using this
/-- So many of the path's operations have come up. -/
structure PhInvA (path : List Nat) (J : Nat → Act → World → Prop) (listed : Array Bool) (a : Act) (w : World) (k : Nat) : Prop where
  le : k ≤ path.length
  done : ∀ j i, j < k → path[j]? = some i → listed.getD i false = true
  left : ∀ j i, k ≤ j → path[j]? = some i → listed.getD i false = false
  now : J k a w
theorem phA_other {listed : Array Bool} {a a' : Act} {w w' : World} {k i : Nat} (h : PhInvA path J listed a w k) (hi : i ∉ path) (hJ : J k a' w') : PhInvA path J (listed.setIfInBounds i true) a' w' k := by
  have hne : ∀ (j x : Nat), path[j]? = some x → i ≠ x := fun j x hx e => hi (e ▸ List.mem_of_getElem? hx)
  exact ⟨h.le, fun j x hj hx => by rw [getD_set_ne false (hne j x hx)]; exact h.done j x hj hx, fun j x hj hx => by rw [getD_set_ne false (hne j x hx)]; exact h.left j x hj hx, hJ⟩
theorem phA_own (hnd : path.Nodup) {listed : Array Bool} {a a' : Act} {w w' : World} {k i : Nat} (hlt : i < listed.size) (h : PhInvA path J listed a w k) (hi : path[k]? = some i) (hJ : J (k + 1) a' w') : PhInvA path J (listed.setIfInBounds i true) a' w' (k + 1) := by
  have hk : k < path.length := (List.getElem?_eq_some_iff.1 hi).1
  have hinj : ∀ (j x : Nat), path[j]? = some x → j ≠ k → i ≠ x := fun j x hx hjk e => by
    subst e
    obtain ⟨h1, h2⟩ := List.getElem?_eq_some_iff.1 hx
    obtain ⟨h3, h4⟩ := List.getElem?_eq_some_iff.1 hi
    exact hjk ((List.getElem_inj hnd).1 (h2.trans h4.symm))
  refine ⟨hk, fun j x hj hx => ?_, fun j x hj hx => ?_, hJ⟩
  · by_cases e : j = k
    · subst e
      rw [hi] at hx
      cases hx
      simp [hlt]
    · rw [getD_set_ne false (hinj j x hx e)]; exact h.done j x (by omega) hx
  · rw [getD_set_ne false (hinj j x hx (by omega))]; exact h.left j x (by omega) hx
theorem wpAny_relyA {Q2 : Exit → Act → World → Prop} (hQ : ∀ (o : Oper) (a : Act) (w : World) (K : Act → World → Prop), a.defers = a0.defers → o.wp P a w K Q2 → o.wp P a w K Q) (hsplit : ops.toList = init ++ [last]) (hn : a0.tmps.size = n) (hB : relyB ops n 0 init D = true) (hlast : lastB ops last init.length = true) (hg : last.guard = none) (ht : ∀ a b c : World, T a b → T b c → T a c)
    (hpath : pathB ops path = true) (hplace : placesB path S = true) (hSl : S.length = init.length) (hpl : ∀ i ∈ path, i < init.length)
    (hl : init.length ≤ V.length) (hA : relyAllA P Q2 T V J a0 w0 init D V S) (hE : ∀ w, T w0 w → relyEnd (fun _ a w => J path.length a w → last.wp P a w (fun a' w' => Q .normal a' w') Q) T init V a0 w) :
    ∀ (fuel : Nat) (listed : Array Bool) (a : Act) (w : World) (k : Nat), (unl ops listed).length = fuel → listed.getD init.length true = false → RelyInv ops T V a0 w0 listed a w → PhInvA path J listed a w k → wpAny P .any ops Q fuel listed a w := by
  obtain ⟨hlo, hsz, hpre⟩ := last_at hsplit
  simp only [lastB, Bool.and_eq_true] at hlast
  simp only [placesB, Bool.and_eq_true, decide_eq_true_eq] at hplace
  obtain ⟨hnd, hpos⟩ := hplace
  have hS : ∀ i, i < init.length → S.getD i none = path.findIdx? (· == i) := fun i hi => by
    have := List.all_eq_true.1 hpos i (List.mem_range.2 (by omega))
    simpa using this
  have hat : ∀ i o, init[i]? = some o → ∃ dp g, relyOne ops n i o dp g = true ∧ relyStepA P Q2 T V J a0 w0 o dp g (V.getD i SV.any) (path.findIdx? (· == i)) := fun i o hi => by
    obtain ⟨dp, g, hD, h1⟩ := relyB_at init D 0 i o hB hi
    rw [Nat.zero_add] at h1
    refine ⟨dp, g, h1, ?_⟩
    rw [← hS i (List.getElem?_eq_some_iff.1 hi).1]
    exact relyAllA_at _ _ _ _ i o dp g hA hi hD
  intro fuel
  induction fuel with
  | zero =>
    intro listed a w k hu hun inv _
    have : init.length ∈ unl ops listed := by
      unfold unl; rw [List.mem_filter]; exact ⟨List.mem_range.2 (by omega), by rw [hun]; rfl⟩
    rw [List.eq_nil_of_length_eq_zero hu] at this
    cases this
  | succ fuel ih =>
    intro listed a w k hu hun inv ph
    refine ⟨fun hr => ?_, fun i hi => ?_⟩
    · exfalso
      have all : ∀ i, i < init.length → listed.getD i false = true := fun i => by
        induction i using Nat.strongRecOn with
        | _ i ih =>
          intro hi
          cases hli : listed.getD i false with
          | true => rfl
          | false =>
            exfalso
            have hmem : i ∈ Region.ready .any ops listed := by
              rw [mem_ready]
              refine ⟨getD_in (by rw [inv.size]; omega) hli, init[i], hpre i _ (List.getElem?_eq_getElem hi), fun e he hb => ?_⟩
              obtain ⟨dp, g, h1, _⟩ := hat i init[i] (List.getElem?_eq_getElem hi)
              simp only [relyOne, Bool.and_eq_true] at h1
              have h2 := (Array.all_eq_true_iff_forall_mem.1 h1.1.1.2) e he
              simp only [hb, Bool.not_true, Bool.false_or, decide_eq_true_eq] at h2
              exact ih e.on h2 (by omega)
            rw [hr] at hmem
            cases hmem
      have hmem : init.length ∈ Region.ready .any ops listed := by
        rw [mem_ready]
        refine ⟨hun, last, hlo, fun e he hb => ?_⟩
        have h2 := (Array.all_eq_true_iff_forall_mem.1 hlast.2) e he
        simp only [hb, Bool.not_true, Bool.false_or, decide_eq_true_eq] at h2
        exact all e.on h2
      rw [hr] at hmem
      cases hmem
    · obtain ⟨h0, o, ho, hall⟩ := mem_ready.1 hi
      have hilt := (Array.getElem?_eq_some_iff.1 ho).1
      by_cases him : i = init.length
      · subst him
        have hol : o = last := Option.some.inj (ho.symm.trans hlo)
        subst hol
        have hdone : ∀ (d j : Nat), init.length - j = d → j < init.length → listed.getD j false = true := fun d => by
          induction d using Nat.strongRecOn with
          | _ d ihd =>
            intro j hd hj
            have h1 := List.all_eq_true.1 hlast.1 j (List.mem_range.2 hj)
            obtain ⟨t, ht1, ht2⟩ := List.any_eq_true.1 h1
            simp only [Bool.and_eq_true, decide_eq_true_eq] at ht2
            obtain ⟨ot, hot, e, he, hb, hon⟩ := Region.waitsFor_spec ht2.2
            have htle : t ≤ init.length := by have := List.mem_range.1 ht1; omega
            rw [← hon]
            by_cases htm : t = init.length
            · subst htm
              have : ot = o := Option.some.inj (hot.symm.trans ho)
              subst this
              exact hall e he hb
            · exact inv.closed t ot hot (ihd (init.length - t) (by omega) t rfl (by omega)) e he hb
        replace hdone : ∀ j, j < init.length → listed.getD j false = true := fun j hj => hdone _ j rfl hj
        have hk : k = path.length := by
          rcases Nat.lt_or_ge k path.length with h | h
          · exfalso
            have h1 := ph.left k path[k] (Nat.le_refl _) (List.getElem?_eq_getElem h)
            rw [hdone _ (hpl _ (List.getElem_mem h))] at h1
            cases h1
          · have := ph.le; omega
        subst hk
        have hJ := ph.now
        have h1 : J path.length a w → o.wp P a w (fun a' w' => Q .normal a' w') Q := rely_all (Q' := fun a w => J path.length a w → o.wp P a w (fun a' w' => Q .normal a' w') Q) inv
          (fun k o hk => ⟨hpre k o hk, hdone k (List.getElem?_eq_some_iff.1 hk).1⟩) (fun j hj => by
            rcases Nat.lt_or_ge j init.length with h | h
            · exact h
            · rcases Nat.eq_or_lt_of_le h with h | h
              · subst h; rw [getD_both hun] at hj; cases hj
              · have : listed.getD j false = false := by simp [Array.getElem?_eq_none (show listed.size ≤ j by rw [inv.size]; omega)]
                rw [this] at hj; cases hj) hl (hE w inv.now)
        have hK : ∀ a' w', Q .normal a' w' → wpAny P .any ops Q fuel (listed.setIfInBounds init.length true) a' w' := fun a' w' h => wpAny_done (ready_none fun j hj => by
          by_cases hj2 : j = init.length
          · subst hj2; simp [show init.length < listed.size by rw [inv.size]; exact hj]
          · exact getD_set_true (hdone j (by omega))) h _
        unfold wpOp
        simp only [hlo, Region.wanted, hg, if_true]
        exact .inl (Oper.wp_mono hK (h1 hJ))
      · have hi' : i < init.length := by omega
        have hio : init[i]? = some o := by
          have := hpre i init[i] (List.getElem?_eq_getElem hi')
          rw [ho] at this
          rw [List.getElem?_eq_getElem hi', Option.some.inj this]
        obtain ⟨dp, g, h1, hstep⟩ := hat i o hio
        obtain ⟨hfacts, hguard, next⟩ := rely_next hn ht ho h1 h0 hall inv
        have i0 : listed.getD i false = false := getD_both h0
        have hs : if relyGuard g a then o.wp P a w (fun a' w' => wpAny P .any ops Q fuel (listed.setIfInBounds i true) a' w') Q2 else wpAny P .any ops Q fuel (listed.setIfInBounds i true) (a.put o.dst undef) w := by
          cases hf : path.findIdx? (· == i) with
          | none =>
            rw [hf] at hstep
            have hni : i ∉ path := fun hm => by
              rw [List.findIdx?_eq_none_iff] at hf
              have := hf i hm
              simp at this
            exact hstep a w inv.now hfacts (fun a' w' => wpAny P .any ops Q fuel (listed.setIfInBounds i true) a' w') (fun v w' hT hJ hv => ih _ _ w' k (by have := unl_set inv.size h0; omega) (by rw [getD_set_ne true him]; exact hun) (next v w' hT hv) (phA_other ph hni (hJ k ph.now)))
          | some j =>
            rw [hf] at hstep
            have hpj : path[j]? = some i := by
              obtain ⟨h1, h2, _⟩ := List.findIdx?_eq_some_iff_getElem.1 hf
              rw [List.getElem?_eq_getElem h1]
              simpa using h2
            have hkj : k = j := by
              rcases Nat.lt_trichotomy j k with h | h | h
              · have := ph.done j i h hpj
                rw [i0] at this; cases this
              · exact h.symm
              · exfalso
                obtain ⟨j', rfl⟩ : ∃ j', j = j' + 1 := ⟨j - 1, by omega⟩
                have hlj : j' < path.length := by have := (List.getElem?_eq_some_iff.1 hpj).1; omega
                have hw := pathB_at path j' path[j'] i hpath (List.getElem?_eq_getElem hlj) hpj
                obtain ⟨oi, hoi, e, he, hb, hon⟩ := Region.waitsFor_spec hw
                have : oi = o := Option.some.inj (hoi.symm.trans ho)
                subst this
                have h2 := hall e he hb
                rw [hon, ph.left j' _ (by omega) (List.getElem?_eq_getElem hlj)] at h2
                cases h2
            subst hkj
            exact hstep a w inv.now hfacts ph.now (fun a' w' => wpAny P .any ops Q fuel (listed.setIfInBounds i true) a' w') (fun v w' hT hJ hv => ih _ _ w' (k + 1) (by have := unl_set inv.size h0; omega) (by rw [getD_set_ne true him]; exact hun) (next v w' hT hv) (phA_own hnd (by rw [inv.size]; exact hilt) ph hpj hJ))
        unfold wpOp
        simp only [ho, hguard]
        split
        · rename_i hw; rw [if_pos hw] at hs; exact .inl (hQ _ _ _ _ inv.defers hs)
        · rename_i hw; rw [if_neg hw] at hs; exact hs
/-- **A region that draws its order and turns a state step by step, of which the frame is part.** -/
theorem wp_region_relyA {id : Nat} {Q2 : Exit → Act → World → Prop} (hQ : ∀ (o : Oper) (a : Act) (w : World) (K : Act → World → Prop), a.defers = a0.defers → o.wp P a w K Q2 → o.wp P a w K Q) (T : World → World → Prop) (J : Nat → Act → World → Prop) (V : List (SV T)) (D : Deps) (S : List (Option Nat)) (path : List Nat) (n : Nat) (hla : ops.toList.getLast? = some last) (hm : P.follows .mixedOrders = true) (hn : a0.tmps.size = n) (hB : relyB ops n 0 ops.toList.dropLast D = true)
    (hlast : lastB ops last ops.toList.dropLast.length = true) (hg : last.guard = none) (hpath : (pathB ops path && placesB path S && decide (S.length = ops.toList.dropLast.length) && path.all fun i => decide (i < ops.toList.dropLast.length)) = true)
    (ht : ∀ a b c : World, T a b → T b c → T a c) (hd : T w0 w0.drew) (hJ : J 0 a0 w0.drew) (hl : ops.toList.dropLast.length ≤ V.length)
    (hA : relyAllA P Q2 T V J a0 w0 ops.toList.dropLast D V S) (hE : ∀ w, T w0 w → relyEnd (fun _ a w => J path.length a w → last.wp P a w (fun a' w' => Q .normal a' w') Q) T ops.toList.dropLast V a0 w) : (Code.region id ops true).wp P Q a0 w0 := by
  have hsplit := split_last hla
  obtain ⟨_, hsz, _⟩ := last_at hsplit
  simp only [Bool.and_eq_true, decide_eq_true_eq] at hpath
  obtain ⟨⟨⟨h1, h2⟩, h3⟩, h4⟩ := hpath
  refine wp_region_any hm ?_
  exact wpAny_relyA hQ hsplit hn hB hlast hg ht h1 h2 h3 (fun i hi => by simpa using List.all_eq_true.1 h4 i hi) hl hA hE ops.size _ a0 w0.drew 0 unl_start (by
    have hlt : ops.toList.dropLast.length < ops.size := by omega
    generalize ops.toList.dropLast.length = m at hlt
    simp [hlt]) (rely_start hd) ⟨Nat.zero_le _, fun j i hj => by omega, fun j i _ _ => getD_replicate_false .., hJ⟩
theorem wp_region_relyA0 {id : Nat} (T : World → World → Prop) (J : Nat → Act → World → Prop) (V : List (SV T)) (D : Deps) (S : List (Option Nat)) (path : List Nat) (n : Nat) (hla : ops.toList.getLast? = some last) (hm : P.follows .mixedOrders = true) (hn : a0.tmps.size = n) (hB : relyB ops n 0 ops.toList.dropLast D = true)
    (hlast : lastB ops last ops.toList.dropLast.length = true) (hg : last.guard = none) (hpath : (pathB ops path && placesB path S && decide (S.length = ops.toList.dropLast.length) && path.all fun i => decide (i < ops.toList.dropLast.length)) = true)
    (ht : ∀ a b c : World, T a b → T b c → T a c) (hd : T w0 w0.drew) (hJ : J 0 a0 w0.drew) (hl : ops.toList.dropLast.length ≤ V.length)
    (hA : relyAllA P Q T V J a0 w0 ops.toList.dropLast D V S) (hE : ∀ w, T w0 w → relyEnd (fun _ a w => J path.length a w → last.wp P a w (fun a' w' => Q .normal a' w') Q) T ops.toList.dropLast V a0 w) : (Code.region id ops true).wp P Q a0 w0 :=
  wp_region_relyA (fun _ _ _ _ _ h => h) T J V D S path n hla hm hn hB hlast hg hpath ht hd hJ hl hA hE
end
end Go.Proofs.YtoigjcadncecpaaDoor
/- A region that draws its order and makes some rows of hashes: they are different ones. -/
namespace Go.Proofs.YtoigjcadncecpaaDoor
open Go Go.RowKit
set_option maxRecDepth 8000
set_option linter.all false
/-- Slots hold pointers to different blocks, all there. -/
def ManyPtr (ps : List Tmp) (a : Act) (w : World) : Prop :=
  (∀ p ∈ ps, ∀ g, a.tmps.getD p undef = .pointer (some ⟨g, 0, none⟩) → g < w.heap.size) ∧
    ∀ p ∈ ps, ∀ q ∈ ps, p ≠ q → ∀ g g', a.tmps.getD p undef = .pointer (some ⟨g, 0, none⟩) → a.tmps.getD q undef = .pointer (some ⟨g', 0, none⟩) → g ≠ g'
theorem ManyPtr.keep {ps : List Tmp} {a : Act} {w w' : World} {d : Option Tmp} {v : Value} (h : ManyPtr ps a w) (hd : ∀ p ∈ ps, d ≠ some p) (hT : NewT w w') : ManyPtr ps (a.put d v) w' := by
  refine ⟨fun p hp g hg => ?_, fun p hp q hq hpq g g' hg hg' => ?_⟩
  · rw [put_other v (hd p hp)] at hg
    exact Nat.lt_of_lt_of_le (h.1 p hp g hg) hT.out.size
  · rw [put_other v (hd p hp)] at hg
    rw [put_other v (hd q hq)] at hg'
    exact h.2 p hp q hq hpq g g' hg hg'
theorem ManyPtr.make {ps : List Tmp} {p : Tmp} {a : Act} {w : World} {o : Obj} (h : ManyPtr ps a w) : ManyPtr ps (a.put (some p) (.pointer (some ⟨w.heap.size, 0, none⟩))) (w.alloc o) := by
  have old : ∀ q ∈ ps, q ≠ p → ∀ g, (a.put (some p) (.pointer (some ⟨w.heap.size, 0, none⟩))).tmps.getD q undef = .pointer (some ⟨g, 0, none⟩) → g < w.heap.size ∧ a.tmps.getD q undef = .pointer (some ⟨g, 0, none⟩) := fun q hq hqp g hg => by
    rw [put_other (p := q) (d := some p) _ (by simpa using Ne.symm hqp)] at hg
    exact ⟨h.1 q hq g hg, hg⟩
  refine ⟨fun q hq g hg => ?_, fun q hq r hr hqr g g' hg hg' => ?_⟩
  · by_cases e : q = p
    · subst e; rw [put_same hg]; simp
    · have := (old q hq e g hg).1; simp; omega
  · by_cases e : q = p
    · subst e
      have := (old r hr (Ne.symm hqr) g' hg').1
      rw [put_same hg]; omega
    · by_cases e' : r = p
      · subst e'
        have := (old q hq e g hg).1
        rw [put_same hg']; omega
      · exact h.2 q hq r hr hqr g g' (old q hq e g hg).2 (old r hr e' g' hg').2
/-- A new row of hashes, behind B. -/
def svNw (B : Nat) : SV NewT := ⟨fun v w => ∃ g, v = .pointer (some ⟨g, 0, none⟩) ∧ B ≤ g ∧ w.rowIs g 29 32 (bF fun _ => 0), fun _ _ _ ⟨g, h1, h2, h3⟩ hT => ⟨g, h1, h2, hT.row h3⟩⟩
end Go.Proofs.YtoigjcadncecpaaDoor
/- Steps of a region that write rows that the region itself makes: what lay there ahead of it stays, rows stay rows. -/
namespace Go.Proofs.YtoigjcadncecpaaDoor
open Go Go.RowKit
set_option maxRecDepth 8000
set_option linter.all false
/-- Blocks from B on alone are written, and rows stay rows. -/
structure TB (B : Nat) (w w' : World) : Prop where
  below : Below B w w'
  rows : ∀ g t n f, w.rowIs g t n f → ∃ f', w'.rowIs g t n f'
theorem TB.trans {B : Nat} (x y z : World) (h : TB B x y) (k : TB B y z) : TB B x z := ⟨h.below.trans k.below, fun g t n f hr => by obtain ⟨f1, h1⟩ := h.rows g t n f hr; exact k.rows g t n f1 h1⟩
theorem TB.of_new {B : Nat} {w w' : World} (hB : B ≤ w.heap.size) (h : NewT w w') : TB B w w' := ⟨h.out.mono hB, fun g t n f hr => ⟨f, h.row hr⟩⟩
theorem TB.drew (B : Nat) (w : World) : TB B w w.drew := ⟨(Below.refl _ w).drew, fun g t n f hr => ⟨f, hr.of_block rfl⟩⟩
theorem TB.refl (B : Nat) (w : World) : TB B w w := ⟨Below.refl _ _, fun g t n f hr => ⟨f, hr⟩⟩
theorem TB.out {w w' : World} {B : Nat} (h : TB B w w') (hB : w.heap.size ≤ B) : NewT w w' := NewT.of (h.below.mono hB)
theorem TB.size {B : Nat} {w w' : World} (h : TB B w w') : w.heap.size ≤ w'.heap.size := h.below.size
theorem TB.of_rt {B g t n : Nat} {f f' : Nat → Value} {w w' : World} (h : RT g w w') (hg : B ≤ g) (hr : w.rowIs g t n f) (hr' : w'.rowIs g t n f') : TB B w w' := by
  refine ⟨h.below.mono hg, fun k t2 n2 f2 hk => ?_⟩
  by_cases e : k = g
  · subst e
    obtain ⟨c1, e1, s1, q1⟩ := hr
    obtain ⟨c2, e2, s2, q2⟩ := hk
    rw [e1] at e2
    cases e2
    obtain ⟨c3, e3, s3, q3⟩ := hr'
    exact ⟨f', c3, e3, by omega, fun i hi => q3 i (by omega)⟩
  · exact ⟨f2, h.row e hk⟩
/-- A pointer to a block. -/
def svPt {T : World → World → Prop} : SV T := ⟨fun v _ => ∃ g, v = .pointer (some ⟨g, 0, none⟩), fun _ _ _ h _ => h⟩
/-- The rows of hashes that the region made, behind B: slots and what they hold. -/
def VarsAt (B : Nat) (ps : List (Tmp × Hs)) (a : Act) (w : World) : Prop := ManyPtr (ps.map (·.1)) a w ∧ ∀ p ∈ ps, ∀ g, a.tmps.getD p.1 undef = .pointer (some ⟨g, 0, none⟩) → B ≤ g ∧ w.rowIs g 29 32 (bF p.2)
theorem VarsAt.keep {B : Nat} {ps : List (Tmp × Hs)} {a : Act} {w w' : World} {d : Option Tmp} {v : Value} (h : VarsAt B ps a w) (hd : ∀ p ∈ ps, d ≠ some p.1) (hT : NewT w w') : VarsAt B ps (a.put d v) w' := by
  refine ⟨h.1.keep (fun p hp => ?_) hT, fun p hp g hg => ?_⟩
  · obtain ⟨q, hq, rfl⟩ := List.mem_map.1 hp; exact hd q hq
  · rw [put_other v (hd p hp)] at hg
    obtain ⟨h1, h2⟩ := h.2 p hp g hg
    exact ⟨h1, hT.row h2⟩
theorem VarsAt.make {B : Nat} {ps : List (Tmp × Hs)} {p : Tmp} {a : Act} {w : World} (h : VarsAt B ps a w) (hB : B ≤ w.heap.size) (hp : ∀ q ∈ ps, q.1 = p → q.2 = fun _ => 0) : VarsAt B ps (a.put (some p) (.pointer (some ⟨w.heap.size, 0, none⟩))) (w.alloc (.cells (rowA 32 (bF fun _ => 0)) 29)) := by
  refine ⟨h.1.make, fun q hq g hg => ?_⟩
  by_cases e : q.1 = p
  · rw [e] at hg
    rw [put_same hg, hp q hq e]
    exact ⟨hB, rowIs_box w 29 32 _⟩
  · rw [put_other (d := some p) _ (by simpa using Ne.symm e)] at hg
    obtain ⟨h1, h2⟩ := h.2 q hq g hg
    exact ⟨h1, (NewT.alloc _ _).row h2⟩
/-- One of them is written. -/
theorem VarsAt.put {B g : Nat} {ps ps' : List (Tmp × Hs)} {p : Tmp} {d : Hs} {a : Act} {w w' : World} {v : Value} (h : VarsAt B ps a w) (hm : ps'.map (·.1) = ps.map (·.1)) (hp : a.tmps.getD p undef = .pointer (some ⟨g, 0, none⟩)) (hmem : p ∈ ps.map (·.1)) (hR : RT g w w') (hrow : w'.rowIs g 29 32 (bF d)) (hps : ∀ q ∈ ps', (q.1 = p → q.2 = d) ∧ (q.1 ≠ p → q ∈ ps)) : VarsAt B ps' (a.put none v) w' := by
  have e : a.put none v = a := rfl
  rw [e]
  have hg := h.1.1 p hmem g hp
  refine ⟨?_, fun q hq g' hg' => ?_⟩
  · rw [hm]
    exact ⟨fun q hq g' hg' => Nat.lt_of_lt_of_le (h.1.1 q hq g' hg') hR.size, h.1.2⟩
  · obtain ⟨h1, h2⟩ := hps q hq
    by_cases eq : q.1 = p
    · rw [eq, hp] at hg'
      cases hg'
      rw [h1 eq]
      obtain ⟨r, hr, er⟩ := List.mem_map.1 hmem
      exact ⟨(h.2 r hr g (by rw [er]; exact hp)).1, hrow⟩
    · have hq' := h2 eq
      obtain ⟨k1, k2⟩ := h.2 q hq' g' hg'
      refine ⟨k1, hR.row ?_ k2⟩
      exact h.1.2 q.1 (List.mem_map.2 ⟨q, hq', rfl⟩) p hmem eq g' g hg' hp
end Go.Proofs.YtoigjcadncecpaaDoor
/- Slices of hashes without room behind them: cut so, and appended to. -/
namespace Go.Proofs.YtoigjcadncecpaaDoor
open Go Go.RowKit
set_option maxRecDepth 8000
set_option linter.all false
/-- It reads as l, and there is no room behind it. -/
def svF (l : List Hs) : SV NewT := ⟨fun v w => (∃ A, v = .slice A l.length l.length) ∧ RdH w v l, fun _ _ _ ⟨h1, h2⟩ hT => ⟨h1, hT.hs h2⟩⟩
theorem run_to3H {A : Option Addr} {n c : Nat} (w : World) (hn : n ≤ c) : (Instr.slice 22 (.slice A n c) none (some (.int .i64 (n : Int))) (some (.int .i64 (n : Int)))).run Tryd.prog w = .ok (.slice A n n) w := by
  have e : A.map (fun a => a.add 0) = A := by cases A <;> simp [Addr.add_zero']
  by_cases hc0 : n = 0
  · subst hc0; simp [Instr.slice, run_underlying Tryd.underlying22, Instr.sliceBounds, Instr.sliceBound, asIntOf, run_size_hash]
  · simp [Instr.slice, run_underlying Tryd.underlying22, Instr.sliceBounds, Instr.sliceBound, asIntOf, run_size_hash, hn, hc0, e]
theorem opr_to3H {a : Act} {w : World} {o : Oper} {K : Act → World → Prop} {Q : Exit → Act → World → Prop} {x y z : Operand} {l : List Hs} (ho : o.op = .slice 22 x none (some y) (some z)) (hx : RdH w (a.eval x) l) (hy : a.eval y = .int .i64 (l.length : Int)) (hz : a.eval z = .int .i64 (l.length : Int)) (h : ∀ v, (svF l).pred v w → K (a.put o.dst v) w) : o.wp Tryd.prog a w K Q := by
  obtain ⟨dst, op, type, pos, after, guard⟩ := o
  simp only at ho
  subst ho
  obtain ⟨A, c, hv, h1, h2, h3⟩ := hx
  refine opr_val (s := Instr.sliceAt 22 (a.eval x) none (some (a.eval y)) (some (a.eval z))) (by simp [execOp]) (by rw [hv, hy, hz]; simp [Instr.sliceAt, run_underlying Tryd.underlying22]; exact run_to3H w h1) (h _ ⟨⟨A, rfl⟩, ?_⟩)
  exact ⟨A, l.length, rfl, Nat.le_refl _, by omega, h3⟩
/-- What is appended goes into a new row. -/
theorem run_appF {W : World} {v u : Value} {l m : List Hs} (h : (svF l).pred v W) (hr : RdH W u m) (hm : 0 < m.length) (hn : l.length + m.length ≤ 1000000) (ty : TypeId) :
    ∃ v' w', (Builtin.append_ #[22, 22] ty #[v, u]).run Tryd.prog W = .ok v' w' ∧ NewT W w' ∧ RdH w' v' (l ++ m) := by
  obtain ⟨⟨A, rfl⟩, hx⟩ := h
  cases A with
  | none =>
    have h0 : l = [] := by
      cases l with
      | nil => rfl
      | cons b l =>
        obtain ⟨A', c', hv, _, _, h3⟩ := hx
        obtain ⟨_, _, h, _⟩ := h3 (by simp)
        rw [h] at hv
        cases hv
    subst h0
    obtain ⟨v', w', h1, h2, _, h4⟩ := run_appH_two (ownH_nil W W.heap.size) hr hm hn (Nat.le_refl _) ty
    refine ⟨v', w', h1, ?_, h2.rd⟩
    rcases h4 with h4 | ⟨g, c, hv, _⟩
    · exact h4
    · cases hv
  | some ad =>
    obtain ⟨i0, hi, hz0, hz1, hz2⟩ := info_parts infoH
    have hr0 := hr
    obtain ⟨A, cap, rfl, k1, k2, k3⟩ := hr
    obtain ⟨b, o, rfl, _⟩ := k3 hm
    have hz3 : (hcs m).length = m.length * i0.size := by rw [hz1]; exact hcs_length m
    have holds : ∀ j u, (hcs l)[j]? = some u → W.cell? (ad.add j) = some u := fun j u hj => by
      have hlt : j < l.length * 32 := by rw [← hcs_length]; exact (List.getElem?_eq_some_iff.1 hj).1
      have hx0 := hx
      obtain ⟨A', c', hv, _, _, h3⟩ := hx
      obtain ⟨b', o', hA, _⟩ := h3 (by omega)
      rw [hA] at hv
      cases hv
      exact hx0.news j u hj
    have hrun := run_append_grow (P := Tryd.prog) W 22 ty 29 i0 _ Tryd.underlying22 hi hz0 ad l.length l.length (hcs l) (by rw [hz1]; exact hcs_length l) holds ⟨b, o, none⟩ m.length cap (hcs m) hz3 hr0.news (by omega) (by omega) (growslice_fits (by omega) (by rw [hz2]; omega))
    refine ⟨_, _, hrun, NewT.trans _ _ _ (NewT.drew W) (NewT.alloc _ _), ?_⟩
    have hge := grownCap_ge W (l.length + m.length) l.length 29
    have hcm := grownCap_le_maxLen W (l.length + m.length) l.length 29 (by unfold maxLen; omega)
    refine OwnH.rd (B := 0) ⟨hcs_length _, .inr ⟨W.heap.size, _, _, by rw [List.length_append], Nat.zero_le _, heap_alloc_new W.drew _, by rw [List.length_append]; exact hge, hcm, ?_, ?_⟩⟩
    · simp only [Array.size_append, List.size_toArray, size_zeroCells, hcs_length, rowA_size, Value.cells]
      rw [← Nat.add_mul, ← Nat.add_mul]; congr 1; omega
    · simp only [Array.toList_append, List.append_assoc]
      rw [← List.append_assoc, ← hcs_app, ← hcs_length]
      exact List.take_left
end Go.Proofs.YtoigjcadncecpaaDoor
/- A region that appends, calls, and lays what it hands back into variables that it makes itself, early or late. -/
namespace Go.Proofs.YtoigjcadncecpaaDoor
open Go Go.RowKit
set_option maxRecDepth 8000
set_option linter.all false
/-- An element's place, in memory that lay there ahead. -/
def svPB (B : Nat) (d : Hs) : SV (TB B) := ⟨fun v w => ∃ b off, v = .pointer (some ⟨b, off, none⟩) ∧ b < B ∧ ∀ j, j < 32 → w.cell? ⟨b, off + j, none⟩ = some (bF d j), fun _ w w' h hT => by
  obtain ⟨b, off, hv, hb, hc⟩ := h
  exact ⟨b, off, hv, hb, fun j hj => (hT.below.cell (p := ⟨b, off + j, none⟩) hb).trans (hc j hj)⟩⟩
theorem svPB_out {B : Nat} {d : Hs} {v : Value} {w : World} (h : (svPB B d).pred v w) : (svP d).pred v w := by
  obtain ⟨b, off, hv, _, hc⟩ := h; exact ⟨b, off, hv, hc⟩
/-- It reads as l in W, and there is no room behind it. -/
def svFW {T : World → World → Prop} (W : World) (l : List Hs) : SV T := ⟨fun v _ => (svF l).pred v W, fun _ _ _ h _ => h⟩
/-- It is something. -/
def svNz {T : World → World → Prop} : SV T := ⟨fun v _ => v ≠ undef, fun _ _ _ h _ => h⟩
section
variable {a : Act} {w W : World} {o : Oper} {K : Act → World → Prop} {Q : Exit → Act → World → Prop} {x y z : Operand}
theorem opr_idxHB {l : List Hs} {i : Nat} {n : Int} {d : Hs} (hd : l[i]? = some d) (hn : n = (i : Int)) (ho : o.op = .indexAddr 22 x y) (hx : RdH W (a.eval x) l) (hT : TB W.heap.size W w) (hy : a.eval y = .int .i64 n) (h : ∀ v, (svPB W.heap.size d).pred v w → K (a.put o.dst v) w) : o.wp Tryd.prog a w K Q := by
  subst hn
  obtain ⟨dst, op, type, pos, after, guard⟩ := o
  simp only at ho
  subst ho
  obtain ⟨A, c, hv, _, _, h3⟩ := hx
  have hi : i < l.length := (List.getElem?_eq_some_iff.1 hd).1
  obtain ⟨b, off, rfl, hc⟩ := h3 (by omega)
  have hb : b < W.heap.size := World.block_lt_of_cell? _ _ (hc i d hd 0 (by omega))
  exact opr_val (s := Instr.indexAt 22 (a.eval x) (a.eval y)) rfl (by rw [hv, hy]; exact run_idxH w hi) (h _ ⟨b, off + i * 32, rfl, hb, fun j hj => (hT.below.cell (p := ⟨b, off + i * 32 + j, none⟩) hb).trans (hc i d hd j hj)⟩)
theorem opr_to3HW {l : List Hs} (ho : o.op = .slice 22 x none (some y) (some z)) (hx : RdH W (a.eval x) l) (hy : a.eval y = .int .i64 (l.length : Int)) (hz : a.eval z = .int .i64 (l.length : Int)) (h : ∀ v, (svF l).pred v W → K (a.put o.dst v) w) : o.wp Tryd.prog a w K Q := by
  obtain ⟨dst, op, type, pos, after, guard⟩ := o
  simp only at ho
  subst ho
  obtain ⟨A, c, hv, h1, h2, h3⟩ := hx
  refine opr_val (s := Instr.sliceAt 22 (a.eval x) none (some (a.eval y)) (some (a.eval z))) (by simp [execOp]) (by rw [hv, hy, hz]; simp [Instr.sliceAt, run_underlying Tryd.underlying22]; exact run_to3H w h1) (h _ ⟨⟨A, rfl⟩, ?_⟩)
  exact ⟨A, l.length, rfl, Nat.le_refl _, by omega, h3⟩
end
theorem put_self (a : Act) (p : Tmp) (v : Value) : (a.put (some p) v).tmps.getD p undef = v ∨ (a.put (some p) v).tmps.getD p undef = undef := by
  rcases Nat.lt_or_ge p a.tmps.size with hlt | hge
  · left; simp [Act.put, hlt]
  · right; simp [Act.put, Nat.not_lt.2 hge]
theorem rdH_some {w : World} {v : Value} {l : List Hs} (h : RdH w v l) : v ≠ undef := by
  obtain ⟨A, c, rfl⟩ := rdH_form h
  intro e; cases e
/-- The variables; behind the first step what slot s1 reads as, behind the second one slot s2. -/
def JApp (B : Nat) (ps : List (Tmp × Hs)) (s1 : Tmp) (l1 : List Hs) (s2 : Tmp) (l2 : List Hs) (k : Nat) (a : Act) (w : World) : Prop :=
  VarsAt B ps a w ∧ (k = 1 → a.tmps.getD s1 undef ≠ undef → RdH w (a.tmps.getD s1 undef) l1) ∧ (k = 2 → a.tmps.getD s2 undef ≠ undef → RdH w (a.tmps.getD s2 undef) l2)
section
variable {B : Nat} {ps : List (Tmp × Hs)} {s1 s2 : Tmp} {l1 l2 : List Hs} {k : Nat} {a : Act} {w w' : World} {d : Option Tmp} {v : Value}
theorem JApp.keep (h : JApp B ps s1 l1 s2 l2 k a w) (hd : ∀ p ∈ ps, d ≠ some p.1) (h1 : d ≠ some s1) (h2 : d ≠ some s2) (hT : NewT w w') : JApp B ps s1 l1 s2 l2 k (a.put d v) w' := by
  refine ⟨h.1.keep hd hT, fun e hne => ?_, fun e hne => ?_⟩
  · rw [put_other v h1] at hne ⊢
    exact hT.hs (h.2.1 e hne)
  · rw [put_other v h2] at hne ⊢
    exact hT.hs (h.2.2 e hne)
theorem JApp.make {p : Tmp} (h : JApp B ps s1 l1 s2 l2 k a w) (hB : B ≤ w.heap.size) (hp : ∀ q ∈ ps, q.1 = p → q.2 = fun _ => 0) (h1 : p ≠ s1) (h2 : p ≠ s2) : JApp B ps s1 l1 s2 l2 k (a.put (some p) (.pointer (some ⟨w.heap.size, 0, none⟩))) (w.alloc (.cells (rowA 32 (bF fun _ => 0)) 29)) := by
  refine ⟨h.1.make hB hp, fun e hne => ?_, fun e hne => ?_⟩
  · rw [put_other _ (by simpa using h1)] at hne ⊢
    exact (NewT.alloc _ _).hs (h.2.1 e hne)
  · rw [put_other _ (by simpa using h2)] at hne ⊢
    exact (NewT.alloc _ _).hs (h.2.2 e hne)
theorem JApp.one (h : VarsAt B ps a w) (hd : ∀ p ∈ ps, some s1 ≠ some p.1) (hT : NewT w w') (hr : RdH w' v l1) : JApp B ps s1 l1 s2 l2 1 (a.put (some s1) v) w' := by
  refine ⟨h.keep hd hT, fun _ hne => ?_, fun e => by cases e⟩
  rcases put_self a s1 v with e | e
  · rw [e]; exact hr
  · exact absurd e hne
theorem JApp.two (h : VarsAt B ps a w) (hd : ∀ p ∈ ps, some s2 ≠ some p.1) (hT : NewT w w') (hr : RdH w' v l2) : JApp B ps s1 l1 s2 l2 2 (a.put (some s2) v) w' := by
  refine ⟨h.keep hd hT, fun e => (by cases e), fun _ hne => ?_⟩
  rcases put_self a s2 v with e | e
  · rw [e]; exact hr
  · exact absurd e hne
theorem JApp.more (h : VarsAt B ps a w) (hk : 2 < k) : JApp B ps s1 l1 s2 l2 k a w := ⟨h, fun e => by omega, fun e => by omega⟩
end
end Go.Proofs.YtoigjcadncecpaaDoor
/- The law ProofLong, walked: a path or a proof with a hash more, or one less, comes to nothing. -/
namespace Go.Proofs.YtoigjcadncecpaaDoor
open Go Go.RowKit
set_option maxRecDepth 8000
set_option linter.all false
theorem okP_other {i n : Int} {c c' : Nat} (h : okP i n c = true) (hne : c' ≠ c) : okP i n c' = false := by
  unfold okP at *
  simp only [Bool.and_eq_true, decide_eq_true_eq] at h
  obtain ⟨h1, h2, h3, h4⟩ := h
  rw [decide_eq_false (p := (leftsM i.toNat n.toNat).length = c') (by omega)]; simp
theorem okB_other {m n : Int} {c c' : Nat} (h : okB m n c = true) (hne : c' ≠ c) : okB m n c' = false := by
  unfold okB at *
  simp only [Bool.and_eq_true, decide_eq_true_eq] at h
  obtain ⟨h1, h2, h3, h4⟩ := h
  rw [decide_eq_false (p := needS true m.toNat n.toNat = c') (by omega)]; simp
set_option maxHeartbeats 16000000 in
theorem ProofLong_walk (v : Value) (l : List Hs) (i0 m0 : Int) (w : World) (hT : Tables w) (hl : RdH w v l) : Calls Tryd.prog 6 #[v, .int .i64 i0, .int .i64 m0] w fun e w' => e = .returned (.bool true) ∧ Below w.heap.size w w' := by
  by_cases h70 : 70 < l.length
  · have t1 : decide ((70 : Int) < (l.length : Int)) = true := by simp; omega
    obtain ⟨node, z, hX⟩ := tree_ex
    have HT := Lib.hid hT
    have HL := Lib.hid hl
    obtain ⟨A, c, hv⟩ := rdH_form hl
    subst hv
    clear hT hl
    go_enter Tryd.func6, Tryd.ntmps6
    have HN := Lib.hid (NewT.refl w)
    go_upto_region 4 with (go_at_call 10; refine (alive6_any _ HT.out).mono ?_; rintro _ w1 ⟨rfl, hA1⟩)
    go_wp2
    go_ret
    exact ⟨rfl, (NewT.trans _ _ _ HN.out (NewT.of hA1)).out⟩
  have t1 : decide ((70 : Int) < (l.length : Int)) = false := by simp; omega
  have HLEN : Hid (l.length ≤ 70) := Lib.hid (by omega)
  obtain ⟨node, z, hX⟩ := tree_ex
  have HT := Lib.hid hT
  have HL := Lib.hid hl
  obtain ⟨A, c, hv⟩ := rdH_form hl
  subst hv
  clear hT hl
  go_enter Tryd.func6, Tryd.ntmps6
  have HN := Lib.hid (NewT.refl w)
  go_upto_region 5 with (go_at_call 10; refine (alive6_any _ HT.out).mono ?_; rintro _ w1 ⟨rfl, hA1⟩)
  have hn1 := NewT.of hA1
  replace HT := Lib.hid (hn1.tables HT.out)
  replace HL := Lib.hid (hn1.hs HL.out)
  replace HN := Lib.hid (NewT.trans _ _ _ HN.out hn1)
  obtain ⟨v, ev⟩ : ∃ v, Value.slice A l.length c = v := ⟨_, rfl⟩
  rw [ev] at HL ⊢
  clear ev hA1
  clear t1 hn1
  by_cases hi : 0 ≤ i0 ∧ i0 < (l.length : Int)
  · obtain ⟨i, rfl⟩ : ∃ k : Nat, i0 = (k : Int) := ⟨i0.toNat, by omega⟩
    have HI : Hid (i < l.length) := Lib.hid (by omega)
    obtain ⟨e, he⟩ : ∃ e, l[i]? = some e := ⟨_, List.getElem?_eq_getElem (by omega)⟩
    have HE := Lib.hid he
    have HPS : Hid ((pathM node z l i).length ≤ 20) := Lib.hid (pathM_short _ _ (by have := HLEN.out; omega))
    have HCX : Hid (∀ (u : Value) (q : List Hs) (w : World), Tables w → RdH w u q → q.length ≤ 1000 → q.length ≠ (pathM node z l i).length → Cv 16 #[.agg (rowA 32 (bF e)), .int .i64 (i : Int), .int .i64 (l.length : Int), u] w (svHq (fun _ => 0) false)) := Lib.hid fun u q w hT hu hq hne => by
      have h := Comes_cv hX e (i : Int) (l.length : Int) u q w hT hu (by omega)
      have e1 := okP_other (comes_set (node := node) (z := z) (fun _ => 0) l i e HI.out (by have := HLEN.out; omega)).1 hne
      unfold comesM at h
      rw [e1, if_neg (by decide)] at h
      exact h
    have HC1 : Hid (∀ (u : Value) (w : World), Tables w → RdH w u (pathM node z l i ++ [e]) → Cv 16 #[.agg (rowA 32 (bF e)), .int .i64 (i : Int), .int .i64 (l.length : Int), u] w (svHq (fun _ => 0) false)) := Lib.hid fun u w hT hu => HCX.out u _ w hT hu (by have := HPS.out; simp; omega) (by simp)
    clear he
    refine wp_region_steps0 NewT [SV.eq (v), SV.eq (.int .i64 ((i : Int))), svPq (pathM node z l i) true, svPq (pathM node z l i) true, svH (pathM node z l i), SV.eq (.bool true), svH (pathM node z l i), SV.eq (.bool true)] [([(0, none)], none), ([(1, none)], none), ([(22, some 0), (23, some 1)], none), ([(24, some 2)], none), ([(21, some 3)], none), ([(21, some 3)], none), ([(25, some 4)], none), ([(26, some 5)], none)] 121 8 rfl rfl (by kernel_rfl) NewT.trans (NewT.refl _) (Nat.le_of_ble_eq_true rfl) ⟨?_, ?_, ?_, ?_, ?_, ?_, ?_, ?_, trivial⟩ ?_
    · intro a wx hT hF K hK
      obtain ⟨f0, _⟩ := hF
      have f0 : a.tmps.getD 0 undef = v := f0
      refine rely_wp rfl ?_
      exact opr_move (.inl rfl) (hK _ _ (NewT.refl _) f0)
    · intro a wx hT hF K hK
      obtain ⟨f1, _⟩ := hF
      have f1 : a.tmps.getD 1 undef = .int .i64 ((i : Int)) := f1
      refine rely_wp rfl ?_
      exact opr_move (.inl rfl) (hK _ _ (NewT.refl _) f1)
    · intro a wx hT hF K hK
      obtain ⟨f22, f23, _⟩ := hF
      have f22 : a.tmps.getD 22 undef = v := f22
      have f23 : a.tmps.getD 23 undef = .int .i64 ((i : Int)) := f23
      refine rely_wp rfl ?_
      exact opr_cv (Path_good hX _ l i wx (hT.tables HT.out) (hT.hs HL.out) HI.out (by have := HLEN.out; omega)) rfl Tryd.func11 (by kernel_rfl) (by kernel_rfl) (by simp only [List.map_toArray, List.map_cons, List.map_nil, eval_tmp, f22, f23]) hK
    · intro a wx hT hF K hK
      obtain ⟨f24, _⟩ := hF
      replace f24 := show (svPq (pathM node z l i) true).pred (a.tmps.getD 24 undef) wx from f24
      refine rely_wp rfl ?_
      exact opr_move (.inl rfl) (hK _ _ (NewT.refl _) f24)
    · intro a wx hT hF K hK
      obtain ⟨f21, _⟩ := hF
      replace f21 := show (svPq (pathM node z l i) true).pred (a.tmps.getD 21 undef) wx from f21
      refine rely_wp rfl ?_
      exact opr_extP0 rfl f21 (fun u hu => hK u _ (NewT.refl _) hu)
    · intro a wx hT hF K hK
      obtain ⟨f21, _⟩ := hF
      replace f21 := show (svPq (pathM node z l i) true).pred (a.tmps.getD 21 undef) wx from f21
      refine rely_wp rfl ?_
      exact opr_extP1 rfl f21 (hK _ _ (NewT.refl _) rfl)
    · intro a wx hT hF K hK
      obtain ⟨f25, _⟩ := hF
      replace f25 := show (svH (pathM node z l i)).pred (a.tmps.getD 25 undef) wx from f25
      refine rely_wp rfl ?_
      exact opr_move (.inr rfl) (hK _ _ (NewT.refl _) f25)
    · intro a wx hT hF K hK
      obtain ⟨f26, _⟩ := hF
      have f26 : a.tmps.getD 26 undef = .bool true := f26
      refine rely_wp rfl ?_
      exact opr_move (.inr rfl) (hK _ _ (NewT.refl _) f26)
    · intro w2 k2
      intro u h; obtain rfl := Eq.symm (h (by simp)); clear h
      intro u h; obtain rfl := Eq.symm (h (by simp)); clear h
      intro _ _
      intro _ _
      intro _ _
      intro u h; obtain rfl := Eq.symm (h (by simp)); clear h
      intro u7 h; have g7 := h (by simp); clear h; replace g7 := show (svH (pathM node z l i)).pred u7 w2 from g7
      intro u h; obtain rfl := Eq.symm (h (by simp)); clear h
      refine relyEnd_nil rfl ?_
      refine wpList_end rfl ?_
      simp only [Act.put, List.setIfInBounds_toArray, List.set_cons_zero, List.set_cons_succ]
      go_simp
      have HU7 := Lib.hid (show RdH w2 u7 (pathM node z l i) from g7)
      clear g7
      replace HL := Lib.hid (k2.hs HL.out)
      replace HT := Lib.hid (k2.tables HT.out)
      replace HN := Lib.hid (NewT.trans _ _ _ HN.out k2)
      clear k2
      go_upto_region 7 with fail
      refine wp_region_relyA0 (TB w2.heap.size) (JApp w2.heap.size [(9, (fun _ => 0))] 46 [e] 47 (pathM node z l i ++ [e])) [SV.eq (v), SV.eq (.int .i64 ((i : Int))), svPB w2.heap.size e, SV.eq (.agg (rowA 32 (bF (e)))), SV.eq (.int .i64 ((i : Int))), SV.eq (v), SV.eq (.int .i64 ((List.length (l) : Int))), SV.eq (u7), SV.eq (u7), SV.eq (.int .i64 ((List.length (pathM node z l i) : Int))), SV.eq (u7), SV.eq (.int .i64 ((List.length (pathM node z l i) : Int))), svFW w2 (pathM node z l i), SV.eq (v), SV.eq (.int .i64 ((i : Int))), svPB w2.heap.size e, SV.eq (.agg (rowA 32 (bF (e)))), svNz, svNz, SV.eq ((.tuple #[.agg (rowA 32 (bF (fun _ => 0))), .bool false])), SV.eq ((.tuple #[.agg (rowA 32 (bF (fun _ => 0))), .bool false])), SV.eq (.agg (rowA 32 (bF ((fun _ => 0))))), SV.eq (.bool false), svPt, SV.any] [([(0, none)], none), ([(1, none)], none), ([(29, some 0), (30, some 1)], none), ([(31, some 2)], none), ([(1, none)], none), ([(0, none)], none), ([(34, some 5)], none), ([(7, none)], none), ([(7, none)], none), ([(37, some 8)], none), ([(7, none)], none), ([(39, some 10)], none), ([(36, some 7), (38, some 9), (40, some 11)], none), ([(0, none)], none), ([(1, none)], none), ([(42, some 13), (43, some 14)], none), ([(44, some 15)], none), ([(45, some 16)], none), ([(41, some 12), (46, some 17)], none), ([(32, some 3), (33, some 4), (35, some 6), (47, some 18)], none), ([(48, some 19)], none), ([(28, some 20)], none), ([(28, some 20)], none), ([], none), ([(9, some 23), (49, some 21)], none)] [none, none, none, none, none, none, none, none, none, none, none, none, none, none, none, none, none, some 0, some 1, some 2, none, none, none, none, some 3] [17, 18, 19, 24] 121 rfl (by kernel_rfl) rfl (by kernel_rfl) (by kernel_rfl) rfl (by kernel_rfl) TB.trans (TB.drew _ _) ⟨⟨⟨fun p hp g h => (by simp at hp; subst hp; cases h), fun p hp q hq hpq g g2 h => (by simp at hp; subst hp; cases h)⟩, fun p hp g h => (by simp at hp; subst hp; cases h)⟩, fun e => (by cases e), fun e => (by cases e)⟩ (Nat.le_of_ble_eq_true rfl) ⟨?_, ?_, ?_, ?_, ?_, ?_, ?_, ?_, ?_, ?_, ?_, ?_, ?_, ?_, ?_, ?_, ?_, ?_, ?_, ?_, ?_, ?_, ?_, ?_, ?_, trivial⟩ ?_
      · intro a wx hT hF K hK
        replace hK := fun v w' (hN : NewT wx w') hv => hK v w' (TB.of_new (Nat.le_trans (Nat.le_refl _) hT.size) hN) (fun k h => JApp.keep h (by simp) (by simp) (by simp) hN) hv
        obtain ⟨f0, _⟩ := hF
        have f0 : a.tmps.getD 0 undef = v := f0
        refine rely_wp rfl ?_
        exact opr_move (.inl rfl) (hK _ _ (NewT.refl _) f0)
      · intro a wx hT hF K hK
        replace hK := fun v w' (hN : NewT wx w') hv => hK v w' (TB.of_new (Nat.le_trans (Nat.le_refl _) hT.size) hN) (fun k h => JApp.keep h (by simp) (by simp) (by simp) hN) hv
        obtain ⟨f1, _⟩ := hF
        have f1 : a.tmps.getD 1 undef = .int .i64 ((i : Int)) := f1
        refine rely_wp rfl ?_
        exact opr_move (.inl rfl) (hK _ _ (NewT.refl _) f1)
      · intro a wx hT hF K hK
        replace hK := fun v w' (hN : NewT wx w') hv => hK v w' (TB.of_new (Nat.le_trans (Nat.le_refl _) hT.size) hN) (fun k h => JApp.keep h (by simp) (by simp) (by simp) hN) hv
        obtain ⟨f29, f30, _⟩ := hF
        have f29 : a.tmps.getD 29 undef = v := f29
        have f30 : a.tmps.getD 30 undef = .int .i64 ((i : Int)) := f30
        refine rely_wp rfl ?_
        exact opr_idxHB (W := w2) (i := i) (d := e) HE.out rfl rfl (by rw [eval_tmp, f29]; exact HL.out) hT f30 (fun v hv => hK v _ (NewT.refl _) hv)
      · intro a wx hT hF K hK
        replace hK := fun v w' (hN : NewT wx w') hv => hK v w' (TB.of_new (Nat.le_trans (Nat.le_refl _) hT.size) hN) (fun k h => JApp.keep h (by simp) (by simp) (by simp) hN) hv
        obtain ⟨f31, _⟩ := hF
        replace f31 := show (svPB w2.heap.size e).pred (a.tmps.getD 31 undef) wx from f31
        refine rely_wp rfl ?_
        exact opr_ldP rfl (svPB_out f31) (hK _ _ (NewT.refl _) rfl)
      · intro a wx hT hF K hK
        replace hK := fun v w' (hN : NewT wx w') hv => hK v w' (TB.of_new (Nat.le_trans (Nat.le_refl _) hT.size) hN) (fun k h => JApp.keep h (by simp) (by simp) (by simp) hN) hv
        obtain ⟨f1, _⟩ := hF
        have f1 : a.tmps.getD 1 undef = .int .i64 ((i : Int)) := f1
        refine rely_wp rfl ?_
        exact opr_move (.inl rfl) (hK _ _ (NewT.refl _) f1)
      · intro a wx hT hF K hK
        replace hK := fun v w' (hN : NewT wx w') hv => hK v w' (TB.of_new (Nat.le_trans (Nat.le_refl _) hT.size) hN) (fun k h => JApp.keep h (by simp) (by simp) (by simp) hN) hv
        obtain ⟨f0, _⟩ := hF
        have f0 : a.tmps.getD 0 undef = v := f0
        refine rely_wp rfl ?_
        exact opr_move (.inl rfl) (hK _ _ (NewT.refl _) f0)
      · intro a wx hT hF K hK
        replace hK := fun v w' (hN : NewT wx w') hv => hK v w' (TB.of_new (Nat.le_trans (Nat.le_refl _) hT.size) hN) (fun k h => JApp.keep h (by simp) (by simp) (by simp) hN) hv
        obtain ⟨f34, _⟩ := hF
        have f34 : a.tmps.getD 34 undef = v := f34
        refine rely_wp rfl ?_
        exact opr_len_h rfl (by rw [eval_tmp, f34]; exact ((hT.out (Nat.le_refl _)).hs HL.out)) (hK _ _ (NewT.refl _) rfl)
      · intro a wx hT hF K hK
        replace hK := fun v w' (hN : NewT wx w') hv => hK v w' (TB.of_new (Nat.le_trans (Nat.le_refl _) hT.size) hN) (fun k h => JApp.keep h (by simp) (by simp) (by simp) hN) hv
        obtain ⟨f7, _⟩ := hF
        have f7 : a.tmps.getD 7 undef = u7 := f7
        refine rely_wp rfl ?_
        exact opr_move (.inl rfl) (hK _ _ (NewT.refl _) f7)
      · intro a wx hT hF K hK
        replace hK := fun v w' (hN : NewT wx w') hv => hK v w' (TB.of_new (Nat.le_trans (Nat.le_refl _) hT.size) hN) (fun k h => JApp.keep h (by simp) (by simp) (by simp) hN) hv
        obtain ⟨f7, _⟩ := hF
        have f7 : a.tmps.getD 7 undef = u7 := f7
        refine rely_wp rfl ?_
        exact opr_move (.inl rfl) (hK _ _ (NewT.refl _) f7)
      · intro a wx hT hF K hK
        replace hK := fun v w' (hN : NewT wx w') hv => hK v w' (TB.of_new (Nat.le_trans (Nat.le_refl _) hT.size) hN) (fun k h => JApp.keep h (by simp) (by simp) (by simp) hN) hv
        obtain ⟨f37, _⟩ := hF
        have f37 : a.tmps.getD 37 undef = u7 := f37
        refine rely_wp rfl ?_
        exact opr_len_h rfl (by rw [eval_tmp, f37]; exact ((hT.out (Nat.le_refl _)).hs HU7.out)) (hK _ _ (NewT.refl _) rfl)
      · intro a wx hT hF K hK
        replace hK := fun v w' (hN : NewT wx w') hv => hK v w' (TB.of_new (Nat.le_trans (Nat.le_refl _) hT.size) hN) (fun k h => JApp.keep h (by simp) (by simp) (by simp) hN) hv
        obtain ⟨f7, _⟩ := hF
        have f7 : a.tmps.getD 7 undef = u7 := f7
        refine rely_wp rfl ?_
        exact opr_move (.inl rfl) (hK _ _ (NewT.refl _) f7)
      · intro a wx hT hF K hK
        replace hK := fun v w' (hN : NewT wx w') hv => hK v w' (TB.of_new (Nat.le_trans (Nat.le_refl _) hT.size) hN) (fun k h => JApp.keep h (by simp) (by simp) (by simp) hN) hv
        obtain ⟨f39, _⟩ := hF
        have f39 : a.tmps.getD 39 undef = u7 := f39
        refine rely_wp rfl ?_
        exact opr_len_h rfl (by rw [eval_tmp, f39]; exact ((hT.out (Nat.le_refl _)).hs HU7.out)) (hK _ _ (NewT.refl _) rfl)
      · intro a wx hT hF K hK
        replace hK := fun v w' (hN : NewT wx w') hv => hK v w' (TB.of_new (Nat.le_trans (Nat.le_refl _) hT.size) hN) (fun k h => JApp.keep h (by simp) (by simp) (by simp) hN) hv
        obtain ⟨f36, f38, f40, _⟩ := hF
        have f36 : a.tmps.getD 36 undef = u7 := f36
        have f38 : a.tmps.getD 38 undef = .int .i64 ((List.length (pathM node z l i) : Int)) := f38
        have f40 : a.tmps.getD 40 undef = .int .i64 ((List.length (pathM node z l i) : Int)) := f40
        refine rely_wp rfl ?_
        exact opr_to3HW (W := w2) (l := pathM node z l i) rfl (by rw [eval_tmp, f36]; exact HU7.out) f38 f40 (fun v hv => hK v _ (NewT.refl _) hv)
      · intro a wx hT hF K hK
        replace hK := fun v w' (hN : NewT wx w') hv => hK v w' (TB.of_new (Nat.le_trans (Nat.le_refl _) hT.size) hN) (fun k h => JApp.keep h (by simp) (by simp) (by simp) hN) hv
        obtain ⟨f0, _⟩ := hF
        have f0 : a.tmps.getD 0 undef = v := f0
        refine rely_wp rfl ?_
        exact opr_move (.inl rfl) (hK _ _ (NewT.refl _) f0)
      · intro a wx hT hF K hK
        replace hK := fun v w' (hN : NewT wx w') hv => hK v w' (TB.of_new (Nat.le_trans (Nat.le_refl _) hT.size) hN) (fun k h => JApp.keep h (by simp) (by simp) (by simp) hN) hv
        obtain ⟨f1, _⟩ := hF
        have f1 : a.tmps.getD 1 undef = .int .i64 ((i : Int)) := f1
        refine rely_wp rfl ?_
        exact opr_move (.inl rfl) (hK _ _ (NewT.refl _) f1)
      · intro a wx hT hF K hK
        replace hK := fun v w' (hN : NewT wx w') hv => hK v w' (TB.of_new (Nat.le_trans (Nat.le_refl _) hT.size) hN) (fun k h => JApp.keep h (by simp) (by simp) (by simp) hN) hv
        obtain ⟨f42, f43, _⟩ := hF
        have f42 : a.tmps.getD 42 undef = v := f42
        have f43 : a.tmps.getD 43 undef = .int .i64 ((i : Int)) := f43
        refine rely_wp rfl ?_
        exact opr_idxHB (W := w2) (i := i) (d := e) HE.out rfl rfl (by rw [eval_tmp, f42]; exact HL.out) hT f43 (fun v hv => hK v _ (NewT.refl _) hv)
      · intro a wx hT hF K hK
        replace hK := fun v w' (hN : NewT wx w') hv => hK v w' (TB.of_new (Nat.le_trans (Nat.le_refl _) hT.size) hN) (fun k h => JApp.keep h (by simp) (by simp) (by simp) hN) hv
        obtain ⟨f44, _⟩ := hF
        replace f44 := show (svPB w2.heap.size e).pred (a.tmps.getD 44 undef) wx from f44
        refine rely_wp rfl ?_
        exact opr_ldP rfl (svPB_out f44) (hK _ _ (NewT.refl _) rfl)
      · intro a wx hT hF hJ K hK
        obtain ⟨f45, _⟩ := hF
        have f45 : a.tmps.getD 45 undef = .agg (rowA 32 (bF (e))) := f45
        refine rely_wp rfl ?_
        exact opr_bsH1 rfl f45 (fun v w' hN hr => hK v w' (TB.of_new (Nat.le_trans (Nat.le_refl _) hT.size) hN) (JApp.one hJ.1 (by simp) hN hr) (rdH_some hr))
      · intro a wx hT hF hJ K hK
        obtain ⟨f41, f46, _⟩ := hF
        replace f41 := show (svFW w2 (pathM node z l i)).pred (a.tmps.getD 41 undef) wx from f41
        replace f46 := show (svNz).pred (a.tmps.getD 46 undef) wx from f46
        refine rely_wp rfl ?_
        obtain ⟨v', w', hrun, hN', hR'⟩ := run_appF ((svF (pathM node z l i)).stable _ _ _ f41 (hT.out (Nat.le_refl _))) (hJ.2.1 rfl f46) (by simp) (by have := HPS.out; simp; omega) 22
        exact opr_append rfl rfl rfl hrun (hK v' w' (TB.of_new (Nat.le_trans (Nat.le_refl _) hT.size) hN') (JApp.two hJ.1 (by simp) hN' hR') (rdH_some hR'))
      · intro a wx hT hF hJ K hK
        obtain ⟨f32, f33, f35, f47, _⟩ := hF
        have f32 : a.tmps.getD 32 undef = .agg (rowA 32 (bF (e))) := f32
        have f33 : a.tmps.getD 33 undef = .int .i64 ((i : Int)) := f33
        have f35 : a.tmps.getD 35 undef = .int .i64 ((List.length (l) : Int)) := f35
        replace f47 := show (svNz).pred (a.tmps.getD 47 undef) wx from f47
        refine rely_wp rfl ?_
        exact opr_cv (HC1.out _ wx ((hT.out (Nat.le_refl _)).tables HT.out) (hJ.2.2 rfl f47)) rfl Tryd.func16 (by kernel_rfl) (by kernel_rfl) (by simp only [List.map_toArray, List.map_cons, List.map_nil, eval_tmp, f32, f33, f35]) (fun v w' hN hv => hK v w' (TB.of_new (Nat.le_trans (Nat.le_refl _) hT.size) hN) (JApp.more (VarsAt.keep hJ.1 (by simp) hN) (by decide)) hv)
      · intro a wx hT hF K hK
        replace hK := fun v w' (hN : NewT wx w') hv => hK v w' (TB.of_new (Nat.le_trans (Nat.le_refl _) hT.size) hN) (fun k h => JApp.keep h (by simp) (by simp) (by simp) hN) hv
        obtain ⟨f48, _⟩ := hF
        have f48 : a.tmps.getD 48 undef = (.tuple #[.agg (rowA 32 (bF (fun _ => 0))), .bool false]) := f48
        refine rely_wp rfl ?_
        exact opr_move (.inl rfl) (hK _ _ (NewT.refl _) f48)
      · intro a wx hT hF K hK
        replace hK := fun v w' (hN : NewT wx w') hv => hK v w' (TB.of_new (Nat.le_trans (Nat.le_refl _) hT.size) hN) (fun k h => JApp.keep h (by simp) (by simp) (by simp) hN) hv
        obtain ⟨f28, _⟩ := hF
        have f28 : a.tmps.getD 28 undef = (.tuple #[.agg (rowA 32 (bF (fun _ => 0))), .bool false]) := f28
        refine rely_wp rfl ?_
        exact opr_ext rfl f28 rfl (hK _ _ (NewT.refl _) rfl)
      · intro a wx hT hF K hK
        replace hK := fun v w' (hN : NewT wx w') hv => hK v w' (TB.of_new (Nat.le_trans (Nat.le_refl _) hT.size) hN) (fun k h => JApp.keep h (by simp) (by simp) (by simp) hN) hv
        obtain ⟨f28, _⟩ := hF
        have f28 : a.tmps.getD 28 undef = (.tuple #[.agg (rowA 32 (bF (fun _ => 0))), .bool false]) := f28
        refine rely_wp rfl ?_
        exact opr_ext rfl f28 rfl (hK _ _ (NewT.refl _) rfl)
      · intro a wx hT hF K hK
        refine rely_wp rfl ?_
        refine opr_alloc_at rfl ?_
        exact hK _ _ (TB.of_new (Nat.le_trans (Nat.le_refl _) hT.size) (NewT.alloc _ _)) (fun k hJ => JApp.make hJ (Nat.le_trans (Nat.le_refl _) hT.size) (by simp) (by decide) (by decide)) ⟨_, rfl⟩
      · intro a wx hT hF hJ K hK
        obtain ⟨f9, f49, _⟩ := hF
        replace f9 := show (svPt).pred (a.tmps.getD 9 undef) wx from f9
        have f49 : a.tmps.getD 49 undef = .agg (rowA 32 (bF ((fun _ => 0)))) := f49
        refine rely_wp rfl ?_
        obtain ⟨g, hg⟩ := f9
        obtain ⟨hb, hr⟩ := hJ.1.2 (9, (fun _ => 0)) (by simp) g hg
        refine opr_putm (F := bF (fun _ => 0)) rfl hg f49 hr (by decide) info31 (fun _ => rfl) (fun i hi => by rw [if_pos (by omega), Nat.sub_zero]) ?_
        intro w' hR r'
        exact hK undef w' (TB.of_rt hR hb hr r') (JApp.more (VarsAt.put hJ.1 rfl hg (by simp) hR r' (by simp)) (by decide)) trivial
      · intro w3 k3
        intro u h; obtain rfl := Eq.symm (h (by simp)); clear h
        intro u h; obtain rfl := Eq.symm (h (by simp)); clear h
        intro _ _
        intro u h; obtain rfl := Eq.symm (h (by simp)); clear h
        intro u h; obtain rfl := Eq.symm (h (by simp)); clear h
        intro u h; obtain rfl := Eq.symm (h (by simp)); clear h
        intro u h; obtain rfl := Eq.symm (h (by simp)); clear h
        intro u h; obtain rfl := Eq.symm (h (by simp)); clear h
        intro u h; obtain rfl := Eq.symm (h (by simp)); clear h
        intro u h; obtain rfl := Eq.symm (h (by simp)); clear h
        intro u h; obtain rfl := Eq.symm (h (by simp)); clear h
        intro u h; obtain rfl := Eq.symm (h (by simp)); clear h
        intro _ _
        intro u h; obtain rfl := Eq.symm (h (by simp)); clear h
        intro u h; obtain rfl := Eq.symm (h (by simp)); clear h
        intro _ _
        intro u h; obtain rfl := Eq.symm (h (by simp)); clear h
        intro _ _
        intro _ _
        intro u h; obtain rfl := Eq.symm (h (by simp)); clear h
        intro u h; obtain rfl := Eq.symm (h (by simp)); clear h
        intro u h; obtain rfl := Eq.symm (h (by simp)); clear h
        intro u h; obtain rfl := Eq.symm (h (by simp)); clear h
        intro u h; obtain ⟨p9, hv⟩ := (h (by simp)); clear h; subst hv
        intro _ _
        refine relyEnd_nil rfl ?_
        intro hJ
        simp only [Act.put, List.setIfInBounds_toArray, List.set_cons_zero, List.set_cons_succ]
        refine opr_move (.inr rfl) ?_
        go_simp
        have k4 : NewT w2 w3 := k3.out (Nat.le_refl _)
        clear k3 hJ
        replace HL := Lib.hid (k4.hs HL.out)
        replace HU7 := Lib.hid (k4.hs HU7.out)
        replace HT := Lib.hid (k4.tables HT.out)
        replace HN := Lib.hid (NewT.trans _ _ _ HN.out k4)
        clear k4
        by_cases hp0 : (pathM node z l i).length = 0
        · obtain ⟨A2, c2, hu2⟩ := rdH_form HU7.out
          rw [hp0] at hu2
          subst hu2
          by_cases hm : 1 ≤ m0 ∧ m0 ≤ (l.length : Int)
          · skip
            obtain ⟨m, rfl⟩ : ∃ k : Nat, m0 = (k : Int) := ⟨m0.toNat, by omega⟩
            have HM1 : Hid (1 ≤ m) := Lib.hid (by omega)
            have HML : Hid (m ≤ l.length) := Lib.hid (by omega)
            obtain ⟨d0, hd0⟩ : ∃ e, l[0]? = some e := ⟨_, List.getElem?_eq_getElem (by omega)⟩
            have HD0 := Lib.hid hd0
            have HSS : Hid ((subM node z m l true).length ≤ 21) := Lib.hid (subM_short _ _ _ (by have := HLEN.out; omega))
            have HBX : Hid (∀ (u : Value) (q : List Hs) (w : World), Tables w → RdH w u q → q.length ≤ 1000 → q.length ≠ (subM node z m l true).length → Cv 18 #[.int .i64 (m : Int), .int .i64 (l.length : Int), .agg (rowA 32 (bF d0)), u] w (svHHq (fun _ => 0) (fun _ => 0) false)) := Lib.hid fun u q w hT hu hq hne => by
              have h := Both_cv hX d0 (m : Int) (l.length : Int) u q w hT hu (by omega)
              have e : okB (m : Int) (l.length : Int) q.length = false := by
                have h1 := (both_root (node := node) (z := z) (fun _ => 0) l m HM1.out HML.out (by have := HLEN.out; omega)).1
                exact okB_other h1 hne
              unfold bothM at h
              rw [e, if_neg (by decide)] at h
              exact h
            have HB1 : Hid (∀ (u : Value) (w : World), Tables w → RdH w u (subM node z m l true ++ [d0]) → Cv 18 #[.int .i64 (m : Int), .int .i64 (l.length : Int), .agg (rowA 32 (bF d0)), u] w (svHHq (fun _ => 0) (fun _ => 0) false)) := Lib.hid fun u w hT hu => HBX.out u _ w hT hu (by have := HSS.out; simp; omega) (by simp)
            clear hd0
            go_upto_region 14 with fail
            refine wp_region_steps0 NewT [SV.eq (v), SV.eq (.int .i64 ((m : Int))), svPq (subM node z m l true) true, svPq (subM node z m l true) true, svH (subM node z m l true), SV.eq (.bool true), svH (subM node z m l true), SV.eq (.bool true)] [([(0, none)], none), ([(2, none)], none), ([(70, some 0), (71, some 1)], none), ([(72, some 2)], none), ([(69, some 3)], none), ([(69, some 3)], none), ([(73, some 4)], none), ([(74, some 5)], none)] 121 8 rfl rfl (by kernel_rfl) NewT.trans (NewT.refl _) (Nat.le_of_ble_eq_true rfl) ⟨?_, ?_, ?_, ?_, ?_, ?_, ?_, ?_, trivial⟩ ?_
            · intro a wx hT hF K hK
              obtain ⟨f0, _⟩ := hF
              have f0 : a.tmps.getD 0 undef = v := f0
              refine rely_wp rfl ?_
              exact opr_move (.inl rfl) (hK _ _ (NewT.refl _) f0)
            · intro a wx hT hF K hK
              obtain ⟨f2, _⟩ := hF
              have f2 : a.tmps.getD 2 undef = .int .i64 ((m : Int)) := f2
              refine rely_wp rfl ?_
              exact opr_move (.inl rfl) (hK _ _ (NewT.refl _) f2)
            · intro a wx hT hF K hK
              obtain ⟨f70, f71, _⟩ := hF
              have f70 : a.tmps.getD 70 undef = v := f70
              have f71 : a.tmps.getD 71 undef = .int .i64 ((m : Int)) := f71
              refine rely_wp rfl ?_
              exact opr_cv (Prove_good hX _ l m wx (hT.tables HT.out) (hT.hs HL.out) HM1.out HML.out (by have := HLEN.out; omega)) rfl Tryd.func13 (by kernel_rfl) (by kernel_rfl) (by simp only [List.map_toArray, List.map_cons, List.map_nil, eval_tmp, f70, f71]) hK
            · intro a wx hT hF K hK
              obtain ⟨f72, _⟩ := hF
              replace f72 := show (svPq (subM node z m l true) true).pred (a.tmps.getD 72 undef) wx from f72
              refine rely_wp rfl ?_
              exact opr_move (.inl rfl) (hK _ _ (NewT.refl _) f72)
            · intro a wx hT hF K hK
              obtain ⟨f69, _⟩ := hF
              replace f69 := show (svPq (subM node z m l true) true).pred (a.tmps.getD 69 undef) wx from f69
              refine rely_wp rfl ?_
              exact opr_extP0 rfl f69 (fun u hu => hK u _ (NewT.refl _) hu)
            · intro a wx hT hF K hK
              obtain ⟨f69, _⟩ := hF
              replace f69 := show (svPq (subM node z m l true) true).pred (a.tmps.getD 69 undef) wx from f69
              refine rely_wp rfl ?_
              exact opr_extP1 rfl f69 (hK _ _ (NewT.refl _) rfl)
            · intro a wx hT hF K hK
              obtain ⟨f73, _⟩ := hF
              replace f73 := show (svH (subM node z m l true)).pred (a.tmps.getD 73 undef) wx from f73
              refine rely_wp rfl ?_
              exact opr_move (.inr rfl) (hK _ _ (NewT.refl _) f73)
            · intro a wx hT hF K hK
              obtain ⟨f74, _⟩ := hF
              have f74 : a.tmps.getD 74 undef = .bool true := f74
              refine rely_wp rfl ?_
              exact opr_move (.inr rfl) (hK _ _ (NewT.refl _) f74)
            · intro w6 k6
              intro u h; obtain rfl := Eq.symm (h (by simp)); clear h
              intro u h; obtain rfl := Eq.symm (h (by simp)); clear h
              intro _ _
              intro _ _
              intro _ _
              intro u h; obtain rfl := Eq.symm (h (by simp)); clear h
              intro u11 h; have g11 := h (by simp); clear h; replace g11 := show (svH (subM node z m l true)).pred u11 w6 from g11
              intro u h; obtain rfl := Eq.symm (h (by simp)); clear h
              refine relyEnd_nil rfl ?_
              refine wpList_end rfl ?_
              simp only [Act.put, List.setIfInBounds_toArray, List.set_cons_zero, List.set_cons_succ]
              go_simp
              have HU11 := Lib.hid (show RdH w6 u11 (subM node z m l true) from g11)
              clear g11
              replace HL := Lib.hid (k6.hs HL.out)
              replace HT := Lib.hid (k6.tables HT.out)
              replace HN := Lib.hid (NewT.trans _ _ _ HN.out k6)
              clear k6
              go_upto_region 17 with fail
              refine wp_region_relyA0 (TB w6.heap.size) (JApp w6.heap.size [(13, (fun _ => 0)), (14, (fun _ => 0))] 93 [d0] 94 (subM node z m l true ++ [d0])) [SV.eq (.int .i64 ((m : Int))), SV.eq (v), SV.eq (.int .i64 ((List.length (l) : Int))), SV.eq (v), svPB w6.heap.size d0, SV.eq (.agg (rowA 32 (bF (d0)))), SV.eq (u11), SV.eq (u11), SV.eq (.int .i64 ((List.length (subM node z m l true) : Int))), SV.eq (u11), SV.eq (.int .i64 ((List.length (subM node z m l true) : Int))), svFW w6 (subM node z m l true), SV.eq (v), svPB w6.heap.size d0, SV.eq (.agg (rowA 32 (bF (d0)))), svNz, svNz, SV.eq ((.tuple #[.agg (rowA 32 (bF (fun _ => 0))), .agg (rowA 32 (bF (fun _ => 0))), .bool false])), SV.eq ((.tuple #[.agg (rowA 32 (bF (fun _ => 0))), .agg (rowA 32 (bF (fun _ => 0))), .bool false])), SV.eq (.agg (rowA 32 (bF ((fun _ => 0))))), SV.eq (.agg (rowA 32 (bF ((fun _ => 0))))), SV.eq (.bool false), svPt, svPt, SV.any, SV.any] [([(2, none)], none), ([(0, none)], none), ([(79, some 1)], none), ([(0, none)], none), ([(81, some 3)], none), ([(82, some 4)], none), ([(11, none)], none), ([(11, none)], none), ([(85, some 7)], none), ([(11, none)], none), ([(87, some 9)], none), ([(84, some 6), (86, some 8), (88, some 10)], none), ([(0, none)], none), ([(90, some 12)], none), ([(91, some 13)], none), ([(92, some 14)], none), ([(89, some 11), (93, some 15)], none), ([(78, some 0), (80, some 2), (83, some 5), (94, some 16)], none), ([(95, some 17)], none), ([(77, some 18)], none), ([(77, some 18)], none), ([(77, some 18)], none), ([], none), ([], none), ([(13, some 22), (96, some 19)], none), ([(14, some 23), (97, some 20)], none)] [none, none, none, none, none, none, none, none, none, none, none, none, none, none, none, some 0, some 1, some 2, none, none, none, none, none, none, some 3, some 4] [15, 16, 17, 24, 25] 121 rfl (by kernel_rfl) rfl (by kernel_rfl) (by kernel_rfl) rfl (by kernel_rfl) TB.trans (TB.drew _ _) ⟨⟨⟨fun p hp g h => (by simp at hp; rcases hp with rfl | rfl <;> cases h), fun p hp q hq hpq g g2 h => (by simp at hp; rcases hp with rfl | rfl <;> cases h)⟩, fun p hp g h => (by simp at hp; rcases hp with rfl | rfl <;> cases h)⟩, fun e => (by cases e), fun e => (by cases e)⟩ (Nat.le_of_ble_eq_true rfl) ⟨?_, ?_, ?_, ?_, ?_, ?_, ?_, ?_, ?_, ?_, ?_, ?_, ?_, ?_, ?_, ?_, ?_, ?_, ?_, ?_, ?_, ?_, ?_, ?_, ?_, ?_, trivial⟩ ?_
              · intro a wx hT hF K hK
                replace hK := fun v w' (hN : NewT wx w') hv => hK v w' (TB.of_new (Nat.le_trans (Nat.le_refl _) hT.size) hN) (fun k h => JApp.keep h (by simp) (by simp) (by simp) hN) hv
                obtain ⟨f2, _⟩ := hF
                have f2 : a.tmps.getD 2 undef = .int .i64 ((m : Int)) := f2
                refine rely_wp rfl ?_
                exact opr_move (.inl rfl) (hK _ _ (NewT.refl _) f2)
              · intro a wx hT hF K hK
                replace hK := fun v w' (hN : NewT wx w') hv => hK v w' (TB.of_new (Nat.le_trans (Nat.le_refl _) hT.size) hN) (fun k h => JApp.keep h (by simp) (by simp) (by simp) hN) hv
                obtain ⟨f0, _⟩ := hF
                have f0 : a.tmps.getD 0 undef = v := f0
                refine rely_wp rfl ?_
                exact opr_move (.inl rfl) (hK _ _ (NewT.refl _) f0)
              · intro a wx hT hF K hK
                replace hK := fun v w' (hN : NewT wx w') hv => hK v w' (TB.of_new (Nat.le_trans (Nat.le_refl _) hT.size) hN) (fun k h => JApp.keep h (by simp) (by simp) (by simp) hN) hv
                obtain ⟨f79, _⟩ := hF
                have f79 : a.tmps.getD 79 undef = v := f79
                refine rely_wp rfl ?_
                exact opr_len_h rfl (by rw [eval_tmp, f79]; exact ((hT.out (Nat.le_refl _)).hs HL.out)) (hK _ _ (NewT.refl _) rfl)
              · intro a wx hT hF K hK
                replace hK := fun v w' (hN : NewT wx w') hv => hK v w' (TB.of_new (Nat.le_trans (Nat.le_refl _) hT.size) hN) (fun k h => JApp.keep h (by simp) (by simp) (by simp) hN) hv
                obtain ⟨f0, _⟩ := hF
                have f0 : a.tmps.getD 0 undef = v := f0
                refine rely_wp rfl ?_
                exact opr_move (.inl rfl) (hK _ _ (NewT.refl _) f0)
              · intro a wx hT hF K hK
                replace hK := fun v w' (hN : NewT wx w') hv => hK v w' (TB.of_new (Nat.le_trans (Nat.le_refl _) hT.size) hN) (fun k h => JApp.keep h (by simp) (by simp) (by simp) hN) hv
                obtain ⟨f81, _⟩ := hF
                have f81 : a.tmps.getD 81 undef = v := f81
                refine rely_wp rfl ?_
                exact opr_idxHB (W := w6) (i := 0) (d := d0) HD0.out rfl rfl (by rw [eval_tmp, f81]; exact HL.out) hT rfl (fun v hv => hK v _ (NewT.refl _) hv)
              · intro a wx hT hF K hK
                replace hK := fun v w' (hN : NewT wx w') hv => hK v w' (TB.of_new (Nat.le_trans (Nat.le_refl _) hT.size) hN) (fun k h => JApp.keep h (by simp) (by simp) (by simp) hN) hv
                obtain ⟨f82, _⟩ := hF
                replace f82 := show (svPB w6.heap.size d0).pred (a.tmps.getD 82 undef) wx from f82
                refine rely_wp rfl ?_
                exact opr_ldP rfl (svPB_out f82) (hK _ _ (NewT.refl _) rfl)
              · intro a wx hT hF K hK
                replace hK := fun v w' (hN : NewT wx w') hv => hK v w' (TB.of_new (Nat.le_trans (Nat.le_refl _) hT.size) hN) (fun k h => JApp.keep h (by simp) (by simp) (by simp) hN) hv
                obtain ⟨f11, _⟩ := hF
                have f11 : a.tmps.getD 11 undef = u11 := f11
                refine rely_wp rfl ?_
                exact opr_move (.inl rfl) (hK _ _ (NewT.refl _) f11)
              · intro a wx hT hF K hK
                replace hK := fun v w' (hN : NewT wx w') hv => hK v w' (TB.of_new (Nat.le_trans (Nat.le_refl _) hT.size) hN) (fun k h => JApp.keep h (by simp) (by simp) (by simp) hN) hv
                obtain ⟨f11, _⟩ := hF
                have f11 : a.tmps.getD 11 undef = u11 := f11
                refine rely_wp rfl ?_
                exact opr_move (.inl rfl) (hK _ _ (NewT.refl _) f11)
              · intro a wx hT hF K hK
                replace hK := fun v w' (hN : NewT wx w') hv => hK v w' (TB.of_new (Nat.le_trans (Nat.le_refl _) hT.size) hN) (fun k h => JApp.keep h (by simp) (by simp) (by simp) hN) hv
                obtain ⟨f85, _⟩ := hF
                have f85 : a.tmps.getD 85 undef = u11 := f85
                refine rely_wp rfl ?_
                exact opr_len_h rfl (by rw [eval_tmp, f85]; exact ((hT.out (Nat.le_refl _)).hs HU11.out)) (hK _ _ (NewT.refl _) rfl)
              · intro a wx hT hF K hK
                replace hK := fun v w' (hN : NewT wx w') hv => hK v w' (TB.of_new (Nat.le_trans (Nat.le_refl _) hT.size) hN) (fun k h => JApp.keep h (by simp) (by simp) (by simp) hN) hv
                obtain ⟨f11, _⟩ := hF
                have f11 : a.tmps.getD 11 undef = u11 := f11
                refine rely_wp rfl ?_
                exact opr_move (.inl rfl) (hK _ _ (NewT.refl _) f11)
              · intro a wx hT hF K hK
                replace hK := fun v w' (hN : NewT wx w') hv => hK v w' (TB.of_new (Nat.le_trans (Nat.le_refl _) hT.size) hN) (fun k h => JApp.keep h (by simp) (by simp) (by simp) hN) hv
                obtain ⟨f87, _⟩ := hF
                have f87 : a.tmps.getD 87 undef = u11 := f87
                refine rely_wp rfl ?_
                exact opr_len_h rfl (by rw [eval_tmp, f87]; exact ((hT.out (Nat.le_refl _)).hs HU11.out)) (hK _ _ (NewT.refl _) rfl)
              · intro a wx hT hF K hK
                replace hK := fun v w' (hN : NewT wx w') hv => hK v w' (TB.of_new (Nat.le_trans (Nat.le_refl _) hT.size) hN) (fun k h => JApp.keep h (by simp) (by simp) (by simp) hN) hv
                obtain ⟨f84, f86, f88, _⟩ := hF
                have f84 : a.tmps.getD 84 undef = u11 := f84
                have f86 : a.tmps.getD 86 undef = .int .i64 ((List.length (subM node z m l true) : Int)) := f86
                have f88 : a.tmps.getD 88 undef = .int .i64 ((List.length (subM node z m l true) : Int)) := f88
                refine rely_wp rfl ?_
                exact opr_to3HW (W := w6) (l := subM node z m l true) rfl (by rw [eval_tmp, f84]; exact HU11.out) f86 f88 (fun v hv => hK v _ (NewT.refl _) hv)
              · intro a wx hT hF K hK
                replace hK := fun v w' (hN : NewT wx w') hv => hK v w' (TB.of_new (Nat.le_trans (Nat.le_refl _) hT.size) hN) (fun k h => JApp.keep h (by simp) (by simp) (by simp) hN) hv
                obtain ⟨f0, _⟩ := hF
                have f0 : a.tmps.getD 0 undef = v := f0
                refine rely_wp rfl ?_
                exact opr_move (.inl rfl) (hK _ _ (NewT.refl _) f0)
              · intro a wx hT hF K hK
                replace hK := fun v w' (hN : NewT wx w') hv => hK v w' (TB.of_new (Nat.le_trans (Nat.le_refl _) hT.size) hN) (fun k h => JApp.keep h (by simp) (by simp) (by simp) hN) hv
                obtain ⟨f90, _⟩ := hF
                have f90 : a.tmps.getD 90 undef = v := f90
                refine rely_wp rfl ?_
                exact opr_idxHB (W := w6) (i := 0) (d := d0) HD0.out rfl rfl (by rw [eval_tmp, f90]; exact HL.out) hT rfl (fun v hv => hK v _ (NewT.refl _) hv)
              · intro a wx hT hF K hK
                replace hK := fun v w' (hN : NewT wx w') hv => hK v w' (TB.of_new (Nat.le_trans (Nat.le_refl _) hT.size) hN) (fun k h => JApp.keep h (by simp) (by simp) (by simp) hN) hv
                obtain ⟨f91, _⟩ := hF
                replace f91 := show (svPB w6.heap.size d0).pred (a.tmps.getD 91 undef) wx from f91
                refine rely_wp rfl ?_
                exact opr_ldP rfl (svPB_out f91) (hK _ _ (NewT.refl _) rfl)
              · intro a wx hT hF hJ K hK
                obtain ⟨f92, _⟩ := hF
                have f92 : a.tmps.getD 92 undef = .agg (rowA 32 (bF (d0))) := f92
                refine rely_wp rfl ?_
                exact opr_bsH1 rfl f92 (fun v w' hN hr => hK v w' (TB.of_new (Nat.le_trans (Nat.le_refl _) hT.size) hN) (JApp.one hJ.1 (by simp) hN hr) (rdH_some hr))
              · intro a wx hT hF hJ K hK
                obtain ⟨f89, f93, _⟩ := hF
                replace f89 := show (svFW w6 (subM node z m l true)).pred (a.tmps.getD 89 undef) wx from f89
                replace f93 := show (svNz).pred (a.tmps.getD 93 undef) wx from f93
                refine rely_wp rfl ?_
                obtain ⟨v', w', hrun, hN', hR'⟩ := run_appF ((svF (subM node z m l true)).stable _ _ _ f89 (hT.out (Nat.le_refl _))) (hJ.2.1 rfl f93) (by simp) (by have := HSS.out; simp; omega) 22
                exact opr_append rfl rfl rfl hrun (hK v' w' (TB.of_new (Nat.le_trans (Nat.le_refl _) hT.size) hN') (JApp.two hJ.1 (by simp) hN' hR') (rdH_some hR'))
              · intro a wx hT hF hJ K hK
                obtain ⟨f78, f80, f83, f94, _⟩ := hF
                have f78 : a.tmps.getD 78 undef = .int .i64 ((m : Int)) := f78
                have f80 : a.tmps.getD 80 undef = .int .i64 ((List.length (l) : Int)) := f80
                have f83 : a.tmps.getD 83 undef = .agg (rowA 32 (bF (d0))) := f83
                replace f94 := show (svNz).pred (a.tmps.getD 94 undef) wx from f94
                refine rely_wp rfl ?_
                exact opr_cv (HB1.out _ wx ((hT.out (Nat.le_refl _)).tables HT.out) (hJ.2.2 rfl f94)) rfl Tryd.func18 (by kernel_rfl) (by kernel_rfl) (by simp only [List.map_toArray, List.map_cons, List.map_nil, eval_tmp, f78, f80, f83]) (fun v w' hN hv => hK v w' (TB.of_new (Nat.le_trans (Nat.le_refl _) hT.size) hN) (JApp.more (VarsAt.keep hJ.1 (by simp) hN) (by decide)) hv)
              · intro a wx hT hF K hK
                replace hK := fun v w' (hN : NewT wx w') hv => hK v w' (TB.of_new (Nat.le_trans (Nat.le_refl _) hT.size) hN) (fun k h => JApp.keep h (by simp) (by simp) (by simp) hN) hv
                obtain ⟨f95, _⟩ := hF
                have f95 : a.tmps.getD 95 undef = (.tuple #[.agg (rowA 32 (bF (fun _ => 0))), .agg (rowA 32 (bF (fun _ => 0))), .bool false]) := f95
                refine rely_wp rfl ?_
                exact opr_move (.inl rfl) (hK _ _ (NewT.refl _) f95)
              · intro a wx hT hF K hK
                replace hK := fun v w' (hN : NewT wx w') hv => hK v w' (TB.of_new (Nat.le_trans (Nat.le_refl _) hT.size) hN) (fun k h => JApp.keep h (by simp) (by simp) (by simp) hN) hv
                obtain ⟨f77, _⟩ := hF
                have f77 : a.tmps.getD 77 undef = (.tuple #[.agg (rowA 32 (bF (fun _ => 0))), .agg (rowA 32 (bF (fun _ => 0))), .bool false]) := f77
                refine rely_wp rfl ?_
                exact opr_ext rfl f77 rfl (hK _ _ (NewT.refl _) rfl)
              · intro a wx hT hF K hK
                replace hK := fun v w' (hN : NewT wx w') hv => hK v w' (TB.of_new (Nat.le_trans (Nat.le_refl _) hT.size) hN) (fun k h => JApp.keep h (by simp) (by simp) (by simp) hN) hv
                obtain ⟨f77, _⟩ := hF
                have f77 : a.tmps.getD 77 undef = (.tuple #[.agg (rowA 32 (bF (fun _ => 0))), .agg (rowA 32 (bF (fun _ => 0))), .bool false]) := f77
                refine rely_wp rfl ?_
                exact opr_ext rfl f77 rfl (hK _ _ (NewT.refl _) rfl)
              · intro a wx hT hF K hK
                replace hK := fun v w' (hN : NewT wx w') hv => hK v w' (TB.of_new (Nat.le_trans (Nat.le_refl _) hT.size) hN) (fun k h => JApp.keep h (by simp) (by simp) (by simp) hN) hv
                obtain ⟨f77, _⟩ := hF
                have f77 : a.tmps.getD 77 undef = (.tuple #[.agg (rowA 32 (bF (fun _ => 0))), .agg (rowA 32 (bF (fun _ => 0))), .bool false]) := f77
                refine rely_wp rfl ?_
                exact opr_ext rfl f77 rfl (hK _ _ (NewT.refl _) rfl)
              · intro a wx hT hF K hK
                refine rely_wp rfl ?_
                refine opr_alloc_at rfl ?_
                exact hK _ _ (TB.of_new (Nat.le_trans (Nat.le_refl _) hT.size) (NewT.alloc _ _)) (fun k hJ => JApp.make hJ (Nat.le_trans (Nat.le_refl _) hT.size) (by simp) (by decide) (by decide)) ⟨_, rfl⟩
              · intro a wx hT hF K hK
                refine rely_wp rfl ?_
                refine opr_alloc_at rfl ?_
                exact hK _ _ (TB.of_new (Nat.le_trans (Nat.le_refl _) hT.size) (NewT.alloc _ _)) (fun k hJ => JApp.make hJ (Nat.le_trans (Nat.le_refl _) hT.size) (by simp) (by decide) (by decide)) ⟨_, rfl⟩
              · intro a wx hT hF hJ K hK
                obtain ⟨f13, f96, _⟩ := hF
                replace f13 := show (svPt).pred (a.tmps.getD 13 undef) wx from f13
                have f96 : a.tmps.getD 96 undef = .agg (rowA 32 (bF ((fun _ => 0)))) := f96
                refine rely_wp rfl ?_
                obtain ⟨g, hg⟩ := f13
                obtain ⟨hb, hr⟩ := hJ.1.2 (13, (fun _ => 0)) (by simp) g hg
                refine opr_putm (F := bF (fun _ => 0)) rfl hg f96 hr (by decide) info31 (fun _ => rfl) (fun i hi => by rw [if_pos (by omega), Nat.sub_zero]) ?_
                intro w' hR r'
                exact hK undef w' (TB.of_rt hR hb hr r') (JApp.more (VarsAt.put hJ.1 rfl hg (by simp) hR r' (by simp)) (by decide)) trivial
              · intro a wx hT hF hJ K hK
                obtain ⟨f14, f97, _⟩ := hF
                replace f14 := show (svPt).pred (a.tmps.getD 14 undef) wx from f14
                have f97 : a.tmps.getD 97 undef = .agg (rowA 32 (bF ((fun _ => 0)))) := f97
                refine rely_wp rfl ?_
                obtain ⟨g, hg⟩ := f14
                obtain ⟨hb, hr⟩ := hJ.1.2 (14, (fun _ => 0)) (by simp) g hg
                refine opr_putm (F := bF (fun _ => 0)) rfl hg f97 hr (by decide) info31 (fun _ => rfl) (fun i hi => by rw [if_pos (by omega), Nat.sub_zero]) ?_
                intro w' hR r'
                exact hK undef w' (TB.of_rt hR hb hr r') (JApp.more (VarsAt.put hJ.1 rfl hg (by simp) hR r' (by simp)) (by decide)) trivial
              · intro w7 k7
                intro u h; obtain rfl := Eq.symm (h (by simp)); clear h
                intro u h; obtain rfl := Eq.symm (h (by simp)); clear h
                intro u h; obtain rfl := Eq.symm (h (by simp)); clear h
                intro u h; obtain rfl := Eq.symm (h (by simp)); clear h
                intro _ _
                intro u h; obtain rfl := Eq.symm (h (by simp)); clear h
                intro u h; obtain rfl := Eq.symm (h (by simp)); clear h
                intro u h; obtain rfl := Eq.symm (h (by simp)); clear h
                intro u h; obtain rfl := Eq.symm (h (by simp)); clear h
                intro u h; obtain rfl := Eq.symm (h (by simp)); clear h
                intro u h; obtain rfl := Eq.symm (h (by simp)); clear h
                intro _ _
                intro u h; obtain rfl := Eq.symm (h (by simp)); clear h
                intro _ _
                intro u h; obtain rfl := Eq.symm (h (by simp)); clear h
                intro _ _
                intro _ _
                intro u h; obtain rfl := Eq.symm (h (by simp)); clear h
                intro u h; obtain rfl := Eq.symm (h (by simp)); clear h
                intro u h; obtain rfl := Eq.symm (h (by simp)); clear h
                intro u h; obtain rfl := Eq.symm (h (by simp)); clear h
                intro u h; obtain rfl := Eq.symm (h (by simp)); clear h
                intro u h; obtain ⟨p13, hv⟩ := (h (by simp)); clear h; subst hv
                intro u h; obtain ⟨p14, hv⟩ := (h (by simp)); clear h; subst hv
                intro _ _
                intro _ _
                refine relyEnd_nil rfl ?_
                intro hJ
                simp only [Act.put, List.setIfInBounds_toArray, List.set_cons_zero, List.set_cons_succ]
                refine opr_move (.inr rfl) ?_
                go_simp
                have k9 : NewT w6 w7 := k7.out (Nat.le_refl _)
                clear k7 hJ
                replace HL := Lib.hid (k9.hs HL.out)
                replace HU11 := Lib.hid (k9.hs HU11.out)
                replace HT := Lib.hid (k9.tables HT.out)
                replace HN := Lib.hid (NewT.trans _ _ _ HN.out k9)
                clear k9
                by_cases hs0 : (subM node z m l true).length = 0
                · obtain ⟨A2, c2, hu2⟩ := rdH_form HU11.out
                  rw [hs0] at hu2
                  subst hu2
                  go_wp2
                  go_ret
                  exact ⟨rfl, HN.out.out⟩
                · have HS1 : Hid (0 < (subM node z m l true).length) := Lib.hid (by omega)
                  have HB2 : Hid (∀ (u : Value) (w : World), Tables w → RdH w u (List.take ((subM node z m l true).length - 1) (subM node z m l true)) → Cv 18 #[.int .i64 (m : Int), .int .i64 (l.length : Int), .agg (rowA 32 (bF d0)), u] w (svHHq (fun _ => 0) (fun _ => 0) false)) := Lib.hid fun u w hT hu => HBX.out u _ w hT hu (by rw [List.length_take]; have := HSS.out; omega) (by rw [List.length_take]; omega)
                  obtain ⟨A2, c2, hu2⟩ := rdH_form HU11.out
                  have t20 : (((subM node z m l true).length : Int) == 0) = false := beq_eq_false_iff_ne.2 (by omega)
                  subst hu2
                  go_upto_region 22 with fail
                  obtain ⟨u11, eu⟩ : ∃ u, Value.slice A2 (subM node z m l true).length c2 = u := ⟨_, rfl⟩
                  rw [eu] at HU11 ⊢
                  clear eu
                  refine wp_region_rely (NewT) [SV.eq (.int .i64 ((m : Int))), SV.eq (v), SV.eq (.int .i64 ((List.length (l) : Int))), SV.eq (v), svP (d0), SV.eq (.agg (rowA 32 (bF (d0)))), SV.eq (u11), SV.eq (u11), SV.eq (.int .i64 ((List.length (subM node z m l true) : Int))), SV.eq (.int .i64 ((((subM node z m l true).length - 1 : Nat) : Int))), svH (List.take ((subM node z m l true).length - 1) (subM node z m l true)), SV.eq ((.tuple #[.agg (rowA 32 (bF (fun _ => 0))), .agg (rowA 32 (bF (fun _ => 0))), .bool false])), SV.eq ((.tuple #[.agg (rowA 32 (bF (fun _ => 0))), .agg (rowA 32 (bF (fun _ => 0))), .bool false])), SV.eq (.agg (rowA 32 (bF ((fun _ => 0))))), SV.eq (.agg (rowA 32 (bF ((fun _ => 0))))), SV.eq (.bool false)] [([(2, none)], none), ([(0, none)], none), ([(105, some 1)], none), ([(0, none)], none), ([(107, some 3)], none), ([(108, some 4)], none), ([(11, none)], none), ([(11, none)], none), ([(111, some 7)], none), ([(112, some 8)], none), ([(110, some 6), (113, some 9)], none), ([(104, some 0), (106, some 2), (109, some 5), (114, some 10)], none), ([(115, some 11)], none), ([(103, some 12)], none), ([(103, some 12)], none), ([(103, some 12)], none)] 121 rfl (by kernel_rfl) rfl (by kernel_rfl) (by kernel_rfl) rfl NewT.trans (NewT.drew _) (Nat.le_of_ble_eq_true rfl) ⟨?_, ?_, ?_, ?_, ?_, ?_, ?_, ?_, ?_, ?_, ?_, ?_, ?_, ?_, ?_, ?_, trivial⟩ ?_
                  · intro a wx hT hF K hK
                    obtain ⟨f2, _⟩ := hF
                    have f2 : a.tmps.getD 2 undef = .int .i64 ((m : Int)) := f2
                    refine rely_wp rfl ?_
                    exact opr_move (.inl rfl) (hK _ _ (NewT.refl _) f2)
                  · intro a wx hT hF K hK
                    obtain ⟨f0, _⟩ := hF
                    have f0 : a.tmps.getD 0 undef = v := f0
                    refine rely_wp rfl ?_
                    exact opr_move (.inl rfl) (hK _ _ (NewT.refl _) f0)
                  · intro a wx hT hF K hK
                    obtain ⟨f105, _⟩ := hF
                    have f105 : a.tmps.getD 105 undef = v := f105
                    refine rely_wp rfl ?_
                    exact opr_len_h rfl (by rw [eval_tmp, f105]; exact (hT.hs HL.out)) (hK _ _ (NewT.refl _) rfl)
                  · intro a wx hT hF K hK
                    obtain ⟨f0, _⟩ := hF
                    have f0 : a.tmps.getD 0 undef = v := f0
                    refine rely_wp rfl ?_
                    exact opr_move (.inl rfl) (hK _ _ (NewT.refl _) f0)
                  · intro a wx hT hF K hK
                    obtain ⟨f107, _⟩ := hF
                    have f107 : a.tmps.getD 107 undef = v := f107
                    refine rely_wp rfl ?_
                    exact opr_idxH (i := 0) (d := d0) (HD0.out) (rfl) rfl (by rw [eval_tmp, f107]; exact (hT.hs HL.out)) rfl (fun v hv => hK v _ (NewT.refl _) hv)
                  · intro a wx hT hF K hK
                    obtain ⟨f108, _⟩ := hF
                    replace f108 := show (svP (d0)).pred (a.tmps.getD 108 undef) wx from f108
                    refine rely_wp rfl ?_
                    exact opr_ldP rfl f108 (hK _ _ (NewT.refl _) rfl)
                  · intro a wx hT hF K hK
                    obtain ⟨f11, _⟩ := hF
                    have f11 : a.tmps.getD 11 undef = u11 := f11
                    refine rely_wp rfl ?_
                    exact opr_move (.inl rfl) (hK _ _ (NewT.refl _) f11)
                  · intro a wx hT hF K hK
                    obtain ⟨f11, _⟩ := hF
                    have f11 : a.tmps.getD 11 undef = u11 := f11
                    refine rely_wp rfl ?_
                    exact opr_move (.inl rfl) (hK _ _ (NewT.refl _) f11)
                  · intro a wx hT hF K hK
                    obtain ⟨f111, _⟩ := hF
                    have f111 : a.tmps.getD 111 undef = u11 := f111
                    refine rely_wp rfl ?_
                    exact opr_len_h rfl (by rw [eval_tmp, f111]; exact (hT.hs HU11.out)) (hK _ _ (NewT.refl _) rfl)
                  · intro a wx hT hF K hK
                    obtain ⟨f112, _⟩ := hF
                    have f112 : a.tmps.getD 112 undef = .int .i64 ((List.length (subM node z m l true) : Int)) := f112
                    refine rely_wp rfl ?_
                    exact opr_sub (r := (((subM node z m l true).length - 1 : Nat) : Int)) Tryd.underlying3 (by unfold wrap64; have := HS1.out; have := HSS.out; omega) rfl f112 rfl (hK _ _ (NewT.refl _) rfl)
                  · intro a wx hT hF K hK
                    obtain ⟨f110, f113, _⟩ := hF
                    have f110 : a.tmps.getD 110 undef = u11 := f110
                    have f113 : a.tmps.getD 113 undef = .int .i64 ((((subM node z m l true).length - 1 : Nat) : Int)) := f113
                    refine rely_wp rfl ?_
                    exact opr_toH (k := ((subM node z m l true).length - 1)) (by omega) (rfl) rfl (by rw [eval_tmp, f110]; exact (hT.hs HU11.out)) f113 (fun v hv => hK v _ (NewT.refl _) hv)
                  · intro a wx hT hF K hK
                    obtain ⟨f104, f106, f109, f114, _⟩ := hF
                    have f104 : a.tmps.getD 104 undef = .int .i64 ((m : Int)) := f104
                    have f106 : a.tmps.getD 106 undef = .int .i64 ((List.length (l) : Int)) := f106
                    have f109 : a.tmps.getD 109 undef = .agg (rowA 32 (bF (d0))) := f109
                    replace f114 := show (svH (List.take ((subM node z m l true).length - 1) (subM node z m l true))).pred (a.tmps.getD 114 undef) wx from f114
                    refine rely_wp rfl ?_
                    exact opr_cv (HB2.out _ wx (hT.tables HT.out) f114) rfl Tryd.func18 (by kernel_rfl) (by kernel_rfl) (by simp only [List.map_toArray, List.map_cons, List.map_nil, eval_tmp, f104, f106, f109]) hK
                  · intro a wx hT hF K hK
                    obtain ⟨f115, _⟩ := hF
                    have f115 : a.tmps.getD 115 undef = (.tuple #[.agg (rowA 32 (bF (fun _ => 0))), .agg (rowA 32 (bF (fun _ => 0))), .bool false]) := f115
                    refine rely_wp rfl ?_
                    exact opr_move (.inl rfl) (hK _ _ (NewT.refl _) f115)
                  · intro a wx hT hF K hK
                    obtain ⟨f103, _⟩ := hF
                    have f103 : a.tmps.getD 103 undef = (.tuple #[.agg (rowA 32 (bF (fun _ => 0))), .agg (rowA 32 (bF (fun _ => 0))), .bool false]) := f103
                    refine rely_wp rfl ?_
                    exact opr_ext rfl f103 rfl (hK _ _ (NewT.refl _) rfl)
                  · intro a wx hT hF K hK
                    obtain ⟨f103, _⟩ := hF
                    have f103 : a.tmps.getD 103 undef = (.tuple #[.agg (rowA 32 (bF (fun _ => 0))), .agg (rowA 32 (bF (fun _ => 0))), .bool false]) := f103
                    refine rely_wp rfl ?_
                    exact opr_ext rfl f103 rfl (hK _ _ (NewT.refl _) rfl)
                  · intro a wx hT hF K hK
                    obtain ⟨f103, _⟩ := hF
                    have f103 : a.tmps.getD 103 undef = (.tuple #[.agg (rowA 32 (bF (fun _ => 0))), .agg (rowA 32 (bF (fun _ => 0))), .bool false]) := f103
                    refine rely_wp rfl ?_
                    exact opr_ext rfl f103 rfl (hK _ _ (NewT.refl _) rfl)
                  · intro wa ka
                    intro u h; obtain rfl := Eq.symm (h (by simp)); clear h
                    intro u h; obtain rfl := Eq.symm (h (by simp)); clear h
                    intro u h; obtain rfl := Eq.symm (h (by simp)); clear h
                    intro u h; obtain rfl := Eq.symm (h (by simp)); clear h
                    intro _ _
                    intro u h; obtain rfl := Eq.symm (h (by simp)); clear h
                    intro u h; obtain rfl := Eq.symm (h (by simp)); clear h
                    intro u h; obtain rfl := Eq.symm (h (by simp)); clear h
                    intro u h; obtain rfl := Eq.symm (h (by simp)); clear h
                    intro u h; obtain rfl := Eq.symm (h (by simp)); clear h
                    intro _ _
                    intro u h; obtain rfl := Eq.symm (h (by simp)); clear h
                    intro u h; obtain rfl := Eq.symm (h (by simp)); clear h
                    intro u h; obtain rfl := Eq.symm (h (by simp)); clear h
                    intro u h; obtain rfl := Eq.symm (h (by simp)); clear h
                    intro u h; obtain rfl := Eq.symm (h (by simp)); clear h
                    refine relyEnd_nil rfl ?_
                    simp only [Act.put, List.setIfInBounds_toArray, List.set_cons_zero, List.set_cons_succ]
                    refine opr_move (.inr rfl) ?_
                    go_simp
                    go_wp2
                    go_ret
                    exact ⟨rfl, (NewT.trans _ _ _ HN.out ka).out⟩
          · skip
            have HM : Hid (m0 < 1 ∨ (l.length : Int) < m0) := Lib.hid (by omega)
            go_upto_region 14 with fail
            refine wp_region_steps0 NewT [SV.eq (v), SV.eq (.int .i64 (m0)), svPq (([] : List Hs)) false, svPq (([] : List Hs)) false, svH (([] : List Hs)), SV.eq (.bool false), svH (([] : List Hs)), SV.eq (.bool false)] [([(0, none)], none), ([(2, none)], none), ([(70, some 0), (71, some 1)], none), ([(72, some 2)], none), ([(69, some 3)], none), ([(69, some 3)], none), ([(73, some 4)], none), ([(74, some 5)], none)] 121 8 rfl rfl (by kernel_rfl) NewT.trans (NewT.refl _) (Nat.le_of_ble_eq_true rfl) ⟨?_, ?_, ?_, ?_, ?_, ?_, ?_, ?_, trivial⟩ ?_
            · intro a wx hT hF K hK
              obtain ⟨f0, _⟩ := hF
              have f0 : a.tmps.getD 0 undef = v := f0
              refine rely_wp rfl ?_
              exact opr_move (.inl rfl) (hK _ _ (NewT.refl _) f0)
            · intro a wx hT hF K hK
              obtain ⟨f2, _⟩ := hF
              have f2 : a.tmps.getD 2 undef = .int .i64 (m0) := f2
              refine rely_wp rfl ?_
              exact opr_move (.inl rfl) (hK _ _ (NewT.refl _) f2)
            · intro a wx hT hF K hK
              obtain ⟨f70, f71, _⟩ := hF
              have f70 : a.tmps.getD 70 undef = v := f70
              have f71 : a.tmps.getD 71 undef = .int .i64 (m0) := f71
              refine rely_wp rfl ?_
              exact opr_cv (Prove_bad _ l m0 wx (hT.hs HL.out) HM.out) rfl Tryd.func13 (by kernel_rfl) (by kernel_rfl) (by simp only [List.map_toArray, List.map_cons, List.map_nil, eval_tmp, f70, f71]) hK
            · intro a wx hT hF K hK
              obtain ⟨f72, _⟩ := hF
              replace f72 := show (svPq (([] : List Hs)) false).pred (a.tmps.getD 72 undef) wx from f72
              refine rely_wp rfl ?_
              exact opr_move (.inl rfl) (hK _ _ (NewT.refl _) f72)
            · intro a wx hT hF K hK
              obtain ⟨f69, _⟩ := hF
              replace f69 := show (svPq (([] : List Hs)) false).pred (a.tmps.getD 69 undef) wx from f69
              refine rely_wp rfl ?_
              exact opr_extP0 rfl f69 (fun u hu => hK u _ (NewT.refl _) hu)
            · intro a wx hT hF K hK
              obtain ⟨f69, _⟩ := hF
              replace f69 := show (svPq (([] : List Hs)) false).pred (a.tmps.getD 69 undef) wx from f69
              refine rely_wp rfl ?_
              exact opr_extP1 rfl f69 (hK _ _ (NewT.refl _) rfl)
            · intro a wx hT hF K hK
              obtain ⟨f73, _⟩ := hF
              replace f73 := show (svH (([] : List Hs))).pred (a.tmps.getD 73 undef) wx from f73
              refine rely_wp rfl ?_
              exact opr_move (.inr rfl) (hK _ _ (NewT.refl _) f73)
            · intro a wx hT hF K hK
              obtain ⟨f74, _⟩ := hF
              have f74 : a.tmps.getD 74 undef = .bool false := f74
              refine rely_wp rfl ?_
              exact opr_move (.inr rfl) (hK _ _ (NewT.refl _) f74)
            · intro w6 k6
              intro u h; obtain rfl := Eq.symm (h (by simp)); clear h
              intro u h; obtain rfl := Eq.symm (h (by simp)); clear h
              intro _ _
              intro _ _
              intro _ _
              intro u h; obtain rfl := Eq.symm (h (by simp)); clear h
              intro u11 h; have g11 := h (by simp); clear h; replace g11 := show (svH (([] : List Hs))).pred u11 w6 from g11
              intro u h; obtain rfl := Eq.symm (h (by simp)); clear h
              refine relyEnd_nil rfl ?_
              refine wpList_end rfl ?_
              simp only [Act.put, List.setIfInBounds_toArray, List.set_cons_zero, List.set_cons_succ]
              go_simp
              go_wp2
              go_ret
              exact ⟨rfl, (NewT.trans _ _ _ HN.out k6).out⟩
        · have HP1 : Hid (1 ≤ (pathM node z l i).length) := Lib.hid (by omega)
          have HC2 : Hid (∀ (u : Value) (w : World), Tables w → RdH w u (List.drop 1 (pathM node z l i)) → Cv 16 #[.agg (rowA 32 (bF e)), .int .i64 (i : Int), .int .i64 (l.length : Int), u] w (svHq (fun _ => 0) false)) := Lib.hid fun u w hT hu => HCX.out u _ w hT hu (by rw [List.length_drop]; have := HPS.out; omega) (by rw [List.length_drop]; omega)
          obtain ⟨A2, c2, hu2⟩ := rdH_form HU7.out
          have t10 : (0 : Int) < ((pathM node z l i).length : Int) := by omega
          subst hu2
          go_upto_region 11 with fail
          obtain ⟨u7, eu⟩ : ∃ u, Value.slice A2 (pathM node z l i).length c2 = u := ⟨_, rfl⟩
          rw [eu] at HU7 ⊢
          clear eu
          refine wp_region_rely (NewT) [SV.eq (v), SV.eq (.int .i64 ((i : Int))), svP (e), SV.eq (.agg (rowA 32 (bF (e)))), SV.eq (.int .i64 ((i : Int))), SV.eq (v), SV.eq (.int .i64 ((List.length (l) : Int))), SV.eq (u7), svH (List.drop 1 (pathM node z l i)), SV.eq ((.tuple #[.agg (rowA 32 (bF (fun _ => 0))), .bool false])), SV.eq ((.tuple #[.agg (rowA 32 (bF (fun _ => 0))), .bool false])), SV.eq (.agg (rowA 32 (bF ((fun _ => 0))))), SV.eq (.bool false)] [([(0, none)], none), ([(1, none)], none), ([(56, some 0), (57, some 1)], none), ([(58, some 2)], none), ([(1, none)], none), ([(0, none)], none), ([(61, some 5)], none), ([(7, none)], none), ([(63, some 7)], none), ([(59, some 3), (60, some 4), (62, some 6), (64, some 8)], none), ([(65, some 9)], none), ([(55, some 10)], none), ([(55, some 10)], none)] 121 rfl (by kernel_rfl) rfl (by kernel_rfl) (by kernel_rfl) rfl NewT.trans (NewT.drew _) (Nat.le_of_ble_eq_true rfl) ⟨?_, ?_, ?_, ?_, ?_, ?_, ?_, ?_, ?_, ?_, ?_, ?_, ?_, trivial⟩ ?_
          · intro a wx hT hF K hK
            obtain ⟨f0, _⟩ := hF
            have f0 : a.tmps.getD 0 undef = v := f0
            refine rely_wp rfl ?_
            exact opr_move (.inl rfl) (hK _ _ (NewT.refl _) f0)
          · intro a wx hT hF K hK
            obtain ⟨f1, _⟩ := hF
            have f1 : a.tmps.getD 1 undef = .int .i64 ((i : Int)) := f1
            refine rely_wp rfl ?_
            exact opr_move (.inl rfl) (hK _ _ (NewT.refl _) f1)
          · intro a wx hT hF K hK
            obtain ⟨f56, f57, _⟩ := hF
            have f56 : a.tmps.getD 56 undef = v := f56
            have f57 : a.tmps.getD 57 undef = .int .i64 ((i : Int)) := f57
            refine rely_wp rfl ?_
            exact opr_idxH (i := i) (d := e) (HE.out) (rfl) rfl (by rw [eval_tmp, f56]; exact (hT.hs HL.out)) f57 (fun v hv => hK v _ (NewT.refl _) hv)
          · intro a wx hT hF K hK
            obtain ⟨f58, _⟩ := hF
            replace f58 := show (svP (e)).pred (a.tmps.getD 58 undef) wx from f58
            refine rely_wp rfl ?_
            exact opr_ldP rfl f58 (hK _ _ (NewT.refl _) rfl)
          · intro a wx hT hF K hK
            obtain ⟨f1, _⟩ := hF
            have f1 : a.tmps.getD 1 undef = .int .i64 ((i : Int)) := f1
            refine rely_wp rfl ?_
            exact opr_move (.inl rfl) (hK _ _ (NewT.refl _) f1)
          · intro a wx hT hF K hK
            obtain ⟨f0, _⟩ := hF
            have f0 : a.tmps.getD 0 undef = v := f0
            refine rely_wp rfl ?_
            exact opr_move (.inl rfl) (hK _ _ (NewT.refl _) f0)
          · intro a wx hT hF K hK
            obtain ⟨f61, _⟩ := hF
            have f61 : a.tmps.getD 61 undef = v := f61
            refine rely_wp rfl ?_
            exact opr_len_h rfl (by rw [eval_tmp, f61]; exact (hT.hs HL.out)) (hK _ _ (NewT.refl _) rfl)
          · intro a wx hT hF K hK
            obtain ⟨f7, _⟩ := hF
            have f7 : a.tmps.getD 7 undef = u7 := f7
            refine rely_wp rfl ?_
            exact opr_move (.inl rfl) (hK _ _ (NewT.refl _) f7)
          · intro a wx hT hF K hK
            obtain ⟨f63, _⟩ := hF
            have f63 : a.tmps.getD 63 undef = u7 := f63
            refine rely_wp rfl ?_
            exact opr_fromH (k := 1) (HP1.out) (rfl) rfl (by rw [eval_tmp, f63]; exact (hT.hs HU7.out)) rfl (fun v hv => hK v _ (NewT.refl _) hv)
          · intro a wx hT hF K hK
            obtain ⟨f59, f60, f62, f64, _⟩ := hF
            have f59 : a.tmps.getD 59 undef = .agg (rowA 32 (bF (e))) := f59
            have f60 : a.tmps.getD 60 undef = .int .i64 ((i : Int)) := f60
            have f62 : a.tmps.getD 62 undef = .int .i64 ((List.length (l) : Int)) := f62
            replace f64 := show (svH (List.drop 1 (pathM node z l i))).pred (a.tmps.getD 64 undef) wx from f64
            refine rely_wp rfl ?_
            exact opr_cv (HC2.out _ wx (hT.tables HT.out) f64) rfl Tryd.func16 (by kernel_rfl) (by kernel_rfl) (by simp only [List.map_toArray, List.map_cons, List.map_nil, eval_tmp, f59, f60, f62]) hK
          · intro a wx hT hF K hK
            obtain ⟨f65, _⟩ := hF
            have f65 : a.tmps.getD 65 undef = (.tuple #[.agg (rowA 32 (bF (fun _ => 0))), .bool false]) := f65
            refine rely_wp rfl ?_
            exact opr_move (.inl rfl) (hK _ _ (NewT.refl _) f65)
          · intro a wx hT hF K hK
            obtain ⟨f55, _⟩ := hF
            have f55 : a.tmps.getD 55 undef = (.tuple #[.agg (rowA 32 (bF (fun _ => 0))), .bool false]) := f55
            refine rely_wp rfl ?_
            exact opr_ext rfl f55 rfl (hK _ _ (NewT.refl _) rfl)
          · intro a wx hT hF K hK
            obtain ⟨f55, _⟩ := hF
            have f55 : a.tmps.getD 55 undef = (.tuple #[.agg (rowA 32 (bF (fun _ => 0))), .bool false]) := f55
            refine rely_wp rfl ?_
            exact opr_ext rfl f55 rfl (hK _ _ (NewT.refl _) rfl)
          · intro w5 k5
            intro u h; obtain rfl := Eq.symm (h (by simp)); clear h
            intro u h; obtain rfl := Eq.symm (h (by simp)); clear h
            intro _ _
            intro u h; obtain rfl := Eq.symm (h (by simp)); clear h
            intro u h; obtain rfl := Eq.symm (h (by simp)); clear h
            intro u h; obtain rfl := Eq.symm (h (by simp)); clear h
            intro u h; obtain rfl := Eq.symm (h (by simp)); clear h
            intro u h; obtain rfl := Eq.symm (h (by simp)); clear h
            intro _ _
            intro u h; obtain rfl := Eq.symm (h (by simp)); clear h
            intro u h; obtain rfl := Eq.symm (h (by simp)); clear h
            intro u h; obtain rfl := Eq.symm (h (by simp)); clear h
            intro u h; obtain rfl := Eq.symm (h (by simp)); clear h
            refine relyEnd_nil rfl ?_
            simp only [Act.put, List.setIfInBounds_toArray, List.set_cons_zero, List.set_cons_succ]
            refine opr_move (.inr rfl) ?_
            go_simp
            replace HL := Lib.hid (k5.hs HL.out)
            replace HT := Lib.hid (k5.tables HT.out)
            replace HN := Lib.hid (NewT.trans _ _ _ HN.out k5)
            clear k5
            by_cases hm : 1 ≤ m0 ∧ m0 ≤ (l.length : Int)
            · skip
              obtain ⟨m, rfl⟩ : ∃ k : Nat, m0 = (k : Int) := ⟨m0.toNat, by omega⟩
              have HM1 : Hid (1 ≤ m) := Lib.hid (by omega)
              have HML : Hid (m ≤ l.length) := Lib.hid (by omega)
              obtain ⟨d0, hd0⟩ : ∃ e, l[0]? = some e := ⟨_, List.getElem?_eq_getElem (by omega)⟩
              have HD0 := Lib.hid hd0
              have HSS : Hid ((subM node z m l true).length ≤ 21) := Lib.hid (subM_short _ _ _ (by have := HLEN.out; omega))
              have HBX : Hid (∀ (u : Value) (q : List Hs) (w : World), Tables w → RdH w u q → q.length ≤ 1000 → q.length ≠ (subM node z m l true).length → Cv 18 #[.int .i64 (m : Int), .int .i64 (l.length : Int), .agg (rowA 32 (bF d0)), u] w (svHHq (fun _ => 0) (fun _ => 0) false)) := Lib.hid fun u q w hT hu hq hne => by
                have h := Both_cv hX d0 (m : Int) (l.length : Int) u q w hT hu (by omega)
                have e : okB (m : Int) (l.length : Int) q.length = false := by
                  have h1 := (both_root (node := node) (z := z) (fun _ => 0) l m HM1.out HML.out (by have := HLEN.out; omega)).1
                  exact okB_other h1 hne
                unfold bothM at h
                rw [e, if_neg (by decide)] at h
                exact h
              have HB1 : Hid (∀ (u : Value) (w : World), Tables w → RdH w u (subM node z m l true ++ [d0]) → Cv 18 #[.int .i64 (m : Int), .int .i64 (l.length : Int), .agg (rowA 32 (bF d0)), u] w (svHHq (fun _ => 0) (fun _ => 0) false)) := Lib.hid fun u w hT hu => HBX.out u _ w hT hu (by have := HSS.out; simp; omega) (by simp)
              clear hd0
              go_upto_region 14 with fail
              refine wp_region_steps0 NewT [SV.eq (v), SV.eq (.int .i64 ((m : Int))), svPq (subM node z m l true) true, svPq (subM node z m l true) true, svH (subM node z m l true), SV.eq (.bool true), svH (subM node z m l true), SV.eq (.bool true)] [([(0, none)], none), ([(2, none)], none), ([(70, some 0), (71, some 1)], none), ([(72, some 2)], none), ([(69, some 3)], none), ([(69, some 3)], none), ([(73, some 4)], none), ([(74, some 5)], none)] 121 8 rfl rfl (by kernel_rfl) NewT.trans (NewT.refl _) (Nat.le_of_ble_eq_true rfl) ⟨?_, ?_, ?_, ?_, ?_, ?_, ?_, ?_, trivial⟩ ?_
              · intro a wx hT hF K hK
                obtain ⟨f0, _⟩ := hF
                have f0 : a.tmps.getD 0 undef = v := f0
                refine rely_wp rfl ?_
                exact opr_move (.inl rfl) (hK _ _ (NewT.refl _) f0)
              · intro a wx hT hF K hK
                obtain ⟨f2, _⟩ := hF
                have f2 : a.tmps.getD 2 undef = .int .i64 ((m : Int)) := f2
                refine rely_wp rfl ?_
                exact opr_move (.inl rfl) (hK _ _ (NewT.refl _) f2)
              · intro a wx hT hF K hK
                obtain ⟨f70, f71, _⟩ := hF
                have f70 : a.tmps.getD 70 undef = v := f70
                have f71 : a.tmps.getD 71 undef = .int .i64 ((m : Int)) := f71
                refine rely_wp rfl ?_
                exact opr_cv (Prove_good hX _ l m wx (hT.tables HT.out) (hT.hs HL.out) HM1.out HML.out (by have := HLEN.out; omega)) rfl Tryd.func13 (by kernel_rfl) (by kernel_rfl) (by simp only [List.map_toArray, List.map_cons, List.map_nil, eval_tmp, f70, f71]) hK
              · intro a wx hT hF K hK
                obtain ⟨f72, _⟩ := hF
                replace f72 := show (svPq (subM node z m l true) true).pred (a.tmps.getD 72 undef) wx from f72
                refine rely_wp rfl ?_
                exact opr_move (.inl rfl) (hK _ _ (NewT.refl _) f72)
              · intro a wx hT hF K hK
                obtain ⟨f69, _⟩ := hF
                replace f69 := show (svPq (subM node z m l true) true).pred (a.tmps.getD 69 undef) wx from f69
                refine rely_wp rfl ?_
                exact opr_extP0 rfl f69 (fun u hu => hK u _ (NewT.refl _) hu)
              · intro a wx hT hF K hK
                obtain ⟨f69, _⟩ := hF
                replace f69 := show (svPq (subM node z m l true) true).pred (a.tmps.getD 69 undef) wx from f69
                refine rely_wp rfl ?_
                exact opr_extP1 rfl f69 (hK _ _ (NewT.refl _) rfl)
              · intro a wx hT hF K hK
                obtain ⟨f73, _⟩ := hF
                replace f73 := show (svH (subM node z m l true)).pred (a.tmps.getD 73 undef) wx from f73
                refine rely_wp rfl ?_
                exact opr_move (.inr rfl) (hK _ _ (NewT.refl _) f73)
              · intro a wx hT hF K hK
                obtain ⟨f74, _⟩ := hF
                have f74 : a.tmps.getD 74 undef = .bool true := f74
                refine rely_wp rfl ?_
                exact opr_move (.inr rfl) (hK _ _ (NewT.refl _) f74)
              · intro w6 k6
                intro u h; obtain rfl := Eq.symm (h (by simp)); clear h
                intro u h; obtain rfl := Eq.symm (h (by simp)); clear h
                intro _ _
                intro _ _
                intro _ _
                intro u h; obtain rfl := Eq.symm (h (by simp)); clear h
                intro u11 h; have g11 := h (by simp); clear h; replace g11 := show (svH (subM node z m l true)).pred u11 w6 from g11
                intro u h; obtain rfl := Eq.symm (h (by simp)); clear h
                refine relyEnd_nil rfl ?_
                refine wpList_end rfl ?_
                simp only [Act.put, List.setIfInBounds_toArray, List.set_cons_zero, List.set_cons_succ]
                go_simp
                have HU11 := Lib.hid (show RdH w6 u11 (subM node z m l true) from g11)
                clear g11
                replace HL := Lib.hid (k6.hs HL.out)
                replace HT := Lib.hid (k6.tables HT.out)
                replace HN := Lib.hid (NewT.trans _ _ _ HN.out k6)
                clear k6
                go_upto_region 17 with fail
                refine wp_region_relyA0 (TB w6.heap.size) (JApp w6.heap.size [(13, (fun _ => 0)), (14, (fun _ => 0))] 93 [d0] 94 (subM node z m l true ++ [d0])) [SV.eq (.int .i64 ((m : Int))), SV.eq (v), SV.eq (.int .i64 ((List.length (l) : Int))), SV.eq (v), svPB w6.heap.size d0, SV.eq (.agg (rowA 32 (bF (d0)))), SV.eq (u11), SV.eq (u11), SV.eq (.int .i64 ((List.length (subM node z m l true) : Int))), SV.eq (u11), SV.eq (.int .i64 ((List.length (subM node z m l true) : Int))), svFW w6 (subM node z m l true), SV.eq (v), svPB w6.heap.size d0, SV.eq (.agg (rowA 32 (bF (d0)))), svNz, svNz, SV.eq ((.tuple #[.agg (rowA 32 (bF (fun _ => 0))), .agg (rowA 32 (bF (fun _ => 0))), .bool false])), SV.eq ((.tuple #[.agg (rowA 32 (bF (fun _ => 0))), .agg (rowA 32 (bF (fun _ => 0))), .bool false])), SV.eq (.agg (rowA 32 (bF ((fun _ => 0))))), SV.eq (.agg (rowA 32 (bF ((fun _ => 0))))), SV.eq (.bool false), svPt, svPt, SV.any, SV.any] [([(2, none)], none), ([(0, none)], none), ([(79, some 1)], none), ([(0, none)], none), ([(81, some 3)], none), ([(82, some 4)], none), ([(11, none)], none), ([(11, none)], none), ([(85, some 7)], none), ([(11, none)], none), ([(87, some 9)], none), ([(84, some 6), (86, some 8), (88, some 10)], none), ([(0, none)], none), ([(90, some 12)], none), ([(91, some 13)], none), ([(92, some 14)], none), ([(89, some 11), (93, some 15)], none), ([(78, some 0), (80, some 2), (83, some 5), (94, some 16)], none), ([(95, some 17)], none), ([(77, some 18)], none), ([(77, some 18)], none), ([(77, some 18)], none), ([], none), ([], none), ([(13, some 22), (96, some 19)], none), ([(14, some 23), (97, some 20)], none)] [none, none, none, none, none, none, none, none, none, none, none, none, none, none, none, some 0, some 1, some 2, none, none, none, none, none, none, some 3, some 4] [15, 16, 17, 24, 25] 121 rfl (by kernel_rfl) rfl (by kernel_rfl) (by kernel_rfl) rfl (by kernel_rfl) TB.trans (TB.drew _ _) ⟨⟨⟨fun p hp g h => (by simp at hp; rcases hp with rfl | rfl <;> cases h), fun p hp q hq hpq g g2 h => (by simp at hp; rcases hp with rfl | rfl <;> cases h)⟩, fun p hp g h => (by simp at hp; rcases hp with rfl | rfl <;> cases h)⟩, fun e => (by cases e), fun e => (by cases e)⟩ (Nat.le_of_ble_eq_true rfl) ⟨?_, ?_, ?_, ?_, ?_, ?_, ?_, ?_, ?_, ?_, ?_, ?_, ?_, ?_, ?_, ?_, ?_, ?_, ?_, ?_, ?_, ?_, ?_, ?_, ?_, ?_, trivial⟩ ?_
                · intro a wx hT hF K hK
                  replace hK := fun v w' (hN : NewT wx w') hv => hK v w' (TB.of_new (Nat.le_trans (Nat.le_refl _) hT.size) hN) (fun k h => JApp.keep h (by simp) (by simp) (by simp) hN) hv
                  obtain ⟨f2, _⟩ := hF
                  have f2 : a.tmps.getD 2 undef = .int .i64 ((m : Int)) := f2
                  refine rely_wp rfl ?_
                  exact opr_move (.inl rfl) (hK _ _ (NewT.refl _) f2)
                · intro a wx hT hF K hK
                  replace hK := fun v w' (hN : NewT wx w') hv => hK v w' (TB.of_new (Nat.le_trans (Nat.le_refl _) hT.size) hN) (fun k h => JApp.keep h (by simp) (by simp) (by simp) hN) hv
                  obtain ⟨f0, _⟩ := hF
                  have f0 : a.tmps.getD 0 undef = v := f0
                  refine rely_wp rfl ?_
                  exact opr_move (.inl rfl) (hK _ _ (NewT.refl _) f0)
                · intro a wx hT hF K hK
                  replace hK := fun v w' (hN : NewT wx w') hv => hK v w' (TB.of_new (Nat.le_trans (Nat.le_refl _) hT.size) hN) (fun k h => JApp.keep h (by simp) (by simp) (by simp) hN) hv
                  obtain ⟨f79, _⟩ := hF
                  have f79 : a.tmps.getD 79 undef = v := f79
                  refine rely_wp rfl ?_
                  exact opr_len_h rfl (by rw [eval_tmp, f79]; exact ((hT.out (Nat.le_refl _)).hs HL.out)) (hK _ _ (NewT.refl _) rfl)
                · intro a wx hT hF K hK
                  replace hK := fun v w' (hN : NewT wx w') hv => hK v w' (TB.of_new (Nat.le_trans (Nat.le_refl _) hT.size) hN) (fun k h => JApp.keep h (by simp) (by simp) (by simp) hN) hv
                  obtain ⟨f0, _⟩ := hF
                  have f0 : a.tmps.getD 0 undef = v := f0
                  refine rely_wp rfl ?_
                  exact opr_move (.inl rfl) (hK _ _ (NewT.refl _) f0)
                · intro a wx hT hF K hK
                  replace hK := fun v w' (hN : NewT wx w') hv => hK v w' (TB.of_new (Nat.le_trans (Nat.le_refl _) hT.size) hN) (fun k h => JApp.keep h (by simp) (by simp) (by simp) hN) hv
                  obtain ⟨f81, _⟩ := hF
                  have f81 : a.tmps.getD 81 undef = v := f81
                  refine rely_wp rfl ?_
                  exact opr_idxHB (W := w6) (i := 0) (d := d0) HD0.out rfl rfl (by rw [eval_tmp, f81]; exact HL.out) hT rfl (fun v hv => hK v _ (NewT.refl _) hv)
                · intro a wx hT hF K hK
                  replace hK := fun v w' (hN : NewT wx w') hv => hK v w' (TB.of_new (Nat.le_trans (Nat.le_refl _) hT.size) hN) (fun k h => JApp.keep h (by simp) (by simp) (by simp) hN) hv
                  obtain ⟨f82, _⟩ := hF
                  replace f82 := show (svPB w6.heap.size d0).pred (a.tmps.getD 82 undef) wx from f82
                  refine rely_wp rfl ?_
                  exact opr_ldP rfl (svPB_out f82) (hK _ _ (NewT.refl _) rfl)
                · intro a wx hT hF K hK
                  replace hK := fun v w' (hN : NewT wx w') hv => hK v w' (TB.of_new (Nat.le_trans (Nat.le_refl _) hT.size) hN) (fun k h => JApp.keep h (by simp) (by simp) (by simp) hN) hv
                  obtain ⟨f11, _⟩ := hF
                  have f11 : a.tmps.getD 11 undef = u11 := f11
                  refine rely_wp rfl ?_
                  exact opr_move (.inl rfl) (hK _ _ (NewT.refl _) f11)
                · intro a wx hT hF K hK
                  replace hK := fun v w' (hN : NewT wx w') hv => hK v w' (TB.of_new (Nat.le_trans (Nat.le_refl _) hT.size) hN) (fun k h => JApp.keep h (by simp) (by simp) (by simp) hN) hv
                  obtain ⟨f11, _⟩ := hF
                  have f11 : a.tmps.getD 11 undef = u11 := f11
                  refine rely_wp rfl ?_
                  exact opr_move (.inl rfl) (hK _ _ (NewT.refl _) f11)
                · intro a wx hT hF K hK
                  replace hK := fun v w' (hN : NewT wx w') hv => hK v w' (TB.of_new (Nat.le_trans (Nat.le_refl _) hT.size) hN) (fun k h => JApp.keep h (by simp) (by simp) (by simp) hN) hv
                  obtain ⟨f85, _⟩ := hF
                  have f85 : a.tmps.getD 85 undef = u11 := f85
                  refine rely_wp rfl ?_
                  exact opr_len_h rfl (by rw [eval_tmp, f85]; exact ((hT.out (Nat.le_refl _)).hs HU11.out)) (hK _ _ (NewT.refl _) rfl)
                · intro a wx hT hF K hK
                  replace hK := fun v w' (hN : NewT wx w') hv => hK v w' (TB.of_new (Nat.le_trans (Nat.le_refl _) hT.size) hN) (fun k h => JApp.keep h (by simp) (by simp) (by simp) hN) hv
                  obtain ⟨f11, _⟩ := hF
                  have f11 : a.tmps.getD 11 undef = u11 := f11
                  refine rely_wp rfl ?_
                  exact opr_move (.inl rfl) (hK _ _ (NewT.refl _) f11)
                · intro a wx hT hF K hK
                  replace hK := fun v w' (hN : NewT wx w') hv => hK v w' (TB.of_new (Nat.le_trans (Nat.le_refl _) hT.size) hN) (fun k h => JApp.keep h (by simp) (by simp) (by simp) hN) hv
                  obtain ⟨f87, _⟩ := hF
                  have f87 : a.tmps.getD 87 undef = u11 := f87
                  refine rely_wp rfl ?_
                  exact opr_len_h rfl (by rw [eval_tmp, f87]; exact ((hT.out (Nat.le_refl _)).hs HU11.out)) (hK _ _ (NewT.refl _) rfl)
                · intro a wx hT hF K hK
                  replace hK := fun v w' (hN : NewT wx w') hv => hK v w' (TB.of_new (Nat.le_trans (Nat.le_refl _) hT.size) hN) (fun k h => JApp.keep h (by simp) (by simp) (by simp) hN) hv
                  obtain ⟨f84, f86, f88, _⟩ := hF
                  have f84 : a.tmps.getD 84 undef = u11 := f84
                  have f86 : a.tmps.getD 86 undef = .int .i64 ((List.length (subM node z m l true) : Int)) := f86
                  have f88 : a.tmps.getD 88 undef = .int .i64 ((List.length (subM node z m l true) : Int)) := f88
                  refine rely_wp rfl ?_
                  exact opr_to3HW (W := w6) (l := subM node z m l true) rfl (by rw [eval_tmp, f84]; exact HU11.out) f86 f88 (fun v hv => hK v _ (NewT.refl _) hv)
                · intro a wx hT hF K hK
                  replace hK := fun v w' (hN : NewT wx w') hv => hK v w' (TB.of_new (Nat.le_trans (Nat.le_refl _) hT.size) hN) (fun k h => JApp.keep h (by simp) (by simp) (by simp) hN) hv
                  obtain ⟨f0, _⟩ := hF
                  have f0 : a.tmps.getD 0 undef = v := f0
                  refine rely_wp rfl ?_
                  exact opr_move (.inl rfl) (hK _ _ (NewT.refl _) f0)
                · intro a wx hT hF K hK
                  replace hK := fun v w' (hN : NewT wx w') hv => hK v w' (TB.of_new (Nat.le_trans (Nat.le_refl _) hT.size) hN) (fun k h => JApp.keep h (by simp) (by simp) (by simp) hN) hv
                  obtain ⟨f90, _⟩ := hF
                  have f90 : a.tmps.getD 90 undef = v := f90
                  refine rely_wp rfl ?_
                  exact opr_idxHB (W := w6) (i := 0) (d := d0) HD0.out rfl rfl (by rw [eval_tmp, f90]; exact HL.out) hT rfl (fun v hv => hK v _ (NewT.refl _) hv)
                · intro a wx hT hF K hK
                  replace hK := fun v w' (hN : NewT wx w') hv => hK v w' (TB.of_new (Nat.le_trans (Nat.le_refl _) hT.size) hN) (fun k h => JApp.keep h (by simp) (by simp) (by simp) hN) hv
                  obtain ⟨f91, _⟩ := hF
                  replace f91 := show (svPB w6.heap.size d0).pred (a.tmps.getD 91 undef) wx from f91
                  refine rely_wp rfl ?_
                  exact opr_ldP rfl (svPB_out f91) (hK _ _ (NewT.refl _) rfl)
                · intro a wx hT hF hJ K hK
                  obtain ⟨f92, _⟩ := hF
                  have f92 : a.tmps.getD 92 undef = .agg (rowA 32 (bF (d0))) := f92
                  refine rely_wp rfl ?_
                  exact opr_bsH1 rfl f92 (fun v w' hN hr => hK v w' (TB.of_new (Nat.le_trans (Nat.le_refl _) hT.size) hN) (JApp.one hJ.1 (by simp) hN hr) (rdH_some hr))
                · intro a wx hT hF hJ K hK
                  obtain ⟨f89, f93, _⟩ := hF
                  replace f89 := show (svFW w6 (subM node z m l true)).pred (a.tmps.getD 89 undef) wx from f89
                  replace f93 := show (svNz).pred (a.tmps.getD 93 undef) wx from f93
                  refine rely_wp rfl ?_
                  obtain ⟨v', w', hrun, hN', hR'⟩ := run_appF ((svF (subM node z m l true)).stable _ _ _ f89 (hT.out (Nat.le_refl _))) (hJ.2.1 rfl f93) (by simp) (by have := HSS.out; simp; omega) 22
                  exact opr_append rfl rfl rfl hrun (hK v' w' (TB.of_new (Nat.le_trans (Nat.le_refl _) hT.size) hN') (JApp.two hJ.1 (by simp) hN' hR') (rdH_some hR'))
                · intro a wx hT hF hJ K hK
                  obtain ⟨f78, f80, f83, f94, _⟩ := hF
                  have f78 : a.tmps.getD 78 undef = .int .i64 ((m : Int)) := f78
                  have f80 : a.tmps.getD 80 undef = .int .i64 ((List.length (l) : Int)) := f80
                  have f83 : a.tmps.getD 83 undef = .agg (rowA 32 (bF (d0))) := f83
                  replace f94 := show (svNz).pred (a.tmps.getD 94 undef) wx from f94
                  refine rely_wp rfl ?_
                  exact opr_cv (HB1.out _ wx ((hT.out (Nat.le_refl _)).tables HT.out) (hJ.2.2 rfl f94)) rfl Tryd.func18 (by kernel_rfl) (by kernel_rfl) (by simp only [List.map_toArray, List.map_cons, List.map_nil, eval_tmp, f78, f80, f83]) (fun v w' hN hv => hK v w' (TB.of_new (Nat.le_trans (Nat.le_refl _) hT.size) hN) (JApp.more (VarsAt.keep hJ.1 (by simp) hN) (by decide)) hv)
                · intro a wx hT hF K hK
                  replace hK := fun v w' (hN : NewT wx w') hv => hK v w' (TB.of_new (Nat.le_trans (Nat.le_refl _) hT.size) hN) (fun k h => JApp.keep h (by simp) (by simp) (by simp) hN) hv
                  obtain ⟨f95, _⟩ := hF
                  have f95 : a.tmps.getD 95 undef = (.tuple #[.agg (rowA 32 (bF (fun _ => 0))), .agg (rowA 32 (bF (fun _ => 0))), .bool false]) := f95
                  refine rely_wp rfl ?_
                  exact opr_move (.inl rfl) (hK _ _ (NewT.refl _) f95)
                · intro a wx hT hF K hK
                  replace hK := fun v w' (hN : NewT wx w') hv => hK v w' (TB.of_new (Nat.le_trans (Nat.le_refl _) hT.size) hN) (fun k h => JApp.keep h (by simp) (by simp) (by simp) hN) hv
                  obtain ⟨f77, _⟩ := hF
                  have f77 : a.tmps.getD 77 undef = (.tuple #[.agg (rowA 32 (bF (fun _ => 0))), .agg (rowA 32 (bF (fun _ => 0))), .bool false]) := f77
                  refine rely_wp rfl ?_
                  exact opr_ext rfl f77 rfl (hK _ _ (NewT.refl _) rfl)
                · intro a wx hT hF K hK
                  replace hK := fun v w' (hN : NewT wx w') hv => hK v w' (TB.of_new (Nat.le_trans (Nat.le_refl _) hT.size) hN) (fun k h => JApp.keep h (by simp) (by simp) (by simp) hN) hv
                  obtain ⟨f77, _⟩ := hF
                  have f77 : a.tmps.getD 77 undef = (.tuple #[.agg (rowA 32 (bF (fun _ => 0))), .agg (rowA 32 (bF (fun _ => 0))), .bool false]) := f77
                  refine rely_wp rfl ?_
                  exact opr_ext rfl f77 rfl (hK _ _ (NewT.refl _) rfl)
                · intro a wx hT hF K hK
                  replace hK := fun v w' (hN : NewT wx w') hv => hK v w' (TB.of_new (Nat.le_trans (Nat.le_refl _) hT.size) hN) (fun k h => JApp.keep h (by simp) (by simp) (by simp) hN) hv
                  obtain ⟨f77, _⟩ := hF
                  have f77 : a.tmps.getD 77 undef = (.tuple #[.agg (rowA 32 (bF (fun _ => 0))), .agg (rowA 32 (bF (fun _ => 0))), .bool false]) := f77
                  refine rely_wp rfl ?_
                  exact opr_ext rfl f77 rfl (hK _ _ (NewT.refl _) rfl)
                · intro a wx hT hF K hK
                  refine rely_wp rfl ?_
                  refine opr_alloc_at rfl ?_
                  exact hK _ _ (TB.of_new (Nat.le_trans (Nat.le_refl _) hT.size) (NewT.alloc _ _)) (fun k hJ => JApp.make hJ (Nat.le_trans (Nat.le_refl _) hT.size) (by simp) (by decide) (by decide)) ⟨_, rfl⟩
                · intro a wx hT hF K hK
                  refine rely_wp rfl ?_
                  refine opr_alloc_at rfl ?_
                  exact hK _ _ (TB.of_new (Nat.le_trans (Nat.le_refl _) hT.size) (NewT.alloc _ _)) (fun k hJ => JApp.make hJ (Nat.le_trans (Nat.le_refl _) hT.size) (by simp) (by decide) (by decide)) ⟨_, rfl⟩
                · intro a wx hT hF hJ K hK
                  obtain ⟨f13, f96, _⟩ := hF
                  replace f13 := show (svPt).pred (a.tmps.getD 13 undef) wx from f13
                  have f96 : a.tmps.getD 96 undef = .agg (rowA 32 (bF ((fun _ => 0)))) := f96
                  refine rely_wp rfl ?_
                  obtain ⟨g, hg⟩ := f13
                  obtain ⟨hb, hr⟩ := hJ.1.2 (13, (fun _ => 0)) (by simp) g hg
                  refine opr_putm (F := bF (fun _ => 0)) rfl hg f96 hr (by decide) info31 (fun _ => rfl) (fun i hi => by rw [if_pos (by omega), Nat.sub_zero]) ?_
                  intro w' hR r'
                  exact hK undef w' (TB.of_rt hR hb hr r') (JApp.more (VarsAt.put hJ.1 rfl hg (by simp) hR r' (by simp)) (by decide)) trivial
                · intro a wx hT hF hJ K hK
                  obtain ⟨f14, f97, _⟩ := hF
                  replace f14 := show (svPt).pred (a.tmps.getD 14 undef) wx from f14
                  have f97 : a.tmps.getD 97 undef = .agg (rowA 32 (bF ((fun _ => 0)))) := f97
                  refine rely_wp rfl ?_
                  obtain ⟨g, hg⟩ := f14
                  obtain ⟨hb, hr⟩ := hJ.1.2 (14, (fun _ => 0)) (by simp) g hg
                  refine opr_putm (F := bF (fun _ => 0)) rfl hg f97 hr (by decide) info31 (fun _ => rfl) (fun i hi => by rw [if_pos (by omega), Nat.sub_zero]) ?_
                  intro w' hR r'
                  exact hK undef w' (TB.of_rt hR hb hr r') (JApp.more (VarsAt.put hJ.1 rfl hg (by simp) hR r' (by simp)) (by decide)) trivial
                · intro w7 k7
                  intro u h; obtain rfl := Eq.symm (h (by simp)); clear h
                  intro u h; obtain rfl := Eq.symm (h (by simp)); clear h
                  intro u h; obtain rfl := Eq.symm (h (by simp)); clear h
                  intro u h; obtain rfl := Eq.symm (h (by simp)); clear h
                  intro _ _
                  intro u h; obtain rfl := Eq.symm (h (by simp)); clear h
                  intro u h; obtain rfl := Eq.symm (h (by simp)); clear h
                  intro u h; obtain rfl := Eq.symm (h (by simp)); clear h
                  intro u h; obtain rfl := Eq.symm (h (by simp)); clear h
                  intro u h; obtain rfl := Eq.symm (h (by simp)); clear h
                  intro u h; obtain rfl := Eq.symm (h (by simp)); clear h
                  intro _ _
                  intro u h; obtain rfl := Eq.symm (h (by simp)); clear h
                  intro _ _
                  intro u h; obtain rfl := Eq.symm (h (by simp)); clear h
                  intro _ _
                  intro _ _
                  intro u h; obtain rfl := Eq.symm (h (by simp)); clear h
                  intro u h; obtain rfl := Eq.symm (h (by simp)); clear h
                  intro u h; obtain rfl := Eq.symm (h (by simp)); clear h
                  intro u h; obtain rfl := Eq.symm (h (by simp)); clear h
                  intro u h; obtain rfl := Eq.symm (h (by simp)); clear h
                  intro u h; obtain ⟨p13, hv⟩ := (h (by simp)); clear h; subst hv
                  intro u h; obtain ⟨p14, hv⟩ := (h (by simp)); clear h; subst hv
                  intro _ _
                  intro _ _
                  refine relyEnd_nil rfl ?_
                  intro hJ
                  simp only [Act.put, List.setIfInBounds_toArray, List.set_cons_zero, List.set_cons_succ]
                  refine opr_move (.inr rfl) ?_
                  go_simp
                  have k9 : NewT w6 w7 := k7.out (Nat.le_refl _)
                  clear k7 hJ
                  replace HL := Lib.hid (k9.hs HL.out)
                  replace HU11 := Lib.hid (k9.hs HU11.out)
                  replace HT := Lib.hid (k9.tables HT.out)
                  replace HN := Lib.hid (NewT.trans _ _ _ HN.out k9)
                  clear k9
                  by_cases hs0 : (subM node z m l true).length = 0
                  · obtain ⟨A2, c2, hu2⟩ := rdH_form HU11.out
                    rw [hs0] at hu2
                    subst hu2
                    go_wp2
                    go_ret
                    exact ⟨rfl, HN.out.out⟩
                  · have HS1 : Hid (0 < (subM node z m l true).length) := Lib.hid (by omega)
                    have HB2 : Hid (∀ (u : Value) (w : World), Tables w → RdH w u (List.take ((subM node z m l true).length - 1) (subM node z m l true)) → Cv 18 #[.int .i64 (m : Int), .int .i64 (l.length : Int), .agg (rowA 32 (bF d0)), u] w (svHHq (fun _ => 0) (fun _ => 0) false)) := Lib.hid fun u w hT hu => HBX.out u _ w hT hu (by rw [List.length_take]; have := HSS.out; omega) (by rw [List.length_take]; omega)
                    obtain ⟨A2, c2, hu2⟩ := rdH_form HU11.out
                    have t20 : (((subM node z m l true).length : Int) == 0) = false := beq_eq_false_iff_ne.2 (by omega)
                    subst hu2
                    go_upto_region 22 with fail
                    obtain ⟨u11, eu⟩ : ∃ u, Value.slice A2 (subM node z m l true).length c2 = u := ⟨_, rfl⟩
                    rw [eu] at HU11 ⊢
                    clear eu
                    refine wp_region_rely (NewT) [SV.eq (.int .i64 ((m : Int))), SV.eq (v), SV.eq (.int .i64 ((List.length (l) : Int))), SV.eq (v), svP (d0), SV.eq (.agg (rowA 32 (bF (d0)))), SV.eq (u11), SV.eq (u11), SV.eq (.int .i64 ((List.length (subM node z m l true) : Int))), SV.eq (.int .i64 ((((subM node z m l true).length - 1 : Nat) : Int))), svH (List.take ((subM node z m l true).length - 1) (subM node z m l true)), SV.eq ((.tuple #[.agg (rowA 32 (bF (fun _ => 0))), .agg (rowA 32 (bF (fun _ => 0))), .bool false])), SV.eq ((.tuple #[.agg (rowA 32 (bF (fun _ => 0))), .agg (rowA 32 (bF (fun _ => 0))), .bool false])), SV.eq (.agg (rowA 32 (bF ((fun _ => 0))))), SV.eq (.agg (rowA 32 (bF ((fun _ => 0))))), SV.eq (.bool false)] [([(2, none)], none), ([(0, none)], none), ([(105, some 1)], none), ([(0, none)], none), ([(107, some 3)], none), ([(108, some 4)], none), ([(11, none)], none), ([(11, none)], none), ([(111, some 7)], none), ([(112, some 8)], none), ([(110, some 6), (113, some 9)], none), ([(104, some 0), (106, some 2), (109, some 5), (114, some 10)], none), ([(115, some 11)], none), ([(103, some 12)], none), ([(103, some 12)], none), ([(103, some 12)], none)] 121 rfl (by kernel_rfl) rfl (by kernel_rfl) (by kernel_rfl) rfl NewT.trans (NewT.drew _) (Nat.le_of_ble_eq_true rfl) ⟨?_, ?_, ?_, ?_, ?_, ?_, ?_, ?_, ?_, ?_, ?_, ?_, ?_, ?_, ?_, ?_, trivial⟩ ?_
                    · intro a wx hT hF K hK
                      obtain ⟨f2, _⟩ := hF
                      have f2 : a.tmps.getD 2 undef = .int .i64 ((m : Int)) := f2
                      refine rely_wp rfl ?_
                      exact opr_move (.inl rfl) (hK _ _ (NewT.refl _) f2)
                    · intro a wx hT hF K hK
                      obtain ⟨f0, _⟩ := hF
                      have f0 : a.tmps.getD 0 undef = v := f0
                      refine rely_wp rfl ?_
                      exact opr_move (.inl rfl) (hK _ _ (NewT.refl _) f0)
                    · intro a wx hT hF K hK
                      obtain ⟨f105, _⟩ := hF
                      have f105 : a.tmps.getD 105 undef = v := f105
                      refine rely_wp rfl ?_
                      exact opr_len_h rfl (by rw [eval_tmp, f105]; exact (hT.hs HL.out)) (hK _ _ (NewT.refl _) rfl)
                    · intro a wx hT hF K hK
                      obtain ⟨f0, _⟩ := hF
                      have f0 : a.tmps.getD 0 undef = v := f0
                      refine rely_wp rfl ?_
                      exact opr_move (.inl rfl) (hK _ _ (NewT.refl _) f0)
                    · intro a wx hT hF K hK
                      obtain ⟨f107, _⟩ := hF
                      have f107 : a.tmps.getD 107 undef = v := f107
                      refine rely_wp rfl ?_
                      exact opr_idxH (i := 0) (d := d0) (HD0.out) (rfl) rfl (by rw [eval_tmp, f107]; exact (hT.hs HL.out)) rfl (fun v hv => hK v _ (NewT.refl _) hv)
                    · intro a wx hT hF K hK
                      obtain ⟨f108, _⟩ := hF
                      replace f108 := show (svP (d0)).pred (a.tmps.getD 108 undef) wx from f108
                      refine rely_wp rfl ?_
                      exact opr_ldP rfl f108 (hK _ _ (NewT.refl _) rfl)
                    · intro a wx hT hF K hK
                      obtain ⟨f11, _⟩ := hF
                      have f11 : a.tmps.getD 11 undef = u11 := f11
                      refine rely_wp rfl ?_
                      exact opr_move (.inl rfl) (hK _ _ (NewT.refl _) f11)
                    · intro a wx hT hF K hK
                      obtain ⟨f11, _⟩ := hF
                      have f11 : a.tmps.getD 11 undef = u11 := f11
                      refine rely_wp rfl ?_
                      exact opr_move (.inl rfl) (hK _ _ (NewT.refl _) f11)
                    · intro a wx hT hF K hK
                      obtain ⟨f111, _⟩ := hF
                      have f111 : a.tmps.getD 111 undef = u11 := f111
                      refine rely_wp rfl ?_
                      exact opr_len_h rfl (by rw [eval_tmp, f111]; exact (hT.hs HU11.out)) (hK _ _ (NewT.refl _) rfl)
                    · intro a wx hT hF K hK
                      obtain ⟨f112, _⟩ := hF
                      have f112 : a.tmps.getD 112 undef = .int .i64 ((List.length (subM node z m l true) : Int)) := f112
                      refine rely_wp rfl ?_
                      exact opr_sub (r := (((subM node z m l true).length - 1 : Nat) : Int)) Tryd.underlying3 (by unfold wrap64; have := HS1.out; have := HSS.out; omega) rfl f112 rfl (hK _ _ (NewT.refl _) rfl)
                    · intro a wx hT hF K hK
                      obtain ⟨f110, f113, _⟩ := hF
                      have f110 : a.tmps.getD 110 undef = u11 := f110
                      have f113 : a.tmps.getD 113 undef = .int .i64 ((((subM node z m l true).length - 1 : Nat) : Int)) := f113
                      refine rely_wp rfl ?_
                      exact opr_toH (k := ((subM node z m l true).length - 1)) (by omega) (rfl) rfl (by rw [eval_tmp, f110]; exact (hT.hs HU11.out)) f113 (fun v hv => hK v _ (NewT.refl _) hv)
                    · intro a wx hT hF K hK
                      obtain ⟨f104, f106, f109, f114, _⟩ := hF
                      have f104 : a.tmps.getD 104 undef = .int .i64 ((m : Int)) := f104
                      have f106 : a.tmps.getD 106 undef = .int .i64 ((List.length (l) : Int)) := f106
                      have f109 : a.tmps.getD 109 undef = .agg (rowA 32 (bF (d0))) := f109
                      replace f114 := show (svH (List.take ((subM node z m l true).length - 1) (subM node z m l true))).pred (a.tmps.getD 114 undef) wx from f114
                      refine rely_wp rfl ?_
                      exact opr_cv (HB2.out _ wx (hT.tables HT.out) f114) rfl Tryd.func18 (by kernel_rfl) (by kernel_rfl) (by simp only [List.map_toArray, List.map_cons, List.map_nil, eval_tmp, f104, f106, f109]) hK
                    · intro a wx hT hF K hK
                      obtain ⟨f115, _⟩ := hF
                      have f115 : a.tmps.getD 115 undef = (.tuple #[.agg (rowA 32 (bF (fun _ => 0))), .agg (rowA 32 (bF (fun _ => 0))), .bool false]) := f115
                      refine rely_wp rfl ?_
                      exact opr_move (.inl rfl) (hK _ _ (NewT.refl _) f115)
                    · intro a wx hT hF K hK
                      obtain ⟨f103, _⟩ := hF
                      have f103 : a.tmps.getD 103 undef = (.tuple #[.agg (rowA 32 (bF (fun _ => 0))), .agg (rowA 32 (bF (fun _ => 0))), .bool false]) := f103
                      refine rely_wp rfl ?_
                      exact opr_ext rfl f103 rfl (hK _ _ (NewT.refl _) rfl)
                    · intro a wx hT hF K hK
                      obtain ⟨f103, _⟩ := hF
                      have f103 : a.tmps.getD 103 undef = (.tuple #[.agg (rowA 32 (bF (fun _ => 0))), .agg (rowA 32 (bF (fun _ => 0))), .bool false]) := f103
                      refine rely_wp rfl ?_
                      exact opr_ext rfl f103 rfl (hK _ _ (NewT.refl _) rfl)
                    · intro a wx hT hF K hK
                      obtain ⟨f103, _⟩ := hF
                      have f103 : a.tmps.getD 103 undef = (.tuple #[.agg (rowA 32 (bF (fun _ => 0))), .agg (rowA 32 (bF (fun _ => 0))), .bool false]) := f103
                      refine rely_wp rfl ?_
                      exact opr_ext rfl f103 rfl (hK _ _ (NewT.refl _) rfl)
                    · intro wa ka
                      intro u h; obtain rfl := Eq.symm (h (by simp)); clear h
                      intro u h; obtain rfl := Eq.symm (h (by simp)); clear h
                      intro u h; obtain rfl := Eq.symm (h (by simp)); clear h
                      intro u h; obtain rfl := Eq.symm (h (by simp)); clear h
                      intro _ _
                      intro u h; obtain rfl := Eq.symm (h (by simp)); clear h
                      intro u h; obtain rfl := Eq.symm (h (by simp)); clear h
                      intro u h; obtain rfl := Eq.symm (h (by simp)); clear h
                      intro u h; obtain rfl := Eq.symm (h (by simp)); clear h
                      intro u h; obtain rfl := Eq.symm (h (by simp)); clear h
                      intro _ _
                      intro u h; obtain rfl := Eq.symm (h (by simp)); clear h
                      intro u h; obtain rfl := Eq.symm (h (by simp)); clear h
                      intro u h; obtain rfl := Eq.symm (h (by simp)); clear h
                      intro u h; obtain rfl := Eq.symm (h (by simp)); clear h
                      intro u h; obtain rfl := Eq.symm (h (by simp)); clear h
                      refine relyEnd_nil rfl ?_
                      simp only [Act.put, List.setIfInBounds_toArray, List.set_cons_zero, List.set_cons_succ]
                      refine opr_move (.inr rfl) ?_
                      go_simp
                      go_wp2
                      go_ret
                      exact ⟨rfl, (NewT.trans _ _ _ HN.out ka).out⟩
            · skip
              have HM : Hid (m0 < 1 ∨ (l.length : Int) < m0) := Lib.hid (by omega)
              go_upto_region 14 with fail
              refine wp_region_steps0 NewT [SV.eq (v), SV.eq (.int .i64 (m0)), svPq (([] : List Hs)) false, svPq (([] : List Hs)) false, svH (([] : List Hs)), SV.eq (.bool false), svH (([] : List Hs)), SV.eq (.bool false)] [([(0, none)], none), ([(2, none)], none), ([(70, some 0), (71, some 1)], none), ([(72, some 2)], none), ([(69, some 3)], none), ([(69, some 3)], none), ([(73, some 4)], none), ([(74, some 5)], none)] 121 8 rfl rfl (by kernel_rfl) NewT.trans (NewT.refl _) (Nat.le_of_ble_eq_true rfl) ⟨?_, ?_, ?_, ?_, ?_, ?_, ?_, ?_, trivial⟩ ?_
              · intro a wx hT hF K hK
                obtain ⟨f0, _⟩ := hF
                have f0 : a.tmps.getD 0 undef = v := f0
                refine rely_wp rfl ?_
                exact opr_move (.inl rfl) (hK _ _ (NewT.refl _) f0)
              · intro a wx hT hF K hK
                obtain ⟨f2, _⟩ := hF
                have f2 : a.tmps.getD 2 undef = .int .i64 (m0) := f2
                refine rely_wp rfl ?_
                exact opr_move (.inl rfl) (hK _ _ (NewT.refl _) f2)
              · intro a wx hT hF K hK
                obtain ⟨f70, f71, _⟩ := hF
                have f70 : a.tmps.getD 70 undef = v := f70
                have f71 : a.tmps.getD 71 undef = .int .i64 (m0) := f71
                refine rely_wp rfl ?_
                exact opr_cv (Prove_bad _ l m0 wx (hT.hs HL.out) HM.out) rfl Tryd.func13 (by kernel_rfl) (by kernel_rfl) (by simp only [List.map_toArray, List.map_cons, List.map_nil, eval_tmp, f70, f71]) hK
              · intro a wx hT hF K hK
                obtain ⟨f72, _⟩ := hF
                replace f72 := show (svPq (([] : List Hs)) false).pred (a.tmps.getD 72 undef) wx from f72
                refine rely_wp rfl ?_
                exact opr_move (.inl rfl) (hK _ _ (NewT.refl _) f72)
              · intro a wx hT hF K hK
                obtain ⟨f69, _⟩ := hF
                replace f69 := show (svPq (([] : List Hs)) false).pred (a.tmps.getD 69 undef) wx from f69
                refine rely_wp rfl ?_
                exact opr_extP0 rfl f69 (fun u hu => hK u _ (NewT.refl _) hu)
              · intro a wx hT hF K hK
                obtain ⟨f69, _⟩ := hF
                replace f69 := show (svPq (([] : List Hs)) false).pred (a.tmps.getD 69 undef) wx from f69
                refine rely_wp rfl ?_
                exact opr_extP1 rfl f69 (hK _ _ (NewT.refl _) rfl)
              · intro a wx hT hF K hK
                obtain ⟨f73, _⟩ := hF
                replace f73 := show (svH (([] : List Hs))).pred (a.tmps.getD 73 undef) wx from f73
                refine rely_wp rfl ?_
                exact opr_move (.inr rfl) (hK _ _ (NewT.refl _) f73)
              · intro a wx hT hF K hK
                obtain ⟨f74, _⟩ := hF
                have f74 : a.tmps.getD 74 undef = .bool false := f74
                refine rely_wp rfl ?_
                exact opr_move (.inr rfl) (hK _ _ (NewT.refl _) f74)
              · intro w6 k6
                intro u h; obtain rfl := Eq.symm (h (by simp)); clear h
                intro u h; obtain rfl := Eq.symm (h (by simp)); clear h
                intro _ _
                intro _ _
                intro _ _
                intro u h; obtain rfl := Eq.symm (h (by simp)); clear h
                intro u11 h; have g11 := h (by simp); clear h; replace g11 := show (svH (([] : List Hs))).pred u11 w6 from g11
                intro u h; obtain rfl := Eq.symm (h (by simp)); clear h
                refine relyEnd_nil rfl ?_
                refine wpList_end rfl ?_
                simp only [Act.put, List.setIfInBounds_toArray, List.set_cons_zero, List.set_cons_succ]
                go_simp
                go_wp2
                go_ret
                exact ⟨rfl, (NewT.trans _ _ _ HN.out k6).out⟩
  · have HI : Hid (i0 < 0 ∨ (l.length : Int) ≤ i0) := Lib.hid (by omega)
    refine wp_region_steps0 NewT [SV.eq (v), SV.eq (.int .i64 (i0)), svPq (([] : List Hs)) false, svPq (([] : List Hs)) false, svH (([] : List Hs)), SV.eq (.bool false), svH (([] : List Hs)), SV.eq (.bool false)] [([(0, none)], none), ([(1, none)], none), ([(22, some 0), (23, some 1)], none), ([(24, some 2)], none), ([(21, some 3)], none), ([(21, some 3)], none), ([(25, some 4)], none), ([(26, some 5)], none)] 121 8 rfl rfl (by kernel_rfl) NewT.trans (NewT.refl _) (Nat.le_of_ble_eq_true rfl) ⟨?_, ?_, ?_, ?_, ?_, ?_, ?_, ?_, trivial⟩ ?_
    · intro a wx hT hF K hK
      obtain ⟨f0, _⟩ := hF
      have f0 : a.tmps.getD 0 undef = v := f0
      refine rely_wp rfl ?_
      exact opr_move (.inl rfl) (hK _ _ (NewT.refl _) f0)
    · intro a wx hT hF K hK
      obtain ⟨f1, _⟩ := hF
      have f1 : a.tmps.getD 1 undef = .int .i64 (i0) := f1
      refine rely_wp rfl ?_
      exact opr_move (.inl rfl) (hK _ _ (NewT.refl _) f1)
    · intro a wx hT hF K hK
      obtain ⟨f22, f23, _⟩ := hF
      have f22 : a.tmps.getD 22 undef = v := f22
      have f23 : a.tmps.getD 23 undef = .int .i64 (i0) := f23
      refine rely_wp rfl ?_
      exact opr_cv (Path_bad _ l i0 wx (hT.hs HL.out) HI.out) rfl Tryd.func11 (by kernel_rfl) (by kernel_rfl) (by simp only [List.map_toArray, List.map_cons, List.map_nil, eval_tmp, f22, f23]) hK
    · intro a wx hT hF K hK
      obtain ⟨f24, _⟩ := hF
      replace f24 := show (svPq (([] : List Hs)) false).pred (a.tmps.getD 24 undef) wx from f24
      refine rely_wp rfl ?_
      exact opr_move (.inl rfl) (hK _ _ (NewT.refl _) f24)
    · intro a wx hT hF K hK
      obtain ⟨f21, _⟩ := hF
      replace f21 := show (svPq (([] : List Hs)) false).pred (a.tmps.getD 21 undef) wx from f21
      refine rely_wp rfl ?_
      exact opr_extP0 rfl f21 (fun u hu => hK u _ (NewT.refl _) hu)
    · intro a wx hT hF K hK
      obtain ⟨f21, _⟩ := hF
      replace f21 := show (svPq (([] : List Hs)) false).pred (a.tmps.getD 21 undef) wx from f21
      refine rely_wp rfl ?_
      exact opr_extP1 rfl f21 (hK _ _ (NewT.refl _) rfl)
    · intro a wx hT hF K hK
      obtain ⟨f25, _⟩ := hF
      replace f25 := show (svH (([] : List Hs))).pred (a.tmps.getD 25 undef) wx from f25
      refine rely_wp rfl ?_
      exact opr_move (.inr rfl) (hK _ _ (NewT.refl _) f25)
    · intro a wx hT hF K hK
      obtain ⟨f26, _⟩ := hF
      have f26 : a.tmps.getD 26 undef = .bool false := f26
      refine rely_wp rfl ?_
      exact opr_move (.inr rfl) (hK _ _ (NewT.refl _) f26)
    · intro w2 k2
      intro u h; obtain rfl := Eq.symm (h (by simp)); clear h
      intro u h; obtain rfl := Eq.symm (h (by simp)); clear h
      intro _ _
      intro _ _
      intro _ _
      intro u h; obtain rfl := Eq.symm (h (by simp)); clear h
      intro u7 h; have g7 := h (by simp); clear h; replace g7 := show (svH (([] : List Hs))).pred u7 w2 from g7
      intro u h; obtain rfl := Eq.symm (h (by simp)); clear h
      refine relyEnd_nil rfl ?_
      refine wpList_end rfl ?_
      simp only [Act.put, List.setIfInBounds_toArray, List.set_cons_zero, List.set_cons_succ]
      go_simp
      replace HL := Lib.hid (k2.hs HL.out)
      replace HT := Lib.hid (k2.tables HT.out)
      replace HN := Lib.hid (NewT.trans _ _ _ HN.out k2)
      clear k2
      by_cases hm : 1 ≤ m0 ∧ m0 ≤ (l.length : Int)
      · skip
        obtain ⟨m, rfl⟩ : ∃ k : Nat, m0 = (k : Int) := ⟨m0.toNat, by omega⟩
        have HM1 : Hid (1 ≤ m) := Lib.hid (by omega)
        have HML : Hid (m ≤ l.length) := Lib.hid (by omega)
        obtain ⟨d0, hd0⟩ : ∃ e, l[0]? = some e := ⟨_, List.getElem?_eq_getElem (by omega)⟩
        have HD0 := Lib.hid hd0
        have HSS : Hid ((subM node z m l true).length ≤ 21) := Lib.hid (subM_short _ _ _ (by have := HLEN.out; omega))
        have HBX : Hid (∀ (u : Value) (q : List Hs) (w : World), Tables w → RdH w u q → q.length ≤ 1000 → q.length ≠ (subM node z m l true).length → Cv 18 #[.int .i64 (m : Int), .int .i64 (l.length : Int), .agg (rowA 32 (bF d0)), u] w (svHHq (fun _ => 0) (fun _ => 0) false)) := Lib.hid fun u q w hT hu hq hne => by
          have h := Both_cv hX d0 (m : Int) (l.length : Int) u q w hT hu (by omega)
          have e : okB (m : Int) (l.length : Int) q.length = false := by
            have h1 := (both_root (node := node) (z := z) (fun _ => 0) l m HM1.out HML.out (by have := HLEN.out; omega)).1
            exact okB_other h1 hne
          unfold bothM at h
          rw [e, if_neg (by decide)] at h
          exact h
        have HB1 : Hid (∀ (u : Value) (w : World), Tables w → RdH w u (subM node z m l true ++ [d0]) → Cv 18 #[.int .i64 (m : Int), .int .i64 (l.length : Int), .agg (rowA 32 (bF d0)), u] w (svHHq (fun _ => 0) (fun _ => 0) false)) := Lib.hid fun u w hT hu => HBX.out u _ w hT hu (by have := HSS.out; simp; omega) (by simp)
        clear hd0
        go_upto_region 14 with fail
        refine wp_region_steps0 NewT [SV.eq (v), SV.eq (.int .i64 ((m : Int))), svPq (subM node z m l true) true, svPq (subM node z m l true) true, svH (subM node z m l true), SV.eq (.bool true), svH (subM node z m l true), SV.eq (.bool true)] [([(0, none)], none), ([(2, none)], none), ([(70, some 0), (71, some 1)], none), ([(72, some 2)], none), ([(69, some 3)], none), ([(69, some 3)], none), ([(73, some 4)], none), ([(74, some 5)], none)] 121 8 rfl rfl (by kernel_rfl) NewT.trans (NewT.refl _) (Nat.le_of_ble_eq_true rfl) ⟨?_, ?_, ?_, ?_, ?_, ?_, ?_, ?_, trivial⟩ ?_
        · intro a wx hT hF K hK
          obtain ⟨f0, _⟩ := hF
          have f0 : a.tmps.getD 0 undef = v := f0
          refine rely_wp rfl ?_
          exact opr_move (.inl rfl) (hK _ _ (NewT.refl _) f0)
        · intro a wx hT hF K hK
          obtain ⟨f2, _⟩ := hF
          have f2 : a.tmps.getD 2 undef = .int .i64 ((m : Int)) := f2
          refine rely_wp rfl ?_
          exact opr_move (.inl rfl) (hK _ _ (NewT.refl _) f2)
        · intro a wx hT hF K hK
          obtain ⟨f70, f71, _⟩ := hF
          have f70 : a.tmps.getD 70 undef = v := f70
          have f71 : a.tmps.getD 71 undef = .int .i64 ((m : Int)) := f71
          refine rely_wp rfl ?_
          exact opr_cv (Prove_good hX _ l m wx (hT.tables HT.out) (hT.hs HL.out) HM1.out HML.out (by have := HLEN.out; omega)) rfl Tryd.func13 (by kernel_rfl) (by kernel_rfl) (by simp only [List.map_toArray, List.map_cons, List.map_nil, eval_tmp, f70, f71]) hK
        · intro a wx hT hF K hK
          obtain ⟨f72, _⟩ := hF
          replace f72 := show (svPq (subM node z m l true) true).pred (a.tmps.getD 72 undef) wx from f72
          refine rely_wp rfl ?_
          exact opr_move (.inl rfl) (hK _ _ (NewT.refl _) f72)
        · intro a wx hT hF K hK
          obtain ⟨f69, _⟩ := hF
          replace f69 := show (svPq (subM node z m l true) true).pred (a.tmps.getD 69 undef) wx from f69
          refine rely_wp rfl ?_
          exact opr_extP0 rfl f69 (fun u hu => hK u _ (NewT.refl _) hu)
        · intro a wx hT hF K hK
          obtain ⟨f69, _⟩ := hF
          replace f69 := show (svPq (subM node z m l true) true).pred (a.tmps.getD 69 undef) wx from f69
          refine rely_wp rfl ?_
          exact opr_extP1 rfl f69 (hK _ _ (NewT.refl _) rfl)
        · intro a wx hT hF K hK
          obtain ⟨f73, _⟩ := hF
          replace f73 := show (svH (subM node z m l true)).pred (a.tmps.getD 73 undef) wx from f73
          refine rely_wp rfl ?_
          exact opr_move (.inr rfl) (hK _ _ (NewT.refl _) f73)
        · intro a wx hT hF K hK
          obtain ⟨f74, _⟩ := hF
          have f74 : a.tmps.getD 74 undef = .bool true := f74
          refine rely_wp rfl ?_
          exact opr_move (.inr rfl) (hK _ _ (NewT.refl _) f74)
        · intro w6 k6
          intro u h; obtain rfl := Eq.symm (h (by simp)); clear h
          intro u h; obtain rfl := Eq.symm (h (by simp)); clear h
          intro _ _
          intro _ _
          intro _ _
          intro u h; obtain rfl := Eq.symm (h (by simp)); clear h
          intro u11 h; have g11 := h (by simp); clear h; replace g11 := show (svH (subM node z m l true)).pred u11 w6 from g11
          intro u h; obtain rfl := Eq.symm (h (by simp)); clear h
          refine relyEnd_nil rfl ?_
          refine wpList_end rfl ?_
          simp only [Act.put, List.setIfInBounds_toArray, List.set_cons_zero, List.set_cons_succ]
          go_simp
          have HU11 := Lib.hid (show RdH w6 u11 (subM node z m l true) from g11)
          clear g11
          replace HL := Lib.hid (k6.hs HL.out)
          replace HT := Lib.hid (k6.tables HT.out)
          replace HN := Lib.hid (NewT.trans _ _ _ HN.out k6)
          clear k6
          go_upto_region 17 with fail
          refine wp_region_relyA0 (TB w6.heap.size) (JApp w6.heap.size [(13, (fun _ => 0)), (14, (fun _ => 0))] 93 [d0] 94 (subM node z m l true ++ [d0])) [SV.eq (.int .i64 ((m : Int))), SV.eq (v), SV.eq (.int .i64 ((List.length (l) : Int))), SV.eq (v), svPB w6.heap.size d0, SV.eq (.agg (rowA 32 (bF (d0)))), SV.eq (u11), SV.eq (u11), SV.eq (.int .i64 ((List.length (subM node z m l true) : Int))), SV.eq (u11), SV.eq (.int .i64 ((List.length (subM node z m l true) : Int))), svFW w6 (subM node z m l true), SV.eq (v), svPB w6.heap.size d0, SV.eq (.agg (rowA 32 (bF (d0)))), svNz, svNz, SV.eq ((.tuple #[.agg (rowA 32 (bF (fun _ => 0))), .agg (rowA 32 (bF (fun _ => 0))), .bool false])), SV.eq ((.tuple #[.agg (rowA 32 (bF (fun _ => 0))), .agg (rowA 32 (bF (fun _ => 0))), .bool false])), SV.eq (.agg (rowA 32 (bF ((fun _ => 0))))), SV.eq (.agg (rowA 32 (bF ((fun _ => 0))))), SV.eq (.bool false), svPt, svPt, SV.any, SV.any] [([(2, none)], none), ([(0, none)], none), ([(79, some 1)], none), ([(0, none)], none), ([(81, some 3)], none), ([(82, some 4)], none), ([(11, none)], none), ([(11, none)], none), ([(85, some 7)], none), ([(11, none)], none), ([(87, some 9)], none), ([(84, some 6), (86, some 8), (88, some 10)], none), ([(0, none)], none), ([(90, some 12)], none), ([(91, some 13)], none), ([(92, some 14)], none), ([(89, some 11), (93, some 15)], none), ([(78, some 0), (80, some 2), (83, some 5), (94, some 16)], none), ([(95, some 17)], none), ([(77, some 18)], none), ([(77, some 18)], none), ([(77, some 18)], none), ([], none), ([], none), ([(13, some 22), (96, some 19)], none), ([(14, some 23), (97, some 20)], none)] [none, none, none, none, none, none, none, none, none, none, none, none, none, none, none, some 0, some 1, some 2, none, none, none, none, none, none, some 3, some 4] [15, 16, 17, 24, 25] 121 rfl (by kernel_rfl) rfl (by kernel_rfl) (by kernel_rfl) rfl (by kernel_rfl) TB.trans (TB.drew _ _) ⟨⟨⟨fun p hp g h => (by simp at hp; rcases hp with rfl | rfl <;> cases h), fun p hp q hq hpq g g2 h => (by simp at hp; rcases hp with rfl | rfl <;> cases h)⟩, fun p hp g h => (by simp at hp; rcases hp with rfl | rfl <;> cases h)⟩, fun e => (by cases e), fun e => (by cases e)⟩ (Nat.le_of_ble_eq_true rfl) ⟨?_, ?_, ?_, ?_, ?_, ?_, ?_, ?_, ?_, ?_, ?_, ?_, ?_, ?_, ?_, ?_, ?_, ?_, ?_, ?_, ?_, ?_, ?_, ?_, ?_, ?_, trivial⟩ ?_
          · intro a wx hT hF K hK
            replace hK := fun v w' (hN : NewT wx w') hv => hK v w' (TB.of_new (Nat.le_trans (Nat.le_refl _) hT.size) hN) (fun k h => JApp.keep h (by simp) (by simp) (by simp) hN) hv
            obtain ⟨f2, _⟩ := hF
            have f2 : a.tmps.getD 2 undef = .int .i64 ((m : Int)) := f2
            refine rely_wp rfl ?_
            exact opr_move (.inl rfl) (hK _ _ (NewT.refl _) f2)
          · intro a wx hT hF K hK
            replace hK := fun v w' (hN : NewT wx w') hv => hK v w' (TB.of_new (Nat.le_trans (Nat.le_refl _) hT.size) hN) (fun k h => JApp.keep h (by simp) (by simp) (by simp) hN) hv
            obtain ⟨f0, _⟩ := hF
            have f0 : a.tmps.getD 0 undef = v := f0
            refine rely_wp rfl ?_
            exact opr_move (.inl rfl) (hK _ _ (NewT.refl _) f0)
          · intro a wx hT hF K hK
            replace hK := fun v w' (hN : NewT wx w') hv => hK v w' (TB.of_new (Nat.le_trans (Nat.le_refl _) hT.size) hN) (fun k h => JApp.keep h (by simp) (by simp) (by simp) hN) hv
            obtain ⟨f79, _⟩ := hF
            have f79 : a.tmps.getD 79 undef = v := f79
            refine rely_wp rfl ?_
            exact opr_len_h rfl (by rw [eval_tmp, f79]; exact ((hT.out (Nat.le_refl _)).hs HL.out)) (hK _ _ (NewT.refl _) rfl)
          · intro a wx hT hF K hK
            replace hK := fun v w' (hN : NewT wx w') hv => hK v w' (TB.of_new (Nat.le_trans (Nat.le_refl _) hT.size) hN) (fun k h => JApp.keep h (by simp) (by simp) (by simp) hN) hv
            obtain ⟨f0, _⟩ := hF
            have f0 : a.tmps.getD 0 undef = v := f0
            refine rely_wp rfl ?_
            exact opr_move (.inl rfl) (hK _ _ (NewT.refl _) f0)
          · intro a wx hT hF K hK
            replace hK := fun v w' (hN : NewT wx w') hv => hK v w' (TB.of_new (Nat.le_trans (Nat.le_refl _) hT.size) hN) (fun k h => JApp.keep h (by simp) (by simp) (by simp) hN) hv
            obtain ⟨f81, _⟩ := hF
            have f81 : a.tmps.getD 81 undef = v := f81
            refine rely_wp rfl ?_
            exact opr_idxHB (W := w6) (i := 0) (d := d0) HD0.out rfl rfl (by rw [eval_tmp, f81]; exact HL.out) hT rfl (fun v hv => hK v _ (NewT.refl _) hv)
          · intro a wx hT hF K hK
            replace hK := fun v w' (hN : NewT wx w') hv => hK v w' (TB.of_new (Nat.le_trans (Nat.le_refl _) hT.size) hN) (fun k h => JApp.keep h (by simp) (by simp) (by simp) hN) hv
            obtain ⟨f82, _⟩ := hF
            replace f82 := show (svPB w6.heap.size d0).pred (a.tmps.getD 82 undef) wx from f82
            refine rely_wp rfl ?_
            exact opr_ldP rfl (svPB_out f82) (hK _ _ (NewT.refl _) rfl)
          · intro a wx hT hF K hK
            replace hK := fun v w' (hN : NewT wx w') hv => hK v w' (TB.of_new (Nat.le_trans (Nat.le_refl _) hT.size) hN) (fun k h => JApp.keep h (by simp) (by simp) (by simp) hN) hv
            obtain ⟨f11, _⟩ := hF
            have f11 : a.tmps.getD 11 undef = u11 := f11
            refine rely_wp rfl ?_
            exact opr_move (.inl rfl) (hK _ _ (NewT.refl _) f11)
          · intro a wx hT hF K hK
            replace hK := fun v w' (hN : NewT wx w') hv => hK v w' (TB.of_new (Nat.le_trans (Nat.le_refl _) hT.size) hN) (fun k h => JApp.keep h (by simp) (by simp) (by simp) hN) hv
            obtain ⟨f11, _⟩ := hF
            have f11 : a.tmps.getD 11 undef = u11 := f11
            refine rely_wp rfl ?_
            exact opr_move (.inl rfl) (hK _ _ (NewT.refl _) f11)
          · intro a wx hT hF K hK
            replace hK := fun v w' (hN : NewT wx w') hv => hK v w' (TB.of_new (Nat.le_trans (Nat.le_refl _) hT.size) hN) (fun k h => JApp.keep h (by simp) (by simp) (by simp) hN) hv
            obtain ⟨f85, _⟩ := hF
            have f85 : a.tmps.getD 85 undef = u11 := f85
            refine rely_wp rfl ?_
            exact opr_len_h rfl (by rw [eval_tmp, f85]; exact ((hT.out (Nat.le_refl _)).hs HU11.out)) (hK _ _ (NewT.refl _) rfl)
          · intro a wx hT hF K hK
            replace hK := fun v w' (hN : NewT wx w') hv => hK v w' (TB.of_new (Nat.le_trans (Nat.le_refl _) hT.size) hN) (fun k h => JApp.keep h (by simp) (by simp) (by simp) hN) hv
            obtain ⟨f11, _⟩ := hF
            have f11 : a.tmps.getD 11 undef = u11 := f11
            refine rely_wp rfl ?_
            exact opr_move (.inl rfl) (hK _ _ (NewT.refl _) f11)
          · intro a wx hT hF K hK
            replace hK := fun v w' (hN : NewT wx w') hv => hK v w' (TB.of_new (Nat.le_trans (Nat.le_refl _) hT.size) hN) (fun k h => JApp.keep h (by simp) (by simp) (by simp) hN) hv
            obtain ⟨f87, _⟩ := hF
            have f87 : a.tmps.getD 87 undef = u11 := f87
            refine rely_wp rfl ?_
            exact opr_len_h rfl (by rw [eval_tmp, f87]; exact ((hT.out (Nat.le_refl _)).hs HU11.out)) (hK _ _ (NewT.refl _) rfl)
          · intro a wx hT hF K hK
            replace hK := fun v w' (hN : NewT wx w') hv => hK v w' (TB.of_new (Nat.le_trans (Nat.le_refl _) hT.size) hN) (fun k h => JApp.keep h (by simp) (by simp) (by simp) hN) hv
            obtain ⟨f84, f86, f88, _⟩ := hF
            have f84 : a.tmps.getD 84 undef = u11 := f84
            have f86 : a.tmps.getD 86 undef = .int .i64 ((List.length (subM node z m l true) : Int)) := f86
            have f88 : a.tmps.getD 88 undef = .int .i64 ((List.length (subM node z m l true) : Int)) := f88
            refine rely_wp rfl ?_
            exact opr_to3HW (W := w6) (l := subM node z m l true) rfl (by rw [eval_tmp, f84]; exact HU11.out) f86 f88 (fun v hv => hK v _ (NewT.refl _) hv)
          · intro a wx hT hF K hK
            replace hK := fun v w' (hN : NewT wx w') hv => hK v w' (TB.of_new (Nat.le_trans (Nat.le_refl _) hT.size) hN) (fun k h => JApp.keep h (by simp) (by simp) (by simp) hN) hv
            obtain ⟨f0, _⟩ := hF
            have f0 : a.tmps.getD 0 undef = v := f0
            refine rely_wp rfl ?_
            exact opr_move (.inl rfl) (hK _ _ (NewT.refl _) f0)
          · intro a wx hT hF K hK
            replace hK := fun v w' (hN : NewT wx w') hv => hK v w' (TB.of_new (Nat.le_trans (Nat.le_refl _) hT.size) hN) (fun k h => JApp.keep h (by simp) (by simp) (by simp) hN) hv
            obtain ⟨f90, _⟩ := hF
            have f90 : a.tmps.getD 90 undef = v := f90
            refine rely_wp rfl ?_
            exact opr_idxHB (W := w6) (i := 0) (d := d0) HD0.out rfl rfl (by rw [eval_tmp, f90]; exact HL.out) hT rfl (fun v hv => hK v _ (NewT.refl _) hv)
          · intro a wx hT hF K hK
            replace hK := fun v w' (hN : NewT wx w') hv => hK v w' (TB.of_new (Nat.le_trans (Nat.le_refl _) hT.size) hN) (fun k h => JApp.keep h (by simp) (by simp) (by simp) hN) hv
            obtain ⟨f91, _⟩ := hF
            replace f91 := show (svPB w6.heap.size d0).pred (a.tmps.getD 91 undef) wx from f91
            refine rely_wp rfl ?_
            exact opr_ldP rfl (svPB_out f91) (hK _ _ (NewT.refl _) rfl)
          · intro a wx hT hF hJ K hK
            obtain ⟨f92, _⟩ := hF
            have f92 : a.tmps.getD 92 undef = .agg (rowA 32 (bF (d0))) := f92
            refine rely_wp rfl ?_
            exact opr_bsH1 rfl f92 (fun v w' hN hr => hK v w' (TB.of_new (Nat.le_trans (Nat.le_refl _) hT.size) hN) (JApp.one hJ.1 (by simp) hN hr) (rdH_some hr))
          · intro a wx hT hF hJ K hK
            obtain ⟨f89, f93, _⟩ := hF
            replace f89 := show (svFW w6 (subM node z m l true)).pred (a.tmps.getD 89 undef) wx from f89
            replace f93 := show (svNz).pred (a.tmps.getD 93 undef) wx from f93
            refine rely_wp rfl ?_
            obtain ⟨v', w', hrun, hN', hR'⟩ := run_appF ((svF (subM node z m l true)).stable _ _ _ f89 (hT.out (Nat.le_refl _))) (hJ.2.1 rfl f93) (by simp) (by have := HSS.out; simp; omega) 22
            exact opr_append rfl rfl rfl hrun (hK v' w' (TB.of_new (Nat.le_trans (Nat.le_refl _) hT.size) hN') (JApp.two hJ.1 (by simp) hN' hR') (rdH_some hR'))
          · intro a wx hT hF hJ K hK
            obtain ⟨f78, f80, f83, f94, _⟩ := hF
            have f78 : a.tmps.getD 78 undef = .int .i64 ((m : Int)) := f78
            have f80 : a.tmps.getD 80 undef = .int .i64 ((List.length (l) : Int)) := f80
            have f83 : a.tmps.getD 83 undef = .agg (rowA 32 (bF (d0))) := f83
            replace f94 := show (svNz).pred (a.tmps.getD 94 undef) wx from f94
            refine rely_wp rfl ?_
            exact opr_cv (HB1.out _ wx ((hT.out (Nat.le_refl _)).tables HT.out) (hJ.2.2 rfl f94)) rfl Tryd.func18 (by kernel_rfl) (by kernel_rfl) (by simp only [List.map_toArray, List.map_cons, List.map_nil, eval_tmp, f78, f80, f83]) (fun v w' hN hv => hK v w' (TB.of_new (Nat.le_trans (Nat.le_refl _) hT.size) hN) (JApp.more (VarsAt.keep hJ.1 (by simp) hN) (by decide)) hv)
          · intro a wx hT hF K hK
            replace hK := fun v w' (hN : NewT wx w') hv => hK v w' (TB.of_new (Nat.le_trans (Nat.le_refl _) hT.size) hN) (fun k h => JApp.keep h (by simp) (by simp) (by simp) hN) hv
            obtain ⟨f95, _⟩ := hF
            have f95 : a.tmps.getD 95 undef = (.tuple #[.agg (rowA 32 (bF (fun _ => 0))), .agg (rowA 32 (bF (fun _ => 0))), .bool false]) := f95
            refine rely_wp rfl ?_
            exact opr_move (.inl rfl) (hK _ _ (NewT.refl _) f95)
          · intro a wx hT hF K hK
            replace hK := fun v w' (hN : NewT wx w') hv => hK v w' (TB.of_new (Nat.le_trans (Nat.le_refl _) hT.size) hN) (fun k h => JApp.keep h (by simp) (by simp) (by simp) hN) hv
            obtain ⟨f77, _⟩ := hF
            have f77 : a.tmps.getD 77 undef = (.tuple #[.agg (rowA 32 (bF (fun _ => 0))), .agg (rowA 32 (bF (fun _ => 0))), .bool false]) := f77
            refine rely_wp rfl ?_
            exact opr_ext rfl f77 rfl (hK _ _ (NewT.refl _) rfl)
          · intro a wx hT hF K hK
            replace hK := fun v w' (hN : NewT wx w') hv => hK v w' (TB.of_new (Nat.le_trans (Nat.le_refl _) hT.size) hN) (fun k h => JApp.keep h (by simp) (by simp) (by simp) hN) hv
            obtain ⟨f77, _⟩ := hF
            have f77 : a.tmps.getD 77 undef = (.tuple #[.agg (rowA 32 (bF (fun _ => 0))), .agg (rowA 32 (bF (fun _ => 0))), .bool false]) := f77
            refine rely_wp rfl ?_
            exact opr_ext rfl f77 rfl (hK _ _ (NewT.refl _) rfl)
          · intro a wx hT hF K hK
            replace hK := fun v w' (hN : NewT wx w') hv => hK v w' (TB.of_new (Nat.le_trans (Nat.le_refl _) hT.size) hN) (fun k h => JApp.keep h (by simp) (by simp) (by simp) hN) hv
            obtain ⟨f77, _⟩ := hF
            have f77 : a.tmps.getD 77 undef = (.tuple #[.agg (rowA 32 (bF (fun _ => 0))), .agg (rowA 32 (bF (fun _ => 0))), .bool false]) := f77
            refine rely_wp rfl ?_
            exact opr_ext rfl f77 rfl (hK _ _ (NewT.refl _) rfl)
          · intro a wx hT hF K hK
            refine rely_wp rfl ?_
            refine opr_alloc_at rfl ?_
            exact hK _ _ (TB.of_new (Nat.le_trans (Nat.le_refl _) hT.size) (NewT.alloc _ _)) (fun k hJ => JApp.make hJ (Nat.le_trans (Nat.le_refl _) hT.size) (by simp) (by decide) (by decide)) ⟨_, rfl⟩
          · intro a wx hT hF K hK
            refine rely_wp rfl ?_
            refine opr_alloc_at rfl ?_
            exact hK _ _ (TB.of_new (Nat.le_trans (Nat.le_refl _) hT.size) (NewT.alloc _ _)) (fun k hJ => JApp.make hJ (Nat.le_trans (Nat.le_refl _) hT.size) (by simp) (by decide) (by decide)) ⟨_, rfl⟩
          · intro a wx hT hF hJ K hK
            obtain ⟨f13, f96, _⟩ := hF
            replace f13 := show (svPt).pred (a.tmps.getD 13 undef) wx from f13
            have f96 : a.tmps.getD 96 undef = .agg (rowA 32 (bF ((fun _ => 0)))) := f96
            refine rely_wp rfl ?_
            obtain ⟨g, hg⟩ := f13
            obtain ⟨hb, hr⟩ := hJ.1.2 (13, (fun _ => 0)) (by simp) g hg
            refine opr_putm (F := bF (fun _ => 0)) rfl hg f96 hr (by decide) info31 (fun _ => rfl) (fun i hi => by rw [if_pos (by omega), Nat.sub_zero]) ?_
            intro w' hR r'
            exact hK undef w' (TB.of_rt hR hb hr r') (JApp.more (VarsAt.put hJ.1 rfl hg (by simp) hR r' (by simp)) (by decide)) trivial
          · intro a wx hT hF hJ K hK
            obtain ⟨f14, f97, _⟩ := hF
            replace f14 := show (svPt).pred (a.tmps.getD 14 undef) wx from f14
            have f97 : a.tmps.getD 97 undef = .agg (rowA 32 (bF ((fun _ => 0)))) := f97
            refine rely_wp rfl ?_
            obtain ⟨g, hg⟩ := f14
            obtain ⟨hb, hr⟩ := hJ.1.2 (14, (fun _ => 0)) (by simp) g hg
            refine opr_putm (F := bF (fun _ => 0)) rfl hg f97 hr (by decide) info31 (fun _ => rfl) (fun i hi => by rw [if_pos (by omega), Nat.sub_zero]) ?_
            intro w' hR r'
            exact hK undef w' (TB.of_rt hR hb hr r') (JApp.more (VarsAt.put hJ.1 rfl hg (by simp) hR r' (by simp)) (by decide)) trivial
          · intro w7 k7
            intro u h; obtain rfl := Eq.symm (h (by simp)); clear h
            intro u h; obtain rfl := Eq.symm (h (by simp)); clear h
            intro u h; obtain rfl := Eq.symm (h (by simp)); clear h
            intro u h; obtain rfl := Eq.symm (h (by simp)); clear h
            intro _ _
            intro u h; obtain rfl := Eq.symm (h (by simp)); clear h
            intro u h; obtain rfl := Eq.symm (h (by simp)); clear h
            intro u h; obtain rfl := Eq.symm (h (by simp)); clear h
            intro u h; obtain rfl := Eq.symm (h (by simp)); clear h
            intro u h; obtain rfl := Eq.symm (h (by simp)); clear h
            intro u h; obtain rfl := Eq.symm (h (by simp)); clear h
            intro _ _
            intro u h; obtain rfl := Eq.symm (h (by simp)); clear h
            intro _ _
            intro u h; obtain rfl := Eq.symm (h (by simp)); clear h
            intro _ _
            intro _ _
            intro u h; obtain rfl := Eq.symm (h (by simp)); clear h
            intro u h; obtain rfl := Eq.symm (h (by simp)); clear h
            intro u h; obtain rfl := Eq.symm (h (by simp)); clear h
            intro u h; obtain rfl := Eq.symm (h (by simp)); clear h
            intro u h; obtain rfl := Eq.symm (h (by simp)); clear h
            intro u h; obtain ⟨p13, hv⟩ := (h (by simp)); clear h; subst hv
            intro u h; obtain ⟨p14, hv⟩ := (h (by simp)); clear h; subst hv
            intro _ _
            intro _ _
            refine relyEnd_nil rfl ?_
            intro hJ
            simp only [Act.put, List.setIfInBounds_toArray, List.set_cons_zero, List.set_cons_succ]
            refine opr_move (.inr rfl) ?_
            go_simp
            have k9 : NewT w6 w7 := k7.out (Nat.le_refl _)
            clear k7 hJ
            replace HL := Lib.hid (k9.hs HL.out)
            replace HU11 := Lib.hid (k9.hs HU11.out)
            replace HT := Lib.hid (k9.tables HT.out)
            replace HN := Lib.hid (NewT.trans _ _ _ HN.out k9)
            clear k9
            by_cases hs0 : (subM node z m l true).length = 0
            · obtain ⟨A2, c2, hu2⟩ := rdH_form HU11.out
              rw [hs0] at hu2
              subst hu2
              go_wp2
              go_ret
              exact ⟨rfl, HN.out.out⟩
            · have HS1 : Hid (0 < (subM node z m l true).length) := Lib.hid (by omega)
              have HB2 : Hid (∀ (u : Value) (w : World), Tables w → RdH w u (List.take ((subM node z m l true).length - 1) (subM node z m l true)) → Cv 18 #[.int .i64 (m : Int), .int .i64 (l.length : Int), .agg (rowA 32 (bF d0)), u] w (svHHq (fun _ => 0) (fun _ => 0) false)) := Lib.hid fun u w hT hu => HBX.out u _ w hT hu (by rw [List.length_take]; have := HSS.out; omega) (by rw [List.length_take]; omega)
              obtain ⟨A2, c2, hu2⟩ := rdH_form HU11.out
              have t20 : (((subM node z m l true).length : Int) == 0) = false := beq_eq_false_iff_ne.2 (by omega)
              subst hu2
              go_upto_region 22 with fail
              obtain ⟨u11, eu⟩ : ∃ u, Value.slice A2 (subM node z m l true).length c2 = u := ⟨_, rfl⟩
              rw [eu] at HU11 ⊢
              clear eu
              refine wp_region_rely (NewT) [SV.eq (.int .i64 ((m : Int))), SV.eq (v), SV.eq (.int .i64 ((List.length (l) : Int))), SV.eq (v), svP (d0), SV.eq (.agg (rowA 32 (bF (d0)))), SV.eq (u11), SV.eq (u11), SV.eq (.int .i64 ((List.length (subM node z m l true) : Int))), SV.eq (.int .i64 ((((subM node z m l true).length - 1 : Nat) : Int))), svH (List.take ((subM node z m l true).length - 1) (subM node z m l true)), SV.eq ((.tuple #[.agg (rowA 32 (bF (fun _ => 0))), .agg (rowA 32 (bF (fun _ => 0))), .bool false])), SV.eq ((.tuple #[.agg (rowA 32 (bF (fun _ => 0))), .agg (rowA 32 (bF (fun _ => 0))), .bool false])), SV.eq (.agg (rowA 32 (bF ((fun _ => 0))))), SV.eq (.agg (rowA 32 (bF ((fun _ => 0))))), SV.eq (.bool false)] [([(2, none)], none), ([(0, none)], none), ([(105, some 1)], none), ([(0, none)], none), ([(107, some 3)], none), ([(108, some 4)], none), ([(11, none)], none), ([(11, none)], none), ([(111, some 7)], none), ([(112, some 8)], none), ([(110, some 6), (113, some 9)], none), ([(104, some 0), (106, some 2), (109, some 5), (114, some 10)], none), ([(115, some 11)], none), ([(103, some 12)], none), ([(103, some 12)], none), ([(103, some 12)], none)] 121 rfl (by kernel_rfl) rfl (by kernel_rfl) (by kernel_rfl) rfl NewT.trans (NewT.drew _) (Nat.le_of_ble_eq_true rfl) ⟨?_, ?_, ?_, ?_, ?_, ?_, ?_, ?_, ?_, ?_, ?_, ?_, ?_, ?_, ?_, ?_, trivial⟩ ?_
              · intro a wx hT hF K hK
                obtain ⟨f2, _⟩ := hF
                have f2 : a.tmps.getD 2 undef = .int .i64 ((m : Int)) := f2
                refine rely_wp rfl ?_
                exact opr_move (.inl rfl) (hK _ _ (NewT.refl _) f2)
              · intro a wx hT hF K hK
                obtain ⟨f0, _⟩ := hF
                have f0 : a.tmps.getD 0 undef = v := f0
                refine rely_wp rfl ?_
                exact opr_move (.inl rfl) (hK _ _ (NewT.refl _) f0)
              · intro a wx hT hF K hK
                obtain ⟨f105, _⟩ := hF
                have f105 : a.tmps.getD 105 undef = v := f105
                refine rely_wp rfl ?_
                exact opr_len_h rfl (by rw [eval_tmp, f105]; exact (hT.hs HL.out)) (hK _ _ (NewT.refl _) rfl)
              · intro a wx hT hF K hK
                obtain ⟨f0, _⟩ := hF
                have f0 : a.tmps.getD 0 undef = v := f0
                refine rely_wp rfl ?_
                exact opr_move (.inl rfl) (hK _ _ (NewT.refl _) f0)
              · intro a wx hT hF K hK
                obtain ⟨f107, _⟩ := hF
                have f107 : a.tmps.getD 107 undef = v := f107
                refine rely_wp rfl ?_
                exact opr_idxH (i := 0) (d := d0) (HD0.out) (rfl) rfl (by rw [eval_tmp, f107]; exact (hT.hs HL.out)) rfl (fun v hv => hK v _ (NewT.refl _) hv)
              · intro a wx hT hF K hK
                obtain ⟨f108, _⟩ := hF
                replace f108 := show (svP (d0)).pred (a.tmps.getD 108 undef) wx from f108
                refine rely_wp rfl ?_
                exact opr_ldP rfl f108 (hK _ _ (NewT.refl _) rfl)
              · intro a wx hT hF K hK
                obtain ⟨f11, _⟩ := hF
                have f11 : a.tmps.getD 11 undef = u11 := f11
                refine rely_wp rfl ?_
                exact opr_move (.inl rfl) (hK _ _ (NewT.refl _) f11)
              · intro a wx hT hF K hK
                obtain ⟨f11, _⟩ := hF
                have f11 : a.tmps.getD 11 undef = u11 := f11
                refine rely_wp rfl ?_
                exact opr_move (.inl rfl) (hK _ _ (NewT.refl _) f11)
              · intro a wx hT hF K hK
                obtain ⟨f111, _⟩ := hF
                have f111 : a.tmps.getD 111 undef = u11 := f111
                refine rely_wp rfl ?_
                exact opr_len_h rfl (by rw [eval_tmp, f111]; exact (hT.hs HU11.out)) (hK _ _ (NewT.refl _) rfl)
              · intro a wx hT hF K hK
                obtain ⟨f112, _⟩ := hF
                have f112 : a.tmps.getD 112 undef = .int .i64 ((List.length (subM node z m l true) : Int)) := f112
                refine rely_wp rfl ?_
                exact opr_sub (r := (((subM node z m l true).length - 1 : Nat) : Int)) Tryd.underlying3 (by unfold wrap64; have := HS1.out; have := HSS.out; omega) rfl f112 rfl (hK _ _ (NewT.refl _) rfl)
              · intro a wx hT hF K hK
                obtain ⟨f110, f113, _⟩ := hF
                have f110 : a.tmps.getD 110 undef = u11 := f110
                have f113 : a.tmps.getD 113 undef = .int .i64 ((((subM node z m l true).length - 1 : Nat) : Int)) := f113
                refine rely_wp rfl ?_
                exact opr_toH (k := ((subM node z m l true).length - 1)) (by omega) (rfl) rfl (by rw [eval_tmp, f110]; exact (hT.hs HU11.out)) f113 (fun v hv => hK v _ (NewT.refl _) hv)
              · intro a wx hT hF K hK
                obtain ⟨f104, f106, f109, f114, _⟩ := hF
                have f104 : a.tmps.getD 104 undef = .int .i64 ((m : Int)) := f104
                have f106 : a.tmps.getD 106 undef = .int .i64 ((List.length (l) : Int)) := f106
                have f109 : a.tmps.getD 109 undef = .agg (rowA 32 (bF (d0))) := f109
                replace f114 := show (svH (List.take ((subM node z m l true).length - 1) (subM node z m l true))).pred (a.tmps.getD 114 undef) wx from f114
                refine rely_wp rfl ?_
                exact opr_cv (HB2.out _ wx (hT.tables HT.out) f114) rfl Tryd.func18 (by kernel_rfl) (by kernel_rfl) (by simp only [List.map_toArray, List.map_cons, List.map_nil, eval_tmp, f104, f106, f109]) hK
              · intro a wx hT hF K hK
                obtain ⟨f115, _⟩ := hF
                have f115 : a.tmps.getD 115 undef = (.tuple #[.agg (rowA 32 (bF (fun _ => 0))), .agg (rowA 32 (bF (fun _ => 0))), .bool false]) := f115
                refine rely_wp rfl ?_
                exact opr_move (.inl rfl) (hK _ _ (NewT.refl _) f115)
              · intro a wx hT hF K hK
                obtain ⟨f103, _⟩ := hF
                have f103 : a.tmps.getD 103 undef = (.tuple #[.agg (rowA 32 (bF (fun _ => 0))), .agg (rowA 32 (bF (fun _ => 0))), .bool false]) := f103
                refine rely_wp rfl ?_
                exact opr_ext rfl f103 rfl (hK _ _ (NewT.refl _) rfl)
              · intro a wx hT hF K hK
                obtain ⟨f103, _⟩ := hF
                have f103 : a.tmps.getD 103 undef = (.tuple #[.agg (rowA 32 (bF (fun _ => 0))), .agg (rowA 32 (bF (fun _ => 0))), .bool false]) := f103
                refine rely_wp rfl ?_
                exact opr_ext rfl f103 rfl (hK _ _ (NewT.refl _) rfl)
              · intro a wx hT hF K hK
                obtain ⟨f103, _⟩ := hF
                have f103 : a.tmps.getD 103 undef = (.tuple #[.agg (rowA 32 (bF (fun _ => 0))), .agg (rowA 32 (bF (fun _ => 0))), .bool false]) := f103
                refine rely_wp rfl ?_
                exact opr_ext rfl f103 rfl (hK _ _ (NewT.refl _) rfl)
              · intro wa ka
                intro u h; obtain rfl := Eq.symm (h (by simp)); clear h
                intro u h; obtain rfl := Eq.symm (h (by simp)); clear h
                intro u h; obtain rfl := Eq.symm (h (by simp)); clear h
                intro u h; obtain rfl := Eq.symm (h (by simp)); clear h
                intro _ _
                intro u h; obtain rfl := Eq.symm (h (by simp)); clear h
                intro u h; obtain rfl := Eq.symm (h (by simp)); clear h
                intro u h; obtain rfl := Eq.symm (h (by simp)); clear h
                intro u h; obtain rfl := Eq.symm (h (by simp)); clear h
                intro u h; obtain rfl := Eq.symm (h (by simp)); clear h
                intro _ _
                intro u h; obtain rfl := Eq.symm (h (by simp)); clear h
                intro u h; obtain rfl := Eq.symm (h (by simp)); clear h
                intro u h; obtain rfl := Eq.symm (h (by simp)); clear h
                intro u h; obtain rfl := Eq.symm (h (by simp)); clear h
                intro u h; obtain rfl := Eq.symm (h (by simp)); clear h
                refine relyEnd_nil rfl ?_
                simp only [Act.put, List.setIfInBounds_toArray, List.set_cons_zero, List.set_cons_succ]
                refine opr_move (.inr rfl) ?_
                go_simp
                go_wp2
                go_ret
                exact ⟨rfl, (NewT.trans _ _ _ HN.out ka).out⟩
      · skip
        have HM : Hid (m0 < 1 ∨ (l.length : Int) < m0) := Lib.hid (by omega)
        go_upto_region 14 with fail
        refine wp_region_steps0 NewT [SV.eq (v), SV.eq (.int .i64 (m0)), svPq (([] : List Hs)) false, svPq (([] : List Hs)) false, svH (([] : List Hs)), SV.eq (.bool false), svH (([] : List Hs)), SV.eq (.bool false)] [([(0, none)], none), ([(2, none)], none), ([(70, some 0), (71, some 1)], none), ([(72, some 2)], none), ([(69, some 3)], none), ([(69, some 3)], none), ([(73, some 4)], none), ([(74, some 5)], none)] 121 8 rfl rfl (by kernel_rfl) NewT.trans (NewT.refl _) (Nat.le_of_ble_eq_true rfl) ⟨?_, ?_, ?_, ?_, ?_, ?_, ?_, ?_, trivial⟩ ?_
        · intro a wx hT hF K hK
          obtain ⟨f0, _⟩ := hF
          have f0 : a.tmps.getD 0 undef = v := f0
          refine rely_wp rfl ?_
          exact opr_move (.inl rfl) (hK _ _ (NewT.refl _) f0)
        · intro a wx hT hF K hK
          obtain ⟨f2, _⟩ := hF
          have f2 : a.tmps.getD 2 undef = .int .i64 (m0) := f2
          refine rely_wp rfl ?_
          exact opr_move (.inl rfl) (hK _ _ (NewT.refl _) f2)
        · intro a wx hT hF K hK
          obtain ⟨f70, f71, _⟩ := hF
          have f70 : a.tmps.getD 70 undef = v := f70
          have f71 : a.tmps.getD 71 undef = .int .i64 (m0) := f71
          refine rely_wp rfl ?_
          exact opr_cv (Prove_bad _ l m0 wx (hT.hs HL.out) HM.out) rfl Tryd.func13 (by kernel_rfl) (by kernel_rfl) (by simp only [List.map_toArray, List.map_cons, List.map_nil, eval_tmp, f70, f71]) hK
        · intro a wx hT hF K hK
          obtain ⟨f72, _⟩ := hF
          replace f72 := show (svPq (([] : List Hs)) false).pred (a.tmps.getD 72 undef) wx from f72
          refine rely_wp rfl ?_
          exact opr_move (.inl rfl) (hK _ _ (NewT.refl _) f72)
        · intro a wx hT hF K hK
          obtain ⟨f69, _⟩ := hF
          replace f69 := show (svPq (([] : List Hs)) false).pred (a.tmps.getD 69 undef) wx from f69
          refine rely_wp rfl ?_
          exact opr_extP0 rfl f69 (fun u hu => hK u _ (NewT.refl _) hu)
        · intro a wx hT hF K hK
          obtain ⟨f69, _⟩ := hF
          replace f69 := show (svPq (([] : List Hs)) false).pred (a.tmps.getD 69 undef) wx from f69
          refine rely_wp rfl ?_
          exact opr_extP1 rfl f69 (hK _ _ (NewT.refl _) rfl)
        · intro a wx hT hF K hK
          obtain ⟨f73, _⟩ := hF
          replace f73 := show (svH (([] : List Hs))).pred (a.tmps.getD 73 undef) wx from f73
          refine rely_wp rfl ?_
          exact opr_move (.inr rfl) (hK _ _ (NewT.refl _) f73)
        · intro a wx hT hF K hK
          obtain ⟨f74, _⟩ := hF
          have f74 : a.tmps.getD 74 undef = .bool false := f74
          refine rely_wp rfl ?_
          exact opr_move (.inr rfl) (hK _ _ (NewT.refl _) f74)
        · intro w6 k6
          intro u h; obtain rfl := Eq.symm (h (by simp)); clear h
          intro u h; obtain rfl := Eq.symm (h (by simp)); clear h
          intro _ _
          intro _ _
          intro _ _
          intro u h; obtain rfl := Eq.symm (h (by simp)); clear h
          intro u11 h; have g11 := h (by simp); clear h; replace g11 := show (svH (([] : List Hs))).pred u11 w6 from g11
          intro u h; obtain rfl := Eq.symm (h (by simp)); clear h
          refine relyEnd_nil rfl ?_
          refine wpList_end rfl ?_
          simp only [Act.put, List.setIfInBounds_toArray, List.set_cons_zero, List.set_cons_succ]
          go_simp
          go_wp2
          go_ret
          exact ⟨rfl, (NewT.trans _ _ _ HN.out k6).out⟩
end Go.Proofs.YtoigjcadncecpaaDoor
