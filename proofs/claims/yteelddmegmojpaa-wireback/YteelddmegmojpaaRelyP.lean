/- A region that draws its order, some of whose operations turn a state one behind the other (each waits for the one ahead): beside the conditions of single operations a statement on the world for each phase. No program is named here. -/
import Derived.Test.YteelddmegmojpaaRelyJ
namespace Go.Proofs.Yteelddmegmojpaa
open Go Go.RowKit

/-- One operation: it turns phase k into the next one (some k), or keeps whatever phase there is (none). -/
def relyStepP (P : Program) (Q : Exit → Act → World → Prop) (T : World → World → Prop) (V : List (SV T)) (J : Nat → World → Prop) (a0 : Act) (w0 : World) (o : Oper) (dp : List (Tmp × Option Nat)) (g : Option (Tmp × Bool)) (c : SV T) : Option Nat → Prop
  | none => ∀ (a : Act) (w : World), T w0 w → relyFacts V a0 a w dp → ∀ K : Act → World → Prop, (∀ v w', T w w' → (∀ k, J k w → J k w') → c.pred v w' → K (a.put o.dst v) w') →
    if relyGuard g a then o.wp P a w K Q else K (a.put o.dst undef) w
  | some k => ∀ (a : Act) (w : World), T w0 w → relyFacts V a0 a w dp → J k w → ∀ K : Act → World → Prop, (∀ v w', T w w' → J (k + 1) w' → c.pred v w' → K (a.put o.dst v) w') →
    if relyGuard g a then o.wp P a w K Q else K (a.put o.dst undef) w
def relyAllP (P : Program) (Q : Exit → Act → World → Prop) (T : World → World → Prop) (V : List (SV T)) (J : Nat → World → Prop) (a0 : Act) (w0 : World) : List Oper → Deps → List (SV T) → List (Option Nat) → Prop
  | [], _, _, _ => True
  | o :: r, (dp, g) :: D, c :: C, s :: S => relyStepP P Q T V J a0 w0 o dp g c s ∧ relyAllP P Q T V J a0 w0 r D C S
  | _, _, _, _ => False
/-- Each of the path's operations waits for the one ahead. -/
def pathB (ops : Array Oper) : List Nat → Bool
  | i :: j :: r => Region.waitsFor .any ops j i && pathB ops (j :: r)
  | _ => true
def placesB (path : List Nat) (S : List (Option Nat)) : Bool := decide path.Nodup && (List.range S.length).all fun i => S.getD i none == path.findIdx? (· == i)
section
variable {P : Program} {ops : Array Oper} {Q : Exit → Act → World → Prop} {T : World → World → Prop} {V : List (SV T)} {J : Nat → World → Prop} {a0 : Act} {w0 : World} {n : Nat} {D : Deps} {S : List (Option Nat)} {path : List Nat} {init : List Oper} {last : Oper}
theorem pathB_at : ∀ (path : List Nat) (j i i' : Nat), pathB ops path = true → path[j]? = some i → path[j + 1]? = some i' → Region.waitsFor .any ops i' i = true
  | [], _, _, _, _, h, _ => by simp at h
  | [x], j, _, _, _, _, h => by simp at h
  | x :: y :: r, 0, i, i', h, h1, h2 => by
    simp only [pathB, Bool.and_eq_true] at h
    simp at h1 h2
    subst h1 h2
    exact h.1
  | x :: y :: r, j + 1, i, i', h, h1, h2 => by
    simp only [pathB, Bool.and_eq_true] at h
    exact pathB_at (y :: r) j i i' h.2 (by simpa using h1) (by simpa using h2)
theorem relyAllP_at : ∀ (l : List Oper) (D : Deps) (C : List (SV T)) (S : List (Option Nat)) (k : Nat) (o : Oper) dp g, relyAllP P Q T V J a0 w0 l D C S → l[k]? = some o → D[k]? = some (dp, g) → relyStepP P Q T V J a0 w0 o dp g (C.getD k SV.any) (S.getD k none)
  | [], _, _, _, _, _, _, _, _, h, _ => by simp at h
  | x :: r, [], _, _, _, _, _, _, h, _, _ => h.elim
  | x :: r, y :: D, [], _, _, _, _, _, h, _, _ => h.elim
  | x :: r, y :: D, c :: C, [], _, _, _, _, h, _, _ => h.elim
  | x :: r, (dp, g) :: D, c :: C, s :: S, 0, o, dp', g', h, ho, hD => by
    simp at ho hD
    obtain ⟨rfl, rfl⟩ := hD
    subst ho
    exact h.1
  | x :: r, (dp, g) :: D, c :: C, s :: S, k + 1, o, dp', g', h, ho, hD => by
    have := relyAllP_at r D C S k o dp' g' h.2 (by simpa using ho) (by simpa using hD)
    simpa using this
/-- So many of the path's operations have come up. -/
structure PhInv (path : List Nat) (J : Nat → World → Prop) (listed : Array Bool) (w : World) (k : Nat) : Prop where
  le : k ≤ path.length
  done : ∀ j i, j < k → path[j]? = some i → listed.getD i false = true
  left : ∀ j i, k ≤ j → path[j]? = some i → listed.getD i false = false
  now : J k w
theorem ph_other {listed : Array Bool} {w w' : World} {k i : Nat} (h : PhInv path J listed w k) (hi : i ∉ path) (hJ : J k w') : PhInv path J (listed.setIfInBounds i true) w' k := by
  have hne : ∀ (j x : Nat), path[j]? = some x → i ≠ x := fun j x hx e => hi (e ▸ List.mem_of_getElem? hx)
  exact ⟨h.le, fun j x hj hx => by rw [getD_set_ne false (hne j x hx)]; exact h.done j x hj hx, fun j x hj hx => by rw [getD_set_ne false (hne j x hx)]; exact h.left j x hj hx, hJ⟩
theorem ph_own (hnd : path.Nodup) {listed : Array Bool} {w w' : World} {k i : Nat} (hlt : i < listed.size) (h : PhInv path J listed w k) (hi : path[k]? = some i) (hJ : J (k + 1) w') : PhInv path J (listed.setIfInBounds i true) w' (k + 1) := by
  have hk : k < path.length := (List.getElem?_eq_some_iff.1 hi).1
  have hinj : ∀ (j x : Nat), path[j]? = some x → j ≠ k → i ≠ x := fun j x hx hjk e => by
    subst e
    obtain ⟨h1, h2⟩ := List.getElem?_eq_some_iff.1 hx
    obtain ⟨h3, h4⟩ := List.getElem?_eq_some_iff.1 hi
    exact hjk ((List.getElem_inj hnd).1 (h2.trans h4.symm))
  refine ⟨hk, fun j x hj hx => ?_, fun j x hj hx => ?_, hJ⟩
  · by_cases e : j = k
    · subst e
      rw [hi] at hx
      cases hx
      simp [hlt]
    · rw [getD_set_ne false (hinj j x hx e)]; exact h.done j x (by omega) hx
  · rw [getD_set_ne false (hinj j x hx (by omega))]; exact h.left j x (by omega) hx
theorem wpAny_relyP (hsplit : ops.toList = init ++ [last]) (hn : a0.tmps.size = n) (hB : relyB ops n 0 init D = true) (hlast : lastB ops last init.length = true) (hg : last.guard = none) (ht : ∀ a b c : World, T a b → T b c → T a c)
    (hpath : pathB ops path = true) (hplace : placesB path S = true) (hSl : S.length = init.length) (hpl : ∀ i ∈ path, i < init.length)
    (hl : init.length ≤ V.length) (hA : relyAllP P Q T V J a0 w0 init D V S) (hE : ∀ w, T w0 w → J path.length w → relyEnd (fun _ a w => last.wp P a w (fun a' w' => Q .normal a' w') Q) T init V a0 w) :
    ∀ (fuel : Nat) (listed : Array Bool) (a : Act) (w : World) (k : Nat), (unl ops listed).length = fuel → listed.getD init.length true = false → RelyInv ops T V a0 w0 listed a w → PhInv path J listed w k → wpAny P .any ops Q fuel listed a w := by
  obtain ⟨hlo, hsz, hpre⟩ := last_at hsplit
  simp only [lastB, Bool.and_eq_true] at hlast
  simp only [placesB, Bool.and_eq_true, decide_eq_true_eq] at hplace
  obtain ⟨hnd, hpos⟩ := hplace
  have hS : ∀ i, i < init.length → S.getD i none = path.findIdx? (· == i) := fun i hi => by
    have := List.all_eq_true.1 hpos i (List.mem_range.2 (by omega))
    simpa using this
  have hat : ∀ i o, init[i]? = some o → ∃ dp g, relyOne ops n i o dp g = true ∧ relyStepP P Q T V J a0 w0 o dp g (V.getD i SV.any) (path.findIdx? (· == i)) := fun i o hi => by
    obtain ⟨dp, g, hD, h1⟩ := relyB_at init D 0 i o hB hi
    rw [Nat.zero_add] at h1
    refine ⟨dp, g, h1, ?_⟩
    rw [← hS i (List.getElem?_eq_some_iff.1 hi).1]
    exact relyAllP_at _ _ _ _ i o dp g hA hi hD
  intro fuel
  induction fuel with
  | zero =>
    intro listed a w k hu hun inv _
    have : init.length ∈ unl ops listed := by
      unfold unl; rw [List.mem_filter]; exact ⟨List.mem_range.2 (by omega), by rw [hun]; rfl⟩
    rw [List.eq_nil_of_length_eq_zero hu] at this
    cases this
  | succ fuel ih =>
    intro listed a w k hu hun inv ph
    refine ⟨fun hr => ?_, fun i hi => ?_⟩
    · exfalso
      have all : ∀ i, i < init.length → listed.getD i false = true := fun i => by
        induction i using Nat.strongRecOn with
        | _ i ih =>
          intro hi
          cases hli : listed.getD i false with
          | true => rfl
          | false =>
            exfalso
            have hmem : i ∈ Region.ready .any ops listed := by
              rw [mem_ready]
              refine ⟨getD_in (by rw [inv.size]; omega) hli, init[i], hpre i _ (List.getElem?_eq_getElem hi), fun e he hb => ?_⟩
              obtain ⟨dp, g, h1, _⟩ := hat i init[i] (List.getElem?_eq_getElem hi)
              simp only [relyOne, Bool.and_eq_true] at h1
              have h2 := (Array.all_eq_true_iff_forall_mem.1 h1.1.1.2) e he
              simp only [hb, Bool.not_true, Bool.false_or, decide_eq_true_eq] at h2
              exact ih e.on h2 (by omega)
            rw [hr] at hmem
            cases hmem
      have hmem : init.length ∈ Region.ready .any ops listed := by
        rw [mem_ready]
        refine ⟨hun, last, hlo, fun e he hb => ?_⟩
        have h2 := (Array.all_eq_true_iff_forall_mem.1 hlast.2) e he
        simp only [hb, Bool.not_true, Bool.false_or, decide_eq_true_eq] at h2
        exact all e.on h2
      rw [hr] at hmem
      cases hmem
    · obtain ⟨h0, o, ho, hall⟩ := mem_ready.1 hi
      have hilt := (Array.getElem?_eq_some_iff.1 ho).1
      by_cases him : i = init.length
      · subst him
        have hol : o = last := Option.some.inj (ho.symm.trans hlo)
        subst hol
        have hdone : ∀ (d j : Nat), init.length - j = d → j < init.length → listed.getD j false = true := fun d => by
          induction d using Nat.strongRecOn with
          | _ d ihd =>
            intro j hd hj
            have h1 := List.all_eq_true.1 hlast.1 j (List.mem_range.2 hj)
            obtain ⟨t, ht1, ht2⟩ := List.any_eq_true.1 h1
            simp only [Bool.and_eq_true, decide_eq_true_eq] at ht2
            obtain ⟨ot, hot, e, he, hb, hon⟩ := Region.waitsFor_spec ht2.2
            have htle : t ≤ init.length := by have := List.mem_range.1 ht1; omega
            rw [← hon]
            by_cases htm : t = init.length
            · subst htm
              have : ot = o := Option.some.inj (hot.symm.trans ho)
              subst this
              exact hall e he hb
            · exact inv.closed t ot hot (ihd (init.length - t) (by omega) t rfl (by omega)) e he hb
        replace hdone : ∀ j, j < init.length → listed.getD j false = true := fun j hj => hdone _ j rfl hj
        have hk : k = path.length := by
          rcases Nat.lt_or_ge k path.length with h | h
          · exfalso
            have h1 := ph.left k path[k] (Nat.le_refl _) (List.getElem?_eq_getElem h)
            rw [hdone _ (hpl _ (List.getElem_mem h))] at h1
            cases h1
          · have := ph.le; omega
        subst hk
        have hJ := ph.now
        have h1 : o.wp P a w (fun a' w' => Q .normal a' w') Q := rely_all (Q' := fun a w => o.wp P a w (fun a' w' => Q .normal a' w') Q) inv
          (fun k o hk => ⟨hpre k o hk, hdone k (List.getElem?_eq_some_iff.1 hk).1⟩) (fun j hj => by
            rcases Nat.lt_or_ge j init.length with h | h
            · exact h
            · rcases Nat.eq_or_lt_of_le h with h | h
              · subst h; rw [getD_both hun] at hj; cases hj
              · have : listed.getD j false = false := by simp [Array.getElem?_eq_none (show listed.size ≤ j by rw [inv.size]; omega)]
                rw [this] at hj; cases hj) hl (hE w inv.now hJ)
        have hK : ∀ a' w', Q .normal a' w' → wpAny P .any ops Q fuel (listed.setIfInBounds init.length true) a' w' := fun a' w' h => wpAny_done (ready_none fun j hj => by
          by_cases hj2 : j = init.length
          · subst hj2; simp [show init.length < listed.size by rw [inv.size]; exact hj]
          · exact getD_set_true (hdone j (by omega))) h _
        unfold wpOp
        simp only [hlo, Region.wanted, hg, if_true]
        exact .inl (Oper.wp_mono hK h1)
      · have hi' : i < init.length := by omega
        have hio : init[i]? = some o := by
          have := hpre i init[i] (List.getElem?_eq_getElem hi')
          rw [ho] at this
          rw [List.getElem?_eq_getElem hi', Option.some.inj this]
        obtain ⟨dp, g, h1, hstep⟩ := hat i o hio
        obtain ⟨hfacts, hguard, next⟩ := rely_next hn ht ho h1 h0 hall inv
        have i0 : listed.getD i false = false := getD_both h0
        have hs : if relyGuard g a then o.wp P a w (fun a' w' => wpAny P .any ops Q fuel (listed.setIfInBounds i true) a' w') Q else wpAny P .any ops Q fuel (listed.setIfInBounds i true) (a.put o.dst undef) w := by
          cases hf : path.findIdx? (· == i) with
          | none =>
            rw [hf] at hstep
            have hni : i ∉ path := fun hm => by
              rw [List.findIdx?_eq_none_iff] at hf
              have := hf i hm
              simp at this
            exact hstep a w inv.now hfacts (fun a' w' => wpAny P .any ops Q fuel (listed.setIfInBounds i true) a' w') (fun v w' hT hJ hv => ih _ _ w' k (by have := unl_set inv.size h0; omega) (by rw [getD_set_ne true him]; exact hun) (next v w' hT hv) (ph_other ph hni (hJ k ph.now)))
          | some j =>
            rw [hf] at hstep
            have hpj : path[j]? = some i := by
              obtain ⟨h1, h2, _⟩ := List.findIdx?_eq_some_iff_getElem.1 hf
              rw [List.getElem?_eq_getElem h1]
              simpa using h2
            have hkj : k = j := by
              rcases Nat.lt_trichotomy j k with h | h | h
              · have := ph.done j i h hpj
                rw [i0] at this; cases this
              · exact h.symm
              · exfalso
                obtain ⟨j', rfl⟩ : ∃ j', j = j' + 1 := ⟨j - 1, by omega⟩
                have hlj : j' < path.length := by have := (List.getElem?_eq_some_iff.1 hpj).1; omega
                have hw := pathB_at path j' path[j'] i hpath (List.getElem?_eq_getElem hlj) hpj
                obtain ⟨oi, hoi, e, he, hb, hon⟩ := Region.waitsFor_spec hw
                have : oi = o := Option.some.inj (hoi.symm.trans ho)
                subst this
                have h2 := hall e he hb
                rw [hon, ph.left j' _ (by omega) (List.getElem?_eq_getElem hlj)] at h2
                cases h2
            subst hkj
            exact hstep a w inv.now hfacts ph.now (fun a' w' => wpAny P .any ops Q fuel (listed.setIfInBounds i true) a' w') (fun v w' hT hJ hv => ih _ _ w' (k + 1) (by have := unl_set inv.size h0; omega) (by rw [getD_set_ne true him]; exact hun) (next v w' hT hv) (ph_own hnd (by rw [inv.size]; exact hilt) ph hpj hJ))
        unfold wpOp
        simp only [ho, hguard]
        split
        · rename_i hw; rw [if_pos hw] at hs; exact .inl hs
        · rename_i hw; rw [if_neg hw] at hs; exact hs
/-- **A region that draws its order and turns a state step by step.** -/
theorem wp_region_relyP {id : Nat} (T : World → World → Prop) (J : Nat → World → Prop) (V : List (SV T)) (D : Deps) (S : List (Option Nat)) (path : List Nat) (n : Nat) (hla : ops.toList.getLast? = some last) (hm : P.follows .mixedOrders = true) (hn : a0.tmps.size = n) (hB : relyB ops n 0 ops.toList.dropLast D = true)
    (hlast : lastB ops last ops.toList.dropLast.length = true) (hg : last.guard = none) (hpath : (pathB ops path && placesB path S && decide (S.length = ops.toList.dropLast.length) && path.all fun i => decide (i < ops.toList.dropLast.length)) = true)
    (ht : ∀ a b c : World, T a b → T b c → T a c) (hd : T w0 w0.drew) (hJ : J 0 w0.drew) (hl : ops.toList.dropLast.length ≤ V.length)
    (hA : relyAllP P Q T V J a0 w0 ops.toList.dropLast D V S) (hE : ∀ w, T w0 w → J path.length w → relyEnd (fun _ a w => last.wp P a w (fun a' w' => Q .normal a' w') Q) T ops.toList.dropLast V a0 w) : (Code.region id ops true).wp P Q a0 w0 := by
  have hsplit := split_last hla
  obtain ⟨_, hsz, _⟩ := last_at hsplit
  simp only [Bool.and_eq_true, decide_eq_true_eq] at hpath
  obtain ⟨⟨⟨h1, h2⟩, h3⟩, h4⟩ := hpath
  refine wp_region_any hm ?_
  exact wpAny_relyP hsplit hn hB hlast hg ht h1 h2 h3 (fun i hi => by simpa using List.all_eq_true.1 h4 i hi) hl hA hE ops.size _ a0 w0.drew 0 unl_start (by
    have hlt : ops.toList.dropLast.length < ops.size := by omega
    generalize ops.toList.dropLast.length = m at hlt
    simp [hlt]) (rely_start hd) ⟨Nat.zero_le _, fun j i hj => by omega, fun j i _ _ => getD_replicate_false .., hJ⟩
end
end Go.Proofs.Yteelddmegmojpaa
