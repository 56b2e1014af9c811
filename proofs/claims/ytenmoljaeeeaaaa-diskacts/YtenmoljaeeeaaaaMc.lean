/- A region that draws its order, some of whose operations turn a state one behind the other (each waits for the one ahead): beside the conditions of single operations a statement on the world for each phase. No program is named here. -/
import Derived.Test.YtenmoljaeeeaaaaMb
import Derived.Deep.Cut
set_option linter.all false
namespace Go.Proofs.Ytenmoljaeeeaaaa
open Go Go.RowKit
set_option maxRecDepth 8000
set_option linter.all false

/-- One operation: it turns phase k into the next one (some k), or keeps whatever phase there is (none). -/
def relyStepP (P : Program) (Q : Exit → Act → World → Prop) (T : World → World → Prop) (V : List (SV T)) (J : Nat → World → Prop) (a0 : Act) (w0 : World) (o : Oper) (dp : List (Tmp × Option Nat)) (g : Option (Tmp × Bool)) (c : SV T) : Option Nat → Prop
  | none => ∀ (a : Act) (w : World), T w0 w → relyFacts V a0 a w dp → ∀ K : Act → World → Prop, (∀ v w', T w w' → (∀ k, J k w → J k w') → c.pred v w' → K (a.put o.dst v) w') →
    if relyGuard g a then o.wp P a w K Q else K (a.put o.dst undef) w
  | some k => ∀ (a : Act) (w : World), T w0 w → relyFacts V a0 a w dp → J k w → ∀ K : Act → World → Prop, (∀ v w', T w w' → J (k + 1) w' → c.pred v w' → K (a.put o.dst v) w') →
    if relyGuard g a then o.wp P a w K Q else K (a.put o.dst undef) w
def relyAllP (P : Program) (Q : Exit → Act → World → Prop) (T : World → World → Prop) (V : List (SV T)) (J : Nat → World → Prop) (a0 : Act) (w0 : World) : List Oper → Deps → List (SV T) → List (Option Nat) → Prop
  | [], _, _, _ => True
  | o :: r, (dp, g) :: D, c :: C, s :: S => relyStepP P Q T V J a0 w0 o dp g c s ∧ relyAllP P Q T V J a0 w0 r D C S
  | _, _, _, _ => False
/-- Each of the path's operations waits for the one ahead. -/
def pathB (ops : Array Oper) : List Nat → Bool
  | i :: j :: r => Region.waitsFor .any ops j i && pathB ops (j :: r)
  | _ => true
def placesB (path : List Nat) (S : List (Option Nat)) : Bool := decide path.Nodup && (List.range S.length).all fun i => S.getD i none == path.findIdx? (· == i)
section
variable {P : Program} {ops : Array Oper} {Q : Exit → Act → World → Prop} {T : World → World → Prop} {V : List (SV T)} {J : Nat → World → Prop} {a0 : Act} {w0 : World} {n : Nat} {D : Deps} {S : List (Option Nat)} {path : List Nat} {init : List Oper} {last : Oper}
theorem pathB_at : ∀ (path : List Nat) (j i i' : Nat), pathB ops path = true → path[j]? = some i → path[j + 1]? = some i' → Region.waitsFor .any ops i' i = true
  | [], _, _, _, _, h, _ => by simp at h
  | [x], j, _, _, _, _, h => by simp at h
  | x :: y :: r, 0, i, i', h, h1, h2 => by
    simp only [pathB, Bool.and_eq_true] at h
    simp at h1 h2
    subst h1 h2
    exact h.1
  | x :: y :: r, j + 1, i, i', h, h1, h2 => by
    simp only [pathB, Bool.and_eq_true] at h
    exact pathB_at (y :: r) j i i' h.2 (by simpa using h1) (by simpa using h2)
theorem relyAllP_at : ∀ (l : List Oper) (D : Deps) (C : List (SV T)) (S : List (Option Nat)) (k : Nat) (o : Oper) dp g, relyAllP P Q T V J a0 w0 l D C S → l[k]? = some o → D[k]? = some (dp, g) → relyStepP P Q T V J a0 w0 o dp g (C.getD k SV.any) (S.getD k none)
  | [], _, _, _, _, _, _, _, _, h, _ => by simp at h
  | x :: r, [], _, _, _, _, _, _, h, _, _ => h.elim
  | x :: r, y :: D, [], _, _, _, _, _, h, _, _ => h.elim
  | x :: r, y :: D, c :: C, [], _, _, _, _, h, _, _ => h.elim
  | x :: r, (dp, g) :: D, c :: C, s :: S, 0, o, dp', g', h, ho, hD => by
    simp at ho hD
    obtain ⟨rfl, rfl⟩ := hD
    subst ho
    exact h.1
  | x :: r, (dp, g) :: D, c :: C, s :: S, k + 1, o, dp', g', h, ho, hD => by
    have := relyAllP_at r D C S k o dp' g' h.2 (by simpa using ho) (by simpa using hD)
    simpa using this
/-- So many of the path's operations have come up. -/
structure PhInv (path : List Nat) (J : Nat → World → Prop) (listed : Array Bool) (w : World) (k : Nat) : Prop where
  le : k ≤ path.length
  done : ∀ j i, j < k → path[j]? = some i → listed.getD i false = true
  left : ∀ j i, k ≤ j → path[j]? = some i → listed.getD i false = false
  now : J k w
theorem ph_other {listed : Array Bool} {w w' : World} {k i : Nat} (h : PhInv path J listed w k) (hi : i ∉ path) (hJ : J k w') : PhInv path J (listed.setIfInBounds i true) w' k := by
  have hne : ∀ (j x : Nat), path[j]? = some x → i ≠ x := fun j x hx e => hi (e ▸ List.mem_of_getElem? hx)
  exact ⟨h.le, fun j x hj hx => by rw [getD_set_ne false (hne j x hx)]; exact h.done j x hj hx, fun j x hj hx => by rw [getD_set_ne false (hne j x hx)]; exact h.left j x hj hx, hJ⟩
theorem ph_own (hnd : path.Nodup) {listed : Array Bool} {w w' : World} {k i : Nat} (hlt : i < listed.size) (h : PhInv path J listed w k) (hi : path[k]? = some i) (hJ : J (k + 1) w') : PhInv path J (listed.setIfInBounds i true) w' (k + 1) := by
  have hk : k < path.length := (List.getElem?_eq_some_iff.1 hi).1
  have hinj : ∀ (j x : Nat), path[j]? = some x → j ≠ k → i ≠ x := fun j x hx hjk e => by
    subst e
    obtain ⟨h1, h2⟩ := List.getElem?_eq_some_iff.1 hx
    obtain ⟨h3, h4⟩ := List.getElem?_eq_some_iff.1 hi
    exact hjk ((List.getElem_inj hnd).1 (h2.trans h4.symm))
  refine ⟨hk, fun j x hj hx => ?_, fun j x hj hx => ?_, hJ⟩
  · by_cases e : j = k
    · subst e
      rw [hi] at hx
      cases hx
      simp [hlt]
    · rw [getD_set_ne false (hinj j x hx e)]; exact h.done j x (by omega) hx
  · rw [getD_set_ne false (hinj j x hx (by omega))]; exact h.left j x (by omega) hx
theorem wpAny_relyP {Q2 : Exit → Act → World → Prop} (hQ : ∀ (o : Oper) (a : Act) (w : World) (K : Act → World → Prop), a.defers = a0.defers → o.wp P a w K Q2 → o.wp P a w K Q) (hsplit : ops.toList = init ++ [last]) (hn : a0.tmps.size = n) (hB : relyB ops n 0 init D = true) (hlast : lastB ops last init.length = true) (hg : last.guard = none) (ht : ∀ a b c : World, T a b → T b c → T a c)
    (hpath : pathB ops path = true) (hplace : placesB path S = true) (hSl : S.length = init.length) (hpl : ∀ i ∈ path, i < init.length)
    (hl : init.length ≤ V.length) (hA : relyAllP P Q2 T V J a0 w0 init D V S) (hE : ∀ w, T w0 w → J path.length w → relyEnd (fun _ a w => last.wp P a w (fun a' w' => Q .normal a' w') Q) T init V a0 w) :
    ∀ (fuel : Nat) (listed : Array Bool) (a : Act) (w : World) (k : Nat), (unl ops listed).length = fuel → listed.getD init.length true = false → RelyInv ops T V a0 w0 listed a w → PhInv path J listed w k → wpAny P .any ops Q fuel listed a w := by
  obtain ⟨hlo, hsz, hpre⟩ := last_at hsplit
  simp only [lastB, Bool.and_eq_true] at hlast
  simp only [placesB, Bool.and_eq_true, decide_eq_true_eq] at hplace
  obtain ⟨hnd, hpos⟩ := hplace
  have hS : ∀ i, i < init.length → S.getD i none = path.findIdx? (· == i) := fun i hi => by
    have := List.all_eq_true.1 hpos i (List.mem_range.2 (by omega))
    simpa using this
  have hat : ∀ i o, init[i]? = some o → ∃ dp g, relyOne ops n i o dp g = true ∧ relyStepP P Q2 T V J a0 w0 o dp g (V.getD i SV.any) (path.findIdx? (· == i)) := fun i o hi => by
    obtain ⟨dp, g, hD, h1⟩ := relyB_at init D 0 i o hB hi
    rw [Nat.zero_add] at h1
    refine ⟨dp, g, h1, ?_⟩
    rw [← hS i (List.getElem?_eq_some_iff.1 hi).1]
    exact relyAllP_at _ _ _ _ i o dp g hA hi hD
  intro fuel
  induction fuel with
  | zero =>
    intro listed a w k hu hun inv _
    have : init.length ∈ unl ops listed := by
      unfold unl; rw [List.mem_filter]; exact ⟨List.mem_range.2 (by omega), by rw [hun]; rfl⟩
    rw [List.eq_nil_of_length_eq_zero hu] at this
    cases this
  | succ fuel ih =>
    intro listed a w k hu hun inv ph
    refine ⟨fun hr => ?_, fun i hi => ?_⟩
    · exfalso
      have all : ∀ i, i < init.length → listed.getD i false = true := fun i => by
        induction i using Nat.strongRecOn with
        | _ i ih =>
          intro hi
          cases hli : listed.getD i false with
          | true => rfl
          | false =>
            exfalso
            have hmem : i ∈ Region.ready .any ops listed := by
              rw [mem_ready]
              refine ⟨getD_in (by rw [inv.size]; omega) hli, init[i], hpre i _ (List.getElem?_eq_getElem hi), fun e he hb => ?_⟩
              obtain ⟨dp, g, h1, _⟩ := hat i init[i] (List.getElem?_eq_getElem hi)
              simp only [relyOne, Bool.and_eq_true] at h1
              have h2 := (Array.all_eq_true_iff_forall_mem.1 h1.1.1.2) e he
              simp only [hb, Bool.not_true, Bool.false_or, decide_eq_true_eq] at h2
              exact ih e.on h2 (by omega)
            rw [hr] at hmem
            cases hmem
      have hmem : init.length ∈ Region.ready .any ops listed := by
        rw [mem_ready]
        refine ⟨hun, last, hlo, fun e he hb => ?_⟩
        have h2 := (Array.all_eq_true_iff_forall_mem.1 hlast.2) e he
        simp only [hb, Bool.not_true, Bool.false_or, decide_eq_true_eq] at h2
        exact all e.on h2
      rw [hr] at hmem
      cases hmem
    · obtain ⟨h0, o, ho, hall⟩ := mem_ready.1 hi
      have hilt := (Array.getElem?_eq_some_iff.1 ho).1
      by_cases him : i = init.length
      · subst him
        have hol : o = last := Option.some.inj (ho.symm.trans hlo)
        subst hol
        have hdone : ∀ (d j : Nat), init.length - j = d → j < init.length → listed.getD j false = true := fun d => by
          induction d using Nat.strongRecOn with
          | _ d ihd =>
            intro j hd hj
            have h1 := List.all_eq_true.1 hlast.1 j (List.mem_range.2 hj)
            obtain ⟨t, ht1, ht2⟩ := List.any_eq_true.1 h1
            simp only [Bool.and_eq_true, decide_eq_true_eq] at ht2
            obtain ⟨ot, hot, e, he, hb, hon⟩ := Region.waitsFor_spec ht2.2
            have htle : t ≤ init.length := by have := List.mem_range.1 ht1; omega
            rw [← hon]
            by_cases htm : t = init.length
            · subst htm
              have : ot = o := Option.some.inj (hot.symm.trans ho)
              subst this
              exact hall e he hb
            · exact inv.closed t ot hot (ihd (init.length - t) (by omega) t rfl (by omega)) e he hb
        replace hdone : ∀ j, j < init.length → listed.getD j false = true := fun j hj => hdone _ j rfl hj
        have hk : k = path.length := by
          rcases Nat.lt_or_ge k path.length with h | h
          · exfalso
            have h1 := ph.left k path[k] (Nat.le_refl _) (List.getElem?_eq_getElem h)
            rw [hdone _ (hpl _ (List.getElem_mem h))] at h1
            cases h1
          · have := ph.le; omega
        subst hk
        have hJ := ph.now
        have h1 : o.wp P a w (fun a' w' => Q .normal a' w') Q := rely_all (Q' := fun a w => o.wp P a w (fun a' w' => Q .normal a' w') Q) inv
          (fun k o hk => ⟨hpre k o hk, hdone k (List.getElem?_eq_some_iff.1 hk).1⟩) (fun j hj => by
            rcases Nat.lt_or_ge j init.length with h | h
            · exact h
            · rcases Nat.eq_or_lt_of_le h with h | h
              · subst h; rw [getD_both hun] at hj; cases hj
              · have : listed.getD j false = false := by simp [Array.getElem?_eq_none (show listed.size ≤ j by rw [inv.size]; omega)]
                rw [this] at hj; cases hj) hl (hE w inv.now hJ)
        have hK : ∀ a' w', Q .normal a' w' → wpAny P .any ops Q fuel (listed.setIfInBounds init.length true) a' w' := fun a' w' h => wpAny_done (ready_none fun j hj => by
          by_cases hj2 : j = init.length
          · subst hj2; simp [show init.length < listed.size by rw [inv.size]; exact hj]
          · exact getD_set_true (hdone j (by omega))) h _
        unfold wpOp
        simp only [hlo, Region.wanted, hg, if_true]
        exact .inl (Oper.wp_mono hK h1)
      · have hi' : i < init.length := by omega
        have hio : init[i]? = some o := by
          have := hpre i init[i] (List.getElem?_eq_getElem hi')
          rw [ho] at this
          rw [List.getElem?_eq_getElem hi', Option.some.inj this]
        obtain ⟨dp, g, h1, hstep⟩ := hat i o hio
        obtain ⟨hfacts, hguard, next⟩ := rely_next hn ht ho h1 h0 hall inv
        have i0 : listed.getD i false = false := getD_both h0
        have hs : if relyGuard g a then o.wp P a w (fun a' w' => wpAny P .any ops Q fuel (listed.setIfInBounds i true) a' w') Q2 else wpAny P .any ops Q fuel (listed.setIfInBounds i true) (a.put o.dst undef) w := by
          cases hf : path.findIdx? (· == i) with
          | none =>
            rw [hf] at hstep
            have hni : i ∉ path := fun hm => by
              rw [List.findIdx?_eq_none_iff] at hf
              have := hf i hm
              simp at this
            exact hstep a w inv.now hfacts (fun a' w' => wpAny P .any ops Q fuel (listed.setIfInBounds i true) a' w') (fun v w' hT hJ hv => ih _ _ w' k (by have := unl_set inv.size h0; omega) (by rw [getD_set_ne true him]; exact hun) (next v w' hT hv) (ph_other ph hni (hJ k ph.now)))
          | some j =>
            rw [hf] at hstep
            have hpj : path[j]? = some i := by
              obtain ⟨h1, h2, _⟩ := List.findIdx?_eq_some_iff_getElem.1 hf
              rw [List.getElem?_eq_getElem h1]
              simpa using h2
            have hkj : k = j := by
              rcases Nat.lt_trichotomy j k with h | h | h
              · have := ph.done j i h hpj
                rw [i0] at this; cases this
              · exact h.symm
              · exfalso
                obtain ⟨j', rfl⟩ : ∃ j', j = j' + 1 := ⟨j - 1, by omega⟩
                have hlj : j' < path.length := by have := (List.getElem?_eq_some_iff.1 hpj).1; omega
                have hw := pathB_at path j' path[j'] i hpath (List.getElem?_eq_getElem hlj) hpj
                obtain ⟨oi, hoi, e, he, hb, hon⟩ := Region.waitsFor_spec hw
                have : oi = o := Option.some.inj (hoi.symm.trans ho)
                subst this
                have h2 := hall e he hb
                rw [hon, ph.left j' _ (by omega) (List.getElem?_eq_getElem hlj)] at h2
                cases h2
            subst hkj
            exact hstep a w inv.now hfacts ph.now (fun a' w' => wpAny P .any ops Q fuel (listed.setIfInBounds i true) a' w') (fun v w' hT hJ hv => ih _ _ w' (k + 1) (by have := unl_set inv.size h0; omega) (by rw [getD_set_ne true him]; exact hun) (next v w' hT hv) (ph_own hnd (by rw [inv.size]; exact hilt) ph hpj hJ))
        unfold wpOp
        simp only [ho, hguard]
        split
        · rename_i hw; rw [if_pos hw] at hs; exact .inl (hQ _ _ _ _ inv.defers hs)
        · rename_i hw; rw [if_neg hw] at hs; exact hs
/-- **A region that draws its order and turns a state step by step.** -/
theorem wp_region_relyQ {id : Nat} {Q2 : Exit → Act → World → Prop} (hQ : ∀ (o : Oper) (a : Act) (w : World) (K : Act → World → Prop), a.defers = a0.defers → o.wp P a w K Q2 → o.wp P a w K Q) (T : World → World → Prop) (J : Nat → World → Prop) (V : List (SV T)) (D : Deps) (S : List (Option Nat)) (path : List Nat) (n : Nat) (hla : ops.toList.getLast? = some last) (hm : P.follows .mixedOrders = true) (hn : a0.tmps.size = n) (hB : relyB ops n 0 ops.toList.dropLast D = true)
    (hlast : lastB ops last ops.toList.dropLast.length = true) (hg : last.guard = none) (hpath : (pathB ops path && placesB path S && decide (S.length = ops.toList.dropLast.length) && path.all fun i => decide (i < ops.toList.dropLast.length)) = true)
    (ht : ∀ a b c : World, T a b → T b c → T a c) (hd : T w0 w0.drew) (hJ : J 0 w0.drew) (hl : ops.toList.dropLast.length ≤ V.length)
    (hA : relyAllP P Q2 T V J a0 w0 ops.toList.dropLast D V S) (hE : ∀ w, T w0 w → J path.length w → relyEnd (fun _ a w => last.wp P a w (fun a' w' => Q .normal a' w') Q) T ops.toList.dropLast V a0 w) : (Code.region id ops true).wp P Q a0 w0 := by
  have hsplit := split_last hla
  obtain ⟨_, hsz, _⟩ := last_at hsplit
  simp only [Bool.and_eq_true, decide_eq_true_eq] at hpath
  obtain ⟨⟨⟨h1, h2⟩, h3⟩, h4⟩ := hpath
  refine wp_region_any hm ?_
  exact wpAny_relyP hQ hsplit hn hB hlast hg ht h1 h2 h3 (fun i hi => by simpa using List.all_eq_true.1 h4 i hi) hl hA hE ops.size _ a0 w0.drew 0 unl_start (by
    have hlt : ops.toList.dropLast.length < ops.size := by omega
    generalize ops.toList.dropLast.length = m at hlt
    simp [hlt]) (rely_start hd) ⟨Nat.zero_le _, fun j i hj => by omega, fun j i _ _ => getD_replicate_false .., hJ⟩
theorem wp_region_relyP {id : Nat} (T : World → World → Prop) (J : Nat → World → Prop) (V : List (SV T)) (D : Deps) (S : List (Option Nat)) (path : List Nat) (n : Nat) (hla : ops.toList.getLast? = some last) (hm : P.follows .mixedOrders = true) (hn : a0.tmps.size = n) (hB : relyB ops n 0 ops.toList.dropLast D = true)
    (hlast : lastB ops last ops.toList.dropLast.length = true) (hg : last.guard = none) (hpath : (pathB ops path && placesB path S && decide (S.length = ops.toList.dropLast.length) && path.all fun i => decide (i < ops.toList.dropLast.length)) = true)
    (ht : ∀ a b c : World, T a b → T b c → T a c) (hd : T w0 w0.drew) (hJ : J 0 w0.drew) (hl : ops.toList.dropLast.length ≤ V.length)
    (hA : relyAllP P Q T V J a0 w0 ops.toList.dropLast D V S) (hE : ∀ w, T w0 w → J path.length w → relyEnd (fun _ a w => last.wp P a w (fun a' w' => Q .normal a' w') Q) T ops.toList.dropLast V a0 w) : (Code.region id ops true).wp P Q a0 w0 :=
  wp_region_relyQ (fun _ _ _ _ _ h => h) T J V D S path n hla hm hn hB hlast hg hpath ht hd hJ hl hA hE
/-- What a panic out of a region may lean on: nothing was deferred since. -/
def Qx (d : List Deferred) (Q : Exit → Act → World → Prop) : Exit → Act → World → Prop
  | .panic ch, a, w => a.defers = d → Q (.panic ch) a w
  | e, a, w => Q e a w
theorem wp_Qx {o : Oper} {a : Act} {w : World} {K : Act → World → Prop} {d : List Deferred} (hd : a.defers = d) (hh : o.wp P a w K (Qx d Q)) : o.wp P a w K Q := by
  unfold Oper.wp at *
  generalize (execOp a.eval o).run P w = r at *
  cases r with
  | ok n w' =>
    cases n <;> simp only [Oper.upon] at hh ⊢ <;>
      first
        | exact hh
        | exact Calls.mono hh (fun e w'' he => by cases e <;> first | exact he hd | exact he)
        | exact Rows.mono hh (fun _ _ he => he)
  | halt x w' => cases x <;> simp only [Oper.upon] at hh ⊢ <;> first | exact hh hd | exact hh
/-- Such a region out of which an operation may panic. -/
theorem wp_region_relyX {id : Nat} (T : World → World → Prop) (J : Nat → World → Prop) (V : List (SV T)) (D : Deps) (S : List (Option Nat)) (path : List Nat) (n : Nat) (hla : ops.toList.getLast? = some last) (hm : P.follows .mixedOrders = true) (hn : a0.tmps.size = n) (hB : relyB ops n 0 ops.toList.dropLast D = true)
    (hlast : lastB ops last ops.toList.dropLast.length = true) (hg : last.guard = none) (hpath : (pathB ops path && placesB path S && decide (S.length = ops.toList.dropLast.length) && path.all fun i => decide (i < ops.toList.dropLast.length)) = true)
    (ht : ∀ a b c : World, T a b → T b c → T a c) (hd : T w0 w0.drew) (hJ : J 0 w0.drew) (hl : ops.toList.dropLast.length ≤ V.length)
    (hA : relyAllP P (Qx a0.defers Q) T V J a0 w0 ops.toList.dropLast D V S) (hE : ∀ w, T w0 w → J path.length w → relyEnd (fun _ a w => last.wp P a w (fun a' w' => Q .normal a' w') Q) T ops.toList.dropLast V a0 w) : (Code.region id ops true).wp P Q a0 w0 :=
  wp_region_relyQ (fun _ _ _ _ hd h => wp_Qx hd h) T J V D S path n hla hm hn hB hlast hg hpath ht hd hJ hl hA hE
end
end Go.Proofs.Ytenmoljaeeeaaaa
/- DiskActs, walked. -/
namespace Go.Proofs.Ytenmoljaeeeaaaa
open Go Go.RowKit
set_option maxRecDepth 8000
set_option linter.all false
theorem acts_cell {w w' : World} {A : Option Addr} {n c : Nat} {l : List (Int × Int × List UInt8)} (h : ActsAt w (.slice A n c) l) (hN : NewT w w') {k : Nat} {kd m : Int} {B : List UInt8} (hx : l[k]? = some (kd, m, B)) :
    ∃ b o u, A = some ⟨b, o, none⟩ ∧ w'.cell? ⟨b, o + k * 3, none⟩ = some (.int .i64 kd) ∧ w'.cell? ⟨b, o + k * 3 + 1, none⟩ = some (.int .i64 m) ∧ w'.cell? ⟨b, o + k * 3 + 2, none⟩ = some u ∧ RdV w [] u B := by
  obtain ⟨A', c', hv, _, _, h3⟩ := h
  cases hv
  have hk := (List.getElem?_eq_some_iff.1 hx).1
  obtain ⟨b, o, hA, hc⟩ := h3 (by omega)
  obtain ⟨h1, h2, u, h4, h5⟩ := hc k _ hx
  have hb : b < w.heap.size := World.block_lt_of_cell? _ _ h1
  exact ⟨b, o, u, hA, cell_new hN hb h1, cell_new hN hb h2, cell_new hN hb h4, h5⟩
theorem ActsAt.new {w w' : World} {v : Value} {l : List (Int × Int × List UInt8)} (h : ActsAt w v l) (hN : NewT w w') : ActsAt w' v l := by
  obtain ⟨A, c, hv, h1, h2, h3⟩ := h
  refine ⟨A, c, hv, h1, h2, fun h0 => ?_⟩
  obtain ⟨b, o, hA, hc⟩ := h3 h0
  refine ⟨b, o, hA, fun i x hx => ?_⟩
  obtain ⟨k1, k2, u, k3, k4⟩ := hc i x hx
  have hb : b < w.heap.size := World.block_lt_of_cell? _ _ k1
  exact ⟨cell_new hN hb k1, cell_new hN hb k2, u, cell_new hN hb k3, hN.rd k4⟩
theorem few_of {l : List (Int × Int × List UInt8)} (h : fewB l = true) : l.length ≤ 60 ∧ ∀ x ∈ l, x.2.2.length ≤ 200 := by
  unfold fewB at h
  rw [Bool.and_eq_true, List.all_eq_true] at h
  exact ⟨of_decide_eq_true h.1, fun x hx => of_decide_eq_true (h.2 x hx)⟩
/-- A statement at a block's end: what follows is what follows the block. -/
theorem wp_unblock {P : Program} {s : Code} {id : Nat} {K : Act → World → Prop} {Q : Exit → Act → World → Prop} {a : Act} {w : World} (h : s.wp P (Exit.then K (Exit.inBlock id (Exit.then K Q))) a w) : s.wp P (Exit.inBlock id (Exit.then K Q)) a w :=
  wp_mono h fun e a w hq => by cases e <;> exact hq
theorem DBytes_rd (g : Nat) (v : Value) (room : Nat) (S : List UInt8) (n : Nat) (w : World) (h : DiskAt w g v room S n) : Cv 15 #[.pointer (some ⟨g, 0, none⟩)] w (svRd S) :=
  Calls.mono (DBytes_c g v room S n w h) fun _ _ ⟨v, he, hN, hv⟩ => ⟨v, he, hN, FreshB.rd hv⟩
theorem RBytes_rd (g : Nat) (M : List Nat) (vd vl : Value) (z : Nat) (D L S : List UInt8) (w : World) (h : RefAt w g M vd vl z D L) (e : D ++ L = S) : Cv 23 #[.pointer (some ⟨g, 0, none⟩)] w (svRd S) := by
  subst e
  exact Calls.mono (RBytes_cv g M vd vl z D L w h) fun _ _ ⟨v, he, hN, hv⟩ => ⟨v, he, hN, FreshB.rd hv⟩
theorem Bytes_same (v1 v2 : Value) (l : List UInt8) (w : World) (h1 : RdV w [] v1 l) (h2 : RdV w [] v2 l) (hl : l.length ≤ 65536) : Cv 22 #[v1, v2] w (.eq (.bool true)) := by
  have := Bytes_cv v1 v2 l l w h1 h2 (by omega) (by omega)
  rwa [show decide (l = l) = true by simp] at this
section
variable {a : Act} {w : World} {o : Oper} {K : Act → World → Prop} {Q : Exit → Act → World → Prop} {x y : Operand} {g : Nat}
theorem opr_fldA0 (ho : o.op = .fieldAddr 38 x 0) (hx : a.eval x = .pointer (some ⟨g, 0, none⟩)) (h : K (a.put o.dst (.pointer (some ⟨g, 0, none⟩))) w) : o.wp Try.prog a w K Q :=
  opr_fld Try.underlying38 rfl info_int ho hx (by rfl) h
theorem opr_fldA1 (ho : o.op = .fieldAddr 38 x 1) (hx : a.eval x = .pointer (some ⟨g, 0, none⟩)) (h : K (a.put o.dst (.pointer (some ⟨g, 1, none⟩))) w) : o.wp Try.prog a w K Q :=
  opr_fld Try.underlying38 rfl info_int ho hx (by rfl) h
theorem opr_fldA2 (ho : o.op = .fieldAddr 38 x 2) (hx : a.eval x = .pointer (some ⟨g, 0, none⟩)) (h : K (a.put o.dst (.pointer (some ⟨g, 2, none⟩))) w) : o.wp Try.prog a w K Q :=
  opr_fld Try.underlying38 rfl info_sb1 ho hx (by rfl) h
end
/-- How two disks stand in a region that calls the one, then the other. -/
def JX (gd g x B room : Nat) (S : List UInt8) (n : Nat) (D L S1 : List UInt8) (n1 : Nat) (D1 L1 : List UInt8) (k : Nat) (w : World) : Prop :=
  (k = 0 → StX gd g x B room S n D L w) ∧ (k = 1 → StX gd g x B room S1 n1 D L w) ∧ (k = 2 → StX gd g x B room S1 n1 D1 L1 w)
theorem JX.new {gd g x B room : Nat} {S : List UInt8} {n : Nat} {D L S1 : List UInt8} {n1 : Nat} {D1 L1 : List UInt8} {k : Nat} {w w' : World} (h : JX gd g x B room S n D L S1 n1 D1 L1 k w) (hN : NewT w w') : JX gd g x B room S n D L S1 n1 D1 L1 k w' :=
  ⟨fun e => (h.1 e).new hN, fun e => (h.2.1 e).new hN, fun e => (h.2.2 e).new hN⟩
/-- Crash, of the program's disk and of the reference's. -/
theorem crash_same (D L : List UInt8) (k : Int) : (D ++ L).take (crashN k D.length (D ++ L).length) = D ++ L.take k.toNat ∧ crashN k D.length (D ++ L).length = (D ++ L.take k.toNat).length := by
  unfold crashN
  have e : D.length + min k.toNat ((D ++ L).length - D.length) = D.length + min k.toNat L.length := by simp
  rw [e]
  constructor
  · rw [List.take_append, List.take_of_length_le (by omega), Nat.add_sub_cancel_left]
    congr 1
    rcases Nat.le_total k.toNat L.length with h | h
    · rw [Nat.min_eq_left h]
    · rw [Nat.min_eq_right h, List.take_length, List.take_of_length_le h]
  · simp
theorem wr_same (r m : Nat) (D L B : List UInt8) : wrL r m (D ++ L) B = D ++ wrL r m L B := by
  unfold wrL; split <;> simp
theorem ct_same {gd g room : Nat} {D L : List UInt8} {n : Int} {w : World} (h : St gd g room (ctL (D ++ L) n (D ++ L) ((D ++ L).take n.toNat)) (ctL (D ++ L) n D.length n.toNat) (ctL (D ++ L) n D ((D ++ L).take n.toNat)) (ctL (D ++ L) n L []) w) :
    St gd g room (ctL (D ++ L) n D ((D ++ L).take n.toNat) ++ ctL (D ++ L) n L []) (ctL (D ++ L) n D ((D ++ L).take n.toNat)).length (ctL (D ++ L) n D ((D ++ L).take n.toNat)) (ctL (D ++ L) n L []) w := by
  unfold ctL at h ⊢
  by_cases hn : n < 0 ∨ ((D ++ L).length : Int) < n
  · simp only [if_pos hn] at h ⊢; exact h
  · simp only [if_neg hn] at h ⊢
    rw [List.append_nil, show ((D ++ L).take n.toNat).length = n.toNat by rw [List.length_take]; omega]
    exact h
theorem sub_len {r m : Nat} (h : m ≤ r) (hr : r ≤ 65536) : wrap64 ((r : Int) - (m : Int)) = ((r - m : Nat) : Int) := by unfold wrap64; omega
/-- A value of the frame that is known is moved. -/
theorem opr_moveV {P : Program} {a : Act} {w : World} {o : Oper} {K : Act → World → Prop} {Q : Exit → Act → World → Prop} {x : Operand} {v : Value} (ho : o.op = .move x ∨ o.op = .assign x) (hv : a.eval x = v) (h : K (a.put o.dst v) w) : o.wp P a w K Q := by
  subst hv; exact opr_move ho h
/-- An act's three cells. -/
def acF (kd n : Int) (u : Value) (i : Nat) : Value := if i = 0 then .int .i64 kd else if i = 1 then .int .i64 n else u
set_option maxRecDepth 20000 in
set_option maxHeartbeats 2000000 in
theorem DiskActs_walk (room : Int) (v : Value) (l : List (Int × Int × List UInt8)) (w : World) (h : ActsAt w v l) : Calls Try.prog 3 #[.int .i64 room, v] w fun e w' => e = .returned (.bool true) ∧ Below w.heap.size w w' := by
  have HA := Lib.hid h
  obtain ⟨A, c, rfl, _⟩ := h
  obtain ⟨fb, hfb⟩ := hid_ex (fewB l)
  cases fb with
  | false =>
    go_enter Try.func3, Try.ntmps3
    go_wp2_with (first
      | (go_at_call 8; refine (alive8_c w).eq.mono ?_; rintro _ w1 ⟨rfl, hN1⟩; have N1 : Hid (NewT w w1) := Lib.hid hN1; have HA1 : Hid (ActsAt w1 _ l) := Lib.hid (HA.out.new hN1); clear hN1)
      | (go_at_call 9; refine (few_cv _ l w1 HA1.out).eq.mono ?_; rw [hfb.out]; rintro _ w2 ⟨rfl, hN2⟩))
    go_ret
    exact ⟨rfl, NewT.trans _ _ _ N1.out hN2⟩
  | true =>
    by_cases hr : room < 1 ∨ 65536 < room
    · by_cases r1 : room < 1
      · go_enter Try.func3, Try.ntmps3
        go_wp2_with (first
          | (go_at_call 8; refine (alive8_c w).eq.mono ?_; rintro _ w1 ⟨rfl, hN1⟩; have N1 : Hid (NewT w w1) := Lib.hid hN1; have HA1 : Hid (ActsAt w1 _ l) := Lib.hid (HA.out.new hN1); clear hN1)
          | (go_at_call 9; refine (few_cv _ l w1 HA1.out).eq.mono ?_; rw [hfb.out]; rintro _ w2 ⟨rfl, hN2⟩; have N2 : Hid (NewT w w2) := Lib.hid (NewT.trans _ _ _ N1.out hN2); clear hN2)
          | (go_at_call 10; refine (New_none room hr w2).eq.mono ?_; rintro _ w3 ⟨rfl, hN⟩; have N3 : Hid (NewT w w3) := Lib.hid (NewT.trans _ _ _ N2.out hN); clear hN)
          | (go_at_call 11; refine (Sync_nil _).eq.mono ?_; rintro _ w4 ⟨rfl, hN⟩; have N4 : Hid (NewT w w4) := Lib.hid (NewT.trans _ _ _ N3.out hN); clear hN)
          | (go_at_call 12; refine (Crash_nil 1 _).eq.mono ?_; rintro _ w5 ⟨rfl, hN⟩; have N5 : Hid (NewT w w5) := Lib.hid (NewT.trans _ _ _ N4.out hN); clear hN)
          | (go_at_call 13; refine (Write_nil _ _).eq.mono ?_; rintro _ w6 ⟨rfl, hN⟩; have N6 : Hid (NewT w w6) := Lib.hid (NewT.trans _ _ _ N5.out hN); clear hN)
          | (go_at_call 14; refine (Cut_nil 0 _).eq.mono ?_; rintro _ w7 ⟨rfl, hN⟩; have N7 : Hid (NewT w w7) := Lib.hid (NewT.trans _ _ _ N6.out hN); clear hN)
          | (go_at_call 15; refine (Bytes_nil _).eq.mono ?_; rintro _ w8 ⟨rfl, hN⟩; have N8 : Hid (NewT w w8) := Lib.hid (NewT.trans _ _ _ N7.out hN); clear hN)
          | (go_at_call 16; refine (Lasts_nil _).eq.mono ?_; rintro _ w9 ⟨rfl, hN⟩; have N9 : Hid (NewT w w9) := Lib.hid (NewT.trans _ _ _ N8.out hN); clear hN)
          | (go_at_call 17; refine (Room_nil _).eq.mono ?_; rintro _ wa ⟨rfl, hN⟩; have NA : Hid (NewT w wa) := Lib.hid (NewT.trans _ _ _ N9.out hN); clear hN))
        go_ret
        exact ⟨rfl, NA.out⟩
      · have r2 : 65536 < room := by omega
        go_enter Try.func3, Try.ntmps3
        go_wp2_with (first
          | (go_at_call 8; refine (alive8_c w).eq.mono ?_; rintro _ w1 ⟨rfl, hN1⟩; have N1 : Hid (NewT w w1) := Lib.hid hN1; have HA1 : Hid (ActsAt w1 _ l) := Lib.hid (HA.out.new hN1); clear hN1)
          | (go_at_call 9; refine (few_cv _ l w1 HA1.out).eq.mono ?_; rw [hfb.out]; rintro _ w2 ⟨rfl, hN2⟩; have N2 : Hid (NewT w w2) := Lib.hid (NewT.trans _ _ _ N1.out hN2); clear hN2)
          | (go_at_call 10; refine (New_none room hr w2).eq.mono ?_; rintro _ w3 ⟨rfl, hN⟩; have N3 : Hid (NewT w w3) := Lib.hid (NewT.trans _ _ _ N2.out hN); clear hN)
          | (go_at_call 11; refine (Sync_nil _).eq.mono ?_; rintro _ w4 ⟨rfl, hN⟩; have N4 : Hid (NewT w w4) := Lib.hid (NewT.trans _ _ _ N3.out hN); clear hN)
          | (go_at_call 12; refine (Crash_nil 1 _).eq.mono ?_; rintro _ w5 ⟨rfl, hN⟩; have N5 : Hid (NewT w w5) := Lib.hid (NewT.trans _ _ _ N4.out hN); clear hN)
          | (go_at_call 13; refine (Write_nil _ _).eq.mono ?_; rintro _ w6 ⟨rfl, hN⟩; have N6 : Hid (NewT w w6) := Lib.hid (NewT.trans _ _ _ N5.out hN); clear hN)
          | (go_at_call 14; refine (Cut_nil 0 _).eq.mono ?_; rintro _ w7 ⟨rfl, hN⟩; have N7 : Hid (NewT w w7) := Lib.hid (NewT.trans _ _ _ N6.out hN); clear hN)
          | (go_at_call 15; refine (Bytes_nil _).eq.mono ?_; rintro _ w8 ⟨rfl, hN⟩; have N8 : Hid (NewT w w8) := Lib.hid (NewT.trans _ _ _ N7.out hN); clear hN)
          | (go_at_call 16; refine (Lasts_nil _).eq.mono ?_; rintro _ w9 ⟨rfl, hN⟩; have N9 : Hid (NewT w w9) := Lib.hid (NewT.trans _ _ _ N8.out hN); clear hN)
          | (go_at_call 17; refine (Room_nil _).eq.mono ?_; rintro _ wa ⟨rfl, hN⟩; have NA : Hid (NewT w wa) := Lib.hid (NewT.trans _ _ _ N9.out hN); clear hN))
        go_ret
        exact ⟨rfl, NA.out⟩
    · obtain ⟨r, rfl⟩ : ∃ r : Nat, room = r := ⟨room.toNat, by omega⟩
      have bnd : Hid (1 ≤ r ∧ r ≤ 65536) := Lib.hid (by omega)
      have r1 : ¬ (r : Int) < 1 := by omega
      have r2 : ¬ 65536 < (r : Int) := by omega
      have hlen : Hid (l.length ≤ 60 ∧ ∀ x ∈ l, x.2.2.length ≤ 200) := Lib.hid (few_of hfb.out)
      have hl60 : l.length ≤ 60 := hlen.out.1
      clear hr
      go_enter Try.func3, Try.ntmps3
      go_wp2_with (first
        | (go_at_call 8; refine (alive8_c w).eq.mono ?_; rintro _ w1 ⟨rfl, hN1⟩; have N1 : Hid (NewT w w1) := Lib.hid hN1; have HA1 : Hid (ActsAt w1 _ l) := Lib.hid (HA.out.new hN1); clear hN1)
        | (go_at_call 9; refine (few_cv _ l w1 HA1.out).eq.mono ?_; rw [hfb.out]; rintro _ w2 ⟨rfl, hN2⟩; have N2 : Hid (NewT w w2) := Lib.hid (NewT.trans _ _ _ N1.out hN2); have Q2 := Lib.hid N2.out.out.size; clear hN2)
        | (go_at_call 10; refine (New_c r bnd.out.1 bnd.out.2 w2).mono ?_; rintro _ w3 ⟨rfl, hN, hD⟩; have H3 := Lib.hid hD; have N3 : Hid (NewT w w3) := Lib.hid (NewT.trans _ _ _ N2.out hN); have HQ : Hid (w2.heap.size ≤ w3.heap.size) := Lib.hid hN.out.size; clear hN hD))
      go_loopw [7] (fun i wr => ∃ (k : Nat) (D L : List UInt8), k ≤ l.length ∧ i = .int .i64 (k : Int) ∧ Hid (St w2.heap.size w3.heap.size r (D ++ L) D.length D L wr) ∧ Hid (NewT w wr)) (fun i _ => l.length - (intOf i).toNat)
      case atStart =>
        refine ⟨0, [], [], by omega, rfl, Lib.hid ?_, Lib.hid (NewT.trans _ _ _ N3.out (NewT.alloc _ _))⟩
        have hl := H3.out.lt
        refine ⟨_, .slice none 0 0, .slice none 0 0, H3.out.new (NewT.alloc _ _), ⟨rowIs_box w3 36 3 (rdF (.slice none 0 0) (.slice none 0 0) r), rdV_nil _ _, rdV_nil _ _, by simp, bnd.out.2⟩, by simp [Value.ownBlock]; omega⟩
      case round =>
        obtain ⟨k, D, L, hk, rfl, HS, HN⟩ := hrel
        by_cases hlt : k < l.length
        · have it : (k : Int) < (l.length : Int) := by omega
          obtain ⟨⟨kd, n, B⟩, hx⟩ : ∃ x, l[k]? = some x := ⟨_, List.getElem?_eq_getElem hlt⟩
          have hB : Hid (B.length ≤ 200) := Lib.hid (hlen.out.2 _ (List.mem_of_getElem? hx))
          obtain ⟨b, o, u, rfl, c0, c1, c2, hu⟩ := acts_cell HA.out HN.out hx
          obtain ⟨A2, k2, rfl⟩ := rdV_form hu
          have HU := Lib.hid hu
          clear hu hx
          have HX : Hid (StX w2.heap.size w3.heap.size wr.heap.size w2.heap.size r (D ++ L) D.length D L (wr.alloc (.cells #[.int .i64 kd, .int .i64 n, .slice A2 B.length k2] 38))) := Lib.hid (HS.out.beside (Nat.le_refl _) HQ.out (NewT.alloc _ _) (by simp))
          have HR : Hid ((wr.alloc (.cells #[.int .i64 kd, .int .i64 n, .slice A2 B.length k2] 38)).rowIs wr.heap.size 38 3 (acF kd n (.slice A2 B.length k2))) := Lib.hid (rowIs_box wr 38 3 (acF kd n (.slice A2 B.length k2)))
          have HNa : Hid (NewT w (wr.alloc (.cells #[.int .i64 kd, .int .i64 n, .slice A2 B.length k2] 38))) := Lib.hid (NewT.trans _ _ _ HN.out (NewT.alloc _ _))
          go_upto_if 66 with fail
          clear c0 c1 c2
          generalize wr.alloc (.cells #[.int .i64 kd, .int .i64 n, .slice A2 B.length k2] 38) = wa at *
          refine wp_unblock ?_
          go_cut [9] from 54 (fun v wc => v = .bool true ∧ ∃ D' L', Hid (St w2.heap.size w3.heap.size r (D' ++ L') D'.length D' L' wc) ∧ Hid (NewT w wc))
          case rest =>
            clear HS HX HR HNa HU HN
            obtain ⟨rfl, D', L', HS, HN⟩ := hcut
            obtain ⟨S, hS⟩ := hid_ex (D' ++ L')
            have hst := HS.out
            rw [hS.out] at hst
            obtain ⟨v, vd, vl, h1, h2, h3⟩ := hst
            have HD := Lib.hid h1
            have HF := Lib.hid h2
            have HLn : Hid (S.length ≤ 65536 ∧ S.length ≤ r) := Lib.hid (by have := h1.fits; have := h1.room2; omega)
            clear h1 h2 h3
            go_upto_region 27 with fail
            refine wp_region_rely (NewT) [SV.eq (.bool true), SV.eq (.bool false), SV.eq (.bool false), SV.eq (.pointer (some ⟨w2.heap.size, 0, none⟩)), svRd (S), SV.eq (.pointer (some ⟨w3.heap.size, 0, none⟩)), svRd (S), SV.eq (.bool true), SV.eq (.bool false), SV.eq (.bool false), SV.eq (.bool false), SV.eq (.pointer (some ⟨w2.heap.size, 0, none⟩)), SV.eq (.int .i64 ((D'.length : Int))), SV.eq (.pointer (some ⟨w3.heap.size, 0, none⟩)), SV.eq (.pointer (some ⟨w3.heap.size, 0, none⟩)), SV.eq (.pointer (some ⟨w3.heap.size, 0, none⟩)), SV.eq (vd), SV.eq (.int .i64 ((List.length (D') : Int))), SV.eq (.bool false), SV.eq (.bool false), SV.eq (.bool false), SV.eq (.pointer (some ⟨w2.heap.size, 0, none⟩)), SV.eq (.int .i64 (((r - S.length : Nat) : Int))), SV.eq (.int .i64 ((r : Int))), SV.eq (.pointer (some ⟨w3.heap.size, 0, none⟩)), svRd (S), SV.eq (.int .i64 ((List.length (S) : Int))), SV.eq (.int .i64 (((r - S.length : Nat) : Int))), SV.eq (.bool false)] [([(9, none)], none), ([(104, some 0)], none), ([(105, some 1)], none), ([(5, none), (106, some 2)], some (106, false)), ([(107, some 3), (106, some 2)], some (106, false)), ([(6, none), (106, some 2)], some (106, false)), ([(109, some 5), (106, some 2)], some (106, false)), ([(108, some 4), (110, some 6), (106, some 2)], some (106, false)), ([(111, some 7), (106, some 2)], some (106, false)), ([(106, some 2), (112, some 8)], none), ([(113, some 9)], none), ([(5, none), (114, some 10)], some (114, false)), ([(115, some 11), (114, some 10)], some (114, false)), ([(6, none), (114, some 10)], some (114, false)), ([(117, some 13), (114, some 10)], some (114, false)), ([(118, some 14), (114, some 10)], some (114, false)), ([(119, some 15), (114, some 10)], some (114, false)), ([(120, some 16), (114, some 10)], some (114, false)), ([(116, some 12), (121, some 17), (114, some 10)], some (114, false)), ([(114, some 10), (122, some 18)], none), ([(123, some 19)], none), ([(5, none), (124, some 20)], some (124, false)), ([(125, some 21), (124, some 20)], some (124, false)), ([(0, none), (124, some 20)], some (124, false)), ([(6, none), (124, some 20)], some (124, false)), ([(128, some 24), (124, some 20)], some (124, false)), ([(129, some 25), (124, some 20)], some (124, false)), ([(127, some 23), (130, some 26), (124, some 20)], some (124, false)), ([(126, some 22), (131, some 27), (124, some 20)], some (124, false))] 134 rfl (by kernel_rfl) rfl (by kernel_rfl) (by kernel_rfl) rfl NewT.trans (NewT.drew _) (Nat.le_of_ble_eq_true rfl) ⟨?_, ?_, ?_, ?_, ?_, ?_, ?_, ?_, ?_, ?_, ?_, ?_, ?_, ?_, ?_, ?_, ?_, ?_, ?_, ?_, ?_, ?_, ?_, ?_, ?_, ?_, ?_, ?_, ?_, trivial⟩ ?_
            · intro a wx hT hF K hK
              obtain ⟨f9, _⟩ := hF
              have f9 : a.tmps.getD 9 undef = .bool true := f9
              refine rely_wp rfl ?_
              exact opr_move (.inl rfl) (hK _ _ (NewT.refl _) f9)
            · intro a wx hT hF K hK
              obtain ⟨f104, _⟩ := hF
              have f104 : a.tmps.getD 104 undef = .bool true := f104
              refine rely_wp rfl ?_
              exact opr_not rfl f104 (hK _ _ (NewT.refl _) rfl)
            · intro a wx hT hF K hK
              obtain ⟨f105, _⟩ := hF
              have f105 : a.tmps.getD 105 undef = .bool false := f105
              refine rely_wp rfl ?_
              exact opr_move (.inl rfl) (hK _ _ (NewT.refl _) f105)
            · intro a wx hT hF K hK
              obtain ⟨f5, f106, _⟩ := hF
              have f5 : a.tmps.getD 5 undef = .pointer (some ⟨w2.heap.size, 0, none⟩) := f5
              have f106 : a.tmps.getD 106 undef = .bool false := f106
              refine rely_wp (rely_guard f106) ?_
              exact opr_move (.inl rfl) (hK _ _ (NewT.refl _) f5)
            · intro a wx hT hF K hK
              obtain ⟨f107, f106, _⟩ := hF
              have f107 : a.tmps.getD 107 undef = .pointer (some ⟨w2.heap.size, 0, none⟩) := f107
              have f106 : a.tmps.getD 106 undef = .bool false := f106
              refine rely_wp (rely_guard f106) ?_
              exact opr_cv (DBytes_rd _ _ _ _ _ wx (HD.out.new hT)) rfl Try.func15 (by kernel_rfl) (by kernel_rfl) (by simp only [List.map_toArray, List.map_cons, List.map_nil, eval_tmp, f107]) hK
            · intro a wx hT hF K hK
              obtain ⟨f6, f106, _⟩ := hF
              have f6 : a.tmps.getD 6 undef = .pointer (some ⟨w3.heap.size, 0, none⟩) := f6
              have f106 : a.tmps.getD 106 undef = .bool false := f106
              refine rely_wp (rely_guard f106) ?_
              exact opr_move (.inl rfl) (hK _ _ (NewT.refl _) f6)
            · intro a wx hT hF K hK
              obtain ⟨f109, f106, _⟩ := hF
              have f109 : a.tmps.getD 109 undef = .pointer (some ⟨w3.heap.size, 0, none⟩) := f109
              have f106 : a.tmps.getD 106 undef = .bool false := f106
              refine rely_wp (rely_guard f106) ?_
              exact opr_cv (RBytes_rd _ _ _ _ _ D' L' S wx (HF.out.new hT) hS.out) rfl Try.func23 (by kernel_rfl) (by kernel_rfl) (by simp only [List.map_toArray, List.map_cons, List.map_nil, eval_tmp, f109]) hK
            · intro a wx hT hF K hK
              obtain ⟨f108, f110, f106, _⟩ := hF
              replace f108 := show (svRd (S)).pred (a.tmps.getD 108 undef) wx from f108
              replace f110 := show (svRd (S)).pred (a.tmps.getD 110 undef) wx from f110
              have f106 : a.tmps.getD 106 undef = .bool false := f106
              refine rely_wp (rely_guard f106) ?_
              exact opr_cv (Bytes_same _ _ S wx f108 f110 HLn.out.1) rfl Try.func22 (by kernel_rfl) (by kernel_rfl) (by simp only [List.map_toArray, List.map_cons, List.map_nil, eval_tmp]) hK
            · intro a wx hT hF K hK
              obtain ⟨f111, f106, _⟩ := hF
              have f111 : a.tmps.getD 111 undef = .bool true := f111
              have f106 : a.tmps.getD 106 undef = .bool false := f106
              refine rely_wp (rely_guard f106) ?_
              exact opr_not rfl f111 (hK _ _ (NewT.refl _) rfl)
            · intro a wx hT hF K hK
              obtain ⟨f106, f112, _⟩ := hF
              have f106 : a.tmps.getD 106 undef = .bool false := f106
              have f112 : a.tmps.getD 112 undef = .bool false := f112
              refine rely_wp rfl ?_
              exact opr_pick_false rfl f106 (hK _ _ (NewT.refl _) f112)
            · intro a wx hT hF K hK
              obtain ⟨f113, _⟩ := hF
              have f113 : a.tmps.getD 113 undef = .bool false := f113
              refine rely_wp rfl ?_
              exact opr_move (.inl rfl) (hK _ _ (NewT.refl _) f113)
            · intro a wx hT hF K hK
              obtain ⟨f5, f114, _⟩ := hF
              have f5 : a.tmps.getD 5 undef = .pointer (some ⟨w2.heap.size, 0, none⟩) := f5
              have f114 : a.tmps.getD 114 undef = .bool false := f114
              refine rely_wp (rely_guard f114) ?_
              exact opr_move (.inl rfl) (hK _ _ (NewT.refl _) f5)
            · intro a wx hT hF K hK
              obtain ⟨f115, f114, _⟩ := hF
              have f115 : a.tmps.getD 115 undef = .pointer (some ⟨w2.heap.size, 0, none⟩) := f115
              have f114 : a.tmps.getD 114 undef = .bool false := f114
              refine rely_wp (rely_guard f114) ?_
              exact opr_cv (Lasts_c _ _ _ _ _ wx (HD.out.new hT)) rfl Try.func16 (by kernel_rfl) (by kernel_rfl) (by simp only [List.map_toArray, List.map_cons, List.map_nil, eval_tmp, f115]) hK
            · intro a wx hT hF K hK
              obtain ⟨f6, f114, _⟩ := hF
              have f6 : a.tmps.getD 6 undef = .pointer (some ⟨w3.heap.size, 0, none⟩) := f6
              have f114 : a.tmps.getD 114 undef = .bool false := f114
              refine rely_wp (rely_guard f114) ?_
              exact opr_move (.inl rfl) (hK _ _ (NewT.refl _) f6)
            · intro a wx hT hF K hK
              obtain ⟨f117, f114, _⟩ := hF
              have f117 : a.tmps.getD 117 undef = .pointer (some ⟨w3.heap.size, 0, none⟩) := f117
              have f114 : a.tmps.getD 114 undef = .bool false := f114
              refine rely_wp (rely_guard f114) ?_
              exact opr_nilc rfl f117 (hK _ _ (NewT.refl _) rfl)
            · intro a wx hT hF K hK
              obtain ⟨f118, f114, _⟩ := hF
              have f118 : a.tmps.getD 118 undef = .pointer (some ⟨w3.heap.size, 0, none⟩) := f118
              have f114 : a.tmps.getD 114 undef = .bool false := f114
              refine rely_wp (rely_guard f114) ?_
              exact opr_fldD0 rfl f118 (hK _ _ (NewT.refl _) rfl)
            · intro a wx hT hF K hK
              obtain ⟨f119, f114, _⟩ := hF
              have f119 : a.tmps.getD 119 undef = .pointer (some ⟨w3.heap.size, 0, none⟩) := f119
              have f114 : a.tmps.getD 114 undef = .bool false := f114
              refine rely_wp (rely_guard f114) ?_
              exact opr_ldB (hT.row HF.out.row) (by decide) rfl rfl f119 (hK _ _ (NewT.refl _) rfl)
            · intro a wx hT hF K hK
              obtain ⟨f120, f114, _⟩ := hF
              have f120 : a.tmps.getD 120 undef = vd := f120
              have f114 : a.tmps.getD 114 undef = .bool false := f114
              refine rely_wp (rely_guard f114) ?_
              exact opr_len_rd rfl (by rw [eval_tmp, f120]; exact (hT.rd HF.out.done)) (hK _ _ (NewT.refl _) rfl)
            · intro a wx hT hF K hK
              obtain ⟨f116, f121, f114, _⟩ := hF
              have f116 : a.tmps.getD 116 undef = .int .i64 ((D'.length : Int)) := f116
              have f121 : a.tmps.getD 121 undef = .int .i64 ((List.length (D') : Int)) := f121
              have f114 : a.tmps.getD 114 undef = .bool false := f114
              refine rely_wp (rely_guard f114) ?_
              exact opr_cmp (b := false) (.inr (.inl ⟨rfl, (by simp)⟩)) Try.underlying3 rfl f116 f121 (hK _ _ (NewT.refl _) rfl)
            · intro a wx hT hF K hK
              obtain ⟨f114, f122, _⟩ := hF
              have f114 : a.tmps.getD 114 undef = .bool false := f114
              have f122 : a.tmps.getD 122 undef = .bool false := f122
              refine rely_wp rfl ?_
              exact opr_pick_false rfl f114 (hK _ _ (NewT.refl _) f122)
            · intro a wx hT hF K hK
              obtain ⟨f123, _⟩ := hF
              have f123 : a.tmps.getD 123 undef = .bool false := f123
              refine rely_wp rfl ?_
              exact opr_move (.inl rfl) (hK _ _ (NewT.refl _) f123)
            · intro a wx hT hF K hK
              obtain ⟨f5, f124, _⟩ := hF
              have f5 : a.tmps.getD 5 undef = .pointer (some ⟨w2.heap.size, 0, none⟩) := f5
              have f124 : a.tmps.getD 124 undef = .bool false := f124
              refine rely_wp (rely_guard f124) ?_
              exact opr_move (.inl rfl) (hK _ _ (NewT.refl _) f5)
            · intro a wx hT hF K hK
              obtain ⟨f125, f124, _⟩ := hF
              have f125 : a.tmps.getD 125 undef = .pointer (some ⟨w2.heap.size, 0, none⟩) := f125
              have f124 : a.tmps.getD 124 undef = .bool false := f124
              refine rely_wp (rely_guard f124) ?_
              exact opr_cv (Room_c _ _ _ _ _ wx (HD.out.new hT)) rfl Try.func17 (by kernel_rfl) (by kernel_rfl) (by simp only [List.map_toArray, List.map_cons, List.map_nil, eval_tmp, f125]) hK
            · intro a wx hT hF K hK
              obtain ⟨f0, f124, _⟩ := hF
              have f0 : a.tmps.getD 0 undef = .int .i64 ((r : Int)) := f0
              have f124 : a.tmps.getD 124 undef = .bool false := f124
              refine rely_wp (rely_guard f124) ?_
              exact opr_move (.inl rfl) (hK _ _ (NewT.refl _) f0)
            · intro a wx hT hF K hK
              obtain ⟨f6, f124, _⟩ := hF
              have f6 : a.tmps.getD 6 undef = .pointer (some ⟨w3.heap.size, 0, none⟩) := f6
              have f124 : a.tmps.getD 124 undef = .bool false := f124
              refine rely_wp (rely_guard f124) ?_
              exact opr_move (.inl rfl) (hK _ _ (NewT.refl _) f6)
            · intro a wx hT hF K hK
              obtain ⟨f128, f124, _⟩ := hF
              have f128 : a.tmps.getD 128 undef = .pointer (some ⟨w3.heap.size, 0, none⟩) := f128
              have f124 : a.tmps.getD 124 undef = .bool false := f124
              refine rely_wp (rely_guard f124) ?_
              exact opr_cv (RBytes_rd _ _ _ _ _ D' L' S wx (HF.out.new hT) hS.out) rfl Try.func23 (by kernel_rfl) (by kernel_rfl) (by simp only [List.map_toArray, List.map_cons, List.map_nil, eval_tmp, f128]) hK
            · intro a wx hT hF K hK
              obtain ⟨f129, f124, _⟩ := hF
              replace f129 := show (svRd (S)).pred (a.tmps.getD 129 undef) wx from f129
              have f124 : a.tmps.getD 124 undef = .bool false := f124
              refine rely_wp (rely_guard f124) ?_
              exact opr_len_rd rfl f129 (hK _ _ (NewT.refl _) rfl)
            · intro a wx hT hF K hK
              obtain ⟨f127, f130, f124, _⟩ := hF
              have f127 : a.tmps.getD 127 undef = .int .i64 ((r : Int)) := f127
              have f130 : a.tmps.getD 130 undef = .int .i64 ((List.length (S) : Int)) := f130
              have f124 : a.tmps.getD 124 undef = .bool false := f124
              refine rely_wp (rely_guard f124) ?_
              exact opr_sub (r := ((r - S.length : Nat) : Int)) Try.underlying3 (sub_len HLn.out.2 bnd.out.2) rfl f127 f130 (hK _ _ (NewT.refl _) rfl)
            · intro a wx hT hF K hK
              obtain ⟨f126, f131, f124, _⟩ := hF
              have f126 : a.tmps.getD 126 undef = .int .i64 (((r - S.length : Nat) : Int)) := f126
              have f131 : a.tmps.getD 131 undef = .int .i64 (((r - S.length : Nat) : Int)) := f131
              have f124 : a.tmps.getD 124 undef = .bool false := f124
              refine rely_wp (rely_guard f124) ?_
              exact opr_cmp (b := false) (.inr (.inl ⟨rfl, (by simp)⟩)) Try.underlying3 rfl f126 f131 (hK _ _ (NewT.refl _) rfl)
            · intro wx hT
              intro u h; obtain rfl := Eq.symm (h (by simp)); clear h
              intro u h; obtain rfl := Eq.symm (h (by simp)); clear h
              intro u h; obtain rfl := Eq.symm (h (by simp)); clear h
              intro u h; obtain rfl := Eq.symm (h (by simp)); clear h
              intro _ _
              intro u h; obtain rfl := Eq.symm (h (by simp)); clear h
              intro _ _
              intro u h; obtain rfl := Eq.symm (h (by simp)); clear h
              intro u h; obtain rfl := Eq.symm (h (by simp)); clear h
              intro u h; obtain rfl := Eq.symm (h (by simp)); clear h
              intro u h; obtain rfl := Eq.symm (h (by simp)); clear h
              intro u h; obtain rfl := Eq.symm (h (by simp)); clear h
              intro u h; obtain rfl := Eq.symm (h (by simp)); clear h
              intro u h; obtain rfl := Eq.symm (h (by simp)); clear h
              intro u h; obtain rfl := Eq.symm (h (by simp)); clear h
              intro u h; obtain rfl := Eq.symm (h (by simp)); clear h
              intro u h; obtain rfl := Eq.symm (h (by simp)); clear h
              intro u h; obtain rfl := Eq.symm (h (by simp)); clear h
              intro u h; obtain rfl := Eq.symm (h (by simp)); clear h
              intro u h; obtain rfl := Eq.symm (h (by simp)); clear h
              intro u h; obtain rfl := Eq.symm (h (by simp)); clear h
              intro u h; obtain rfl := Eq.symm (h (by simp)); clear h
              intro u h; obtain rfl := Eq.symm (h (by simp)); clear h
              intro u h; obtain rfl := Eq.symm (h (by simp)); clear h
              intro u h; obtain rfl := Eq.symm (h (by simp)); clear h
              intro _ _
              intro u h; obtain rfl := Eq.symm (h (by simp)); clear h
              intro u h; obtain rfl := Eq.symm (h (by simp)); clear h
              intro u h; obtain rfl := Eq.symm (h (by simp)); clear h
              refine relyEnd_nil rfl ?_
              simp only [Act.put, List.setIfInBounds_toArray, List.set_cons_zero, List.set_cons_succ]
              refine opr_pick_false rfl rfl ?_
              go_simp
              go_wp2
              go_roundw
              case rel => exact ⟨k + 1, D', L', by omega, by go_num, Lib.hid (HS.out.new hT), Lib.hid (NewT.trans _ _ _ HN.out hT)⟩
              case measure => simp [intOf]; omega
          case first =>
            have cw0 := HR.out.cell (i := 0) (by omega)
            by_cases k0 : kd = 0
            · subst k0
              have HL : Hid (w2.heap.size < wa.heap.size) := Lib.hid HX.out.st.lt.1
              go_upto_region 18 with fail
              refine wp_region_relyP (KT w2.heap.size wr.heap.size) (JX w2.heap.size w3.heap.size wr.heap.size w2.heap.size r (D ++ L) D.length D L (wrL r (D ++ L).length (D ++ L) B) (D.length) (D) (wrL r (D ++ L).length L B)) [SV.eq (.pointer (some ⟨w2.heap.size, 0, none⟩)), SV.eq (.pointer (some ⟨wr.heap.size, 2, none⟩)), SV.eq ((.slice A2 B.length k2)), SV.eq (.int .i64 (wrE r (D ++ L) B)), SV.eq (.pointer (some ⟨w3.heap.size, 0, none⟩)), SV.eq (.pointer (some ⟨wr.heap.size, 2, none⟩)), SV.eq ((.slice A2 B.length k2)), SV.eq (.int .i64 (wrE r (D ++ L) B)), SV.eq (.bool true)] [([(5, none)], none), ([(8, none)], none), ([(69, some 1)], none), ([(68, some 0), (70, some 2)], none), ([(6, none)], none), ([(8, none)], none), ([(73, some 5)], none), ([(72, some 4), (74, some 6)], none), ([(71, some 3), (75, some 7)], none)] [none, none, none, some 0, none, none, none, some 1, none] [3, 7] 134 rfl (by kernel_rfl) rfl (by kernel_rfl) (by kernel_rfl) rfl (by kernel_rfl) KT.trans (KT.drew _) ⟨fun _ => HX.out.new (NewT.drew _), fun e => absurd e (by decide), fun e => absurd e (by decide)⟩ (Nat.le_of_ble_eq_true rfl) ⟨?_, ?_, ?_, ?_, ?_, ?_, ?_, ?_, ?_, trivial⟩ ?_
              · intro a wx hT hF K hK
                replace hK := fun v w' (hN : NewT wx w') hv => hK v w' ((fun h => KT.new (Nat.le_of_lt h)) (Nat.lt_of_lt_of_le HL.out hT.size) hN) (fun k h => JX.new h hN) hv
                obtain ⟨f5, _⟩ := hF
                have f5 : a.tmps.getD 5 undef = .pointer (some ⟨w2.heap.size, 0, none⟩) := f5
                refine rely_wp rfl ?_
                exact opr_move (.inl rfl) (hK _ _ (NewT.refl _) f5)
              · intro a wx hT hF K hK
                replace hK := fun v w' (hN : NewT wx w') hv => hK v w' ((fun h => KT.new (Nat.le_of_lt h)) (Nat.lt_of_lt_of_le HL.out hT.size) hN) (fun k h => JX.new h hN) hv
                obtain ⟨f8, _⟩ := hF
                have f8 : a.tmps.getD 8 undef = .pointer (some ⟨wr.heap.size, 0, none⟩) := f8
                refine rely_wp rfl ?_
                exact opr_fldA2 rfl f8 (hK _ _ (NewT.refl _) rfl)
              · intro a wx hT hF K hK
                replace hK := fun v w' (hN : NewT wx w') hv => hK v w' ((fun h => KT.new (Nat.le_of_lt h)) (Nat.lt_of_lt_of_le HL.out hT.size) hN) (fun k h => JX.new h hN) hv
                obtain ⟨f69, _⟩ := hF
                have f69 : a.tmps.getD 69 undef = .pointer (some ⟨wr.heap.size, 2, none⟩) := f69
                refine rely_wp rfl ?_
                exact opr_ldB (hT.row _ _ _ HR.out) (by decide) rfl rfl f69 (hK _ _ (NewT.refl _) rfl)
              · intro a wx hT hF hJ K hK
                obtain ⟨f68, f70, _⟩ := hF
                have f68 : a.tmps.getD 68 undef = .pointer (some ⟨w2.heap.size, 0, none⟩) := f68
                have f70 : a.tmps.getD 70 undef = (.slice A2 B.length k2) := f70
                refine rely_wp rfl ?_
                refine opr_call rfl Try.func13 (by kernel_rfl) (by kernel_rfl) (by simp only [List.map_toArray, List.map_cons, List.map_nil, eval_tmp, f68, f70]) ((dWrite (hJ.1 rfl) _ B ((NewT.of (HNa.out.out.trans (hT.below.mono Q2.out))).rd HU.out)).mono ?_)
                rintro e w' ⟨rfl, q1, q2⟩
                exact ⟨_, rfl, hK _ _ q1 ⟨fun e => absurd e (by decide), fun _ => q2, fun e => absurd e (by decide)⟩ rfl⟩
              · intro a wx hT hF K hK
                replace hK := fun v w' (hN : NewT wx w') hv => hK v w' ((fun h => KT.new (Nat.le_of_lt h)) (Nat.lt_of_lt_of_le HL.out hT.size) hN) (fun k h => JX.new h hN) hv
                obtain ⟨f6, _⟩ := hF
                have f6 : a.tmps.getD 6 undef = .pointer (some ⟨w3.heap.size, 0, none⟩) := f6
                refine rely_wp rfl ?_
                exact opr_move (.inl rfl) (hK _ _ (NewT.refl _) f6)
              · intro a wx hT hF K hK
                replace hK := fun v w' (hN : NewT wx w') hv => hK v w' ((fun h => KT.new (Nat.le_of_lt h)) (Nat.lt_of_lt_of_le HL.out hT.size) hN) (fun k h => JX.new h hN) hv
                obtain ⟨f8, _⟩ := hF
                have f8 : a.tmps.getD 8 undef = .pointer (some ⟨wr.heap.size, 0, none⟩) := f8
                refine rely_wp rfl ?_
                exact opr_fldA2 rfl f8 (hK _ _ (NewT.refl _) rfl)
              · intro a wx hT hF K hK
                replace hK := fun v w' (hN : NewT wx w') hv => hK v w' ((fun h => KT.new (Nat.le_of_lt h)) (Nat.lt_of_lt_of_le HL.out hT.size) hN) (fun k h => JX.new h hN) hv
                obtain ⟨f73, _⟩ := hF
                have f73 : a.tmps.getD 73 undef = .pointer (some ⟨wr.heap.size, 2, none⟩) := f73
                refine rely_wp rfl ?_
                exact opr_ldB (hT.row _ _ _ HR.out) (by decide) rfl rfl f73 (hK _ _ (NewT.refl _) rfl)
              · intro a wx hT hF hJ K hK
                obtain ⟨f72, f74, _⟩ := hF
                have f72 : a.tmps.getD 72 undef = .pointer (some ⟨w3.heap.size, 0, none⟩) := f72
                have f74 : a.tmps.getD 74 undef = (.slice A2 B.length k2) := f74
                refine rely_wp rfl ?_
                refine opr_call rfl Try.func18 (by kernel_rfl) (by kernel_rfl) (by simp only [List.map_toArray, List.map_cons, List.map_nil, eval_tmp, f72, f74]) ((rWrite (hJ.2.1 rfl) _ B ((NewT.of (HNa.out.out.trans (hT.below.mono Q2.out))).rd HU.out) (by have := hB.out; omega) rfl).mono ?_)
                rintro e w' ⟨rfl, q1, q2⟩
                exact ⟨_, rfl, hK _ _ q1 ⟨fun e => absurd e (by decide), fun e => absurd e (by decide), fun _ => q2⟩ rfl⟩
              · intro a wx hT hF K hK
                replace hK := fun v w' (hN : NewT wx w') hv => hK v w' ((fun h => KT.new (Nat.le_of_lt h)) (Nat.lt_of_lt_of_le HL.out hT.size) hN) (fun k h => JX.new h hN) hv
                obtain ⟨f71, f75, _⟩ := hF
                have f71 : a.tmps.getD 71 undef = .int .i64 (wrE r (D ++ L) B) := f71
                have f75 : a.tmps.getD 75 undef = .int .i64 (wrE r (D ++ L) B) := f75
                refine rely_wp rfl ?_
                exact opr_cmp (b := true) (.inl ⟨rfl, (by simp)⟩) Try.underlying3 rfl f71 f75 (hK _ _ (NewT.refl _) rfl)
              · intro w5 k5 hJ
                intro u h; obtain rfl := Eq.symm (h (by simp)); clear h
                intro u h; obtain rfl := Eq.symm (h (by simp)); clear h
                intro u h; obtain rfl := Eq.symm (h (by simp)); clear h
                intro u h; obtain rfl := Eq.symm (h (by simp)); clear h
                intro u h; obtain rfl := Eq.symm (h (by simp)); clear h
                intro u h; obtain rfl := Eq.symm (h (by simp)); clear h
                intro u h; obtain rfl := Eq.symm (h (by simp)); clear h
                intro u h; obtain rfl := Eq.symm (h (by simp)); clear h
                intro u h; obtain rfl := Eq.symm (h (by simp)); clear h
                refine relyEnd_nil rfl ?_
                simp only [Act.put, List.setIfInBounds_toArray, List.set_cons_zero, List.set_cons_succ]
                refine opr_moveV (v := .bool true) (.inr rfl) (by kernel_rfl) ?_
                go_simp
                go_step
                go_meet
                case rel => exact ⟨rfl, D, wrL r (D ++ L).length L B, Lib.hid (by have := (hJ.2.2 rfl).st; rw [wr_same] at this; exact this), Lib.hid (NewT.of (HNa.out.out.trans (k5.below.mono Q2.out)))⟩
            by_cases k1 : kd = 1
            · subst k1
              go_wp2_with (first
                | (go_at_call 11; refine (dSync HX.out).mono ?_; rintro _ w5 ⟨rfl, hK5, hX5⟩; have X5 := Lib.hid hX5; have K5 := Lib.hid hK5; clear hX5 hK5)
                | (go_at_call 19; refine (rSync X5.out).mono ?_; rintro _ w6 ⟨rfl, hK6, hX6⟩; have X6 := Lib.hid hX6; have K6 := Lib.hid hK6; clear hX6 hK6))
              go_meet
              case rel => exact ⟨rfl, D ++ L, [], Lib.hid (by have := X6.out.st; rw [List.append_nil]; exact this), Lib.hid (NewT.of (HNa.out.out.trans ((K5.out.below.trans K6.out.below).mono Q2.out)))⟩
            by_cases k2 : kd = 2
            · subst k2
              have cw1 := HR.out.cell (i := 1) (by omega)
              have ccS := crash_same D L n
              go_wp2_with (first
                | (go_at_call 12; refine (dCrash HX.out n).mono ?_; rintro _ w5 ⟨rfl, hK5, hX5⟩; rw [ccS.1, ccS.2] at hX5; have X5 := Lib.hid hX5; have K5 := Lib.hid hK5; have cw5 := (hK5.row _ _ _ HR.out).cell (i := 1) (by omega); clear hX5 hK5)
                | (go_at_call 20; refine (rCrash X5.out n).mono ?_; rintro _ w6 ⟨rfl, hK6, hX6⟩; have X6 := Lib.hid hX6; have K6 := Lib.hid hK6; clear hX6 hK6))
              go_meet
              case rel => exact ⟨rfl, D ++ L.take n.toNat, [], Lib.hid (by have := X6.out.st; rw [List.append_nil]; exact this), Lib.hid (NewT.of (HNa.out.out.trans ((K5.out.below.trans K6.out.below).mono Q2.out)))⟩
            by_cases k3 : kd = 3
            · subst k3
              have HL : Hid (w2.heap.size < wa.heap.size) := Lib.hid HX.out.st.lt.1
              go_upto_region 26 with fail
              refine wp_region_relyP (KT w2.heap.size wr.heap.size) (JX w2.heap.size w3.heap.size wr.heap.size w2.heap.size r (D ++ L) D.length D L (ctL (D ++ L) n (D ++ L) ((D ++ L).take n.toNat)) (ctL (D ++ L) n D.length n.toNat) (ctL (D ++ L) n D ((D ++ L).take n.toNat)) (ctL (D ++ L) n L [])) [SV.eq (.pointer (some ⟨w2.heap.size, 0, none⟩)), SV.eq (.pointer (some ⟨wr.heap.size, 1, none⟩)), SV.eq (.int .i64 (n)), SV.eq (.int .i64 (ctE (D ++ L) n)), SV.eq (.pointer (some ⟨w3.heap.size, 0, none⟩)), SV.eq (.pointer (some ⟨wr.heap.size, 1, none⟩)), SV.eq (.int .i64 (n)), SV.eq (.int .i64 (ctE (D ++ L) n)), SV.eq (.bool true)] [([(5, none)], none), ([(8, none)], none), ([(96, some 1)], none), ([(95, some 0), (97, some 2)], none), ([(6, none)], none), ([(8, none)], none), ([(100, some 5)], none), ([(99, some 4), (101, some 6)], none), ([(98, some 3), (102, some 7)], none)] [none, none, none, some 0, none, none, none, some 1, none] [3, 7] 134 rfl (by kernel_rfl) rfl (by kernel_rfl) (by kernel_rfl) rfl (by kernel_rfl) KT.trans (KT.drew _) ⟨fun _ => HX.out.new (NewT.drew _), fun e => absurd e (by decide), fun e => absurd e (by decide)⟩ (Nat.le_of_ble_eq_true rfl) ⟨?_, ?_, ?_, ?_, ?_, ?_, ?_, ?_, ?_, trivial⟩ ?_
              · intro a wx hT hF K hK
                replace hK := fun v w' (hN : NewT wx w') hv => hK v w' ((fun h => KT.new (Nat.le_of_lt h)) (Nat.lt_of_lt_of_le HL.out hT.size) hN) (fun k h => JX.new h hN) hv
                obtain ⟨f5, _⟩ := hF
                have f5 : a.tmps.getD 5 undef = .pointer (some ⟨w2.heap.size, 0, none⟩) := f5
                refine rely_wp rfl ?_
                exact opr_move (.inl rfl) (hK _ _ (NewT.refl _) f5)
              · intro a wx hT hF K hK
                replace hK := fun v w' (hN : NewT wx w') hv => hK v w' ((fun h => KT.new (Nat.le_of_lt h)) (Nat.lt_of_lt_of_le HL.out hT.size) hN) (fun k h => JX.new h hN) hv
                obtain ⟨f8, _⟩ := hF
                have f8 : a.tmps.getD 8 undef = .pointer (some ⟨wr.heap.size, 0, none⟩) := f8
                refine rely_wp rfl ?_
                exact opr_fldA1 rfl f8 (hK _ _ (NewT.refl _) rfl)
              · intro a wx hT hF K hK
                replace hK := fun v w' (hN : NewT wx w') hv => hK v w' ((fun h => KT.new (Nat.le_of_lt h)) (Nat.lt_of_lt_of_le HL.out hT.size) hN) (fun k h => JX.new h hN) hv
                obtain ⟨f96, _⟩ := hF
                have f96 : a.tmps.getD 96 undef = .pointer (some ⟨wr.heap.size, 1, none⟩) := f96
                refine rely_wp rfl ?_
                exact opr_ldI (hT.row _ _ _ HR.out) (by decide) rfl rfl f96 (hK _ _ (NewT.refl _) rfl)
              · intro a wx hT hF hJ K hK
                obtain ⟨f95, f97, _⟩ := hF
                have f95 : a.tmps.getD 95 undef = .pointer (some ⟨w2.heap.size, 0, none⟩) := f95
                have f97 : a.tmps.getD 97 undef = .int .i64 (n) := f97
                refine rely_wp rfl ?_
                refine opr_call rfl Try.func14 (by kernel_rfl) (by kernel_rfl) (by simp only [List.map_toArray, List.map_cons, List.map_nil, eval_tmp, f95, f97]) ((dCut (hJ.1 rfl) n).mono ?_)
                rintro e w' ⟨rfl, q1, q2⟩
                exact ⟨_, rfl, hK _ _ q1 ⟨fun e => absurd e (by decide), fun _ => q2, fun e => absurd e (by decide)⟩ rfl⟩
              · intro a wx hT hF K hK
                replace hK := fun v w' (hN : NewT wx w') hv => hK v w' ((fun h => KT.new (Nat.le_of_lt h)) (Nat.lt_of_lt_of_le HL.out hT.size) hN) (fun k h => JX.new h hN) hv
                obtain ⟨f6, _⟩ := hF
                have f6 : a.tmps.getD 6 undef = .pointer (some ⟨w3.heap.size, 0, none⟩) := f6
                refine rely_wp rfl ?_
                exact opr_move (.inl rfl) (hK _ _ (NewT.refl _) f6)
              · intro a wx hT hF K hK
                replace hK := fun v w' (hN : NewT wx w') hv => hK v w' ((fun h => KT.new (Nat.le_of_lt h)) (Nat.lt_of_lt_of_le HL.out hT.size) hN) (fun k h => JX.new h hN) hv
                obtain ⟨f8, _⟩ := hF
                have f8 : a.tmps.getD 8 undef = .pointer (some ⟨wr.heap.size, 0, none⟩) := f8
                refine rely_wp rfl ?_
                exact opr_fldA1 rfl f8 (hK _ _ (NewT.refl _) rfl)
              · intro a wx hT hF K hK
                replace hK := fun v w' (hN : NewT wx w') hv => hK v w' ((fun h => KT.new (Nat.le_of_lt h)) (Nat.lt_of_lt_of_le HL.out hT.size) hN) (fun k h => JX.new h hN) hv
                obtain ⟨f100, _⟩ := hF
                have f100 : a.tmps.getD 100 undef = .pointer (some ⟨wr.heap.size, 1, none⟩) := f100
                refine rely_wp rfl ?_
                exact opr_ldI (hT.row _ _ _ HR.out) (by decide) rfl rfl f100 (hK _ _ (NewT.refl _) rfl)
              · intro a wx hT hF hJ K hK
                obtain ⟨f99, f101, _⟩ := hF
                have f99 : a.tmps.getD 99 undef = .pointer (some ⟨w3.heap.size, 0, none⟩) := f99
                have f101 : a.tmps.getD 101 undef = .int .i64 (n) := f101
                refine rely_wp rfl ?_
                refine opr_call rfl Try.func21 (by kernel_rfl) (by kernel_rfl) (by simp only [List.map_toArray, List.map_cons, List.map_nil, eval_tmp, f99, f101]) ((rCut (hJ.2.1 rfl) n rfl).mono ?_)
                rintro e w' ⟨rfl, q1, q2⟩
                exact ⟨_, rfl, hK _ _ q1 ⟨fun e => absurd e (by decide), fun e => absurd e (by decide), fun _ => q2⟩ rfl⟩
              · intro a wx hT hF K hK
                replace hK := fun v w' (hN : NewT wx w') hv => hK v w' ((fun h => KT.new (Nat.le_of_lt h)) (Nat.lt_of_lt_of_le HL.out hT.size) hN) (fun k h => JX.new h hN) hv
                obtain ⟨f98, f102, _⟩ := hF
                have f98 : a.tmps.getD 98 undef = .int .i64 (ctE (D ++ L) n) := f98
                have f102 : a.tmps.getD 102 undef = .int .i64 (ctE (D ++ L) n) := f102
                refine rely_wp rfl ?_
                exact opr_cmp (b := true) (.inl ⟨rfl, (by simp)⟩) Try.underlying3 rfl f98 f102 (hK _ _ (NewT.refl _) rfl)
              · intro w5 k5 hJ
                intro u h; obtain rfl := Eq.symm (h (by simp)); clear h
                intro u h; obtain rfl := Eq.symm (h (by simp)); clear h
                intro u h; obtain rfl := Eq.symm (h (by simp)); clear h
                intro u h; obtain rfl := Eq.symm (h (by simp)); clear h
                intro u h; obtain rfl := Eq.symm (h (by simp)); clear h
                intro u h; obtain rfl := Eq.symm (h (by simp)); clear h
                intro u h; obtain rfl := Eq.symm (h (by simp)); clear h
                intro u h; obtain rfl := Eq.symm (h (by simp)); clear h
                intro u h; obtain rfl := Eq.symm (h (by simp)); clear h
                refine relyEnd_nil rfl ?_
                simp only [Act.put, List.setIfInBounds_toArray, List.set_cons_zero, List.set_cons_succ]
                refine opr_moveV (v := .bool true) (.inr rfl) (by kernel_rfl) ?_
                go_simp
                go_step
                go_meet
                case rel => exact ⟨rfl, _, _, Lib.hid (ct_same (hJ.2.2 rfl).st), Lib.hid (NewT.of (HNa.out.out.trans (k5.below.mono Q2.out)))⟩
            have k0' : (kd == 0) = false := by simpa using k0
            have k1' : (kd == 1) = false := by simpa using k1
            have k2' : (kd == 2) = false := by simpa using k2
            have k3' : (kd == 3) = false := by simpa using k3
            clear k0 k1 k2 k3
            go_wp2
            go_meet
            case rel => exact ⟨rfl, D, L, Lib.hid HX.out.st, HNa⟩
        · obtain rfl : k = l.length := by omega
          go_wp2
          go_ret
          exact ⟨rfl, HN.out⟩
end Go.Proofs.Ytenmoljaeeeaaaa
