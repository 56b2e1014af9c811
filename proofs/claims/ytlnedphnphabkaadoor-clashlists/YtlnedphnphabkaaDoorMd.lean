/- A region that draws its order, some of whose operations turn a state one behind the other; the state may speak of the frame's slots (of variables that the region itself makes). No program is named here. -/
import Derived.Test.YtlnedphnphabkaaDoorMc
import Derived.Test.YtlnedphnphabkaaDoorMb
import Derived.Deep.Cut
set_option linter.all false
namespace Go.Proofs.YtlnedphnphabkaaDoor
open Go Go.RowKit
set_option maxRecDepth 8000
set_option linter.all false

/-- One operation: it turns phase k into the next one (some k), or keeps whatever phase there is (none); a phase speaks of the frame too. -/
def relyStepA (P : Program) (Q : Exit → Act → World → Prop) (T : World → World → Prop) (V : List (SV T)) (J : Nat → Act → World → Prop) (a0 : Act) (w0 : World) (o : Oper) (dp : List (Tmp × Option Nat)) (g : Option (Tmp × Bool)) (c : SV T) : Option Nat → Prop
  | none => ∀ (a : Act) (w : World), T w0 w → relyFacts V a0 a w dp → ∀ K : Act → World → Prop, (∀ v w', T w w' → (∀ k, J k a w → J k (a.put o.dst v) w') → c.pred v w' → K (a.put o.dst v) w') →
    if relyGuard g a then o.wp P a w K Q else K (a.put o.dst undef) w
  | some k => ∀ (a : Act) (w : World), T w0 w → relyFacts V a0 a w dp → J k a w → ∀ K : Act → World → Prop, (∀ v w', T w w' → J (k + 1) (a.put o.dst v) w' → c.pred v w' → K (a.put o.dst v) w') →
    if relyGuard g a then o.wp P a w K Q else K (a.put o.dst undef) w
def relyAllA (P : Program) (Q : Exit → Act → World → Prop) (T : World → World → Prop) (V : List (SV T)) (J : Nat → Act → World → Prop) (a0 : Act) (w0 : World) : List Oper → Deps → List (SV T) → List (Option Nat) → Prop
  | [], _, _, _ => True
  | o :: r, (dp, g) :: D, c :: C, s :: S => relyStepA P Q T V J a0 w0 o dp g c s ∧ relyAllA P Q T V J a0 w0 r D C S
  | _, _, _, _ => False
section
variable {P : Program} {ops : Array Oper} {Q : Exit → Act → World → Prop} {T : World → World → Prop} {V : List (SV T)} {J : Nat → Act → World → Prop} {a0 : Act} {w0 : World} {n : Nat} {D : Deps} {S : List (Option Nat)} {path : List Nat} {init : List Oper} {last : Oper}
theorem relyAllA_at : ∀ (l : List Oper) (D : Deps) (C : List (SV T)) (S : List (Option Nat)) (k : Nat) (o : Oper) dp g, relyAllA P Q T V J a0 w0 l D C S → l[k]? = some o → D[k]? = some (dp, g) → relyStepA P Q T V J a0 w0 o dp g (C.getD k SV.any) (S.getD k none)
  | [], _, _, _, _, _, _, _, _, h, _ => by simp at h
  | x :: r, [], _, _, _, _, _, _, h, _, _ => h.elim
  | x :: r, y :: D, [], _, _, _, _, _, h, _, _ => h.elim
  | x :: r, y :: D, c :: C, [], _, _, _, _, h, _, _ => h.elim
  | x :: r, (dp, g) :: D, c :: C, s :: S, 0, o, dp', g', h, ho, hD => by
    simp at ho hD
    obtain ⟨rfl, rfl⟩ := hD
    subst ho
    exact h.1
  | x :: r, (dp, g) :: D, c :: C, s :: S, k + 1, o, dp', g', h, ho, hD => by
    have := relyAllA_at r D C S k o dp' g' h.2 (by simpa using ho) (by simpa using hD)
    simpa using this
/-- So many of the path's operations have come up. -/
structure PhInvA (path : List Nat) (J : Nat → Act → World → Prop) (listed : Array Bool) (a : Act) (w : World) (k : Nat) : Prop where
  le : k ≤ path.length
  done : ∀ j i, j < k → path[j]? = some i → listed.getD i false = true
  left : ∀ j i, k ≤ j → path[j]? = some i → listed.getD i false = false
  now : J k a w
theorem phA_other {listed : Array Bool} {a a' : Act} {w w' : World} {k i : Nat} (h : PhInvA path J listed a w k) (hi : i ∉ path) (hJ : J k a' w') : PhInvA path J (listed.setIfInBounds i true) a' w' k := by
  have hne : ∀ (j x : Nat), path[j]? = some x → i ≠ x := fun j x hx e => hi (e ▸ List.mem_of_getElem? hx)
  exact ⟨h.le, fun j x hj hx => by rw [getD_set_ne false (hne j x hx)]; exact h.done j x hj hx, fun j x hj hx => by rw [getD_set_ne false (hne j x hx)]; exact h.left j x hj hx, hJ⟩
theorem phA_own (hnd : path.Nodup) {listed : Array Bool} {a a' : Act} {w w' : World} {k i : Nat} (hlt : i < listed.size) (h : PhInvA path J listed a w k) (hi : path[k]? = some i) (hJ : J (k + 1) a' w') : PhInvA path J (listed.setIfInBounds i true) a' w' (k + 1) := by
  have hk : k < path.length := (List.getElem?_eq_some_iff.1 hi).1
  have hinj : ∀ (j x : Nat), path[j]? = some x → j ≠ k → i ≠ x := fun j x hx hjk e => by
    subst e
    obtain ⟨h1, h2⟩ := List.getElem?_eq_some_iff.1 hx
    obtain ⟨h3, h4⟩ := List.getElem?_eq_some_iff.1 hi
    exact hjk ((List.getElem_inj hnd).1 (h2.trans h4.symm))
  refine ⟨hk, fun j x hj hx => ?_, fun j x hj hx => ?_, hJ⟩
  · by_cases e : j = k
    · subst e
      rw [hi] at hx
      cases hx
      simp [hlt]
    · rw [getD_set_ne false (hinj j x hx e)]; exact h.done j x (by omega) hx
  · rw [getD_set_ne false (hinj j x hx (by omega))]; exact h.left j x (by omega) hx
theorem wpAny_relyA {Q2 : Exit → Act → World → Prop} (hQ : ∀ (o : Oper) (a : Act) (w : World) (K : Act → World → Prop), a.defers = a0.defers → o.wp P a w K Q2 → o.wp P a w K Q) (hsplit : ops.toList = init ++ [last]) (hn : a0.tmps.size = n) (hB : relyB ops n 0 init D = true) (hlast : lastB ops last init.length = true) (hg : last.guard = none) (ht : ∀ a b c : World, T a b → T b c → T a c)
    (hpath : pathB ops path = true) (hplace : placesB path S = true) (hSl : S.length = init.length) (hpl : ∀ i ∈ path, i < init.length)
    (hl : init.length ≤ V.length) (hA : relyAllA P Q2 T V J a0 w0 init D V S) (hE : ∀ w, T w0 w → relyEnd (fun _ a w => J path.length a w → last.wp P a w (fun a' w' => Q .normal a' w') Q) T init V a0 w) :
    ∀ (fuel : Nat) (listed : Array Bool) (a : Act) (w : World) (k : Nat), (unl ops listed).length = fuel → listed.getD init.length true = false → RelyInv ops T V a0 w0 listed a w → PhInvA path J listed a w k → wpAny P .any ops Q fuel listed a w := by
  obtain ⟨hlo, hsz, hpre⟩ := last_at hsplit
  simp only [lastB, Bool.and_eq_true] at hlast
  simp only [placesB, Bool.and_eq_true, decide_eq_true_eq] at hplace
  obtain ⟨hnd, hpos⟩ := hplace
  have hS : ∀ i, i < init.length → S.getD i none = path.findIdx? (· == i) := fun i hi => by
    have := List.all_eq_true.1 hpos i (List.mem_range.2 (by omega))
    simpa using this
  have hat : ∀ i o, init[i]? = some o → ∃ dp g, relyOne ops n i o dp g = true ∧ relyStepA P Q2 T V J a0 w0 o dp g (V.getD i SV.any) (path.findIdx? (· == i)) := fun i o hi => by
    obtain ⟨dp, g, hD, h1⟩ := relyB_at init D 0 i o hB hi
    rw [Nat.zero_add] at h1
    refine ⟨dp, g, h1, ?_⟩
    rw [← hS i (List.getElem?_eq_some_iff.1 hi).1]
    exact relyAllA_at _ _ _ _ i o dp g hA hi hD
  intro fuel
  induction fuel with
  | zero =>
    intro listed a w k hu hun inv _
    have : init.length ∈ unl ops listed := by
      unfold unl; rw [List.mem_filter]; exact ⟨List.mem_range.2 (by omega), by rw [hun]; rfl⟩
    rw [List.eq_nil_of_length_eq_zero hu] at this
    cases this
  | succ fuel ih =>
    intro listed a w k hu hun inv ph
    refine ⟨fun hr => ?_, fun i hi => ?_⟩
    · exfalso
      have all : ∀ i, i < init.length → listed.getD i false = true := fun i => by
        induction i using Nat.strongRecOn with
        | _ i ih =>
          intro hi
          cases hli : listed.getD i false with
          | true => rfl
          | false =>
            exfalso
            have hmem : i ∈ Region.ready .any ops listed := by
              rw [mem_ready]
              refine ⟨getD_in (by rw [inv.size]; omega) hli, init[i], hpre i _ (List.getElem?_eq_getElem hi), fun e he hb => ?_⟩
              obtain ⟨dp, g, h1, _⟩ := hat i init[i] (List.getElem?_eq_getElem hi)
              simp only [relyOne, Bool.and_eq_true] at h1
              have h2 := (Array.all_eq_true_iff_forall_mem.1 h1.1.1.2) e he
              simp only [hb, Bool.not_true, Bool.false_or, decide_eq_true_eq] at h2
              exact ih e.on h2 (by omega)
            rw [hr] at hmem
            cases hmem
      have hmem : init.length ∈ Region.ready .any ops listed := by
        rw [mem_ready]
        refine ⟨hun, last, hlo, fun e he hb => ?_⟩
        have h2 := (Array.all_eq_true_iff_forall_mem.1 hlast.2) e he
        simp only [hb, Bool.not_true, Bool.false_or, decide_eq_true_eq] at h2
        exact all e.on h2
      rw [hr] at hmem
      cases hmem
    · obtain ⟨h0, o, ho, hall⟩ := mem_ready.1 hi
      have hilt := (Array.getElem?_eq_some_iff.1 ho).1
      by_cases him : i = init.length
      · subst him
        have hol : o = last := Option.some.inj (ho.symm.trans hlo)
        subst hol
        have hdone : ∀ (d j : Nat), init.length - j = d → j < init.length → listed.getD j false = true := fun d => by
          induction d using Nat.strongRecOn with
          | _ d ihd =>
            intro j hd hj
            have h1 := List.all_eq_true.1 hlast.1 j (List.mem_range.2 hj)
            obtain ⟨t, ht1, ht2⟩ := List.any_eq_true.1 h1
            simp only [Bool.and_eq_true, decide_eq_true_eq] at ht2
            obtain ⟨ot, hot, e, he, hb, hon⟩ := Region.waitsFor_spec ht2.2
            have htle : t ≤ init.length := by have := List.mem_range.1 ht1; omega
            rw [← hon]
            by_cases htm : t = init.length
            · subst htm
              have : ot = o := Option.some.inj (hot.symm.trans ho)
              subst this
              exact hall e he hb
            · exact inv.closed t ot hot (ihd (init.length - t) (by omega) t rfl (by omega)) e he hb
        replace hdone : ∀ j, j < init.length → listed.getD j false = true := fun j hj => hdone _ j rfl hj
        have hk : k = path.length := by
          rcases Nat.lt_or_ge k path.length with h | h
          · exfalso
            have h1 := ph.left k path[k] (Nat.le_refl _) (List.getElem?_eq_getElem h)
            rw [hdone _ (hpl _ (List.getElem_mem h))] at h1
            cases h1
          · have := ph.le; omega
        subst hk
        have hJ := ph.now
        have h1 : J path.length a w → o.wp P a w (fun a' w' => Q .normal a' w') Q := rely_all (Q' := fun a w => J path.length a w → o.wp P a w (fun a' w' => Q .normal a' w') Q) inv
          (fun k o hk => ⟨hpre k o hk, hdone k (List.getElem?_eq_some_iff.1 hk).1⟩) (fun j hj => by
            rcases Nat.lt_or_ge j init.length with h | h
            · exact h
            · rcases Nat.eq_or_lt_of_le h with h | h
              · subst h; rw [getD_both hun] at hj; cases hj
              · have : listed.getD j false = false := by simp [Array.getElem?_eq_none (show listed.size ≤ j by rw [inv.size]; omega)]
                rw [this] at hj; cases hj) hl (hE w inv.now)
        have hK : ∀ a' w', Q .normal a' w' → wpAny P .any ops Q fuel (listed.setIfInBounds init.length true) a' w' := fun a' w' h => wpAny_done (ready_none fun j hj => by
          by_cases hj2 : j = init.length
          · subst hj2; simp [show init.length < listed.size by rw [inv.size]; exact hj]
          · exact getD_set_true (hdone j (by omega))) h _
        unfold wpOp
        simp only [hlo, Region.wanted, hg, if_true]
        exact .inl (Oper.wp_mono hK (h1 hJ))
      · have hi' : i < init.length := by omega
        have hio : init[i]? = some o := by
          have := hpre i init[i] (List.getElem?_eq_getElem hi')
          rw [ho] at this
          rw [List.getElem?_eq_getElem hi', Option.some.inj this]
        obtain ⟨dp, g, h1, hstep⟩ := hat i o hio
        obtain ⟨hfacts, hguard, next⟩ := rely_next hn ht ho h1 h0 hall inv
        have i0 : listed.getD i false = false := getD_both h0
        have hs : if relyGuard g a then o.wp P a w (fun a' w' => wpAny P .any ops Q fuel (listed.setIfInBounds i true) a' w') Q2 else wpAny P .any ops Q fuel (listed.setIfInBounds i true) (a.put o.dst undef) w := by
          cases hf : path.findIdx? (· == i) with
          | none =>
            rw [hf] at hstep
            have hni : i ∉ path := fun hm => by
              rw [List.findIdx?_eq_none_iff] at hf
              have := hf i hm
              simp at this
            exact hstep a w inv.now hfacts (fun a' w' => wpAny P .any ops Q fuel (listed.setIfInBounds i true) a' w') (fun v w' hT hJ hv => ih _ _ w' k (by have := unl_set inv.size h0; omega) (by rw [getD_set_ne true him]; exact hun) (next v w' hT hv) (phA_other ph hni (hJ k ph.now)))
          | some j =>
            rw [hf] at hstep
            have hpj : path[j]? = some i := by
              obtain ⟨h1, h2, _⟩ := List.findIdx?_eq_some_iff_getElem.1 hf
              rw [List.getElem?_eq_getElem h1]
              simpa using h2
            have hkj : k = j := by
              rcases Nat.lt_trichotomy j k with h | h | h
              · have := ph.done j i h hpj
                rw [i0] at this; cases this
              · exact h.symm
              · exfalso
                obtain ⟨j', rfl⟩ : ∃ j', j = j' + 1 := ⟨j - 1, by omega⟩
                have hlj : j' < path.length := by have := (List.getElem?_eq_some_iff.1 hpj).1; omega
                have hw := pathB_at path j' path[j'] i hpath (List.getElem?_eq_getElem hlj) hpj
                obtain ⟨oi, hoi, e, he, hb, hon⟩ := Region.waitsFor_spec hw
                have : oi = o := Option.some.inj (hoi.symm.trans ho)
                subst this
                have h2 := hall e he hb
                rw [hon, ph.left j' _ (by omega) (List.getElem?_eq_getElem hlj)] at h2
                cases h2
            subst hkj
            exact hstep a w inv.now hfacts ph.now (fun a' w' => wpAny P .any ops Q fuel (listed.setIfInBounds i true) a' w') (fun v w' hT hJ hv => ih _ _ w' (k + 1) (by have := unl_set inv.size h0; omega) (by rw [getD_set_ne true him]; exact hun) (next v w' hT hv) (phA_own hnd (by rw [inv.size]; exact hilt) ph hpj hJ))
        unfold wpOp
        simp only [ho, hguard]
        split
        · rename_i hw; rw [if_pos hw] at hs; exact .inl (hQ _ _ _ _ inv.defers hs)
        · rename_i hw; rw [if_neg hw] at hs; exact hs
/-- **A region that draws its order and turns a state step by step, of which the frame is part.** -/
theorem wp_region_relyA {id : Nat} {Q2 : Exit → Act → World → Prop} (hQ : ∀ (o : Oper) (a : Act) (w : World) (K : Act → World → Prop), a.defers = a0.defers → o.wp P a w K Q2 → o.wp P a w K Q) (T : World → World → Prop) (J : Nat → Act → World → Prop) (V : List (SV T)) (D : Deps) (S : List (Option Nat)) (path : List Nat) (n : Nat) (hla : ops.toList.getLast? = some last) (hm : P.follows .mixedOrders = true) (hn : a0.tmps.size = n) (hB : relyB ops n 0 ops.toList.dropLast D = true)
    (hlast : lastB ops last ops.toList.dropLast.length = true) (hg : last.guard = none) (hpath : (pathB ops path && placesB path S && decide (S.length = ops.toList.dropLast.length) && path.all fun i => decide (i < ops.toList.dropLast.length)) = true)
    (ht : ∀ a b c : World, T a b → T b c → T a c) (hd : T w0 w0.drew) (hJ : J 0 a0 w0.drew) (hl : ops.toList.dropLast.length ≤ V.length)
    (hA : relyAllA P Q2 T V J a0 w0 ops.toList.dropLast D V S) (hE : ∀ w, T w0 w → relyEnd (fun _ a w => J path.length a w → last.wp P a w (fun a' w' => Q .normal a' w') Q) T ops.toList.dropLast V a0 w) : (Code.region id ops true).wp P Q a0 w0 := by
  have hsplit := split_last hla
  obtain ⟨_, hsz, _⟩ := last_at hsplit
  simp only [Bool.and_eq_true, decide_eq_true_eq] at hpath
  obtain ⟨⟨⟨h1, h2⟩, h3⟩, h4⟩ := hpath
  refine wp_region_any hm ?_
  exact wpAny_relyA hQ hsplit hn hB hlast hg ht h1 h2 h3 (fun i hi => by simpa using List.all_eq_true.1 h4 i hi) hl hA hE ops.size _ a0 w0.drew 0 unl_start (by
    have hlt : ops.toList.dropLast.length < ops.size := by omega
    generalize ops.toList.dropLast.length = m at hlt
    simp [hlt]) (rely_start hd) ⟨Nat.zero_le _, fun j i hj => by omega, fun j i _ _ => getD_replicate_false .., hJ⟩
theorem wp_region_relyA0 {id : Nat} (T : World → World → Prop) (J : Nat → Act → World → Prop) (V : List (SV T)) (D : Deps) (S : List (Option Nat)) (path : List Nat) (n : Nat) (hla : ops.toList.getLast? = some last) (hm : P.follows .mixedOrders = true) (hn : a0.tmps.size = n) (hB : relyB ops n 0 ops.toList.dropLast D = true)
    (hlast : lastB ops last ops.toList.dropLast.length = true) (hg : last.guard = none) (hpath : (pathB ops path && placesB path S && decide (S.length = ops.toList.dropLast.length) && path.all fun i => decide (i < ops.toList.dropLast.length)) = true)
    (ht : ∀ a b c : World, T a b → T b c → T a c) (hd : T w0 w0.drew) (hJ : J 0 a0 w0.drew) (hl : ops.toList.dropLast.length ≤ V.length)
    (hA : relyAllA P Q T V J a0 w0 ops.toList.dropLast D V S) (hE : ∀ w, T w0 w → relyEnd (fun _ a w => J path.length a w → last.wp P a w (fun a' w' => Q .normal a' w') Q) T ops.toList.dropLast V a0 w) : (Code.region id ops true).wp P Q a0 w0 :=
  wp_region_relyA (fun _ _ _ _ _ h => h) T J V D S path n hla hm hn hB hlast hg hpath ht hd hJ hl hA hE
end
end Go.Proofs.YtlnedphnphabkaaDoor
/- Steps of a region that write rows that the region itself makes: what lay there ahead of it stays, rows stay rows. -/
namespace Go.Proofs.YtlnedphnphabkaaDoor
open Go Go.RowKit
set_option maxRecDepth 8000
set_option linter.all false
/-- Blocks from B on alone are written, and rows stay rows. -/
structure TB (B : Nat) (w w' : World) : Prop where
  below : Below B w w'
  rows : ∀ g t n f, w.rowIs g t n f → ∃ f', w'.rowIs g t n f'
theorem TB.trans {B : Nat} (x y z : World) (h : TB B x y) (k : TB B y z) : TB B x z := ⟨h.below.trans k.below, fun g t n f hr => by obtain ⟨f1, h1⟩ := h.rows g t n f hr; exact k.rows g t n f1 h1⟩
theorem TB.of_new {B : Nat} {w w' : World} (hB : B ≤ w.heap.size) (h : NewT w w') : TB B w w' := ⟨h.out.mono hB, fun g t n f hr => ⟨f, h.row hr⟩⟩
theorem TB.drew (B : Nat) (w : World) : TB B w w.drew := ⟨(Below.refl _ w).drew, fun g t n f hr => ⟨f, hr.of_block rfl⟩⟩
theorem TB.refl (B : Nat) (w : World) : TB B w w := ⟨Below.refl _ _, fun g t n f hr => ⟨f, hr⟩⟩
theorem TB.out {w w' : World} {B : Nat} (h : TB B w w') (hB : w.heap.size ≤ B) : NewT w w' := NewT.of (h.below.mono hB)
theorem TB.size {B : Nat} {w w' : World} (h : TB B w w') : w.heap.size ≤ w'.heap.size := h.below.size
theorem TB.of_rt {B g t n : Nat} {f f' : Nat → Value} {w w' : World} (h : RT g w w') (hg : B ≤ g) (hr : w.rowIs g t n f) (hr' : w'.rowIs g t n f') : TB B w w' := by
  refine ⟨h.below.mono hg, fun k t2 n2 f2 hk => ?_⟩
  by_cases e : k = g
  · subst e
    obtain ⟨c1, e1, s1, q1⟩ := hr
    obtain ⟨c2, e2, s2, q2⟩ := hk
    rw [e1] at e2
    cases e2
    obtain ⟨c3, e3, s3, q3⟩ := hr'
    exact ⟨f', c3, e3, by omega, fun i hi => q3 i (by omega)⟩
  · exact ⟨f2, h.row e hk⟩
/-- A pointer to a block. -/
def svPt {T : World → World → Prop} : SV T := ⟨fun v _ => ∃ g, v = .pointer (some ⟨g, 0, none⟩), fun _ _ _ h _ => h⟩
/-- The rows of hashes that the region made, behind B: slots and what they hold. -/
def VarsAt (B : Nat) (ps : List (Tmp × Hs)) (a : Act) (w : World) : Prop := ManyPtr (ps.map (·.1)) a w ∧ ∀ p ∈ ps, ∀ g, a.tmps.getD p.1 undef = .pointer (some ⟨g, 0, none⟩) → B ≤ g ∧ w.rowIs g 30 32 (bF p.2)
theorem VarsAt.keep {B : Nat} {ps : List (Tmp × Hs)} {a : Act} {w w' : World} {d : Option Tmp} {v : Value} (h : VarsAt B ps a w) (hd : ∀ p ∈ ps, d ≠ some p.1) (hT : NewT w w') : VarsAt B ps (a.put d v) w' := by
  refine ⟨h.1.keep (fun p hp => ?_) hT, fun p hp g hg => ?_⟩
  · obtain ⟨q, hq, rfl⟩ := List.mem_map.1 hp; exact hd q hq
  · rw [put_other v (hd p hp)] at hg
    obtain ⟨h1, h2⟩ := h.2 p hp g hg
    exact ⟨h1, hT.row h2⟩
theorem VarsAt.make {B : Nat} {ps : List (Tmp × Hs)} {p : Tmp} {a : Act} {w : World} (h : VarsAt B ps a w) (hB : B ≤ w.heap.size) (hp : ∀ q ∈ ps, q.1 = p → q.2 = fun _ => 0) : VarsAt B ps (a.put (some p) (.pointer (some ⟨w.heap.size, 0, none⟩))) (w.alloc (.cells (rowA 32 (bF fun _ => 0)) 30)) := by
  refine ⟨h.1.make, fun q hq g hg => ?_⟩
  by_cases e : q.1 = p
  · rw [e] at hg
    rw [put_same hg, hp q hq e]
    exact ⟨hB, rowIs_box w 30 32 _⟩
  · rw [put_other (d := some p) _ (by simpa using Ne.symm e)] at hg
    obtain ⟨h1, h2⟩ := h.2 q hq g hg
    exact ⟨h1, (NewT.alloc _ _).row h2⟩
/-- One of them is written. -/
theorem VarsAt.put {B g : Nat} {ps ps' : List (Tmp × Hs)} {p : Tmp} {d : Hs} {a : Act} {w w' : World} {v : Value} (h : VarsAt B ps a w) (hm : ps'.map (·.1) = ps.map (·.1)) (hp : a.tmps.getD p undef = .pointer (some ⟨g, 0, none⟩)) (hmem : p ∈ ps.map (·.1)) (hR : RT g w w') (hrow : w'.rowIs g 30 32 (bF d)) (hps : ∀ q ∈ ps', (q.1 = p → q.2 = d) ∧ (q.1 ≠ p → q ∈ ps)) : VarsAt B ps' (a.put none v) w' := by
  have e : a.put none v = a := rfl
  rw [e]
  have hg := h.1.1 p hmem g hp
  refine ⟨?_, fun q hq g' hg' => ?_⟩
  · rw [hm]
    exact ⟨fun q hq g' hg' => Nat.lt_of_lt_of_le (h.1.1 q hq g' hg') hR.size, h.1.2⟩
  · obtain ⟨h1, h2⟩ := hps q hq
    by_cases eq : q.1 = p
    · rw [eq, hp] at hg'
      cases hg'
      rw [h1 eq]
      obtain ⟨r, hr, er⟩ := List.mem_map.1 hmem
      exact ⟨(h.2 r hr g (by rw [er]; exact hp)).1, hrow⟩
    · have hq' := h2 eq
      obtain ⟨k1, k2⟩ := h.2 q hq' g' hg'
      refine ⟨k1, hR.row ?_ k2⟩
      exact h.1.2 q.1 (List.mem_map.2 ⟨q, hq', rfl⟩) p hmem eq g' g hg' hp
end Go.Proofs.YtlnedphnphabkaaDoor
/- Two structs in memory: a list (leaves and hashes), a way (a leaf, its hash, its place, its path): made, loaded, their fields; slices cut on both sides. -/
namespace Go.Proofs.YtlnedphnphabkaaDoor
open Go Go.RowKit
set_option maxRecDepth 8000
set_option linter.all false
def lsF (u p : Value) (i : Nat) : Value := bif Nat.blt i 1 then u else p
def wyF (u : Value) (d : Hs) (i n : Int) (p : Value) (j : Nat) : Value := bif Nat.blt j 1 then u else bif Nat.blt j 33 then bF d (j - 1) else bif Nat.beq j 33 then .int .i64 i else bif Nat.beq j 34 then .int .i64 n else p
theorem lsF_one {u p : Value} (hu : u.oneCell' = true) (hp : p.oneCell' = true) (i : Nat) : (lsF u p i).oneCell' = true := by unfold lsF; cases Nat.blt i 1 <;> assumption
theorem wyF_one {u p : Value} {d : Hs} {i n : Int} (hu : u.oneCell' = true) (hp : p.oneCell' = true) (j : Nat) : (wyF u d i n p j).oneCell' = true := by
  unfold wyF
  cases Nat.blt j 1
  · cases Nat.blt j 33
    · cases Nat.beq j 33
      · cases Nat.beq j 34
        · exact hp
        · rfl
      · rfl
    · rfl
  · exact hu
theorem wyF_h (u : Value) (d : Hs) (i n : Int) (p : Value) (j : Nat) (h : j < 32) : wyF u d i n p (1 + j) = bF d j := by
  unfold wyF
  have h1 : Nat.blt (1 + j) 1 = false := by
    cases h' : Nat.blt (1 + j) 1 with
    | false => rfl
    | true => rw [Nat.blt_eq] at h'; omega
  have h2 : Nat.blt (1 + j) 33 = true := by rw [Nat.blt_eq]; omega
  rw [h1, h2]
  show bF d (1 + j - 1) = _
  rw [show 1 + j - 1 = j by omega]
theorem infoL : (Tryd.prog.info? 64).map (·.size) = some 2 := by kernel_rfl
theorem infoW : (Tryd.prog.info? 54).map (·.size) = some 36 := by kernel_rfl
theorem run_alloc_ls (w : World) : (Instr.alloc 64 true (.tuple #[])).run Tryd.prog w = .ok (.pointer (some ⟨w.heap.size, 0, none⟩)) (w.alloc (.cells (rowA 2 (lsF (.slice none 0 0) (.slice none 0 0))) 64)) := by kernel_rfl
theorem run_alloc_wy (w : World) : (Instr.alloc 54 true (.tuple #[])).run Tryd.prog w = .ok (.pointer (some ⟨w.heap.size, 0, none⟩)) (w.alloc (.cells (rowA 36 (wyF (.slice none 0 0) (fun _ => 0) 0 0 (.slice none 0 0))) 54)) := by kernel_rfl
theorem run_bld_ls (A : Option Addr) (n c : Nat) (A2 : Option Addr) (n2 c2 : Nat) (w : World) : (Instr.build 64 #[(0, .slice A n c), (1, .slice A2 n2 c2)]).run Tryd.prog w = .ok (.agg (rowA 2 (lsF (.slice A n c) (.slice A2 n2 c2)))) w := by kernel_rfl
theorem run_bld_ls0 (w : World) : (Instr.build 64 #[]).run Tryd.prog w = .ok (.agg (rowA 2 (lsF (.slice none 0 0) (.slice none 0 0)))) w := by kernel_rfl
theorem run_bld_wy (A : Option Addr) (n c : Nat) (A2 : Option Addr) (n2 c2 : Nat) (d : Hs) (i m : Int) (w : World) : (Instr.build 54 #[(0, .slice A n c), (1, .agg (rowA 32 (bF d))), (2, .int .i64 i), (3, .int .i64 m), (4, .slice A2 n2 c2)]).run Tryd.prog w = .ok (.agg (rowA 36 (wyF (.slice A n c) d i m (.slice A2 n2 c2)))) w := by kernel_rfl
theorem run_bld_wy0 (w : World) : (Instr.build 54 #[]).run Tryd.prog w = .ok (.agg (rowA 36 (wyF (.slice none 0 0) (fun _ => 0) 0 0 (.slice none 0 0)))) w := by kernel_rfl
theorem info_ts0 : (Tryd.prog.info? 22).map (·.size) = some (0 + 1) := by kernel_rfl
section
variable {a : Act} {w : World} {o : Oper} {K : Act → World → Prop} {Q : Exit → Act → World → Prop} {x y z x1 x2 x3 : Operand} {g n : Nat} {t' : TypeId} {F : Nat → Value}
theorem opr_bldL {u p : Value} (hu : ∃ A n c, u = .slice A n c) (hp : ∃ A n c, p = .slice A n c) (ho : o.op = .build 64 #[(0, x), (1, y)]) (hx : a.eval x = u) (hy : a.eval y = p) (h : K (a.put o.dst (.agg (rowA 2 (lsF u p)))) w) : o.wp Tryd.prog a w K Q := by
  obtain ⟨A, m, c, rfl⟩ := hu
  obtain ⟨A2, m2, c2, rfl⟩ := hp
  obtain ⟨dst, op, type, pos, after, guard⟩ := o
  simp only at ho
  subst ho
  exact opr_val (s := Instr.build 64 #[(0, a.eval x), (1, a.eval y)]) (by simp [execOp]) (by rw [hx, hy]; exact run_bld_ls A m c A2 m2 c2 w) h
theorem opr_bldL0 (ho : o.op = .build 64 #[]) (h : K (a.put o.dst (.agg (rowA 2 (lsF (.slice none 0 0) (.slice none 0 0))))) w) : o.wp Tryd.prog a w K Q := by
  obtain ⟨dst, op, type, pos, after, guard⟩ := o
  simp only at ho
  subst ho
  exact opr_val (s := Instr.build 64 #[]) (by simp [execOp]) (run_bld_ls0 w) h
theorem opr_bldW {u p : Value} {d : Hs} {i m : Int} (hu : ∃ A n c, u = .slice A n c) (hp : ∃ A n c, p = .slice A n c) (ho : o.op = .build 54 #[(0, x), (1, x1), (2, x2), (3, x3), (4, y)]) (hx : a.eval x = u) (h1 : a.eval x1 = .agg (rowA 32 (bF d))) (h2 : a.eval x2 = .int .i64 i) (h3 : a.eval x3 = .int .i64 m) (hy : a.eval y = p) (h : K (a.put o.dst (.agg (rowA 36 (wyF u d i m p)))) w) : o.wp Tryd.prog a w K Q := by
  obtain ⟨A, m1, c, rfl⟩ := hu
  obtain ⟨A2, m2, c2, rfl⟩ := hp
  obtain ⟨dst, op, type, pos, after, guard⟩ := o
  simp only at ho
  subst ho
  exact opr_val (s := Instr.build 54 #[(0, a.eval x), (1, a.eval x1), (2, a.eval x2), (3, a.eval x3), (4, a.eval y)]) (by simp [execOp]) (by rw [hx, hy, h1, h2, h3]; exact run_bld_wy A m1 c A2 m2 c2 d i m w) h
theorem opr_bldW0 (ho : o.op = .build 54 #[]) (h : K (a.put o.dst (.agg (rowA 36 (wyF (.slice none 0 0) (fun _ => 0) 0 0 (.slice none 0 0))))) w) : o.wp Tryd.prog a w K Q := by
  obtain ⟨dst, op, type, pos, after, guard⟩ := o
  simp only at ho
  subst ho
  exact opr_val (s := Instr.build 54 #[]) (by simp [execOp]) (run_bld_wy0 w) h
theorem opr_fldL0 (ho : o.op = .fieldAddr 64 x 0) (hx : a.eval x = .pointer (some ⟨g, 0, none⟩)) (h : K (a.put o.dst (.pointer (some ⟨g, 0, none⟩))) w) : o.wp Tryd.prog a w K Q :=
  opr_fld Tryd.underlying64 rfl info_ts0 ho hx (by rfl) h
theorem opr_fldL1 (ho : o.op = .fieldAddr 64 x 1) (hx : a.eval x = .pointer (some ⟨g, 0, none⟩)) (h : K (a.put o.dst (.pointer (some ⟨g, 1, none⟩))) w) : o.wp Tryd.prog a w K Q :=
  opr_fld Tryd.underlying64 rfl info_hs0 ho hx (by rfl) h
theorem opr_fldW0 (ho : o.op = .fieldAddr 54 x 0) (hx : a.eval x = .pointer (some ⟨g, 0, none⟩)) (h : K (a.put o.dst (.pointer (some ⟨g, 0, none⟩))) w) : o.wp Tryd.prog a w K Q :=
  opr_fld Tryd.underlying54 rfl info_sb1 ho hx (by rfl) h
theorem opr_fldW1 (ho : o.op = .fieldAddr 54 x 1) (hx : a.eval x = .pointer (some ⟨g, 0, none⟩)) (h : K (a.put o.dst (.pointer (some ⟨g, 1, none⟩))) w) : o.wp Tryd.prog a w K Q :=
  opr_fld Tryd.underlying54 rfl info_hash1 ho hx (by rfl) h
theorem opr_fldW2 (ho : o.op = .fieldAddr 54 x 2) (hx : a.eval x = .pointer (some ⟨g, 0, none⟩)) (h : K (a.put o.dst (.pointer (some ⟨g, 33, none⟩))) w) : o.wp Tryd.prog a w K Q :=
  opr_fld Tryd.underlying54 rfl info_int ho hx (by rfl) h
theorem opr_fldW3 (ho : o.op = .fieldAddr 54 x 3) (hx : a.eval x = .pointer (some ⟨g, 0, none⟩)) (h : K (a.put o.dst (.pointer (some ⟨g, 34, none⟩))) w) : o.wp Tryd.prog a w K Q :=
  opr_fld Tryd.underlying54 rfl info_int ho hx (by rfl) h
theorem opr_fldW4 (ho : o.op = .fieldAddr 54 x 4) (hx : a.eval x = .pointer (some ⟨g, 0, none⟩)) (h : K (a.put o.dst (.pointer (some ⟨g, 35, none⟩))) w) : o.wp Tryd.prog a w K Q :=
  opr_fld Tryd.underlying54 rfl info_hs0 ho hx (by rfl) h
theorem opr_ldTs {v : Value} {o0 : Nat} (hr : w.rowIs g t' n F) (hn : o0 < n) (hv : F o0 = v) (ho : o.op = .load 22 x) (hx : a.eval x = .pointer (some ⟨g, o0, none⟩)) (h : K (a.put o.dst v) w) : o.wp Tryd.prog a w K Q :=
  opr_ld1 Tryd.underlying22 rfl ho hx (by rw [hr.cell hn, hv]) h
/-- A whole struct is loaded, or a value of one cell that isn't a row. -/
theorem opr_ldR' {t : TypeId} {d : TypeDesc} (hu : Tryd.prog.underlying t = some d) (hd : d.isRow = true) (hi : (Tryd.prog.info? t).map (·.size) = some n) (hr : w.rowIs g t' n F) (ho : o.op = .load t x) (hx : a.eval x = .pointer (some ⟨g, 0, none⟩)) (h : K (a.put o.dst (.agg (rowA n F))) w) : o.wp Tryd.prog a w K Q := by
  refine opr_ldm hu hd hi ho hx hr (by omega) ?_
  rw [show (fun j => F (0 + j)) = F from funext fun j => by rw [Nat.zero_add]]; exact h
theorem opr_ldLs (hr : w.rowIs g t' 2 F) (ho : o.op = .load 64 x) (hx : a.eval x = .pointer (some ⟨g, 0, none⟩)) (h : K (a.put o.dst (.agg (rowA 2 F))) w) : o.wp Tryd.prog a w K Q :=
  opr_ldR' Tryd.underlying64 rfl infoL hr ho hx h
theorem opr_ldWy (hr : w.rowIs g t' 36 F) (ho : o.op = .load 54 x) (hx : a.eval x = .pointer (some ⟨g, 0, none⟩)) (h : K (a.put o.dst (.agg (rowA 36 F))) w) : o.wp Tryd.prog a w K Q :=
  opr_ldR' Tryd.underlying54 rfl infoW hr ho hx h
theorem run_cutT {A : Option Addr} {n c j k : Nat} (w : World) (hj : j ≤ k) (hk : k ≤ n) (hn : n ≤ c) : (Instr.slice 22 (.slice A n c) (some (.int .i64 (j : Int))) (some (.int .i64 (k : Int))) none).run Tryd.prog w = .ok (.slice (if c = j then A else A.map (·.add j)) (k - j) (c - j)) w := by
  have h1 : k ≤ c := by omega
  have h2 : j ≤ k := hj
  by_cases hc : c = j
  · obtain rfl : k = j := by omega
    simp [Instr.slice, run_underlying Tryd.underlying22, Instr.sliceBounds, Instr.sliceBound, asIntOf, run_size_b, h1, h2, hc]
  · simp [Instr.slice, run_underlying Tryd.underlying22, Instr.sliceBounds, Instr.sliceBound, asIntOf, run_size_b, h1, h2, hc]
theorem run_cutH {A : Option Addr} {n c j k : Nat} (w : World) (hj : j ≤ k) (hk : k ≤ n) (hn : n ≤ c) : (Instr.slice 33 (.slice A n c) (some (.int .i64 (j : Int))) (some (.int .i64 (k : Int))) none).run Tryd.prog w = .ok (.slice (if c = j then A else A.map (·.add (j * 32))) (k - j) (c - j)) w := by
  have h1 : k ≤ c := by omega
  have h2 : j ≤ k := hj
  by_cases hc : c = j
  · obtain rfl : k = j := by omega
    simp [Instr.slice, run_underlying Tryd.underlying33, Instr.sliceBounds, Instr.sliceBound, asIntOf, run_size_hash, h1, h2, hc]
  · simp [Instr.slice, run_underlying Tryd.underlying33, Instr.sliceBounds, Instr.sliceBound, asIntOf, run_size_hash, h1, h2, hc]
/-- 'l[j:k]', of what reads in an elder world. -/
theorem opr_cutT {W0 : World} {ls : List (List UInt8)} {j k : Nat} (hj : j ≤ k) (hk : k ≤ ls.length) (ho : o.op = .slice 22 x (some y) (some z) none) (hx : Parts W0 (a.eval x) ls) (hy : a.eval y = .int .i64 (j : Int)) (hz : a.eval z = .int .i64 (k : Int)) (h : ∀ v, Parts W0 v ((ls.take k).drop j) → K (a.put o.dst v) w) : o.wp Tryd.prog a w K Q := by
  obtain ⟨dst, op, type, pos, after, guard⟩ := o
  simp only at ho
  subst ho
  obtain ⟨A, c, hv, hc⟩ := parts_form hx
  rw [hv] at hx
  have h1 := parts_take hx hk
  have h2 := parts_drop h1 (k := j) (by rw [List.length_take]; omega)
  exact opr_val (s := Instr.sliceAt 22 (a.eval x) (some (a.eval y)) (some (a.eval z)) none) (by simp [execOp]) (by rw [hv, hy, hz]; simp [Instr.sliceAt, run_underlying Tryd.underlying22]; exact run_cutT w hj hk hc) (h _ h2)
theorem opr_cutH {W0 : World} {l : List Hs} {j k : Nat} (hj : j ≤ k) (hk : k ≤ l.length) (ho : o.op = .slice 33 x (some y) (some z) none) (hx : RdH W0 (a.eval x) l) (hy : a.eval y = .int .i64 (j : Int)) (hz : a.eval z = .int .i64 (k : Int)) (h : ∀ v, RdH W0 v ((l.take k).drop j) → K (a.put o.dst v) w) : o.wp Tryd.prog a w K Q := by
  obtain ⟨dst, op, type, pos, after, guard⟩ := o
  simp only at ho
  subst ho
  obtain ⟨A, c, hv⟩ := rdH_form hx
  have hc : l.length ≤ c := by obtain ⟨A', c', hv', h1, _⟩ := hx; rw [hv] at hv'; cases hv'; exact h1
  rw [hv] at hx
  have h1 := rdH_take hx hk
  have hl : (l.take k).length = k := by rw [List.length_take]; omega
  have h1' : RdH W0 (.slice A (l.take k).length c) (l.take k) := by rw [hl]; exact h1
  have h2 := rdH_drop h1' (k := j) (by omega)
  rw [hl] at h2
  exact opr_val (s := Instr.sliceAt 33 (a.eval x) (some (a.eval y)) (some (a.eval z)) none) (by simp [execOp]) (by rw [hv, hy, hz]; simp [Instr.sliceAt, run_underlying Tryd.underlying33]; exact run_cutH w hj hk hc) (h _ h2)
/-- 'l[:k]', of what reads in an elder world. -/
theorem opr_toH0 {W0 : World} {l : List Hs} {k : Nat} {n : Int} (hk : k ≤ l.length) (hn : n = (k : Int)) (ho : o.op = .slice 33 x none (some y) none) (hx : RdH W0 (a.eval x) l) (hy : a.eval y = .int .i64 n) (h : ∀ v, RdH W0 v (l.take k) → K (a.put o.dst v) w) : o.wp Tryd.prog a w K Q := by
  subst hn
  obtain ⟨dst, op, type, pos, after, guard⟩ := o
  simp only at ho
  subst ho
  obtain ⟨A, c, hv⟩ := rdH_form hx
  have hc : l.length ≤ c := by obtain ⟨A', c', hv', h1, _⟩ := hx; rw [hv] at hv'; cases hv'; exact h1
  rw [hv] at hx
  exact opr_val (s := Instr.sliceAt 33 (a.eval x) none (some (a.eval y)) none) (by simp [execOp]) (by rw [hv, hy]; simp [Instr.sliceAt, run_underlying Tryd.underlying33]; exact run_toH w hk hc) (h _ (rdH_take hx hk))
end
theorem parts_sl {w : World} {v : Value} {ls : List (List UInt8)} (h : Parts w v ls) : ∃ A n c, v = .slice A n c := by obtain ⟨A, c, h, _⟩ := parts_form h; exact ⟨A, _, c, h⟩
theorem rdH_sl {w : World} {v : Value} {l : List Hs} (h : RdH w v l) : ∃ A n c, v = .slice A n c := by obtain ⟨A, c, h⟩ := rdH_form h; exact ⟨A, _, c, h⟩
theorem rd_sl {w : World} {L : List Nat} {v : Value} {l : List UInt8} (h : RdV w L v l) : ∃ A n c, v = .slice A n c := by obtain ⟨A, c, h⟩ := rdV_form h; exact ⟨A, _, c, h⟩
theorem sl_one {v : Value} (h : ∃ A n c, v = .slice A n c) : v.oneCell' = true := by obtain ⟨A, n, c, rfl⟩ := h; rfl
theorem results_ttt {P : Program} {fn : Func} {tmps : Array Value} {w : World} {p q u : Tmp} {x y v : Value} (hf : fn.results = #[.tmp p, .tmp q, .tmp u]) (hp : tmps.getD p undef = x) (hq : tmps.getD q undef = y) (hv : tmps.getD u undef = v) : (results fn tmps).run P w = .ok (.tuple #[x, y, v]) w := by
  have hp' : tmps[p]?.getD undef = x := by simpa using hp
  have hq' : tmps[q]?.getD undef = y := by simpa using hq
  have hv' : tmps[u]?.getD undef = v := by simpa using hv
  simp [results, hf, hp', hq', hv']
theorem ble_no {j n : Nat} (h : Nat.blt j n = false) : ¬ j < n := fun hc => by rw [← Nat.blt_eq] at hc; rw [hc] at h; cases h
theorem wyF_rest {j : Nat} (hj : j < 36) (h1 : Nat.blt j 33 = false) (h2 : Nat.beq j 33 = false) (h3 : Nat.beq j 34 = false) : j = 35 := by
  have a1 := ble_no h1
  have a2 := Nat.ne_of_beq_eq_false h2
  have a3 := Nat.ne_of_beq_eq_false h3
  omega
theorem wyF_set35 (u : Value) (d : Hs) (i n : Int) (p p' : Value) (j : Nat) (hj : j < 36) : wyF u d i n p' j = if j = 35 then p' else wyF u d i n p j := by
  by_cases h : j = 35
  · subst h; rw [if_pos rfl]; rfl
  · rw [if_neg h]; unfold wyF
    cases h1 : Nat.blt j 1
    · cases h2 : Nat.blt j 33
      · cases h3 : Nat.beq j 33
        · cases h4 : Nat.beq j 34
          · exact absurd (wyF_rest hj h2 h3 h4) h
          · rfl
        · rfl
      · rfl
    · rfl
theorem wyF_set34 (u : Value) (d : Hs) (i n n' : Int) (p : Value) (j : Nat) (hj : j < 36) : wyF u d i n' p j = if j = 34 then .int .i64 n' else wyF u d i n p j := by
  by_cases h : j = 34
  · subst h; rw [if_pos rfl]; rfl
  · rw [if_neg h]; unfold wyF
    cases h4 : Nat.beq j 34
    · rfl
    · exact absurd (Nat.eq_of_beq_eq_true h4) h
theorem wyF_set33 (u : Value) (d : Hs) (i i' n : Int) (p : Value) (j : Nat) (hj : j < 36) : wyF u d i' n p j = if j = 33 then .int .i64 i' else wyF u d i n p j := by
  by_cases h : j = 33
  · subst h; rw [if_pos rfl]; rfl
  · rw [if_neg h]; unfold wyF
    cases h4 : Nat.beq j 33
    · rfl
    · exact absurd (Nat.eq_of_beq_eq_true h4) h
theorem info_int1 : (Tryd.prog.info? 3).map (·.size) = some 1 := by kernel_rfl
theorem opr_alloc_atW {a : Act} {w : World} {o : Oper} {K : Act → World → Prop} {Q : Exit → Act → World → Prop} (ho : o.op = .alloc 54) (h : K (a.put o.dst (.pointer (some ⟨w.heap.size, 0, none⟩))) (w.alloc (.cells (rowA 36 (wyF (.slice none 0 0) (fun _ => 0) 0 0 (.slice none 0 0))) 54))) : o.wp Tryd.prog a w K Q := by
  obtain ⟨dst, op, type, pos, after, guard⟩ := o
  simp only at ho
  subst ho
  exact opr_val (s := Instr.alloc 54 true (.tuple #[])) rfl (run_alloc_wy w) h
def svNwW (B : Nat) : SV NewT := ⟨fun v w => ∃ g, v = .pointer (some ⟨g, 0, none⟩) ∧ B ≤ g ∧ w.rowIs g 54 36 (wyF (.slice none 0 0) (fun _ => 0) 0 0 (.slice none 0 0)), fun _ _ _ ⟨g, h1, h2, h3⟩ hT => ⟨g, h1, h2, hT.row h3⟩⟩
def svPs {T : World → World → Prop} (W : World) (ls : List (List UInt8)) : SV T := ⟨fun v _ => Parts W v ls, fun _ _ _ h _ => h⟩
def svHs (W : World) (l : List Hs) : SV NewT := ⟨fun v _ => RdH W v l, fun _ _ _ h _ => h⟩
/-- A list of leaves and hashes, that read in an elder world. -/
def svLs (W : World) (l : List (List UInt8)) (h : List Hs) : SV NewT := ⟨fun v _ => ∃ u p, v = .agg (rowA 2 (lsF u p)) ∧ Parts W u l ∧ RdH W p h, fun _ _ _ h _ => h⟩
/-- A way whose leaf and path read in an elder world. -/
def svWy {T : World → World → Prop} (W : World) (l : List UInt8) (d : Hs) (i n : Int) (h : List Hs) : SV T := ⟨fun v _ => ∃ u p, v = .agg (rowA 36 (wyF u d i n p)) ∧ RdV W [] u l ∧ RdH W p h, fun _ _ _ h _ => h⟩
/-- A hash's place, of what reads in an elder world. -/
def svPW {T : World → World → Prop} (W : World) (d : Hs) : SV T := ⟨fun v _ => ∃ b off, v = .pointer (some ⟨b, off, none⟩) ∧ ∀ j, j < 32 → W.cell? ⟨b, off + j, none⟩ = some (bF d j), fun _ _ _ h _ => h⟩
section
variable {a : Act} {w : World} {o : Oper} {K : Act → World → Prop} {Q : Exit → Act → World → Prop} {x y : Operand}
theorem opr_idxW {W : World} {l : List Hs} {i : Nat} {d : Hs} (hd : l[i]? = some d) (ho : o.op = .indexAddr 33 x y) (hx : RdH W (a.eval x) l) (hy : a.eval y = .int .i64 (i : Int)) (h : ∀ v, (svPW (T := NewT) W d).pred v w → K (a.put o.dst v) w) : o.wp Tryd.prog a w K Q := by
  obtain ⟨A, c, hv, h1, h2, h3⟩ := hx
  have hi : i < l.length := (List.getElem?_eq_some_iff.1 hd).1
  obtain ⟨b, off, rfl, hc⟩ := h3 (by omega)
  obtain ⟨dst, op, type, pos, after, guard⟩ := o
  simp only at ho
  subst ho
  refine opr_val (s := Instr.indexAt 33 (a.eval x) (a.eval y)) rfl (by rw [hv, hy]; exact run_idxH w hi) (h _ ⟨b, off + i * 32, rfl, fun j hj => hc i d hd j hj⟩)
theorem opr_ldPW {W : World} {d : Hs} (hN : NewT W w) (ho : o.op = .load 30 x) (hx : (svPW (T := NewT) W d).pred (a.eval x) w) (h : K (a.put o.dst (.agg (rowA 32 (bF d)))) w) : o.wp Tryd.prog a w K Q := by
  obtain ⟨b, off, hv, hc⟩ := hx
  exact opr_ldP ho ⟨b, off, hv, fun j hj => (hN.out.cell (p := ⟨b, off + j, none⟩) (World.block_lt_of_cell? _ _ (hc j hj))).trans (hc j hj)⟩ h
end
section
variable {a : Act} {w : World} {o : Oper} {K : Act → World → Prop} {Q : Exit → Act → World → Prop} {x y : Operand} {ls : List (List UInt8)} {k : Nat} {n : Int}
theorem opr_toT0 {W : World} (hk : k ≤ ls.length) (hn : n = (k : Int)) (ho : o.op = .slice 22 x none (some y) none) (hx : Parts W (a.eval x) ls) (hy : a.eval y = .int .i64 n) (h : ∀ v, Parts W v (ls.take k) → K (a.put o.dst v) w) : o.wp Tryd.prog a w K Q := by
  subst hn
  obtain ⟨dst, op, type, pos, after, guard⟩ := o
  simp only at ho
  subst ho
  obtain ⟨A, c, hv, hc⟩ := parts_form hx
  rw [hv] at hx
  exact opr_val (s := Instr.sliceAt 22 (a.eval x) none (some (a.eval y)) none) (by simp [execOp]) (by rw [hv, hy]; simp [Instr.sliceAt, run_underlying Tryd.underlying22]; exact run_toT w hk hc) (h _ (parts_take hx hk))
theorem opr_fromT0 {W : World} (hk : k ≤ ls.length) (hn : n = (k : Int)) (ho : o.op = .slice 22 x (some y) none none) (hx : Parts W (a.eval x) ls) (hy : a.eval y = .int .i64 n) (h : ∀ v, Parts W v (ls.drop k) → K (a.put o.dst v) w) : o.wp Tryd.prog a w K Q := by
  subst hn
  obtain ⟨dst, op, type, pos, after, guard⟩ := o
  simp only at ho
  subst ho
  obtain ⟨A, c, hv, hc⟩ := parts_form hx
  rw [hv] at hx
  exact opr_val (s := Instr.sliceAt 22 (a.eval x) (some (a.eval y)) none none) (by simp [execOp]) (by rw [hv, hy]; simp [Instr.sliceAt, run_underlying Tryd.underlying22]; exact run_fromT w hk) (h _ (parts_drop hx hk))
end
/-- Two variables that a region makes, a way and a hash, behind B: what is known of the way. -/
def JWy (p q : Tmp) (B : Nat) (X : (Nat → Value) → Prop) (a : Act) (w : World) : Prop :=
  ManyPtr [p, q] a w ∧ (∀ g, a.tmps.getD p undef = .pointer (some ⟨g, 0, none⟩) → B ≤ g ∧ ∃ f, w.rowIs g 54 36 f ∧ X f) ∧ ∀ g, a.tmps.getD q undef = .pointer (some ⟨g, 0, none⟩) → B ≤ g ∧ ∃ f, w.rowIs g 30 32 f
section
variable {p q : Tmp} {B : Nat} {X : (Nat → Value) → Prop} {a : Act} {w w' : World} {d : Option Tmp} {v : Value}
theorem JWy.keep (h : JWy p q B X a w) (hp : d ≠ some p) (hq : d ≠ some q) (hT : NewT w w') : JWy p q B X (a.put d v) w' := by
  refine ⟨h.1.keep (by intro r hr; simp at hr; rcases hr with rfl | rfl <;> assumption) hT, fun g hg => ?_, fun g hg => ?_⟩
  · rw [put_other v hp] at hg
    obtain ⟨h1, f, h2, h3⟩ := h.2.1 g hg
    exact ⟨h1, f, hT.row h2, h3⟩
  · rw [put_other v hq] at hg
    obtain ⟨h1, f, h2⟩ := h.2.2 g hg
    exact ⟨h1, f, hT.row h2⟩
theorem JWy.make {X' : (Nat → Value) → Prop} (h : JWy p q B X a w) (hpq : p ≠ q) (hB : B ≤ w.heap.size) (hX : X' (wyF (.slice none 0 0) (fun _ => 0) 0 0 (.slice none 0 0))) : JWy p q B X' (a.put (some p) (.pointer (some ⟨w.heap.size, 0, none⟩))) (w.alloc (.cells (rowA 36 (wyF (.slice none 0 0) (fun _ => 0) 0 0 (.slice none 0 0))) 54)) := by
  refine ⟨h.1.make, fun g hg => ?_, fun g hg => ?_⟩
  · rw [put_same hg]
    exact ⟨hB, _, rowIs_box w 54 36 _, hX⟩
  · rw [put_other (d := some p) _ (by simpa using hpq)] at hg
    obtain ⟨h1, f, h2⟩ := h.2.2 g hg
    exact ⟨h1, f, (NewT.alloc _ _).row h2⟩
theorem JWy.make2 (h : JWy p q B X a w) (hpq : p ≠ q) (hB : B ≤ w.heap.size) : JWy p q B X (a.put (some q) (.pointer (some ⟨w.heap.size, 0, none⟩))) (w.alloc (.cells (rowA 32 (bF fun _ => 0)) 30)) := by
  refine ⟨h.1.make, fun g hg => ?_, fun g hg => ?_⟩
  · rw [put_other (d := some q) _ (by simpa using Ne.symm hpq)] at hg
    obtain ⟨h1, f, h2, h3⟩ := h.2.1 g hg
    exact ⟨h1, f, (NewT.alloc _ _).row h2, h3⟩
  · rw [put_same hg]
    exact ⟨hB, _, rowIs_box w 30 32 _⟩
theorem JWy.put {X' : (Nat → Value) → Prop} {g : Nat} {f : Nat → Value} (h : JWy p q B X a w) (hpq : p ≠ q) (hp : a.tmps.getD p undef = .pointer (some ⟨g, 0, none⟩)) (hR : RT g w w') (hr : w'.rowIs g 54 36 f) (hX : X' f) : JWy p q B X' (a.put none v) w' := by
  have e : a.put none v = a := rfl
  rw [e]
  refine ⟨⟨fun r hr' g' hg' => Nat.lt_of_lt_of_le (h.1.1 r hr' g' hg') hR.size, h.1.2⟩, fun g' hg' => ?_, fun g' hg' => ?_⟩
  · rw [hp] at hg'
    cases hg'
    exact ⟨(h.2.1 g hp).1, f, hr, hX⟩
  · obtain ⟨h1, f', h2⟩ := h.2.2 g' hg'
    exact ⟨h1, f', hR.row (h.1.2 q (by simp) p (by simp) (Ne.symm hpq) g' g hg' hp) h2⟩
end
end Go.Proofs.YtlnedphnphabkaaDoor
/- A hash is taken from the end, or there is none: what the closures of ofAll come to. -/
namespace Go.Proofs.YtlnedphnphabkaaDoor
open Go Go.RowKit
set_option maxRecDepth 8000
set_option linter.all false
set_option maxHeartbeats 2000000 in
theorem takeP_ok (g k : Nat) (path : List Hs) (d : Hs) (w : World) (h : TkAt w g path (k + 1)) (hd : path[k]? = some d) (hk : k ≤ 1000000) :
    Calls Tryd.prog 62 #[.pointer (some ⟨g, 0, none⟩)] w fun e w' => e = .returned (.agg (rowA 32 (bF d))) ∧ RT g w w' ∧ TkAt w' g path k := by
  obtain ⟨A, c, W, hg, htw, hnw, hwg, hr, hkl⟩ := h
  have HG := Lib.hid hg.lt
  have HRD := Lib.hid hr
  have HKL := Lib.hid hkl
  have HTW := Lib.hid htw
  have HNW := Lib.hid hnw
  have HWG := Lib.hid hwg
  have HC : Hid (k + 1 ≤ c) := Lib.hid (by obtain ⟨A', c', hv, h1, _⟩ := hr; injection hv with _ _ e; omega)
  have hs := rdH_take (hnw.hs hr) hkl
  obtain ⟨L, hL⟩ : ∃ L, List.take (k + 1) path = L := ⟨_, rfl⟩
  have HLEN : Hid ((L.length : Int) = (k : Int) + 1) := Lib.hid (by rw [← hL, List.length_take]; omega)
  have HD : Hid (L[k]? = some d) := Lib.hid (by rw [← hL, List.getElem?_take, if_pos (by omega)]; exact hd)
  rw [hL] at hs
  have HS := Lib.hid hs
  clear hL hs hr hkl htw hnw hwg hd
  go_enter Tryd.func62, Tryd.ntmps62
  go_upto_region 1 with fail
  have r0 := rowIs_box w 30 32 (bF fun _ => 0)
  have hN := NewT.alloc w (.cells (rowA 32 (bF fun _ => 0)) 30)
  change Code.wp _ _ _ _ (w.alloc (.cells (rowA 32 (bF fun _ => 0)) 30))
  generalize w.alloc (.cells (rowA 32 (bF fun _ => 0)) 30) = W0 at r0 hN ⊢
  have R0 := Lib.hid r0
  have HR := Lib.hid (RT.new HG.out hN)
  have RG := Lib.hid (hN.row hg)
  replace HS := Lib.hid (hN.hs HS.out)
  clear r0 hN hg
  refine wp_region_steps0 NewT [SV.eq ((.slice A (k + 1) c)), SV.eq (.int .i64 ((List.length (L) : Int))), SV.eq (.int .i64 ((k : Int))), SV.eq (.int .i64 ((k : Int)))] [([(0, none)], none), ([(4, some 0)], none), ([(5, some 1)], none), ([(6, some 2)], none)] 18 4 rfl rfl (by kernel_rfl) NewT.trans (NewT.refl _) (Nat.le_of_ble_eq_true rfl) ⟨?_, ?_, ?_, ?_, trivial⟩ ?_
  · intro a wx hT hF K hK
    obtain ⟨f0, _⟩ := hF
    have f0 : a.tmps.getD 0 undef = .pointer (some ⟨g, 0, none⟩) := f0
    refine rely_wp rfl ?_
    exact opr_ldHs (hT.row RG.out) (by decide) rfl rfl f0 (hK _ _ (NewT.refl _) rfl)
  · intro a wx hT hF K hK
    obtain ⟨f4, _⟩ := hF
    have f4 : a.tmps.getD 4 undef = (.slice A (k + 1) c) := f4
    refine rely_wp rfl ?_
    exact opr_len_h rfl (by rw [eval_tmp, f4]; exact (hT.hs HS.out)) (hK _ _ (NewT.refl _) rfl)
  · intro a wx hT hF K hK
    obtain ⟨f5, _⟩ := hF
    have f5 : a.tmps.getD 5 undef = .int .i64 ((List.length (L) : Int)) := f5
    refine rely_wp rfl ?_
    exact opr_sub (r := (k : Int)) Tryd.underlying3 (by rw [HLEN.out]; unfold wrap64; omega) rfl f5 rfl (hK _ _ (NewT.refl _) rfl)
  · intro a wx hT hF K hK
    obtain ⟨f6, _⟩ := hF
    have f6 : a.tmps.getD 6 undef = .int .i64 ((k : Int)) := f6
    refine rely_wp rfl ?_
    exact opr_move (.inr rfl) (hK _ _ (NewT.refl _) f6)
  · intro w1 k1
    intro u h; obtain rfl := Eq.symm (h (by simp)); clear h
    intro u h; obtain rfl := Eq.symm (h (by simp)); clear h
    intro u h; obtain rfl := Eq.symm (h (by simp)); clear h
    intro u h; obtain rfl := Eq.symm (h (by simp)); clear h
    refine relyEnd_nil rfl ?_
    refine wpList_end rfl ?_
    simp only [Act.put, List.setIfInBounds_toArray, List.set_cons_zero, List.set_cons_succ]
    go_simp
    replace R0 := Lib.hid (k1.row R0.out)
    replace RG := Lib.hid (k1.row RG.out)
    replace HS := Lib.hid (k1.hs HS.out)
    replace HR := Lib.hid (RT.trans _ _ _ HR.out (RT.new (by have := HG.out; have := R0.out.lt; have := HR.out.size; omega) k1))
    clear k1 HLEN
    have t0 : ¬ (k : Int) < 0 := by omega
    go_upto_region 4 with fail
    refine wp_region_steps0 NewT [SV.eq ((.slice A (k + 1) c)), SV.eq (.int .i64 ((k : Int))), svP (d), SV.eq (.agg (rowA 32 (bF (d))))] [([(0, none)], none), ([(2, none)], none), ([(10, some 0), (11, some 1)], none), ([(12, some 2)], none)] 18 4 rfl rfl (by kernel_rfl) NewT.trans (NewT.refl _) (Nat.le_of_ble_eq_true rfl) ⟨?_, ?_, ?_, ?_, trivial⟩ ?_
    · intro a wx hT hF K hK
      obtain ⟨f0, _⟩ := hF
      have f0 : a.tmps.getD 0 undef = .pointer (some ⟨g, 0, none⟩) := f0
      refine rely_wp rfl ?_
      exact opr_ldHs (hT.row RG.out) (by decide) rfl rfl f0 (hK _ _ (NewT.refl _) rfl)
    · intro a wx hT hF K hK
      obtain ⟨f2, _⟩ := hF
      have f2 : a.tmps.getD 2 undef = .int .i64 ((k : Int)) := f2
      refine rely_wp rfl ?_
      exact opr_move (.inl rfl) (hK _ _ (NewT.refl _) f2)
    · intro a wx hT hF K hK
      obtain ⟨f10, f11, _⟩ := hF
      have f10 : a.tmps.getD 10 undef = (.slice A (k + 1) c) := f10
      have f11 : a.tmps.getD 11 undef = .int .i64 ((k : Int)) := f11
      refine rely_wp rfl ?_
      exact opr_idxH (i := k) (d := d) (HD.out) (rfl) rfl (by rw [eval_tmp, f10]; exact (hT.hs HS.out)) f11 (fun v hv => hK v _ (NewT.refl _) hv)
    · intro a wx hT hF K hK
      obtain ⟨f12, _⟩ := hF
      replace f12 := show (svP (d)).pred (a.tmps.getD 12 undef) wx from f12
      refine rely_wp rfl ?_
      exact opr_ldP rfl f12 (hK _ _ (NewT.refl _) rfl)
    · intro w2 k2
      intro u h; obtain rfl := Eq.symm (h (by simp)); clear h
      intro u h; obtain rfl := Eq.symm (h (by simp)); clear h
      intro _ _
      intro u h; obtain rfl := Eq.symm (h (by simp)); clear h
      refine relyEnd_nil rfl ?_
      simp only [Act.put, List.setIfInBounds_toArray, List.set_cons_zero, List.set_cons_succ]
      refine wpList_new (n := 32) rfl rfl rfl rfl rfl rfl (by simp) run_alloc_hash info31 (fun _ => rfl) rfl ?_
      intro w3 hn1 r3
      refine wpList_end rfl ?_
      simp only [Act.put, List.setIfInBounds_toArray, List.set_cons_zero, List.set_cons_succ]
      go_simp
      obtain ⟨p3, hp3⟩ : ∃ p, w2.heap.size = p := ⟨_, rfl⟩
      rw [hp3] at r3 ⊢
      have hk23 := NewT.trans _ _ _ k2 hn1
      have hge : w.heap.size < p3 := by have := (k2.row R0.out).lt; omega
      have R4 := Lib.hid r3
      replace R0 := Lib.hid (hk23.row R0.out)
      replace RG := Lib.hid (hk23.row RG.out)
      have hgl : g < w1.heap.size := by have := HR.out.size; have := HG.out; omega
      replace HR := Lib.hid (RT.trans _ _ _ HR.out (RT.new hgl hk23))
      have HGE := Lib.hid hge
      clear k2 hn1 r3 hk23 HD hp3 hge hgl HS
      go_upto_region 5 with fail
      refine wp_region_steps0 NewT [SV.eq ((.slice A (k + 1) c)), SV.eq (.int .i64 ((k : Int))), SV.eq ((.slice A k c))] [([(0, none)], none), ([(2, none)], none), ([(14, some 0), (15, some 1)], none)] 18 3 rfl rfl (by kernel_rfl) NewT.trans (NewT.refl _) (Nat.le_of_ble_eq_true rfl) ⟨?_, ?_, ?_, trivial⟩ ?_
      · intro a wx hT hF K hK
        obtain ⟨f0, _⟩ := hF
        have f0 : a.tmps.getD 0 undef = .pointer (some ⟨g, 0, none⟩) := f0
        refine rely_wp rfl ?_
        exact opr_ldHs (hT.row RG.out) (by decide) rfl rfl f0 (hK _ _ (NewT.refl _) rfl)
      · intro a wx hT hF K hK
        obtain ⟨f2, _⟩ := hF
        have f2 : a.tmps.getD 2 undef = .int .i64 ((k : Int)) := f2
        refine rely_wp rfl ?_
        exact opr_move (.inl rfl) (hK _ _ (NewT.refl _) f2)
      · intro a wx hT hF K hK
        obtain ⟨f14, f15, _⟩ := hF
        have f14 : a.tmps.getD 14 undef = (.slice A (k + 1) c) := f14
        have f15 : a.tmps.getD 15 undef = .int .i64 ((k : Int)) := f15
        refine rely_wp rfl ?_
        exact opr_toV (n := k + 1) (by omega) HC.out rfl f14 f15 (hK _ _ (NewT.refl _) rfl)
      · intro w4 k4
        intro u h; obtain rfl := Eq.symm (h (by simp)); clear h
        intro u h; obtain rfl := Eq.symm (h (by simp)); clear h
        intro u h; obtain rfl := Eq.symm (h (by simp)); clear h
        refine relyEnd_nil rfl ?_
        simp only [Act.put, List.setIfInBounds_toArray, List.set_cons_zero, List.set_cons_succ]
        refine wpList_plain rfl (fun K hK => ?_)
        refine opr_put1 (F := fun _ => .slice A k c) rfl rfl rfl (k4.row RG.out) (by decide) info_hs rfl (fun i hi => by rw [if_pos (by omega)]; rfl) ?_
        intro w5 hR3 rg3
        refine hK _ _ ?_
        refine wpList_end rfl ?_
        simp only [Act.put]
        go_simp
        have RTk := RT.new (R := g) (by have := RG.out.lt; omega) k4
        replace R0 := Lib.hid (hR3.row (by have := HG.out; omega) (k4.row R0.out))
        replace R4 := Lib.hid (hR3.row (by have := HG.out; have := HGE.out; omega) (k4.row R4.out))
        replace HR := Lib.hid (RT.trans _ _ _ HR.out (RT.trans _ _ _ RTk hR3))
        replace RG := Lib.hid rg3
        clear k4 hR3 rg3 RTk
        go_upto_region 6 with fail
        refine wp_region_steps0 NewT [SV.eq (.agg (rowA 32 (bF (d))))] [([(3, none)], none)] 18 1 rfl rfl (by kernel_rfl) NewT.trans (NewT.refl _) (Nat.le_of_ble_eq_true rfl) ⟨?_, trivial⟩ ?_
        · intro a wx hT hF K hK
          obtain ⟨f3, _⟩ := hF
          have f3 : a.tmps.getD 3 undef = .pointer (some ⟨p3, 0, none⟩) := f3
          refine rely_wp rfl ?_
          exact opr_load_hash rfl f3 (hT.row R4.out) (hK _ _ (NewT.refl _) rfl)
        · intro w6 hT
          intro u h; obtain rfl := Eq.symm (h (by simp)); clear h
          refine relyEnd_nil rfl ?_
          simp only [Act.put, List.setIfInBounds_toArray, List.set_cons_zero, List.set_cons_succ]
          refine wpList_plain rfl (fun K hK => ?_)
          refine opr_putm (F := bF d) rfl rfl rfl (hT.row R0.out) (by decide) info31 (fun _ => rfl) (fun i hi => by rw [if_pos (by omega), Nat.sub_zero]) ?_
          intro w7 hR7 r7
          refine hK _ _ ?_
          refine wpList_end rfl ?_
          simp only [Act.put]
          go_simp
          go_wp2
          have hend := RT.late2 (RT.trans _ _ _ HR.out (RT.new (by have := RG.out.lt; omega) hT)) (Nat.le_refl _) HG.out hR7
          exact bodyPost_ret (results_row rfl _ rfl r7 Tryd.underlying30 info31) rfl ⟨rfl, hend, A, c, W, hR7.row (by have := HG.out; omega) (hT.row RG.out), HTW.out, NewT.of (HNW.out.out.trans (hend.below.mono HWG.out)), HWG.out, HRD.out, by have := HKL.out; omega⟩
set_option maxHeartbeats 1000000 in
theorem takeP_no (g : Nat) (path : List Hs) (w : World) (h : TkAt w g path 0) :
    Calls Tryd.prog 62 #[.pointer (some ⟨g, 0, none⟩)] w fun e w' => e = .panicked fewP ∧ RT g w w' := by
  obtain ⟨A, c, W, hg, htw, hnw, hwg, hr, hkl⟩ := h
  have HG := Lib.hid hg.lt
  have hs := rdH_take (hnw.hs hr) hkl
  rw [List.take_zero] at hs
  have HS := Lib.hid hs
  clear hs hr hkl htw hnw hwg
  go_enter Tryd.func62, Tryd.ntmps62
  go_upto_region 1 with fail
  have hN := NewT.alloc w (.cells (rowA 32 (bF fun _ => 0)) 30)
  change Code.wp _ _ _ _ (w.alloc (.cells (rowA 32 (bF fun _ => 0)) 30))
  generalize w.alloc (.cells (rowA 32 (bF fun _ => 0)) 30) = W0 at hN ⊢
  have HR := Lib.hid hN
  have RG := Lib.hid (hN.row hg)
  replace HS := Lib.hid (hN.hs HS.out)
  clear hN hg
  refine wp_region_steps0 NewT [SV.eq ((.slice A 0 c)), SV.eq (.int .i64 ((List.length (([] : List Hs)) : Int))), SV.eq (.int .i64 ((-1 : Int))), SV.eq (.int .i64 ((-1 : Int)))] [([(0, none)], none), ([(4, some 0)], none), ([(5, some 1)], none), ([(6, some 2)], none)] 18 4 rfl rfl (by kernel_rfl) NewT.trans (NewT.refl _) (Nat.le_of_ble_eq_true rfl) ⟨?_, ?_, ?_, ?_, trivial⟩ ?_
  · intro a wx hT hF K hK
    obtain ⟨f0, _⟩ := hF
    have f0 : a.tmps.getD 0 undef = .pointer (some ⟨g, 0, none⟩) := f0
    refine rely_wp rfl ?_
    exact opr_ldHs (hT.row RG.out) (by decide) rfl rfl f0 (hK _ _ (NewT.refl _) rfl)
  · intro a wx hT hF K hK
    obtain ⟨f4, _⟩ := hF
    have f4 : a.tmps.getD 4 undef = (.slice A 0 c) := f4
    refine rely_wp rfl ?_
    exact opr_len_h rfl (by rw [eval_tmp, f4]; exact (hT.hs HS.out)) (hK _ _ (NewT.refl _) rfl)
  · intro a wx hT hF K hK
    obtain ⟨f5, _⟩ := hF
    have f5 : a.tmps.getD 5 undef = .int .i64 ((List.length (([] : List Hs)) : Int)) := f5
    refine rely_wp rfl ?_
    exact opr_sub (r := (-1 : Int)) Tryd.underlying3 (by unfold wrap64; simp) rfl f5 rfl (hK _ _ (NewT.refl _) rfl)
  · intro a wx hT hF K hK
    obtain ⟨f6, _⟩ := hF
    have f6 : a.tmps.getD 6 undef = .int .i64 ((-1 : Int)) := f6
    refine rely_wp rfl ?_
    exact opr_move (.inr rfl) (hK _ _ (NewT.refl _) f6)
  · intro w1 k1
    intro u h; obtain rfl := Eq.symm (h (by simp)); clear h
    intro u h; obtain rfl := Eq.symm (h (by simp)); clear h
    intro u h; obtain rfl := Eq.symm (h (by simp)); clear h
    intro u h; obtain rfl := Eq.symm (h (by simp)); clear h
    refine relyEnd_nil rfl ?_
    refine wpList_end rfl ?_
    simp only [Act.put, List.setIfInBounds_toArray, List.set_cons_zero, List.set_cons_succ]
    go_simp
    replace HR := Lib.hid (NewT.trans _ _ _ HR.out k1)
    clear k1
    go_wp2
    exact ⟨rfl, rfl, RT.new HG.out HR.out⟩
end Go.Proofs.YtlnedphnphabkaaDoor
/- The root above a leaf, by hashes that are taken: what rootAbove comes to. -/
namespace Go.Proofs.YtlnedphnphabkaaDoor
open Go Go.RowKit
set_option maxRecDepth 8000
set_option linter.all false
set_option maxHeartbeats 1000000 in
theorem rootAbove_1 (leaf : Hs) (i : Int) (v : Value) (w : World) : Calls Tryd.prog 42 #[.agg (rowA 32 (bF leaf)), .int .i64 i, .int .i64 1, v] w fun e w' => e = .returned (.agg (rowA 32 (bF leaf))) ∧ NewT w w' := by
  go_enter Tryd.func42, Tryd.ntmps42
  go_upto_region 2 with fail
  have r1 := (rowIs_box w 30 32 (bF leaf)).alloc (.cells (rowA 32 (bF fun _ => 0)) 30)
  have r0 := rowIs_box (w.alloc (.cells (rowA 32 (bF leaf)) 30)) 30 32 (bF fun _ => 0)
  rw [World.size_alloc] at r0
  have hN : NewT w ((w.alloc (.cells (rowA 32 (bF leaf)) 30)).alloc (.cells (rowA 32 (bF fun _ => 0)) 30)) := NewT.trans _ _ _ (NewT.alloc _ _) (NewT.alloc _ _)
  change Code.wp _ _ _ _ ((w.alloc (.cells (rowA 32 (bF leaf)) 30)).alloc (.cells (rowA 32 (bF fun _ => 0)) 30))
  generalize ((w.alloc (.cells (rowA 32 (bF leaf)) 30)).alloc (.cells (rowA 32 (bF fun _ => 0)) 30)) = W0 at r0 r1 hN ⊢
  have R0 := Lib.hid r0
  have R1 := Lib.hid r1
  have HN := Lib.hid hN
  clear r0 r1 hN
  refine wp_region_steps0 NewT [SV.eq (.agg (rowA 32 (bF (leaf))))] [([(4, none)], none)] 39 1 rfl rfl (by kernel_rfl) NewT.trans (NewT.refl _) (Nat.le_of_ble_eq_true rfl) ⟨?_, trivial⟩ ?_
  · intro a wx hT hF K hK
    obtain ⟨f4, _⟩ := hF
    have f4 : a.tmps.getD 4 undef = .pointer (some ⟨w.heap.size, 0, none⟩) := f4
    refine rely_wp rfl ?_
    exact opr_load_hash rfl f4 (hT.row R1.out) (hK _ _ (NewT.refl _) rfl)
  · intro wx hT
    intro u h; obtain rfl := Eq.symm (h (by simp)); clear h
    refine relyEnd_nil rfl ?_
    simp only [Act.put, List.setIfInBounds_toArray, List.set_cons_zero, List.set_cons_succ]
    refine wpList_plain rfl (fun K hK => ?_)
    refine opr_store_new (B := w.heap.size) (W := w) info31 rfl rfl rfl (hT.row R0.out) (NewT.trans _ _ _ HN.out hT) (by omega) ?_
    intro w9 hB9 r9
    refine hK _ _ ?_
    refine wpList_end rfl ?_
    simp only [Act.put]
    go_simp
    go_wp2
    exact bodyPost_ret (results_row rfl _ rfl r9 Tryd.underlying30 info31) rfl ⟨rfl, NewT.of hB9⟩
set_option maxHeartbeats 1000000 in
theorem rootAbove_0n (leaf : Hs) (i n s g : Nat) (path : List Hs) (w : World) (hn : 2 ≤ n) (hs : ∀ w, Cv 43 #[.int .i64 (n : Int)] w (.eq (.int .i64 (s : Int)))) (h : TkAt w g path 0) :
    Calls Tryd.prog 42 #[.agg (rowA 32 (bF leaf)), .int .i64 (i : Int), .int .i64 (n : Int), .func (.func 62) #[] #[.pointer (some ⟨g, 0, none⟩)]] w fun e w' => e = .panicked fewP ∧ RT g w w' := by
  have HG := Lib.hid h.lt
  have HTK := Lib.hid h
  have HSP := Lib.hid hs
  have t1 : ((n : Int) == 1) = false := beq_eq_false_iff_ne.2 (by omega)
  clear h hs
  go_enter Tryd.func42, Tryd.ntmps42
  go_upto_region 3 with fail
  clear t1
  have r1 := (rowIs_box w 30 32 (bF leaf)).alloc (.cells (rowA 32 (bF fun _ => 0)) 30)
  have r0 := rowIs_box (w.alloc (.cells (rowA 32 (bF leaf)) 30)) 30 32 (bF fun _ => 0)
  rw [World.size_alloc] at r0
  have hN : NewT w ((w.alloc (.cells (rowA 32 (bF leaf)) 30)).alloc (.cells (rowA 32 (bF fun _ => 0)) 30)) := NewT.trans _ _ _ (NewT.alloc _ _) (NewT.alloc _ _)
  change Code.wp _ _ _ _ ((w.alloc (.cells (rowA 32 (bF leaf)) 30)).alloc (.cells (rowA 32 (bF fun _ => 0)) 30))
  generalize ((w.alloc (.cells (rowA 32 (bF leaf)) 30)).alloc (.cells (rowA 32 (bF fun _ => 0)) 30)) = W0 at r0 r1 hN ⊢
  have R0 := Lib.hid r0
  have R1 := Lib.hid r1
  have HN := Lib.hid hN
  clear r0 r1 hN
  refine wp_region_steps0 NewT [SV.eq (.int .i64 ((n : Int))), SV.eq (.int .i64 ((s : Int))), SV.eq (.int .i64 ((s : Int)))] [([(2, none)], none), ([(14, some 0)], none), ([(15, some 1)], none)] 39 3 rfl rfl (by kernel_rfl) NewT.trans (NewT.refl _) (Nat.le_of_ble_eq_true rfl) ⟨?_, ?_, ?_, trivial⟩ ?_
  · intro a wx hT hF K hK
    obtain ⟨f2, _⟩ := hF
    have f2 : a.tmps.getD 2 undef = .int .i64 ((n : Int)) := f2
    refine rely_wp rfl ?_
    exact opr_move (.inl rfl) (hK _ _ (NewT.refl _) f2)
  · intro a wx hT hF K hK
    obtain ⟨f14, _⟩ := hF
    have f14 : a.tmps.getD 14 undef = .int .i64 ((n : Int)) := f14
    refine rely_wp rfl ?_
    exact opr_cv (HSP.out wx) rfl Tryd.func43 (by kernel_rfl) (by kernel_rfl) (by simp only [List.map_toArray, List.map_cons, List.map_nil, eval_tmp, f14]) hK
  · intro a wx hT hF K hK
    obtain ⟨f15, _⟩ := hF
    have f15 : a.tmps.getD 15 undef = .int .i64 ((s : Int)) := f15
    refine rely_wp rfl ?_
    exact opr_move (.inr rfl) (hK _ _ (NewT.refl _) f15)
  · intro w3 k3
    intro u h; obtain rfl := Eq.symm (h (by simp)); clear h
    intro u h; obtain rfl := Eq.symm (h (by simp)); clear h
    intro u h; obtain rfl := Eq.symm (h (by simp)); clear h
    refine relyEnd_nil rfl ?_
    refine wpList_end rfl ?_
    simp only [Act.put, List.setIfInBounds_toArray, List.set_cons_zero, List.set_cons_succ]
    go_simp
    replace HTK := Lib.hid (HTK.out.new (NewT.trans _ _ _ HN.out k3))
    replace R0 := Lib.hid (k3.row R0.out)
    replace R1 := Lib.hid (k3.row R1.out)
    have HR := Lib.hid (RT.new HG.out (NewT.trans _ _ _ HN.out k3))
    clear k3 HN HSP
    go_upto_region 4 with fail
    refine wp_region_lit ?_
    refine wpList_plain rfl (fun K hK => ?_)
    refine opr_move (.inl rfl) (hK _ _ ?_)
    clear hK K
    refine wpList_plain rfl (fun K hK => ?_)
    refine opr_callvP (cap := #[.pointer (some ⟨g, 0, none⟩)]) rfl rfl Tryd.func62 (by kernel_rfl) (by kernel_rfl) (vs := #[.pointer (some ⟨g, 0, none⟩)]) (by simp only [List.map_toArray, List.map_nil]; rfl) ((takeP_no g path _ HTK.out).mono ?_)
    rintro e w4 ⟨rfl, hR4⟩
    exact ⟨_, rfl, rfl, rfl, RT.trans _ _ _ HR.out hR4⟩
set_option maxRecDepth 20000 in
set_option maxHeartbeats 2000000 in
theorem rootAbove_lk {node : Hs → Hs → Hs} {z : Hs} (hX : TreeH node z) (leaf x d : Hs) (i n s g k kk : Nat) (path : List Hs) (w : World) (hn : 2 ≤ n) (hn2 : n ≤ 1048576) (hin : i < n) (hsn : s < n) (hsi : i < s) (hs : ∀ w, Cv 43 #[.int .i64 (n : Int)] w (.eq (.int .i64 (s : Int)))) (h : TkAt w g path (k + 1)) (hd : path[k]? = some d) (hk : k ≤ 1000000)
    (ih : ∀ w, TkAt w g path k → Calls Tryd.prog 42 #[.agg (rowA 32 (bF leaf)), .int .i64 (i : Int), .int .i64 (s : Int), .func (.func 62) #[] #[.pointer (some ⟨g, 0, none⟩)]] w fun e w' => e = .returned (.agg (rowA 32 (bF x))) ∧ RT g w w' ∧ TkAt w' g path kk) :
    Calls Tryd.prog 42 #[.agg (rowA 32 (bF leaf)), .int .i64 (i : Int), .int .i64 (n : Int), .func (.func 62) #[] #[.pointer (some ⟨g, 0, none⟩)]] w fun e w' => e = .returned (.agg (rowA 32 (bF (node x d)))) ∧ RT g w w' ∧ TkAt w' g path kk := by
  have HD := Lib.hid hd
  have HK := Lib.hid hk
  have IH := Lib.hid ih
  clear hd hk ih
  have HG := Lib.hid h.lt
  have HTK := Lib.hid h
  have HSP := Lib.hid hs
  have t1 : ((n : Int) == 1) = false := beq_eq_false_iff_ne.2 (by omega)
  clear h hs
  go_enter Tryd.func42, Tryd.ntmps42
  go_upto_region 3 with fail
  clear t1
  have r1 := (rowIs_box w 30 32 (bF leaf)).alloc (.cells (rowA 32 (bF fun _ => 0)) 30)
  have r0 := rowIs_box (w.alloc (.cells (rowA 32 (bF leaf)) 30)) 30 32 (bF fun _ => 0)
  rw [World.size_alloc] at r0
  have hN : NewT w ((w.alloc (.cells (rowA 32 (bF leaf)) 30)).alloc (.cells (rowA 32 (bF fun _ => 0)) 30)) := NewT.trans _ _ _ (NewT.alloc _ _) (NewT.alloc _ _)
  change Code.wp _ _ _ _ ((w.alloc (.cells (rowA 32 (bF leaf)) 30)).alloc (.cells (rowA 32 (bF fun _ => 0)) 30))
  generalize ((w.alloc (.cells (rowA 32 (bF leaf)) 30)).alloc (.cells (rowA 32 (bF fun _ => 0)) 30)) = W0 at r0 r1 hN ⊢
  have R0 := Lib.hid r0
  have R1 := Lib.hid r1
  have HN := Lib.hid hN
  clear r0 r1 hN
  refine wp_region_steps0 NewT [SV.eq (.int .i64 ((n : Int))), SV.eq (.int .i64 ((s : Int))), SV.eq (.int .i64 ((s : Int)))] [([(2, none)], none), ([(14, some 0)], none), ([(15, some 1)], none)] 39 3 rfl rfl (by kernel_rfl) NewT.trans (NewT.refl _) (Nat.le_of_ble_eq_true rfl) ⟨?_, ?_, ?_, trivial⟩ ?_
  · intro a wx hT hF K hK
    obtain ⟨f2, _⟩ := hF
    have f2 : a.tmps.getD 2 undef = .int .i64 ((n : Int)) := f2
    refine rely_wp rfl ?_
    exact opr_move (.inl rfl) (hK _ _ (NewT.refl _) f2)
  · intro a wx hT hF K hK
    obtain ⟨f14, _⟩ := hF
    have f14 : a.tmps.getD 14 undef = .int .i64 ((n : Int)) := f14
    refine rely_wp rfl ?_
    exact opr_cv (HSP.out wx) rfl Tryd.func43 (by kernel_rfl) (by kernel_rfl) (by simp only [List.map_toArray, List.map_cons, List.map_nil, eval_tmp, f14]) hK
  · intro a wx hT hF K hK
    obtain ⟨f15, _⟩ := hF
    have f15 : a.tmps.getD 15 undef = .int .i64 ((s : Int)) := f15
    refine rely_wp rfl ?_
    exact opr_move (.inr rfl) (hK _ _ (NewT.refl _) f15)
  · intro w3 k3
    intro u h; obtain rfl := Eq.symm (h (by simp)); clear h
    intro u h; obtain rfl := Eq.symm (h (by simp)); clear h
    intro u h; obtain rfl := Eq.symm (h (by simp)); clear h
    refine relyEnd_nil rfl ?_
    refine wpList_end rfl ?_
    simp only [Act.put, List.setIfInBounds_toArray, List.set_cons_zero, List.set_cons_succ]
    go_simp
    replace HTK := Lib.hid (HTK.out.new (NewT.trans _ _ _ HN.out k3))
    replace R0 := Lib.hid (k3.row R0.out)
    replace R1 := Lib.hid (k3.row R1.out)
    have HR := Lib.hid (RT.new HG.out (NewT.trans _ _ _ HN.out k3))
    clear k3 HN HSP
    go_upto_region 4 with fail
    refine wp_region_lit ?_
    refine wpList_plain rfl (fun K hK => ?_)
    refine opr_move (.inl rfl) (hK _ _ ?_)
    clear hK K
    refine wpList_plain rfl (fun K hK => ?_)
    refine opr_callv (cap := #[.pointer (some ⟨g, 0, none⟩)]) rfl rfl Tryd.func62 (by kernel_rfl) (by kernel_rfl) (vs := #[.pointer (some ⟨g, 0, none⟩)]) (by simp only [List.map_toArray, List.map_nil]; rfl) ((takeP_ok g k path d _ HTK.out HD.out HK.out).mono ?_)
    rintro e w4 ⟨rfl, hR4, hk4⟩
    refine ⟨_, rfl, hK _ _ ?_⟩
    clear hK K
    simp only [Act.put, List.setIfInBounds_toArray, List.set_cons_zero, List.set_cons_succ]
    refine wpList_new (n := 32) rfl rfl rfl rfl rfl rfl (by simp) run_alloc_hash info31 (fun _ => rfl) rfl ?_
    intro w5 hn5 r5
    refine wpList_end rfl ?_
    simp only [Act.put, List.setIfInBounds_toArray, List.set_cons_zero, List.set_cons_succ]
    go_simp
    have hg := HG.out
    have hle := HR.out.size
    obtain ⟨p10, hp10⟩ : ∃ p, w4.heap.size = p := ⟨_, rfl⟩
    rw [hp10] at r5 ⊢
    have hge : g < p10 := by have := hR4.size; omega
    have R10 := Lib.hid r5
    replace R0 := Lib.hid (hn5.row (hR4.row (by omega) R0.out))
    replace R1 := Lib.hid (hn5.row (hR4.row (by omega) R1.out))
    replace HTK := Lib.hid (hk4.new hn5)
    replace HR := Lib.hid (RT.trans _ _ _ HR.out (RT.trans _ _ _ hR4 (RT.new hk4.lt hn5)))
    have HGL := Lib.hid HTK.out.lt
    clear hk4 hR4 r5 hn5 HD HK hp10 hle
    have t5 : (i : Int) < (s : Int) := by omega
    go_upto_region 6 with fail
    refine wp_region_relyX (RT g) (fun j w => TkAt w g path (match j with | 0 => k | _ => kk)) [SV.eq (.agg (rowA 32 (bF (leaf)))), SV.eq (.int .i64 ((i : Int))), SV.eq (.int .i64 ((s : Int))), SV.eq (.func (.func 62) #[] #[.pointer (some ⟨g, 0, none⟩)]), SV.eq (.agg (rowA 32 (bF (x)))), SV.eq (.agg (rowA 32 (bF (d)))), SV.eq (.agg (rowA 32 (bF (node (x) (d)))))] [([(4, none)], none), ([(1, none)], none), ([(9, none)], none), ([(3, none)], none), ([(21, some 0), (22, some 1), (23, some 2), (24, some 3)], none), ([(10, none)], none), ([(25, some 4), (26, some 5)], none)] [none, none, none, none, some 0, none, none] [4] 39 rfl (by kernel_rfl) rfl (by kernel_rfl) (by kernel_rfl) rfl (by kernel_rfl) RT.trans (RT.drew _ _) (TkAt.new HTK.out (NewT.drew _)) (Nat.le_of_ble_eq_true rfl) ⟨?_, ?_, ?_, ?_, ?_, ?_, ?_, trivial⟩ ?_
    · intro a wx hT hF K hK
      replace hK := fun v w' (hN : NewT wx w') hv => hK v w' (RT.new (Nat.lt_of_lt_of_le HGL.out hT.size) hN) (fun k h => TkAt.new h hN) hv
      obtain ⟨f4, _⟩ := hF
      have f4 : a.tmps.getD 4 undef = .pointer (some ⟨w.heap.size, 0, none⟩) := f4
      refine rely_wp rfl ?_
      exact opr_load_hash rfl f4 (hT.row (by omega) R1.out) (hK _ _ (NewT.refl _) rfl)
    · intro a wx hT hF K hK
      replace hK := fun v w' (hN : NewT wx w') hv => hK v w' (RT.new (Nat.lt_of_lt_of_le HGL.out hT.size) hN) (fun k h => TkAt.new h hN) hv
      obtain ⟨f1, _⟩ := hF
      have f1 : a.tmps.getD 1 undef = .int .i64 ((i : Int)) := f1
      refine rely_wp rfl ?_
      exact opr_move (.inl rfl) (hK _ _ (NewT.refl _) f1)
    · intro a wx hT hF K hK
      replace hK := fun v w' (hN : NewT wx w') hv => hK v w' (RT.new (Nat.lt_of_lt_of_le HGL.out hT.size) hN) (fun k h => TkAt.new h hN) hv
      obtain ⟨f9, _⟩ := hF
      have f9 : a.tmps.getD 9 undef = .int .i64 ((s : Int)) := f9
      refine rely_wp rfl ?_
      exact opr_move (.inl rfl) (hK _ _ (NewT.refl _) f9)
    · intro a wx hT hF K hK
      replace hK := fun v w' (hN : NewT wx w') hv => hK v w' (RT.new (Nat.lt_of_lt_of_le HGL.out hT.size) hN) (fun k h => TkAt.new h hN) hv
      obtain ⟨f3, _⟩ := hF
      have f3 : a.tmps.getD 3 undef = .func (.func 62) #[] #[.pointer (some ⟨g, 0, none⟩)] := f3
      refine rely_wp rfl ?_
      exact opr_move (.inl rfl) (hK _ _ (NewT.refl _) f3)
    · intro a wx hT hF hJ K hK
      obtain ⟨f21, f22, f23, f24, _⟩ := hF
      have f21 : a.tmps.getD 21 undef = .agg (rowA 32 (bF (leaf))) := f21
      have f22 : a.tmps.getD 22 undef = .int .i64 ((i : Int)) := f22
      have f23 : a.tmps.getD 23 undef = .int .i64 ((s : Int)) := f23
      have f24 : a.tmps.getD 24 undef = .func (.func 62) #[] #[.pointer (some ⟨g, 0, none⟩)] := f24
      refine rely_wp rfl ?_
      refine opr_call rfl Tryd.func42 (by kernel_rfl) (by kernel_rfl) (by simp only [List.map_toArray, List.map_cons, List.map_nil, eval_tmp, f21, f22, f23, f24]) ((IH.out wx hJ).mono ?_)
      rintro e w' ⟨rfl, hR, hk'⟩
      exact ⟨_, rfl, hK _ _ hR hk' rfl⟩
    · intro a wx hT hF K hK
      replace hK := fun v w' (hN : NewT wx w') hv => hK v w' (RT.new (Nat.lt_of_lt_of_le HGL.out hT.size) hN) (fun k h => TkAt.new h hN) hv
      obtain ⟨f10, _⟩ := hF
      have f10 : a.tmps.getD 10 undef = .pointer (some ⟨p10, 0, none⟩) := f10
      refine rely_wp rfl ?_
      exact opr_load_hash rfl f10 (hT.row (by omega) R10.out) (hK _ _ (NewT.refl _) rfl)
    · intro a wx hT hF K hK
      replace hK := fun v w' (hN : NewT wx w') hv => hK v w' (RT.new (Nat.lt_of_lt_of_le HGL.out hT.size) hN) (fun k h => TkAt.new h hN) hv
      obtain ⟨f25, f26, _⟩ := hF
      have f25 : a.tmps.getD 25 undef = .agg (rowA 32 (bF (x))) := f25
      have f26 : a.tmps.getD 26 undef = .agg (rowA 32 (bF (d))) := f26
      refine rely_wp rfl ?_
      exact opr_cv (Node_cv hX (x) (d) wx (HTK.out.tabs hT)) rfl Tryd.func26 (by kernel_rfl) (by kernel_rfl) (by simp only [List.map_toArray, List.map_cons, List.map_nil, eval_tmp, f25, f26]) hK
    · intro w8 hT hJ
      intro u h; obtain rfl := Eq.symm (h (by simp)); clear h
      intro u h; obtain rfl := Eq.symm (h (by simp)); clear h
      intro u h; obtain rfl := Eq.symm (h (by simp)); clear h
      intro u h; obtain rfl := Eq.symm (h (by simp)); clear h
      intro u h; obtain rfl := Eq.symm (h (by simp)); clear h
      intro u h; obtain rfl := Eq.symm (h (by simp)); clear h
      intro u h; obtain rfl := Eq.symm (h (by simp)); clear h
      refine relyEnd_nil rfl ?_
      simp only [Act.put, List.setIfInBounds_toArray, List.set_cons_zero, List.set_cons_succ]
      refine opr_putm (F := bF (node x d)) rfl rfl rfl (hT.row (by omega) R0.out) (by decide) info31 (fun _ => rfl) (fun i hi => by rw [if_pos (by omega), Nat.sub_zero]) ?_
      intro w9 hR9 r9
      go_simp
      go_wp2
      exact bodyPost_ret (results_row rfl _ rfl r9 Tryd.underlying30 info31) rfl ⟨rfl, RT.late2 (RT.trans _ _ _ HR.out hT) (Nat.le_succ _) HG.out hR9, TkAt.late hJ hR9 (by have := HG.out; omega)⟩
set_option maxRecDepth 20000 in
set_option maxHeartbeats 2000000 in
theorem rootAbove_ln {node : Hs → Hs → Hs} {z : Hs} (hX : TreeH node z) (leaf d : Hs) (i n s g k kk : Nat) (path : List Hs) (w : World) (hn : 2 ≤ n) (hn2 : n ≤ 1048576) (hin : i < n) (hsn : s < n) (hsi : i < s) (hs : ∀ w, Cv 43 #[.int .i64 (n : Int)] w (.eq (.int .i64 (s : Int)))) (h : TkAt w g path (k + 1)) (hd : path[k]? = some d) (hk : k ≤ 1000000)
    (ih : ∀ w, TkAt w g path k → Calls Tryd.prog 42 #[.agg (rowA 32 (bF leaf)), .int .i64 (i : Int), .int .i64 (s : Int), .func (.func 62) #[] #[.pointer (some ⟨g, 0, none⟩)]] w fun e w' => e = .panicked fewP ∧ RT g w w') :
    Calls Tryd.prog 42 #[.agg (rowA 32 (bF leaf)), .int .i64 (i : Int), .int .i64 (n : Int), .func (.func 62) #[] #[.pointer (some ⟨g, 0, none⟩)]] w fun e w' => e = .panicked fewP ∧ RT g w w' := by
  have HD := Lib.hid hd
  have HK := Lib.hid hk
  have IH := Lib.hid ih
  clear hd hk ih
  have HG := Lib.hid h.lt
  have HTK := Lib.hid h
  have HSP := Lib.hid hs
  have t1 : ((n : Int) == 1) = false := beq_eq_false_iff_ne.2 (by omega)
  clear h hs
  go_enter Tryd.func42, Tryd.ntmps42
  go_upto_region 3 with fail
  clear t1
  have r1 := (rowIs_box w 30 32 (bF leaf)).alloc (.cells (rowA 32 (bF fun _ => 0)) 30)
  have r0 := rowIs_box (w.alloc (.cells (rowA 32 (bF leaf)) 30)) 30 32 (bF fun _ => 0)
  rw [World.size_alloc] at r0
  have hN : NewT w ((w.alloc (.cells (rowA 32 (bF leaf)) 30)).alloc (.cells (rowA 32 (bF fun _ => 0)) 30)) := NewT.trans _ _ _ (NewT.alloc _ _) (NewT.alloc _ _)
  change Code.wp _ _ _ _ ((w.alloc (.cells (rowA 32 (bF leaf)) 30)).alloc (.cells (rowA 32 (bF fun _ => 0)) 30))
  generalize ((w.alloc (.cells (rowA 32 (bF leaf)) 30)).alloc (.cells (rowA 32 (bF fun _ => 0)) 30)) = W0 at r0 r1 hN ⊢
  have R0 := Lib.hid r0
  have R1 := Lib.hid r1
  have HN := Lib.hid hN
  clear r0 r1 hN
  refine wp_region_steps0 NewT [SV.eq (.int .i64 ((n : Int))), SV.eq (.int .i64 ((s : Int))), SV.eq (.int .i64 ((s : Int)))] [([(2, none)], none), ([(14, some 0)], none), ([(15, some 1)], none)] 39 3 rfl rfl (by kernel_rfl) NewT.trans (NewT.refl _) (Nat.le_of_ble_eq_true rfl) ⟨?_, ?_, ?_, trivial⟩ ?_
  · intro a wx hT hF K hK
    obtain ⟨f2, _⟩ := hF
    have f2 : a.tmps.getD 2 undef = .int .i64 ((n : Int)) := f2
    refine rely_wp rfl ?_
    exact opr_move (.inl rfl) (hK _ _ (NewT.refl _) f2)
  · intro a wx hT hF K hK
    obtain ⟨f14, _⟩ := hF
    have f14 : a.tmps.getD 14 undef = .int .i64 ((n : Int)) := f14
    refine rely_wp rfl ?_
    exact opr_cv (HSP.out wx) rfl Tryd.func43 (by kernel_rfl) (by kernel_rfl) (by simp only [List.map_toArray, List.map_cons, List.map_nil, eval_tmp, f14]) hK
  · intro a wx hT hF K hK
    obtain ⟨f15, _⟩ := hF
    have f15 : a.tmps.getD 15 undef = .int .i64 ((s : Int)) := f15
    refine rely_wp rfl ?_
    exact opr_move (.inr rfl) (hK _ _ (NewT.refl _) f15)
  · intro w3 k3
    intro u h; obtain rfl := Eq.symm (h (by simp)); clear h
    intro u h; obtain rfl := Eq.symm (h (by simp)); clear h
    intro u h; obtain rfl := Eq.symm (h (by simp)); clear h
    refine relyEnd_nil rfl ?_
    refine wpList_end rfl ?_
    simp only [Act.put, List.setIfInBounds_toArray, List.set_cons_zero, List.set_cons_succ]
    go_simp
    replace HTK := Lib.hid (HTK.out.new (NewT.trans _ _ _ HN.out k3))
    replace R0 := Lib.hid (k3.row R0.out)
    replace R1 := Lib.hid (k3.row R1.out)
    have HR := Lib.hid (RT.new HG.out (NewT.trans _ _ _ HN.out k3))
    clear k3 HN HSP
    go_upto_region 4 with fail
    refine wp_region_lit ?_
    refine wpList_plain rfl (fun K hK => ?_)
    refine opr_move (.inl rfl) (hK _ _ ?_)
    clear hK K
    refine wpList_plain rfl (fun K hK => ?_)
    refine opr_callv (cap := #[.pointer (some ⟨g, 0, none⟩)]) rfl rfl Tryd.func62 (by kernel_rfl) (by kernel_rfl) (vs := #[.pointer (some ⟨g, 0, none⟩)]) (by simp only [List.map_toArray, List.map_nil]; rfl) ((takeP_ok g k path d _ HTK.out HD.out HK.out).mono ?_)
    rintro e w4 ⟨rfl, hR4, hk4⟩
    refine ⟨_, rfl, hK _ _ ?_⟩
    clear hK K
    simp only [Act.put, List.setIfInBounds_toArray, List.set_cons_zero, List.set_cons_succ]
    refine wpList_new (n := 32) rfl rfl rfl rfl rfl rfl (by simp) run_alloc_hash info31 (fun _ => rfl) rfl ?_
    intro w5 hn5 r5
    refine wpList_end rfl ?_
    simp only [Act.put, List.setIfInBounds_toArray, List.set_cons_zero, List.set_cons_succ]
    go_simp
    have hg := HG.out
    have hle := HR.out.size
    obtain ⟨p10, hp10⟩ : ∃ p, w4.heap.size = p := ⟨_, rfl⟩
    rw [hp10] at r5 ⊢
    have hge : g < p10 := by have := hR4.size; omega
    have R10 := Lib.hid r5
    replace R0 := Lib.hid (hn5.row (hR4.row (by omega) R0.out))
    replace R1 := Lib.hid (hn5.row (hR4.row (by omega) R1.out))
    replace HTK := Lib.hid (hk4.new hn5)
    replace HR := Lib.hid (RT.trans _ _ _ HR.out (RT.trans _ _ _ hR4 (RT.new hk4.lt hn5)))
    have HGL := Lib.hid HTK.out.lt
    clear hk4 hR4 r5 hn5 HD HK hp10 hle
    have t5 : (i : Int) < (s : Int) := by omega
    go_upto_region 6 with fail
    refine wp_region_relyX (RT g) (fun j w => TkAt w g path (match j with | 0 => k | _ => kk)) [SV.eq (.agg (rowA 32 (bF (leaf)))), SV.eq (.int .i64 ((i : Int))), SV.eq (.int .i64 ((s : Int))), SV.eq (.func (.func 62) #[] #[.pointer (some ⟨g, 0, none⟩)]), svNo, SV.eq (.agg (rowA 32 (bF (d)))), SV.eq (.agg (rowA 32 (bF (z))))] [([(4, none)], none), ([(1, none)], none), ([(9, none)], none), ([(3, none)], none), ([(21, some 0), (22, some 1), (23, some 2), (24, some 3)], none), ([(10, none)], none), ([(25, some 4), (26, some 5)], none)] [none, none, none, none, some 0, none, none] [4] 39 rfl (by kernel_rfl) rfl (by kernel_rfl) (by kernel_rfl) rfl (by kernel_rfl) RT.trans (RT.drew _ _) (TkAt.new HTK.out (NewT.drew _)) (Nat.le_of_ble_eq_true rfl) ⟨?_, ?_, ?_, ?_, ?_, ?_, ?_, trivial⟩ ?_
    · intro a wx hT hF K hK
      replace hK := fun v w' (hN : NewT wx w') hv => hK v w' (RT.new (Nat.lt_of_lt_of_le HGL.out hT.size) hN) (fun k h => TkAt.new h hN) hv
      obtain ⟨f4, _⟩ := hF
      have f4 : a.tmps.getD 4 undef = .pointer (some ⟨w.heap.size, 0, none⟩) := f4
      refine rely_wp rfl ?_
      exact opr_load_hash rfl f4 (hT.row (by omega) R1.out) (hK _ _ (NewT.refl _) rfl)
    · intro a wx hT hF K hK
      replace hK := fun v w' (hN : NewT wx w') hv => hK v w' (RT.new (Nat.lt_of_lt_of_le HGL.out hT.size) hN) (fun k h => TkAt.new h hN) hv
      obtain ⟨f1, _⟩ := hF
      have f1 : a.tmps.getD 1 undef = .int .i64 ((i : Int)) := f1
      refine rely_wp rfl ?_
      exact opr_move (.inl rfl) (hK _ _ (NewT.refl _) f1)
    · intro a wx hT hF K hK
      replace hK := fun v w' (hN : NewT wx w') hv => hK v w' (RT.new (Nat.lt_of_lt_of_le HGL.out hT.size) hN) (fun k h => TkAt.new h hN) hv
      obtain ⟨f9, _⟩ := hF
      have f9 : a.tmps.getD 9 undef = .int .i64 ((s : Int)) := f9
      refine rely_wp rfl ?_
      exact opr_move (.inl rfl) (hK _ _ (NewT.refl _) f9)
    · intro a wx hT hF K hK
      replace hK := fun v w' (hN : NewT wx w') hv => hK v w' (RT.new (Nat.lt_of_lt_of_le HGL.out hT.size) hN) (fun k h => TkAt.new h hN) hv
      obtain ⟨f3, _⟩ := hF
      have f3 : a.tmps.getD 3 undef = .func (.func 62) #[] #[.pointer (some ⟨g, 0, none⟩)] := f3
      refine rely_wp rfl ?_
      exact opr_move (.inl rfl) (hK _ _ (NewT.refl _) f3)
    · intro a wx hT hF hJ K hK
      obtain ⟨f21, f22, f23, f24, _⟩ := hF
      have f21 : a.tmps.getD 21 undef = .agg (rowA 32 (bF (leaf))) := f21
      have f22 : a.tmps.getD 22 undef = .int .i64 ((i : Int)) := f22
      have f23 : a.tmps.getD 23 undef = .int .i64 ((s : Int)) := f23
      have f24 : a.tmps.getD 24 undef = .func (.func 62) #[] #[.pointer (some ⟨g, 0, none⟩)] := f24
      refine rely_wp rfl ?_
      refine opr_callP rfl Tryd.func42 (by kernel_rfl) (by kernel_rfl) (by simp only [List.map_toArray, List.map_cons, List.map_nil, eval_tmp, f21, f22, f23, f24]) ((IH.out wx hJ).mono ?_)
      rintro e w' ⟨rfl, hR⟩
      exact ⟨_, rfl, fun hd => ⟨hd, rfl, RT.trans _ _ _ HR.out (RT.trans _ _ _ hT hR)⟩⟩
    · intro a wx hT hF K hK
      replace hK := fun v w' (hN : NewT wx w') hv => hK v w' (RT.new (Nat.lt_of_lt_of_le HGL.out hT.size) hN) (fun k h => TkAt.new h hN) hv
      obtain ⟨f10, _⟩ := hF
      have f10 : a.tmps.getD 10 undef = .pointer (some ⟨p10, 0, none⟩) := f10
      refine rely_wp rfl ?_
      exact opr_load_hash rfl f10 (hT.row (by omega) R10.out) (hK _ _ (NewT.refl _) rfl)
    · intro a wx hT hF K hK
      replace hK := fun v w' (hN : NewT wx w') hv => hK v w' (RT.new (Nat.lt_of_lt_of_le HGL.out hT.size) hN) (fun k h => TkAt.new h hN) hv
      obtain ⟨f25, f26, _⟩ := hF
      replace f25 := show (svNo).pred (a.tmps.getD 25 undef) wx from f25
      have f26 : a.tmps.getD 26 undef = .agg (rowA 32 (bF (d))) := f26
      refine rely_wp rfl ?_
      exact (show False from f25).elim
    · intro w8 hT hJ
      intro u h; obtain rfl := Eq.symm (h (by simp)); clear h
      intro u h; obtain rfl := Eq.symm (h (by simp)); clear h
      intro u h; obtain rfl := Eq.symm (h (by simp)); clear h
      intro u h; obtain rfl := Eq.symm (h (by simp)); clear h
      intro u25 h; have g25 := h (by simp); clear h; replace g25 := show (svNo).pred u25 w8 from g25
      intro u h; obtain rfl := Eq.symm (h (by simp)); clear h
      intro u h; obtain rfl := Eq.symm (h (by simp)); clear h
      refine relyEnd_nil rfl ?_
      simp only [Act.put, List.setIfInBounds_toArray, List.set_cons_zero, List.set_cons_succ]
      exact (show False from g25).elim
set_option maxRecDepth 20000 in
set_option maxHeartbeats 2000000 in
theorem rootAbove_rk {node : Hs → Hs → Hs} {z : Hs} (hX : TreeH node z) (leaf x d : Hs) (i n s g k kk : Nat) (path : List Hs) (w : World) (hn : 2 ≤ n) (hn2 : n ≤ 1048576) (hin : i < n) (hsn : s < n) (hsi : ¬ i < s) (hs : ∀ w, Cv 43 #[.int .i64 (n : Int)] w (.eq (.int .i64 (s : Int)))) (h : TkAt w g path (k + 1)) (hd : path[k]? = some d) (hk : k ≤ 1000000)
    (ih : ∀ w, TkAt w g path k → Calls Tryd.prog 42 #[.agg (rowA 32 (bF leaf)), .int .i64 ((i - s : Nat) : Int), .int .i64 ((n - s : Nat) : Int), .func (.func 62) #[] #[.pointer (some ⟨g, 0, none⟩)]] w fun e w' => e = .returned (.agg (rowA 32 (bF x))) ∧ RT g w w' ∧ TkAt w' g path kk) :
    Calls Tryd.prog 42 #[.agg (rowA 32 (bF leaf)), .int .i64 (i : Int), .int .i64 (n : Int), .func (.func 62) #[] #[.pointer (some ⟨g, 0, none⟩)]] w fun e w' => e = .returned (.agg (rowA 32 (bF (node d x)))) ∧ RT g w w' ∧ TkAt w' g path kk := by
  have HD := Lib.hid hd
  have HK := Lib.hid hk
  have IH := Lib.hid ih
  clear hd hk ih
  have HG := Lib.hid h.lt
  have HTK := Lib.hid h
  have HSP := Lib.hid hs
  have t1 : ((n : Int) == 1) = false := beq_eq_false_iff_ne.2 (by omega)
  clear h hs
  go_enter Tryd.func42, Tryd.ntmps42
  go_upto_region 3 with fail
  clear t1
  have r1 := (rowIs_box w 30 32 (bF leaf)).alloc (.cells (rowA 32 (bF fun _ => 0)) 30)
  have r0 := rowIs_box (w.alloc (.cells (rowA 32 (bF leaf)) 30)) 30 32 (bF fun _ => 0)
  rw [World.size_alloc] at r0
  have hN : NewT w ((w.alloc (.cells (rowA 32 (bF leaf)) 30)).alloc (.cells (rowA 32 (bF fun _ => 0)) 30)) := NewT.trans _ _ _ (NewT.alloc _ _) (NewT.alloc _ _)
  change Code.wp _ _ _ _ ((w.alloc (.cells (rowA 32 (bF leaf)) 30)).alloc (.cells (rowA 32 (bF fun _ => 0)) 30))
  generalize ((w.alloc (.cells (rowA 32 (bF leaf)) 30)).alloc (.cells (rowA 32 (bF fun _ => 0)) 30)) = W0 at r0 r1 hN ⊢
  have R0 := Lib.hid r0
  have R1 := Lib.hid r1
  have HN := Lib.hid hN
  clear r0 r1 hN
  refine wp_region_steps0 NewT [SV.eq (.int .i64 ((n : Int))), SV.eq (.int .i64 ((s : Int))), SV.eq (.int .i64 ((s : Int)))] [([(2, none)], none), ([(14, some 0)], none), ([(15, some 1)], none)] 39 3 rfl rfl (by kernel_rfl) NewT.trans (NewT.refl _) (Nat.le_of_ble_eq_true rfl) ⟨?_, ?_, ?_, trivial⟩ ?_
  · intro a wx hT hF K hK
    obtain ⟨f2, _⟩ := hF
    have f2 : a.tmps.getD 2 undef = .int .i64 ((n : Int)) := f2
    refine rely_wp rfl ?_
    exact opr_move (.inl rfl) (hK _ _ (NewT.refl _) f2)
  · intro a wx hT hF K hK
    obtain ⟨f14, _⟩ := hF
    have f14 : a.tmps.getD 14 undef = .int .i64 ((n : Int)) := f14
    refine rely_wp rfl ?_
    exact opr_cv (HSP.out wx) rfl Tryd.func43 (by kernel_rfl) (by kernel_rfl) (by simp only [List.map_toArray, List.map_cons, List.map_nil, eval_tmp, f14]) hK
  · intro a wx hT hF K hK
    obtain ⟨f15, _⟩ := hF
    have f15 : a.tmps.getD 15 undef = .int .i64 ((s : Int)) := f15
    refine rely_wp rfl ?_
    exact opr_move (.inr rfl) (hK _ _ (NewT.refl _) f15)
  · intro w3 k3
    intro u h; obtain rfl := Eq.symm (h (by simp)); clear h
    intro u h; obtain rfl := Eq.symm (h (by simp)); clear h
    intro u h; obtain rfl := Eq.symm (h (by simp)); clear h
    refine relyEnd_nil rfl ?_
    refine wpList_end rfl ?_
    simp only [Act.put, List.setIfInBounds_toArray, List.set_cons_zero, List.set_cons_succ]
    go_simp
    replace HTK := Lib.hid (HTK.out.new (NewT.trans _ _ _ HN.out k3))
    replace R0 := Lib.hid (k3.row R0.out)
    replace R1 := Lib.hid (k3.row R1.out)
    have HR := Lib.hid (RT.new HG.out (NewT.trans _ _ _ HN.out k3))
    clear k3 HN HSP
    go_upto_region 4 with fail
    refine wp_region_lit ?_
    refine wpList_plain rfl (fun K hK => ?_)
    refine opr_move (.inl rfl) (hK _ _ ?_)
    clear hK K
    refine wpList_plain rfl (fun K hK => ?_)
    refine opr_callv (cap := #[.pointer (some ⟨g, 0, none⟩)]) rfl rfl Tryd.func62 (by kernel_rfl) (by kernel_rfl) (vs := #[.pointer (some ⟨g, 0, none⟩)]) (by simp only [List.map_toArray, List.map_nil]; rfl) ((takeP_ok g k path d _ HTK.out HD.out HK.out).mono ?_)
    rintro e w4 ⟨rfl, hR4, hk4⟩
    refine ⟨_, rfl, hK _ _ ?_⟩
    clear hK K
    simp only [Act.put, List.setIfInBounds_toArray, List.set_cons_zero, List.set_cons_succ]
    refine wpList_new (n := 32) rfl rfl rfl rfl rfl rfl (by simp) run_alloc_hash info31 (fun _ => rfl) rfl ?_
    intro w5 hn5 r5
    refine wpList_end rfl ?_
    simp only [Act.put, List.setIfInBounds_toArray, List.set_cons_zero, List.set_cons_succ]
    go_simp
    have hg := HG.out
    have hle := HR.out.size
    obtain ⟨p10, hp10⟩ : ∃ p, w4.heap.size = p := ⟨_, rfl⟩
    rw [hp10] at r5 ⊢
    have hge : g < p10 := by have := hR4.size; omega
    have R10 := Lib.hid r5
    replace R0 := Lib.hid (hn5.row (hR4.row (by omega) R0.out))
    replace R1 := Lib.hid (hn5.row (hR4.row (by omega) R1.out))
    replace HTK := Lib.hid (hk4.new hn5)
    replace HR := Lib.hid (RT.trans _ _ _ HR.out (RT.trans _ _ _ hR4 (RT.new hk4.lt hn5)))
    have HGL := Lib.hid HTK.out.lt
    clear hk4 hR4 r5 hn5 HD HK hp10 hle
    have t5 : ¬ (i : Int) < (s : Int) := by omega
    go_upto_region 7 with fail
    refine wp_region_relyX (RT g) (fun j w => TkAt w g path (match j with | 0 => k | _ => kk)) [SV.eq (.agg (rowA 32 (bF (d)))), SV.eq (.agg (rowA 32 (bF (leaf)))), SV.eq (.int .i64 ((i : Int))), SV.eq (.int .i64 ((s : Int))), SV.eq (.int .i64 (((i - s : Nat) : Int))), SV.eq (.int .i64 ((n : Int))), SV.eq (.int .i64 ((s : Int))), SV.eq (.int .i64 (((n - s : Nat) : Int))), SV.eq (.func (.func 62) #[] #[.pointer (some ⟨g, 0, none⟩)]), SV.eq (.agg (rowA 32 (bF (x)))), SV.eq (.agg (rowA 32 (bF (node (d) (x)))))] [([(10, none)], none), ([(4, none)], none), ([(1, none)], none), ([(9, none)], none), ([(30, some 2), (31, some 3)], none), ([(2, none)], none), ([(9, none)], none), ([(33, some 5), (34, some 6)], none), ([(3, none)], none), ([(29, some 1), (32, some 4), (35, some 7), (36, some 8)], none), ([(28, some 0), (37, some 9)], none)] [none, none, none, none, none, none, none, none, none, some 0, none] [9] 39 rfl (by kernel_rfl) rfl (by kernel_rfl) (by kernel_rfl) rfl (by kernel_rfl) RT.trans (RT.drew _ _) (TkAt.new HTK.out (NewT.drew _)) (Nat.le_of_ble_eq_true rfl) ⟨?_, ?_, ?_, ?_, ?_, ?_, ?_, ?_, ?_, ?_, ?_, trivial⟩ ?_
    · intro a wx hT hF K hK
      replace hK := fun v w' (hN : NewT wx w') hv => hK v w' (RT.new (Nat.lt_of_lt_of_le HGL.out hT.size) hN) (fun k h => TkAt.new h hN) hv
      obtain ⟨f10, _⟩ := hF
      have f10 : a.tmps.getD 10 undef = .pointer (some ⟨p10, 0, none⟩) := f10
      refine rely_wp rfl ?_
      exact opr_load_hash rfl f10 (hT.row (by omega) R10.out) (hK _ _ (NewT.refl _) rfl)
    · intro a wx hT hF K hK
      replace hK := fun v w' (hN : NewT wx w') hv => hK v w' (RT.new (Nat.lt_of_lt_of_le HGL.out hT.size) hN) (fun k h => TkAt.new h hN) hv
      obtain ⟨f4, _⟩ := hF
      have f4 : a.tmps.getD 4 undef = .pointer (some ⟨w.heap.size, 0, none⟩) := f4
      refine rely_wp rfl ?_
      exact opr_load_hash rfl f4 (hT.row (by omega) R1.out) (hK _ _ (NewT.refl _) rfl)
    · intro a wx hT hF K hK
      replace hK := fun v w' (hN : NewT wx w') hv => hK v w' (RT.new (Nat.lt_of_lt_of_le HGL.out hT.size) hN) (fun k h => TkAt.new h hN) hv
      obtain ⟨f1, _⟩ := hF
      have f1 : a.tmps.getD 1 undef = .int .i64 ((i : Int)) := f1
      refine rely_wp rfl ?_
      exact opr_move (.inl rfl) (hK _ _ (NewT.refl _) f1)
    · intro a wx hT hF K hK
      replace hK := fun v w' (hN : NewT wx w') hv => hK v w' (RT.new (Nat.lt_of_lt_of_le HGL.out hT.size) hN) (fun k h => TkAt.new h hN) hv
      obtain ⟨f9, _⟩ := hF
      have f9 : a.tmps.getD 9 undef = .int .i64 ((s : Int)) := f9
      refine rely_wp rfl ?_
      exact opr_move (.inl rfl) (hK _ _ (NewT.refl _) f9)
    · intro a wx hT hF K hK
      replace hK := fun v w' (hN : NewT wx w') hv => hK v w' (RT.new (Nat.lt_of_lt_of_le HGL.out hT.size) hN) (fun k h => TkAt.new h hN) hv
      obtain ⟨f30, f31, _⟩ := hF
      have f30 : a.tmps.getD 30 undef = .int .i64 ((i : Int)) := f30
      have f31 : a.tmps.getD 31 undef = .int .i64 ((s : Int)) := f31
      refine rely_wp rfl ?_
      exact opr_sub (r := ((i - s : Nat) : Int)) Tryd.underlying3 (by unfold wrap64; omega) rfl f30 f31 (hK _ _ (NewT.refl _) rfl)
    · intro a wx hT hF K hK
      replace hK := fun v w' (hN : NewT wx w') hv => hK v w' (RT.new (Nat.lt_of_lt_of_le HGL.out hT.size) hN) (fun k h => TkAt.new h hN) hv
      obtain ⟨f2, _⟩ := hF
      have f2 : a.tmps.getD 2 undef = .int .i64 ((n : Int)) := f2
      refine rely_wp rfl ?_
      exact opr_move (.inl rfl) (hK _ _ (NewT.refl _) f2)
    · intro a wx hT hF K hK
      replace hK := fun v w' (hN : NewT wx w') hv => hK v w' (RT.new (Nat.lt_of_lt_of_le HGL.out hT.size) hN) (fun k h => TkAt.new h hN) hv
      obtain ⟨f9, _⟩ := hF
      have f9 : a.tmps.getD 9 undef = .int .i64 ((s : Int)) := f9
      refine rely_wp rfl ?_
      exact opr_move (.inl rfl) (hK _ _ (NewT.refl _) f9)
    · intro a wx hT hF K hK
      replace hK := fun v w' (hN : NewT wx w') hv => hK v w' (RT.new (Nat.lt_of_lt_of_le HGL.out hT.size) hN) (fun k h => TkAt.new h hN) hv
      obtain ⟨f33, f34, _⟩ := hF
      have f33 : a.tmps.getD 33 undef = .int .i64 ((n : Int)) := f33
      have f34 : a.tmps.getD 34 undef = .int .i64 ((s : Int)) := f34
      refine rely_wp rfl ?_
      exact opr_sub (r := ((n - s : Nat) : Int)) Tryd.underlying3 (by unfold wrap64; omega) rfl f33 f34 (hK _ _ (NewT.refl _) rfl)
    · intro a wx hT hF K hK
      replace hK := fun v w' (hN : NewT wx w') hv => hK v w' (RT.new (Nat.lt_of_lt_of_le HGL.out hT.size) hN) (fun k h => TkAt.new h hN) hv
      obtain ⟨f3, _⟩ := hF
      have f3 : a.tmps.getD 3 undef = .func (.func 62) #[] #[.pointer (some ⟨g, 0, none⟩)] := f3
      refine rely_wp rfl ?_
      exact opr_move (.inl rfl) (hK _ _ (NewT.refl _) f3)
    · intro a wx hT hF hJ K hK
      obtain ⟨f29, f32, f35, f36, _⟩ := hF
      have f29 : a.tmps.getD 29 undef = .agg (rowA 32 (bF (leaf))) := f29
      have f32 : a.tmps.getD 32 undef = .int .i64 (((i - s : Nat) : Int)) := f32
      have f35 : a.tmps.getD 35 undef = .int .i64 (((n - s : Nat) : Int)) := f35
      have f36 : a.tmps.getD 36 undef = .func (.func 62) #[] #[.pointer (some ⟨g, 0, none⟩)] := f36
      refine rely_wp rfl ?_
      refine opr_call rfl Tryd.func42 (by kernel_rfl) (by kernel_rfl) (by simp only [List.map_toArray, List.map_cons, List.map_nil, eval_tmp, f29, f32, f35, f36]) ((IH.out wx hJ).mono ?_)
      rintro e w' ⟨rfl, hR, hk'⟩
      exact ⟨_, rfl, hK _ _ hR hk' rfl⟩
    · intro a wx hT hF K hK
      replace hK := fun v w' (hN : NewT wx w') hv => hK v w' (RT.new (Nat.lt_of_lt_of_le HGL.out hT.size) hN) (fun k h => TkAt.new h hN) hv
      obtain ⟨f28, f37, _⟩ := hF
      have f28 : a.tmps.getD 28 undef = .agg (rowA 32 (bF (d))) := f28
      have f37 : a.tmps.getD 37 undef = .agg (rowA 32 (bF (x))) := f37
      refine rely_wp rfl ?_
      exact opr_cv (Node_cv hX (d) (x) wx (HTK.out.tabs hT)) rfl Tryd.func26 (by kernel_rfl) (by kernel_rfl) (by simp only [List.map_toArray, List.map_cons, List.map_nil, eval_tmp, f28, f37]) hK
    · intro w8 hT hJ
      intro u h; obtain rfl := Eq.symm (h (by simp)); clear h
      intro u h; obtain rfl := Eq.symm (h (by simp)); clear h
      intro u h; obtain rfl := Eq.symm (h (by simp)); clear h
      intro u h; obtain rfl := Eq.symm (h (by simp)); clear h
      intro u h; obtain rfl := Eq.symm (h (by simp)); clear h
      intro u h; obtain rfl := Eq.symm (h (by simp)); clear h
      intro u h; obtain rfl := Eq.symm (h (by simp)); clear h
      intro u h; obtain rfl := Eq.symm (h (by simp)); clear h
      intro u h; obtain rfl := Eq.symm (h (by simp)); clear h
      intro u h; obtain rfl := Eq.symm (h (by simp)); clear h
      intro u h; obtain rfl := Eq.symm (h (by simp)); clear h
      refine relyEnd_nil rfl ?_
      simp only [Act.put, List.setIfInBounds_toArray, List.set_cons_zero, List.set_cons_succ]
      refine opr_putm (F := bF (node d x)) rfl rfl rfl (hT.row (by omega) R0.out) (by decide) info31 (fun _ => rfl) (fun i hi => by rw [if_pos (by omega), Nat.sub_zero]) ?_
      intro w9 hR9 r9
      go_simp
      go_wp2
      exact bodyPost_ret (results_row rfl _ rfl r9 Tryd.underlying30 info31) rfl ⟨rfl, RT.late2 (RT.trans _ _ _ HR.out hT) (Nat.le_succ _) HG.out hR9, TkAt.late hJ hR9 (by have := HG.out; omega)⟩
set_option maxRecDepth 20000 in
set_option maxHeartbeats 2000000 in
theorem rootAbove_rn {node : Hs → Hs → Hs} {z : Hs} (hX : TreeH node z) (leaf d : Hs) (i n s g k kk : Nat) (path : List Hs) (w : World) (hn : 2 ≤ n) (hn2 : n ≤ 1048576) (hin : i < n) (hsn : s < n) (hsi : ¬ i < s) (hs : ∀ w, Cv 43 #[.int .i64 (n : Int)] w (.eq (.int .i64 (s : Int)))) (h : TkAt w g path (k + 1)) (hd : path[k]? = some d) (hk : k ≤ 1000000)
    (ih : ∀ w, TkAt w g path k → Calls Tryd.prog 42 #[.agg (rowA 32 (bF leaf)), .int .i64 ((i - s : Nat) : Int), .int .i64 ((n - s : Nat) : Int), .func (.func 62) #[] #[.pointer (some ⟨g, 0, none⟩)]] w fun e w' => e = .panicked fewP ∧ RT g w w') :
    Calls Tryd.prog 42 #[.agg (rowA 32 (bF leaf)), .int .i64 (i : Int), .int .i64 (n : Int), .func (.func 62) #[] #[.pointer (some ⟨g, 0, none⟩)]] w fun e w' => e = .panicked fewP ∧ RT g w w' := by
  have HD := Lib.hid hd
  have HK := Lib.hid hk
  have IH := Lib.hid ih
  clear hd hk ih
  have HG := Lib.hid h.lt
  have HTK := Lib.hid h
  have HSP := Lib.hid hs
  have t1 : ((n : Int) == 1) = false := beq_eq_false_iff_ne.2 (by omega)
  clear h hs
  go_enter Tryd.func42, Tryd.ntmps42
  go_upto_region 3 with fail
  clear t1
  have r1 := (rowIs_box w 30 32 (bF leaf)).alloc (.cells (rowA 32 (bF fun _ => 0)) 30)
  have r0 := rowIs_box (w.alloc (.cells (rowA 32 (bF leaf)) 30)) 30 32 (bF fun _ => 0)
  rw [World.size_alloc] at r0
  have hN : NewT w ((w.alloc (.cells (rowA 32 (bF leaf)) 30)).alloc (.cells (rowA 32 (bF fun _ => 0)) 30)) := NewT.trans _ _ _ (NewT.alloc _ _) (NewT.alloc _ _)
  change Code.wp _ _ _ _ ((w.alloc (.cells (rowA 32 (bF leaf)) 30)).alloc (.cells (rowA 32 (bF fun _ => 0)) 30))
  generalize ((w.alloc (.cells (rowA 32 (bF leaf)) 30)).alloc (.cells (rowA 32 (bF fun _ => 0)) 30)) = W0 at r0 r1 hN ⊢
  have R0 := Lib.hid r0
  have R1 := Lib.hid r1
  have HN := Lib.hid hN
  clear r0 r1 hN
  refine wp_region_steps0 NewT [SV.eq (.int .i64 ((n : Int))), SV.eq (.int .i64 ((s : Int))), SV.eq (.int .i64 ((s : Int)))] [([(2, none)], none), ([(14, some 0)], none), ([(15, some 1)], none)] 39 3 rfl rfl (by kernel_rfl) NewT.trans (NewT.refl _) (Nat.le_of_ble_eq_true rfl) ⟨?_, ?_, ?_, trivial⟩ ?_
  · intro a wx hT hF K hK
    obtain ⟨f2, _⟩ := hF
    have f2 : a.tmps.getD 2 undef = .int .i64 ((n : Int)) := f2
    refine rely_wp rfl ?_
    exact opr_move (.inl rfl) (hK _ _ (NewT.refl _) f2)
  · intro a wx hT hF K hK
    obtain ⟨f14, _⟩ := hF
    have f14 : a.tmps.getD 14 undef = .int .i64 ((n : Int)) := f14
    refine rely_wp rfl ?_
    exact opr_cv (HSP.out wx) rfl Tryd.func43 (by kernel_rfl) (by kernel_rfl) (by simp only [List.map_toArray, List.map_cons, List.map_nil, eval_tmp, f14]) hK
  · intro a wx hT hF K hK
    obtain ⟨f15, _⟩ := hF
    have f15 : a.tmps.getD 15 undef = .int .i64 ((s : Int)) := f15
    refine rely_wp rfl ?_
    exact opr_move (.inr rfl) (hK _ _ (NewT.refl _) f15)
  · intro w3 k3
    intro u h; obtain rfl := Eq.symm (h (by simp)); clear h
    intro u h; obtain rfl := Eq.symm (h (by simp)); clear h
    intro u h; obtain rfl := Eq.symm (h (by simp)); clear h
    refine relyEnd_nil rfl ?_
    refine wpList_end rfl ?_
    simp only [Act.put, List.setIfInBounds_toArray, List.set_cons_zero, List.set_cons_succ]
    go_simp
    replace HTK := Lib.hid (HTK.out.new (NewT.trans _ _ _ HN.out k3))
    replace R0 := Lib.hid (k3.row R0.out)
    replace R1 := Lib.hid (k3.row R1.out)
    have HR := Lib.hid (RT.new HG.out (NewT.trans _ _ _ HN.out k3))
    clear k3 HN HSP
    go_upto_region 4 with fail
    refine wp_region_lit ?_
    refine wpList_plain rfl (fun K hK => ?_)
    refine opr_move (.inl rfl) (hK _ _ ?_)
    clear hK K
    refine wpList_plain rfl (fun K hK => ?_)
    refine opr_callv (cap := #[.pointer (some ⟨g, 0, none⟩)]) rfl rfl Tryd.func62 (by kernel_rfl) (by kernel_rfl) (vs := #[.pointer (some ⟨g, 0, none⟩)]) (by simp only [List.map_toArray, List.map_nil]; rfl) ((takeP_ok g k path d _ HTK.out HD.out HK.out).mono ?_)
    rintro e w4 ⟨rfl, hR4, hk4⟩
    refine ⟨_, rfl, hK _ _ ?_⟩
    clear hK K
    simp only [Act.put, List.setIfInBounds_toArray, List.set_cons_zero, List.set_cons_succ]
    refine wpList_new (n := 32) rfl rfl rfl rfl rfl rfl (by simp) run_alloc_hash info31 (fun _ => rfl) rfl ?_
    intro w5 hn5 r5
    refine wpList_end rfl ?_
    simp only [Act.put, List.setIfInBounds_toArray, List.set_cons_zero, List.set_cons_succ]
    go_simp
    have hg := HG.out
    have hle := HR.out.size
    obtain ⟨p10, hp10⟩ : ∃ p, w4.heap.size = p := ⟨_, rfl⟩
    rw [hp10] at r5 ⊢
    have hge : g < p10 := by have := hR4.size; omega
    have R10 := Lib.hid r5
    replace R0 := Lib.hid (hn5.row (hR4.row (by omega) R0.out))
    replace R1 := Lib.hid (hn5.row (hR4.row (by omega) R1.out))
    replace HTK := Lib.hid (hk4.new hn5)
    replace HR := Lib.hid (RT.trans _ _ _ HR.out (RT.trans _ _ _ hR4 (RT.new hk4.lt hn5)))
    have HGL := Lib.hid HTK.out.lt
    clear hk4 hR4 r5 hn5 HD HK hp10 hle
    have t5 : ¬ (i : Int) < (s : Int) := by omega
    go_upto_region 7 with fail
    refine wp_region_relyX (RT g) (fun j w => TkAt w g path (match j with | 0 => k | _ => kk)) [SV.eq (.agg (rowA 32 (bF (d)))), SV.eq (.agg (rowA 32 (bF (leaf)))), SV.eq (.int .i64 ((i : Int))), SV.eq (.int .i64 ((s : Int))), SV.eq (.int .i64 (((i - s : Nat) : Int))), SV.eq (.int .i64 ((n : Int))), SV.eq (.int .i64 ((s : Int))), SV.eq (.int .i64 (((n - s : Nat) : Int))), SV.eq (.func (.func 62) #[] #[.pointer (some ⟨g, 0, none⟩)]), svNo, SV.eq (.agg (rowA 32 (bF (z))))] [([(10, none)], none), ([(4, none)], none), ([(1, none)], none), ([(9, none)], none), ([(30, some 2), (31, some 3)], none), ([(2, none)], none), ([(9, none)], none), ([(33, some 5), (34, some 6)], none), ([(3, none)], none), ([(29, some 1), (32, some 4), (35, some 7), (36, some 8)], none), ([(28, some 0), (37, some 9)], none)] [none, none, none, none, none, none, none, none, none, some 0, none] [9] 39 rfl (by kernel_rfl) rfl (by kernel_rfl) (by kernel_rfl) rfl (by kernel_rfl) RT.trans (RT.drew _ _) (TkAt.new HTK.out (NewT.drew _)) (Nat.le_of_ble_eq_true rfl) ⟨?_, ?_, ?_, ?_, ?_, ?_, ?_, ?_, ?_, ?_, ?_, trivial⟩ ?_
    · intro a wx hT hF K hK
      replace hK := fun v w' (hN : NewT wx w') hv => hK v w' (RT.new (Nat.lt_of_lt_of_le HGL.out hT.size) hN) (fun k h => TkAt.new h hN) hv
      obtain ⟨f10, _⟩ := hF
      have f10 : a.tmps.getD 10 undef = .pointer (some ⟨p10, 0, none⟩) := f10
      refine rely_wp rfl ?_
      exact opr_load_hash rfl f10 (hT.row (by omega) R10.out) (hK _ _ (NewT.refl _) rfl)
    · intro a wx hT hF K hK
      replace hK := fun v w' (hN : NewT wx w') hv => hK v w' (RT.new (Nat.lt_of_lt_of_le HGL.out hT.size) hN) (fun k h => TkAt.new h hN) hv
      obtain ⟨f4, _⟩ := hF
      have f4 : a.tmps.getD 4 undef = .pointer (some ⟨w.heap.size, 0, none⟩) := f4
      refine rely_wp rfl ?_
      exact opr_load_hash rfl f4 (hT.row (by omega) R1.out) (hK _ _ (NewT.refl _) rfl)
    · intro a wx hT hF K hK
      replace hK := fun v w' (hN : NewT wx w') hv => hK v w' (RT.new (Nat.lt_of_lt_of_le HGL.out hT.size) hN) (fun k h => TkAt.new h hN) hv
      obtain ⟨f1, _⟩ := hF
      have f1 : a.tmps.getD 1 undef = .int .i64 ((i : Int)) := f1
      refine rely_wp rfl ?_
      exact opr_move (.inl rfl) (hK _ _ (NewT.refl _) f1)
    · intro a wx hT hF K hK
      replace hK := fun v w' (hN : NewT wx w') hv => hK v w' (RT.new (Nat.lt_of_lt_of_le HGL.out hT.size) hN) (fun k h => TkAt.new h hN) hv
      obtain ⟨f9, _⟩ := hF
      have f9 : a.tmps.getD 9 undef = .int .i64 ((s : Int)) := f9
      refine rely_wp rfl ?_
      exact opr_move (.inl rfl) (hK _ _ (NewT.refl _) f9)
    · intro a wx hT hF K hK
      replace hK := fun v w' (hN : NewT wx w') hv => hK v w' (RT.new (Nat.lt_of_lt_of_le HGL.out hT.size) hN) (fun k h => TkAt.new h hN) hv
      obtain ⟨f30, f31, _⟩ := hF
      have f30 : a.tmps.getD 30 undef = .int .i64 ((i : Int)) := f30
      have f31 : a.tmps.getD 31 undef = .int .i64 ((s : Int)) := f31
      refine rely_wp rfl ?_
      exact opr_sub (r := ((i - s : Nat) : Int)) Tryd.underlying3 (by unfold wrap64; omega) rfl f30 f31 (hK _ _ (NewT.refl _) rfl)
    · intro a wx hT hF K hK
      replace hK := fun v w' (hN : NewT wx w') hv => hK v w' (RT.new (Nat.lt_of_lt_of_le HGL.out hT.size) hN) (fun k h => TkAt.new h hN) hv
      obtain ⟨f2, _⟩ := hF
      have f2 : a.tmps.getD 2 undef = .int .i64 ((n : Int)) := f2
      refine rely_wp rfl ?_
      exact opr_move (.inl rfl) (hK _ _ (NewT.refl _) f2)
    · intro a wx hT hF K hK
      replace hK := fun v w' (hN : NewT wx w') hv => hK v w' (RT.new (Nat.lt_of_lt_of_le HGL.out hT.size) hN) (fun k h => TkAt.new h hN) hv
      obtain ⟨f9, _⟩ := hF
      have f9 : a.tmps.getD 9 undef = .int .i64 ((s : Int)) := f9
      refine rely_wp rfl ?_
      exact opr_move (.inl rfl) (hK _ _ (NewT.refl _) f9)
    · intro a wx hT hF K hK
      replace hK := fun v w' (hN : NewT wx w') hv => hK v w' (RT.new (Nat.lt_of_lt_of_le HGL.out hT.size) hN) (fun k h => TkAt.new h hN) hv
      obtain ⟨f33, f34, _⟩ := hF
      have f33 : a.tmps.getD 33 undef = .int .i64 ((n : Int)) := f33
      have f34 : a.tmps.getD 34 undef = .int .i64 ((s : Int)) := f34
      refine rely_wp rfl ?_
      exact opr_sub (r := ((n - s : Nat) : Int)) Tryd.underlying3 (by unfold wrap64; omega) rfl f33 f34 (hK _ _ (NewT.refl _) rfl)
    · intro a wx hT hF K hK
      replace hK := fun v w' (hN : NewT wx w') hv => hK v w' (RT.new (Nat.lt_of_lt_of_le HGL.out hT.size) hN) (fun k h => TkAt.new h hN) hv
      obtain ⟨f3, _⟩ := hF
      have f3 : a.tmps.getD 3 undef = .func (.func 62) #[] #[.pointer (some ⟨g, 0, none⟩)] := f3
      refine rely_wp rfl ?_
      exact opr_move (.inl rfl) (hK _ _ (NewT.refl _) f3)
    · intro a wx hT hF hJ K hK
      obtain ⟨f29, f32, f35, f36, _⟩ := hF
      have f29 : a.tmps.getD 29 undef = .agg (rowA 32 (bF (leaf))) := f29
      have f32 : a.tmps.getD 32 undef = .int .i64 (((i - s : Nat) : Int)) := f32
      have f35 : a.tmps.getD 35 undef = .int .i64 (((n - s : Nat) : Int)) := f35
      have f36 : a.tmps.getD 36 undef = .func (.func 62) #[] #[.pointer (some ⟨g, 0, none⟩)] := f36
      refine rely_wp rfl ?_
      refine opr_callP rfl Tryd.func42 (by kernel_rfl) (by kernel_rfl) (by simp only [List.map_toArray, List.map_cons, List.map_nil, eval_tmp, f29, f32, f35, f36]) ((IH.out wx hJ).mono ?_)
      rintro e w' ⟨rfl, hR⟩
      exact ⟨_, rfl, fun hd => ⟨hd, rfl, RT.trans _ _ _ HR.out (RT.trans _ _ _ hT hR)⟩⟩
    · intro a wx hT hF K hK
      replace hK := fun v w' (hN : NewT wx w') hv => hK v w' (RT.new (Nat.lt_of_lt_of_le HGL.out hT.size) hN) (fun k h => TkAt.new h hN) hv
      obtain ⟨f28, f37, _⟩ := hF
      have f28 : a.tmps.getD 28 undef = .agg (rowA 32 (bF (d))) := f28
      replace f37 := show (svNo).pred (a.tmps.getD 37 undef) wx from f37
      refine rely_wp rfl ?_
      exact (show False from f37).elim
    · intro w8 hT hJ
      intro u h; obtain rfl := Eq.symm (h (by simp)); clear h
      intro u h; obtain rfl := Eq.symm (h (by simp)); clear h
      intro u h; obtain rfl := Eq.symm (h (by simp)); clear h
      intro u h; obtain rfl := Eq.symm (h (by simp)); clear h
      intro u h; obtain rfl := Eq.symm (h (by simp)); clear h
      intro u h; obtain rfl := Eq.symm (h (by simp)); clear h
      intro u h; obtain rfl := Eq.symm (h (by simp)); clear h
      intro u h; obtain rfl := Eq.symm (h (by simp)); clear h
      intro u h; obtain rfl := Eq.symm (h (by simp)); clear h
      intro u37 h; have g37 := h (by simp); clear h; replace g37 := show (svNo).pred u37 w8 from g37
      intro u h; obtain rfl := Eq.symm (h (by simp)); clear h
      refine relyEnd_nil rfl ?_
      simp only [Act.put, List.setIfInBounds_toArray, List.set_cons_zero, List.set_cons_succ]
      exact (show False from g37).elim
end Go.Proofs.YtlnedphnphabkaaDoor
/- The root above a leaf: by as many hashes as it takes, and by fewer. -/
namespace Go.Proofs.YtlnedphnphabkaaDoor
open Go Go.RowKit
set_option maxRecDepth 8000
set_option linter.all false
theorem rootAbove_ok {node : Hs → Hs → Hs} {z : Hs} (hX : TreeH node z) (leaf : Hs) (g : Nat) (path : List Hs) (hl : path.length ≤ 1000000) : ∀ (b n i k : Nat) (w : World), n ≤ b → i < n → n ≤ 1048576 → TkAt w g path k → (leftsM i n).length ≤ k →
    Calls Tryd.prog 42 #[.agg (rowA 32 (bF leaf)), .int .i64 (i : Int), .int .i64 (n : Int), .func (.func 62) #[] #[.pointer (some ⟨g, 0, none⟩)]] w fun e w' => e = .returned (.agg (rowA 32 (bF (upP node leaf i n (winM path k (leftsM i n).length))))) ∧ RT g w w' ∧ TkAt w' g path (k - (leftsM i n).length) := by
  intro b
  induction b with
  | zero => intro n i k w h1 h2; omega
  | succ b ih =>
    intro n i k w hb hi hn h hc
    by_cases h1 : n < 2
    · obtain rfl : n = 1 := by omega
      refine (rootAbove_1 leaf (i : Int) _ w).mono ?_
      rintro e w' ⟨rfl, hN⟩
      rw [leftsM_few _ _ h1]
      refine ⟨by rw [upP_few _ _ _ _ _ h1], RT.new h.lt hN, ?_⟩
      exact h.new hN
    · have h2 : 2 ≤ n := by omega
      obtain ⟨s1, s2, _⟩ := splitN_lt n h2
      have hs : ∀ w, Cv 43 #[.int .i64 (n : Int)] w (.eq (.int .i64 ((splitN n : Nat) : Int))) := fun w => Split_cv (n : Int) (by omega) (by omega) w
      by_cases hil : i < splitN n
      · rw [leftsM_l _ _ h2 hil, List.length_append, List.length_singleton] at hc ⊢
        obtain ⟨k, rfl⟩ : ∃ k', k = k' + 1 := ⟨k - 1, by omega⟩
        have hkl := h.le
        have hd : path[k]? = some path[k] := List.getElem?_eq_getElem (by omega)
        have hlen := winM_length path k (leftsM i (splitN n)).length (by omega) (by omega)
        rw [winM_succ path k _ _ (by omega) hd, upP_l node leaf i n _ _ h2 hil hlen, show k + 1 - ((leftsM i (splitN n)).length + 1) = k - (leftsM i (splitN n)).length by omega]
        exact rootAbove_lk hX leaf _ _ i n (splitN n) g k _ path w h2 hn hi s1 hil hs h hd (by omega) (fun w h' => ih (splitN n) i k w (by omega) hil (by omega) h' (by omega))
      · rw [leftsM_r _ _ h2 hil, List.length_append, List.length_singleton] at hc ⊢
        obtain ⟨k, rfl⟩ : ∃ k', k = k' + 1 := ⟨k - 1, by omega⟩
        have hkl := h.le
        have hd : path[k]? = some path[k] := List.getElem?_eq_getElem (by omega)
        have hlen := winM_length path k (leftsM (i - splitN n) (n - splitN n)).length (by omega) (by omega)
        rw [winM_succ path k _ _ (by omega) hd, upP_r node leaf i n _ _ h2 hil hlen, show k + 1 - ((leftsM (i - splitN n) (n - splitN n)).length + 1) = k - (leftsM (i - splitN n) (n - splitN n)).length by omega]
        exact rootAbove_rk hX leaf _ _ i n (splitN n) g k _ path w h2 hn hi s1 hil hs h hd (by omega) (fun w h' => ih (n - splitN n) (i - splitN n) k w (by omega) (by omega) (by omega) h' (by omega))
theorem rootAbove_no {node : Hs → Hs → Hs} {z : Hs} (hX : TreeH node z) (leaf : Hs) (g : Nat) (path : List Hs) (hl : path.length ≤ 1000000) : ∀ (b n i k : Nat) (w : World), n ≤ b → i < n → n ≤ 1048576 → TkAt w g path k → k < (leftsM i n).length →
    Calls Tryd.prog 42 #[.agg (rowA 32 (bF leaf)), .int .i64 (i : Int), .int .i64 (n : Int), .func (.func 62) #[] #[.pointer (some ⟨g, 0, none⟩)]] w fun e w' => e = .panicked fewP ∧ RT g w w' := by
  intro b
  induction b with
  | zero => intro n i k w h1 h2; omega
  | succ b ih =>
    intro n i k w hb hi hn h hc
    by_cases h1 : n < 2
    · rw [leftsM_few _ _ h1] at hc; simp at hc
    · have h2 : 2 ≤ n := by omega
      obtain ⟨s1, s2, _⟩ := splitN_lt n h2
      have hs : ∀ w, Cv 43 #[.int .i64 (n : Int)] w (.eq (.int .i64 ((splitN n : Nat) : Int))) := fun w => Split_cv (n : Int) (by omega) (by omega) w
      match k, h, hc with
      | 0, h, _ => exact rootAbove_0n leaf i n (splitN n) g path w h2 hs h
      | k + 1, h, hc =>
        have hkl := h.le
        have hd : path[k]? = some path[k] := List.getElem?_eq_getElem (by omega)
        by_cases hil : i < splitN n
        · rw [leftsM_l _ _ h2 hil, List.length_append, List.length_singleton] at hc
          exact rootAbove_ln hX leaf _ i n (splitN n) g k 0 path w h2 hn hi s1 hil hs h hd (by omega) (fun w h' => ih (splitN n) i k w (by omega) hil (by omega) h' (by omega))
        · rw [leftsM_r _ _ h2 hil, List.length_append, List.length_singleton] at hc
          exact rootAbove_rn hX leaf _ i n (splitN n) g k 0 path w h2 hn hi s1 hil hs h hd (by omega) (fun w h' => ih (n - splitN n) (i - splitN n) k w (by omega) (by omega) (by omega) h' (by omega))
end Go.Proofs.YtlnedphnphabkaaDoor
/- What a path's work comes to; the closure that answers a panic. -/
namespace Go.Proofs.YtlnedphnphabkaaDoor
open Go Go.RowKit
set_option maxRecDepth 8000
set_option linter.all false
theorem catchP_panics (p : Addr) (x : Bool) (u : TypeId) (pv : Value) (older : List PanicEntry) (w : World) (hc : w.cell? p = some (.bool x)) (hz : w.frozen? p = false) :
    CallsD Tryd.prog 61 #[.pointer (some p)] (.panicking ({ v := .iface u pv, recovered := false } :: older)) w fun e u' w' =>
      e = .returned (.tuple #[]) ∧ u' = .panicking ({ v := .iface u pv, recovered := true } :: older) ∧ w' = w.setCell p (.bool false) := by
  refine callsD_of_wpS Tryd.func61 rfl fun c₀ cs hu => ?_
  apply wpS_seq
  apply wpS_region
  simp [wpOpsS, go_sem, recoverD, hu, Tryd.ntmps61, Exit.thenS]
  refine wpS_cond (t := true) (by simp [Act.eval, Array.replicate]) ?_
  simp only [if_true]
  apply wpS_region
  simp [wpOpsS, go_sem, hc, hz, bodyPostS, results, Tryd.results61]
theorem catchP_idle (p : Addr) (w : World) :
    CallsD Tryd.prog 61 #[.pointer (some p)] .returning w fun e u' w' => e = .returned (.tuple #[]) ∧ u' = .returning ∧ w' = w := by
  refine callsD_of_wpS Tryd.func61 rfl fun c₀ cs hu => ?_
  apply wpS_seq
  apply wpS_region
  simp [wpOpsS, go_sem, recoverD, hu, Tryd.ntmps61, Exit.thenS]
  refine wpS_cond (t := false) (by simp [Act.eval, Array.replicate]) ?_
  simp only [Bool.false_eq_true, if_false]
  refine wpS_of_wp (wp_skip ?_)
  cases c₀
  simp_all [bodyPostS, results, Tryd.results61]
set_option maxHeartbeats 1000000 in
theorem Comes1_ok {node : Hs → Hs → Hs} {z : Hs} (hX : TreeH node z) (leaf : Hs) (i n g k bl bi bn : Nat) (path : List Hs) (w : World) (hpl : path.length ≤ 1000000) (hi : i < n) (hn : n ≤ 1048576) (h : TkAt w g path k) (hc : (leftsM i n).length ≤ k)
    (h1 : w.rowIs bl 30 32 (bF leaf)) (h2 : w.rowIs bi 3 1 (fun _ => .int .i64 ((i : Int)))) (h3 : w.rowIs bn 3 1 (fun _ => .int .i64 ((n : Int)))) :
    Calls Tryd.prog 41 #[.func (.func 62) #[] #[.pointer (some ⟨g, 0, none⟩)], .pointer (some ⟨bl, 0, none⟩), .pointer (some ⟨bi, 0, none⟩), .pointer (some ⟨bn, 0, none⟩)] w fun e w' => e = .returned (.agg (rowA 32 (bF (upP node leaf i n (winM path k (leftsM i n).length))))) ∧ RT g w w' ∧ TkAt w' g path (k - (leftsM i n).length) := by
  have hg := h.lt
  have HG := Lib.hid h.lt
  have HPL := Lib.hid hpl
  have HI := Lib.hid hi
  have HN := Lib.hid hn
  have HC := Lib.hid hc
  have HTK := Lib.hid h
  have R1 := Lib.hid h1
  have R2 := Lib.hid h2
  have R3 := Lib.hid h3
  clear hpl hi hn hc h h1 h2 h3
  go_enter Tryd.func41, Tryd.ntmps41
  go_upto_region 1 with fail
  have r0 := rowIs_box w 30 32 (bF fun _ => 0)
  have hN := NewT.alloc w (.cells (rowA 32 (bF fun _ => 0)) 30)
  change Code.wp _ _ _ _ (w.alloc (.cells (rowA 32 (bF fun _ => 0)) 30))
  generalize w.alloc (.cells (rowA 32 (bF fun _ => 0)) 30) = W0 at r0 hN ⊢
  have R0 := Lib.hid r0
  have HR := Lib.hid (RT.new HG.out hN)
  replace R1 := Lib.hid (hN.row R1.out)
  replace R2 := Lib.hid (hN.row R2.out)
  replace R3 := Lib.hid (hN.row R3.out)
  replace HTK := Lib.hid (HTK.out.new hN)
  clear r0 hN
  refine wp_region_lit ?_
  refine wpList_plain rfl (fun K hK => ?_)
  refine opr_load_hash rfl rfl R1.out (hK _ _ ?_)
  clear hK K
  refine wpList_plain rfl (fun K hK => ?_)
  refine opr_ldI R2.out (by decide) rfl rfl rfl (hK _ _ ?_)
  clear hK K
  refine wpList_plain rfl (fun K hK => ?_)
  refine opr_ldI R3.out (by decide) rfl rfl rfl (hK _ _ ?_)
  clear hK K
  refine wpList_plain rfl (fun K hK => ?_)
  refine opr_move (.inl rfl) (hK _ _ ?_)
  clear hK K
  simp only [Act.put, List.setIfInBounds_toArray, List.set_cons_zero, List.set_cons_succ]
  refine wpList_plain rfl (fun K hK => ?_)
  refine opr_call rfl Tryd.func42 (by kernel_rfl) (by kernel_rfl) (vs := #[.agg (rowA 32 (bF leaf)), .int .i64 (i : Int), .int .i64 (n : Int), .func (.func 62) #[] #[.pointer (some ⟨g, 0, none⟩)]]) (by simp only [List.map_toArray, List.map_cons, List.map_nil]; rfl) ((rootAbove_ok hX leaf g path HPL.out _ n i k W0 (Nat.le_refl _) HI.out HN.out HTK.out HC.out).mono ?_)
  rintro e w4 ⟨rfl, hR4, hk4⟩
  refine ⟨_, rfl, hK _ _ ?_⟩
  clear hK K
  refine wpList_plain rfl (fun K hK => ?_)
  refine opr_putm (F := bF _) rfl rfl rfl (hR4.row (by omega) R0.out) (by decide) info31 (fun _ => rfl) (fun i hi => by rw [if_pos (by omega), Nat.sub_zero]) ?_
  intro w9 hR9 r9
  refine hK _ _ ?_
  refine wpList_end rfl ?_
  simp only [Act.put]
  go_simp
  go_wp2
  exact bodyPost_ret (results_row rfl _ rfl r9 Tryd.underlying30 info31) rfl ⟨rfl, RT.late2 (RT.trans _ _ _ HR.out hR4) (Nat.le_refl _) HG.out hR9, TkAt.late hk4 hR9 (by omega)⟩
set_option maxHeartbeats 1000000 in
theorem Comes1_no {node : Hs → Hs → Hs} {z : Hs} (hX : TreeH node z) (leaf : Hs) (i n g k bl bi bn : Nat) (path : List Hs) (w : World) (hpl : path.length ≤ 1000000) (hi : i < n) (hn : n ≤ 1048576) (h : TkAt w g path k) (hc : k < (leftsM i n).length)
    (h1 : w.rowIs bl 30 32 (bF leaf)) (h2 : w.rowIs bi 3 1 (fun _ => .int .i64 ((i : Int)))) (h3 : w.rowIs bn 3 1 (fun _ => .int .i64 ((n : Int)))) :
    Calls Tryd.prog 41 #[.func (.func 62) #[] #[.pointer (some ⟨g, 0, none⟩)], .pointer (some ⟨bl, 0, none⟩), .pointer (some ⟨bi, 0, none⟩), .pointer (some ⟨bn, 0, none⟩)] w fun e w' => e = .panicked fewP ∧ RT g w w' := by
  have hg := h.lt
  have HG := Lib.hid h.lt
  have HPL := Lib.hid hpl
  have HI := Lib.hid hi
  have HN := Lib.hid hn
  have HC := Lib.hid hc
  have HTK := Lib.hid h
  have R1 := Lib.hid h1
  have R2 := Lib.hid h2
  have R3 := Lib.hid h3
  clear hpl hi hn hc h h1 h2 h3
  go_enter Tryd.func41, Tryd.ntmps41
  go_upto_region 1 with fail
  have r0 := rowIs_box w 30 32 (bF fun _ => 0)
  have hN := NewT.alloc w (.cells (rowA 32 (bF fun _ => 0)) 30)
  change Code.wp _ _ _ _ (w.alloc (.cells (rowA 32 (bF fun _ => 0)) 30))
  generalize w.alloc (.cells (rowA 32 (bF fun _ => 0)) 30) = W0 at r0 hN ⊢
  have R0 := Lib.hid r0
  have HR := Lib.hid (RT.new HG.out hN)
  replace R1 := Lib.hid (hN.row R1.out)
  replace R2 := Lib.hid (hN.row R2.out)
  replace R3 := Lib.hid (hN.row R3.out)
  replace HTK := Lib.hid (HTK.out.new hN)
  clear r0 hN
  refine wp_region_lit ?_
  refine wpList_plain rfl (fun K hK => ?_)
  refine opr_load_hash rfl rfl R1.out (hK _ _ ?_)
  clear hK K
  refine wpList_plain rfl (fun K hK => ?_)
  refine opr_ldI R2.out (by decide) rfl rfl rfl (hK _ _ ?_)
  clear hK K
  refine wpList_plain rfl (fun K hK => ?_)
  refine opr_ldI R3.out (by decide) rfl rfl rfl (hK _ _ ?_)
  clear hK K
  refine wpList_plain rfl (fun K hK => ?_)
  refine opr_move (.inl rfl) (hK _ _ ?_)
  clear hK K
  simp only [Act.put, List.setIfInBounds_toArray, List.set_cons_zero, List.set_cons_succ]
  refine wpList_plain rfl (fun K hK => ?_)
  refine opr_callP rfl Tryd.func42 (by kernel_rfl) (by kernel_rfl) (vs := #[.agg (rowA 32 (bF leaf)), .int .i64 (i : Int), .int .i64 (n : Int), .func (.func 62) #[] #[.pointer (some ⟨g, 0, none⟩)]]) (by simp only [List.map_toArray, List.map_cons, List.map_nil]; rfl) ((rootAbove_no hX leaf g path HPL.out _ n i k W0 (Nat.le_refl _) HI.out HN.out HTK.out HC.out).mono ?_)
  rintro e w4 ⟨rfl, hR4⟩
  exact ⟨_, rfl, rfl, rfl, RT.trans _ _ _ HR.out hR4⟩
end Go.Proofs.YtlnedphnphabkaaDoor
/- What work makes of hashes that it takes: by as many as there are, by fewer, and by more than there are. -/
namespace Go.Proofs.YtlnedphnphabkaaDoor
open Go Go.RowKit
set_option maxRecDepth 8000
set_option linter.all false
set_option maxHeartbeats 2000000 in
theorem ofAllP_ok (cap : Array Value) (v : Value) (path : List Hs) (x : Hs) (w : World) (hT : Tables w) (hv : RdH w v path)
    (hwork : ∀ w' g, NewT w w' → w.heap.size ≤ g → TkAt w' g path path.length → Calls Tryd.prog 41 (#[.func (.func 62) #[] #[.pointer (some ⟨g, 0, none⟩)]] ++ cap) w' fun e w'' => e = .returned (.agg (rowA 32 (bF x))) ∧ RT g w' w'' ∧ TkAt w'' g path (0)) : Calls Tryd.prog 40 #[v, .func (.func 41) #[] cap] w fun e w' => e = .returned (.tuple #[.agg (rowA 32 (bF x)), .bool true]) ∧ NewT w w' := by
  have hmf : ∀ (fn : Fn) (first cap : Array Value) (w : World), (Instr.makeFunc fn first cap).run Tryd.prog w = .ok (.func fn first cap) w := fun _ _ _ _ => rfl
  have HV := Lib.hid hv
  have HT := Lib.hid hT
  have HW := Lib.hid hwork
  obtain ⟨A, c, hvv⟩ := rdH_form hv
  subst hvv
  clear hv hT hwork
  go_enter_defers Tryd.func40, Tryd.ntmps40
  go_upto_region 2 with fail
  clear hmf
  obtain ⟨g, hg⟩ : ∃ g, w.heap.size = g := ⟨_, rfl⟩
  have r2 := ((rowIs_one w 33 (.slice A path.length c)).alloc (.cells (rowA 32 (bF fun _ => 0)) 30)).alloc (.cells #[.bool false] 4)
  have r4 := (rowIs_box (w.alloc (.cells #[.slice A path.length c] 33)) 30 32 (bF fun _ => 0)).alloc (.cells #[.bool false] 4)
  have r5 := rowIs_one ((w.alloc (.cells #[.slice A path.length c] 33)).alloc (.cells (rowA 32 (bF fun _ => 0)) 30)) 4 (.bool false)
  rw [World.size_alloc] at r4
  rw [World.size_alloc, World.size_alloc] at r5
  have hN : NewT w (((w.alloc (.cells #[.slice A path.length c] 33)).alloc (.cells (rowA 32 (bF fun _ => 0)) 30)).alloc (.cells #[.bool false] 4)) := NewT.trans _ _ _ (NewT.trans _ _ _ (NewT.alloc _ _) (NewT.alloc _ _)) (NewT.alloc _ _)
  change Code.wp _ _ _ _ (((w.alloc (.cells #[.slice A path.length c] 33)).alloc (.cells (rowA 32 (bF fun _ => 0)) 30)).alloc (.cells #[.bool false] 4))
  generalize (((w.alloc (.cells #[.slice A path.length c] 33)).alloc (.cells (rowA 32 (bF fun _ => 0)) 30)).alloc (.cells #[.bool false] 4)) = W0 at r2 r4 r5 hN ⊢
  rw [hg] at r2 r4 r5 ⊢
  have HTK : Hid (TkAt W0 g path path.length) := Lib.hid ⟨A, c, w, r2, HT.out, hN, by omega, HV.out, Nat.le_refl _⟩
  have R4 := Lib.hid r4
  have R5 := Lib.hid r5
  have HN := Lib.hid hN
  have HGW : Hid (w.heap.size ≤ g) := Lib.hid (by omega)
  clear r2 r4 r5 hN HV
  refine wp_region_lit ?_
  refine wpList_plain rfl (fun K hK => ?_)
  refine opr_move (.inl rfl) (hK _ _ ?_)
  clear hK K
  refine wpList_plain rfl (fun K hK => ?_)
  refine opr_mkf (cap := #[.pointer (some ⟨g, 0, none⟩)]) rfl (by simp only [List.map_toArray, List.map_cons, List.map_nil]; rfl) (hK _ _ ?_)
  clear hK K
  refine wpList_plain rfl (fun K hK => ?_)
  have hwk := HW.out W0 g HN.out HGW.out HTK.out
  obtain ⟨VS, hVS⟩ : ∃ VS, (#[.func (.func 62) #[] #[.pointer (some ⟨g, 0, none⟩)]] ++ cap : Array Value) = VS := ⟨_, rfl⟩
  rw [hVS] at hwk
  refine opr_callv (f := 41) (cap := cap) (vs := VS) rfl rfl Tryd.func41 (by kernel_rfl) (by kernel_rfl) (hVS ▸ congrArg (fun u : Array Value => u ++ cap) (a₂ := #[.func (.func 62) #[] #[.pointer (some ⟨g, 0, none⟩)]]) (by simp only [List.map_toArray, List.map_cons, List.map_nil]; rfl)) (hwk.mono ?_)
  clear hwk
  rintro e w4 ⟨rfl, hR4, hk4⟩
  refine ⟨_, rfl, hK _ _ ?_⟩
  clear hK K
  simp only [Act.put, List.setIfInBounds_toArray, List.set_cons_zero, List.set_cons_succ]
  refine wpList_new (n := 32) rfl rfl rfl rfl rfl rfl (by simp) run_alloc_hash info31 (fun _ => rfl) rfl ?_
  intro w5 hn5 r6
  refine wpList_end rfl ?_
  simp only [Act.put, List.setIfInBounds_toArray, List.set_cons_zero, List.set_cons_succ]
  go_simp
  obtain ⟨p6, hp6⟩ : ∃ p, w4.heap.size = p := ⟨_, rfl⟩
  rw [hp6] at r6 ⊢
  have hge : g + 1 + 1 < p6 := by have := (hR4.row (by omega) R5.out).lt; omega
  have R6 := Lib.hid r6
  replace R4 := Lib.hid (hn5.row (hR4.row (by omega) R4.out))
  replace R5 := Lib.hid (hn5.row (hR4.row (by omega) R5.out))
  replace HN := Lib.hid (NewT.trans _ _ _ (NewT.rt HN.out hR4 HGW.out) hn5)
  replace hk4 := hk4.new hn5
  obtain ⟨A1, c1, W1, rg, hTW, hNW, hWg, hrd, hkl⟩ := hk4
  have RG := Lib.hid rg
  have HS := Lib.hid (rdH_take (hNW.hs hrd) hkl)
  clear hR4 hn5 r6 hp6 rg hTW hNW hWg HTK HW
  have t3 : ¬ (0 : Int) < ((List.take 0 path).length : Int) := by rw [List.length_take]; omega
  go_upto_region 3 with fail
  refine wp_region_steps0 NewT [SV.eq ((.slice A1 (0) c1)), SV.eq (.int .i64 ((List.length ((List.take 0 path)) : Int))), SV.eq (.bool (decide (0 < ((List.length ((List.take 0 path)) : Int)))))] [([(2, none)], none), ([(11, some 0)], none), ([(12, some 1)], none)] 16 3 rfl rfl (by kernel_rfl) NewT.trans (NewT.refl _) (Nat.le_of_ble_eq_true rfl) ⟨?_, ?_, ?_, trivial⟩ ?_
  · intro a wx hT hF K hK
    obtain ⟨f2, _⟩ := hF
    have f2 : a.tmps.getD 2 undef = .pointer (some ⟨g, 0, none⟩) := f2
    refine rely_wp rfl ?_
    exact opr_ldHs (hT.row RG.out) (by decide) rfl rfl f2 (hK _ _ (NewT.refl _) rfl)
  · intro a wx hT hF K hK
    obtain ⟨f11, _⟩ := hF
    have f11 : a.tmps.getD 11 undef = (.slice A1 (0) c1) := f11
    refine rely_wp rfl ?_
    exact opr_len_h rfl (by rw [eval_tmp, f11]; exact (hT.hs HS.out)) (hK _ _ (NewT.refl _) rfl)
  · intro a wx hT hF K hK
    obtain ⟨f12, _⟩ := hF
    have f12 : a.tmps.getD 12 undef = .int .i64 ((List.length ((List.take 0 path)) : Int)) := f12
    refine rely_wp rfl ?_
    exact opr_cmp (b := decide (0 < ((List.length ((List.take 0 path)) : Int)))) (.inr (.inr (.inr (.inr (.inl ⟨rfl, rfl⟩))))) Tryd.underlying3 rfl f12 rfl (hK _ _ (NewT.refl _) rfl)
  · intro w6 k6
    intro u h; obtain rfl := Eq.symm (h (by simp)); clear h
    intro u h; obtain rfl := Eq.symm (h (by simp)); clear h
    intro u h; obtain rfl := Eq.symm (h (by simp)); clear h
    refine relyEnd_nil rfl ?_
    refine wpList_end rfl ?_
    simp only [Act.put, List.setIfInBounds_toArray, List.set_cons_zero, List.set_cons_succ]
    go_simp
    replace R4 := Lib.hid (k6.row R4.out)
    replace R5 := Lib.hid (k6.row R5.out)
    replace R6 := Lib.hid (k6.row R6.out)
    replace HN := Lib.hid (NewT.trans _ _ _ HN.out k6)
    clear k6 RG HS hrd
    go_upto_region 5 with fail
    refine wp_region_lit ?_
    refine wpList_plain rfl (fun K hK => ?_)
    refine opr_load_hash rfl rfl R6.out (hK _ _ ?_)
    clear hK K
    simp only [Act.put, List.setIfInBounds_toArray, List.set_cons_zero, List.set_cons_succ]
    refine wpList_plain rfl (fun K hK => ?_)
    refine opr_putm (F := bF x) rfl rfl rfl R4.out (by decide) info31 (fun _ => rfl) (fun i hi => by rw [if_pos (by omega), Nat.sub_zero]) ?_
    intro w8 hR8 r4'
    refine hK _ _ ?_
    clear hK K
    simp only [Act.put, List.setIfInBounds_toArray, List.set_cons_zero, List.set_cons_succ]
    refine wpList_plain rfl (fun K hK => ?_)
    refine opr_put1 (F := fun _ => .bool true) rfl rfl rfl (hR8.row (by omega) R5.out) (by decide) info_bool rfl (fun i hi => by rw [if_pos (by omega)]; rfl) ?_
    intro w9 hR9 r5'
    refine hK _ _ ?_
    refine wpList_end rfl ?_
    simp only [Act.put]
    go_simp
    replace r4' := hR9.row (by omega) r4'
    have HN9 := NewT.rt (NewT.rt HN.out hR8 (by have := HGW.out; omega)) hR9 (by have := HGW.out; omega)
    go_wp2
    refine leaves_cons (f := 61) (args := #[.pointer (some ⟨g + 1 + 1, 0, none⟩)]) (by simp) (by simp [go_sem]) ?_
    refine (catchP_idle ⟨g + 1 + 1, 0, none⟩ _).mono ?_
    rintro e u' w'' ⟨rfl, rfl, rfl⟩
    exact ⟨_, results_rv rfl rfl rfl r4' r5' Tryd.underlying30 rfl info31 Tryd.underlying4 rfl, rfl, HN9⟩
set_option maxHeartbeats 2000000 in
theorem ofAllP_many (cap : Array Value) (v : Value) (path : List Hs) (x : Hs) (kk : Nat) (w : World) (hT : Tables w) (hv : RdH w v path)
    (hwork : ∀ w' g, NewT w w' → w.heap.size ≤ g → TkAt w' g path path.length → Calls Tryd.prog 41 (#[.func (.func 62) #[] #[.pointer (some ⟨g, 0, none⟩)]] ++ cap) w' fun e w'' => e = .returned (.agg (rowA 32 (bF x))) ∧ RT g w' w'' ∧ TkAt w'' g path (kk + 1)) : Calls Tryd.prog 40 #[v, .func (.func 41) #[] cap] w fun e w' => e = .returned (.tuple #[.agg (rowA 32 (bF fun _ => 0)), .bool false]) ∧ NewT w w' := by
  have hmf : ∀ (fn : Fn) (first cap : Array Value) (w : World), (Instr.makeFunc fn first cap).run Tryd.prog w = .ok (.func fn first cap) w := fun _ _ _ _ => rfl
  have HV := Lib.hid hv
  have HT := Lib.hid hT
  have HW := Lib.hid hwork
  obtain ⟨A, c, hvv⟩ := rdH_form hv
  subst hvv
  clear hv hT hwork
  go_enter_defers Tryd.func40, Tryd.ntmps40
  go_upto_region 2 with fail
  clear hmf
  obtain ⟨g, hg⟩ : ∃ g, w.heap.size = g := ⟨_, rfl⟩
  have r2 := ((rowIs_one w 33 (.slice A path.length c)).alloc (.cells (rowA 32 (bF fun _ => 0)) 30)).alloc (.cells #[.bool false] 4)
  have r4 := (rowIs_box (w.alloc (.cells #[.slice A path.length c] 33)) 30 32 (bF fun _ => 0)).alloc (.cells #[.bool false] 4)
  have r5 := rowIs_one ((w.alloc (.cells #[.slice A path.length c] 33)).alloc (.cells (rowA 32 (bF fun _ => 0)) 30)) 4 (.bool false)
  rw [World.size_alloc] at r4
  rw [World.size_alloc, World.size_alloc] at r5
  have hN : NewT w (((w.alloc (.cells #[.slice A path.length c] 33)).alloc (.cells (rowA 32 (bF fun _ => 0)) 30)).alloc (.cells #[.bool false] 4)) := NewT.trans _ _ _ (NewT.trans _ _ _ (NewT.alloc _ _) (NewT.alloc _ _)) (NewT.alloc _ _)
  change Code.wp _ _ _ _ (((w.alloc (.cells #[.slice A path.length c] 33)).alloc (.cells (rowA 32 (bF fun _ => 0)) 30)).alloc (.cells #[.bool false] 4))
  generalize (((w.alloc (.cells #[.slice A path.length c] 33)).alloc (.cells (rowA 32 (bF fun _ => 0)) 30)).alloc (.cells #[.bool false] 4)) = W0 at r2 r4 r5 hN ⊢
  rw [hg] at r2 r4 r5 ⊢
  have HTK : Hid (TkAt W0 g path path.length) := Lib.hid ⟨A, c, w, r2, HT.out, hN, by omega, HV.out, Nat.le_refl _⟩
  have R4 := Lib.hid r4
  have R5 := Lib.hid r5
  have HN := Lib.hid hN
  have HGW : Hid (w.heap.size ≤ g) := Lib.hid (by omega)
  clear r2 r4 r5 hN HV
  refine wp_region_lit ?_
  refine wpList_plain rfl (fun K hK => ?_)
  refine opr_move (.inl rfl) (hK _ _ ?_)
  clear hK K
  refine wpList_plain rfl (fun K hK => ?_)
  refine opr_mkf (cap := #[.pointer (some ⟨g, 0, none⟩)]) rfl (by simp only [List.map_toArray, List.map_cons, List.map_nil]; rfl) (hK _ _ ?_)
  clear hK K
  refine wpList_plain rfl (fun K hK => ?_)
  have hwk := HW.out W0 g HN.out HGW.out HTK.out
  obtain ⟨VS, hVS⟩ : ∃ VS, (#[.func (.func 62) #[] #[.pointer (some ⟨g, 0, none⟩)]] ++ cap : Array Value) = VS := ⟨_, rfl⟩
  rw [hVS] at hwk
  refine opr_callv (f := 41) (cap := cap) (vs := VS) rfl rfl Tryd.func41 (by kernel_rfl) (by kernel_rfl) (hVS ▸ congrArg (fun u : Array Value => u ++ cap) (a₂ := #[.func (.func 62) #[] #[.pointer (some ⟨g, 0, none⟩)]]) (by simp only [List.map_toArray, List.map_cons, List.map_nil]; rfl)) (hwk.mono ?_)
  clear hwk
  rintro e w4 ⟨rfl, hR4, hk4⟩
  refine ⟨_, rfl, hK _ _ ?_⟩
  clear hK K
  simp only [Act.put, List.setIfInBounds_toArray, List.set_cons_zero, List.set_cons_succ]
  refine wpList_new (n := 32) rfl rfl rfl rfl rfl rfl (by simp) run_alloc_hash info31 (fun _ => rfl) rfl ?_
  intro w5 hn5 r6
  refine wpList_end rfl ?_
  simp only [Act.put, List.setIfInBounds_toArray, List.set_cons_zero, List.set_cons_succ]
  go_simp
  obtain ⟨p6, hp6⟩ : ∃ p, w4.heap.size = p := ⟨_, rfl⟩
  rw [hp6] at r6 ⊢
  have hge : g + 1 + 1 < p6 := by have := (hR4.row (by omega) R5.out).lt; omega
  have R6 := Lib.hid r6
  replace R4 := Lib.hid (hn5.row (hR4.row (by omega) R4.out))
  replace R5 := Lib.hid (hn5.row (hR4.row (by omega) R5.out))
  replace HN := Lib.hid (NewT.trans _ _ _ (NewT.rt HN.out hR4 HGW.out) hn5)
  replace hk4 := hk4.new hn5
  obtain ⟨A1, c1, W1, rg, hTW, hNW, hWg, hrd, hkl⟩ := hk4
  have RG := Lib.hid rg
  have HS := Lib.hid (rdH_take (hNW.hs hrd) hkl)
  clear hR4 hn5 r6 hp6 rg hTW hNW hWg HTK HW
  have t3 : (0 : Int) < ((List.take (kk + 1) path).length : Int) := by rw [List.length_take]; omega
  go_upto_region 3 with fail
  refine wp_region_steps0 NewT [SV.eq ((.slice A1 (kk + 1) c1)), SV.eq (.int .i64 ((List.length ((List.take (kk + 1) path)) : Int))), SV.eq (.bool (decide (0 < ((List.length ((List.take (kk + 1) path)) : Int)))))] [([(2, none)], none), ([(11, some 0)], none), ([(12, some 1)], none)] 16 3 rfl rfl (by kernel_rfl) NewT.trans (NewT.refl _) (Nat.le_of_ble_eq_true rfl) ⟨?_, ?_, ?_, trivial⟩ ?_
  · intro a wx hT hF K hK
    obtain ⟨f2, _⟩ := hF
    have f2 : a.tmps.getD 2 undef = .pointer (some ⟨g, 0, none⟩) := f2
    refine rely_wp rfl ?_
    exact opr_ldHs (hT.row RG.out) (by decide) rfl rfl f2 (hK _ _ (NewT.refl _) rfl)
  · intro a wx hT hF K hK
    obtain ⟨f11, _⟩ := hF
    have f11 : a.tmps.getD 11 undef = (.slice A1 (kk + 1) c1) := f11
    refine rely_wp rfl ?_
    exact opr_len_h rfl (by rw [eval_tmp, f11]; exact (hT.hs HS.out)) (hK _ _ (NewT.refl _) rfl)
  · intro a wx hT hF K hK
    obtain ⟨f12, _⟩ := hF
    have f12 : a.tmps.getD 12 undef = .int .i64 ((List.length ((List.take (kk + 1) path)) : Int)) := f12
    refine rely_wp rfl ?_
    exact opr_cmp (b := decide (0 < ((List.length ((List.take (kk + 1) path)) : Int)))) (.inr (.inr (.inr (.inr (.inl ⟨rfl, rfl⟩))))) Tryd.underlying3 rfl f12 rfl (hK _ _ (NewT.refl _) rfl)
  · intro w6 k6
    intro u h; obtain rfl := Eq.symm (h (by simp)); clear h
    intro u h; obtain rfl := Eq.symm (h (by simp)); clear h
    intro u h; obtain rfl := Eq.symm (h (by simp)); clear h
    refine relyEnd_nil rfl ?_
    refine wpList_end rfl ?_
    simp only [Act.put, List.setIfInBounds_toArray, List.set_cons_zero, List.set_cons_succ]
    go_simp
    replace R4 := Lib.hid (k6.row R4.out)
    replace R5 := Lib.hid (k6.row R5.out)
    replace R6 := Lib.hid (k6.row R6.out)
    replace HN := Lib.hid (NewT.trans _ _ _ HN.out k6)
    clear k6 RG HS hrd
    go_upto_region 4 with fail
    refine wp_region_lit ?_
    refine wpList_plain rfl (fun K hK => ?_)
    refine opr_load_hash rfl rfl R4.out (hK _ _ ?_)
    clear hK K
    simp only [Act.put, List.setIfInBounds_toArray, List.set_cons_zero, List.set_cons_succ]
    refine wpList_plain rfl (fun K hK => ?_)
    refine opr_putm (F := bF fun _ => 0) rfl rfl rfl R4.out (by decide) info31 (fun _ => rfl) (fun i hi => by rw [if_pos (by omega), Nat.sub_zero]) ?_
    intro w8 hR8 r4'
    refine hK _ _ ?_
    clear hK K
    simp only [Act.put, List.setIfInBounds_toArray, List.set_cons_zero, List.set_cons_succ]
    refine wpList_plain rfl (fun K hK => ?_)
    refine opr_put1 (F := fun _ => .bool false) rfl rfl rfl (hR8.row (by omega) R5.out) (by decide) info_bool rfl (fun i hi => by rw [if_pos (by omega)]; rfl) ?_
    intro w9 hR9 r5'
    refine hK _ _ ?_
    refine wpList_end rfl ?_
    simp only [Act.put]
    go_simp
    replace r4' := hR9.row (by omega) r4'
    have HN9 := NewT.rt (NewT.rt HN.out hR8 (by have := HGW.out; omega)) hR9 (by have := HGW.out; omega)
    go_wp2
    refine leaves_cons (f := 61) (args := #[.pointer (some ⟨g + 1 + 1, 0, none⟩)]) (by simp) (by simp [go_sem]) ?_
    refine (catchP_idle ⟨g + 1 + 1, 0, none⟩ _).mono ?_
    rintro e u' w'' ⟨rfl, rfl, rfl⟩
    exact ⟨_, results_rv rfl rfl rfl r4' r5' Tryd.underlying30 rfl info31 Tryd.underlying4 rfl, rfl, HN9⟩
set_option maxHeartbeats 2000000 in
theorem ofAllP_few (cap : Array Value) (v : Value) (path : List Hs) (w : World) (hT : Tables w) (hv : RdH w v path)
    (hwork : ∀ w' g, NewT w w' → w.heap.size ≤ g → TkAt w' g path path.length → Calls Tryd.prog 41 (#[.func (.func 62) #[] #[.pointer (some ⟨g, 0, none⟩)]] ++ cap) w' fun e w'' => e = .panicked fewP ∧ RT g w' w'') : Calls Tryd.prog 40 #[v, .func (.func 41) #[] cap] w fun e w' => e = .returned (.tuple #[.agg (rowA 32 (bF fun _ => 0)), .bool false]) ∧ NewT w w' := by
  have hmf : ∀ (fn : Fn) (first cap : Array Value) (w : World), (Instr.makeFunc fn first cap).run Tryd.prog w = .ok (.func fn first cap) w := fun _ _ _ _ => rfl
  have HV := Lib.hid hv
  have HT := Lib.hid hT
  have HW := Lib.hid hwork
  obtain ⟨A, c, hvv⟩ := rdH_form hv
  subst hvv
  clear hv hT hwork
  go_enter_defers Tryd.func40, Tryd.ntmps40
  go_upto_region 2 with fail
  clear hmf
  obtain ⟨g, hg⟩ : ∃ g, w.heap.size = g := ⟨_, rfl⟩
  have r2 := ((rowIs_one w 33 (.slice A path.length c)).alloc (.cells (rowA 32 (bF fun _ => 0)) 30)).alloc (.cells #[.bool false] 4)
  have r4 := (rowIs_box (w.alloc (.cells #[.slice A path.length c] 33)) 30 32 (bF fun _ => 0)).alloc (.cells #[.bool false] 4)
  have r5 := rowIs_one ((w.alloc (.cells #[.slice A path.length c] 33)).alloc (.cells (rowA 32 (bF fun _ => 0)) 30)) 4 (.bool false)
  rw [World.size_alloc] at r4
  rw [World.size_alloc, World.size_alloc] at r5
  have hN : NewT w (((w.alloc (.cells #[.slice A path.length c] 33)).alloc (.cells (rowA 32 (bF fun _ => 0)) 30)).alloc (.cells #[.bool false] 4)) := NewT.trans _ _ _ (NewT.trans _ _ _ (NewT.alloc _ _) (NewT.alloc _ _)) (NewT.alloc _ _)
  change Code.wp _ _ _ _ (((w.alloc (.cells #[.slice A path.length c] 33)).alloc (.cells (rowA 32 (bF fun _ => 0)) 30)).alloc (.cells #[.bool false] 4))
  generalize (((w.alloc (.cells #[.slice A path.length c] 33)).alloc (.cells (rowA 32 (bF fun _ => 0)) 30)).alloc (.cells #[.bool false] 4)) = W0 at r2 r4 r5 hN ⊢
  rw [hg] at r2 r4 r5 ⊢
  have HTK : Hid (TkAt W0 g path path.length) := Lib.hid ⟨A, c, w, r2, HT.out, hN, by omega, HV.out, Nat.le_refl _⟩
  have R4 := Lib.hid r4
  have R5 := Lib.hid r5
  have HN := Lib.hid hN
  have HGW : Hid (w.heap.size ≤ g) := Lib.hid (by omega)
  clear r2 r4 r5 hN HV
  refine wp_region_lit ?_
  refine wpList_plain rfl (fun K hK => ?_)
  refine opr_move (.inl rfl) (hK _ _ ?_)
  clear hK K
  refine wpList_plain rfl (fun K hK => ?_)
  refine opr_mkf (cap := #[.pointer (some ⟨g, 0, none⟩)]) rfl (by simp only [List.map_toArray, List.map_cons, List.map_nil]; rfl) (hK _ _ ?_)
  clear hK K
  refine wpList_plain rfl (fun K hK => ?_)
  have hwk := HW.out W0 g HN.out HGW.out HTK.out
  obtain ⟨VS, hVS⟩ : ∃ VS, (#[.func (.func 62) #[] #[.pointer (some ⟨g, 0, none⟩)]] ++ cap : Array Value) = VS := ⟨_, rfl⟩
  rw [hVS] at hwk
  refine opr_callvP (f := 41) (cap := cap) (vs := VS) rfl rfl Tryd.func41 (by kernel_rfl) (by kernel_rfl) (hVS ▸ congrArg (fun u : Array Value => u ++ cap) (a₂ := #[.func (.func 62) #[] #[.pointer (some ⟨g, 0, none⟩)]]) (by simp only [List.map_toArray, List.map_cons, List.map_nil]; rfl)) (hwk.mono ?_)
  clear hwk
  rintro e w4 ⟨rfl, hR4⟩
  refine ⟨_, rfl, ?_⟩
  have r4 := hR4.row (by omega) R4.out
  have r5 := hR4.row (by omega) R5.out
  refine leaves_cons (f := 61) (args := #[.pointer (some ⟨g + 1 + 1, 0, none⟩)]) (by simp) (by simp [go_sem]) ?_
  refine (catchP_panics ⟨g + 1 + 1, 0, none⟩ false _ _ [] w4 (r5.cell (i := 0) (by omega)) (r5.frozen 0)).mono ?_
  rintro e u' w'' ⟨rfl, rfl, rfl⟩
  have hR9 := RT.setCell (R := g + 1 + 1) w4 0 (.bool false)
  exact ⟨_, results_rv rfl rfl rfl (hR9.row (by omega) r4) ((r5.set 0 (.bool false)).congr (g := fun _ => .bool false) fun i hi => by simp [show i = 0 by omega]) Tryd.underlying30 rfl info31 Tryd.underlying4 rfl, rfl, NewT.rt (NewT.rt HN.out hR4 HGW.out) hR9 (by have := HGW.out; omega)⟩
end Go.Proofs.YtlnedphnphabkaaDoor
/- What a path comes to: Comes, In. -/
namespace Go.Proofs.YtlnedphnphabkaaDoor
open Go Go.RowKit
set_option maxRecDepth 8000
set_option linter.all false
theorem run_build0 (w : World) : (Instr.build 30 #[]).run Tryd.prog w = .ok (.agg (rowA 32 (bF fun _ => 0))) w := by kernel_rfl
theorem opr_build0 {a : Act} {w : World} {o : Oper} {K : Act → World → Prop} {Q : Exit → Act → World → Prop} (ho : o.op = .build 30 #[]) (h : K (a.put o.dst (.agg (rowA 32 (bF fun _ => 0)))) w) : o.wp Tryd.prog a w K Q := by
  obtain ⟨dst, op, type, pos, after, guard⟩ := o
  simp only at ho
  subst ho
  exact opr_val (s := Instr.build 30 #[]) (by simp [execOp]) (run_build0 w) h
/-- What is known of Comes's answer. -/
abbrev svHq (d : Hs) (b : Bool) : SV NewT := .eq (.tuple #[.agg (rowA 32 (bF d)), .bool b])
set_option maxHeartbeats 2000000 in
theorem Comes_bad (leaf : Hs) (i n : Int) (v : Value) (w : World) (h : i < 0 ∨ n ≤ i ∨ 1048576 < n) : Cv 23 #[.agg (rowA 32 (bF leaf)), .int .i64 i, .int .i64 n, v] w (svHq (fun _ => 0) false) := by
  unfold Cv
  by_cases h1 : i < 0
  · clear h
    go_enter Tryd.func23, Tryd.ntmps23
    go_upto_region 2 with fail
    have r8 := rowIs_box (((w.alloc (.cells (rowA 32 (bF leaf)) 30)).alloc (.cells #[.int .i64 i] 3)).alloc (.cells #[.int .i64 n] 3)) 30 32 (bF fun _ => 0)
    rw [World.size_alloc, World.size_alloc, World.size_alloc] at r8
    have hN : NewT w ((((w.alloc (.cells (rowA 32 (bF leaf)) 30)).alloc (.cells #[.int .i64 i] 3)).alloc (.cells #[.int .i64 n] 3)).alloc (.cells (rowA 32 (bF fun _ => 0)) 30)) := (NewT.trans _ _ _ (NewT.trans _ _ _ (NewT.trans _ _ _ (NewT.alloc _ _) (NewT.alloc _ _)) (NewT.alloc _ _)) (NewT.alloc _ _))
    change Code.wp _ _ _ _ ((((w.alloc (.cells (rowA 32 (bF leaf)) 30)).alloc (.cells #[.int .i64 i] 3)).alloc (.cells #[.int .i64 n] 3)).alloc (.cells (rowA 32 (bF fun _ => 0)) 30))
    generalize ((((w.alloc (.cells (rowA 32 (bF leaf)) 30)).alloc (.cells #[.int .i64 i] 3)).alloc (.cells #[.int .i64 n] 3)).alloc (.cells (rowA 32 (bF fun _ => 0)) 30)) = W0 at r8 hN ⊢
    refine wp_region_lit ?_
    refine wpList_plain rfl (fun K hK => ?_)
    refine opr_build0 rfl (hK _ _ ?_)
    clear hK K
    simp only [Act.put, List.setIfInBounds_toArray, List.set_cons_zero, List.set_cons_succ]
    refine wpList_plain rfl (fun K hK => ?_)
    refine opr_putm (F := bF fun _ => 0) rfl rfl rfl r8 (by decide) info31 (fun _ => rfl) (fun i hi => by rw [if_pos (by omega), Nat.sub_zero]) ?_
    intro w9 hR9 r9
    refine hK _ _ ?_
    clear hK K
    refine wpList_plain rfl (fun K hK => ?_)
    refine opr_move (.inr rfl) (hK _ _ ?_)
    refine wpList_end rfl ?_
    simp only [Act.put, List.setIfInBounds_toArray, List.set_cons_zero, List.set_cons_succ]
    go_simp
    go_wp2
    exact bodyPost_ret (results_rt rfl rfl rfl r9 Tryd.underlying30 rfl info31) rfl ⟨_, rfl, NewT.rt hN hR9 (by omega), rfl⟩
  by_cases h2 : n ≤ i
  · clear h
    go_enter Tryd.func23, Tryd.ntmps23
    go_upto_region 2 with fail
    have r8 := rowIs_box (((w.alloc (.cells (rowA 32 (bF leaf)) 30)).alloc (.cells #[.int .i64 i] 3)).alloc (.cells #[.int .i64 n] 3)) 30 32 (bF fun _ => 0)
    rw [World.size_alloc, World.size_alloc, World.size_alloc] at r8
    have hN : NewT w ((((w.alloc (.cells (rowA 32 (bF leaf)) 30)).alloc (.cells #[.int .i64 i] 3)).alloc (.cells #[.int .i64 n] 3)).alloc (.cells (rowA 32 (bF fun _ => 0)) 30)) := (NewT.trans _ _ _ (NewT.trans _ _ _ (NewT.trans _ _ _ (NewT.alloc _ _) (NewT.alloc _ _)) (NewT.alloc _ _)) (NewT.alloc _ _))
    change Code.wp _ _ _ _ ((((w.alloc (.cells (rowA 32 (bF leaf)) 30)).alloc (.cells #[.int .i64 i] 3)).alloc (.cells #[.int .i64 n] 3)).alloc (.cells (rowA 32 (bF fun _ => 0)) 30))
    generalize ((((w.alloc (.cells (rowA 32 (bF leaf)) 30)).alloc (.cells #[.int .i64 i] 3)).alloc (.cells #[.int .i64 n] 3)).alloc (.cells (rowA 32 (bF fun _ => 0)) 30)) = W0 at r8 hN ⊢
    refine wp_region_lit ?_
    refine wpList_plain rfl (fun K hK => ?_)
    refine opr_build0 rfl (hK _ _ ?_)
    clear hK K
    simp only [Act.put, List.setIfInBounds_toArray, List.set_cons_zero, List.set_cons_succ]
    refine wpList_plain rfl (fun K hK => ?_)
    refine opr_putm (F := bF fun _ => 0) rfl rfl rfl r8 (by decide) info31 (fun _ => rfl) (fun i hi => by rw [if_pos (by omega), Nat.sub_zero]) ?_
    intro w9 hR9 r9
    refine hK _ _ ?_
    clear hK K
    refine wpList_plain rfl (fun K hK => ?_)
    refine opr_move (.inr rfl) (hK _ _ ?_)
    refine wpList_end rfl ?_
    simp only [Act.put, List.setIfInBounds_toArray, List.set_cons_zero, List.set_cons_succ]
    go_simp
    go_wp2
    exact bodyPost_ret (results_rt rfl rfl rfl r9 Tryd.underlying30 rfl info31) rfl ⟨_, rfl, NewT.rt hN hR9 (by omega), rfl⟩
  · have h3 : 1048576 < n := by omega
    clear h
    go_enter Tryd.func23, Tryd.ntmps23
    go_upto_region 2 with fail
    have r8 := rowIs_box (((w.alloc (.cells (rowA 32 (bF leaf)) 30)).alloc (.cells #[.int .i64 i] 3)).alloc (.cells #[.int .i64 n] 3)) 30 32 (bF fun _ => 0)
    rw [World.size_alloc, World.size_alloc, World.size_alloc] at r8
    have hN : NewT w ((((w.alloc (.cells (rowA 32 (bF leaf)) 30)).alloc (.cells #[.int .i64 i] 3)).alloc (.cells #[.int .i64 n] 3)).alloc (.cells (rowA 32 (bF fun _ => 0)) 30)) := (NewT.trans _ _ _ (NewT.trans _ _ _ (NewT.trans _ _ _ (NewT.alloc _ _) (NewT.alloc _ _)) (NewT.alloc _ _)) (NewT.alloc _ _))
    change Code.wp _ _ _ _ ((((w.alloc (.cells (rowA 32 (bF leaf)) 30)).alloc (.cells #[.int .i64 i] 3)).alloc (.cells #[.int .i64 n] 3)).alloc (.cells (rowA 32 (bF fun _ => 0)) 30))
    generalize ((((w.alloc (.cells (rowA 32 (bF leaf)) 30)).alloc (.cells #[.int .i64 i] 3)).alloc (.cells #[.int .i64 n] 3)).alloc (.cells (rowA 32 (bF fun _ => 0)) 30)) = W0 at r8 hN ⊢
    refine wp_region_lit ?_
    refine wpList_plain rfl (fun K hK => ?_)
    refine opr_build0 rfl (hK _ _ ?_)
    clear hK K
    simp only [Act.put, List.setIfInBounds_toArray, List.set_cons_zero, List.set_cons_succ]
    refine wpList_plain rfl (fun K hK => ?_)
    refine opr_putm (F := bF fun _ => 0) rfl rfl rfl r8 (by decide) info31 (fun _ => rfl) (fun i hi => by rw [if_pos (by omega), Nat.sub_zero]) ?_
    intro w9 hR9 r9
    refine hK _ _ ?_
    clear hK K
    refine wpList_plain rfl (fun K hK => ?_)
    refine opr_move (.inr rfl) (hK _ _ ?_)
    refine wpList_end rfl ?_
    simp only [Act.put, List.setIfInBounds_toArray, List.set_cons_zero, List.set_cons_succ]
    go_simp
    go_wp2
    exact bodyPost_ret (results_rt rfl rfl rfl r9 Tryd.underlying30 rfl info31) rfl ⟨_, rfl, NewT.rt hN hR9 (by omega), rfl⟩
set_option maxHeartbeats 2000000 in
theorem Comes_ok {node : Hs → Hs → Hs} {z : Hs} (hX : TreeH node z) (leaf : Hs) (i n : Nat) (v : Value) (path : List Hs) (w : World) (hT : Tables w) (hv : RdH w v path) (hpl : path.length ≤ 1000000) (hi : i < n) (hn : n ≤ 1048576) (hc : (leftsM i n).length = path.length) : Cv 23 #[.agg (rowA 32 (bF leaf)), .int .i64 (i : Int), .int .i64 (n : Int), v] w (svHq (upP node leaf i n (winM path path.length (leftsM i n).length)) true) := by
  unfold Cv
  have HC := Lib.hid hc
  have HT := Lib.hid hT
  have HV := Lib.hid hv
  have HPL := Lib.hid hpl
  have HI := Lib.hid hi
  have HNN := Lib.hid hn
  have t1 : ¬ (i : Int) < 0 := by omega
  have t2 : ¬ (n : Int) ≤ (i : Int) := by omega
  have t3 : ¬ (1048576 : Int) < (n : Int) := by omega
  clear hT hv hpl hi hn hc
  go_enter Tryd.func23, Tryd.ntmps23
  go_upto_region 3 with fail
  clear t1 t2 t3
  have r1 := (((rowIs_box w 30 32 (bF leaf)).alloc (.cells #[.int .i64 (i : Int)] 3)).alloc (.cells #[.int .i64 (n : Int)] 3)).alloc (.cells (rowA 32 (bF fun _ => 0)) 30)
  have r2 := ((rowIs_one (w.alloc (.cells (rowA 32 (bF leaf)) 30)) 3 (.int .i64 (i : Int))).alloc (.cells #[.int .i64 (n : Int)] 3)).alloc (.cells (rowA 32 (bF fun _ => 0)) 30)
  rw [World.size_alloc] at r2
  have r3 := (rowIs_one ((w.alloc (.cells (rowA 32 (bF leaf)) 30)).alloc (.cells #[.int .i64 (i : Int)] 3)) 3 (.int .i64 (n : Int))).alloc (.cells (rowA 32 (bF fun _ => 0)) 30)
  rw [World.size_alloc, World.size_alloc] at r3
  have r8 := rowIs_box (((w.alloc (.cells (rowA 32 (bF leaf)) 30)).alloc (.cells #[.int .i64 (i : Int)] 3)).alloc (.cells #[.int .i64 (n : Int)] 3)) 30 32 (bF fun _ => 0)
  rw [World.size_alloc, World.size_alloc, World.size_alloc] at r8
  have hN : NewT w ((((w.alloc (.cells (rowA 32 (bF leaf)) 30)).alloc (.cells #[.int .i64 (i : Int)] 3)).alloc (.cells #[.int .i64 (n : Int)] 3)).alloc (.cells (rowA 32 (bF fun _ => 0)) 30)) := (NewT.trans _ _ _ (NewT.trans _ _ _ (NewT.trans _ _ _ (NewT.alloc _ _) (NewT.alloc _ _)) (NewT.alloc _ _)) (NewT.alloc _ _))
  change Code.wp _ _ _ _ ((((w.alloc (.cells (rowA 32 (bF leaf)) 30)).alloc (.cells #[.int .i64 (i : Int)] 3)).alloc (.cells #[.int .i64 (n : Int)] 3)).alloc (.cells (rowA 32 (bF fun _ => 0)) 30))
  generalize ((((w.alloc (.cells (rowA 32 (bF leaf)) 30)).alloc (.cells #[.int .i64 (i : Int)] 3)).alloc (.cells #[.int .i64 (n : Int)] 3)).alloc (.cells (rowA 32 (bF fun _ => 0)) 30)) = W0 at r1 r2 r3 r8 hN ⊢
  have R8 := Lib.hid r8
  have HN := Lib.hid hN
  have h29 := ofAllP_ok #[.pointer (some ⟨w.heap.size, 0, none⟩), .pointer (some ⟨w.heap.size + 1, 0, none⟩), .pointer (some ⟨w.heap.size + 1 + 1, 0, none⟩)] v path (upP node leaf i n (winM path path.length (leftsM i n).length)) W0 (hN.tables HT.out) (hN.hs HV.out) (fun w' g hN' hg hk => by rw [show (#[.func (.func 62) #[] #[.pointer (some ⟨g, 0, none⟩)]] ++ #[.pointer (some ⟨w.heap.size, 0, none⟩), .pointer (some ⟨w.heap.size + 1, 0, none⟩), .pointer (some ⟨w.heap.size + 1 + 1, 0, none⟩)] : Array Value) = #[.func (.func 62) #[] #[.pointer (some ⟨g, 0, none⟩)], .pointer (some ⟨w.heap.size, 0, none⟩), .pointer (some ⟨w.heap.size + 1, 0, none⟩), .pointer (some ⟨w.heap.size + 1 + 1, 0, none⟩)] from rfl]; have h := Comes1_ok hX leaf i n g path.length w.heap.size (w.heap.size + 1) (w.heap.size + 1 + 1) path w' HPL.out HI.out HNN.out hk (by have := HC.out; omega) (hN'.row r1) (hN'.row r2) (hN'.row r3); rw [show path.length - (leftsM i n).length = 0 by have := HC.out; omega] at h; exact h)
  clear r1 r2 r3 r8
  refine wp_region_lit ?_
  refine wpList_plain rfl (fun K hK => ?_)
  refine opr_move (.inl rfl) (hK _ _ ?_)
  clear hK K
  refine wpList_plain rfl (fun K hK => ?_)
  refine opr_mkf (cap := #[.pointer (some ⟨w.heap.size, 0, none⟩), .pointer (some ⟨w.heap.size + 1, 0, none⟩), .pointer (some ⟨w.heap.size + 1 + 1, 0, none⟩)]) rfl (by simp only [List.map_toArray, List.map_cons, List.map_nil]; rfl) (hK _ _ ?_)
  clear hK K
  simp only [Act.put, List.setIfInBounds_toArray, List.set_cons_zero, List.set_cons_succ]
  refine wpList_plain rfl (fun K hK => ?_)
  refine opr_call (vs := #[v, .func (.func 41) #[] #[.pointer (some ⟨w.heap.size, 0, none⟩), .pointer (some ⟨w.heap.size + 1, 0, none⟩), .pointer (some ⟨w.heap.size + 1 + 1, 0, none⟩)]]) rfl Tryd.func40 (by kernel_rfl) (by kernel_rfl) (by simp only [List.map_toArray, List.map_cons, List.map_nil]; rfl) (h29.mono ?_)
  clear h29
  rintro e w4 ⟨rfl, hN4⟩
  refine ⟨_, rfl, hK _ _ ?_⟩
  clear hK K
  refine wpList_plain rfl (fun K hK => ?_)
  refine opr_ext rfl rfl rfl (hK _ _ ?_)
  clear hK K
  refine wpList_plain rfl (fun K hK => ?_)
  refine opr_ext rfl rfl rfl (hK _ _ ?_)
  clear hK K
  simp only [Act.put, List.setIfInBounds_toArray, List.set_cons_zero, List.set_cons_succ]
  refine wpList_plain rfl (fun K hK => ?_)
  refine opr_putm (F := bF (upP node leaf i n (winM path path.length (leftsM i n).length))) rfl rfl rfl (hN4.row R8.out) (by decide) info31 (fun _ => rfl) (fun i hi => by rw [if_pos (by omega), Nat.sub_zero]) ?_
  intro w9 hR9 r9
  refine hK _ _ ?_
  clear hK K
  refine wpList_plain rfl (fun K hK => ?_)
  refine opr_move (.inr rfl) (hK _ _ ?_)
  refine wpList_end rfl ?_
  simp only [Act.put, List.setIfInBounds_toArray, List.set_cons_zero, List.set_cons_succ]
  go_simp
  go_wp2
  exact bodyPost_ret (results_rt rfl rfl rfl r9 Tryd.underlying30 rfl info31) rfl ⟨_, rfl, NewT.rt (NewT.trans _ _ _ HN.out hN4) hR9 (by omega), rfl⟩
set_option maxHeartbeats 2000000 in
theorem Comes_many {node : Hs → Hs → Hs} {z : Hs} (hX : TreeH node z) (leaf : Hs) (i n : Nat) (v : Value) (path : List Hs) (w : World) (hT : Tables w) (hv : RdH w v path) (hpl : path.length ≤ 1000000) (hi : i < n) (hn : n ≤ 1048576) (hc : (leftsM i n).length < path.length) : Cv 23 #[.agg (rowA 32 (bF leaf)), .int .i64 (i : Int), .int .i64 (n : Int), v] w (svHq (fun _ => 0) false) := by
  unfold Cv
  have HC := Lib.hid hc
  have HT := Lib.hid hT
  have HV := Lib.hid hv
  have HPL := Lib.hid hpl
  have HI := Lib.hid hi
  have HNN := Lib.hid hn
  have t1 : ¬ (i : Int) < 0 := by omega
  have t2 : ¬ (n : Int) ≤ (i : Int) := by omega
  have t3 : ¬ (1048576 : Int) < (n : Int) := by omega
  clear hT hv hpl hi hn hc
  go_enter Tryd.func23, Tryd.ntmps23
  go_upto_region 3 with fail
  clear t1 t2 t3
  have r1 := (((rowIs_box w 30 32 (bF leaf)).alloc (.cells #[.int .i64 (i : Int)] 3)).alloc (.cells #[.int .i64 (n : Int)] 3)).alloc (.cells (rowA 32 (bF fun _ => 0)) 30)
  have r2 := ((rowIs_one (w.alloc (.cells (rowA 32 (bF leaf)) 30)) 3 (.int .i64 (i : Int))).alloc (.cells #[.int .i64 (n : Int)] 3)).alloc (.cells (rowA 32 (bF fun _ => 0)) 30)
  rw [World.size_alloc] at r2
  have r3 := (rowIs_one ((w.alloc (.cells (rowA 32 (bF leaf)) 30)).alloc (.cells #[.int .i64 (i : Int)] 3)) 3 (.int .i64 (n : Int))).alloc (.cells (rowA 32 (bF fun _ => 0)) 30)
  rw [World.size_alloc, World.size_alloc] at r3
  have r8 := rowIs_box (((w.alloc (.cells (rowA 32 (bF leaf)) 30)).alloc (.cells #[.int .i64 (i : Int)] 3)).alloc (.cells #[.int .i64 (n : Int)] 3)) 30 32 (bF fun _ => 0)
  rw [World.size_alloc, World.size_alloc, World.size_alloc] at r8
  have hN : NewT w ((((w.alloc (.cells (rowA 32 (bF leaf)) 30)).alloc (.cells #[.int .i64 (i : Int)] 3)).alloc (.cells #[.int .i64 (n : Int)] 3)).alloc (.cells (rowA 32 (bF fun _ => 0)) 30)) := (NewT.trans _ _ _ (NewT.trans _ _ _ (NewT.trans _ _ _ (NewT.alloc _ _) (NewT.alloc _ _)) (NewT.alloc _ _)) (NewT.alloc _ _))
  change Code.wp _ _ _ _ ((((w.alloc (.cells (rowA 32 (bF leaf)) 30)).alloc (.cells #[.int .i64 (i : Int)] 3)).alloc (.cells #[.int .i64 (n : Int)] 3)).alloc (.cells (rowA 32 (bF fun _ => 0)) 30))
  generalize ((((w.alloc (.cells (rowA 32 (bF leaf)) 30)).alloc (.cells #[.int .i64 (i : Int)] 3)).alloc (.cells #[.int .i64 (n : Int)] 3)).alloc (.cells (rowA 32 (bF fun _ => 0)) 30)) = W0 at r1 r2 r3 r8 hN ⊢
  have R8 := Lib.hid r8
  have HN := Lib.hid hN
  have h29 := ofAllP_many #[.pointer (some ⟨w.heap.size, 0, none⟩), .pointer (some ⟨w.heap.size + 1, 0, none⟩), .pointer (some ⟨w.heap.size + 1 + 1, 0, none⟩)] v path (upP node leaf i n (winM path path.length (leftsM i n).length)) (path.length - (leftsM i n).length - 1) W0 (hN.tables HT.out) (hN.hs HV.out) (by have e : path.length - (leftsM i n).length - 1 + 1 = path.length - (leftsM i n).length := (by have := HC.out; omega); rw [e]; exact (fun w' g hN' hg hk => by rw [show (#[.func (.func 62) #[] #[.pointer (some ⟨g, 0, none⟩)]] ++ #[.pointer (some ⟨w.heap.size, 0, none⟩), .pointer (some ⟨w.heap.size + 1, 0, none⟩), .pointer (some ⟨w.heap.size + 1 + 1, 0, none⟩)] : Array Value) = #[.func (.func 62) #[] #[.pointer (some ⟨g, 0, none⟩)], .pointer (some ⟨w.heap.size, 0, none⟩), .pointer (some ⟨w.heap.size + 1, 0, none⟩), .pointer (some ⟨w.heap.size + 1 + 1, 0, none⟩)] from rfl]; exact Comes1_ok hX leaf i n g path.length w.heap.size (w.heap.size + 1) (w.heap.size + 1 + 1) path w' HPL.out HI.out HNN.out hk (by have := HC.out; omega) (hN'.row r1) (hN'.row r2) (hN'.row r3)))
  clear r1 r2 r3 r8
  refine wp_region_lit ?_
  refine wpList_plain rfl (fun K hK => ?_)
  refine opr_move (.inl rfl) (hK _ _ ?_)
  clear hK K
  refine wpList_plain rfl (fun K hK => ?_)
  refine opr_mkf (cap := #[.pointer (some ⟨w.heap.size, 0, none⟩), .pointer (some ⟨w.heap.size + 1, 0, none⟩), .pointer (some ⟨w.heap.size + 1 + 1, 0, none⟩)]) rfl (by simp only [List.map_toArray, List.map_cons, List.map_nil]; rfl) (hK _ _ ?_)
  clear hK K
  simp only [Act.put, List.setIfInBounds_toArray, List.set_cons_zero, List.set_cons_succ]
  refine wpList_plain rfl (fun K hK => ?_)
  refine opr_call (vs := #[v, .func (.func 41) #[] #[.pointer (some ⟨w.heap.size, 0, none⟩), .pointer (some ⟨w.heap.size + 1, 0, none⟩), .pointer (some ⟨w.heap.size + 1 + 1, 0, none⟩)]]) rfl Tryd.func40 (by kernel_rfl) (by kernel_rfl) (by simp only [List.map_toArray, List.map_cons, List.map_nil]; rfl) (h29.mono ?_)
  clear h29
  rintro e w4 ⟨rfl, hN4⟩
  refine ⟨_, rfl, hK _ _ ?_⟩
  clear hK K
  refine wpList_plain rfl (fun K hK => ?_)
  refine opr_ext rfl rfl rfl (hK _ _ ?_)
  clear hK K
  refine wpList_plain rfl (fun K hK => ?_)
  refine opr_ext rfl rfl rfl (hK _ _ ?_)
  clear hK K
  simp only [Act.put, List.setIfInBounds_toArray, List.set_cons_zero, List.set_cons_succ]
  refine wpList_plain rfl (fun K hK => ?_)
  refine opr_putm (F := bF (fun _ => 0)) rfl rfl rfl (hN4.row R8.out) (by decide) info31 (fun _ => rfl) (fun i hi => by rw [if_pos (by omega), Nat.sub_zero]) ?_
  intro w9 hR9 r9
  refine hK _ _ ?_
  clear hK K
  refine wpList_plain rfl (fun K hK => ?_)
  refine opr_move (.inr rfl) (hK _ _ ?_)
  refine wpList_end rfl ?_
  simp only [Act.put, List.setIfInBounds_toArray, List.set_cons_zero, List.set_cons_succ]
  go_simp
  go_wp2
  exact bodyPost_ret (results_rt rfl rfl rfl r9 Tryd.underlying30 rfl info31) rfl ⟨_, rfl, NewT.rt (NewT.trans _ _ _ HN.out hN4) hR9 (by omega), rfl⟩
set_option maxHeartbeats 2000000 in
theorem Comes_few {node : Hs → Hs → Hs} {z : Hs} (hX : TreeH node z) (leaf : Hs) (i n : Nat) (v : Value) (path : List Hs) (w : World) (hT : Tables w) (hv : RdH w v path) (hpl : path.length ≤ 1000000) (hi : i < n) (hn : n ≤ 1048576) (hc : path.length < (leftsM i n).length) : Cv 23 #[.agg (rowA 32 (bF leaf)), .int .i64 (i : Int), .int .i64 (n : Int), v] w (svHq (fun _ => 0) false) := by
  unfold Cv
  have HC := Lib.hid hc
  have HT := Lib.hid hT
  have HV := Lib.hid hv
  have HPL := Lib.hid hpl
  have HI := Lib.hid hi
  have HNN := Lib.hid hn
  have t1 : ¬ (i : Int) < 0 := by omega
  have t2 : ¬ (n : Int) ≤ (i : Int) := by omega
  have t3 : ¬ (1048576 : Int) < (n : Int) := by omega
  clear hT hv hpl hi hn hc
  go_enter Tryd.func23, Tryd.ntmps23
  go_upto_region 3 with fail
  clear t1 t2 t3
  have r1 := (((rowIs_box w 30 32 (bF leaf)).alloc (.cells #[.int .i64 (i : Int)] 3)).alloc (.cells #[.int .i64 (n : Int)] 3)).alloc (.cells (rowA 32 (bF fun _ => 0)) 30)
  have r2 := ((rowIs_one (w.alloc (.cells (rowA 32 (bF leaf)) 30)) 3 (.int .i64 (i : Int))).alloc (.cells #[.int .i64 (n : Int)] 3)).alloc (.cells (rowA 32 (bF fun _ => 0)) 30)
  rw [World.size_alloc] at r2
  have r3 := (rowIs_one ((w.alloc (.cells (rowA 32 (bF leaf)) 30)).alloc (.cells #[.int .i64 (i : Int)] 3)) 3 (.int .i64 (n : Int))).alloc (.cells (rowA 32 (bF fun _ => 0)) 30)
  rw [World.size_alloc, World.size_alloc] at r3
  have r8 := rowIs_box (((w.alloc (.cells (rowA 32 (bF leaf)) 30)).alloc (.cells #[.int .i64 (i : Int)] 3)).alloc (.cells #[.int .i64 (n : Int)] 3)) 30 32 (bF fun _ => 0)
  rw [World.size_alloc, World.size_alloc, World.size_alloc] at r8
  have hN : NewT w ((((w.alloc (.cells (rowA 32 (bF leaf)) 30)).alloc (.cells #[.int .i64 (i : Int)] 3)).alloc (.cells #[.int .i64 (n : Int)] 3)).alloc (.cells (rowA 32 (bF fun _ => 0)) 30)) := (NewT.trans _ _ _ (NewT.trans _ _ _ (NewT.trans _ _ _ (NewT.alloc _ _) (NewT.alloc _ _)) (NewT.alloc _ _)) (NewT.alloc _ _))
  change Code.wp _ _ _ _ ((((w.alloc (.cells (rowA 32 (bF leaf)) 30)).alloc (.cells #[.int .i64 (i : Int)] 3)).alloc (.cells #[.int .i64 (n : Int)] 3)).alloc (.cells (rowA 32 (bF fun _ => 0)) 30))
  generalize ((((w.alloc (.cells (rowA 32 (bF leaf)) 30)).alloc (.cells #[.int .i64 (i : Int)] 3)).alloc (.cells #[.int .i64 (n : Int)] 3)).alloc (.cells (rowA 32 (bF fun _ => 0)) 30)) = W0 at r1 r2 r3 r8 hN ⊢
  have R8 := Lib.hid r8
  have HN := Lib.hid hN
  have h29 := ofAllP_few #[.pointer (some ⟨w.heap.size, 0, none⟩), .pointer (some ⟨w.heap.size + 1, 0, none⟩), .pointer (some ⟨w.heap.size + 1 + 1, 0, none⟩)] v path W0 (hN.tables HT.out) (hN.hs HV.out) (fun w' g hN' hg hk => by rw [show (#[.func (.func 62) #[] #[.pointer (some ⟨g, 0, none⟩)]] ++ #[.pointer (some ⟨w.heap.size, 0, none⟩), .pointer (some ⟨w.heap.size + 1, 0, none⟩), .pointer (some ⟨w.heap.size + 1 + 1, 0, none⟩)] : Array Value) = #[.func (.func 62) #[] #[.pointer (some ⟨g, 0, none⟩)], .pointer (some ⟨w.heap.size, 0, none⟩), .pointer (some ⟨w.heap.size + 1, 0, none⟩), .pointer (some ⟨w.heap.size + 1 + 1, 0, none⟩)] from rfl]; exact Comes1_no hX leaf i n g path.length w.heap.size (w.heap.size + 1) (w.heap.size + 1 + 1) path w' HPL.out HI.out HNN.out hk HC.out (hN'.row r1) (hN'.row r2) (hN'.row r3))
  clear r1 r2 r3 r8
  refine wp_region_lit ?_
  refine wpList_plain rfl (fun K hK => ?_)
  refine opr_move (.inl rfl) (hK _ _ ?_)
  clear hK K
  refine wpList_plain rfl (fun K hK => ?_)
  refine opr_mkf (cap := #[.pointer (some ⟨w.heap.size, 0, none⟩), .pointer (some ⟨w.heap.size + 1, 0, none⟩), .pointer (some ⟨w.heap.size + 1 + 1, 0, none⟩)]) rfl (by simp only [List.map_toArray, List.map_cons, List.map_nil]; rfl) (hK _ _ ?_)
  clear hK K
  simp only [Act.put, List.setIfInBounds_toArray, List.set_cons_zero, List.set_cons_succ]
  refine wpList_plain rfl (fun K hK => ?_)
  refine opr_call (vs := #[v, .func (.func 41) #[] #[.pointer (some ⟨w.heap.size, 0, none⟩), .pointer (some ⟨w.heap.size + 1, 0, none⟩), .pointer (some ⟨w.heap.size + 1 + 1, 0, none⟩)]]) rfl Tryd.func40 (by kernel_rfl) (by kernel_rfl) (by simp only [List.map_toArray, List.map_cons, List.map_nil]; rfl) (h29.mono ?_)
  clear h29
  rintro e w4 ⟨rfl, hN4⟩
  refine ⟨_, rfl, hK _ _ ?_⟩
  clear hK K
  refine wpList_plain rfl (fun K hK => ?_)
  refine opr_ext rfl rfl rfl (hK _ _ ?_)
  clear hK K
  refine wpList_plain rfl (fun K hK => ?_)
  refine opr_ext rfl rfl rfl (hK _ _ ?_)
  clear hK K
  simp only [Act.put, List.setIfInBounds_toArray, List.set_cons_zero, List.set_cons_succ]
  refine wpList_plain rfl (fun K hK => ?_)
  refine opr_putm (F := bF (fun _ => 0)) rfl rfl rfl (hN4.row R8.out) (by decide) info31 (fun _ => rfl) (fun i hi => by rw [if_pos (by omega), Nat.sub_zero]) ?_
  intro w9 hR9 r9
  refine hK _ _ ?_
  clear hK K
  refine wpList_plain rfl (fun K hK => ?_)
  refine opr_move (.inr rfl) (hK _ _ ?_)
  refine wpList_end rfl ?_
  simp only [Act.put, List.setIfInBounds_toArray, List.set_cons_zero, List.set_cons_succ]
  go_simp
  go_wp2
  exact bodyPost_ret (results_rt rfl rfl rfl r9 Tryd.underlying30 rfl info31) rfl ⟨_, rfl, NewT.rt (NewT.trans _ _ _ HN.out hN4) hR9 (by omega), rfl⟩
theorem Comes_cv {node : Hs → Hs → Hs} {z : Hs} (hX : TreeH node z) (leaf : Hs) (i n : Int) (v : Value) (path : List Hs) (w : World) (hT : Tables w) (hv : RdH w v path) (hpl : path.length ≤ 1000000) : Cv 23 #[.agg (rowA 32 (bF leaf)), .int .i64 i, .int .i64 n, v] w (svHq (comesM node (fun _ => 0) leaf i n path) (okP i n path.length)) := by
  by_cases h : i < 0 ∨ n ≤ i ∨ 1048576 < n
  · have e : okP i n path.length = false := by
      unfold okP
      rcases h with h | h | h
      · simp [show ¬ 0 ≤ i by omega]
      · simp [show ¬ i < n by omega]
      · simp [show ¬ n ≤ 1048576 by omega]
    unfold comesM
    rw [e, if_neg (by decide)]
    exact Comes_bad leaf i n v w h
  · obtain ⟨i, rfl⟩ : ∃ k : Nat, i = (k : Int) := ⟨i.toNat, by omega⟩
    obtain ⟨n, rfl⟩ : ∃ k : Nat, n = (k : Int) := ⟨n.toNat, by omega⟩
    have e : okP (i : Int) (n : Int) path.length = decide ((leftsM i n).length = path.length) := by
      unfold okP; rw [Int.toNat_natCast, Int.toNat_natCast]; simp [show (i : Int) < n by omega, show (n : Int) ≤ 1048576 by omega]
    unfold comesM
    rw [e, Int.toNat_natCast, Int.toNat_natCast]
    rcases Nat.lt_trichotomy (leftsM i n).length path.length with h3 | h3 | h3
    · rw [decide_eq_false (by omega), if_neg (by decide)]
      exact Comes_many hX leaf i n v path w hT hv hpl (by omega) (by omega) h3
    · have := Comes_ok hX leaf i n v path w hT hv hpl (by omega) (by omega) h3
      rw [h3, winM_all] at this
      rw [decide_eq_true h3, if_pos rfl]
      exact this
    · rw [decide_eq_false (by omega), if_neg (by decide)]
      exact Comes_few hX leaf i n v path w hT hv hpl (by omega) (by omega) h3
end Go.Proofs.YtlnedphnphabkaaDoor
/- Lists of leaves and hashes: their parts, and the text that a list's root is the digest of. -/
namespace Go.Proofs.YtlnedphnphabkaaDoor
open Go Go.RowKit
set_option maxRecDepth 8000
set_option linter.all false
theorem opr_ldFR {a : Act} {w : World} {o : Oper} {K : Act → World → Prop} {Q : Exit → Act → World → Prop} {x : Operand} {g n : Nat} {t' : TypeId} {F : Nat → Value} {v : Value} {o0 : Nat} (hr : w.rowIs g t' n F) (hn : o0 < n) (hv : F o0 = v) (ho : o.op = .load 42 x) (hx : a.eval x = .pointer (some ⟨g, o0, none⟩)) (h : K (a.put o.dst v) w) : o.wp Tryd.prog a w K Q :=
  opr_ld1 Tryd.underlying42 rfl ho hx (by rw [hr.cell hn, hv]) h
theorem opr_ldFC {a : Act} {w : World} {o : Oper} {K : Act → World → Prop} {Q : Exit → Act → World → Prop} {x : Operand} {g n : Nat} {t' : TypeId} {F : Nat → Value} {v : Value} {o0 : Nat} (hr : w.rowIs g t' n F) (hn : o0 < n) (hv : F o0 = v) (ho : o.op = .load 78 x) (hx : a.eval x = .pointer (some ⟨g, o0, none⟩)) (h : K (a.put o.dst v) w) : o.wp Tryd.prog a w K Q :=
  opr_ld1 Tryd.underlying78 rfl ho hx (by rw [hr.cell hn, hv]) h
set_option maxHeartbeats 1000000 in
theorem Part_cv (W w : World) (hNW : NewT W w) (u p : Value) (x : List (List UInt8)) (h : List Hs) (hu : Parts W u x) (hp : RdH W p h) (j k : Nat) (hj : j ≤ k) (hk : k ≤ x.length) (hh : k ≤ h.length) : Cv 49 #[.agg (rowA 2 (lsF u p)), .int .i64 (j : Int), .int .i64 (k : Int)] w (svLs W (List.drop j (List.take k x)) (List.drop j (List.take k h))) := by
  unfold Cv
  have HU := Lib.hid hu
  have HP := Lib.hid hp
  have HJ := Lib.hid hj
  have HKX := Lib.hid hk
  have HKH := Lib.hid hh
  clear hu hp hj hk hh
  go_enter Tryd.func49, Tryd.ntmps49
  go_upto_region 1 with fail
  have r3 := (rowIs_box w 64 2 (lsF u p)).alloc (.cells (rowA 2 (lsF (.slice none 0 0) (.slice none 0 0))) 64)
  have r6 := rowIs_box (w.alloc (.cells (rowA 2 (lsF u p)) 64)) 64 2 (lsF (.slice none 0 0) (.slice none 0 0))
  rw [World.size_alloc] at r6
  have hN : NewT w ((w.alloc (.cells (rowA 2 (lsF u p)) 64)).alloc (.cells (rowA 2 (lsF (.slice none 0 0) (.slice none 0 0))) 64)) := (NewT.trans _ _ _ (NewT.alloc _ _) (NewT.alloc _ _))
  change Code.wp _ _ _ _ ((w.alloc (.cells (rowA 2 (lsF u p)) 64)).alloc (.cells (rowA 2 (lsF (.slice none 0 0) (.slice none 0 0))) 64))
  generalize ((w.alloc (.cells (rowA 2 (lsF u p)) 64)).alloc (.cells (rowA 2 (lsF (.slice none 0 0) (.slice none 0 0))) 64)) = W0 at r3 r6 hN ⊢
  have R3 := Lib.hid r3
  have R6 := Lib.hid r6
  have HN0 := Lib.hid hN
  have HN := Lib.hid (NewT.trans _ _ _ hNW hN)
  clear r3 r6 hN hNW
  refine wp_region_rely (NewT) [SV.eq (.pointer (some ⟨w.heap.size, 0, none⟩)), SV.eq (u), SV.eq (.int .i64 ((j : Int))), SV.eq (.int .i64 ((k : Int))), svPs W (List.drop j (List.take k x)), SV.eq (.pointer (some ⟨w.heap.size, 1, none⟩)), SV.eq (p), SV.eq (.int .i64 ((j : Int))), SV.eq (.int .i64 ((k : Int))), svHs W (List.drop j (List.take k h)), svLs W (List.drop j (List.take k x)) (List.drop j (List.take k h))] [([(3, none)], none), ([(7, some 0)], none), ([(1, none)], none), ([(2, none)], none), ([(8, some 1), (9, some 2), (10, some 3)], none), ([(3, none)], none), ([(12, some 5)], none), ([(1, none)], none), ([(2, none)], none), ([(13, some 6), (14, some 7), (15, some 8)], none), ([(11, some 4), (16, some 9)], none)] 18 rfl (by kernel_rfl) rfl (by kernel_rfl) (by kernel_rfl) rfl NewT.trans (NewT.drew _) (Nat.le_of_ble_eq_true rfl) ⟨?_, ?_, ?_, ?_, ?_, ?_, ?_, ?_, ?_, ?_, ?_, trivial⟩ ?_
  · intro a wx hT hF K hK
    obtain ⟨f3, _⟩ := hF
    have f3 : a.tmps.getD 3 undef = .pointer (some ⟨w.heap.size, 0, none⟩) := f3
    refine rely_wp rfl ?_
    exact opr_fldL0 rfl f3 (hK _ _ (NewT.refl _) rfl)
  · intro a wx hT hF K hK
    obtain ⟨f7, _⟩ := hF
    have f7 : a.tmps.getD 7 undef = .pointer (some ⟨w.heap.size, 0, none⟩) := f7
    refine rely_wp rfl ?_
    exact opr_ldTs (hT.row R3.out) (by decide) rfl rfl f7 (hK _ _ (NewT.refl _) rfl)
  · intro a wx hT hF K hK
    obtain ⟨f1, _⟩ := hF
    have f1 : a.tmps.getD 1 undef = .int .i64 ((j : Int)) := f1
    refine rely_wp rfl ?_
    exact opr_move (.inl rfl) (hK _ _ (NewT.refl _) f1)
  · intro a wx hT hF K hK
    obtain ⟨f2, _⟩ := hF
    have f2 : a.tmps.getD 2 undef = .int .i64 ((k : Int)) := f2
    refine rely_wp rfl ?_
    exact opr_move (.inl rfl) (hK _ _ (NewT.refl _) f2)
  · intro a wx hT hF K hK
    obtain ⟨f8, f9, f10, _⟩ := hF
    have f8 : a.tmps.getD 8 undef = u := f8
    have f9 : a.tmps.getD 9 undef = .int .i64 ((j : Int)) := f9
    have f10 : a.tmps.getD 10 undef = .int .i64 ((k : Int)) := f10
    refine rely_wp rfl ?_
    exact opr_cutT HJ.out HKX.out rfl (by rw [eval_tmp, f8]; exact HU.out) f9 f10 (fun v hv => hK v _ (NewT.refl _) hv)
  · intro a wx hT hF K hK
    obtain ⟨f3, _⟩ := hF
    have f3 : a.tmps.getD 3 undef = .pointer (some ⟨w.heap.size, 0, none⟩) := f3
    refine rely_wp rfl ?_
    exact opr_fldL1 rfl f3 (hK _ _ (NewT.refl _) rfl)
  · intro a wx hT hF K hK
    obtain ⟨f12, _⟩ := hF
    have f12 : a.tmps.getD 12 undef = .pointer (some ⟨w.heap.size, 1, none⟩) := f12
    refine rely_wp rfl ?_
    exact opr_ldHs (hT.row R3.out) (by decide) rfl rfl f12 (hK _ _ (NewT.refl _) rfl)
  · intro a wx hT hF K hK
    obtain ⟨f1, _⟩ := hF
    have f1 : a.tmps.getD 1 undef = .int .i64 ((j : Int)) := f1
    refine rely_wp rfl ?_
    exact opr_move (.inl rfl) (hK _ _ (NewT.refl _) f1)
  · intro a wx hT hF K hK
    obtain ⟨f2, _⟩ := hF
    have f2 : a.tmps.getD 2 undef = .int .i64 ((k : Int)) := f2
    refine rely_wp rfl ?_
    exact opr_move (.inl rfl) (hK _ _ (NewT.refl _) f2)
  · intro a wx hT hF K hK
    obtain ⟨f13, f14, f15, _⟩ := hF
    have f13 : a.tmps.getD 13 undef = p := f13
    have f14 : a.tmps.getD 14 undef = .int .i64 ((j : Int)) := f14
    have f15 : a.tmps.getD 15 undef = .int .i64 ((k : Int)) := f15
    refine rely_wp rfl ?_
    exact opr_cutH HJ.out HKH.out rfl (by rw [eval_tmp, f13]; exact HP.out) f14 f15 (fun v hv => hK v _ (NewT.refl _) hv)
  · intro a wx hT hF K hK
    obtain ⟨f11, f16, _⟩ := hF
    replace f11 := show (svPs W (List.drop j (List.take k x))).pred (a.tmps.getD 11 undef) wx from f11
    replace f16 := show (svHs W (List.drop j (List.take k h))).pred (a.tmps.getD 16 undef) wx from f16
    refine rely_wp rfl ?_
    exact opr_bldL (parts_sl f11) (rdH_sl f16) rfl rfl rfl (hK _ _ (NewT.refl _) ⟨_, _, rfl, f11, f16⟩)
  · intro wx hT
    intro u h; obtain rfl := Eq.symm (h (by simp)); clear h
    intro u h; obtain rfl := Eq.symm (h (by simp)); clear h
    intro u h; obtain rfl := Eq.symm (h (by simp)); clear h
    intro u h; obtain rfl := Eq.symm (h (by simp)); clear h
    intro _ _
    intro u h; obtain rfl := Eq.symm (h (by simp)); clear h
    intro u h; obtain rfl := Eq.symm (h (by simp)); clear h
    intro u h; obtain rfl := Eq.symm (h (by simp)); clear h
    intro u h; obtain rfl := Eq.symm (h (by simp)); clear h
    intro _ _
    intro u17 h; have g17 := h (by simp); clear h; replace g17 := show (svLs W (List.drop j (List.take k x)) (List.drop j (List.take k h))).pred u17 wx from g17
    refine relyEnd_nil rfl ?_
    simp only [Act.put, List.setIfInBounds_toArray, List.set_cons_zero, List.set_cons_succ]
    obtain ⟨u', p', rfl, hu', hp'⟩ := g17
    refine opr_putm (F := lsF u' p') rfl rfl rfl (hT.row R6.out) (by decide) infoL (lsF_one (sl_one (parts_sl hu')) (sl_one (rdH_sl hp'))) (fun i hi => by rw [if_pos (by omega), Nat.sub_zero]) ?_
    intro w9 hR9 r9
    go_simp
    go_wp2
    exact bodyPost_ret (results_agg rfl _ rfl r9 Tryd.underlying64 rfl infoL) rfl ⟨_, rfl, NewT.rt (NewT.trans _ _ _ HN0.out hT) hR9 (by omega), u', p', rfl, hu', hp'⟩
theorem Part_to (W w : World) (hNW : NewT W w) (u p : Value) (x : List (List UInt8)) (h : List Hs) (hu : Parts W u x) (hp : RdH W p h) (hh : h.length = x.length) (k : Nat) (hk : k ≤ x.length) : Cv 49 #[.agg (rowA 2 (lsF u p)), .int .i64 0, .int .i64 (k : Int)] w (svLs W (List.take k x) (List.take k h)) :=
  Part_cv W w hNW u p x h hu hp 0 k (Nat.zero_le _) hk (by omega)
theorem Part_from (W w : World) (hNW : NewT W w) (u p : Value) (x : List (List UInt8)) (h : List Hs) (hu : Parts W u x) (hp : RdH W p h) (hh : h.length = x.length) (k : Nat) (hk : k ≤ x.length) : Cv 49 #[.agg (rowA 2 (lsF u p)), .int .i64 (k : Int), .int .i64 (x.length : Int)] w (svLs W (List.drop k x) (List.drop k h)) := by
  have h1 := Part_cv W w hNW u p x h hu hp k x.length hk (Nat.le_refl _) (by omega)
  rw [List.take_length, ← hh, List.take_length, hh] at h1; exact h1
set_option maxHeartbeats 1000000 in
theorem LText_1 (W w : World) (hNW : NewT W w) (u p : Value) (x : List (List UInt8)) (t : List UInt8) (h : List Hs) (hu : Parts W u x) (hp : RdH W p h) (h1 : x.length = 1) (hx : x[0]? = some t) (hb : t.length ≤ 10000) (fv : Value) : Cv 46 #[.agg (rowA 2 (lsF u p)), fv] w (svRd (0 :: t)) := by
  have HL1 : Hid (((x.length : Int) == 1) = true) := Lib.hid (by rw [h1]; rfl)
  have HX := Lib.hid hx
  have HB := Lib.hid hb
  clear h1 hx hb
  unfold Cv
  have HU := Lib.hid hu
  have HP := Lib.hid hp
  clear hu hp
  go_enter Tryd.func46, Tryd.ntmps46
  go_upto_region 1 with fail
  have r3 := rowIs_box w 64 2 (lsF u p)
  have hN : NewT w (w.alloc (.cells (rowA 2 (lsF u p)) 64)) := (NewT.alloc _ _)
  change Code.wp _ _ _ _ (w.alloc (.cells (rowA 2 (lsF u p)) 64))
  generalize (w.alloc (.cells (rowA 2 (lsF u p)) 64)) = W0 at r3 hN ⊢
  have R3 := Lib.hid r3
  have HN0 := Lib.hid hN
  have HN := Lib.hid (NewT.trans _ _ _ hNW hN)
  clear r3 hN hNW
  refine wp_region_steps0 NewT [SV.eq (.pointer (some ⟨w.heap.size, 0, none⟩)), SV.eq (u), SV.eq (.int .i64 ((List.length (x) : Int))), SV.eq (.bool true)] [([(2, none)], none), ([(6, some 0)], none), ([(7, some 1)], none), ([(8, some 2)], none)] 32 4 rfl rfl (by kernel_rfl) NewT.trans (NewT.refl _) (Nat.le_of_ble_eq_true rfl) ⟨?_, ?_, ?_, ?_, trivial⟩ ?_
  · intro a wx hT hF K hK
    obtain ⟨f2, _⟩ := hF
    have f2 : a.tmps.getD 2 undef = .pointer (some ⟨w.heap.size, 0, none⟩) := f2
    refine rely_wp rfl ?_
    exact opr_fldL0 rfl f2 (hK _ _ (NewT.refl _) rfl)
  · intro a wx hT hF K hK
    obtain ⟨f6, _⟩ := hF
    have f6 : a.tmps.getD 6 undef = .pointer (some ⟨w.heap.size, 0, none⟩) := f6
    refine rely_wp rfl ?_
    exact opr_ldTs (hT.row R3.out) (by decide) rfl rfl f6 (hK _ _ (NewT.refl _) rfl)
  · intro a wx hT hF K hK
    obtain ⟨f7, _⟩ := hF
    have f7 : a.tmps.getD 7 undef = u := f7
    refine rely_wp rfl ?_
    exact opr_len_parts rfl (by rw [eval_tmp, f7]; exact ((NewT.trans _ _ _ HN.out hT).partsL HU.out)) (hK _ _ (NewT.refl _) rfl)
  · intro a wx hT hF K hK
    obtain ⟨f8, _⟩ := hF
    have f8 : a.tmps.getD 8 undef = .int .i64 ((List.length (x) : Int)) := f8
    refine rely_wp rfl ?_
    exact opr_cmp (b := true) (.inl ⟨rfl, (by exact HL1.out)⟩) Tryd.underlying3 rfl f8 rfl (hK _ _ (NewT.refl _) rfl)
  · intro wa ka
    intro u h; obtain rfl := Eq.symm (h (by simp)); clear h
    intro u h; obtain rfl := Eq.symm (h (by simp)); clear h
    intro u h; obtain rfl := Eq.symm (h (by simp)); clear h
    intro u h; obtain rfl := Eq.symm (h (by simp)); clear h
    refine relyEnd_nil rfl ?_
    refine wpList_end rfl ?_
    simp only [Act.put, List.setIfInBounds_toArray, List.set_cons_zero, List.set_cons_succ]
    go_simp
    replace R3 := Lib.hid (ka.row R3.out)
    replace HN := Lib.hid (NewT.trans _ _ _ HN.out ka)
    replace HN0 := Lib.hid (NewT.trans _ _ _ HN0.out ka)
    clear ka
    go_upto_region 2 with fail
    refine wp_region_steps0 NewT [SV.eq (.pointer (some ⟨w.heap.size, 0, none⟩)), SV.eq (u), svPT (t), svRd (t), svRd (0 :: t), svRd (0 :: t)] [([(2, none)], none), ([(10, some 0)], none), ([(11, some 1)], none), ([(12, some 2)], none), ([(13, some 3)], none), ([(14, some 4)], none)] 32 6 rfl rfl (by kernel_rfl) NewT.trans (NewT.refl _) (Nat.le_of_ble_eq_true rfl) ⟨?_, ?_, ?_, ?_, ?_, ?_, trivial⟩ ?_
    · intro a wx hT hF K hK
      obtain ⟨f2, _⟩ := hF
      have f2 : a.tmps.getD 2 undef = .pointer (some ⟨w.heap.size, 0, none⟩) := f2
      refine rely_wp rfl ?_
      exact opr_fldL0 rfl f2 (hK _ _ (NewT.refl _) rfl)
    · intro a wx hT hF K hK
      obtain ⟨f10, _⟩ := hF
      have f10 : a.tmps.getD 10 undef = .pointer (some ⟨w.heap.size, 0, none⟩) := f10
      refine rely_wp rfl ?_
      exact opr_ldTs (hT.row R3.out) (by decide) rfl rfl f10 (hK _ _ (NewT.refl _) rfl)
    · intro a wx hT hF K hK
      obtain ⟨f11, _⟩ := hF
      have f11 : a.tmps.getD 11 undef = u := f11
      refine rely_wp rfl ?_
      exact opr_idxT (i := 0) (l := t) (HX.out) (rfl) rfl (by rw [eval_tmp, f11]; exact ((NewT.trans _ _ _ HN.out hT).partsL HU.out)) rfl (fun v hv => hK v _ (NewT.refl _) hv)
    · intro a wx hT hF K hK
      obtain ⟨f12, _⟩ := hF
      replace f12 := show (svPT (t)).pred (a.tmps.getD 12 undef) wx from f12
      refine rely_wp rfl ?_
      exact opr_ldT rfl f12 (fun u hu => hK u _ (NewT.refl _) hu)
    · intro a wx hT hF K hK
      obtain ⟨f13, _⟩ := hF
      replace f13 := show (svRd (t)).pred (a.tmps.getD 13 undef) wx from f13
      refine rely_wp rfl ?_
      exact opr_cv (LeafText_cv _ t wx f13 (HB.out)) rfl Tryd.func65 (by kernel_rfl) (by kernel_rfl) (by simp only [List.map_toArray, List.map_cons, List.map_nil, eval_tmp]) hK
    · intro a wx hT hF K hK
      obtain ⟨f14, _⟩ := hF
      replace f14 := show (svRd (0 :: t)).pred (a.tmps.getD 14 undef) wx from f14
      refine rely_wp rfl ?_
      exact opr_move (.inr rfl) (hK _ _ (NewT.refl _) f14)
    · intro wb kb
      intro u h; obtain rfl := Eq.symm (h (by simp)); clear h
      intro u h; obtain rfl := Eq.symm (h (by simp)); clear h
      intro _ _
      intro _ _
      intro _ _
      intro u4 h; have g4 := h (by simp); clear h; replace g4 := show (svRd (0 :: t)).pred u4 wb from g4
      refine relyEnd_nil rfl ?_
      refine wpList_end rfl ?_
      simp only [Act.put, List.setIfInBounds_toArray, List.set_cons_zero, List.set_cons_succ]
      go_simp
      go_wp2
      go_ret
      exact ⟨_, rfl, NewT.trans _ _ _ HN0.out kb, g4⟩
set_option maxHeartbeats 1000000 in
theorem LText_2 {node : Hs → Hs → Hs} {z : Hs} (hX : TreeH node z) (W w : World) (hNW : NewT W w) (hT : Tables W) (u p : Value) (x : List (List UInt8)) (h : List Hs) (hu : Parts W u x) (hp : RdH W p h) (h2 : 2 ≤ x.length) (hh : h.length = x.length) (hn : x.length ≤ 1000) (k : Nat) (hk : k = splitN x.length) : Cv 46 #[.agg (rowA 2 (lsF u p)), .func (.func 24) #[] #[]] w (svRd (1 :: (digL (rootM node z (List.take k h)) ++ digL (rootM node z (List.drop k h))))) := by
  have HL1 : Hid (((x.length : Int) == 1) = false) := Lib.hid (beq_eq_false_iff_ne.2 (by omega))
  have HT := Lib.hid hT
  have HS : Hid (∀ w, Cv 43 #[.int .i64 (x.length : Int)] w (.eq (.int .i64 (k : Int)))) := Lib.hid (fun w => by rw [hk]; exact Split_cv (x.length : Int) (by omega) (by omega) w)
  have HK : Hid (k ≤ h.length) := Lib.hid (by rw [hh, hk]; exact Nat.le_of_lt (splitN_lt x.length h2).1)
  have HLN : Hid (h.length ≤ 1000) := Lib.hid (by omega)
  clear hT h2 hh hn hk
  unfold Cv
  have HU := Lib.hid hu
  have HP := Lib.hid hp
  clear hu hp
  go_enter Tryd.func46, Tryd.ntmps46
  go_upto_region 1 with fail
  have r3 := rowIs_box w 64 2 (lsF u p)
  have hN : NewT w (w.alloc (.cells (rowA 2 (lsF u p)) 64)) := (NewT.alloc _ _)
  change Code.wp _ _ _ _ (w.alloc (.cells (rowA 2 (lsF u p)) 64))
  generalize (w.alloc (.cells (rowA 2 (lsF u p)) 64)) = W0 at r3 hN ⊢
  have R3 := Lib.hid r3
  have HN0 := Lib.hid hN
  have HN := Lib.hid (NewT.trans _ _ _ hNW hN)
  clear r3 hN hNW
  refine wp_region_steps0 NewT [SV.eq (.pointer (some ⟨w.heap.size, 0, none⟩)), SV.eq (u), SV.eq (.int .i64 ((List.length (x) : Int))), SV.eq (.bool false)] [([(2, none)], none), ([(6, some 0)], none), ([(7, some 1)], none), ([(8, some 2)], none)] 32 4 rfl rfl (by kernel_rfl) NewT.trans (NewT.refl _) (Nat.le_of_ble_eq_true rfl) ⟨?_, ?_, ?_, ?_, trivial⟩ ?_
  · intro a wx hT hF K hK
    obtain ⟨f2, _⟩ := hF
    have f2 : a.tmps.getD 2 undef = .pointer (some ⟨w.heap.size, 0, none⟩) := f2
    refine rely_wp rfl ?_
    exact opr_fldL0 rfl f2 (hK _ _ (NewT.refl _) rfl)
  · intro a wx hT hF K hK
    obtain ⟨f6, _⟩ := hF
    have f6 : a.tmps.getD 6 undef = .pointer (some ⟨w.heap.size, 0, none⟩) := f6
    refine rely_wp rfl ?_
    exact opr_ldTs (hT.row R3.out) (by decide) rfl rfl f6 (hK _ _ (NewT.refl _) rfl)
  · intro a wx hT hF K hK
    obtain ⟨f7, _⟩ := hF
    have f7 : a.tmps.getD 7 undef = u := f7
    refine rely_wp rfl ?_
    exact opr_len_parts rfl (by rw [eval_tmp, f7]; exact ((NewT.trans _ _ _ HN.out hT).partsL HU.out)) (hK _ _ (NewT.refl _) rfl)
  · intro a wx hT hF K hK
    obtain ⟨f8, _⟩ := hF
    have f8 : a.tmps.getD 8 undef = .int .i64 ((List.length (x) : Int)) := f8
    refine rely_wp rfl ?_
    exact opr_cmp (b := false) (.inl ⟨rfl, (by exact HL1.out)⟩) Tryd.underlying3 rfl f8 rfl (hK _ _ (NewT.refl _) rfl)
  · intro wa ka
    intro u h; obtain rfl := Eq.symm (h (by simp)); clear h
    intro u h; obtain rfl := Eq.symm (h (by simp)); clear h
    intro u h; obtain rfl := Eq.symm (h (by simp)); clear h
    intro u h; obtain rfl := Eq.symm (h (by simp)); clear h
    refine relyEnd_nil rfl ?_
    refine wpList_end rfl ?_
    simp only [Act.put, List.setIfInBounds_toArray, List.set_cons_zero, List.set_cons_succ]
    go_simp
    replace R3 := Lib.hid (ka.row R3.out)
    replace HN := Lib.hid (NewT.trans _ _ _ HN.out ka)
    replace HN0 := Lib.hid (NewT.trans _ _ _ HN0.out ka)
    clear ka
    go_upto_region 3 with fail
    refine wp_region_steps0 NewT [SV.eq (.pointer (some ⟨w.heap.size, 0, none⟩)), SV.eq (u), SV.eq (.int .i64 ((List.length (x) : Int))), SV.eq (.int .i64 ((k : Int))), SV.eq (.int .i64 ((k : Int)))] [([(2, none)], none), ([(15, some 0)], none), ([(16, some 1)], none), ([(17, some 2)], none), ([(18, some 3)], none)] 32 5 rfl rfl (by kernel_rfl) NewT.trans (NewT.refl _) (Nat.le_of_ble_eq_true rfl) ⟨?_, ?_, ?_, ?_, ?_, trivial⟩ ?_
    · intro a wx hT hF K hK
      obtain ⟨f2, _⟩ := hF
      have f2 : a.tmps.getD 2 undef = .pointer (some ⟨w.heap.size, 0, none⟩) := f2
      refine rely_wp rfl ?_
      exact opr_fldL0 rfl f2 (hK _ _ (NewT.refl _) rfl)
    · intro a wx hT hF K hK
      obtain ⟨f15, _⟩ := hF
      have f15 : a.tmps.getD 15 undef = .pointer (some ⟨w.heap.size, 0, none⟩) := f15
      refine rely_wp rfl ?_
      exact opr_ldTs (hT.row R3.out) (by decide) rfl rfl f15 (hK _ _ (NewT.refl _) rfl)
    · intro a wx hT hF K hK
      obtain ⟨f16, _⟩ := hF
      have f16 : a.tmps.getD 16 undef = u := f16
      refine rely_wp rfl ?_
      exact opr_len_parts rfl (by rw [eval_tmp, f16]; exact ((NewT.trans _ _ _ HN.out hT).partsL HU.out)) (hK _ _ (NewT.refl _) rfl)
    · intro a wx hT hF K hK
      obtain ⟨f17, _⟩ := hF
      have f17 : a.tmps.getD 17 undef = .int .i64 ((List.length (x) : Int)) := f17
      refine rely_wp rfl ?_
      exact opr_cv (HS.out wx) rfl Tryd.func43 (by kernel_rfl) (by kernel_rfl) (by simp only [List.map_toArray, List.map_cons, List.map_nil, eval_tmp, f17]) hK
    · intro a wx hT hF K hK
      obtain ⟨f18, _⟩ := hF
      have f18 : a.tmps.getD 18 undef = .int .i64 ((k : Int)) := f18
      refine rely_wp rfl ?_
      exact opr_move (.inr rfl) (hK _ _ (NewT.refl _) f18)
    · intro wb kb
      intro u h; obtain rfl := Eq.symm (h (by simp)); clear h
      intro u h; obtain rfl := Eq.symm (h (by simp)); clear h
      intro u h; obtain rfl := Eq.symm (h (by simp)); clear h
      intro u h; obtain rfl := Eq.symm (h (by simp)); clear h
      intro u h; obtain rfl := Eq.symm (h (by simp)); clear h
      refine relyEnd_nil rfl ?_
      refine wpList_end rfl ?_
      simp only [Act.put, List.setIfInBounds_toArray, List.set_cons_zero, List.set_cons_succ]
      go_simp
      replace R3 := Lib.hid (kb.row R3.out)
      replace HN := Lib.hid (NewT.trans _ _ _ HN.out kb)
      replace HN0 := Lib.hid (NewT.trans _ _ _ HN0.out kb)
      clear kb HS
      go_upto_region 4 with fail
      refine wp_region_rely (NewT) [SV.eq ((.func (.func 24) #[] #[])), SV.eq (.pointer (some ⟨w.heap.size, 1, none⟩)), SV.eq (p), SV.eq (.int .i64 ((k : Int))), svH (List.take k h), SV.eq (.agg (rowA 32 (bF (rootM node z (List.take k h))))), SV.eq ((.func (.func 24) #[] #[])), SV.eq (.pointer (some ⟨w.heap.size, 1, none⟩)), SV.eq (p), SV.eq (.int .i64 ((k : Int))), svH (List.drop k h), SV.eq (.agg (rowA 32 (bF (rootM node z (List.drop k h))))), svRd (1 :: (digL (rootM node z (List.take k h)) ++ digL (rootM node z (List.drop k h))))] [([(1, none)], none), ([(2, none)], none), ([(20, some 1)], none), ([(5, none)], none), ([(21, some 2), (22, some 3)], none), ([(19, some 0), (23, some 4)], none), ([(1, none)], none), ([(2, none)], none), ([(26, some 7)], none), ([(5, none)], none), ([(27, some 8), (28, some 9)], none), ([(25, some 6), (29, some 10)], none), ([(24, some 5), (30, some 11)], none)] 32 rfl (by kernel_rfl) rfl (by kernel_rfl) (by kernel_rfl) rfl NewT.trans (NewT.drew _) (Nat.le_of_ble_eq_true rfl) ⟨?_, ?_, ?_, ?_, ?_, ?_, ?_, ?_, ?_, ?_, ?_, ?_, ?_, trivial⟩ ?_
      · intro a wx hT hF K hK
        obtain ⟨f1, _⟩ := hF
        have f1 : a.tmps.getD 1 undef = (.func (.func 24) #[] #[]) := f1
        refine rely_wp rfl ?_
        exact opr_move (.inl rfl) (hK _ _ (NewT.refl _) f1)
      · intro a wx hT hF K hK
        obtain ⟨f2, _⟩ := hF
        have f2 : a.tmps.getD 2 undef = .pointer (some ⟨w.heap.size, 0, none⟩) := f2
        refine rely_wp rfl ?_
        exact opr_fldL1 rfl f2 (hK _ _ (NewT.refl _) rfl)
      · intro a wx hT hF K hK
        obtain ⟨f20, _⟩ := hF
        have f20 : a.tmps.getD 20 undef = .pointer (some ⟨w.heap.size, 1, none⟩) := f20
        refine rely_wp rfl ?_
        exact opr_ldHs (hT.row R3.out) (by decide) rfl rfl f20 (hK _ _ (NewT.refl _) rfl)
      · intro a wx hT hF K hK
        obtain ⟨f5, _⟩ := hF
        have f5 : a.tmps.getD 5 undef = .int .i64 ((k : Int)) := f5
        refine rely_wp rfl ?_
        exact opr_move (.inl rfl) (hK _ _ (NewT.refl _) f5)
      · intro a wx hT hF K hK
        obtain ⟨f21, f22, _⟩ := hF
        have f21 : a.tmps.getD 21 undef = p := f21
        have f22 : a.tmps.getD 22 undef = .int .i64 ((k : Int)) := f22
        refine rely_wp rfl ?_
        exact opr_toH (k := k) (HK.out) (rfl) rfl (by rw [eval_tmp, f21]; exact ((NewT.trans _ _ _ HN.out hT).hs HP.out)) f22 (fun v hv => hK v _ (NewT.refl _) hv)
      · intro a wx hT hF K hK
        obtain ⟨f19, f23, _⟩ := hF
        have f19 : a.tmps.getD 19 undef = (.func (.func 24) #[] #[]) := f19
        replace f23 := show (svH (List.take k h)).pred (a.tmps.getD 23 undef) wx from f23
        refine rely_wp rfl ?_
        exact opr_cvv (cap := #[]) (Root_cv hX _ _ (List.take k h) wx ((NewT.trans _ _ _ HN.out hT).tables HT.out) (f23) (Nat.le_refl _) (by have := HLN.out; first | (rw [List.length_take]; omega) | (rw [List.length_drop]; omega))) rfl f19 Tryd.func24 (by kernel_rfl) (by kernel_rfl) (by simp only [List.map_toArray, List.map_cons, List.map_nil, List.append_toArray, List.cons_append, List.nil_append, List.append_nil, eval_tmp, eval_const]) hK
      · intro a wx hT hF K hK
        obtain ⟨f1, _⟩ := hF
        have f1 : a.tmps.getD 1 undef = (.func (.func 24) #[] #[]) := f1
        refine rely_wp rfl ?_
        exact opr_move (.inl rfl) (hK _ _ (NewT.refl _) f1)
      · intro a wx hT hF K hK
        obtain ⟨f2, _⟩ := hF
        have f2 : a.tmps.getD 2 undef = .pointer (some ⟨w.heap.size, 0, none⟩) := f2
        refine rely_wp rfl ?_
        exact opr_fldL1 rfl f2 (hK _ _ (NewT.refl _) rfl)
      · intro a wx hT hF K hK
        obtain ⟨f26, _⟩ := hF
        have f26 : a.tmps.getD 26 undef = .pointer (some ⟨w.heap.size, 1, none⟩) := f26
        refine rely_wp rfl ?_
        exact opr_ldHs (hT.row R3.out) (by decide) rfl rfl f26 (hK _ _ (NewT.refl _) rfl)
      · intro a wx hT hF K hK
        obtain ⟨f5, _⟩ := hF
        have f5 : a.tmps.getD 5 undef = .int .i64 ((k : Int)) := f5
        refine rely_wp rfl ?_
        exact opr_move (.inl rfl) (hK _ _ (NewT.refl _) f5)
      · intro a wx hT hF K hK
        obtain ⟨f27, f28, _⟩ := hF
        have f27 : a.tmps.getD 27 undef = p := f27
        have f28 : a.tmps.getD 28 undef = .int .i64 ((k : Int)) := f28
        refine rely_wp rfl ?_
        exact opr_fromH (k := k) (HK.out) (rfl) rfl (by rw [eval_tmp, f27]; exact ((NewT.trans _ _ _ HN.out hT).hs HP.out)) f28 (fun v hv => hK v _ (NewT.refl _) hv)
      · intro a wx hT hF K hK
        obtain ⟨f25, f29, _⟩ := hF
        have f25 : a.tmps.getD 25 undef = (.func (.func 24) #[] #[]) := f25
        replace f29 := show (svH (List.drop k h)).pred (a.tmps.getD 29 undef) wx from f29
        refine rely_wp rfl ?_
        exact opr_cvv (cap := #[]) (Root_cv hX _ _ (List.drop k h) wx ((NewT.trans _ _ _ HN.out hT).tables HT.out) (f29) (Nat.le_refl _) (by have := HLN.out; first | (rw [List.length_take]; omega) | (rw [List.length_drop]; omega))) rfl f25 Tryd.func24 (by kernel_rfl) (by kernel_rfl) (by simp only [List.map_toArray, List.map_cons, List.map_nil, List.append_toArray, List.cons_append, List.nil_append, List.append_nil, eval_tmp, eval_const]) hK
      · intro a wx hT hF K hK
        obtain ⟨f24, f30, _⟩ := hF
        have f24 : a.tmps.getD 24 undef = .agg (rowA 32 (bF (rootM node z (List.take k h)))) := f24
        have f30 : a.tmps.getD 30 undef = .agg (rowA 32 (bF (rootM node z (List.drop k h)))) := f30
        refine rely_wp rfl ?_
        exact opr_cv (NodeText_cv (rootM node z (List.take k h)) (rootM node z (List.drop k h)) wx) rfl Tryd.func66 (by kernel_rfl) (by kernel_rfl) (by simp only [List.map_toArray, List.map_cons, List.map_nil, eval_tmp, f24, f30]) hK
      · intro wc kc
        intro u h; obtain rfl := Eq.symm (h (by simp)); clear h
        intro u h; obtain rfl := Eq.symm (h (by simp)); clear h
        intro u h; obtain rfl := Eq.symm (h (by simp)); clear h
        intro u h; obtain rfl := Eq.symm (h (by simp)); clear h
        intro _ _
        intro u h; obtain rfl := Eq.symm (h (by simp)); clear h
        intro u h; obtain rfl := Eq.symm (h (by simp)); clear h
        intro u h; obtain rfl := Eq.symm (h (by simp)); clear h
        intro u h; obtain rfl := Eq.symm (h (by simp)); clear h
        intro u h; obtain rfl := Eq.symm (h (by simp)); clear h
        intro _ _
        intro u h; obtain rfl := Eq.symm (h (by simp)); clear h
        intro u31 h; have g31 := h (by simp); clear h; replace g31 := show (svRd (1 :: (digL (rootM node z (List.take k h)) ++ digL (rootM node z (List.drop k h))))).pred u31 wc from g31
        refine relyEnd_nil rfl ?_
        simp only [Act.put, List.setIfInBounds_toArray, List.set_cons_zero, List.set_cons_succ]
        refine opr_move (.inr rfl) ?_
        go_simp
        go_wp2
        go_ret
        exact ⟨_, rfl, NewT.trans _ _ _ HN0.out kc, g31⟩
end Go.Proofs.YtlnedphnphabkaaDoor
