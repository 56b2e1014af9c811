/- A region that draws its order, gone through ONCE, in the text's order: each operation has a condition on its value that no later step of the region can turn; whatever order is drawn, all conditions hold at the end. No program is named here. -/
import Derived.StillTail
namespace Go.Proofs.YtpoebajpmkcjdaaDoor
open Go

/-- A condition on a value and a world that stands behind every step of T. -/
structure SV (T : World → World → Prop) where
  pred : Value → World → Prop
  stable : ∀ v w w', pred v w → T w w' → pred v w'
def SV.eq {T : World → World → Prop} (c : Value) : SV T := ⟨fun v _ => v = c, fun _ _ _ h _ => h⟩
def SV.any {T : World → World → Prop} : SV T := ⟨fun _ _ => True, fun _ _ _ h _ => h⟩

/-- Of each operation: the slots that it looks at, with the operation of the region that fills it, if it waits for one; its guard's slot. -/
abbrev Deps := List (List (Tmp × Option Nat) × Option (Tmp × Bool))

def relyFacts {T : World → World → Prop} (V : List (SV T)) (a0 a : Act) (w : World) : List (Tmp × Option Nat) → Prop
  | [] => True
  | (d, some j) :: r => (V.getD j SV.any).pred (a.tmps.getD d undef) w ∧ relyFacts V a0 a w r
  | (d, none) :: r => a.tmps.getD d undef = a0.tmps.getD d undef ∧ relyFacts V a0 a w r
def relyGuard : Option (Tmp × Bool) → Act → Bool
  | none, _ => true
  | some (d, b), a => match a.tmps.getD d undef with | .bool x => x == b | _ => false
/-- One operation, in whatever frame and world meets what it looks at. -/
def relyStep (P : Program) (Q : Exit → Act → World → Prop) (T : World → World → Prop) (V : List (SV T)) (a0 : Act) (w0 : World) (o : Oper) (dp : List (Tmp × Option Nat)) (g : Option (Tmp × Bool)) (c : SV T) : Prop :=
  ∀ (a : Act) (w : World), T w0 w → relyFacts V a0 a w dp → ∀ K : Act → World → Prop, (∀ v w', T w w' → c.pred v w' → K (a.put o.dst v) w') →
    if relyGuard g a then o.wp P a w K Q else K (a.put o.dst undef) w
def relyAll (P : Program) (Q : Exit → Act → World → Prop) (T : World → World → Prop) (V : List (SV T)) (a0 : Act) (w0 : World) : List Oper → Deps → List (SV T) → Prop
  | [], _, _ => True
  | o :: r, (dp, g) :: D, c :: C => relyStep P Q T V a0 w0 o dp g c ∧ relyAll P Q T V a0 w0 r D C
  | _, _, _ => False
def relyEnd (Q : Exit → Act → World → Prop) (T : World → World → Prop) : List Oper → List (SV T) → Act → World → Prop
  | [], _, a, w => Q .normal a w
  | o :: r, c :: C, a, w => ∀ u, (o.dst ≠ none → c.pred u w) → relyEnd Q T r C (a.put o.dst u) w
  | _, [], _, _ => True

def relyDst (ops : Array Oper) (j : Nat) : Option Tmp := (ops[j]?).bind (·.dst)
def relyOne (ops : Array Oper) (n : Nat) (i : Nat) (o : Oper) (dp : List (Tmp × Option Nat)) (g : Option (Tmp × Bool)) : Bool :=
  (match o.dst with | some d => decide (d < n) && (List.range ops.size).all (fun j => decide (j = i) || relyDst ops j != some d) | none => true) &&
  (o.after.all fun e => !Region.binds .any e || decide (e.on < i)) &&
  (dp.all fun x => match x.2 with
    | some j => relyDst ops j == some x.1 && Region.waitsFor .any ops i j
    | none => (List.range ops.size).all fun j => relyDst ops j != some x.1 || decide (j = i) || Region.waitsFor .any ops j i) &&
  (match o.guard, g with
    | none, none => true
    | some (k, b), some (d, b') => b == b' && relyDst ops k == some d && Region.waitsFor .any ops i k && decide (d < n)
    | _, _ => false)
def relyB (ops : Array Oper) (n : Nat) : Nat → List Oper → Deps → Bool
  | _, [], _ => true
  | i, o :: r, (dp, g) :: D => relyOne ops n i o dp g && relyB ops n (i + 1) r D
  | _, _, _ => false

section
variable {P : Program} {ops : Array Oper} {Q : Exit → Act → World → Prop} {T : World → World → Prop} {V : List (SV T)} {a0 : Act} {w0 : World} {n : Nat} {D : Deps}

/-- Not yet come up. -/
def unl (ops : Array Oper) (listed : Array Bool) : List Nat := (List.range ops.size).filter fun i => !listed.getD i true

theorem unl_set {listed : Array Bool} {i : Nat} (hs : listed.size = ops.size) (hi : listed.getD i true = false) : (unl ops (listed.setIfInBounds i true)).length + 1 = (unl ops listed).length := by
  have hlt : i < listed.size := by
    rcases Nat.lt_or_ge i listed.size with h | h
    · exact h
    · simp [Array.getElem?_eq_none h] at hi
  have hm : i ∈ unl ops listed := by
    unfold unl; rw [List.mem_filter]; exact ⟨List.mem_range.2 (by omega), by rw [hi]; rfl⟩
  have e : unl ops (listed.setIfInBounds i true) = (unl ops listed).erase i := by
    unfold unl
    rw [List.Nodup.erase_eq_filter (List.Nodup.sublist (List.filter_sublist) List.nodup_range)]
    rw [List.filter_filter]
    apply List.filter_congr
    intro j hj
    by_cases hji : i = j
    · subst hji; simp [hlt]
    · rw [getD_set_ne true hji]; simp [Ne.symm hji]
  rw [e, List.length_erase_of_mem hm]
  have := List.length_pos_of_mem hm
  omega

structure RelyInv (ops : Array Oper) (T : World → World → Prop) (V : List (SV T)) (a0 : Act) (w0 : World) (listed : Array Bool) (a : Act) (w : World) : Prop where
  size : listed.size = ops.size
  closed : ∀ j oj, ops[j]? = some oj → listed.getD j false = true → ∀ e ∈ oj.after, Region.binds .any e = true → listed.getD e.on false = true
  now : T w0 w
  slots : a.tmps.size = a0.tmps.size
  defers : a.defers = a0.defers
  new : ∀ j d, relyDst ops j = some d → listed.getD j false = true → (V.getD j SV.any).pred (a.tmps.getD d undef) w
  old : ∀ d, (∀ j, relyDst ops j = some d → listed.getD j false = false) → a.tmps.getD d undef = a0.tmps.getD d undef

theorem relyB_at : ∀ (l : List Oper) (D : Deps) (i k : Nat) (o : Oper), relyB ops n i l D = true → l[k]? = some o → ∃ dp g, D[k]? = some (dp, g) ∧ relyOne ops n (i + k) o dp g = true
  | [], _, _, _, _, _, h => by simp at h
  | x :: r, [], _, _, _, h, _ => by simp [relyB] at h
  | x :: r, (dp, g) :: D, i, 0, o, h, ho => by
    simp only [relyB, Bool.and_eq_true] at h
    simp at ho
    subst ho
    exact ⟨dp, g, rfl, h.1⟩
  | x :: r, (dp, g) :: D, i, k + 1, o, h, ho => by
    simp only [relyB, Bool.and_eq_true] at h
    obtain ⟨dp', g', hD, h'⟩ := relyB_at r D (i + 1) k o h.2 (by simpa using ho)
    exact ⟨dp', g', by simpa using hD, by rw [show i + (k + 1) = i + 1 + k by omega]; exact h'⟩
theorem relyAll_at : ∀ (l : List Oper) (D : Deps) (C : List (SV T)) (k : Nat) (o : Oper) dp g, relyAll P Q T V a0 w0 l D C → l[k]? = some o → D[k]? = some (dp, g) → relyStep P Q T V a0 w0 o dp g (C.getD k SV.any)
  | [], _, _, _, _, _, _, _, h, _ => by simp at h
  | x :: r, [], _, _, _, _, _, h, _, _ => h.elim
  | x :: r, y :: D, [], _, _, _, _, h, _, _ => h.elim
  | x :: r, (dp, g) :: D, c :: C, 0, o, dp', g', h, ho, hD => by
    simp at ho hD
    obtain ⟨rfl, rfl⟩ := hD
    subst ho
    exact h.1
  | x :: r, (dp, g) :: D, c :: C, k + 1, o, dp', g', h, ho, hD => by
    have := relyAll_at r D C k o dp' g' h.2 (by simpa using ho) (by simpa using hD)
    simpa using this
theorem relyEnd_of {a : Act} {w : World} : ∀ (l : List Oper) (C : List (SV T)) (b : Act), b.tmps.size = a.tmps.size → b.defers = a.defers → l.length ≤ C.length →
    (∀ d, (∀ o ∈ l, o.dst ≠ some d) → b.tmps.getD d undef = a.tmps.getD d undef) →
    (∀ (k : Nat) (o : Oper) d, l[k]? = some o → o.dst = some d → (C.getD k SV.any).pred (a.tmps.getD d undef) w) →
    relyEnd Q T l C b w → Q .normal a w
  | [], _, b, hs, hd, _, hb, _, h => by
    have e : b = a := by
      cases b; cases a
      simp only at hs hd
      subst hd
      congr 1
      apply Array.ext_getElem?
      intro d
      rcases Nat.lt_or_ge d (Array.size ‹_›) with hlt | hge
      · have := hb d (fun o ho => by simp at ho)
        simp only [Array.getD_eq_getD_getElem?] at this
        rw [Array.getElem?_eq_getElem hlt, Array.getElem?_eq_getElem (by omega)] at this ⊢
        simpa using this
      · rw [Array.getElem?_eq_none hge, Array.getElem?_eq_none (by omega)]
    subst e
    exact h
  | o :: r, [], _, _, _, hl, _, _, _ => by simp at hl
  | o :: r, c :: C, b, hs, hd, hl, hb, hV, h => by
    simp only [relyEnd] at h
    cases ho : o.dst with
    | none =>
      have h1 := h undef (fun hne => absurd ho hne)
      rw [ho] at h1
      refine relyEnd_of r C b hs hd (by simp at hl; omega) (fun d hr => hb d fun o' ho' => ?_) (fun k o' d hk hdd => by simpa using hV (k + 1) o' d (by simpa using hk) hdd) h1
      rcases List.mem_cons.1 ho' with rfl | hm
      · rw [ho]; simp
      · exact hr o' hm
    | some d0 =>
      have h1 := h (a.tmps.getD d0 undef) (fun _ => by simpa using hV 0 o d0 rfl ho)
      rw [ho] at h1
      refine relyEnd_of r C _ (by simp [Act.put, hs]) (by simp [Act.put, hd]) (by simp at hl; omega) (fun d hr => ?_) (fun k o' d hk hdd => by simpa using hV (k + 1) o' d (by simpa using hk) hdd) h1
      by_cases hdd : d0 = d
      · subst hdd
        rcases Nat.lt_or_ge d0 a.tmps.size with hlt | hge
        · simp [Act.put, hlt, hs]
        · simp [Act.put, Array.getElem?_eq_none hge]
      · have := hb d (fun o' ho' => by
          rcases List.mem_cons.1 ho' with rfl | hm
          · rw [ho]; simpa using hdd
          · exact hr o' hm)
        simpa [Act.put, Array.getElem?_setIfInBounds_ne hdd] using this

theorem wpAny_rely (hn : a0.tmps.size = n) (hB : relyB ops n 0 ops.toList D = true) (ht : ∀ a b c : World, T a b → T b c → T a c)
    (hl : ops.size ≤ V.length) (hA : relyAll P Q T V a0 w0 ops.toList D V) (hE : ∀ w, T w0 w → relyEnd Q T ops.toList V a0 w) :
    ∀ (fuel : Nat) (listed : Array Bool) (a : Act) (w : World), (unl ops listed).length = fuel → RelyInv ops T V a0 w0 listed a w → wpAny P .any ops Q fuel listed a w := by
  have hat : ∀ i o, ops[i]? = some o → ∃ dp g, relyOne ops n i o dp g = true ∧ relyStep P Q T V a0 w0 o dp g (V.getD i SV.any) := fun i o hi => by
    have hi' : ops.toList[i]? = some o := by simpa using hi
    obtain ⟨dp, g, hD, h1⟩ := relyB_at ops.toList D 0 i o hB hi'
    rw [Nat.zero_add] at h1
    exact ⟨dp, g, h1, relyAll_at _ _ _ i o dp g hA hi' hD⟩
  have done : ∀ listed a w, RelyInv ops T V a0 w0 listed a w → Region.ready .any ops listed = [] → Q .normal a w := fun listed a w inv hr => by
    have all : ∀ i, i < ops.size → listed.getD i false = true := fun i => by
      induction i using Nat.strongRecOn with
      | _ i ih =>
        intro hi
        cases hli : listed.getD i false with
        | true => rfl
        | false =>
          exfalso
          have hmem : i ∈ Region.ready .any ops listed := by
            rw [mem_ready]
            refine ⟨getD_in (by rw [inv.size]; exact hi) hli, ops[i], Array.getElem?_eq_getElem hi, fun e he hb => ?_⟩
            obtain ⟨dp, g, h1, _⟩ := hat i ops[i] (Array.getElem?_eq_getElem hi)
            simp only [relyOne, Bool.and_eq_true] at h1
            have h2 := (Array.all_eq_true_iff_forall_mem.1 h1.1.1.2) e he
            simp only [hb, Bool.not_true, Bool.false_or, decide_eq_true_eq] at h2
            exact ih e.on h2 (by omega)
          rw [hr] at hmem
          cases hmem
    refine relyEnd_of ops.toList V a0 inv.slots.symm inv.defers.symm (by simpa using hl) (fun d hno => ?_) (fun k o d hk hd => ?_) (hE w inv.now)
    · refine (inv.old d fun j hj => ?_).symm
      exfalso
      unfold relyDst at hj
      cases hoj : ops[j]? with
      | none => simp [hoj] at hj
      | some oj =>
        simp [hoj] at hj
        exact hno oj (by have := Array.mem_of_getElem? hoj; simpa using this) hj
    · have hk' : ops[k]? = some o := by simpa using hk
      exact inv.new k d (by simp [relyDst, hk', hd]) (all k (Array.getElem?_eq_some_iff.1 hk').1)
  intro fuel
  induction fuel with
  | zero =>
    intro listed a w hu inv
    have hr : Region.ready .any ops listed = [] := by
      apply List.eq_nil_iff_forall_not_mem.2
      intro i hi
      have h1 := (mem_ready.1 hi)
      obtain ⟨h0, o, ho, _⟩ := h1
      have : i ∈ unl ops listed := by
        unfold unl; rw [List.mem_filter]; exact ⟨List.mem_range.2 (Array.getElem?_eq_some_iff.1 ho).1, by rw [h0]; rfl⟩
      rw [List.eq_nil_of_length_eq_zero hu] at this
      cases this
    exact ⟨hr, done listed a w inv hr⟩
  | succ fuel ih =>
    intro listed a w hu inv
    refine ⟨done listed a w inv, fun i hi => ?_⟩
    obtain ⟨h0, o, ho, hall⟩ := mem_ready.1 hi
    obtain ⟨dp, g, h1, hstep⟩ := hat i o ho
    simp only [relyOne, Bool.and_eq_true] at h1
    obtain ⟨⟨⟨hdst, hafter⟩, hdp⟩, hg⟩ := h1
    have waits : ∀ j, Region.waitsFor .any ops i j = true → listed.getD j false = true := fun j hj => by
      obtain ⟨oi, hoi, e, he, hb, hon⟩ := Region.waitsFor_spec hj
      have : oi = o := Option.some.inj (hoi.symm.trans ho)
      subst this
      rw [← hon]
      exact hall e he hb
    have i0 : listed.getD i false = false := getD_both h0
    have hfacts : relyFacts V a0 a w dp := by
      clear hstep
      induction dp with
      | nil => trivial
      | cons x r ih2 =>
        simp only [List.all_cons, Bool.and_eq_true] at hdp
        obtain ⟨hx, hr⟩ := hdp
        obtain ⟨d, j⟩ := x
        cases j with
        | some j =>
          simp only [Bool.and_eq_true, beq_iff_eq] at hx
          exact ⟨inv.new j d hx.1 (waits j hx.2), ih2 hr⟩
        | none =>
          refine ⟨inv.old d fun j hj => ?_, ih2 hr⟩
          have hjlt : j < ops.size := by
            unfold relyDst at hj
            cases hoj : ops[j]? with
            | none => simp [hoj] at hj
            | some oj => exact (Array.getElem?_eq_some_iff.1 hoj).1
          have h2 := List.all_eq_true.1 hx j (List.mem_range.2 hjlt)
          simp only [hj, bne_self_eq_false, Bool.false_or, Bool.or_eq_true, decide_eq_true_eq] at h2
          rcases h2 with rfl | h2
          · exact i0
          · cases hlj : listed.getD j false with
            | false => rfl
            | true =>
              obtain ⟨oj, hoj, e, he, hb, hon⟩ := Region.waitsFor_spec h2
              have := inv.closed j oj hoj hlj e he hb
              rw [hon, i0] at this
              cases this
    have hguard : Region.wanted o (yielded ops a.tmps) = relyGuard g a := by
      unfold Region.wanted
      cases hgo : o.guard with
      | none =>
        rw [hgo] at hg
        cases g with
        | none => rfl
        | some x => cases hg
      | some kb =>
        obtain ⟨k, b⟩ := kb
        rw [hgo] at hg
        cases g with
        | none => cases hg
        | some x =>
          obtain ⟨d, b'⟩ := x
          simp only [Bool.and_eq_true, beq_iff_eq, decide_eq_true_eq] at hg
          obtain ⟨⟨⟨rfl, hd⟩, _⟩, hlt⟩ := hg
          have hlt' : d < a.tmps.size := by rw [inv.slots, hn]; exact hlt
          have hd' : (ops[k]?).bind (·.dst) = some d := hd
          simp only [yielded, hd', Option.bind_some, relyGuard, Array.getD_eq_getD_getElem?, Array.getElem?_eq_getElem hlt', Option.getD_some]
          cases a.tmps[d] <;> simp
          all_goals (rename_i x; cases x <;> cases b <;> rfl)
    have next : ∀ v w', T w w' → (V.getD i SV.any).pred v w' → wpAny P .any ops Q fuel (listed.setIfInBounds i true) (a.put o.dst v) w' := fun v w' hT hv => by
      refine ih _ _ _ (by have := unl_set inv.size h0; omega) ?_
      have hilt : i < listed.size := by rw [inv.size]; exact (Array.getElem?_eq_some_iff.1 ho).1
      refine ⟨by simp [inv.size], fun j oj hj hlj e he hb => ?_, ht _ _ _ inv.now hT, by cases o.dst <;> simp [Act.put, inv.slots], by cases o.dst <;> simp [Act.put, inv.defers], fun j d hj hlj => ?_, fun d hno => ?_⟩
      · by_cases hij : i = j
        · subst hij
          have : oj = o := Option.some.inj (hj.symm.trans ho)
          subst this
          exact getD_set_true (hall e he hb)
        · rw [getD_set_ne false hij] at hlj
          exact getD_set_true (inv.closed j oj hj hlj e he hb)
      · by_cases hij : i = j
        · subst hij
          have hd : o.dst = some d := by simpa [relyDst, ho] using hj
          rw [hd] at hdst
          simp only [Bool.and_eq_true, decide_eq_true_eq] at hdst
          have hlt : d < a.tmps.size := by rw [inv.slots, hn]; exact hdst.1
          rw [hd]
          simpa [Act.put, hlt] using hv
        · rw [getD_set_ne false hij] at hlj
          have h3 := (V.getD j SV.any).stable _ _ _ (inv.new j d hj hlj) hT
          cases hod : o.dst with
          | none => exact h3
          | some d0 =>
            rw [hod] at hdst
            simp only [Bool.and_eq_true, decide_eq_true_eq] at hdst
            have hjlt : j < ops.size := by
              unfold relyDst at hj
              cases hoj : ops[j]? with
              | none => simp [hoj] at hj
              | some oj => exact (Array.getElem?_eq_some_iff.1 hoj).1
            have h4 := List.all_eq_true.1 hdst.2 j (List.mem_range.2 hjlt)
            simp only [Bool.or_eq_true, decide_eq_true_eq, bne_iff_ne, ne_eq] at h4
            have hne : d0 ≠ d := fun e => by
              subst e
              rcases h4 with h4 | h4
              · exact hij h4.symm
              · exact h4 hj
            simpa [Act.put, Array.getElem?_setIfInBounds_ne hne] using h3
      · have hni : o.dst ≠ some d := fun hd => by
          have := hno i (by simp [relyDst, ho, hd])
          simp [hilt] at this
        have hold := inv.old d fun j hj => by
          have hij : i ≠ j := fun e => by subst e; exact hni (by simpa [relyDst, ho] using hj)
          have := hno j hj
          rwa [getD_set_ne false hij] at this
        cases hod : o.dst with
        | none => exact hold
        | some d0 =>
          have hne : d0 ≠ d := fun e => hni (by rw [hod, e])
          simpa [Act.put, Array.getElem?_setIfInBounds_ne hne] using hold
    have hs := hstep a w inv.now hfacts _ next
    unfold wpOp
    simp only [ho, hguard]
    split
    · rename_i hw; rw [if_pos hw] at hs; exact .inl hs
    · rename_i hw; rw [if_neg hw] at hs; exact hs

/-- **A region that draws its order, in the text's own order.** -/
theorem wp_region_rely {id : Nat} (T : World → World → Prop) (V : List (SV T)) (D : Deps) (n : Nat) (hm : P.follows .mixedOrders = true) (hn : a0.tmps.size = n) (hB : relyB ops n 0 ops.toList D = true)
    (ht : ∀ a b c : World, T a b → T b c → T a c) (hd : T w0 w0.drew) (hl : ops.size ≤ V.length)
    (hA : relyAll P Q T V a0 w0 ops.toList D V) (hE : ∀ w, T w0 w → relyEnd Q T ops.toList V a0 w) : (Code.region id ops true).wp P Q a0 w0 := by
  refine wp_region_any hm ?_
  have hu : (unl ops (Array.replicate ops.size false)).length = ops.size := by
    unfold unl
    rw [List.filter_eq_self.2]
    · simp
    · intro i hi; simp at hi; simp [hi]
  have inv : RelyInv ops T V a0 w0 (Array.replicate ops.size false) a0 w0.drew := by
    refine ⟨by simp, fun j oj hj hlj => ?_, hd, rfl, rfl, fun j d _ hlj => ?_, fun _ _ => rfl⟩
    · rw [getD_replicate_false] at hlj; cases hlj
    · rw [getD_replicate_false] at hlj; cases hlj
  exact wpAny_rely hn hB ht hl hA hE ops.size _ a0 w0.drew hu inv
end
end Go.Proofs.YtpoebajpmkcjdaaDoor
