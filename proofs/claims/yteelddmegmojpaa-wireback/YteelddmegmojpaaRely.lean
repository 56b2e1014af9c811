/- A region that draws its order, gone through ONCE, in the text's order: each operation has a condition on its value that no later step of the region can turn; whatever order is drawn, all conditions hold at the end. No program is named here. -/
import Derived.StillTail
namespace Go.Proofs.Yteelddmegmojpaa
open Go

/-- A condition on a value and a world that stands behind every step of T. -/
structure SV (T : World → World → Prop) where
  pred : Value → World → Prop
  stable : ∀ v w w', pred v w → T w w' → pred v w'
def SV.eq {T : World → World → Prop} (c : Value) : SV T := ⟨fun v _ => v = c, fun _ _ _ h _ => h⟩
def SV.any {T : World → World → Prop} : SV T := ⟨fun _ _ => True, fun _ _ _ h _ => h⟩

/-- Of each operation: the slots that it looks at, with the operation of the region that fills it, if it waits for one; its guard's slot. -/
abbrev Deps := List (List (Tmp × Option Nat) × Option (Tmp × Bool))

def relyFacts {T : World → World → Prop} (V : List (SV T)) (a0 a : Act) (w : World) : List (Tmp × Option Nat) → Prop
  | [] => True
  | (d, some j) :: r => (V.getD j SV.any).pred (a.tmps.getD d undef) w ∧ relyFacts V a0 a w r
  | (d, none) :: r => a.tmps.getD d undef = a0.tmps.getD d undef ∧ relyFacts V a0 a w r
def relyGuard : Option (Tmp × Bool) → Act → Bool
  | none, _ => true
  | some (d, b), a => match a.tmps.getD d undef with | .bool x => x == b | _ => false
/-- One operation, in whatever frame and world meets what it looks at. -/
def relyStep (P : Program) (Q : Exit → Act → World → Prop) (T : World → World → Prop) (V : List (SV T)) (a0 : Act) (w0 : World) (o : Oper) (dp : List (Tmp × Option Nat)) (g : Option (Tmp × Bool)) (c : SV T) : Prop :=
  ∀ (a : Act) (w : World), T w0 w → relyFacts V a0 a w dp → ∀ K : Act → World → Prop, (∀ v w', T w w' → c.pred v w' → K (a.put o.dst v) w') →
    if relyGuard g a then o.wp P a w K Q else K (a.put o.dst undef) w
def relyAll (P : Program) (Q : Exit → Act → World → Prop) (T : World → World → Prop) (V : List (SV T)) (a0 : Act) (w0 : World) : List Oper → Deps → List (SV T) → Prop
  | [], _, _ => True
  | o :: r, (dp, g) :: D, c :: C => relyStep P Q T V a0 w0 o dp g c ∧ relyAll P Q T V a0 w0 r D C
  | _, _, _ => False
/-- Shut, so that no tactic looks into it by itself. -/
structure Shut (p : Prop) : Prop where
  out : p
def relyEnd (Q : Exit → Act → World → Prop) (T : World → World → Prop) : List Oper → List (SV T) → Act → World → Prop
  | [], _, a, w => Shut (Q .normal a w)
  | o :: r, c :: C, a, w => ∀ u, (o.dst ≠ none → c.pred u w) → relyEnd Q T r C (a.put o.dst u) w
  | _, [], _, _ => True

def relyDst (ops : Array Oper) (j : Nat) : Option Tmp := (ops[j]?).bind (·.dst)
def relyOne (ops : Array Oper) (n : Nat) (i : Nat) (o : Oper) (dp : List (Tmp × Option Nat)) (g : Option (Tmp × Bool)) : Bool :=
  (match o.dst with | some d => decide (d < n) && (List.range ops.size).all (fun j => decide (j = i) || relyDst ops j != some d) | none => true) &&
  (o.after.all fun e => !Region.binds .any e || decide (e.on < i)) &&
  (dp.all fun x => match x.2 with
    | some j => relyDst ops j == some x.1 && Region.waitsFor .any ops i j
    | none => (List.range ops.size).all fun j => relyDst ops j != some x.1 || decide (j = i) || Region.waitsFor .any ops j i) &&
  (match o.guard, g with
    | none, none => true
    | some (k, b), some (d, b') => b == b' && relyDst ops k == some d && Region.waitsFor .any ops i k && decide (d < n)
    | _, _ => false)
def relyB (ops : Array Oper) (n : Nat) : Nat → List Oper → Deps → Bool
  | _, [], _ => true
  | i, o :: r, (dp, g) :: D => relyOne ops n i o dp g && relyB ops n (i + 1) r D
  | _, _, _ => false

section
variable {P : Program} {ops : Array Oper} {Q : Exit → Act → World → Prop} {T : World → World → Prop} {V : List (SV T)} {a0 : Act} {w0 : World} {n : Nat} {D : Deps}

/-- Not yet come up. -/
def unl (ops : Array Oper) (listed : Array Bool) : List Nat := (List.range ops.size).filter fun i => !listed.getD i true

theorem unl_set {listed : Array Bool} {i : Nat} (hs : listed.size = ops.size) (hi : listed.getD i true = false) : (unl ops (listed.setIfInBounds i true)).length + 1 = (unl ops listed).length := by
  have hlt : i < listed.size := by
    rcases Nat.lt_or_ge i listed.size with h | h
    · exact h
    · simp [Array.getElem?_eq_none h] at hi
  have hm : i ∈ unl ops listed := by
    unfold unl; rw [List.mem_filter]; exact ⟨List.mem_range.2 (by omega), by rw [hi]; rfl⟩
  have e : unl ops (listed.setIfInBounds i true) = (unl ops listed).erase i := by
    unfold unl
    rw [List.Nodup.erase_eq_filter (List.Nodup.sublist (List.filter_sublist) List.nodup_range)]
    rw [List.filter_filter]
    apply List.filter_congr
    intro j hj
    by_cases hji : i = j
    · subst hji; simp [hlt]
    · rw [getD_set_ne true hji]; simp [Ne.symm hji]
  rw [e, List.length_erase_of_mem hm]
  have := List.length_pos_of_mem hm
  omega

structure RelyInv (ops : Array Oper) (T : World → World → Prop) (V : List (SV T)) (a0 : Act) (w0 : World) (listed : Array Bool) (a : Act) (w : World) : Prop where
  size : listed.size = ops.size
  closed : ∀ j oj, ops[j]? = some oj → listed.getD j false = true → ∀ e ∈ oj.after, Region.binds .any e = true → listed.getD e.on false = true
  now : T w0 w
  slots : a.tmps.size = a0.tmps.size
  defers : a.defers = a0.defers
  new : ∀ j d, relyDst ops j = some d → listed.getD j false = true → (V.getD j SV.any).pred (a.tmps.getD d undef) w
  old : ∀ d, (∀ j, relyDst ops j = some d → listed.getD j false = false) → a.tmps.getD d undef = a0.tmps.getD d undef

theorem relyB_at : ∀ (l : List Oper) (D : Deps) (i k : Nat) (o : Oper), relyB ops n i l D = true → l[k]? = some o → ∃ dp g, D[k]? = some (dp, g) ∧ relyOne ops n (i + k) o dp g = true
  | [], _, _, _, _, _, h => by simp at h
  | x :: r, [], _, _, _, h, _ => by simp [relyB] at h
  | x :: r, (dp, g) :: D, i, 0, o, h, ho => by
    simp only [relyB, Bool.and_eq_true] at h
    simp at ho
    subst ho
    exact ⟨dp, g, rfl, h.1⟩
  | x :: r, (dp, g) :: D, i, k + 1, o, h, ho => by
    simp only [relyB, Bool.and_eq_true] at h
    obtain ⟨dp', g', hD, h'⟩ := relyB_at r D (i + 1) k o h.2 (by simpa using ho)
    exact ⟨dp', g', by simpa using hD, by rw [show i + (k + 1) = i + 1 + k by omega]; exact h'⟩
theorem relyAll_at : ∀ (l : List Oper) (D : Deps) (C : List (SV T)) (k : Nat) (o : Oper) dp g, relyAll P Q T V a0 w0 l D C → l[k]? = some o → D[k]? = some (dp, g) → relyStep P Q T V a0 w0 o dp g (C.getD k SV.any)
  | [], _, _, _, _, _, _, _, h, _ => by simp at h
  | x :: r, [], _, _, _, _, _, h, _, _ => h.elim
  | x :: r, y :: D, [], _, _, _, _, h, _, _ => h.elim
  | x :: r, (dp, g) :: D, c :: C, 0, o, dp', g', h, ho, hD => by
    simp at ho hD
    obtain ⟨rfl, rfl⟩ := hD
    subst ho
    exact h.1
  | x :: r, (dp, g) :: D, c :: C, k + 1, o, dp', g', h, ho, hD => by
    have := relyAll_at r D C k o dp' g' h.2 (by simpa using ho) (by simpa using hD)
    simpa using this
theorem relyEnd_of {a : Act} {w : World} : ∀ (l : List Oper) (C : List (SV T)) (b : Act), b.tmps.size = a.tmps.size → b.defers = a.defers → l.length ≤ C.length →
    (∀ d, (∀ o ∈ l, o.dst ≠ some d) → b.tmps.getD d undef = a.tmps.getD d undef) →
    (∀ (k : Nat) (o : Oper) d, l[k]? = some o → o.dst = some d → (C.getD k SV.any).pred (a.tmps.getD d undef) w) →
    relyEnd Q T l C b w → Q .normal a w
  | [], _, b, hs, hd, _, hb, _, h => by
    have e : b = a := by
      cases b; cases a
      simp only at hs hd
      subst hd
      congr 1
      apply Array.ext_getElem?
      intro d
      rcases Nat.lt_or_ge d (Array.size ‹_›) with hlt | hge
      · have := hb d (fun o ho => by simp at ho)
        simp only [Array.getD_eq_getD_getElem?] at this
        rw [Array.getElem?_eq_getElem hlt, Array.getElem?_eq_getElem (by omega)] at this ⊢
        simpa using this
      · rw [Array.getElem?_eq_none hge, Array.getElem?_eq_none (by omega)]
    subst e
    exact h.out
  | o :: r, [], _, _, _, hl, _, _, _ => by simp at hl
  | o :: r, c :: C, b, hs, hd, hl, hb, hV, h => by
    simp only [relyEnd] at h
    cases ho : o.dst with
    | none =>
      have h1 := h undef (fun hne => absurd ho hne)
      rw [ho] at h1
      refine relyEnd_of r C b hs hd (by simp at hl; omega) (fun d hr => hb d fun o' ho' => ?_) (fun k o' d hk hdd => by simpa using hV (k + 1) o' d (by simpa using hk) hdd) h1
      rcases List.mem_cons.1 ho' with rfl | hm
      · rw [ho]; simp
      · exact hr o' hm
    | some d0 =>
      have h1 := h (a.tmps.getD d0 undef) (fun _ => by simpa using hV 0 o d0 rfl ho)
      rw [ho] at h1
      refine relyEnd_of r C _ (by simp [Act.put, hs]) (by simp [Act.put, hd]) (by simp at hl; omega) (fun d hr => ?_) (fun k o' d hk hdd => by simpa using hV (k + 1) o' d (by simpa using hk) hdd) h1
      by_cases hdd : d0 = d
      · subst hdd
        rcases Nat.lt_or_ge d0 a.tmps.size with hlt | hge
        · simp [Act.put, hlt, hs]
        · simp [Act.put, Array.getElem?_eq_none hge]
      · have := hb d (fun o' ho' => by
          rcases List.mem_cons.1 ho' with rfl | hm
          · rw [ho]; simpa using hdd
          · exact hr o' hm)
        simpa [Act.put, Array.getElem?_setIfInBounds_ne hdd] using this

/-- One operation that may come up now, from a state that meets the invariant. -/
theorem rely_op (hn : a0.tmps.size = n) (ht : ∀ a b c : World, T a b → T b c → T a c) {i : Nat} {o : Oper} {dp : List (Tmp × Option Nat)} {g : Option (Tmp × Bool)} {listed : Array Bool} {a : Act} {w : World}
    (ho : ops[i]? = some o) (h1 : relyOne ops n i o dp g = true) (hstep : relyStep P Q T V a0 w0 o dp g (V.getD i SV.any)) (h0 : listed.getD i true = false)
    (hall : ∀ e ∈ o.after, Region.binds .any e = true → listed.getD e.on false = true) (inv : RelyInv ops T V a0 w0 listed a w) :
    wpOp P ops Q i (fun a' w' => RelyInv ops T V a0 w0 (listed.setIfInBounds i true) a' w') a w := by
  simp only [relyOne, Bool.and_eq_true] at h1
  obtain ⟨⟨⟨hdst, hafter⟩, hdp⟩, hg⟩ := h1
  have waits : ∀ j, Region.waitsFor .any ops i j = true → listed.getD j false = true := fun j hj => by
    obtain ⟨oi, hoi, e, he, hb, hon⟩ := Region.waitsFor_spec hj
    have : oi = o := Option.some.inj (hoi.symm.trans ho)
    subst this
    rw [← hon]
    exact hall e he hb
  have i0 : listed.getD i false = false := getD_both h0
  have hfacts : relyFacts V a0 a w dp := by
    clear hstep
    induction dp with
    | nil => trivial
    | cons x r ih2 =>
      simp only [List.all_cons, Bool.and_eq_true] at hdp
      obtain ⟨hx, hr⟩ := hdp
      obtain ⟨d, j⟩ := x
      cases j with
      | some j =>
        simp only [Bool.and_eq_true, beq_iff_eq] at hx
        exact ⟨inv.new j d hx.1 (waits j hx.2), ih2 hr⟩
      | none =>
        refine ⟨inv.old d fun j hj => ?_, ih2 hr⟩
        have hjlt : j < ops.size := by
          unfold relyDst at hj
          cases hoj : ops[j]? with
          | none => simp [hoj] at hj
          | some oj => exact (Array.getElem?_eq_some_iff.1 hoj).1
        have h2 := List.all_eq_true.1 hx j (List.mem_range.2 hjlt)
        simp only [hj, bne_self_eq_false, Bool.false_or, Bool.or_eq_true, decide_eq_true_eq] at h2
        rcases h2 with rfl | h2
        · exact i0
        · cases hlj : listed.getD j false with
          | false => rfl
          | true =>
            obtain ⟨oj, hoj, e, he, hb, hon⟩ := Region.waitsFor_spec h2
            have := inv.closed j oj hoj hlj e he hb
            rw [hon, i0] at this
            cases this
  have hguard : Region.wanted o (yielded ops a.tmps) = relyGuard g a := by
    unfold Region.wanted
    cases hgo : o.guard with
    | none =>
      rw [hgo] at hg
      cases g with
      | none => rfl
      | some x => cases hg
    | some kb =>
      obtain ⟨k, b⟩ := kb
      rw [hgo] at hg
      cases g with
      | none => cases hg
      | some x =>
        obtain ⟨d, b'⟩ := x
        simp only [Bool.and_eq_true, beq_iff_eq, decide_eq_true_eq] at hg
        obtain ⟨⟨⟨rfl, hd⟩, _⟩, hlt⟩ := hg
        have hlt' : d < a.tmps.size := by rw [inv.slots, hn]; exact hlt
        have hd' : (ops[k]?).bind (·.dst) = some d := hd
        simp only [yielded, hd', Option.bind_some, relyGuard, Array.getD_eq_getD_getElem?, Array.getElem?_eq_getElem hlt', Option.getD_some]
        cases a.tmps[d] <;> simp
        all_goals (rename_i x; cases x <;> cases b <;> rfl)
  have next : ∀ v w', T w w' → (V.getD i SV.any).pred v w' → RelyInv ops T V a0 w0 (listed.setIfInBounds i true) (a.put o.dst v) w' := fun v w' hT hv => by
    have hilt : i < listed.size := by rw [inv.size]; exact (Array.getElem?_eq_some_iff.1 ho).1
    refine ⟨by simp [inv.size], fun j oj hj hlj e he hb => ?_, ht _ _ _ inv.now hT, by cases o.dst <;> simp [Act.put, inv.slots], by cases o.dst <;> simp [Act.put, inv.defers], fun j d hj hlj => ?_, fun d hno => ?_⟩
    · by_cases hij : i = j
      · subst hij
        have : oj = o := Option.some.inj (hj.symm.trans ho)
        subst this
        exact getD_set_true (hall e he hb)
      · rw [getD_set_ne false hij] at hlj
        exact getD_set_true (inv.closed j oj hj hlj e he hb)
    · by_cases hij : i = j
      · subst hij
        have hd : o.dst = some d := by simpa [relyDst, ho] using hj
        rw [hd] at hdst
        simp only [Bool.and_eq_true, decide_eq_true_eq] at hdst
        have hlt : d < a.tmps.size := by rw [inv.slots, hn]; exact hdst.1
        rw [hd]
        simpa [Act.put, hlt] using hv
      · rw [getD_set_ne false hij] at hlj
        have h3 := (V.getD j SV.any).stable _ _ _ (inv.new j d hj hlj) hT
        cases hod : o.dst with
        | none => exact h3
        | some d0 =>
          rw [hod] at hdst
          simp only [Bool.and_eq_true, decide_eq_true_eq] at hdst
          have hjlt : j < ops.size := by
            unfold relyDst at hj
            cases hoj : ops[j]? with
            | none => simp [hoj] at hj
            | some oj => exact (Array.getElem?_eq_some_iff.1 hoj).1
          have h4 := List.all_eq_true.1 hdst.2 j (List.mem_range.2 hjlt)
          simp only [Bool.or_eq_true, decide_eq_true_eq, bne_iff_ne, ne_eq] at h4
          have hne : d0 ≠ d := fun e => by
            subst e
            rcases h4 with h4 | h4
            · exact hij h4.symm
            · exact h4 hj
          simpa [Act.put, Array.getElem?_setIfInBounds_ne hne] using h3
    · have hni : o.dst ≠ some d := fun hd => by
        have := hno i (by simp [relyDst, ho, hd])
        simp [hilt] at this
      have hold := inv.old d fun j hj => by
        have hij : i ≠ j := fun e => by subst e; exact hni (by simpa [relyDst, ho] using hj)
        have := hno j hj
        rwa [getD_set_ne false hij] at this
      cases hod : o.dst with
      | none => exact hold
      | some d0 =>
        have hne : d0 ≠ d := fun e => hni (by rw [hod, e])
        simpa [Act.put, Array.getElem?_setIfInBounds_ne hne] using hold
  have hs := hstep a w inv.now hfacts _ next
  unfold wpOp
  simp only [ho, hguard]
  split
  · rename_i hw; rw [if_pos hw] at hs; exact .inl hs
  · rename_i hw; rw [if_neg hw] at hs; exact hs

/-- At the end, from the canonical frame. -/
theorem rely_all {Q' : Act → World → Prop} {l : List Oper} {listed : Array Bool} {a : Act} {w : World} (inv : RelyInv ops T V a0 w0 listed a w) (hpre : ∀ (k : Nat) (o : Oper), l[k]? = some o → ops[k]? = some o ∧ listed.getD k false = true)
    (hno : ∀ j, listed.getD j false = true → j < l.length) (hl : l.length ≤ V.length) (hE : relyEnd (fun _ => Q') T l V a0 w) : Q' a w := by
  refine relyEnd_of (Q := fun _ => Q') l V a0 inv.slots.symm inv.defers.symm hl (fun d hnd => ?_) (fun k o d hk hd => ?_) hE
  · refine (inv.old d fun j hj => ?_).symm
    cases hlj : listed.getD j false with
    | false => rfl
    | true =>
      exfalso
      have hjl := hno j hlj
      have hj2 := (hpre j l[j] (List.getElem?_eq_getElem hjl)).1
      simp [relyDst, hj2] at hj
      exact hnd l[j] (List.getElem_mem hjl) hj
  · obtain ⟨hk', hlk⟩ := hpre k o hk
    exact inv.new k d (by simp [relyDst, hk', hd]) hlk

theorem rely_start (hd : T w0 w0.drew) : RelyInv ops T V a0 w0 (Array.replicate ops.size false) a0 w0.drew := by
  refine ⟨by simp, fun j oj hj hlj => ?_, hd, rfl, rfl, fun j d _ hlj => ?_, fun _ _ => rfl⟩
  · rw [getD_replicate_false] at hlj; cases hlj
  · rw [getD_replicate_false] at hlj; cases hlj
theorem rely_start' (hd : T w0 w0) : RelyInv ops T V a0 w0 (Array.replicate ops.size false) a0 w0 := by
  refine ⟨by simp, fun j oj hj hlj => ?_, hd, rfl, rfl, fun j d _ hlj => ?_, fun _ _ => rfl⟩
  · rw [getD_replicate_false] at hlj; cases hlj
  · rw [getD_replicate_false] at hlj; cases hlj
theorem unl_start : (unl ops (Array.replicate ops.size false)).length = ops.size := by
  unfold unl
  rw [List.filter_eq_self.2]
  · simp
  · intro i hi; simp at hi; simp [hi]

/-- The last operation waits for all others. -/
def lastB (ops : Array Oper) (last : Oper) (m : Nat) : Bool := Region.sinkB .any ops m && last.after.all fun e => !Region.binds .any e || decide (e.on < m)

theorem wpAny_done {listed : Array Bool} {a : Act} {w : World} (hr : Region.ready .any ops listed = []) (h : Q .normal a w) : ∀ fuel, wpAny P .any ops Q fuel listed a w
  | 0 => ⟨hr, h⟩
  | _ + 1 => ⟨fun _ => h, by rw [hr]; simp⟩
theorem ready_none {listed : Array Bool} (h : ∀ i, i < ops.size → listed.getD i false = true) : Region.ready .any ops listed = [] := by
  apply List.eq_nil_iff_forall_not_mem.2
  intro i hi
  obtain ⟨h0, o, ho, _⟩ := mem_ready.1 hi
  have := h i (Array.getElem?_eq_some_iff.1 ho).1
  rw [getD_both h0] at this
  cases this

section
variable {init : List Oper} {last : Oper}
theorem last_at (hsplit : ops.toList = init ++ [last]) : ops[init.length]? = some last ∧ ops.size = init.length + 1 ∧ ∀ (k : Nat) (o : Oper), init[k]? = some o → ops[k]? = some o := by
  have e : ops = (init ++ [last]).toArray := by rw [← hsplit]
  subst e
  refine ⟨by simp, by simp, fun k o hk => ?_⟩
  have hlt := (List.getElem?_eq_some_iff.1 hk).1
  simp [List.getElem?_append_left hlt, hk]
theorem last_op (hsplit : ops.toList = init ++ [last]) (hg : last.guard = none) (hl : init.length ≤ V.length) {K : Act → World → Prop} {listed : Array Bool} {a : Act} {w : World}
    (hE : ∀ w, T w0 w → relyEnd (fun _ a w => last.wp P a w (fun a' w' => Q .normal a' w') Q) T init V a0 w)
    (inv : RelyInv ops T V a0 w0 listed a w) (hdone : ∀ j, j < init.length → listed.getD j false = true) (hun : listed.getD init.length true = false) (hK : ∀ a' w', Q .normal a' w' → K a' w') : wpOp P ops Q init.length K a w := by
  obtain ⟨hlo, hsz, hpre⟩ := last_at hsplit
  have h1 : last.wp P a w (fun a' w' => Q .normal a' w') Q := rely_all (Q' := fun a w => last.wp P a w (fun a' w' => Q .normal a' w') Q) inv
    (fun k o hk => ⟨hpre k o hk, hdone k (List.getElem?_eq_some_iff.1 hk).1⟩) (fun j hj => by
      rcases Nat.lt_or_ge j init.length with h | h
      · exact h
      · rcases Nat.eq_or_lt_of_le h with h | h
        · subst h; rw [getD_both hun] at hj; cases hj
        · have : listed.getD j false = false := by simp [Array.getElem?_eq_none (show listed.size ≤ j by rw [inv.size]; omega)]
          rw [this] at hj; cases hj) hl (hE w inv.now)
  unfold wpOp
  simp only [hlo, Region.wanted, hg, if_true]
  exact .inl (Oper.wp_mono hK h1)

/-- **A region that draws its order, in the text's own order; the last operation waits for all others, and may do what it likes.** -/
theorem wpAny_rely (hsplit : ops.toList = init ++ [last]) (hn : a0.tmps.size = n) (hB : relyB ops n 0 init D = true) (hlast : lastB ops last init.length = true) (hg : last.guard = none) (ht : ∀ a b c : World, T a b → T b c → T a c)
    (hl : init.length ≤ V.length) (hA : relyAll P Q T V a0 w0 init D V) (hE : ∀ w, T w0 w → relyEnd (fun _ a w => last.wp P a w (fun a' w' => Q .normal a' w') Q) T init V a0 w) :
    ∀ (fuel : Nat) (listed : Array Bool) (a : Act) (w : World), (unl ops listed).length = fuel → listed.getD init.length true = false → RelyInv ops T V a0 w0 listed a w → wpAny P .any ops Q fuel listed a w := by
  obtain ⟨hlo, hsz, hpre⟩ := last_at hsplit
  simp only [lastB, Bool.and_eq_true] at hlast
  have hat : ∀ i o, init[i]? = some o → ∃ dp g, relyOne ops n i o dp g = true ∧ relyStep P Q T V a0 w0 o dp g (V.getD i SV.any) := fun i o hi => by
    obtain ⟨dp, g, hD, h1⟩ := relyB_at init D 0 i o hB hi
    rw [Nat.zero_add] at h1
    exact ⟨dp, g, h1, relyAll_at _ _ _ i o dp g hA hi hD⟩
  intro fuel
  induction fuel with
  | zero =>
    intro listed a w hu hun inv
    have : init.length ∈ unl ops listed := by
      unfold unl; rw [List.mem_filter]; exact ⟨List.mem_range.2 (by omega), by rw [hun]; rfl⟩
    rw [List.eq_nil_of_length_eq_zero hu] at this
    cases this
  | succ fuel ih =>
    intro listed a w hu hun inv
    refine ⟨fun hr => ?_, fun i hi => ?_⟩
    · exfalso
      have all : ∀ i, i < init.length → listed.getD i false = true := fun i => by
        induction i using Nat.strongRecOn with
        | _ i ih =>
          intro hi
          cases hli : listed.getD i false with
          | true => rfl
          | false =>
            exfalso
            have hmem : i ∈ Region.ready .any ops listed := by
              rw [mem_ready]
              refine ⟨getD_in (by rw [inv.size]; omega) hli, init[i], hpre i _ (List.getElem?_eq_getElem hi), fun e he hb => ?_⟩
              obtain ⟨dp, g, h1, _⟩ := hat i init[i] (List.getElem?_eq_getElem hi)
              simp only [relyOne, Bool.and_eq_true] at h1
              have h2 := (Array.all_eq_true_iff_forall_mem.1 h1.1.1.2) e he
              simp only [hb, Bool.not_true, Bool.false_or, decide_eq_true_eq] at h2
              exact ih e.on h2 (by omega)
            rw [hr] at hmem
            cases hmem
      have hmem : init.length ∈ Region.ready .any ops listed := by
        rw [mem_ready]
        refine ⟨hun, last, hlo, fun e he hb => ?_⟩
        have h2 := (Array.all_eq_true_iff_forall_mem.1 hlast.2) e he
        simp only [hb, Bool.not_true, Bool.false_or, decide_eq_true_eq] at h2
        exact all e.on h2
      rw [hr] at hmem
      cases hmem
    · obtain ⟨h0, o, ho, hall⟩ := mem_ready.1 hi
      have hilt := (Array.getElem?_eq_some_iff.1 ho).1
      by_cases him : i = init.length
      · subst him
        have hol : o = last := Option.some.inj (ho.symm.trans hlo)
        subst hol
        have hdone : ∀ (d j : Nat), init.length - j = d → j < init.length → listed.getD j false = true := fun d => by
          induction d using Nat.strongRecOn with
          | _ d ihd =>
            intro j hd hj
            have h1 := List.all_eq_true.1 hlast.1 j (List.mem_range.2 hj)
            obtain ⟨t, ht1, ht2⟩ := List.any_eq_true.1 h1
            simp only [Bool.and_eq_true, decide_eq_true_eq] at ht2
            obtain ⟨ot, hot, e, he, hb, hon⟩ := Region.waitsFor_spec ht2.2
            have htle : t ≤ init.length := by have := List.mem_range.1 ht1; omega
            rw [← hon]
            by_cases htm : t = init.length
            · subst htm
              have : ot = o := Option.some.inj (hot.symm.trans ho)
              subst this
              exact hall e he hb
            · exact inv.closed t ot hot (ihd (init.length - t) (by omega) t rfl (by omega)) e he hb
        replace hdone : ∀ j, j < init.length → listed.getD j false = true := fun j hj => hdone _ j rfl hj
        refine last_op hsplit hg hl hE inv hdone hun fun a' w' h => wpAny_done (ready_none fun j hj => ?_) h _
        by_cases hj2 : j = init.length
        · subst hj2; simp [show init.length < listed.size by rw [inv.size]; exact hj]
        · exact getD_set_true (hdone j (by omega))
      · have hi' : i < init.length := by omega
        have hio : init[i]? = some o := by
          have := hpre i init[i] (List.getElem?_eq_getElem hi')
          rw [ho] at this
          rw [List.getElem?_eq_getElem hi', Option.some.inj this]
        obtain ⟨dp, g, h1, hstep⟩ := hat i o hio
        refine wpOp_mono (fun a' w' inv' => ih _ a' w' (by have := unl_set inv.size h0; omega) (by rw [getD_set_ne true him]; exact hun) inv') (rely_op hn ht ho h1 hstep h0 hall inv)

/-- In the text's order, from place k on. -/
theorem wpOps_rely (hsplit : ops.toList = init ++ [last]) (hn : a0.tmps.size = n) (hB : relyB ops n 0 init D = true) (hg : last.guard = none) (ht : ∀ a b c : World, T a b → T b c → T a c)
    (hl : init.length ≤ V.length) (hA : relyAll P Q T V a0 w0 init D V) (hE : ∀ w, T w0 w → relyEnd (fun _ a w => last.wp P a w (fun a' w' => Q .normal a' w') Q) T init V a0 w) :
    ∀ (f k : Nat) (listed : Array Bool) (a : Act) (w : World), k + f = init.length → (∀ j, j < k → listed.getD j false = true) → (∀ j, k ≤ j → j < ops.size → listed.getD j true = false) → RelyInv ops T V a0 w0 listed a w → wpOps P ops Q (List.range' k (f + 1)) a w := by
  obtain ⟨hlo, hsz, hpre⟩ := last_at hsplit
  intro f
  induction f with
  | zero =>
    intro k listed a w hk hdone hun inv
    obtain rfl : k = init.length := by omega
    rw [List.range'_succ, wpOps_cons]
    exact last_op hsplit hg hl hE inv hdone (hun _ (Nat.le_refl _) (by omega)) fun a' w' h => by simpa [wpOps] using h
  | succ f ih =>
    intro k listed a w hk hdone hun inv
    rw [List.range'_succ, wpOps_cons]
    have hklt : k < init.length := by omega
    have hio : init[k]? = some init[k] := List.getElem?_eq_getElem hklt
    obtain ⟨dp, g, hD, h1⟩ := relyB_at init D 0 k _ hB hio
    rw [Nat.zero_add] at h1
    have hstep := relyAll_at _ _ _ k _ dp g hA hio hD
    refine wpOp_mono (fun a' w' inv' => ih (k + 1) _ a' w' (by omega) (fun j hj => ?_) (fun j hj hj2 => ?_) inv') (rely_op hn ht (hpre k _ hio) h1 hstep (hun k (Nat.le_refl _) (by omega)) (fun e he hb => ?_) inv)
    · by_cases hjk : k = j
      · subst hjk; simp [show k < listed.size by rw [inv.size]; omega]
      · exact getD_set_true (hdone j (by omega))
    · rw [getD_set_ne true (by omega)]; exact hun j (by omega) hj2
    · simp only [relyOne, Bool.and_eq_true] at h1
      have h2 := (Array.all_eq_true_iff_forall_mem.1 h1.1.1.2) e he
      simp only [hb, Bool.not_true, Bool.false_or, decide_eq_true_eq] at h2
      exact hdone e.on h2

end
section
variable {last : Oper}
theorem split_last (h : ops.toList.getLast? = some last) : ops.toList = ops.toList.dropLast ++ [last] := by
  have hne : ops.toList ≠ [] := fun e => by rw [e] at h; cases h
  rw [List.getLast?_eq_some_getLast hne] at h
  rw [← Option.some.inj h, List.dropLast_concat_getLast hne]
/-- **A region that draws its order.** -/
theorem wp_region_rely {id : Nat} (T : World → World → Prop) (V : List (SV T)) (D : Deps) (n : Nat) (hla : ops.toList.getLast? = some last) (hm : P.follows .mixedOrders = true) (hn : a0.tmps.size = n) (hB : relyB ops n 0 ops.toList.dropLast D = true)
    (hlast : lastB ops last ops.toList.dropLast.length = true) (hg : last.guard = none) (ht : ∀ a b c : World, T a b → T b c → T a c) (hd : T w0 w0.drew) (hl : ops.toList.dropLast.length ≤ V.length)
    (hA : relyAll P Q T V a0 w0 ops.toList.dropLast D V) (hE : ∀ w, T w0 w → relyEnd (fun _ a w => last.wp P a w (fun a' w' => Q .normal a' w') Q) T ops.toList.dropLast V a0 w) : (Code.region id ops true).wp P Q a0 w0 := by
  have hsplit := split_last hla
  obtain ⟨_, hsz, _⟩ := last_at hsplit
  refine wp_region_any hm ?_
  exact wpAny_rely hsplit hn hB hlast hg ht hl hA hE ops.size _ a0 w0.drew unl_start (by
    have hlt : ops.toList.dropLast.length < ops.size := by omega
    generalize ops.toList.dropLast.length = m at hlt
    simp [hlt]) (rely_start hd)
/-- **A region in the text's order.** -/
theorem wp_region_seq {id : Nat} (T : World → World → Prop) (V : List (SV T)) (D : Deps) (n : Nat) (hla : ops.toList.getLast? = some last) (hn : a0.tmps.size = n) (hB : relyB ops n 0 ops.toList.dropLast D = true)
    (hg : last.guard = none) (ht : ∀ a b c : World, T a b → T b c → T a c) (hd : T w0 w0) (hl : ops.toList.dropLast.length ≤ V.length)
    (hA : relyAll P Q T V a0 w0 ops.toList.dropLast D V) (hE : ∀ w, T w0 w → relyEnd (fun _ a w => last.wp P a w (fun a' w' => Q .normal a' w') Q) T ops.toList.dropLast V a0 w) : (Code.region id ops false).wp P Q a0 w0 := by
  have hsplit := split_last hla
  obtain ⟨_, hsz, _⟩ := last_at hsplit
  refine wp_region ?_
  rw [List.range_eq_range', hsz]
  exact wpOps_rely hsplit hn hB hg ht hl hA hE ops.toList.dropLast.length 0 _ a0 w0 (by omega) (fun j hj => by omega) (fun j _ hj => by simp [hj]) (rely_start' hd)
end
end
end Go.Proofs.Yteelddmegmojpaa
