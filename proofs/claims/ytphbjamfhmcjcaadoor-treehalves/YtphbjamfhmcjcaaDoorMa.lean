/- A region that draws its order, gone through ONCE, in the text's order: each operation has a condition on its value that no later step of the region can turn; whatever order is drawn, all conditions hold at the end. No program is named here. -/
import Derived.StillTail
import Derived.WalkKit
import Derived.WalkSpells
import Derived.WalkLawsBesides
import Derived.Lib.Hide
import Derived.Deep.OwnRows
import Derived.Deep.MidRow
import Derived.StillTailTactics
import Derived.RangeFuncNested
import Derived.RangeFuncBound
import Derived.RangeFuncCalls
import Derived.RangeFuncLeaves
import Derived.Shelf.Abstract
import Derived.OwnWalkIn
import Derived.TacticsInMore
import Derived.LoopNIn
import Derived.LoopIn
import Derived.Test.YtphbjamfhmcjcaaDoorProg
import Derived.Maps.AppendAt
import Derived.Laws.StructEq
import Derived.Deep.AppendLies
import Derived.BigCall
import Derived.StillTactics
import Derived.Deep.RegionHeld3
import Derived.Deep.RegionWith
import Derived.Deep.DeepCutAuto
set_option linter.all false
namespace Go.Proofs.YtphbjamfhmcjcaaDoor
open Go
set_option maxRecDepth 8000
set_option linter.all false

/-- A condition on a value and a world that stands behind every step of T. -/
structure SV (T : World → World → Prop) where
  pred : Value → World → Prop
  stable : ∀ v w w', pred v w → T w w' → pred v w'
def SV.eq {T : World → World → Prop} (c : Value) : SV T := ⟨fun v _ => v = c, fun _ _ _ h _ => h⟩
def SV.any {T : World → World → Prop} : SV T := ⟨fun _ _ => True, fun _ _ _ h _ => h⟩

/-- Of each operation: the slots that it looks at, with the operation of the region that fills it, if it waits for one; its guard's slot. -/
abbrev Deps := List (List (Tmp × Option Nat) × Option (Tmp × Bool))

def relyFacts {T : World → World → Prop} (V : List (SV T)) (a0 a : Act) (w : World) : List (Tmp × Option Nat) → Prop
  | [] => True
  | (d, some j) :: r => (V.getD j SV.any).pred (a.tmps.getD d undef) w ∧ relyFacts V a0 a w r
  | (d, none) :: r => a.tmps.getD d undef = a0.tmps.getD d undef ∧ relyFacts V a0 a w r
def relyGuard : Option (Tmp × Bool) → Act → Bool
  | none, _ => true
  | some (d, b), a => match a.tmps.getD d undef with | .bool x => x == b | _ => false
/-- One operation, in whatever frame and world meets what it looks at. -/
def relyStep (P : Program) (Q : Exit → Act → World → Prop) (T : World → World → Prop) (V : List (SV T)) (a0 : Act) (w0 : World) (o : Oper) (dp : List (Tmp × Option Nat)) (g : Option (Tmp × Bool)) (c : SV T) : Prop :=
  ∀ (a : Act) (w : World), T w0 w → relyFacts V a0 a w dp → ∀ K : Act → World → Prop, (∀ v w', T w w' → c.pred v w' → K (a.put o.dst v) w') →
    if relyGuard g a then o.wp P a w K Q else K (a.put o.dst undef) w
def relyAll (P : Program) (Q : Exit → Act → World → Prop) (T : World → World → Prop) (V : List (SV T)) (a0 : Act) (w0 : World) : List Oper → Deps → List (SV T) → Prop
  | [], _, _ => True
  | o :: r, (dp, g) :: D, c :: C => relyStep P Q T V a0 w0 o dp g c ∧ relyAll P Q T V a0 w0 r D C
  | _, _, _ => False
/-- Shut, so that no tactic looks into it by itself. -/
structure Shut (p : Prop) : Prop where
  out : p
def relyEnd (Q : Exit → Act → World → Prop) (T : World → World → Prop) : List Oper → List (SV T) → Act → World → Prop
  | [], _, a, w => Shut (Q .normal a w)
  | o :: r, c :: C, a, w => ∀ u, (o.dst ≠ none → c.pred u w) → relyEnd Q T r C (a.put o.dst u) w
  | _, [], _, _ => True

def relyDst (ops : Array Oper) (j : Nat) : Option Tmp := (ops[j]?).bind (·.dst)
def relyOne (ops : Array Oper) (n : Nat) (i : Nat) (o : Oper) (dp : List (Tmp × Option Nat)) (g : Option (Tmp × Bool)) : Bool :=
  (match o.dst with | some d => decide (d < n) && (List.range ops.size).all (fun j => decide (j = i) || relyDst ops j != some d) | none => true) &&
  (o.after.all fun e => !Region.binds .any e || decide (e.on < i)) &&
  (dp.all fun x => match x.2 with
    | some j => relyDst ops j == some x.1 && Region.waitsFor .any ops i j
    | none => (List.range ops.size).all fun j => relyDst ops j != some x.1 || decide (j = i) || Region.waitsFor .any ops j i) &&
  (match o.guard, g with
    | none, none => true
    | some (k, b), some (d, b') => b == b' && relyDst ops k == some d && Region.waitsFor .any ops i k && decide (d < n)
    | _, _ => false)
def relyB (ops : Array Oper) (n : Nat) : Nat → List Oper → Deps → Bool
  | _, [], _ => true
  | i, o :: r, (dp, g) :: D => relyOne ops n i o dp g && relyB ops n (i + 1) r D
  | _, _, _ => false

section
variable {P : Program} {ops : Array Oper} {Q : Exit → Act → World → Prop} {T : World → World → Prop} {V : List (SV T)} {a0 : Act} {w0 : World} {n : Nat} {D : Deps}

/-- Not yet come up. -/
def unl (ops : Array Oper) (listed : Array Bool) : List Nat := (List.range ops.size).filter fun i => !listed.getD i true

theorem unl_set {listed : Array Bool} {i : Nat} (hs : listed.size = ops.size) (hi : listed.getD i true = false) : (unl ops (listed.setIfInBounds i true)).length + 1 = (unl ops listed).length := by
  have hlt : i < listed.size := by
    rcases Nat.lt_or_ge i listed.size with h | h
    · exact h
    · simp [Array.getElem?_eq_none h] at hi
  have hm : i ∈ unl ops listed := by
    unfold unl; rw [List.mem_filter]; exact ⟨List.mem_range.2 (by omega), by rw [hi]; rfl⟩
  have e : unl ops (listed.setIfInBounds i true) = (unl ops listed).erase i := by
    unfold unl
    rw [List.Nodup.erase_eq_filter (List.Nodup.sublist (List.filter_sublist) List.nodup_range)]
    rw [List.filter_filter]
    apply List.filter_congr
    intro j hj
    by_cases hji : i = j
    · subst hji; simp [hlt]
    · rw [getD_set_ne true hji]; simp [Ne.symm hji]
  rw [e, List.length_erase_of_mem hm]
  have := List.length_pos_of_mem hm
  omega

structure RelyInv (ops : Array Oper) (T : World → World → Prop) (V : List (SV T)) (a0 : Act) (w0 : World) (listed : Array Bool) (a : Act) (w : World) : Prop where
  size : listed.size = ops.size
  closed : ∀ j oj, ops[j]? = some oj → listed.getD j false = true → ∀ e ∈ oj.after, Region.binds .any e = true → listed.getD e.on false = true
  now : T w0 w
  slots : a.tmps.size = a0.tmps.size
  defers : a.defers = a0.defers
  new : ∀ j d, relyDst ops j = some d → listed.getD j false = true → (V.getD j SV.any).pred (a.tmps.getD d undef) w
  old : ∀ d, (∀ j, relyDst ops j = some d → listed.getD j false = false) → a.tmps.getD d undef = a0.tmps.getD d undef

theorem relyB_at : ∀ (l : List Oper) (D : Deps) (i k : Nat) (o : Oper), relyB ops n i l D = true → l[k]? = some o → ∃ dp g, D[k]? = some (dp, g) ∧ relyOne ops n (i + k) o dp g = true
  | [], _, _, _, _, _, h => by simp at h
  | x :: r, [], _, _, _, h, _ => by simp [relyB] at h
  | x :: r, (dp, g) :: D, i, 0, o, h, ho => by
    simp only [relyB, Bool.and_eq_true] at h
    simp at ho
    subst ho
    exact ⟨dp, g, rfl, h.1⟩
  | x :: r, (dp, g) :: D, i, k + 1, o, h, ho => by
    simp only [relyB, Bool.and_eq_true] at h
    obtain ⟨dp', g', hD, h'⟩ := relyB_at r D (i + 1) k o h.2 (by simpa using ho)
    exact ⟨dp', g', by simpa using hD, by rw [show i + (k + 1) = i + 1 + k by omega]; exact h'⟩
theorem relyAll_at : ∀ (l : List Oper) (D : Deps) (C : List (SV T)) (k : Nat) (o : Oper) dp g, relyAll P Q T V a0 w0 l D C → l[k]? = some o → D[k]? = some (dp, g) → relyStep P Q T V a0 w0 o dp g (C.getD k SV.any)
  | [], _, _, _, _, _, _, _, h, _ => by simp at h
  | x :: r, [], _, _, _, _, _, h, _, _ => h.elim
  | x :: r, y :: D, [], _, _, _, _, h, _, _ => h.elim
  | x :: r, (dp, g) :: D, c :: C, 0, o, dp', g', h, ho, hD => by
    simp at ho hD
    obtain ⟨rfl, rfl⟩ := hD
    subst ho
    exact h.1
  | x :: r, (dp, g) :: D, c :: C, k + 1, o, dp', g', h, ho, hD => by
    have := relyAll_at r D C k o dp' g' h.2 (by simpa using ho) (by simpa using hD)
    simpa using this
theorem relyEnd_of {a : Act} {w : World} : ∀ (l : List Oper) (C : List (SV T)) (b : Act), b.tmps.size = a.tmps.size → b.defers = a.defers → l.length ≤ C.length →
    (∀ d, (∀ o ∈ l, o.dst ≠ some d) → b.tmps.getD d undef = a.tmps.getD d undef) →
    (∀ (k : Nat) (o : Oper) d, l[k]? = some o → o.dst = some d → (C.getD k SV.any).pred (a.tmps.getD d undef) w) →
    relyEnd Q T l C b w → Q .normal a w
  | [], _, b, hs, hd, _, hb, _, h => by
    have e : b = a := by
      cases b; cases a
      simp only at hs hd
      subst hd
      congr 1
      apply Array.ext_getElem?
      intro d
      rcases Nat.lt_or_ge d (Array.size ‹_›) with hlt | hge
      · have := hb d (fun o ho => by simp at ho)
        simp only [Array.getD_eq_getD_getElem?] at this
        rw [Array.getElem?_eq_getElem hlt, Array.getElem?_eq_getElem (by omega)] at this ⊢
        simpa using this
      · rw [Array.getElem?_eq_none hge, Array.getElem?_eq_none (by omega)]
    subst e
    exact h.out
  | o :: r, [], _, _, _, hl, _, _, _ => by simp at hl
  | o :: r, c :: C, b, hs, hd, hl, hb, hV, h => by
    simp only [relyEnd] at h
    cases ho : o.dst with
    | none =>
      have h1 := h undef (fun hne => absurd ho hne)
      rw [ho] at h1
      refine relyEnd_of r C b hs hd (by simp at hl; omega) (fun d hr => hb d fun o' ho' => ?_) (fun k o' d hk hdd => by simpa using hV (k + 1) o' d (by simpa using hk) hdd) h1
      rcases List.mem_cons.1 ho' with rfl | hm
      · rw [ho]; simp
      · exact hr o' hm
    | some d0 =>
      have h1 := h (a.tmps.getD d0 undef) (fun _ => by simpa using hV 0 o d0 rfl ho)
      rw [ho] at h1
      refine relyEnd_of r C _ (by simp [Act.put, hs]) (by simp [Act.put, hd]) (by simp at hl; omega) (fun d hr => ?_) (fun k o' d hk hdd => by simpa using hV (k + 1) o' d (by simpa using hk) hdd) h1
      by_cases hdd : d0 = d
      · subst hdd
        rcases Nat.lt_or_ge d0 a.tmps.size with hlt | hge
        · simp [Act.put, hlt, hs]
        · simp [Act.put, Array.getElem?_eq_none hge]
      · have := hb d (fun o' ho' => by
          rcases List.mem_cons.1 ho' with rfl | hm
          · rw [ho]; simpa using hdd
          · exact hr o' hm)
        simpa [Act.put, Array.getElem?_setIfInBounds_ne hdd] using this

/-- One operation that may come up now, from a state that meets the invariant. -/
theorem rely_op (hn : a0.tmps.size = n) (ht : ∀ a b c : World, T a b → T b c → T a c) {i : Nat} {o : Oper} {dp : List (Tmp × Option Nat)} {g : Option (Tmp × Bool)} {listed : Array Bool} {a : Act} {w : World}
    (ho : ops[i]? = some o) (h1 : relyOne ops n i o dp g = true) (hstep : relyStep P Q T V a0 w0 o dp g (V.getD i SV.any)) (h0 : listed.getD i true = false)
    (hall : ∀ e ∈ o.after, Region.binds .any e = true → listed.getD e.on false = true) (inv : RelyInv ops T V a0 w0 listed a w) :
    wpOp P ops Q i (fun a' w' => RelyInv ops T V a0 w0 (listed.setIfInBounds i true) a' w') a w := by
  simp only [relyOne, Bool.and_eq_true] at h1
  obtain ⟨⟨⟨hdst, hafter⟩, hdp⟩, hg⟩ := h1
  have waits : ∀ j, Region.waitsFor .any ops i j = true → listed.getD j false = true := fun j hj => by
    obtain ⟨oi, hoi, e, he, hb, hon⟩ := Region.waitsFor_spec hj
    have : oi = o := Option.some.inj (hoi.symm.trans ho)
    subst this
    rw [← hon]
    exact hall e he hb
  have i0 : listed.getD i false = false := getD_both h0
  have hfacts : relyFacts V a0 a w dp := by
    clear hstep
    induction dp with
    | nil => trivial
    | cons x r ih2 =>
      simp only [List.all_cons, Bool.and_eq_true] at hdp
      obtain ⟨hx, hr⟩ := hdp
      obtain ⟨d, j⟩ := x
      cases j with
      | some j =>
        simp only [Bool.and_eq_true, beq_iff_eq] at hx
        exact ⟨inv.new j d hx.1 (waits j hx.2), ih2 hr⟩
      | none =>
        refine ⟨inv.old d fun j hj => ?_, ih2 hr⟩
        have hjlt : j < ops.size := by
          unfold relyDst at hj
          cases hoj : ops[j]? with
          | none => simp [hoj] at hj
          | some oj => exact (Array.getElem?_eq_some_iff.1 hoj).1
        have h2 := List.all_eq_true.1 hx j (List.mem_range.2 hjlt)
        simp only [hj, bne_self_eq_false, Bool.false_or, Bool.or_eq_true, decide_eq_true_eq] at h2
        rcases h2 with rfl | h2
        · exact i0
        · cases hlj : listed.getD j false with
          | false => rfl
          | true =>
            obtain ⟨oj, hoj, e, he, hb, hon⟩ := Region.waitsFor_spec h2
            have := inv.closed j oj hoj hlj e he hb
            rw [hon, i0] at this
            cases this
  have hguard : Region.wanted o (yielded ops a.tmps) = relyGuard g a := by
    unfold Region.wanted
    cases hgo : o.guard with
    | none =>
      rw [hgo] at hg
      cases g with
      | none => rfl
      | some x => cases hg
    | some kb =>
      obtain ⟨k, b⟩ := kb
      rw [hgo] at hg
      cases g with
      | none => cases hg
      | some x =>
        obtain ⟨d, b'⟩ := x
        simp only [Bool.and_eq_true, beq_iff_eq, decide_eq_true_eq] at hg
        obtain ⟨⟨⟨rfl, hd⟩, _⟩, hlt⟩ := hg
        have hlt' : d < a.tmps.size := by rw [inv.slots, hn]; exact hlt
        have hd' : (ops[k]?).bind (·.dst) = some d := hd
        simp only [yielded, hd', Option.bind_some, relyGuard, Array.getD_eq_getD_getElem?, Array.getElem?_eq_getElem hlt', Option.getD_some]
        cases a.tmps[d] <;> simp
        all_goals (rename_i x; cases x <;> cases b <;> rfl)
  have next : ∀ v w', T w w' → (V.getD i SV.any).pred v w' → RelyInv ops T V a0 w0 (listed.setIfInBounds i true) (a.put o.dst v) w' := fun v w' hT hv => by
    have hilt : i < listed.size := by rw [inv.size]; exact (Array.getElem?_eq_some_iff.1 ho).1
    refine ⟨by simp [inv.size], fun j oj hj hlj e he hb => ?_, ht _ _ _ inv.now hT, by cases o.dst <;> simp [Act.put, inv.slots], by cases o.dst <;> simp [Act.put, inv.defers], fun j d hj hlj => ?_, fun d hno => ?_⟩
    · by_cases hij : i = j
      · subst hij
        have : oj = o := Option.some.inj (hj.symm.trans ho)
        subst this
        exact getD_set_true (hall e he hb)
      · rw [getD_set_ne false hij] at hlj
        exact getD_set_true (inv.closed j oj hj hlj e he hb)
    · by_cases hij : i = j
      · subst hij
        have hd : o.dst = some d := by simpa [relyDst, ho] using hj
        rw [hd] at hdst
        simp only [Bool.and_eq_true, decide_eq_true_eq] at hdst
        have hlt : d < a.tmps.size := by rw [inv.slots, hn]; exact hdst.1
        rw [hd]
        simpa [Act.put, hlt] using hv
      · rw [getD_set_ne false hij] at hlj
        have h3 := (V.getD j SV.any).stable _ _ _ (inv.new j d hj hlj) hT
        cases hod : o.dst with
        | none => exact h3
        | some d0 =>
          rw [hod] at hdst
          simp only [Bool.and_eq_true, decide_eq_true_eq] at hdst
          have hjlt : j < ops.size := by
            unfold relyDst at hj
            cases hoj : ops[j]? with
            | none => simp [hoj] at hj
            | some oj => exact (Array.getElem?_eq_some_iff.1 hoj).1
          have h4 := List.all_eq_true.1 hdst.2 j (List.mem_range.2 hjlt)
          simp only [Bool.or_eq_true, decide_eq_true_eq, bne_iff_ne, ne_eq] at h4
          have hne : d0 ≠ d := fun e => by
            subst e
            rcases h4 with h4 | h4
            · exact hij h4.symm
            · exact h4 hj
          simpa [Act.put, Array.getElem?_setIfInBounds_ne hne] using h3
    · have hni : o.dst ≠ some d := fun hd => by
        have := hno i (by simp [relyDst, ho, hd])
        simp [hilt] at this
      have hold := inv.old d fun j hj => by
        have hij : i ≠ j := fun e => by subst e; exact hni (by simpa [relyDst, ho] using hj)
        have := hno j hj
        rwa [getD_set_ne false hij] at this
      cases hod : o.dst with
      | none => exact hold
      | some d0 =>
        have hne : d0 ≠ d := fun e => hni (by rw [hod, e])
        simpa [Act.put, Array.getElem?_setIfInBounds_ne hne] using hold
  have hs := hstep a w inv.now hfacts _ next
  unfold wpOp
  simp only [ho, hguard]
  split
  · rename_i hw; rw [if_pos hw] at hs; exact .inl hs
  · rename_i hw; rw [if_neg hw] at hs; exact hs

/-- At the end, from the canonical frame. -/
theorem rely_all {Q' : Act → World → Prop} {l : List Oper} {listed : Array Bool} {a : Act} {w : World} (inv : RelyInv ops T V a0 w0 listed a w) (hpre : ∀ (k : Nat) (o : Oper), l[k]? = some o → ops[k]? = some o ∧ listed.getD k false = true)
    (hno : ∀ j, listed.getD j false = true → j < l.length) (hl : l.length ≤ V.length) (hE : relyEnd (fun _ => Q') T l V a0 w) : Q' a w := by
  refine relyEnd_of (Q := fun _ => Q') l V a0 inv.slots.symm inv.defers.symm hl (fun d hnd => ?_) (fun k o d hk hd => ?_) hE
  · refine (inv.old d fun j hj => ?_).symm
    cases hlj : listed.getD j false with
    | false => rfl
    | true =>
      exfalso
      have hjl := hno j hlj
      have hj2 := (hpre j l[j] (List.getElem?_eq_getElem hjl)).1
      simp [relyDst, hj2] at hj
      exact hnd l[j] (List.getElem_mem hjl) hj
  · obtain ⟨hk', hlk⟩ := hpre k o hk
    exact inv.new k d (by simp [relyDst, hk', hd]) hlk

theorem rely_start (hd : T w0 w0.drew) : RelyInv ops T V a0 w0 (Array.replicate ops.size false) a0 w0.drew := by
  refine ⟨by simp, fun j oj hj hlj => ?_, hd, rfl, rfl, fun j d _ hlj => ?_, fun _ _ => rfl⟩
  · rw [getD_replicate_false] at hlj; cases hlj
  · rw [getD_replicate_false] at hlj; cases hlj
theorem unl_start : (unl ops (Array.replicate ops.size false)).length = ops.size := by
  unfold unl
  rw [List.filter_eq_self.2]
  · simp
  · intro i hi; simp at hi; simp [hi]

/-- The last operation waits for all others. -/
def lastB (ops : Array Oper) (last : Oper) (m : Nat) : Bool := Region.sinkB .any ops m && last.after.all fun e => !Region.binds .any e || decide (e.on < m)

theorem wpAny_done {listed : Array Bool} {a : Act} {w : World} (hr : Region.ready .any ops listed = []) (h : Q .normal a w) : ∀ fuel, wpAny P .any ops Q fuel listed a w
  | 0 => ⟨hr, h⟩
  | _ + 1 => ⟨fun _ => h, by rw [hr]; simp⟩
theorem ready_none {listed : Array Bool} (h : ∀ i, i < ops.size → listed.getD i false = true) : Region.ready .any ops listed = [] := by
  apply List.eq_nil_iff_forall_not_mem.2
  intro i hi
  obtain ⟨h0, o, ho, _⟩ := mem_ready.1 hi
  have := h i (Array.getElem?_eq_some_iff.1 ho).1
  rw [getD_both h0] at this
  cases this

section
variable {init : List Oper} {last : Oper}
theorem last_at (hsplit : ops.toList = init ++ [last]) : ops[init.length]? = some last ∧ ops.size = init.length + 1 ∧ ∀ (k : Nat) (o : Oper), init[k]? = some o → ops[k]? = some o := by
  have e : ops = (init ++ [last]).toArray := by rw [← hsplit]
  subst e
  refine ⟨by simp, by simp, fun k o hk => ?_⟩
  have hlt := (List.getElem?_eq_some_iff.1 hk).1
  simp [List.getElem?_append_left hlt, hk]
theorem last_op (hsplit : ops.toList = init ++ [last]) (hg : last.guard = none) (hl : init.length ≤ V.length) {K : Act → World → Prop} {listed : Array Bool} {a : Act} {w : World}
    (hE : ∀ w, T w0 w → relyEnd (fun _ a w => last.wp P a w (fun a' w' => Q .normal a' w') Q) T init V a0 w)
    (inv : RelyInv ops T V a0 w0 listed a w) (hdone : ∀ j, j < init.length → listed.getD j false = true) (hun : listed.getD init.length true = false) (hK : ∀ a' w', Q .normal a' w' → K a' w') : wpOp P ops Q init.length K a w := by
  obtain ⟨hlo, hsz, hpre⟩ := last_at hsplit
  have h1 : last.wp P a w (fun a' w' => Q .normal a' w') Q := rely_all (Q' := fun a w => last.wp P a w (fun a' w' => Q .normal a' w') Q) inv
    (fun k o hk => ⟨hpre k o hk, hdone k (List.getElem?_eq_some_iff.1 hk).1⟩) (fun j hj => by
      rcases Nat.lt_or_ge j init.length with h | h
      · exact h
      · rcases Nat.eq_or_lt_of_le h with h | h
        · subst h; rw [getD_both hun] at hj; cases hj
        · have : listed.getD j false = false := by simp [Array.getElem?_eq_none (show listed.size ≤ j by rw [inv.size]; omega)]
          rw [this] at hj; cases hj) hl (hE w inv.now)
  unfold wpOp
  simp only [hlo, Region.wanted, hg, if_true]
  exact .inl (Oper.wp_mono hK h1)

/-- **A region that draws its order, in the text's own order; the last operation waits for all others, and may do what it likes.** -/
theorem wpAny_rely (hsplit : ops.toList = init ++ [last]) (hn : a0.tmps.size = n) (hB : relyB ops n 0 init D = true) (hlast : lastB ops last init.length = true) (hg : last.guard = none) (ht : ∀ a b c : World, T a b → T b c → T a c)
    (hl : init.length ≤ V.length) (hA : relyAll P Q T V a0 w0 init D V) (hE : ∀ w, T w0 w → relyEnd (fun _ a w => last.wp P a w (fun a' w' => Q .normal a' w') Q) T init V a0 w) :
    ∀ (fuel : Nat) (listed : Array Bool) (a : Act) (w : World), (unl ops listed).length = fuel → listed.getD init.length true = false → RelyInv ops T V a0 w0 listed a w → wpAny P .any ops Q fuel listed a w := by
  obtain ⟨hlo, hsz, hpre⟩ := last_at hsplit
  simp only [lastB, Bool.and_eq_true] at hlast
  have hat : ∀ i o, init[i]? = some o → ∃ dp g, relyOne ops n i o dp g = true ∧ relyStep P Q T V a0 w0 o dp g (V.getD i SV.any) := fun i o hi => by
    obtain ⟨dp, g, hD, h1⟩ := relyB_at init D 0 i o hB hi
    rw [Nat.zero_add] at h1
    exact ⟨dp, g, h1, relyAll_at _ _ _ i o dp g hA hi hD⟩
  intro fuel
  induction fuel with
  | zero =>
    intro listed a w hu hun inv
    have : init.length ∈ unl ops listed := by
      unfold unl; rw [List.mem_filter]; exact ⟨List.mem_range.2 (by omega), by rw [hun]; rfl⟩
    rw [List.eq_nil_of_length_eq_zero hu] at this
    cases this
  | succ fuel ih =>
    intro listed a w hu hun inv
    refine ⟨fun hr => ?_, fun i hi => ?_⟩
    · exfalso
      have all : ∀ i, i < init.length → listed.getD i false = true := fun i => by
        induction i using Nat.strongRecOn with
        | _ i ih =>
          intro hi
          cases hli : listed.getD i false with
          | true => rfl
          | false =>
            exfalso
            have hmem : i ∈ Region.ready .any ops listed := by
              rw [mem_ready]
              refine ⟨getD_in (by rw [inv.size]; omega) hli, init[i], hpre i _ (List.getElem?_eq_getElem hi), fun e he hb => ?_⟩
              obtain ⟨dp, g, h1, _⟩ := hat i init[i] (List.getElem?_eq_getElem hi)
              simp only [relyOne, Bool.and_eq_true] at h1
              have h2 := (Array.all_eq_true_iff_forall_mem.1 h1.1.1.2) e he
              simp only [hb, Bool.not_true, Bool.false_or, decide_eq_true_eq] at h2
              exact ih e.on h2 (by omega)
            rw [hr] at hmem
            cases hmem
      have hmem : init.length ∈ Region.ready .any ops listed := by
        rw [mem_ready]
        refine ⟨hun, last, hlo, fun e he hb => ?_⟩
        have h2 := (Array.all_eq_true_iff_forall_mem.1 hlast.2) e he
        simp only [hb, Bool.not_true, Bool.false_or, decide_eq_true_eq] at h2
        exact all e.on h2
      rw [hr] at hmem
      cases hmem
    · obtain ⟨h0, o, ho, hall⟩ := mem_ready.1 hi
      have hilt := (Array.getElem?_eq_some_iff.1 ho).1
      by_cases him : i = init.length
      · subst him
        have hol : o = last := Option.some.inj (ho.symm.trans hlo)
        subst hol
        have hdone : ∀ (d j : Nat), init.length - j = d → j < init.length → listed.getD j false = true := fun d => by
          induction d using Nat.strongRecOn with
          | _ d ihd =>
            intro j hd hj
            have h1 := List.all_eq_true.1 hlast.1 j (List.mem_range.2 hj)
            obtain ⟨t, ht1, ht2⟩ := List.any_eq_true.1 h1
            simp only [Bool.and_eq_true, decide_eq_true_eq] at ht2
            obtain ⟨ot, hot, e, he, hb, hon⟩ := Region.waitsFor_spec ht2.2
            have htle : t ≤ init.length := by have := List.mem_range.1 ht1; omega
            rw [← hon]
            by_cases htm : t = init.length
            · subst htm
              have : ot = o := Option.some.inj (hot.symm.trans ho)
              subst this
              exact hall e he hb
            · exact inv.closed t ot hot (ihd (init.length - t) (by omega) t rfl (by omega)) e he hb
        replace hdone : ∀ j, j < init.length → listed.getD j false = true := fun j hj => hdone _ j rfl hj
        refine last_op hsplit hg hl hE inv hdone hun fun a' w' h => wpAny_done (ready_none fun j hj => ?_) h _
        by_cases hj2 : j = init.length
        · subst hj2; simp [show init.length < listed.size by rw [inv.size]; exact hj]
        · exact getD_set_true (hdone j (by omega))
      · have hi' : i < init.length := by omega
        have hio : init[i]? = some o := by
          have := hpre i init[i] (List.getElem?_eq_getElem hi')
          rw [ho] at this
          rw [List.getElem?_eq_getElem hi', Option.some.inj this]
        obtain ⟨dp, g, h1, hstep⟩ := hat i o hio
        refine wpOp_mono (fun a' w' inv' => ih _ a' w' (by have := unl_set inv.size h0; omega) (by rw [getD_set_ne true him]; exact hun) inv') (rely_op hn ht ho h1 hstep h0 hall inv)

end
section
variable {last : Oper}
theorem split_last (h : ops.toList.getLast? = some last) : ops.toList = ops.toList.dropLast ++ [last] := by
  have hne : ops.toList ≠ [] := fun e => by rw [e] at h; cases h
  rw [List.getLast?_eq_some_getLast hne] at h
  rw [← Option.some.inj h, List.dropLast_concat_getLast hne]
/-- **A region that draws its order.** -/
theorem wp_region_rely {id : Nat} (T : World → World → Prop) (V : List (SV T)) (D : Deps) (n : Nat) (hla : ops.toList.getLast? = some last) (hm : P.follows .mixedOrders = true) (hn : a0.tmps.size = n) (hB : relyB ops n 0 ops.toList.dropLast D = true)
    (hlast : lastB ops last ops.toList.dropLast.length = true) (hg : last.guard = none) (ht : ∀ a b c : World, T a b → T b c → T a c) (hd : T w0 w0.drew) (hl : ops.toList.dropLast.length ≤ V.length)
    (hA : relyAll P Q T V a0 w0 ops.toList.dropLast D V) (hE : ∀ w, T w0 w → relyEnd (fun _ a w => last.wp P a w (fun a' w' => Q .normal a' w') Q) T ops.toList.dropLast V a0 w) : (Code.region id ops true).wp P Q a0 w0 := by
  have hsplit := split_last hla
  obtain ⟨_, hsz, _⟩ := last_at hsplit
  refine wp_region_any hm ?_
  exact wpAny_rely hsplit hn hB hlast hg ht hl hA hE ops.size _ a0 w0.drew unl_start (by
    have hlt : ops.toList.dropLast.length < ops.size := by omega
    generalize ops.toList.dropLast.length = m at hlt
    simp [hlt]) (rely_start hd)
end
end
end Go.Proofs.YtphbjamfhmcjcaaDoor
/- Own words for numbers of 32 bits and bytes, and how the walk's arithmetic reads on them. No program is named here. -/
namespace Go.Proofs.YtphbjamfhmcjcaaDoor
open Go.RowKit
set_option maxRecDepth 8000
set_option linter.all false

/-- A number of 32 bits, as the model has it. -/
def uN (x : BitVec 32) : Int := x.toNat
/-- A byte, as the model has it. -/
def bN (b : UInt8) : Int := b.toNat

theorem uN_lt (x : BitVec 32) : 0 ≤ uN x ∧ uN x < 4294967296 := by unfold uN; omega
theorem bN_lt (x : UInt8) : 0 ≤ bN x ∧ bN x < 256 := by unfold bN; have := x.toNat_lt; omega

theorem wrap_u32 (n : Int) : IntKind.u32.wrap n = n % 4294967296 := by simp [IntKind.wrap, IntKind.bits, IntKind.signed]
theorem wrap_u8 (n : Int) : IntKind.u8.wrap n = n % 256 := by simp [IntKind.wrap, IntKind.bits, IntKind.signed]
theorem ofInt_uN (x : BitVec 32) : BitVec.ofInt 32 (uN x) = x := by unfold uN; simp
theorem wrap_uN (x : BitVec 32) : IntKind.u32.wrap (uN x) = uN x := by rw [wrap_u32]; have := uN_lt x; omega
theorem u32_add (x y : BitVec 32) : IntKind.u32.wrap (uN x + uN y) = uN (x + y) := by
  rw [wrap_u32]; unfold uN; rw [BitVec.toNat_add]; omega
theorem u32_xor (x y : BitVec 32) : bits .xor .u32 (uN x) (uN y) = uN (x ^^^ y) := by
  show IntKind.u32.wrap (uN (BitVec.ofInt 32 (uN x) ^^^ BitVec.ofInt 32 (uN y))) = _
  rw [ofInt_uN, ofInt_uN, wrap_uN]
theorem u32_and (x y : BitVec 32) : bits .and .u32 (uN x) (uN y) = uN (x &&& y) := by
  show IntKind.u32.wrap (uN (BitVec.ofInt 32 (uN x) &&& BitVec.ofInt 32 (uN y))) = _
  rw [ofInt_uN, ofInt_uN, wrap_uN]
theorem u32_or (x y : BitVec 32) : bits .or .u32 (uN x) (uN y) = uN (x ||| y) := by
  show IntKind.u32.wrap (uN (BitVec.ofInt 32 (uN x) ||| BitVec.ofInt 32 (uN y))) = _
  rw [ofInt_uN, ofInt_uN, wrap_uN]
theorem u32_not (x : BitVec 32) : bits .xor .u32 IntKind.u32.max (uN x) = uN (~~~x) := by
  show IntKind.u32.wrap (uN (BitVec.ofInt 32 IntKind.u32.max ^^^ BitVec.ofInt 32 (uN x))) = _
  rw [ofInt_uN, wrap_uN, show BitVec.ofInt 32 IntKind.u32.max = BitVec.allOnes 32 by decide, BitVec.allOnes_xor]
theorem signed_u32 : IntKind.u32.signed = false := rfl
theorem u32_shr (x : BitVec 32) (n : Nat) : uN x / (2 : Int) ^ n = uN (x >>> n) := by
  unfold uN; rw [BitVec.toNat_ushiftRight, Nat.shiftRight_eq_div_pow]; simp
theorem u32_shl (x : BitVec 32) (n : Nat) : IntKind.u32.wrap (uN x * (2 : Int) ^ n) = uN (x <<< n) := by
  rw [wrap_u32]; unfold uN; rw [BitVec.toNat_shiftLeft, Nat.shiftLeft_eq]; simp
theorem u32_div8 (x : BitVec 32) : uN x / (8 : Int) = uN (x >>> 3) := u32_shr x 3
theorem u32_div1024 (x : BitVec 32) : uN x / (1024 : Int) = uN (x >>> 10) := u32_shr x 10
theorem u32_mul256 (x : BitVec 32) : IntKind.u32.wrap (uN x * (256 : Int)) = uN (x <<< 8) := u32_shl x 8
theorem bN_u32 (b : UInt8) : IntKind.u32.wrap (bN b) = uN (b.toBitVec.setWidth 32) := by
  have h := bN_lt b
  rw [wrap_u32]; unfold uN bN at *; rw [BitVec.toNat_setWidth]
  show (b.toNat : Int) % 4294967296 = ((b.toNat % 2 ^ 32 : Nat) : Int)
  omega
theorem u32_u8 (x : BitVec 32) : IntKind.u8.wrap (uN x) = bN (UInt8.ofBitVec (x.setWidth 8)) := by
  rw [wrap_u8]; unfold uN bN
  show _ = (((x.setWidth 8).toNat : Nat) : Int)
  rw [BitVec.toNat_setWidth]; omega
theorem uN_rotr (x : BitVec 32) (n : Nat) (h1 : n < 32) : bits .or .u32 (uN (x <<< (32 - n))) (uN (x >>> n)) = uN (x.rotateRight n) := by
  rw [u32_or, BitVec.rotateRight_def, Nat.mod_eq_of_lt h1, BitVec.or_comm]
end Go.Proofs.YtphbjamfhmcjcaaDoor
/- Own words for rows of cells: an array by value as a function of its places; whole arrays read, written and handed back. No program is named here. -/
namespace Go.Proofs.YtphbjamfhmcjcaaDoor
open Go.RowKit
set_option maxRecDepth 8000
set_option linter.all false

/-- The cells of an array by value: n places, place i holds f i. -/
def rowA (n : Nat) (f : Nat → Value) : Array Value := ((List.range n).map f).toArray
theorem rowA_size (n : Nat) (f : Nat → Value) : (rowA n f).size = n := by simp [rowA]
theorem rowA_toList (n : Nat) (f : Nat → Value) : (rowA n f).toList = (List.range n).map f := by simp [rowA]
theorem rowA_at (n : Nat) (f : Nat → Value) (i : Nat) (h : i < n) : (rowA n f)[i]? = some (f i) := by simp [rowA, h]
theorem rowA_congr {n : Nat} {f g : Nat → Value} (h : ∀ i, i < n → f i = g i) : rowA n f = rowA n g := by
  unfold rowA; congr 1; exact List.map_congr_left fun i hi => h i (by simpa using hi)
theorem rowA_one (n : Nat) (f : Nat → Value) (h : ∀ i, (f i).oneCell' = true) : (rowA n f).all (·.oneCell') = true :=
  all_oneCell_toArray (fun v hv => by obtain ⟨i, _, rfl⟩ := List.mem_map.1 hv; exact h i)

section
variable {P : Program} {w w' : World} {b : Nat} {t : TypeId} {n : Nat} {f g : Nat → Value}

theorem rowIs_box (w : World) (t : TypeId) (n : Nat) (f : Nat → Value) : (w.alloc (.cells (rowA n f) t)).rowIs w.heap.size t n f := by
  have := World.rowIs_alloc w (rowA n f) t f (fun i hi => rowA_at n f i (by rwa [rowA_size] at hi))
  rwa [rowA_size] at this
theorem rowIs_below {B : Nat} (h : w.rowIs b t n f) (hb : Below B w w') (hlt : b < B) : w'.rowIs b t n f := h.of_block (hb.block b hlt)
theorem rangeAt_row (h : w.rowIs b t n f) : w.rangeAt b 0 (rowA n f).toList := fun j v hv => by
  rw [rowA_toList, List.getElem?_map] at hv
  cases hj : (List.range n)[j]? with
  | none => rw [hj] at hv; simp at hv
  | some k =>
    rw [hj] at hv
    obtain ⟨hlt, hk⟩ := List.getElem?_eq_some_iff.1 hj
    simp at hlt hk
    subst hk
    simp at hv
    subst hv
    simpa using h.cell hlt
theorem there_row (h : w.rowIs b t n f) : w.there b 0 n := fun j hj => ⟨by simp [h.cell (i := j) hj], by simpa using h.frozen j⟩
theorem below_setCells {B : Nat} {a : World} (b : Nat) (hb : B ≤ b) : ∀ (vs : List Value) (o : Nat) (w : World), Below B a w → Below B a (w.setCells b o vs)
  | [], _, _, h => h
  | v :: r, o, w, h => by
    rw [World.setCells]
    exact below_setCells b hb r (o + 1) _ (h.setCell (p := ⟨b, o, none⟩) hb v)
theorem rowIs_setCells_at (h : w.rowIs b t n f) : ∀ (vs : List Value) (o : Nat), (w.setCells b o vs).rowIs b t n (fun i => if o ≤ i ∧ i < o + vs.length then vs.getD (i - o) undef else f i) := by
  intro vs
  induction vs generalizing w f with
  | nil => intro o; exact h.congr fun i _ => by rw [if_neg (by simp only [List.length_nil]; omega)]
  | cons v r ih =>
    intro o
    rw [World.setCells]
    refine (ih (h.set o v) (o + 1)).congr fun i hi => ?_
    by_cases e : i = o
    · subst e; rw [if_neg (by omega), if_pos rfl, if_pos (by simp only [List.length_cons]; omega)]; simp
    · by_cases h2 : o + 1 ≤ i ∧ i < o + 1 + r.length
      · rw [if_pos h2, if_pos (by simp only [List.length_cons]; omega), show i - o = (i - (o + 1)) + 1 by omega]; simp
      · rw [if_neg h2, if_neg e, if_neg (by simp only [List.length_cons]; omega)]
theorem rowIs_setAll (h : w.rowIs b t n f) (g : Nat → Value) : (w.setCells b 0 (rowA n g).toList).rowIs b t n g :=
  (rowIs_setCells_at h (rowA n g).toList 0).congr fun i hi => by
    have hl : (rowA n g).toList.length = n := by rw [rowA_toList]; simp
    rw [if_pos ⟨Nat.zero_le _, by omega⟩, rowA_toList]; simp [hi]
theorem rowIs_setOther (h : w.rowIs b t n f) {b' : Nat} (hne : b ≠ b') : ∀ (vs : List Value) (o : Nat), (w.setCells b' o vs).rowIs b t n f := by
  intro vs
  induction vs generalizing w with
  | nil => intro o; exact h
  | cons v r ih => intro o; rw [World.setCells]; exact ih (h.setOther (a := ⟨b', o, none⟩) hne v) (o + 1)
theorem load_row {e : TypeId} {m : Nat} (h : w.rowIs b t n f) {ty : TypeId} (hu : P.underlying ty = some (.array m e)) (hi : (P.info? ty).map (·.size) = some n) :
    (loadVar ty ⟨b, 0, none⟩).run P w = .ok (.agg (rowA n f)) w := by
  have := run_loadVar_mid (P := P) w b 0 ty (rowA n f).toList _ (rangeAt_row h) hu rfl (by rw [hi, rowA_toList]; simp)
  simpa using this
/-- An element of an array by value. -/
theorem index_row (t e : TypeId) (d : TypeDesc) (hu : P.underlying t = some (.array n e)) (he : P.underlying e = some d) (hd : d.isRow = false) (hs : (P.info? e).map (·.size) = some 1) (f : Nat → Value) (kd : IntKind) (k : Nat) (hk : k < n) (w : World) :
    (Instr.index t (.agg (rowA n f)) (.int kd (k : Int))).run P w = .ok (f k) w := by
  have hsz : (sizeOf e).run P w = .ok 1 w := by
    cases hq : P.info? e with
    | none => simp [hq] at hs
    | some i => simp [hq] at hs; simp [sizeOf, typeInfo, hq, hs]
  have hagg : (isAgg e).run P w = .ok false w := by
    unfold isAgg
    rw [Sem.run_bind, run_underlying he w]
    cases d <;> simp_all
  have hat := rowA_at n f k hk
  simp [Instr.index, asIntOf, run_underlying hu, hsz, hk, part, hagg, hat]
/-- 's[m:]', the address as the model has it. -/
theorem slice_from (t e : TypeId) (hu : P.underlying t = some (.slice e)) (hs : (P.info? e).map (·.size) = some 1) (a : Addr) (n cap m : Nat) (hm : m ≤ n) (w : World) :
    (Instr.slice t (.slice (some a) n cap) (some (.int .i64 (m : Int))) none none).run P w = .ok (.slice (some (if cap = m then a else a.add m)) (n - m) (cap - m)) w := by
  have hsz : (sizeOf e).run P w = .ok 1 w := by
    cases hq : P.info? e with
    | none => simp [hq] at hs
    | some i => simp [hq] at hs; simp [sizeOf, typeInfo, hq, hs]
  by_cases h : cap = m
  · simp [Instr.slice, run_underlying hu, Instr.sliceBounds, Instr.sliceBound, asIntOf, hm, hsz, h]
  · simp [Instr.slice, run_underlying hu, Instr.sliceBounds, Instr.sliceBound, asIntOf, hm, hsz, h]
/-- An array that a call hands back. -/
theorem results_row {e : TypeId} {m : Nat} {fn : Func} {p : Tmp} {ty : TypeId} (hf : fn.results = #[.cell p ty]) (tmps : Array Value) (hp : tmps.getD p undef = .pointer (some ⟨b, 0, none⟩))
    (h : w.rowIs b t n f) (hu : P.underlying ty = some (.array m e)) (hi : (P.info? ty).map (·.size) = some n) : (results fn tmps).run P w = .ok (.agg (rowA n f)) w := by
  have := load_row (P := P) h hu hi
  have hp' : tmps[p]?.getD undef = .pointer (some ⟨b, 0, none⟩) := by simpa using hp
  simp [results, hf, hp', asAddr, this]
end
end Go.Proofs.YtphbjamfhmcjcaaDoor
/- A law of our own for a range over a function, at the wide fence: the iterator tells its rounds something of what it hands on (what a slice reads as), and keeps memory of its own; the caller's invariant abides whatever turns from the loop's beginning on. No program is named here. -/
namespace Go.Proofs.YtphbjamfhmcjcaaDoor
open Go.RowKit
set_option maxRecDepth 8000
set_option linter.all false

/-- Cells outside the blocks of L lie as they lay. -/
def KeepBut (L : List Nat) (W W' : World) : Prop :=
  W.heap.size ≤ W'.heap.size ∧ ∀ (k : Nat) (o : Obj), k ∉ L → W.heap[k]? = some o → o.isCells = true → W'.heap[k]? = some o
theorem KeepBut.refl (L : List Nat) (W : World) : KeepBut L W W := ⟨Nat.le_refl _, fun _ _ _ h _ => h⟩
theorem KeepBut.trans {L : List Nat} {A B C : World} (h : KeepBut L A B) (k : KeepBut L B C) : KeepBut L A C :=
  ⟨Nat.le_trans h.1 k.1, fun i o hi ho hc => k.2 i o hi (h.2 i o hi ho hc) hc⟩
theorem KeepBut.more {L L' : List Nat} {A B : World} (h : KeepBut L A B) (hL : ∀ k, k ∈ L → k ∈ L') : KeepBut L' A B :=
  ⟨h.1, fun i o hi ho hc => h.2 i o (fun hm => hi (hL i hm)) ho hc⟩
theorem KeepBut.putObj {L : List Nat} {W : World} {l : Nat} {o o' : Obj} (h : W.heap[l]? = some o) (hc : o.isCells = false) : KeepBut L W (W.putObj l o') :=
  ⟨by simp, fun k ok _ hk hck => by
    by_cases e : k = l
    · subst e; rw [h] at hk; cases hk; rw [hc] at hck; cases hck
    · exact (World.putObj_heap_other e).trans hk⟩
theorem KeepBut.below {L : List Nat} {W W' : World} (h : Below W.heap.size W W') : KeepBut L W W' :=
  ⟨h.size, fun k _ _ hk _ => (h.block k (Array.getElem?_eq_some_iff.1 hk).1).trans hk⟩
theorem KeepBut.drew {L : List Nat} (W : World) : KeepBut L W W.drew := ⟨Nat.le_refl _, fun _ _ _ h _ => h⟩
theorem KeepBut.alloc {L : List Nat} (W : World) (o : Obj) : KeepBut L W (W.alloc o) := KeepBut.below ((Below.refl _ W).alloc (Nat.le_refl _) o)
theorem KeepBut.setCell {L : List Nat} {W : World} {a : Addr} (ha : a.block ∈ L) (v : Value) : KeepBut L W (W.setCell a v) :=
  ⟨by simp, fun k _ hk h _ => (Below.heap_setCell W a v k (fun e => hk (e ▸ ha))).trans h⟩
theorem KeepBut.setCells {L : List Nat} {b : Nat} (hb : b ∈ L) : ∀ (vs : List Value) (o : Nat) (W : World), KeepBut L W (W.setCells b o vs)
  | [], _, W => KeepBut.refl L W
  | v :: r, o, W => by
    rw [World.setCells]
    exact (KeepBut.setCell (a := ⟨b, o, none⟩) hb v).trans (KeepBut.setCells hb r (o + 1) _)
theorem KeepBut.cell {L : List Nat} {W W' : World} (h : KeepBut L W W') {a : Addr} {v : Value} (ha : a.block ∉ L) (hc : W.cell? a = some v) : W'.cell? a = some v := by
  obtain ⟨o, ho, hic⟩ : ∃ o, W.heap[a.block]? = some o ∧ o.isCells = true := by
    unfold World.cell? at hc
    cases ho : W.heap[a.block]? with
    | none => simp [ho] at hc
    | some o => exact ⟨o, rfl, by cases o <;> simp_all [Obj.isCells]⟩
  rw [World.cell?_of_block ((h.2 _ o ha ho hic).trans ho.symm)]; exact hc
theorem KeepBut.row {L : List Nat} {W W' : World} (h : KeepBut L W W') {b n : Nat} {t : TypeId} {f : Nat → Value} (hb : b ∉ L) (hr : W.rowIs b t n f) : W'.rowIs b t n f := by
  obtain ⟨c, hc, hs, hf⟩ := hr
  exact ⟨c, h.2 _ _ hb hc rfl, hs, hf⟩

/-- A step after which all that is no cells lies as it lay, by 'Below' at the heap's end. -/
theorem keepsOthers_below {W W' : World} (h : Below W.heap.size W W') : KeepsOthers W W' :=
  ⟨h.size, fun k _ hk _ => (h.block k (Array.getElem?_eq_some_iff.1 hk).1).trans hk⟩
theorem keepsOthers_setCells (b : Nat) : ∀ (vs : List Value) (o : Nat) (W : World), KeepsOthers W (W.setCells b o vs)
  | [], _, W => KeepsOthers.refl W
  | v :: r, o, W => by
    rw [World.setCells]
    exact (KeepsOthers.setCell W _ v).trans (keepsOthers_setCells b r (o + 1) _)

theorem below_putObj {B : Nat} {W : World} {l : Nat} (hl : B ≤ l) (o : Obj) : Below B W (W.putObj l o) := ⟨rfl, rfl, rfl, by simp, fun k hk => World.putObj_heap_other (by omega)⟩
theorem keepsFrom_low {B : Nat} {W : World} {l : Nat} (o : Obj) (hl : l < B) : KeepsFrom B W (W.putObj l o) :=
  ⟨by simp, fun k o' hk h _ => (World.putObj_heap_other (by omega)).trans h⟩
theorem keepsFrom_mono {B B' : Nat} {W W' : World} (h : KeepsFrom B W W') (hB : B ≤ B') : KeepsFrom B' W W' := ⟨h.size, fun k o hk => h.same k o (Nat.le_trans hB hk)⟩
/-- What an iterator promises, at the wide fence. 'G pre x W': what it tells of x, that it hands on behind pre, in the world W of that call of yield. 'Kp W W'': what a round that goes on keeps. -/
def SeqG {α : Type} (P : Program) (g : Nat) (lb : Array Value) (encs : α → Array Value) (Kp : World → World → Prop) (G : List α → α → World → Prop) (S Sp : List α → Prop) (w : World) : Prop :=
  ∀ (l : Nat) (J Jx : List α → World → Prop) (W : World), Below w.heap.size w W →
    (∀ pre A B, J pre A → Below W.heap.size A B → J pre B) → (∀ pre A B, Jx pre A → Below W.heap.size A B → Jx pre B) →
    (∀ pre x W1, J pre W1 → G pre x W1 → YieldAt Fence.wide 0 P l (encs x) W1 fun e W' =>
      (e = .returned (.bool true) ∧ J (pre ++ [x]) W' ∧ Kp W1 W' ∧ KeepsFrom W.heap.size W1 W') ∨ (e = .returned (.bool false) ∧ Jx (pre ++ [x]) W' ∧ KeepsFrom W.heap.size W1 W')) →
    J [] W →
    CallsIn Fence.wide 0 P g (#[.func (.yield l) #[] #[]] ++ lb) W fun e W' => (∃ v, e = .returned v) ∧ ((∃ xs, S xs ∧ J xs W') ∨ (∃ pre, Sp pre ∧ Jx pre W'))

/-- **The statement 'for x := range g { .. }' by an iterator's promise.** -/
theorem range_law {P : Program} {α : Type} {g : Operand} {ps : Array Tmp} {assign body : Code} {Q : Exit → Act → World → Prop} {a : Act} {w : World} {n : Nat}
    {gf : Nat} {lb : Array Value} (hg : a.eval g = .func (.func gf) #[] lb) (eg : ∀ args w, (callFunc gf args).run P w = .ok (.enter gf args) w)
    {encs : α → Array Value} {Kp : World → World → Prop} {G : List α → α → World → Prop} {S Sp : List α → Prop} {w0 : World} (hseq : SeqG P gf lb encs Kp G S Sp w0) (hb0 : Below w0.heap.size w0 w)
    (hKt : ∀ {A B C : World}, Kp A B → Kp B C → Kp A C) (hKb : ∀ (W : World) (l : Nat) (o o' : Obj), w.heap.size ≤ l → W.heap[l]? = some o → o.isCells = false → Kp W (W.putObj l o'))
    (hGb : ∀ (pre : List α) (x : α) (W : World) (l : Nat) (o o' : Obj), w.heap.size ≤ l → W.heap[l]? = some o → o.isCells = false → G pre x W → G pre x (W.putObj l o'))
    (hps : ∀ x, (encs x).size = ps.size)
    (I : List α → World → Prop) (Ix : Code → List α → World → Prop) (hI : ∀ pre A B, I pre A → Below w.heap.size A B → I pre B) (hIx : ∀ c pre A B, Ix c pre A → Below w.heap.size A B → Ix c pre B) (h0 : I [] w) (a₁ : α → Act)
    (hassign : ∀ (l : Nat) (x : α) (W : World) (K : Act → World → Prop), K (a₁ x) W →
      assign.wpIn (Fence.wide.inRound l) 0 P (Exit.then K (fun _ _ _ => False)) { tmps := (ps.zip (encs x)).foldl (fun t (p, v) => t.setIfInBounds p v) a.tmps, defers := [] } W)
    (hbody : ∀ (l : Nat) (pre : List α) (x : α) (W : World), w.heap.size ≤ l → I pre W → G pre x W → body.wpIn (Fence.wide.inRound l) 0 P (ownPostG w.heap.size Kp I Ix (pre ++ [x]) W) (a₁ x) W)
    (hdone : ∀ (D : Nat) (xs : List α) (W : World), w.heap.size ≤ D → S xs → I xs W → W.heap[D]? = some (.deferred (some [])) → Q .normal { a with defers := { target := .collected D, args := #[] } :: a.defers } W)
    (hstop : ∀ (D : Nat) (c : Code) (pre : List α) (W : World), w.heap.size ≤ D → Sp pre → Ix c pre W → W.heap[D]? = some (.deferred (some [])) → c.wpIn Fence.wide n P Q { a with defers := { target := .collected D, args := #[] } :: a.defers } W) :
    (Code.rangeFunc g ps assign body).wpIn Fence.wide n P Q a w := by
  refine wpIn_rangeFunc ?_
  intro fn hfn
  obtain ⟨rec, hrec⟩ : ∃ rec : LoopState → Option Code → Loop, rec = fun st pe => { state := st, pending := pe, fn, tmps := a.tmps, params := ps, assign, body, defers := w.heap.size } := ⟨_, rfl⟩
  obtain ⟨W1, hW1⟩ : ∃ W1, (w.alloc (.deferred (some []))).alloc (.loop (rec .ready none)) = W1 := ⟨_, rfl⟩
  have hsz : W1.heap.size = w.heap.size + 2 := by rw [← hW1]; simp
  have hL1 : W1.heap[w.heap.size + 1]? = some (.loop (rec .ready none)) := by
    rw [← hW1]; have := World.alloc_heap_new (w.alloc (.deferred (some []))) (.loop (rec .ready none)); rwa [World.size_alloc] at this
  have hK1 : W1.heap[w.heap.size]? = some (.deferred (some [])) := by
    rw [← hW1]; exact (Below.heap_alloc _ _ _ (by simp)).trans (World.alloc_heap_new w _)
  have hbw : Below w.heap.size w W1 := by rw [← hW1]; exact ((Below.refl _ w).alloc (Nat.le_refl _) _).alloc (by simp) _
  have put : ∀ (W : World) (l : Nat) (o o' : Obj), w.heap.size ≤ l → W.heap[l]? = some o → Below w.heap.size W (W.putObj l o') := fun W l o o' hl h =>
    ⟨rfl, rfl, rfl, by simp, fun k hk => World.putObj_heap_other (by omega)⟩
  refine ⟨w.heap.size + 1, [{ target := .collected w.heap.size, args := #[] }], W1, { target := .fn (.func gf) lb, args := #[.func (.yield (w.heap.size + 1)) #[] #[]] }, W1, gf,
    #[.func (.yield (w.heap.size + 1)) #[] #[]] ++ lb, W1, ?_, ?_, fun _ _ => trivial, ?_, fun h => by simp [Fence.wide] at h, ?_⟩
  · rw [← hW1, hrec]; exact run_enterLoop_outer _ _ _ _ _
  · simp only [resolve, hg]
    simp [go_sem]
  · simp [invoke, go_sem, eg]
  · have hcall := hseq (w.heap.size + 1)
      (fun pre W => I pre W ∧ W.heap[w.heap.size + 1]? = some (.loop (rec .ready none)) ∧ W.heap[w.heap.size]? = some (.deferred (some [])))
      (fun pre W => ∃ c, Ix c pre W ∧ W.heap[w.heap.size + 1]? = some (.loop (rec .done (some c))) ∧ W.heap[w.heap.size]? = some (.deferred (some [])))
      W1 (hb0.trans (hbw.mono hb0.size))
      (fun pre A B hs hB => ⟨hI pre A B hs.1 (hB.mono (by omega)), (hB.block _ (by omega)).trans hs.2.1, (hB.block _ (by omega)).trans hs.2.2⟩)
      (fun pre A B hs hB => by
        obtain ⟨c, hc, hl, hk⟩ := hs
        exact ⟨c, hIx c pre A B hc (hB.mono (by omega)), (hB.block _ (by omega)).trans hl, (hB.block _ (by omega)).trans hk⟩)
      ?_ ⟨hI _ _ _ h0 hbw, hL1, hK1⟩
    · have hcall' : CallsIn Fence.wide (n - 1) P gf (#[.func (.yield (w.heap.size + 1)) #[] #[]] ++ lb) W1 _ := callsIn_wide.2 (callsIn_wide.1 hcall)
      refine hcall'.mono ?_
      rintro e W2 ⟨⟨v, rfl⟩, (⟨xs, hS, hi, hl, hk⟩ | ⟨pre, hSp, c, hi, hl, hk⟩)⟩
      · exact ⟨none, _, by have := run_endLoop (P := P) hl (by rw [hrec]; simp); rw [hrec] at this; exact this, hdone _ xs _ (Nat.le_refl _) hS (hI _ _ _ hi (put _ _ _ _ (by omega) hl)) ((World.putObj_heap_other (by omega)).trans hk)⟩
      · exact ⟨some c, _, by have := run_endLoop (P := P) hl (by rw [hrec]; simp); rw [hrec] at this; exact this, hstop _ c pre _ (Nat.le_refl _) hSp (hIx _ _ _ _ hi (put _ _ _ _ (by omega) hl)) ((World.putObj_heap_other (by omega)).trans hk)⟩
    · rintro pre x W ⟨hi, hl, hk⟩ hG
      have hlt : w.heap.size + 1 < W.heap.size := (Array.getElem?_eq_some_iff.1 hl).1
      have hy := run_yield (P := P) (args := encs x) hl (by rw [hrec]; exact hps x)
      rw [hrec] at hy
      refine ⟨fn, _, assign, body, hy, roundIn_of_wpIn hfn (hassign _ x W _ ?_)⟩
      clear hy
      refine ⟨_, run_beginRound hl (by rw [hrec]), ?_⟩
      have hl2 : (W.putObj (w.heap.size + 1) (.loop { rec .ready none with state := .busy })).heap[w.heap.size + 1]? = some (.loop { rec .ready none with state := .busy }) := World.putObj_heap_same hlt
      have hk2 : (W.putObj (w.heap.size + 1) (.loop { rec .ready none with state := .busy })).heap[w.heap.size]? = some (.deferred (some [])) := (World.putObj_heap_other (by omega)).trans hk
      have hw2 : Kp W (W.putObj (w.heap.size + 1) (.loop { rec .ready none with state := .busy })) := hKb _ _ _ _ (by omega) hl rfl
      refine wpIn_mono (hbody _ pre x _ (by omega) (hI _ _ _ hi (put _ _ _ _ (by omega) hl)) (hGb _ _ _ _ _ _ (by omega) hl rfl hG)) ?_
      have fin : ∀ (jump : Option Code) (W3 : World), KeepsFrom w.heap.size (W.putObj (w.heap.size + 1) (.loop { rec .ready none with state := .busy })) W3 →
          (Instr.endRound (w.heap.size + 1) jump).run P W3 = .ok (.bool jump.isNone) (W3.putObj (w.heap.size + 1) (.loop (rec (if jump.isNone then .ready else .done) jump))) ∧
          W3.heap[w.heap.size + 1]? = some (.loop { rec .ready none with state := .busy }) ∧
          (W3.putObj (w.heap.size + 1) (.loop (rec (if jump.isNone then .ready else .done) jump))).heap[w.heap.size + 1]? = some (.loop (rec (if jump.isNone then .ready else .done) jump)) ∧
          (W3.putObj (w.heap.size + 1) (.loop (rec (if jump.isNone then .ready else .done) jump))).heap[w.heap.size]? = some (.deferred (some [])) := fun jump W3 hk3 => by
        have hl3 := hk3.same _ _ (by omega) hl2 rfl
        have := run_endRound (P := P) jump hl3
        rw [hrec] at this ⊢
        exact ⟨this, by rw [hrec] at hl3; exact hl3, World.putObj_heap_same (Array.getElem?_eq_some_iff.1 hl3).1, (World.putObj_heap_other (by omega)).trans (hk3.same _ _ (Nat.le_refl _) hk2 rfl)⟩
      have whole : ∀ (W3 : World) (o : Obj), KeepsFrom w.heap.size (W.putObj (w.heap.size + 1) (.loop { rec .ready none with state := .busy })) W3 → KeepsFrom W1.heap.size W (W3.putObj (w.heap.size + 1) o) := fun W3 o hk3 =>
        ((keepsFrom_low _ (by omega)).trans (keepsFrom_mono hk3 (by omega))).trans (keepsFrom_low _ (by omega))
      rintro e a3 W3 hp
      cases e with
      | normal =>
        obtain ⟨hk3, hkp3, hi3⟩ := hp
        obtain ⟨hr, hl3, hl4, hk4⟩ := fin none W3 hk3
        exact ⟨_, _, hr, .inl ⟨rfl, ⟨hI _ _ _ hi3 (put _ _ _ _ (by omega) hl3), hl4, hk4⟩, hKt (hKt hw2 hkp3) (hKb _ _ _ _ (by omega) hl3 rfl), whole _ _ hk3⟩⟩
      | ret =>
        obtain ⟨hk3, hi3⟩ := hp
        obtain ⟨hr, hl3, hl4, hk4⟩ := fin (some .ret) W3 hk3
        exact ⟨_, _, hr, .inr ⟨rfl, ⟨.ret, hIx _ _ _ _ hi3 (put _ _ _ _ (by omega) hl3), hl4, hk4⟩, whole _ _ hk3⟩⟩
      | exit id =>
        obtain ⟨hk3, hi3⟩ := hp
        obtain ⟨hr, hl3, hl4, hk4⟩ := fin (some (.exit id)) W3 hk3
        exact ⟨_, _, hr, .inr ⟨rfl, ⟨.exit id, hIx _ _ _ _ hi3 (put _ _ _ _ (by omega) hl3), hl4, hk4⟩, whole _ _ hk3⟩⟩
      | goto t =>
        obtain ⟨hk3, hi3⟩ := hp
        obtain ⟨hr, hl3, hl4, hk4⟩ := fin (some (.goto t)) W3 hk3
        exact ⟨_, _, hr, .inr ⟨rfl, ⟨.goto t, hIx _ _ _ _ hi3 (put _ _ _ _ (by omega) hl3), hl4, hk4⟩, whole _ _ hk3⟩⟩
      | panic ch => exact hp.elim
      | outgrown => exact hp.elim
end Go.Proofs.YtphbjamfhmcjcaaDoor
/- Own words that all layers share: bytes as values, slices that read as lists, rows of a call's own, appends, conversions. -/
namespace Go.Proofs.YtphbjamfhmcjcaaDoor
open Go.RowKit
set_option maxRecDepth 8000
set_option linter.all false
/-- A list's byte at a place. -/
def bAt (l : List UInt8) (i : Nat) : UInt8 := l.getD i 0
/-- Bytes as the model has them. -/
def bF (f : Nat → UInt8) : Nat → Value := fun i => .int .u8 (bN (f i))
theorem bF_at (s : Nat → UInt8) (i : Nat) : bF s i = .int .u8 (bN (s i)) := rfl
theorem info31 : (Tryd.prog.info? 24).map (·.size) = some 32 := by kernel_rfl
theorem made_row (n : Nat) (z : Value) : madeCells #[z] n = rowA n (fun _ => z) := by
  apply Array.ext_getElem?
  intro i
  by_cases h : i < n
  · rw [rowA_at _ _ _ h]; simp [madeCells, h, Nat.mod_one]
  · have h1 : (rowA n fun _ => z).size ≤ i := by rw [rowA_size]; omega
    rw [Array.getElem?_eq_none h1]; simp [madeCells]; omega
theorem ownsRow_row {w : World} {g : Nat} {t : TypeId} {c : Nat} {f : Nat → Value} (h : w.rowIs g t c f) (base k : Nat) (hk : k ≤ c) (hc : c ≤ maxLen) (hb : base ≤ g) :
    w.ownsRow base t 1 (.slice (some ⟨g, 0, none⟩) k c) k ((List.range k).map f) := by
  obtain ⟨cur, h1, h2, h3⟩ := h
  refine ⟨by simp, .inr ⟨g, c, cur, rfl, hb, h1, hk, hc, by omega, ?_⟩⟩
  apply List.ext_getElem?
  intro i
  rw [List.getElem?_take]
  by_cases hi : i < k
  · rw [if_pos (by omega)]
    have := h3 i (by omega)
    simpa [hi] using this
  · rw [if_neg (by omega)]
    simp [hi]
theorem info5 : (Tryd.prog.info? 5).map (fun i => (i.zero, i.size, i.bytes)) = some (some (.int .u8 0), 1, 1) := by kernel_rfl
theorem one_cell (w : World) (v : Value) (t : TypeId) : ∀ (j : Nat) (u : Value), [v][j]? = some u → (w.alloc (.cells #[v] t)).cell? ((⟨w.heap.size, 0, none⟩ : Addr).add j) = some u := by
  intro j u h
  cases j with
  | zero => simp at h; subst h; rw [Addr.add_zero']; exact World.cell?_alloc_at _ _ _ _ rfl
  | succ j => simp at h
theorem make_none (i0 : TypeInfo) (hi : Tryd.prog.info? 5 = some i0) (hz0 : i0.zero = some (.int .u8 0)) (hz1 : i0.size = 1) (hz2 : i0.bytes = 1) (W : World) :
    (Instr.makeSlice 22 (.int .i64 0) (.int .i64 64)).run Tryd.prog W = .ok (.slice (some ⟨W.heap.size, 0, none⟩) 0 64) (W.alloc (.cells (rowA 64 (bF fun _ => 0)) 5)) := by
  have := run_make (P := Tryd.prog) W 22 5 i0 _ Tryd.underlying22 hi hz0 .i64 .i64 0 64 (by omega) (by omega) (by rw [hz2]; omega) (by omega)
  rw [this, hz1]
  have e : madeCells (Value.int .u8 0).cells 64 = rowA 64 (bF fun _ => 0) := made_row 64 (.int .u8 0)
  exact congrArg (fun z => Result.ok _ (W.alloc (.cells z 5))) e
theorem two_cell (w : World) (u v : Value) (t : TypeId) : ∀ (j : Nat) (x : Value), [u, v][j]? = some x → (w.alloc (.cells #[u, v] t)).cell? ((⟨w.heap.size, 0, none⟩ : Addr).add j) = some x := by
  intro j x h
  rw [Addr.add_lit, World.cell?_alloc_at _ _ _ _ rfl]
  simpa using h
set_option maxRecDepth 20000 in
/-- A row of bytes of the call's own, as a string. -/
theorem conv_own {w : World} {base g n cap : Nat} {l : List UInt8} (h : w.ownsRow base 5 1 (.slice (some ⟨g, 0, none⟩) n cap) n (l.map fun b => .int .u8 (bN b))) (hl : l.length = n) :
    (convert 22 9 (.slice (some ⟨g, 0, none⟩) n cap)).run Tryd.prog w = .ok (.string ⟨l.toArray⟩) w := by
  have hc := h.cells (g := g) rfl
  have := run_convert_bytes_arg (P := Tryd.prog) w 22 5 Tryd.underlying22 Tryd.underlying5 g 0 n cap (l.map bN) (by simpa using hl) (fun i hi => by
    have := hc i (.int .u8 (bN (bAt l i))) (by simp [bAt, show i < l.length by omega])
    rw [Addr.add_mid] at this
    rw [this]
    simp [bAt, show i < l.length by omega]) 9 Tryd.underlying9
  rw [this]
  have e : strOfNums (l.map bN) = ⟨l.toArray⟩ := by
    unfold strOfNums
    congr 2
    rw [List.map_map]
    conv => rhs; rw [← List.map_id l]
    exact List.map_congr_left fun b _ => by simp [bN]
  rw [e]
/-- A slice of bytes reads as l, outside the blocks of L. -/
def RdV (W : World) (L : List Nat) (v : Value) (l : List UInt8) : Prop :=
  ∃ A cap, v = .slice A l.length cap ∧ l.length ≤ cap ∧ cap ≤ maxLen ∧
    (0 < l.length → ∃ b o, A = some ⟨b, o, none⟩ ∧ b ∉ L ∧ ∀ i, i < l.length → W.cell? ⟨b, o + i, none⟩ = some (.int .u8 (bN (bAt l i))))
theorem RdV.keep {W W' : World} {L : List Nat} {v : Value} {l : List UInt8} (h : RdV W L v l) (hk : KeepBut L W W') : RdV W' L v l := by
  obtain ⟨A, cap, hv, h1, h2, h3⟩ := h
  refine ⟨A, cap, hv, h1, h2, fun h0 => ?_⟩
  obtain ⟨b, o, hA, hb, hc⟩ := h3 h0
  exact ⟨b, o, hA, hb, fun i hi => hk.cell hb (hc i hi)⟩
/-- A slice of slices of bytes. -/
def PartsAt (W : World) (L : List Nat) (v : Value) (ps : List (Value × List UInt8)) : Prop :=
  ∃ A cap, v = .slice A ps.length cap ∧ ps.length ≤ cap ∧ cap ≤ maxLen ∧
    (0 < ps.length → ∃ b o, A = some ⟨b, o, none⟩ ∧ b ∉ L ∧ ∀ i x, ps[i]? = some x → W.cell? ⟨b, o + i, none⟩ = some x.1) ∧ ∀ x ∈ ps, RdV W L x.1 x.2
theorem PartsAt.keep {W W' : World} {L : List Nat} {v : Value} {ps : List (Value × List UInt8)} (h : PartsAt W L v ps) (hk : KeepBut L W W') : PartsAt W' L v ps := by
  obtain ⟨A, cap, hv, h1, h2, h3, h4⟩ := h
  refine ⟨A, cap, hv, h1, h2, fun h0 => ?_, fun x hx => (h4 x hx).keep hk⟩
  obtain ⟨b, o, hA, hb, hc⟩ := h3 h0
  exact ⟨b, o, hA, hb, fun i x hx => hk.cell hb (hc i x hx)⟩
/-- How many bytes there are together. -/
def total (ps : List (Value × List UInt8)) : Nat := (ps.map fun x => x.2.length).sum
theorem total_snoc (ps : List (Value × List UInt8)) (x : Value × List UInt8) : total (ps ++ [x]) = total ps + x.2.length := by simp [total]
theorem total_take (ps : List (Value × List UInt8)) (k : Nat) : total (ps.take k) ≤ total ps := by
  have h := congrArg total (List.take_append_drop k ps)
  have e : total (ps.take k ++ ps.drop k) = total (ps.take k) + total (ps.drop k) := by
    unfold total; rw [List.map_append, List.sum_append]
  omega
def flat (ps : List (Value × List UInt8)) : List UInt8 := (ps.map (·.2)).flatten
theorem flat_snoc (ps : List (Value × List UInt8)) (x : Value × List UInt8) : flat (ps ++ [x]) = flat ps ++ x.2 := by simp [flat]
theorem RdV.more {W : World} {L L' : List Nat} {v : Value} {l : List UInt8} (h : RdV W L v l) (hL : ∀ k, k < W.heap.size → k ∉ L → k ∉ L') : RdV W L' v l := by
  obtain ⟨A, cap, hv, h1, h2, h3⟩ := h
  refine ⟨A, cap, hv, h1, h2, fun h0 => ?_⟩
  obtain ⟨b, o, hA, hb, hc⟩ := h3 h0
  have hlt : b < W.heap.size := World.block_lt_of_cell? _ _ (hc 0 h0)
  exact ⟨b, o, hA, hL b hlt hb, hc⟩
theorem PartsAt.more {W : World} {L L' : List Nat} {v : Value} {ps : List (Value × List UInt8)} (h : PartsAt W L v ps) (hL : ∀ k, k < W.heap.size → k ∉ L → k ∉ L') : PartsAt W L' v ps := by
  obtain ⟨A, cap, hv, h1, h2, h3, h4⟩ := h
  refine ⟨A, cap, hv, h1, h2, fun h0 => ?_, fun x hx => (h4 x hx).more hL⟩
  obtain ⟨b, o, hA, hb, hc⟩ := h3 h0
  have hlt : b < W.heap.size := World.block_lt_of_cell? _ _ (hc 0 _ (List.getElem?_eq_getElem h0))
  exact ⟨b, o, hA, hL b hlt hb, hc⟩
theorem ownsRow_keep {W W' : World} {base g n cap : Nat} {e : TypeId} {xs : List Value} (h : W.ownsRow base e 1 (.slice (some ⟨g, 0, none⟩) n cap) n xs) (hk : ∀ o : Obj, o.isCells = true → W.heap[g]? = some o → W'.heap[g]? = some o) :
    W'.ownsRow base e 1 (.slice (some ⟨g, 0, none⟩) n cap) n xs := by
  obtain ⟨h1, h2⟩ := h
  refine ⟨h1, ?_⟩
  rcases h2 with ⟨h, _⟩ | ⟨g', cap', cur, hv, hb, hh, r⟩
  · cases h
  · cases hv
    exact .inr ⟨g, cap, cur, rfl, hb, hk _ rfl hh, r⟩
theorem ownsRow_none {W : World} {base g n cap : Nat} {e : TypeId} {xs : List Value} (h : W.ownsRow base e 1 (.slice (some ⟨g, 0, none⟩) n cap) n xs) : W.ownsRow base e 1 (.slice (some ⟨g, 0, none⟩) 0 cap) 0 [] := by
  obtain ⟨_, h2⟩ := h
  rcases h2 with ⟨h, _⟩ | ⟨g', cap', cur, hv, hb, hh, _, hm, hs, _⟩
  · cases h
  · cases hv
    exact ⟨rfl, .inr ⟨g, cap, cur, rfl, hb, hh, Nat.zero_le _, hm, hs, by simp⟩⟩
theorem map_at (l : List UInt8) (i : Nat) (hi : i < l.length) : (l.map fun b => Value.int .u8 (bN b))[i]? = some (.int .u8 (bN (bAt l i))) := by simp [bAt, hi]
theorem cells_take {W : World} {q : List UInt8} {b o m : Nat} (hm : m ≤ q.length) (h : ∀ i, i < q.length → W.cell? ⟨b, o + i, none⟩ = some (.int .u8 (bN (bAt q i)))) :
    ∀ j u, ((q.take m).map fun b => Value.int .u8 (bN b))[j]? = some u → W.cell? ((⟨b, o, none⟩ : Addr).add j) = some u := by
  intro j u hj
  rw [Addr.add_mid]
  have hjm : j < m := by
    have := (List.getElem?_eq_some_iff.1 hj).1
    simp at this; omega
  rw [h j (by omega)]
  rw [List.getElem?_map, List.getElem?_take, if_pos hjm, List.getElem?_eq_getElem (by omega)] at hj
  simp at hj
  rw [← hj]
  simp [bAt, show j < q.length by omega]
/-- A slice of slices, made of those that are handed in one by one. -/
theorem parts_new {W : World} {L : List Nat} (ps : List (Value × List UInt8)) (t : TypeId) (hL : ∀ k ∈ L, k < W.heap.size) (hn : ps.length ≤ 1000) (h : ∀ x ∈ ps, RdV W L x.1 x.2) :
    PartsAt (W.alloc (.cells (ps.map (·.1)).toArray t)) L (.slice (some ⟨W.heap.size, 0, none⟩) ps.length ps.length) ps := by
  refine ⟨_, ps.length, rfl, Nat.le_refl _, by unfold maxLen; omega, fun _ => ⟨W.heap.size, 0, rfl, fun hm => by have := hL _ hm; omega, fun i x hx => ?_⟩, fun x hx => (h x hx).keep (KeepBut.alloc W _)⟩
  have hb : (W.alloc (.cells (ps.map (·.1)).toArray t)).cell? ⟨W.heap.size, 0 + i, none⟩ = (ps.map (·.1)).toArray[0 + i]? := World.cell?_alloc_at _ _ _ _ rfl
  rw [hb, Nat.zero_add]
  simp [hx]
/-- A row that may be written whole. -/
def RowW (W : World) (g n : Nat) : Prop := ∃ t f, W.rowIs g t n f
theorem run_storeB {W : World} {g n : Nat} (h : RowW W g n) (f : Nat → UInt8) : (storeCells ⟨g, 0, none⟩ (rowA n (bF f)).toList).run Tryd.prog W = .ok () (W.setCells g 0 (rowA n (bF f)).toList) := by
  obtain ⟨t, z, r⟩ := h
  have := run_storeCells_cells (P := Tryd.prog) g 0 (rowA n (bF f)).toList 0 W (fun j hj => by simpa using (there_row r j (by rw [rowA_toList] at hj; simpa using hj)).1) (fun j hj => by simpa using (there_row r j (by rw [rowA_toList] at hj; simpa using hj)).2)
    (fun v hv => by rw [rowA_toList] at hv; obtain ⟨i, _, rfl⟩ := List.mem_map.1 hv; rfl)
  simpa using this
theorem flat_length (ps : List (Value × List UInt8)) : (flat ps).length = total ps := by simp [flat, total, Function.comp_def]
theorem modify_push (a : Array Obj) (x : Obj) (f : Obj → Obj) : (a.push x).modify a.size f = a.push (f x) := by
  apply Array.ext
  · simp
  · intro i h1 h2
    simp only [Array.getElem_modify, Array.getElem_push]
    by_cases h : a.size = i
    · subst h; simp
    · have hi : i < a.size := by simp at h1; omega
      simp [h, hi]
/-- '[]byte("..")' of a text that is known, as the model has it: its row is marked behind its end. -/
theorem conv_bytes (W : World) (C : Array Value) (g n c : Nat) (h : W.heap.size = g) : (convert 22 22 (.slice (some ⟨g, 0, none⟩) n c)).run Tryd.prog (W.alloc (.cells C 5)) = .ok (.slice (some ⟨g, 0, none⟩) n c) (W.alloc (.cells C 5 (C.size, C.size + 1))) := by
  subst h
  have hsh : (W.alloc (.cells C 5)).shape? W.heap.size = some (5, C.size) := by
    unfold World.shape?; rw [World.alloc_heap_new]
  have hfr : (W.alloc (.cells C 5)).freeze ⟨W.heap.size, C.size, none⟩ 1 = W.alloc (.cells C 5 (C.size, C.size + 1)) := by
    unfold World.freeze
    rw [if_neg (by decide)]
    show ({ W.alloc (.cells C 5) with heap := (W.heap.push (.cells C 5)).modify W.heap.size _ } : World) = _
    rw [modify_push]
    rfl
  simp [convert, run_underlying Tryd.underlying22, run_underlying Tryd.underlying5, markStringish, hsh, hfr]
theorem cell_new_fr (W : World) (C : Array Value) (t : TypeId) (fr : Nat × Nat) (g i : Nat) (h : g = W.heap.size) : (W.alloc (.cells C t fr)).cell? ⟨g, i, none⟩ = C[i]? := by
  subst h
  unfold World.cell?
  rw [World.alloc_heap_new W (.cells C t fr)]
  rfl
theorem rdV_lit {W : World} {g : Nat} {l : List UInt8} {cap : Nat} (hc : l.length ≤ cap) (hm : cap ≤ maxLen) (h : ∀ i, i < l.length → W.cell? ⟨g, i, none⟩ = some (.int .u8 (bN (bAt l i)))) : RdV W [] (.slice (some ⟨g, 0, none⟩) l.length cap) l :=
  ⟨some ⟨g, 0, none⟩, cap, rfl, hc, hm, fun _ => ⟨g, 0, rfl, by simp, fun i hi => by rw [Nat.zero_add]; exact h i hi⟩⟩
theorem rdV_form {W : World} {L : List Nat} {v : Value} {l : List UInt8} (h : RdV W L v l) : ∃ A cap, v = .slice A l.length cap := by
  obtain ⟨A, cap, h, _⟩ := h; exact ⟨A, cap, h⟩
theorem info5s : (Tryd.prog.info? 5).map (·.size) = some 1 := by kernel_rfl
theorem keepBut_grown {w w' : World} {row : Option Nat} (hg : w.grownBy w' row) {L : List Nat} (hL : ∀ k, row = some k → k ∈ L) : KeepBut L w w' :=
  ⟨hg.size, fun k o hk ho _ => by
    have hlt : k < w.heap.size := by
      rcases Nat.lt_or_ge k w.heap.size with h | h
      · exact h
      · rw [Array.getElem?_eq_none h] at ho; cases ho
    rw [hg.block k hlt (fun e => hk (hL k e.symm))]; exact ho⟩
end Go.Proofs.YtphbjamfhmcjcaaDoor
/- Own words that all layers share, for regions gone through once: new memory alone is made; what values stand for; an operation, a lemma. -/
namespace Go.Proofs.YtphbjamfhmcjcaaDoor
open Go Go.RowKit
set_option maxRecDepth 8000
set_option linter.all false
/-- A name for a term, the equation hidden. -/
theorem hid_ex {α : Type} (x : α) : ∃ d, Hid (x = d) := ⟨x, Lib.hid rfl⟩
/-- From one world to another one new memory alone was made. -/
def NewT (w w' : World) : Prop := Below w.heap.size w w'
theorem NewT.refl (w : World) : NewT w w := Below.refl _ w
theorem NewT.trans (a b c : World) (h : NewT a b) (k : NewT b c) : NewT a c := Below.trans h (Below.mono k (Below.size h))
theorem NewT.drew (w : World) : NewT w w.drew := (Below.refl _ w).drew
theorem NewT.of {w w' : World} (h : Below w.heap.size w w') : NewT w w' := h
theorem NewT.out {w w' : World} (h : NewT w w') : Below w.heap.size w w' := h
theorem NewT.alloc (w : World) (o : Obj) : NewT w (w.alloc o) := (Below.refl _ w).alloc (Nat.le_refl _) _
theorem NewT.rd {w w' : World} (h : NewT w w') {L : List Nat} {v : Value} {l : List UInt8} (hr : RdV w L v l) : RdV w' L v l := hr.keep (KeepBut.below h)
theorem NewT.parts {w w' : World} (h : NewT w w') {L : List Nat} {v : Value} {ps : List (Value × List UInt8)} (hr : PartsAt w L v ps) : PartsAt w' L v ps := hr.keep (KeepBut.below h)
theorem NewT.row {w w' : World} (h : NewT w w') {b : Nat} {t : TypeId} {n : Nat} {f : Nat → Value} (hr : w.rowIs b t n f) : w'.rowIs b t n f := rowIs_below hr h hr.lt
/-- It reads as l. -/
def svRd (l : List UInt8) : SV NewT := ⟨fun v w => RdV w [] v l, fun _ _ _ h hT => hT.rd h⟩
/-- Slices of bytes, one behind the other, that read as ls. -/
def Parts (w : World) (v : Value) (ls : List (List UInt8)) : Prop := ∃ ps, PartsAt w [] v ps ∧ ps.map (·.2) = ls
theorem NewT.partsL {w w' : World} (h : NewT w w') {v : Value} {ls : List (List UInt8)} (hr : Parts w v ls) : Parts w' v ls := by
  obtain ⟨ps, h1, h2⟩ := hr; exact ⟨ps, h.parts h1, h2⟩
def svParts (ls : List (List UInt8)) : SV NewT := ⟨fun v w => Parts w v ls, fun _ _ _ h hT => hT.partsL h⟩

section
variable {P : Program} {a : Act} {w : World} {o : Oper} {K : Act → World → Prop} {Q : Exit → Act → World → Prop} {g : Option (Tmp × Bool)}
theorem relyEnd_nil {T : World → World → Prop} {C : List (SV T)} {l : List Oper} (hl : l = []) (h : Q .normal a w) : relyEnd Q T l C a w := by subst hl; exact ⟨h⟩
theorem rely_wp (hg : relyGuard g a = true) (h : o.wp P a w K Q) : if relyGuard g a then o.wp P a w K Q else K (a.put o.dst undef) w := by rw [if_pos hg]; exact h
theorem rely_guard {d : Tmp} {b : Bool} (h : a.tmps.getD d undef = .bool b) : relyGuard (some (d, b)) a = true := by simp only [relyGuard, h]; cases b <;> rfl
/-- A value of the frame is moved. -/
theorem opr_move {x : Operand} (ho : o.op = .move x ∨ o.op = .assign x) (h : K (a.put o.dst (a.eval x)) w) : o.wp P a w K Q := by
  obtain ⟨dst, op, type, pos, after, guard⟩ := o
  rcases ho with ho | ho
  all_goals
    simp only at ho
    subst ho
    simpa [Oper.wp, execOp, Oper.upon, Sem.run_pure] using h
theorem opr_pick_true {c x y : Operand} (ho : o.op = .pick c x y) (hc : a.eval c = .bool true) (h : K (a.put o.dst (a.eval x)) w) : o.wp P a w K Q := by
  obtain ⟨dst, op, type, pos, after, guard⟩ := o
  simp only at ho
  subst ho
  simpa [Oper.wp, execOp, hc, asBool, Oper.upon, Sem.run_pure] using h
/-- An operation that yields a value. -/
theorem opr_val {s : Sem Value} {v : Value} {w' : World} (ho : execOp a.eval o = (do pure (.value (← s)))) (hr : s.run P w = .ok v w') (h : K (a.put o.dst v) w') : o.wp P a w K Q := by
  simpa [Oper.wp, ho, hr, Oper.upon, Sem.run_pure, Sem.run_bind] using h
theorem opr_unit {s : Sem Unit} {w' : World} (ho : execOp a.eval o = (do s; pure .skip)) (hr : s.run P w = .ok () w') (h : K (a.put o.dst undef) w') : o.wp P a w K Q := by
  simpa [Oper.wp, ho, hr, Oper.upon, Sem.run_pure, Sem.run_bind] using h
theorem run_callFunc_go {f : Nat} {fn : Func} {vs : Array Value} (hf : P.funcs[f]? = some fn) (hn : (fn.name == "runtime.NumGoroutine") = false) (hb : fn.body.isNone = false) : (callFunc f vs).run P w = .ok (.enter f vs) w := by
  unfold callFunc
  rw [Sem.run_bind, run_program]
  simp only [Result.andThen_ok, hf, hn, hb, Bool.false_eq_true, if_false]
  exact Sem.run_pure ..
/-- A Go function is called. -/
theorem opr_call {f : Nat} {fn : Func} {args : Array Operand} {vs : Array Value} {ts : Array TypeId} (ho : o.op = .call { callee := .value (.func f), args := args, argTypes := ts }) (hf : P.funcs[f]? = some fn)
    (hn : (fn.name == "runtime.NumGoroutine") = false) (hb : fn.body.isNone = false) (hv : args.map a.eval = vs)
    (h : Calls P f vs w fun e w' => ∃ v, e = .returned v ∧ K (a.put o.dst v) w') : o.wp P a w K Q := by
  obtain ⟨dst, op, type, pos, after, guard⟩ := o
  simp only at ho
  subst ho
  subst hv
  unfold Oper.wp
  rw [execOp_call_go, show #[] ++ args.map a.eval ++ #[] = args.map a.eval by simp, run_callFunc_go hf hn hb, Oper.upon_enter]
  refine h.mono ?_
  rintro e w' ⟨v, rfl, hk⟩
  exact hk
theorem eval_tmp (t : Tmp) : a.eval (.tmp t) = a.tmps.getD t undef := rfl
end
theorem run_forIn_eqs {P : Program} {w : World} {α σ : Type} (f : α → σ → Sem (ForInStep σ)) (s s' : σ) (p : α → Bool) : ∀ (l : List α), (∀ a ∈ l, (f a s).run P w = .ok (if p a then .yield s else .done s') w) → (forIn l s f).run P w = .ok (if l.all p then s else s') w
  | [], _ => by simp [Sem.run_pure]
  | a :: l, h => by
    rw [List.forIn_cons, Sem.run_bind, h a (by simp)]
    by_cases hp : p a
    · simp only [hp, if_true, Result.andThen_ok, List.all_cons, Bool.true_and]
      exact run_forIn_eqs f s s' p l fun b hb => h b (by simp [hb])
    · simp [hp, Sem.run_pure]
/-- Two arrays by value. -/
theorem equalIn_arr {P : Program} (w : World) (d : Nat) (t e : TypeId) (n : Nat) (k : IntKind) (ht : P.underlying t = some (.array n e)) (he : P.underlying e = some (.int k)) (hs : (P.info? e).map (·.size) = some 1) (f g : Nat → Int) :
    (Op.equalIn (d + 2) t (.agg (rowA n fun i => .int k (f i))) (.agg (rowA n fun i => .int k (g i)))).run P w = .ok ((List.range n).all fun i => f i == g i) w := by
  have hsz : (sizeOf e).run P w = .ok 1 w := by
    cases hq : P.info? e with
    | none => simp [hq] at hs
    | some i => simp [hq] at hs; simp [sizeOf, typeInfo, hq, hs]
  have hagg : (isAgg e).run P w = .ok false w := by
    unfold isAgg
    rw [Sem.run_bind, run_underlying he w]
    rfl
  have hpart : ∀ (f : Nat → Int) i, i < n → (part e (rowA n fun i => .int k (f i)) i).run P w = .ok (.int k (f i)) w := fun f i hi => by
    simp [part, hagg, rowA_at n (fun i => .int k (f i)) i hi]
  rw [Op.equalIn, Sem.run_bind, run_underlying ht w]
  simp only [Result.andThen_ok, Sem.run_bind, hsz, Std.Legacy.Range.forIn_eq_forIn_range', Std.Legacy.Range.size, Nat.sub_zero, Nat.add_one_sub_one, Nat.div_one]
  rw [run_forIn_eqs _ _ ⟨some false, PUnit.unit⟩ (fun i => f i == g i) _ (fun i hi => by
    have hi' : i < n := by simpa [List.mem_range'] using hi
    by_cases hfg : f i = g i
    · simp [hpart f i hi', hpart g i hi', run_equalIn_int w d e k k _ _ he, hfg]
    · simp [hpart f i hi', hpart g i hi', run_equalIn_int w d e k k _ _ he, hfg])]
  rw [← List.range_eq_range']
  by_cases h : (List.range n).all fun i => f i == g i
  · simp [h]
  · simp only [h]; simp [Sem.run_pure]
/-- Are two hashes the same? -/
def eqH (d1 d2 : Nat → UInt8) : Bool := (List.range 32).all fun i => bN (d1 i) == bN (d2 i)
theorem eqH_same (d : Nat → UInt8) : eqH d d = true := by simp [eqH]
theorem equalIn_hash (w : World) (d1 d2 : Nat → UInt8) : (Op.equalIn 10000 24 (.agg (rowA 32 (bF d1))) (.agg (rowA 32 (bF d2)))).run Tryd.prog w = .ok (eqH d1 d2) w :=
  equalIn_arr w 9998 24 5 32 .u8 Tryd.underlying24 Tryd.underlying5 info5s (fun i => bN (d1 i)) (fun i => bN (d2 i))
theorem eqType_hash : Tryd.prog.eqGuardType Tryd.prog.depth 24 = false := by kernel_rfl

/-- A digest as bytes. -/
def digL (d : Nat → UInt8) : List UInt8 := (List.range 32).map d
theorem digL_length (d : Nat → UInt8) : (digL d).length = 32 := by simp [digL]
section
variable {a : Act} {w : World} {o : Oper} {K : Act → World → Prop} {Q : Exit → Act → World → Prop}
theorem opr_len {x : Operand} {t e : TypeId} {A : Option Addr} {n c : Nat} (ho : o.op = .call { callee := .builtin .len, args := #[x], argTypes := #[t] }) (ht : Tryd.prog.underlying t = some (.slice e)) (hx : a.eval x = .slice A n c) (h : K (a.put o.dst (.int .i64 (n : Int))) w) : o.wp Tryd.prog a w K Q := by
  obtain ⟨dst, op, type, pos, after, guard⟩ := o
  simp only at ho
  subst ho
  refine opr_val (s := Builtin.len_ #[t] type #[a.eval x]) (v := .int .i64 (n : Int)) (by
    show (do let d ← resolve a.eval { callee := .builtin .len, args := #[x], argTypes := #[t] } type; invoke d.target d.args) = _
    simp only [resolve, invoke, pure_bind, BigFrame.builtin_len, List.map_toArray, List.map_cons, List.map_nil]) ?_ h
  rw [hx]
  simp [Builtin.len_, run_underlying ht, goInt]
theorem opr_load_hash {x : Operand} {g : Nat} {t : TypeId} {d : Nat → UInt8} (ho : o.op = .load 24 x) (hx : a.eval x = .pointer (some ⟨g, 0, none⟩)) (hr : w.rowIs g t 32 (bF d)) (h : K (a.put o.dst (.agg (rowA 32 (bF d)))) w) : o.wp Tryd.prog a w K Q := by
  obtain ⟨dst, op, type, pos, after, guard⟩ := o
  simp only at ho
  subst ho
  refine opr_val (s := Instr.loadAt 24 (a.eval x)) rfl ?_ h
  rw [hx]
  have := run_loadAt_mid (P := Tryd.prog) w g 0 24 (rowA 32 (bF d)).toList _ (rangeAt_row hr) Tryd.underlying24 rfl (by rw [rowA_toList]; simpa using info31)
  simpa using this
theorem opr_eql_hash {x y : Operand} {t' : TypeId} {d1 d2 : Nat → UInt8} {b : Bool} (ho : o.op = .binOp .eql 24 x y t') (hx : a.eval x = .agg (rowA 32 (bF d1))) (hy : a.eval y = .agg (rowA 32 (bF d2))) (hb : eqH d1 d2 = b) (h : K (a.put o.dst (.bool b)) w) : o.wp Tryd.prog a w K Q := by
  obtain ⟨dst, op, type, pos, after, guard⟩ := o
  simp only at ho
  subst ho hb
  refine opr_val (s := do eqGuard .eql 24 x y (a.eval x) (a.eval y); binOp .eql 24 (a.eval x) (a.eval y)) rfl ?_ h
  rw [hx, hy, Sem.run_bind, run_eqGuard_agg _ _ _ _ _ _ _ eqType_hash]
  simp only [Result.andThen_ok]
  rw [run_eql_struct, equalIn_hash]; rfl
theorem opr_neq_hash {x y : Operand} {t' : TypeId} {d1 d2 : Nat → UInt8} {b : Bool} (ho : o.op = .binOp .neq 24 x y t') (hx : a.eval x = .agg (rowA 32 (bF d1))) (hy : a.eval y = .agg (rowA 32 (bF d2))) (hb : (!eqH d1 d2) = b) (h : K (a.put o.dst (.bool b)) w) : o.wp Tryd.prog a w K Q := by
  obtain ⟨dst, op, type, pos, after, guard⟩ := o
  simp only at ho
  subst ho hb
  refine opr_val (s := do eqGuard .neq 24 x y (a.eval x) (a.eval y); binOp .neq 24 (a.eval x) (a.eval y)) rfl ?_ h
  rw [hx, hy, Sem.run_bind, run_eqGuard_agg _ _ _ _ _ _ _ eqType_hash]
  simp only [Result.andThen_ok]
  rw [run_neq_struct, equalIn_hash]; rfl
theorem run_bs2 (A : Option Addr) (n c : Nat) (A2 : Option Addr) (n2 c2 : Nat) (w : World) : (Instr.buildSlice 57 2 #[(0, .slice A n c), (1, .slice A2 n2 c2)]).run Tryd.prog w = .ok (.slice (some ⟨w.heap.size, 0, none⟩) 2 2) (w.alloc (.cells #[.slice A n c, .slice A2 n2 c2] 22)) := by
  simp [go_sem]
theorem opr_bs2 {x y : Operand} {l m : List UInt8} (ho : o.op = .buildSlice 57 2 #[(0, x), (1, y)]) (hx : RdV w [] (a.eval x) l) (hy : RdV w [] (a.eval y) m) (h : ∀ v w', NewT w w' → Parts w' v [l, m] → K (a.put o.dst v) w') : o.wp Tryd.prog a w K Q := by
  obtain ⟨dst, op, type, pos, after, guard⟩ := o
  simp only at ho
  subst ho
  have hx0 := hx
  obtain ⟨A, c, hv, _⟩ := hx0
  have hy0 := hy
  obtain ⟨A2, c2, hv2, _⟩ := hy0
  rw [hv] at hx
  rw [hv2] at hy
  refine opr_val (s := Instr.buildSlice 57 2 #[(0, a.eval x), (1, a.eval y)]) (by simp [execOp]) (by rw [hv, hv2]; exact run_bs2 A _ c A2 _ c2 w) (h _ _ (NewT.alloc _ _) ⟨[(.slice A l.length c, l), (.slice A2 m.length c2, m)], parts_new [(.slice A l.length c, l), (.slice A2 m.length c2, m)] 22 (by simp) (by simp) (by simp; exact ⟨hx, hy⟩), rfl⟩)
end
/-- A builtin append whose run is known. -/
theorem opr_append {P : Program} {a : Act} {w w' : World} {o : Oper} {K : Act → World → Prop} {Q : Exit → Act → World → Prop} {x y : Operand} {t t' : TypeId} {vx vy v' : Value} (ho : o.op = .call { callee := .builtin .append, args := #[x, y], argTypes := #[t, t'] }) (hx : a.eval x = vx) (hy : a.eval y = vy)
    (hr : (Builtin.append_ #[t, t'] o.type #[vx, vy]).run P w = .ok v' w') (h : K (a.put o.dst v') w') : o.wp P a w K Q := by
  obtain ⟨dst, op, type, pos, after, guard⟩ := o
  simp only at ho hr
  subst ho hx hy
  refine opr_val (s := Builtin.append_ #[t, t'] type #[a.eval x, a.eval y]) ?_ hr h
  show (do let d ← resolve a.eval { callee := .builtin .append, args := #[x, y], argTypes := #[t, t'] } type; invoke d.target d.args) = _
  simp only [resolve, invoke, pure_bind, BigFrame.builtin_append, List.map_toArray, List.map_cons, List.map_nil]
theorem run_alloc_hash (w : World) : (Instr.alloc 24 true (.tuple #[])).run Tryd.prog w = .ok (.pointer (some ⟨w.heap.size, 0, none⟩)) (w.alloc (.cells (rowA 32 (bF fun _ => 0)) 24)) := by
  simp [go_sem]; rfl
/-- A whole array is stored into a row that is new. -/
theorem opr_store_new {B : Nat} {P : Program} {a : Act} {w W : World} {o : Oper} {K : Act → World → Prop} {Q : Exit → Act → World → Prop} {t t' : TypeId} {x y : Operand} {g n : Nat} {f0 : Nat → Value} {D : Nat → UInt8} (hi : (P.info? t).map (·.size) = some n) (ho : o.op = .store t x y) (hx : a.eval x = .pointer (some ⟨g, 0, none⟩)) (hy : a.eval y = .agg (rowA n (bF D)))
    (hr : w.rowIs g t' n f0) (hN : Below B W w) (hg : B ≤ g) (h : ∀ w', Below B W w' → w'.rowIs g t' n (bF D) → K (a.put o.dst undef) w') : o.wp P a w K Q :=
  wp_store_mid t x y ho g 0 (rowA n (bF D)) hx hy (by rw [rowA_size]; exact there_row hr) (by rw [rowA_size]; exact hi) (rowA_one _ _ fun _ => rfl) (h _ (below_setCells g hg _ _ _ hN) (rowIs_setAll hr (bF D)))
/-- A function's contract: new memory alone, and what it returns. -/
def Cv (f : Nat) (vs : Array Value) (w : World) (c : SV NewT) : Prop := Calls Tryd.prog f vs w fun e w' => ∃ v, e = .returned v ∧ NewT w w' ∧ c.pred v w'
theorem opr_cv {a : Act} {w : World} {o : Oper} {K : Act → World → Prop} {Q : Exit → Act → World → Prop} {f : Nat} {fn : Func} {args : Array Operand} {ts : Array TypeId} {vs : Array Value} {c : SV NewT} (hc : Cv f vs w c)
    (ho : o.op = .call { callee := .value (.func f), args := args, argTypes := ts }) (hf : Tryd.prog.funcs[f]? = some fn) (hn : (fn.name == "runtime.NumGoroutine") = false) (hb : fn.body.isNone = false) (hv : args.map a.eval = vs)
    (h : ∀ v w', NewT w w' → c.pred v w' → K (a.put o.dst v) w') : o.wp Tryd.prog a w K Q := by
  refine opr_call ho hf hn hb hv (Calls.mono hc ?_)
  rintro e w' ⟨v, rfl, h1, h2⟩
  exact ⟨v, rfl, h v w' h1 h2⟩
theorem Cv.of_eq {f : Nat} {vs : Array Value} {w : World} {v : Value} (h : Calls Tryd.prog f vs w fun e w' => e = .returned v ∧ Below w.heap.size w w') : Cv f vs w (.eq v) :=
  Calls.mono h fun _ _ ⟨he, hb⟩ => ⟨v, he, hb, rfl⟩
theorem Cv.eq {f : Nat} {vs : Array Value} {w : World} {v : Value} (h : Cv f vs w (.eq v)) : Calls Tryd.prog f vs w fun e w' => e = .returned v ∧ Below w.heap.size w w' :=
  Calls.mono h fun _ _ ⟨_, he, hb, hv⟩ => ⟨by rw [he]; exact congrArg _ hv, hb⟩
theorem eval_const {a : Act} (v : Value) : a.eval (.const v) = v := rfl
end Go.Proofs.YtphbjamfhmcjcaaDoor
/- Fields of a struct by value and in memory: a cell, a row of cells. No program is named here. -/
namespace Go.Proofs.YtphbjamfhmcjcaaDoor
open Go Go.RowKit
set_option maxRecDepth 8000
set_option linter.all false

section
variable {P : Program} {t : TypeId} {fs : Array Field} {f : Field} {i n : Nat}
end
end Go.Proofs.YtphbjamfhmcjcaaDoor
/- A region that draws its order, whose last operations come one behind the other: the rest is gone through once, in the text's order, and the last ones then as they stand. No program is named here. -/
namespace Go.Proofs.YtphbjamfhmcjcaaDoor
open Go
set_option maxRecDepth 8000
set_option linter.all false

section
variable {P : Program} {ops : Array Oper} {Q : Exit → Act → World → Prop} {T : World → World → Prop} {V : List (SV T)} {a0 : Act} {w0 : World} {n : Nat} {D : Deps} {init tail : List Oper}

theorem split_at (hsplit : ops.toList = init ++ tail) : ops.size = init.length + tail.length ∧ (∀ (k : Nat) (o : Oper), init[k]? = some o → ops[k]? = some o) ∧ ∀ k : Nat, ops[init.length + k]? = tail[k]? := by
  have e : ops = (init ++ tail).toArray := by rw [← hsplit]
  subst e
  refine ⟨by simp, fun k o hk => ?_, fun k => ?_⟩
  · have hlt := (List.getElem?_eq_some_iff.1 hk).1
    simp [List.getElem?_append_left hlt, hk]
  · simp [List.getElem?_append_right]
/-- The last ones look back alone, each waits for the one ahead. -/
def tailB (ops : Array Oper) (tail : List Oper) (m : Nat) : Bool :=
  (List.range tail.length).all fun t => (match tail[t]? with | some o => o.after.all (fun e => !Region.binds .any e || decide (e.on < m + t)) | none => true) && (decide (t = 0) || Region.waitsFor .any ops (m + t) (m + t - 1))

theorem tail_seq (hsplit : ops.toList = init ++ tail) (hB : tailB ops tail init.length = true) : ∀ (f k : Nat) (listed : Array Bool) (a : Act) (w : World), k + f = tail.length → listed.size = ops.size →
    (∀ j, j < init.length + k → listed.getD j false = true) → (∀ j, init.length + k ≤ j → j < ops.size → listed.getD j true = false) → wpList P ops Q (tail.drop k) a w → wpAny P .any ops Q f listed a w := by
  obtain ⟨hsz, _, htl⟩ := split_at hsplit
  have hb : ∀ t, t < tail.length → (∀ o, tail[t]? = some o → ∀ e ∈ o.after, Region.binds .any e = true → e.on < init.length + t) ∧ (t = 0 ∨ Region.waitsFor .any ops (init.length + t) (init.length + t - 1) = true) := fun t ht => by
    have h := List.all_eq_true.1 hB t (List.mem_range.2 ht)
    simp only [Bool.and_eq_true, Bool.or_eq_true, decide_eq_true_eq] at h
    refine ⟨fun o ho e he hbe => ?_, h.2⟩
    have h1 := h.1
    rw [ho] at h1
    have h2 := (Array.all_eq_true_iff_forall_mem.1 h1) e he
    simpa [hbe] using h2
  intro f
  induction f with
  | zero =>
    intro k listed a w hk hs hdone _ h
    obtain rfl : k = tail.length := by omega
    rw [List.drop_length] at h
    exact wpAny_done (ready_none fun i hi => hdone i (by omega)) h 0
  | succ f ih =>
    intro k listed a w hk hs hdone hun h
    have hkl : k < tail.length := by omega
    have ho : ops[init.length + k]? = some tail[k] := by rw [htl, List.getElem?_eq_getElem hkl]
    rw [List.drop_eq_getElem_cons hkl] at h
    have hmem : init.length + k ∈ Region.ready .any ops listed := by
      rw [mem_ready]
      exact ⟨hun _ (Nat.le_refl _) (by omega), tail[k], ho, fun e he hbe => hdone _ ((hb k hkl).1 _ (List.getElem?_eq_getElem hkl) e he hbe)⟩
    refine ⟨fun hr => (by rw [hr] at hmem; cases hmem), fun i hi => ?_⟩
    obtain ⟨h0, o, hoi, hall⟩ := mem_ready.1 hi
    have hilt := (Array.getElem?_eq_some_iff.1 hoi).1
    have hik : i = init.length + k := by
      rcases Nat.lt_trichotomy i (init.length + k) with hlt | rfl | hgt
      · have := hdone i hlt
        rw [getD_both h0] at this; cases this
      · rfl
      · exfalso
        have ht := (hb (i - init.length) (by omega)).2
        rw [show init.length + (i - init.length) = i by omega] at ht
        rcases ht with ht | ht
        · omega
        · obtain ⟨oi, hoi', e, he, hbe, hon⟩ := Region.waitsFor_spec ht
          have : oi = o := Option.some.inj (hoi'.symm.trans hoi)
          subst this
          have h1 := hall e he hbe
          rw [hon, getD_both (hun (i - 1) (by omega) (by omega))] at h1
          cases h1
    subst hik
    have next : ∀ a' w', wpList P ops Q (tail.drop (k + 1)) a' w' → wpAny P .any ops Q f (listed.setIfInBounds (init.length + k) true) a' w' := fun a' w' h' =>
      ih (k + 1) _ a' w' (by omega) (by simp [hs]) (fun j hj => by
        by_cases hjk : init.length + k = j
        · subst hjk; simp [show init.length + k < listed.size by omega]
        · exact getD_set_true (hdone j (by omega))) (fun j hj hj2 => by rw [getD_set_ne true (by omega)]; exact hun j (by omega) hj2) h'
    refine wpOp_mono next ?_
    unfold wpOp
    simp only [ho]
    simpa only [wpList] using h

theorem wpAny_rely_tail (hsplit : ops.toList = init ++ tail) (hpos : 0 < tail.length) (hn : a0.tmps.size = n) (hB : relyB ops n 0 init D = true) (hsink : Region.sinkB .any ops init.length = true) (htb : tailB ops tail init.length = true) (ht : ∀ a b c : World, T a b → T b c → T a c)
    (hl : init.length ≤ V.length) (hA : relyAll P Q T V a0 w0 init D V) (hE : ∀ w, T w0 w → relyEnd (fun _ a w => wpList P ops Q tail a w) T init V a0 w) :
    ∀ (fuel : Nat) (listed : Array Bool) (a : Act) (w : World), (unl ops listed).length = fuel → (∀ j, init.length ≤ j → j < ops.size → listed.getD j true = false) → RelyInv ops T V a0 w0 listed a w → wpAny P .any ops Q fuel listed a w := by
  obtain ⟨hsz, hpre, htl⟩ := split_at hsplit
  have hat : ∀ i o, init[i]? = some o → ∃ dp g, relyOne ops n i o dp g = true ∧ relyStep P Q T V a0 w0 o dp g (V.getD i SV.any) := fun i o hi => by
    obtain ⟨dp, g, hD, h1⟩ := relyB_at init D 0 i o hB hi
    rw [Nat.zero_add] at h1
    exact ⟨dp, g, h1, relyAll_at _ _ _ i o dp g hA hi hD⟩
  -- once all of the first ones have come up
  have fin : ∀ (fuel : Nat) (listed : Array Bool) (a : Act) (w : World), (unl ops listed).length = fuel → (∀ j, init.length ≤ j → j < ops.size → listed.getD j true = false) → RelyInv ops T V a0 w0 listed a w → (∀ j, j < init.length → listed.getD j false = true) → wpAny P .any ops Q fuel listed a w := fun fuel listed a w hu hun inv hdone => by
    have h1 : wpList P ops Q tail a w := rely_all (Q' := fun a w => wpList P ops Q tail a w) inv
      (fun k o hk => ⟨hpre k o hk, hdone k (List.getElem?_eq_some_iff.1 hk).1⟩) (fun j hj => by
        rcases Nat.lt_or_ge j init.length with h | h
        · exact h
        · rcases Nat.lt_or_ge j ops.size with h' | h'
          · rw [getD_both (hun j h h')] at hj; cases hj
          · have : listed.getD j false = false := by simp [Array.getElem?_eq_none (show listed.size ≤ j by rw [inv.size]; omega)]
            rw [this] at hj; cases hj) hl (hE w inv.now)
    have hf : fuel = tail.length := by
      rw [← hu]
      unfold unl
      have e : (List.range ops.size).filter (fun i => !listed.getD i true) = List.range' init.length tail.length := by
        rw [List.range_eq_range', show ops.size = init.length + tail.length from hsz, ← List.range'_append_1, List.filter_append, List.filter_eq_nil_iff.2, List.filter_eq_self.2]
        · simp
        · intro i hi
          simp only [List.mem_range'_1] at hi
          rw [hun i (by omega) (by omega)]; rfl
        · intro i hi
          simp only [List.mem_range'_1] at hi
          have h2 := hdone i (by omega)
          have h3 : listed.getD i true = true := by
            have hlt : i < listed.size := by rw [inv.size]; omega
            simp [hlt] at h2 ⊢; exact h2
          rw [h3]; simp
      rw [e]; simp
    subst hf
    exact tail_seq hsplit htb tail.length 0 listed a w (by omega) inv.size (by simpa using hdone) (by simpa using hun) (by simpa using h1)
  intro fuel
  induction fuel with
  | zero =>
    intro listed a w hu hun inv
    have : init.length ∈ unl ops listed := by
      unfold unl; rw [List.mem_filter]; exact ⟨List.mem_range.2 (by omega), by rw [hun _ (Nat.le_refl _) (by omega)]; rfl⟩
    rw [List.eq_nil_of_length_eq_zero hu] at this
    cases this
  | succ fuel ih =>
    intro listed a w hu hun inv
    by_cases hdone : ∀ j, j < init.length → listed.getD j false = true
    · exact fin _ listed a w hu hun inv hdone
    · -- none of the last ones may come up yet
      have hlow : ∀ i, i ∈ Region.ready .any ops listed → i < init.length := fun i hi => by
        rcases Nat.lt_or_ge i init.length with h | h
        · exact h
        · exfalso
          obtain ⟨h0, o, ho, hall⟩ := mem_ready.1 hi
          have hilt := (Array.getElem?_eq_some_iff.1 ho).1
          by_cases him : i = init.length
          · subst him
            apply hdone
            have hd : ∀ (d j : Nat), init.length - j = d → j < init.length → listed.getD j false = true := fun d => by
              induction d using Nat.strongRecOn with
              | _ d ihd =>
                intro j hd hj
                have h1 := List.all_eq_true.1 hsink j (List.mem_range.2 hj)
                obtain ⟨t, ht1, ht2⟩ := List.any_eq_true.1 h1
                simp only [Bool.and_eq_true, decide_eq_true_eq] at ht2
                obtain ⟨ot, hot, e, he, hb, hon⟩ := Region.waitsFor_spec ht2.2
                have htle : t ≤ init.length := by have := List.mem_range.1 ht1; omega
                rw [← hon]
                by_cases htm : t = init.length
                · subst htm
                  have : ot = o := Option.some.inj (hot.symm.trans ho)
                  subst this
                  exact hall e he hb
                · exact inv.closed t ot hot (ihd (init.length - t) (by omega) t rfl (by omega)) e he hb
            exact fun j hj => hd _ j rfl hj
          · have h := List.all_eq_true.1 htb (i - init.length) (List.mem_range.2 (by omega))
            simp only [Bool.and_eq_true, Bool.or_eq_true, decide_eq_true_eq] at h
            rw [show init.length + (i - init.length) = i by omega] at h
            rcases h.2 with h | h
            · omega
            · obtain ⟨oi, hoi', e, he, hbe, hon⟩ := Region.waitsFor_spec h
              have : oi = o := Option.some.inj (hoi'.symm.trans ho)
              subst this
              have h1 := hall e he hbe
              rw [hon, getD_both (hun (i - 1) (by omega) (by omega))] at h1
              cases h1
      refine ⟨fun hr => ?_, fun i hi => ?_⟩
      · exfalso
        apply hdone
        intro i
        induction i using Nat.strongRecOn with
        | _ i ih =>
          intro hi
          cases hli : listed.getD i false with
          | true => rfl
          | false =>
            exfalso
            have hmem : i ∈ Region.ready .any ops listed := by
              rw [mem_ready]
              refine ⟨getD_in (by rw [inv.size]; omega) hli, init[i], hpre i _ (List.getElem?_eq_getElem hi), fun e he hb => ?_⟩
              obtain ⟨dp, g, h1, _⟩ := hat i init[i] (List.getElem?_eq_getElem hi)
              simp only [relyOne, Bool.and_eq_true] at h1
              have h2 := (Array.all_eq_true_iff_forall_mem.1 h1.1.1.2) e he
              simp only [hb, Bool.not_true, Bool.false_or, decide_eq_true_eq] at h2
              exact ih e.on h2 (by omega)
            rw [hr] at hmem
            cases hmem
      · have hi' := hlow i hi
        obtain ⟨h0, o, ho, hall⟩ := mem_ready.1 hi
        have hio : init[i]? = some o := by
          have := hpre i init[i] (List.getElem?_eq_getElem hi')
          rw [ho] at this
          rw [List.getElem?_eq_getElem hi', Option.some.inj this]
        obtain ⟨dp, g, h1, hstep⟩ := hat i o hio
        refine wpOp_mono (fun a' w' inv' => ih _ a' w' (by have := unl_set inv.size h0; omega) (fun j hj hj2 => by rw [getD_set_ne true (by omega)]; exact hun j hj hj2) inv') (rely_op hn ht ho h1 hstep h0 hall inv)
/-- **A region that draws its order, the last operations (from place m on) one behind the other.** -/
theorem wp_region_rely_tail {id : Nat} (T : World → World → Prop) (V : List (SV T)) (D : Deps) (n m : Nat) (hm : P.follows .mixedOrders = true) (hn : a0.tmps.size = n) (hlen : (ops.toList.take m).length = m) (hpos : 0 < (ops.toList.drop m).length) (hB : relyB ops n 0 (ops.toList.take m) D = true)
    (hsink : Region.sinkB .any ops m = true) (htb : tailB ops (ops.toList.drop m) m = true) (ht : ∀ a b c : World, T a b → T b c → T a c) (hd : T w0 w0.drew) (hl : m ≤ V.length)
    (hA : relyAll P Q T V a0 w0 (ops.toList.take m) D V) (hE : ∀ w, T w0 w → relyEnd (fun _ a w => wpList P ops Q (ops.toList.drop m) a w) T (ops.toList.take m) V a0 w) : (Code.region id ops true).wp P Q a0 w0 := by
  refine wp_region_any hm ?_
  refine wpAny_rely_tail (List.take_append_drop m ops.toList).symm hpos hn hB (by rw [hlen]; exact hsink) (by rw [hlen]; exact htb) ht (by rw [hlen]; exact hl) hA hE ops.size _ a0 w0.drew unl_start (fun j _ hj => by simp [hj]) (rely_start hd)
end
end Go.Proofs.YtphbjamfhmcjcaaDoor
/- A region in the text's order, gone through once: each operation has a condition on its value that later steps keep; beside them a relation on the world that steps on with the operations; the last operations may be left as they stand. No program is named here. -/
namespace Go.Proofs.YtphbjamfhmcjcaaDoor
open Go
set_option maxRecDepth 8000
set_option linter.all false

def seqStep (P : Program) (Q : Exit → Act → World → Prop) (T : World → World → Prop) (V : List (SV T)) (J : Nat → World → Prop) (a0 : Act) (w0 : World) (i : Nat) (o : Oper) (dp : List (Tmp × Option Nat)) (g : Option (Tmp × Bool)) (c : SV T) : Prop :=
  ∀ (a : Act) (w : World), T w0 w → relyFacts V a0 a w dp → J i w → ∀ K : Act → World → Prop, (∀ v w', T w w' → J (i + 1) w' → c.pred v w' → K (a.put o.dst v) w') →
    if relyGuard g a then o.wp P a w K Q else K (a.put o.dst undef) w
def seqAll (P : Program) (Q : Exit → Act → World → Prop) (T : World → World → Prop) (V : List (SV T)) (J : Nat → World → Prop) (a0 : Act) (w0 : World) : Nat → List Oper → Deps → List (SV T) → Prop
  | _, [], _, _ => True
  | i, o :: r, (dp, g) :: D, c :: C => seqStep P Q T V J a0 w0 i o dp g c ∧ seqAll P Q T V J a0 w0 (i + 1) r D C
  | _, _, _, _ => False
def seqOne (ops : Array Oper) (n m : Nat) (i : Nat) (o : Oper) (dp : List (Tmp × Option Nat)) (g : Option (Tmp × Bool)) : Bool :=
  (match o.dst with | some d => decide (d < n) && (List.range m).all (fun j => decide (j = i) || relyDst ops j != some d) | none => true) &&
  (dp.all fun x => match x.2 with
    | some j => relyDst ops j == some x.1 && decide (j < i)
    | none => (List.range i).all fun j => relyDst ops j != some x.1) &&
  (match o.guard, g with
    | none, none => true
    | some (k, b), some (d, b') => b == b' && relyDst ops k == some d && decide (d < n)
    | _, _ => false)
def seqB (ops : Array Oper) (n m : Nat) : Nat → List Oper → Deps → Bool
  | _, [], _ => true
  | i, o :: r, (dp, g) :: D => seqOne ops n m i o dp g && seqB ops n m (i + 1) r D
  | _, _, _ => false
section
variable {P : Program} {ops : Array Oper} {Q : Exit → Act → World → Prop} {T : World → World → Prop} {V : List (SV T)} {J : Nat → World → Prop} {a0 : Act} {w0 : World} {n m : Nat} {D : Deps} {init tail : List Oper}
theorem seqB_at : ∀ (l : List Oper) (D : Deps) (i k : Nat) (o : Oper), seqB ops n m i l D = true → l[k]? = some o → ∃ dp g, D[k]? = some (dp, g) ∧ seqOne ops n m (i + k) o dp g = true
  | [], _, _, _, _, _, h => by simp at h
  | x :: r, [], _, _, _, h, _ => by simp [seqB] at h
  | x :: r, (dp, g) :: D, i, 0, o, h, ho => by
    simp only [seqB, Bool.and_eq_true] at h
    simp at ho
    subst ho
    exact ⟨dp, g, rfl, h.1⟩
  | x :: r, (dp, g) :: D, i, k + 1, o, h, ho => by
    simp only [seqB, Bool.and_eq_true] at h
    obtain ⟨dp', g', hD, h'⟩ := seqB_at r D (i + 1) k o h.2 (by simpa using ho)
    exact ⟨dp', g', by simpa using hD, by rw [show i + (k + 1) = i + 1 + k by omega]; exact h'⟩
theorem seqAll_at : ∀ (l : List Oper) (D : Deps) (C : List (SV T)) (i k : Nat) (o : Oper) dp g, seqAll P Q T V J a0 w0 i l D C → l[k]? = some o → D[k]? = some (dp, g) → seqStep P Q T V J a0 w0 (i + k) o dp g (C.getD k SV.any)
  | [], _, _, _, _, _, _, _, _, h, _ => by simp at h
  | x :: r, [], _, _, _, _, _, _, h, _, _ => h.elim
  | x :: r, y :: D, [], _, _, _, _, _, h, _, _ => h.elim
  | x :: r, (dp, g) :: D, c :: C, i, 0, o, dp', g', h, ho, hD => by
    simp at ho hD
    obtain ⟨rfl, rfl⟩ := hD
    subst ho
    exact h.1
  | x :: r, (dp, g) :: D, c :: C, i, k + 1, o, dp', g', h, ho, hD => by
    have := seqAll_at r D C (i + 1) k o dp' g' h.2 (by simpa using ho) (by simpa using hD)
    rw [show i + (k + 1) = i + 1 + k by omega]
    simpa using this
structure SeqInv (ops : Array Oper) (T : World → World → Prop) (V : List (SV T)) (J : Nat → World → Prop) (a0 : Act) (w0 : World) (k : Nat) (a : Act) (w : World) : Prop where
  now : T w0 w
  at_ : J k w
  slots : a.tmps.size = a0.tmps.size
  defers : a.defers = a0.defers
  new : ∀ j d, j < k → relyDst ops j = some d → (V.getD j SV.any).pred (a.tmps.getD d undef) w
  old : ∀ d, (∀ j, j < k → relyDst ops j ≠ some d) → a.tmps.getD d undef = a0.tmps.getD d undef
theorem seq_op (hn : a0.tmps.size = n) (ht : ∀ a b c : World, T a b → T b c → T a c) {i : Nat} {o : Oper} {dp : List (Tmp × Option Nat)} {g : Option (Tmp × Bool)} {a : Act} {w : World}
    (him : i < m) (ho : ops[i]? = some o) (h1 : seqOne ops n m i o dp g = true) (hstep : seqStep P Q T V J a0 w0 i o dp g (V.getD i SV.any)) (inv : SeqInv ops T V J a0 w0 i a w) :
    wpOp P ops Q i (fun a' w' => SeqInv ops T V J a0 w0 (i + 1) a' w') a w := by
  simp only [seqOne, Bool.and_eq_true] at h1
  obtain ⟨⟨hdst, hdp⟩, hg⟩ := h1
  have hfacts : relyFacts V a0 a w dp := by
    clear hstep
    induction dp with
    | nil => trivial
    | cons x r ih2 =>
      simp only [List.all_cons, Bool.and_eq_true] at hdp
      obtain ⟨hx, hr⟩ := hdp
      obtain ⟨d, j⟩ := x
      cases j with
      | some j =>
        simp only [Bool.and_eq_true, beq_iff_eq, decide_eq_true_eq] at hx
        exact ⟨inv.new j d hx.2 hx.1, ih2 hr⟩
      | none =>
        refine ⟨inv.old d fun j hj => ?_, ih2 hr⟩
        simpa using List.all_eq_true.1 hx j (List.mem_range.2 hj)
  have hguard : Region.wanted o (yielded ops a.tmps) = relyGuard g a := by
    unfold Region.wanted
    cases hgo : o.guard with
    | none =>
      rw [hgo] at hg
      cases g with
      | none => rfl
      | some x => cases hg
    | some kb =>
      obtain ⟨k, b⟩ := kb
      rw [hgo] at hg
      cases g with
      | none => cases hg
      | some x =>
        obtain ⟨d, b'⟩ := x
        simp only [Bool.and_eq_true, beq_iff_eq, decide_eq_true_eq] at hg
        obtain ⟨⟨rfl, hd⟩, hlt⟩ := hg
        have hlt' : d < a.tmps.size := by rw [inv.slots, hn]; exact hlt
        have hd' : (ops[k]?).bind (·.dst) = some d := hd
        simp only [yielded, hd', Option.bind_some, relyGuard, Array.getD_eq_getD_getElem?, Array.getElem?_eq_getElem hlt', Option.getD_some]
        cases a.tmps[d] <;> simp
        all_goals (rename_i x; cases x <;> cases b <;> rfl)
  have next : ∀ v w', T w w' → J (i + 1) w' → (V.getD i SV.any).pred v w' → SeqInv ops T V J a0 w0 (i + 1) (a.put o.dst v) w' := fun v w' hT hJ hv => by
    refine ⟨ht _ _ _ inv.now hT, hJ, by cases o.dst <;> simp [Act.put, inv.slots], by cases o.dst <;> simp [Act.put, inv.defers], fun j d hji hj => ?_, fun d hno => ?_⟩
    · by_cases hij : i = j
      · subst hij
        have hd : o.dst = some d := by simpa [relyDst, ho] using hj
        rw [hd] at hdst
        simp only [Bool.and_eq_true, decide_eq_true_eq] at hdst
        have hlt : d < a.tmps.size := by rw [inv.slots, hn]; exact hdst.1
        rw [hd]
        simpa [Act.put, hlt] using hv
      · have h3 := (V.getD j SV.any).stable _ _ _ (inv.new j d (by omega) hj) hT
        cases hod : o.dst with
        | none => exact h3
        | some d0 =>
          rw [hod] at hdst
          simp only [Bool.and_eq_true, decide_eq_true_eq] at hdst
          have h4 := List.all_eq_true.1 hdst.2 j (List.mem_range.2 (by omega))
          simp only [Bool.or_eq_true, decide_eq_true_eq, bne_iff_ne, ne_eq] at h4
          have hne : d0 ≠ d := fun e => by
            subst e
            rcases h4 with h4 | h4
            · exact hij h4.symm
            · exact h4 hj
          simpa [Act.put, Array.getElem?_setIfInBounds_ne hne] using h3
    · have hni : o.dst ≠ some d := fun hd => hno i (by omega) (by simp [relyDst, ho, hd])
      have hold := inv.old d fun j hj => hno j (by omega)
      cases hod : o.dst with
      | none => exact hold
      | some d0 =>
        have hne : d0 ≠ d := fun e => hni (by rw [hod, e])
        simpa [Act.put, Array.getElem?_setIfInBounds_ne hne] using hold
  have hs := hstep a w inv.now hfacts inv.at_ _ next
  unfold wpOp
  simp only [ho, hguard]
  split
  · rename_i hw; rw [if_pos hw] at hs; exact .inl hs
  · rename_i hw; rw [if_neg hw] at hs; exact hs
theorem wpOps_tail : ∀ (t : List Oper) (k : Nat) (a : Act) (w : World), (∀ i : Nat, ops[k + i]? = t[i]?) → wpList P ops Q t a w → wpOps P ops Q (List.range' k t.length) a w
  | [], k, a, w, _, h => by simpa [wpOps, wpList] using h
  | o :: t, k, a, w, hk, h => by
    have hi : ops[k]? = some o := by simpa using hk 0
    rw [List.length_cons, List.range'_succ, wpOps_cons]
    refine wpOp_mono (fun a' w' h' => wpOps_tail t (k + 1) a' w' (fun i => by have := hk (i + 1); rw [show k + 1 + i = k + (i + 1) by omega]; simpa using this) h') ?_
    unfold wpOp
    simp only [hi]
    simpa only [wpList] using h
theorem wpOps_seq (hsplit : ops.toList = init ++ tail) (hn : a0.tmps.size = n) (hB : seqB ops n init.length 0 init D = true) (ht : ∀ a b c : World, T a b → T b c → T a c)
    (hl : init.length ≤ V.length) (hA : seqAll P Q T V J a0 w0 0 init D V) (hE : ∀ w, T w0 w → J init.length w → relyEnd (fun _ a w => wpList P ops Q tail a w) T init V a0 w) :
    ∀ (f k : Nat) (a : Act) (w : World), k + f = init.length → SeqInv ops T V J a0 w0 k a w → wpOps P ops Q (List.range' k (f + tail.length)) a w := by
  obtain ⟨hsz, hpre, htl⟩ := split_at hsplit
  intro f
  induction f with
  | zero =>
    intro k a w hk inv
    obtain rfl : k = init.length := by omega
    rw [Nat.zero_add]
    refine wpOps_tail tail init.length a w htl ?_
    refine relyEnd_of (Q := fun _ a w => wpList P ops Q tail a w) init V a0 inv.slots.symm inv.defers.symm hl (fun d hnd => ?_) (fun k o d hk hd => ?_) (hE w inv.now inv.at_)
    · refine (inv.old d fun j hj hjd => ?_).symm
      have hj2 := hpre j init[j] (List.getElem?_eq_getElem hj)
      simp [relyDst, hj2] at hjd
      exact hnd init[j] (List.getElem_mem hj) hjd
    · exact inv.new k d (List.getElem?_eq_some_iff.1 hk).1 (by simp [relyDst, hpre k o hk, hd])
  | succ f ih =>
    intro k a w hk inv
    rw [show f + 1 + tail.length = (f + tail.length) + 1 by omega, List.range'_succ, wpOps_cons]
    have hklt : k < init.length := by omega
    have hio : init[k]? = some init[k] := List.getElem?_eq_getElem hklt
    obtain ⟨dp, g, hD, h1⟩ := seqB_at init D 0 k _ hB hio
    have hstep := seqAll_at _ _ _ 0 k _ dp g hA hio hD
    rw [Nat.zero_add] at h1 hstep
    exact wpOp_mono (fun a' w' inv' => ih (k + 1) a' w' (by omega) inv') (seq_op hn ht hklt (hpre k _ hio) h1 hstep inv)
/-- **A region in the text's order; the operations from place m on are left as they stand.** -/
theorem wp_region_steps {id : Nat} (T : World → World → Prop) (J : Nat → World → Prop) (V : List (SV T)) (D : Deps) (n m : Nat) (hn : a0.tmps.size = n) (hlen : (ops.toList.take m).length = m) (hB : seqB ops n m 0 (ops.toList.take m) D = true)
    (ht : ∀ a b c : World, T a b → T b c → T a c) (hd : T w0 w0) (hJ : J 0 w0) (hl : m ≤ V.length)
    (hA : seqAll P Q T V J a0 w0 0 (ops.toList.take m) D V) (hE : ∀ w, T w0 w → J m w → relyEnd (fun _ a w => wpList P ops Q (ops.toList.drop m) a w) T (ops.toList.take m) V a0 w) : (Code.region id ops false).wp P Q a0 w0 := by
  refine wp_region ?_
  have hs := split_at (List.take_append_drop m ops.toList).symm
  rw [List.range_eq_range', hs.1]
  exact wpOps_seq (List.take_append_drop m ops.toList).symm hn (by rw [hlen]; exact hB) ht (by rw [hlen]; exact hl) hA (by rw [hlen]; exact hE) _ 0 a0 w0 (by omega) ⟨hd, hJ, rfl, rfl, fun j d hj => absurd hj (by omega), fun _ _ => rfl⟩
/-- Without a relation beside. -/
theorem seqAll_of : ∀ (i : Nat) (l : List Oper) (D : Deps) (C : List (SV T)), relyAll P Q T V a0 w0 l D C → seqAll P Q T V (fun _ _ => True) a0 w0 i l D C
  | _, [], _, _, _ => trivial
  | i, _ :: r, (_, _) :: D, _ :: C, h => ⟨fun a w hT hF _ K hK => h.1 a w hT hF K fun v w' h1 h2 => hK v w' h1 trivial h2, seqAll_of (i + 1) r D C h.2⟩
  | _, _ :: _, [], _, h => h.elim
  | _, _ :: _, _ :: _, [], h => h.elim
theorem wp_region_steps0 {id : Nat} (T : World → World → Prop) (V : List (SV T)) (D : Deps) (n m : Nat) (hn : a0.tmps.size = n) (hlen : (ops.toList.take m).length = m) (hB : seqB ops n m 0 (ops.toList.take m) D = true)
    (ht : ∀ a b c : World, T a b → T b c → T a c) (hd : T w0 w0) (hl : m ≤ V.length)
    (hA : relyAll P Q T V a0 w0 (ops.toList.take m) D V) (hE : ∀ w, T w0 w → relyEnd (fun _ a w => wpList P ops Q (ops.toList.drop m) a w) T (ops.toList.take m) V a0 w) : (Code.region id ops false).wp P Q a0 w0 :=
  wp_region_steps T (fun _ _ => True) V D n m hn hlen hB ht hd trivial hl (seqAll_of 0 _ _ _ hA) fun w hT _ => hE w hT
theorem wpList_end {a : Act} {w : World} {l : List Oper} (hl : l = []) (h : Q .normal a w) : wpList P ops Q l a w := by subst hl; exact h
end
end Go.Proofs.YtphbjamfhmcjcaaDoor
/- A step that writes one block; stores into a row, a lemma each. No program is named here. -/
namespace Go.Proofs.YtphbjamfhmcjcaaDoor
open Go Go.RowKit
set_option maxRecDepth 8000
set_option linter.all false

/-- A step that writes block R, and new memory, alone. -/
structure RT (R : Nat) (w w' : World) : Prop where
  below : Below R w w'
  keep : KeepBut [R] w w'
theorem RT.refl (R : Nat) (w : World) : RT R w w := ⟨Below.refl _ _, KeepBut.refl _ _⟩
theorem RT.trans {R : Nat} (a b c : World) (h : RT R a b) (k : RT R b c) : RT R a c := ⟨h.below.trans k.below, h.keep.trans k.keep⟩
theorem RT.new {R : Nat} {w w' : World} (hR : R < w.heap.size) (h : NewT w w') : RT R w w' := ⟨h.out.mono (by omega), KeepBut.below h⟩
theorem RT.drew (R : Nat) (w : World) : RT R w w.drew := ⟨(Below.refl _ _).drew, KeepBut.drew _⟩
theorem RT.setCell {R : Nat} (w : World) (o : Nat) (v : Value) : RT R w (w.setCell ⟨R, o, none⟩ v) := ⟨(Below.refl R w).setCell (p := ⟨R, o, none⟩) (Nat.le_refl R) v, KeepBut.setCell (by simp) v⟩
theorem RT.rd {R : Nat} {w w' : World} (h : RT R w w') {v : Value} {l : List UInt8} (hr : RdV w [R] v l) : RdV w' [R] v l := hr.keep h.keep
theorem RT.row {R : Nat} {w w' : World} (h : RT R w w') {b n : Nat} {t : TypeId} {f : Nat → Value} (hb : b ≠ R) (hr : w.rowIs b t n f) : w'.rowIs b t n f := h.keep.row (by simpa using hb) hr
theorem RT.size {R : Nat} {w w' : World} (h : RT R w w') : w.heap.size ≤ w'.heap.size := h.below.size
section
variable {P : Program} {ops : Array Oper} {rest : List Oper} {a : Act} {w : World} {Q : Exit → Act → World → Prop}
theorem wpList_new {o1 o2 : Oper} {t : TypeId} {n d0 : Nat} {y : Operand} {f f0 : Nat → Value} (hg1 : o1.guard = none) (hg2 : o2.guard = none) (h1 : o1.op = .alloc t) (hd : o1.dst = some d0) (h2 : o2.op = .store t (.tmp d0) y) (hd2 : o2.dst = none) (hlt : d0 < a.tmps.size)
    (hal : ∀ w : World, (Instr.alloc t true (.tuple #[])).run P w = .ok (.pointer (some ⟨w.heap.size, 0, none⟩)) (w.alloc (.cells (rowA n f0) t))) (hi : (P.info? t).map (·.size) = some n) (hone : ∀ i, (f i).oneCell' = true)
    (hy : (a.put (some d0) (.pointer (some ⟨w.heap.size, 0, none⟩))).eval y = .agg (rowA n f)) (h : ∀ w', NewT w w' → w'.rowIs w.heap.size t n f → wpList P ops Q rest (a.put (some d0) (.pointer (some ⟨w.heap.size, 0, none⟩))) w') : wpList P ops Q (o1 :: o2 :: rest) a w := by
  refine wpList_plain hg1 fun K hK => ?_
  obtain ⟨dst, op, type, pos, after, guard⟩ := o1
  simp only at h1 hd
  subst h1 hd
  refine opr_val (s := Instr.alloc t true (.tuple #[])) rfl (hal w) (hK _ _ ?_)
  have hr := rowIs_box w t n f0
  refine wpList_store_mid hg2 t (.tmp d0) y h2 w.heap.size 0 (rowA n f) (by rw [eval_tmp]; simp [Act.put, hlt]) hy (by rw [rowA_size]; exact there_row hr) (by rw [rowA_size]; exact hi) (rowA_one _ _ hone) ?_
  rw [hd2]
  exact h _ (below_setCells _ (Nat.le_refl _) _ _ _ (NewT.alloc _ _).out) (rowIs_setAll hr f)
end
section
variable {P : Program} {a : Act} {w : World} {o : Oper} {K : Act → World → Prop} {Q : Exit → Act → World → Prop}
theorem opr_put1 {t t' : TypeId} {x y : Operand} {g o0 n : Nat} {v : Value} {f0 F : Nat → Value} (ho : o.op = .store t x y) (hx : a.eval x = .pointer (some ⟨g, o0, none⟩)) (hy : a.eval y = v) (hr : w.rowIs g t' n f0) (hm : o0 < n) (hi : (P.info? t).map (·.size) = some 1) (hone : v.oneCell' = true)
    (hF : ∀ i, i < n → F i = if i = o0 then v else f0 i) (h : ∀ w', RT g w w' → w'.rowIs g t' n F → K (a.put o.dst undef) w') : o.wp P a w K Q := by
  obtain ⟨dst, op, type, pos, after, guard⟩ := o
  simp only at ho
  subst ho
  have hsz : (sizeOf t).run P w = .ok 1 w := by
    cases hq : P.info? t with
    | none => simp [hq] at hi
    | some i => simp [hq] at hi; simp [sizeOf, typeInfo, hq, hi]
  have hc := hr.cell hm
  have hf := hr.frozen o0
  have hcs : v.cells = #[v] := by cases v <;> first | rfl | simp [Value.oneCell'] at hone
  refine opr_unit (s := Instr.storeAt t (a.eval x) (a.eval y)) (w' := w.setCell ⟨g, o0, none⟩ v) rfl ?_ (h _ (RT.setCell w o0 v) ((hr.set o0 v).congr fun i hi => by rw [hF i hi]))
  rw [hx, hy]
  simp [Instr.storeAt, Instr.sureAddr, storeVar, hsz, hcs, storeCells, run_store _ _ _ _ _ hone, hc, hf, Addr.add_zero']
theorem RT.setCells {R : Nat} (vs : List Value) (o : Nat) (w : World) : RT R w (w.setCells R o vs) := by
  induction vs generalizing o w with
  | nil => exact RT.refl _ _
  | cons v r ih => rw [World.setCells]; exact RT.trans _ _ _ (RT.setCell w o v) (ih (o + 1) _)
theorem opr_putm {t t' : TypeId} {x y : Operand} {g o0 n m : Nat} {f f0 F : Nat → Value} (ho : o.op = .store t x y) (hx : a.eval x = .pointer (some ⟨g, o0, none⟩)) (hy : a.eval y = .agg (rowA m f)) (hr : w.rowIs g t' n f0) (hm : o0 + m ≤ n) (hi : (P.info? t).map (·.size) = some m) (hone : ∀ i, (f i).oneCell' = true)
    (hF : ∀ i, i < n → F i = if o0 ≤ i ∧ i < o0 + m then f (i - o0) else f0 i) (h : ∀ w', RT g w w' → w'.rowIs g t' n F → K (a.put o.dst undef) w') : o.wp P a w K Q := by
  refine wp_store_mid t x y ho g o0 (rowA m f) hx hy (by rw [rowA_size]; exact fun j hj => ⟨by simp [hr.cell (i := o0 + j) (by omega)], by simpa using hr.frozen (o0 + j)⟩) (by rw [rowA_size]; exact hi) (rowA_one _ _ hone) ?_
  refine h _ (RT.setCells _ _ _) ((rowIs_setCells_at hr (rowA m f).toList o0).congr fun i hi => ?_)
  rw [hF i hi, rowA_toList]
  simp only [List.length_map, List.length_range]
  by_cases h : o0 ≤ i ∧ i < o0 + m
  · rw [if_pos h, if_pos h]
    simp [show i - o0 < m by omega]
  · rw [if_neg h, if_neg h]
end
end Go.Proofs.YtphbjamfhmcjcaaDoor
/- What the guards of a region make conditional, and single operations, a lemma each: fields, loads, numbers compared. -/
namespace Go.Proofs.YtphbjamfhmcjcaaDoor
open Go Go.RowKit
set_option maxRecDepth 8000
set_option linter.all false

section
variable {P : Program} {a : Act} {w : World} {o : Oper} {K : Act → World → Prop} {Q : Exit → Act → World → Prop}
/-- A field's place. -/
theorem opr_fld {t : TypeId} {x : Operand} {k g o0 off m : Nat} {fs : Array Field} {f : Field} (hu : P.underlying t = some (.struct fs)) (hk : fs[k]? = some f) (hs : (P.info? f.type).map (·.size) = some (m + 1)) (ho : o.op = .fieldAddr t x k) (hx : a.eval x = .pointer (some ⟨g, o0, none⟩)) (hoff : o0 + f.offset = off) (h : K (a.put o.dst (.pointer (some ⟨g, off, none⟩))) w) : o.wp P a w K Q := by
  subst hoff
  obtain ⟨dst, op, type, pos, after, guard⟩ := o
  simp only at ho
  subst ho
  refine opr_val (s := Instr.fieldAt t (a.eval x) k) rfl ?_ h
  have hsz : (sizeOf f.type).run P w = .ok (m + 1) w := by
    cases hq : P.info? f.type with
    | none => simp [hq] at hs
    | some i => simp [hq] at hs; simp [sizeOf, typeInfo, hq, hs]
  rw [hx]
  simp [Instr.fieldAt, run_underlying hu, hk, Instr.sureAddr, fieldPlace, hsz, Addr.add_mid]
/-- A cell is loaded. -/
theorem opr_ld1 {t : TypeId} {x : Operand} {g o0 : Nat} {d : TypeDesc} {v : Value} (hu : P.underlying t = some d) (hd : d.isRow = false) (ho : o.op = .load t x) (hx : a.eval x = .pointer (some ⟨g, o0, none⟩)) (hc : w.cell? ⟨g, o0, none⟩ = some v) (h : K (a.put o.dst v) w) : o.wp P a w K Q := by
  obtain ⟨dst, op, type, pos, after, guard⟩ := o
  simp only at ho
  subst ho
  refine opr_val (s := Instr.loadAt t (a.eval x)) rfl ?_ h
  have hagg : (isAgg t).run P w = .ok false w := by
    unfold isAgg
    rw [Sem.run_bind, run_underlying hu w]
    cases d <;> simp_all
  rw [hx]
  simp [Instr.loadAt, Instr.sureAddr, loadVar, hagg, hc]
end
section
variable {a : Act} {w : World} {o : Oper} {K : Act → World → Prop} {Q : Exit → Act → World → Prop} {x : Operand} {g : Nat}
variable {F : Nat → Value} {t' : TypeId} {n : Nat} {o0 : Nat} {v : Value}
/-- Numbers are compared. -/
theorem opr_cmp {op : BinOp} {t t2 : TypeId} {x y : Operand} {m n : Int} {b : Bool} (hop : op = .eql ∧ (m == n) = b ∨ op = .neq ∧ (m != n) = b ∨ op = .leq ∧ decide (m ≤ n) = b ∨ op = .lss ∧ decide (m < n) = b ∨ op = .gtr ∧ decide (n < m) = b ∨ op = .geq ∧ decide (n ≤ m) = b) (_ht : Tryd.prog.underlying t = some (.int .i64)) (ho : o.op = .binOp op t x y t2) (hx : a.eval x = .int .i64 m) (hy : a.eval y = .int .i64 n) (h : K (a.put o.dst (.bool b)) w) : o.wp Tryd.prog a w K Q := by
  obtain ⟨dst, op', type, pos, after, guard⟩ := o
  simp only at ho
  subst ho
  refine opr_val (s := do eqGuard op t x y (a.eval x) (a.eval y); binOp op t (a.eval x) (a.eval y)) rfl ?_ h
  rw [hx, hy]
  rcases hop with ⟨rfl, rfl⟩ | ⟨rfl, rfl⟩ | ⟨rfl, rfl⟩ | ⟨rfl, rfl⟩ | ⟨rfl, rfl⟩ | ⟨rfl, rfl⟩ <;> simp [go_sem]
end
section
variable {a : Act} {w : World} {o : Oper} {K : Act → World → Prop} {Q : Exit → Act → World → Prop} {x y : Operand} {g : Nat}
/-- 'h[:]' of a hash that lies in a row. -/
theorem opr_sliceH {o0 : Nat} (ho : o.op = .slice 24 x none none none) (hx : a.eval x = .pointer (some ⟨g, o0, none⟩)) (h : K (a.put o.dst (.slice (some ⟨g, o0, none⟩) 32 32)) w) : o.wp Tryd.prog a w K Q := by
  obtain ⟨dst, op, type, pos, after, guard⟩ := o
  simp only at ho
  subst ho
  refine opr_val (s := Instr.sliceAt 24 (a.eval x) none none none) rfl ?_ h
  rw [hx]
  have hsz : (sizeOf 5).run Tryd.prog w = .ok 1 w := by
    have hs := info5s
    cases hq : Tryd.prog.info? 5 with
    | none => simp [hq] at hs
    | some i => simp [hq] at hs; simp [sizeOf, typeInfo, hq, hs]
  simp [Instr.sliceAt, run_underlying Tryd.underlying24, Instr.sureAddr, Instr.sliceBounds, hsz, Addr.add_zero']
theorem rd_rowH {t' n o0 : Nat} {F : Nat → Value} {d : Nat → UInt8} (hr : w.rowIs g t' n F) (hn : o0 + 32 ≤ n) (hv : ∀ j, j < 32 → F (o0 + j) = bF d j) : RdV w [] (.slice (some ⟨g, o0, none⟩) 32 32) (digL d) := by
  refine ⟨some ⟨g, o0, none⟩, 32, by rw [digL_length], by rw [digL_length]; exact Nat.le_refl _, by unfold maxLen; omega, fun _ => ⟨g, o0, rfl, by simp, fun i hi => ?_⟩⟩
  rw [digL_length] at hi
  rw [hr.cell (by omega), hv i hi, bF_at]
  simp [bAt, digL, hi]
theorem run_bs3 (A : Option Addr) (n c : Nat) (A2 : Option Addr) (n2 c2 : Nat) (A3 : Option Addr) (n3 c3 : Nat) (w : World) : (Instr.buildSlice 57 3 #[(0, .slice A n c), (1, .slice A2 n2 c2), (2, .slice A3 n3 c3)]).run Tryd.prog w = .ok (.slice (some ⟨w.heap.size, 0, none⟩) 3 3) (w.alloc (.cells #[.slice A n c, .slice A2 n2 c2, .slice A3 n3 c3] 22)) := by
  simp [go_sem]
theorem opr_bs3 {x1 x2 x3 : Operand} {l1 l2 l3 : List UInt8} (ho : o.op = .buildSlice 57 3 #[(0, x1), (1, x2), (2, x3)]) (h1 : RdV w [] (a.eval x1) l1) (h2 : RdV w [] (a.eval x2) l2) (h3 : RdV w [] (a.eval x3) l3) (h : ∀ v w', NewT w w' → Parts w' v [l1, l2, l3] → K (a.put o.dst v) w') : o.wp Tryd.prog a w K Q := by
  obtain ⟨dst, op, type, pos, after, guard⟩ := o
  simp only at ho
  subst ho
  obtain ⟨A1, c1, e1⟩ := rdV_form h1
  obtain ⟨A2, c2, e2⟩ := rdV_form h2
  obtain ⟨A3, c3, e3⟩ := rdV_form h3
  rw [e1] at h1
  rw [e2] at h2
  rw [e3] at h3
  exact opr_val (s := Instr.buildSlice 57 3 #[(0, a.eval x1), (1, a.eval x2), (2, a.eval x3)]) (by simp [execOp]) (by rw [e1, e2, e3]; exact run_bs3 _ _ _ _ _ _ _ _ _ w) (h _ _ (NewT.alloc _ _) ⟨[(.slice A1 l1.length c1, l1), (.slice A2 l2.length c2, l2), (.slice A3 l3.length c3, l3)], parts_new [(.slice A1 l1.length c1, l1), (.slice A2 l2.length c2, l2), (.slice A3 l3.length c3, l3)] 22 (by simp) (by simp) (by simp; exact ⟨h1, h2, h3⟩), rfl⟩)
end
end Go.Proofs.YtphbjamfhmcjcaaDoor
/- Merkle trees on lists, whatever a node's hash is: a list's root, a frontier's whole trees, and that they agree. No program is named. -/
namespace Go.Proofs.YtphbjamfhmcjcaaDoor
set_option maxRecDepth 8000
set_option linter.all false
/-- The greatest power of two below n; 0 of n below 2. -/
def splitN (n : Nat) : Nat := if n < 2 then 0 else 2 ^ (n - 1).log2
theorem splitN_eq (k m : Nat) (h0 : 0 < m) (h1 : m ≤ 2 ^ k) : splitN (2 ^ k + m) = 2 ^ k := by
  have hp : 0 < 2 ^ k := Nat.two_pow_pos k
  unfold splitN
  rw [if_neg (by omega)]
  have : (2 ^ k + m - 1).log2 = k := by
    rw [Nat.log2_eq_iff (by omega)]
    rw [Nat.pow_succ]
    omega
  rw [this]
theorem splitN_lt (n : Nat) (h : 2 ≤ n) : splitN n < n ∧ 0 < splitN n ∧ n ≤ 2 * splitN n := by
  unfold splitN
  rw [if_neg (by omega)]
  have h1 := Nat.two_pow_pos (n - 1).log2
  have h2 : 2 ^ (n - 1).log2 ≤ n - 1 := Nat.log2_self_le (by omega)
  have h3 : n - 1 < 2 ^ ((n - 1).log2 + 1) := Nat.lt_log2_self
  rw [Nat.pow_succ] at h3
  omega
section
variable {H : Type} (node : H → H → H) (z : H)
/-- A list's root. -/
def rootM (l : List H) : H :=
  if h : l.length < 2 then l.headD z
  else node (rootM (l.take (splitN l.length))) (rootM (l.drop (splitN l.length)))
termination_by l.length
decreasing_by
  · have := splitN_lt l.length (by omega); simp; omega
  · have := splitN_lt l.length (by omega); simp; omega
theorem rootM_nil : rootM node z [] = z := by unfold rootM; simp
theorem rootM_one (h : H) : rootM node z [h] = h := by unfold rootM; simp
theorem rootM_split (l : List H) (h : 2 ≤ l.length) : rootM node z l = node (rootM node z (l.take (splitN l.length))) (rootM node z (l.drop (splitN l.length))) := by
  rw [rootM, dif_neg (by omega)]
theorem rootM_app (a b : List H) (k : Nat) (ha : a.length = 2 ^ k) (h0 : 0 < b.length) (h1 : b.length ≤ 2 ^ k) : rootM node z (a ++ b) = node (rootM node z a) (rootM node z b) := by
  have hp : 0 < 2 ^ k := Nat.two_pow_pos k
  have e : splitN (a ++ b).length = a.length := by rw [List.length_append, ha]; exact splitN_eq k _ h0 h1
  rw [rootM_split node z (a ++ b) (by rw [List.length_append]; omega), e, List.take_left, List.drop_left]
/-- A frontier: whole trees, the greatest first, each with its height. -/
inductive Fr : List (Nat × H) → List H → Prop
  | nil : Fr [] []
  | cons {k : Nat} {l l' : List H} {F : List (Nat × H)} : l.length = 2 ^ k → (∀ p ∈ F, p.1 < k) → Fr F l' → Fr ((k, rootM node z l) :: F) (l ++ l')
variable {node z}
theorem Fr.lt {F : List (Nat × H)} {l : List H} (h : Fr node z F l) (k : Nat) (hk : ∀ p ∈ F, p.1 < k) : l.length < 2 ^ k := by
  induction h generalizing k with
  | nil => exact Nat.two_pow_pos k
  | @cons k' a b F ha hF _ ih =>
    have h1 := ih k' hF
    have h2 : k' < k := hk (k', rootM node z a) (by simp)
    have h3 : 2 ^ (k' + 1) ≤ 2 ^ k := Nat.pow_le_pow_right (by omega) h2
    rw [Nat.pow_succ] at h3
    rw [List.length_append]; omega
theorem Fr.pos {F : List (Nat × H)} {l : List H} (h : Fr node z F l) (hF : F ≠ []) : 0 < l.length := by
  cases h with
  | nil => exact absurd rfl hF
  | @cons k a b F ha _ _ => have := Nat.two_pow_pos k; rw [List.length_append]; omega
variable (node z)
/-- A frontier's root. -/
def rootF : List H → H
  | [] => z
  | [h] => h
  | h :: g :: r => node h (rootF (g :: r))
variable {node z}
/-- How many ones are in a number. -/
def onesN (n : Nat) : Nat := if h : n = 0 then 0 else n % 2 + onesN (n / 2)
termination_by n
theorem onesN_zero : onesN 0 = 0 := by unfold onesN; simp
theorem onesN_step (n : Nat) : onesN n = n % 2 + onesN (n / 2) := by
  by_cases h : n = 0
  · subst h; simp [onesN_zero]
  · rw [onesN, dif_neg h]
theorem onesN_pow (k : Nat) : ∀ m, m < 2 ^ k → onesN (2 ^ k + m) = 1 + onesN m := by
  induction k with
  | zero => intro m h; obtain rfl : m = 0 := by omega
            rw [onesN_step]
  | succ k ih =>
    intro m h
    rw [Nat.pow_succ] at h ⊢
    rw [onesN_step, onesN_step m]
    have e1 : (2 ^ k * 2 + m) % 2 = m % 2 := by omega
    have e2 : (2 ^ k * 2 + m) / 2 = 2 ^ k + m / 2 := by omega
    rw [e1, e2, ih (m / 2) (by omega)]
    omega
theorem Fr.ones {F : List (Nat × H)} {l : List H} (h : Fr node z F l) : F.length = onesN l.length := by
  induction h with
  | nil => simp [onesN_zero]
  | @cons k a b F ha hF hb ih =>
    rw [List.length_append, ha, onesN_pow k _ (hb.lt k hF), ← ih]; simp; omega
/-- Two frontiers side by side. -/
theorem Fr.append {F : List (Nat × H)} {l : List H} (h : Fr node z F l) : ∀ {G : List (Nat × H)} {m : List H}, Fr node z G m → (∀ p ∈ F, ∀ q ∈ G, q.1 < p.1) → Fr node z (F ++ G) (l ++ m) := by
  induction h with
  | nil => intro G m hG _; simpa using hG
  | @cons k a b F ha hF hb ih =>
    intro G m hG hlt
    rw [List.append_assoc]
    refine Fr.cons ha (fun p hp => ?_) (ih hG fun p hp q hq => hlt p (by simp [hp]) q hq)
    rcases List.mem_append.1 hp with hp | hp
    · exact hF p hp
    · exact hlt (k, rootM node z a) (by simp) p hp
theorem Fr.snoc_inv {F : List (Nat × H)} {k : Nat} {h : H} : ∀ {l : List H}, Fr node z (F ++ [(k, h)]) l → ∃ a b, l = a ++ b ∧ Fr node z F a ∧ b.length = 2 ^ k ∧ h = rootM node z b ∧ ∀ p ∈ F, k < p.1 := by
  induction F with
  | nil =>
    intro l hl
    cases hl with
    | cons ha _ hb => cases hb; exact ⟨[], _, by simp, .nil, ha, rfl, by simp⟩
  | cons p F ih =>
    intro l hl
    cases hl with
    | @cons k' x y F' ha hF hb =>
      obtain ⟨a, b, rfl, h1, h2, h3, h4⟩ := ih hb
      refine ⟨x ++ a, b, by simp, .cons ha (fun q hq => hF q (by simp [hq])) h1, h2, h3, ?_⟩
      intro q hq
      rcases List.mem_cons.1 hq with rfl | hq
      · exact hF (k, h) (by simp)
      · exact h4 q hq
variable (node)
/-- One whole tree more, at a frontier's end (the smallest first): trees of one height are joined. -/
def addR : Nat → H → List (Nat × H) → List (Nat × H)
  | k, h, [] => [(k, h)]
  | k, h, (k', h') :: S => if k' = k then addR (k + 1) (node h' h) S else (k, h) :: (k', h') :: S
variable {node}
theorem addR_fr (S : List (Nat × H)) : ∀ (k : Nat) (b l : List H), b.length = 2 ^ k → Fr node z S.reverse l → (∀ p ∈ S, k ≤ p.1) → Fr node z (addR node k (rootM node z b) S).reverse (l ++ b) := by
  induction S with
  | nil => intro k b l hb hl _
           cases hl
           have := Fr.cons (node := node) (z := z) (F := []) hb (by simp) .nil
           simpa [addR] using this
  | cons p S ih =>
    intro k b l hb hl hk
    obtain ⟨k', h'⟩ := p
    rw [List.reverse_cons] at hl
    obtain ⟨a, c, rfl, h1, h2, h3, h4⟩ := hl.snoc_inv
    unfold addR
    by_cases he : k' = k
    · subst he
      rw [if_pos rfl, h3, ← rootM_app node z c b k' h2 (by have := Nat.two_pow_pos k'; omega) (by omega), List.append_assoc]
      refine ih (k' + 1) (c ++ b) a (by rw [List.length_append, h2, hb, Nat.pow_succ]; omega) h1 (fun p hp => ?_)
      exact h4 p (by simpa using hp)
    · rw [if_neg he, List.reverse_cons, List.reverse_cons]
      have hk' : k < k' := by have := hk (k', h') (by simp); simp at this; omega
      have h5 : Fr node z [(k, rootM node z b)] b := by simpa using Fr.cons (node := node) (z := z) (F := []) hb (by simp) .nil
      refine hl.append h5 (fun p hp q hq => ?_)
      obtain rfl : q = (k, rootM node z b) := by simpa using hq
      rcases List.mem_append.1 hp with hp | hp
      · have := h4 p hp; simp; omega
      · obtain rfl : p = (k', h') := by simpa using hp
        simpa using hk'
/-- A leaf more. -/
theorem addR_one (S : List (Nat × H)) (h : H) (l : List H) (hl : Fr node z S.reverse l) : Fr node z (addR node 0 h S).reverse (l ++ [h]) := by
  have := addR_fr S 0 [h] l rfl hl (fun _ _ => Nat.zero_le _)
  rwa [rootM_one] at this
/-- A whole tree's frontier is one root. -/
theorem Fr.whole {F : List (Nat × H)} {l : List H} (h : Fr node z F l) (k : Nat) (hl : l.length = 2 ^ k) : F = [(k, rootM node z l)] := by
  cases h with
  | nil => have := Nat.two_pow_pos k; simp at hl; omega
  | @cons k' a b F ha hF hb =>
    have h1 := hb.lt k' hF
    rw [List.length_append, ha] at hl
    have hk : k' = k := by
      rcases Nat.lt_trichotomy k' k with h | h | h
      · have : 2 ^ (k' + 1) ≤ 2 ^ k := Nat.pow_le_pow_right (by omega) h
        rw [Nat.pow_succ] at this; omega
      · exact h
      · have : 2 ^ (k + 1) ≤ 2 ^ k' := Nat.pow_le_pow_right (by omega) h
        rw [Nat.pow_succ] at this; omega
    subst hk
    have hb0 : b.length = 0 := by omega
    cases hb with
    | nil => simp
    | cons hc _ _ => have := Nat.two_pow_pos ‹Nat›; simp at hb0; rw [hb0.1] at hc; simp at hc; omega
variable (node z)
/-- The roots of a list's whole trees, the greatest first. -/
def treesM (l : List H) : List H :=
  if h : l.length = 0 then [] else rootM node z (l.take (2 ^ l.length.log2)) :: treesM (l.drop (2 ^ l.length.log2))
termination_by l.length
decreasing_by have := Nat.two_pow_pos l.length.log2; simp; omega
variable {node z}
theorem Fr.trees {F : List (Nat × H)} {l : List H} (h : Fr node z F l) : F.map (·.2) = treesM node z l := by
  induction h with
  | nil => unfold treesM; simp
  | @cons k a b F ha hF hb ih =>
    have hp := Nat.two_pow_pos k
    have h1 := hb.lt k hF
    have e : (a ++ b).length.log2 = k := by rw [List.length_append, ha, Nat.log2_eq_iff (by omega), Nat.pow_succ]; omega
    rw [treesM, dif_neg (by rw [List.length_append]; omega), e, ← ha, List.take_left, List.drop_left, ← ih]
    rfl
/-- Every list has a frontier, that which its leaves make one by one. -/
theorem fr_all (l : List H) : ∃ S : List (Nat × H), Fr node z S.reverse l ∧ S = l.foldl (fun S h => addR node 0 h S) [] := by
  suffices ∀ (m l : List H) (S : List (Nat × H)), Fr node z S.reverse l → Fr node z (m.foldl (fun S h => addR node 0 h S) S).reverse (l ++ m) by
    exact ⟨_, by simpa using this l [] [] .nil, rfl⟩
  intro m
  induction m with
  | nil => intro l S h; simpa using h
  | cons x m ih => intro l S h; have := ih (l ++ [x]) _ (addR_one S x l h); simpa using this
variable (node)
variable {node}
end
end Go.Proofs.YtphbjamfhmcjcaaDoor
/- Slices of hashes that read as lists: elements, parts, new ones, appends. -/
namespace Go.Proofs.YtphbjamfhmcjcaaDoor
open Go Go.RowKit
set_option maxRecDepth 8000
set_option linter.all false

/-- A hash, byte by byte. -/
abbrev Hs := Nat → UInt8
/-- A slice of hashes reads as l. -/
def RdH (W : World) (v : Value) (l : List Hs) : Prop :=
  ∃ A cap, v = .slice A l.length cap ∧ l.length ≤ cap ∧ cap ≤ maxLen ∧ (0 < l.length → ∃ b o, A = some ⟨b, o, none⟩ ∧ ∀ i d, l[i]? = some d → ∀ j, j < 32 → W.cell? ⟨b, o + i * 32 + j, none⟩ = some (bF d j))
theorem NewT.hs {w w' : World} (h : NewT w w') {v : Value} {l : List Hs} (hr : RdH w v l) : RdH w' v l := by
  obtain ⟨A, cap, hv, h1, h2, h3⟩ := hr
  refine ⟨A, cap, hv, h1, h2, fun h0 => ?_⟩
  obtain ⟨b, o, hA, hc⟩ := h3 h0
  exact ⟨b, o, hA, fun i d hd j hj => (h.out.cell (p := ⟨b, o + i * 32 + j, none⟩) (World.block_lt_of_cell? _ _ (hc i d hd j hj))).trans (hc i d hd j hj)⟩
def svH (l : List Hs) : SV NewT := ⟨fun v w => RdH w v l, fun _ _ _ h hT => hT.hs h⟩
theorem rdH_form {w : World} {v : Value} {l : List Hs} (h : RdH w v l) : ∃ A c, v = .slice A l.length c := by
  obtain ⟨A, c, hv, _⟩ := h; exact ⟨A, c, hv⟩
theorem rdH_nil (w : World) : RdH w (.slice none 0 0) [] := ⟨none, 0, rfl, Nat.le_refl _, by unfold maxLen; omega, fun h => absurd h (by simp)⟩
/-- The cells of hashes, one behind the other. -/
def hcs (l : List Hs) : List Value := l.flatMap fun d => (List.range 32).map (bF d)
theorem hcs_length (l : List Hs) : (hcs l).length = l.length * 32 := by
  induction l with
  | nil => rfl
  | cons d l ih => rw [hcs, List.flatMap_cons, List.length_append, show (l.flatMap fun d => (List.range 32).map (bF d)) = hcs l from rfl, ih]; simp; omega
theorem hcs_app (a b : List Hs) : hcs (a ++ b) = hcs a ++ hcs b := by simp [hcs]
theorem hcs_at (l : List Hs) : ∀ (i : Nat) (d : Hs), l[i]? = some d → ∀ j, j < 32 → (hcs l)[i * 32 + j]? = some (bF d j) := by
  induction l with
  | nil => intro i d h; simp at h
  | cons e l ih =>
    intro i d h j hj
    have hl : ((List.range 32).map (bF e)).length = 32 := by simp
    rw [show hcs (e :: l) = (List.range 32).map (bF e) ++ hcs l from rfl]
    cases i with
    | zero => simp at h; subst h; rw [List.getElem?_append_left (by rw [hl]; omega)]; simp [hj]
    | succ i => rw [List.getElem?_append_right (by rw [hl]; omega), hl, show (i + 1) * 32 + j - 32 = i * 32 + j by omega]; exact ih i d (by simpa using h) j hj
theorem hcs_one_cell (l : List Hs) : ∀ u ∈ hcs l, u.oneCell' = true := by
  intro u hu
  obtain ⟨d, _, h⟩ := List.mem_flatMap.1 hu
  obtain ⟨j, _, rfl⟩ := List.mem_map.1 h
  rfl
theorem hcs_take (l : List Hs) (n : Nat) (h : n ≤ l.length) : (hcs l).take (n * 32) = hcs (l.take n) := by
  have e := hcs_app (l.take n) (l.drop n)
  rw [List.take_append_drop] at e
  have hl : (hcs (l.take n)).length = n * 32 := by rw [hcs_length, List.length_take]; congr 1; omega
  rw [e, ← hl, List.take_left]
/-- The cells that a slice of hashes reads, as a list. -/
theorem RdH.news {w : World} {l : List Hs} {b o n c : Nat} (h : RdH w (.slice (some ⟨b, o, none⟩) n c) l) : ∀ j u, (hcs l)[j]? = some u → w.cell? ((⟨b, o, none⟩ : Addr).add j) = some u := by
  intro j u hj
  obtain ⟨A, cap, hv, _, _, h3⟩ := h
  have hlt : j < l.length * 32 := by rw [← hcs_length]; exact (List.getElem?_eq_some_iff.1 hj).1
  obtain ⟨b', o', hA, hc⟩ := h3 (by omega)
  injection hv with e1 _ _
  rw [hA] at e1
  cases e1
  have hi : j / 32 < l.length := by omega
  have hd : l[j / 32]? = some l[j / 32] := List.getElem?_eq_getElem hi
  have h1 := hcs_at l _ _ hd (j % 32) (by omega)
  rw [show j / 32 * 32 + j % 32 = j by omega] at h1
  rw [h1] at hj
  cases hj
  have := hc _ _ hd (j % 32) (by omega)
  rw [Addr.add_mid, show o + j = o + j / 32 * 32 + j % 32 by omega]
  exact this
/-- A row of hashes of the call's own reads as a list. -/
theorem rdH_own {W : World} {base : Nat} {v : Value} {l : List Hs} (h : W.ownsRow base 24 32 v l.length (hcs l)) : RdH W v l := by
  rcases h.2 with ⟨rfl, h0⟩ | ⟨g, cap, cur, rfl, hb, _, hnc, hcm, _, _⟩
  · have : l = [] := List.eq_nil_of_length_eq_zero h0
    subst this
    exact rdH_nil W
  · refine ⟨some ⟨g, 0, none⟩, cap, rfl, hnc, hcm, fun _ => ⟨g, 0, rfl, fun i d hd j hj => ?_⟩⟩
    have hc := h.cells (g := g) rfl (i * 32 + j) _ (hcs_at l i d hd j hj)
    rw [Addr.add_mid] at hc
    rw [Nat.add_assoc]; exact hc
/-- A row of cells that holds hashes reads as a list. -/
theorem rdH_row {W : World} {g t n : Nat} {f : Nat → Value} {l : List Hs} (h : W.rowIs g t n f) (hn : l.length * 32 ≤ n) (hm : l.length ≤ maxLen) (hf : ∀ i d, l[i]? = some d → ∀ j, j < 32 → f (i * 32 + j) = bF d j) : RdH W (.slice (some ⟨g, 0, none⟩) l.length l.length) l := by
  refine ⟨some ⟨g, 0, none⟩, l.length, rfl, Nat.le_refl _, hm, fun _ => ⟨g, 0, rfl, fun i d hd j hj => ?_⟩⟩
  have hi : i < l.length := (List.getElem?_eq_some_iff.1 hd).1
  rw [show 0 + i * 32 + j = i * 32 + j by omega, h.cell (by omega), hf i d hd j hj]
theorem size_hash : (Tryd.prog.info? 24).map (·.size) = some 32 := info31
theorem run_size_hash (w : World) : (sizeOf 24).run Tryd.prog w = .ok 32 w := by
  have hs := size_hash
  cases hq : Tryd.prog.info? 24 with
  | none => simp [hq] at hs
  | some i => simp [hq] at hs; simp [sizeOf, typeInfo, hq, hs]
section
variable {a : Act} {w : World} {o : Oper} {K : Act → World → Prop} {Q : Exit → Act → World → Prop} {x y : Operand}
theorem opr_len_h {l : List Hs} (ho : o.op = .call { callee := .builtin .len, args := #[x], argTypes := #[31] }) (hx : RdH w (a.eval x) l) (h : K (a.put o.dst (.int .i64 (l.length : Int))) w) : o.wp Tryd.prog a w K Q := by
  obtain ⟨A, c, hv, _⟩ := hx
  exact opr_len ho Tryd.underlying31 hv h
theorem run_idxH {b off n c i : Nat} (w : World) (hi : i < n) : (Instr.indexAt 31 (.slice (some ⟨b, off, none⟩) n c) (.int .i64 (i : Int))).run Tryd.prog w = .ok (.pointer (some ⟨b, off + i * 32, none⟩)) w := by
  simp [Instr.indexAt, asIntOf, run_underlying Tryd.underlying31, run_size_hash, hi, Addr.add_mid]
/-- An element's place: where the hash d lies. -/
def svP (d : Hs) : SV NewT := ⟨fun v w => ∃ b off, v = .pointer (some ⟨b, off, none⟩) ∧ ∀ j, j < 32 → w.cell? ⟨b, off + j, none⟩ = some (bF d j), fun _ w w' h hT => by
  obtain ⟨b, off, hv, hc⟩ := h
  exact ⟨b, off, hv, fun j hj => (hT.out.cell (p := ⟨b, off + j, none⟩) (World.block_lt_of_cell? _ _ (hc j hj))).trans (hc j hj)⟩⟩
theorem opr_idxH {l : List Hs} {i : Nat} {n : Int} {d : Hs} (hd : l[i]? = some d) (hn : n = (i : Int)) (ho : o.op = .indexAddr 31 x y) (hx : RdH w (a.eval x) l) (hy : a.eval y = .int .i64 n) (h : ∀ v, (svP d).pred v w → K (a.put o.dst v) w) : o.wp Tryd.prog a w K Q := by
  subst hn
  obtain ⟨dst, op, type, pos, after, guard⟩ := o
  simp only at ho
  subst ho
  obtain ⟨A, c, hv, _, _, h3⟩ := hx
  have hi : i < l.length := (List.getElem?_eq_some_iff.1 hd).1
  obtain ⟨b, off, rfl, hc⟩ := h3 (by omega)
  exact opr_val (s := Instr.indexAt 31 (a.eval x) (a.eval y)) rfl (by rw [hv, hy]; exact run_idxH w hi) (h _ ⟨b, off + i * 32, rfl, fun j hj => hc i d hd j hj⟩)
theorem run_ldH_at {b off : Nat} {d : Hs} {w : World} (hc : ∀ j, j < 32 → w.cell? ⟨b, off + j, none⟩ = some (bF d j)) : (Instr.loadAt 24 (.pointer (some ⟨b, off, none⟩))).run Tryd.prog w = .ok (.agg (rowA 32 (bF d))) w := by
  have hr : w.rangeAt b off (rowA 32 (bF d)).toList := fun j v hv => by
    rw [rowA_toList] at hv
    have hj : j < 32 := by have := (List.getElem?_eq_some_iff.1 hv).1; simpa using this
    simp [hj] at hv
    subst hv
    exact hc j hj
  have := run_loadAt_mid (P := Tryd.prog) w b off 24 (rowA 32 (bF d)).toList _ hr Tryd.underlying24 rfl (by rw [rowA_toList]; simpa using info31)
  simpa using this
theorem opr_ldP {d : Hs} (ho : o.op = .load 24 x) (hx : (svP d).pred (a.eval x) w) (h : K (a.put o.dst (.agg (rowA 32 (bF d)))) w) : o.wp Tryd.prog a w K Q := by
  obtain ⟨dst, op, type, pos, after, guard⟩ := o
  simp only at ho
  subst ho
  obtain ⟨b, off, hv, hc⟩ := hx
  exact opr_val (s := Instr.loadAt 24 (a.eval x)) rfl (by rw [hv]; exact run_ldH_at hc) h
theorem run_toH {A : Option Addr} {n c k : Nat} (w : World) (hk : k ≤ n) (hn : n ≤ c) : (Instr.slice 31 (.slice A n c) none (some (.int .i64 (k : Int))) none).run Tryd.prog w = .ok (.slice A k c) w := by
  have h1 : k ≤ c := by omega
  have e : A.map (fun a => a.add 0) = A := by cases A <;> simp [Addr.add_zero']
  by_cases hc0 : c = 0
  · obtain rfl : k = 0 := by omega
    subst hc0; simp [Instr.slice, run_underlying Tryd.underlying31, Instr.sliceBounds, Instr.sliceBound, asIntOf, run_size_hash, h1]
  · simp [Instr.slice, run_underlying Tryd.underlying31, Instr.sliceBounds, Instr.sliceBound, asIntOf, run_size_hash, h1, hc0, e]
theorem run_fromH {A : Option Addr} {n c k : Nat} (w : World) (hk : k ≤ n) : (Instr.slice 31 (.slice A n c) (some (.int .i64 (k : Int))) none none).run Tryd.prog w = .ok (.slice (if c = k then A else A.map (·.add (k * 32))) (n - k) (c - k)) w := by
  have h1 : k ≤ n := hk
  by_cases hc : c = k
  · simp [Instr.slice, run_underlying Tryd.underlying31, Instr.sliceBounds, Instr.sliceBound, asIntOf, run_size_hash, h1, hc]
  · simp [Instr.slice, run_underlying Tryd.underlying31, Instr.sliceBounds, Instr.sliceBound, asIntOf, run_size_hash, h1, hc]
theorem rdH_take {A : Option Addr} {l : List Hs} {c k : Nat} (h : RdH w (.slice A l.length c) l) (hk : k ≤ l.length) : RdH w (.slice A k c) (l.take k) := by
  obtain ⟨A', c', hv, h1, h2, h3⟩ := h
  cases hv
  have hl : (l.take k).length = k := by rw [List.length_take]; omega
  refine ⟨A, c, by rw [hl], by rw [hl]; omega, h2, fun h0 => ?_⟩
  rw [hl] at h0
  obtain ⟨b, off, hA, hc⟩ := h3 (by omega)
  refine ⟨b, off, hA, fun i d hd j hj => hc i d ?_ j hj⟩
  rw [List.getElem?_take] at hd
  split at hd
  · exact hd
  · cases hd
theorem rdH_drop {A : Option Addr} {l : List Hs} {c k : Nat} (h : RdH w (.slice A l.length c) l) (hk : k ≤ l.length) : RdH w (.slice (if c = k then A else A.map (·.add (k * 32))) (l.length - k) (c - k)) (l.drop k) := by
  obtain ⟨A', c', hv, h1, h2, h3⟩ := h
  cases hv
  have hl : (l.drop k).length = l.length - k := by simp
  refine ⟨_, c - k, by rw [hl], by rw [hl]; omega, by omega, fun h0 => ?_⟩
  rw [hl] at h0
  obtain ⟨b, off, rfl, hc⟩ := h3 (by omega)
  refine ⟨b, off + k * 32, by rw [if_neg (by omega)]; simp [Addr.add_mid], fun i d hd j hj => ?_⟩
  have := hc (k + i) d (by simpa using hd) j hj
  rw [show off + k * 32 + i * 32 + j = off + (k + i) * 32 + j by omega]
  exact this
/-- 'l[:k]'. -/
theorem opr_toH {l : List Hs} {k : Nat} {n : Int} (hk : k ≤ l.length) (hn : n = (k : Int)) (ho : o.op = .slice 31 x none (some y) none) (hx : RdH w (a.eval x) l) (hy : a.eval y = .int .i64 n) (h : ∀ v, RdH w v (l.take k) → K (a.put o.dst v) w) : o.wp Tryd.prog a w K Q := by
  subst hn
  obtain ⟨dst, op, type, pos, after, guard⟩ := o
  simp only at ho
  subst ho
  obtain ⟨A, c, hv⟩ := rdH_form hx
  have hc : l.length ≤ c := by obtain ⟨A', c', hv', h1, _⟩ := hx; rw [hv] at hv'; cases hv'; exact h1
  rw [hv] at hx
  exact opr_val (s := Instr.sliceAt 31 (a.eval x) none (some (a.eval y)) none) (by simp [execOp]) (by rw [hv, hy]; simp [Instr.sliceAt, run_underlying Tryd.underlying31]; exact run_toH w hk hc) (h _ (rdH_take hx hk))
/-- 'l[k:]'. -/
theorem opr_fromH {l : List Hs} {k : Nat} {n : Int} (hk : k ≤ l.length) (hn : n = (k : Int)) (ho : o.op = .slice 31 x (some y) none none) (hx : RdH w (a.eval x) l) (hy : a.eval y = .int .i64 n) (h : ∀ v, RdH w v (l.drop k) → K (a.put o.dst v) w) : o.wp Tryd.prog a w K Q := by
  subst hn
  obtain ⟨dst, op, type, pos, after, guard⟩ := o
  simp only at ho
  subst ho
  obtain ⟨A, c, hv⟩ := rdH_form hx
  rw [hv] at hx
  exact opr_val (s := Instr.sliceAt 31 (a.eval x) (some (a.eval y)) none none) (by simp [execOp]) (by rw [hv, hy]; simp [Instr.sliceAt, run_underlying Tryd.underlying31]; exact run_fromH w hk) (h _ (rdH_drop hx hk))
end
end Go.Proofs.YtphbjamfhmcjcaaDoor
/- New slices of hashes, and appends onto a call's own. -/
namespace Go.Proofs.YtphbjamfhmcjcaaDoor
open Go Go.RowKit
set_option maxRecDepth 8000
set_option linter.all false

theorem infoH : (Tryd.prog.info? 24).map (fun i => (i.zero, i.size, i.bytes)) = some (some (.agg (rowA 32 (bF fun _ => 0))), 32, 32) := by kernel_rfl
theorem run_bsH1 (d : Hs) (w : World) : (Instr.buildSlice 31 1 #[(0, .agg (rowA 32 (bF d)))]).run Tryd.prog w = .ok (.slice (some ⟨w.heap.size, 0, none⟩) 1 1) (w.alloc (.cells (rowA 32 (bF d)) 24)) := by kernel_rfl
theorem run_bsH2 (d e : Hs) (w : World) : (Instr.buildSlice 31 2 #[(0, .agg (rowA 32 (bF d))), (1, .agg (rowA 32 (bF e)))]).run Tryd.prog w = .ok (.slice (some ⟨w.heap.size, 0, none⟩) 2 2) (w.alloc (.cells (rowA 64 fun i => bif Nat.blt i 32 then bF d i else bF e (i - 32)) 24)) := by kernel_rfl
/-- A row of hashes of the call's own, in blocks from B on. -/
def OwnH (W : World) (B : Nat) (v : Value) (l : List Hs) : Prop := W.ownsRow B 24 32 v l.length (hcs l)
theorem OwnH.rd {W : World} {B : Nat} {v : Value} {l : List Hs} (h : OwnH W B v l) : RdH W v l := rdH_own h
theorem ownH_nil (W : World) (B : Nat) : OwnH W B (.slice none 0 0) [] := World.ownsRow_nil W B _ _
theorem OwnH.lt {W : World} {B : Nat} {v : Value} {l : List Hs} (h : OwnH W B v l) : ∀ k, v.ownBlock = some k → B ≤ k ∧ k < W.heap.size := World.ownsRow.lt h
theorem OwnH.keep {W W' : World} {B : Nat} {v : Value} {l : List Hs} (h : OwnH W B v l) (hk : ∀ k, v.ownBlock = some k → W'.heap[k]? = W.heap[k]?) : OwnH W' B v l := by
  obtain ⟨h1, h2⟩ := h
  refine ⟨h1, ?_⟩
  rcases h2 with h2 | ⟨g, cap, cur, hv, hb, hg, r⟩
  · exact .inl h2
  · exact .inr ⟨g, cap, cur, hv, hb, (hk g (by rw [hv]; rfl)).trans hg, r⟩
theorem OwnH.new {W W' : World} {B : Nat} {v : Value} {l : List Hs} (h : OwnH W B v l) (hN : NewT W W') : OwnH W' B v l := h.keep fun k hk => hN.out.block k (h.lt k hk).2
theorem OwnH.cap {W : World} {B : Nat} {v : Value} {l : List Hs} (h : OwnH W B v l) : ∃ A c, v = .slice A l.length c ∧ l.length ≤ c := by
  rcases h.2 with ⟨hv, h0⟩ | ⟨g, cap, cur, hv, _, _, hc, _⟩
  · exact ⟨none, 0, by rw [hv, h0], by omega⟩
  · exact ⟨_, cap, hv, hc⟩
/-- The last ones are left off. -/
theorem OwnH.take {W : World} {B : Nat} {A : Option Addr} {n c k : Nat} {l : List Hs} (h : OwnH W B (.slice A n c) l) (hk : k ≤ l.length) (h0 : 0 < l.length) : OwnH W B (.slice A k c) (l.take k) := by
  have hl : (l.take k).length = k := by rw [List.length_take]; omega
  refine ⟨hcs_length _, ?_⟩
  rcases h.2 with ⟨_, h2⟩ | ⟨g, cap, cur, hv, hb, hg, hc, hm, hs, hx⟩
  · omega
  · cases hv
    refine .inr ⟨g, c, cur, by rw [hl], hb, hg, by rw [hl]; omega, hm, hs, ?_⟩
    have e := congrArg (List.take (k * 32)) hx
    rw [List.take_take, hcs_take l k hk, Nat.min_eq_left (Nat.mul_le_mul_right 32 hk)] at e
    rw [hl]; exact e
theorem run_appH {W : World} {B : Nat} {v u : Value} {l m : List Hs} (h : OwnH W B v l) (hr : RdH W u m) (hn : l.length + m.length ≤ 1000000) (hB : B ≤ W.heap.size) (ty : TypeId) :
    ∃ v' w', (Builtin.append_ #[31, 31] ty #[v, u]).run Tryd.prog W = .ok v' w' ∧ OwnH w' B v' (l ++ m) ∧ W.grownBy w' v.ownBlock := by
  obtain ⟨i0, hi, hz0, hz1, hz2⟩ := info_parts infoH
  have hr0 := hr
  obtain ⟨A, cap, rfl, h1, h2, h3⟩ := hr
  cases A with
  | none =>
    have h0 : m = [] := by
      cases m with
      | nil => rfl
      | cons b l => obtain ⟨_, _, h, _⟩ := h3 (by simp); cases h
    subst h0
    refine ⟨v, W, ?_, by simpa using h, World.grownBy.refl W _⟩
    rcases h.2 with ⟨rfl, h0⟩ | ⟨g, cap', cur, rfl, _, _, hnc, _⟩
    · simp [Builtin.append_, run_underlying Tryd.underlying31, sizeOf, typeInfo, hi, Builtin.lenOf, Builtin.firstCells]
    · simp [Builtin.append_, run_underlying Tryd.underlying31, sizeOf, typeInfo, hi, Builtin.lenOf, Builtin.firstCells, hnc, storeCells]
  | some ad =>
    have hcells : ∀ j u, (hcs m)[j]? = some u → W.cell? (ad.add j) = some u := fun j u hj => by
      have hlt : j < m.length * 32 := by rw [← hcs_length]; exact (List.getElem?_eq_some_iff.1 hj).1
      obtain ⟨b, o, hA, _⟩ := h3 (by omega)
      cases hA
      exact hr0.news j u hj
    obtain ⟨v', w', hrun, ho, hg, _⟩ := run_append_own (P := Tryd.prog) W B 31 ty 24 i0 _ 32 32 Tryd.underlying31 hi hz0 hz1 hz2 (by rw [show (Value.agg (rowA 32 (bF fun _ => 0))).cells = rowA 32 (bF fun _ => 0) from rfl, rowA_size]) (by omega) v l.length (hcs l) h ad m.length cap (hcs m) (hcs_length m) hcells (hcs_one_cell m) (by unfold maxLen; omega) (by omega) hB
    refine ⟨v', w', hrun, ?_, hg⟩
    unfold OwnH
    rw [List.length_append, hcs_app]
    exact ho
section
variable {a : Act} {w : World} {o : Oper} {K : Act → World → Prop} {Q : Exit → Act → World → Prop} {x y : Operand}
theorem opr_bsH2 {d e : Hs} (ho : o.op = .buildSlice 31 2 #[(0, x), (1, y)]) (hx : a.eval x = .agg (rowA 32 (bF d))) (hy : a.eval y = .agg (rowA 32 (bF e))) (h : ∀ v w', NewT w w' → RdH w' v [d, e] → K (a.put o.dst v) w') : o.wp Tryd.prog a w K Q := by
  obtain ⟨dst, op, type, pos, after, guard⟩ := o
  simp only at ho
  subst ho
  refine opr_val (s := Instr.buildSlice 31 2 #[(0, a.eval x), (1, a.eval y)]) (by simp [execOp]) (by rw [hx, hy]; exact run_bsH2 d e w) (h _ _ (NewT.alloc _ _) ?_)
  refine rdH_row (l := [d, e]) (rowIs_box w 24 64 _) (by simp) (by simp [maxLen]) fun i f he j hj => ?_
  have hi : i < 2 := (List.getElem?_eq_some_iff.1 he).1
  have hi' : i = 0 ∨ i = 1 := by omega
  rcases hi' with rfl | rfl
  · simp at he; subst he
    have : Nat.blt (0 * 32 + j) 32 = true := by rw [Nat.blt_eq]; omega
    rw [this, show 0 * 32 + j = j by omega]; rfl
  · simp at he; subst he
    have : Nat.blt (1 * 32 + j) 32 = false := by
      cases hb : Nat.blt (1 * 32 + j) 32
      · rfl
      · rw [Nat.blt_eq] at hb; omega
    rw [this, show 1 * 32 + j - 32 = j by omega]; rfl
end
end Go.Proofs.YtphbjamfhmcjcaaDoor
/- Where a list is split: math/bits.Len, Split, and the reference's. -/
namespace Go.Proofs.YtphbjamfhmcjcaaDoor
open Go Go.RowKit
set_option maxRecDepth 8000
set_option linter.all false
/-- How many binary digits a number has. -/
def bitLen (x : Nat) : Nat := if x = 0 then 0 else x.log2 + 1
theorem bitLen_div (x s : Nat) (h : 2 ^ s ≤ x) : bitLen x = s + bitLen (x / 2 ^ s) := by
  have hp := Nat.two_pow_pos s
  have h1 : 1 ≤ x / 2 ^ s := (Nat.one_le_div_iff hp).2 h
  unfold bitLen
  rw [if_neg (by omega), if_neg (by omega)]
  have h2 : x.log2 = (x / 2 ^ s).log2 + s := by
    rw [Nat.log2_eq_iff (by omega)]
    have a1 := Nat.log2_self_le (n := x / 2 ^ s) (by omega)
    have a2 := Nat.lt_log2_self (n := x / 2 ^ s)
    have e := Nat.div_add_mod x (2 ^ s)
    have m := Nat.mod_lt x hp
    constructor
    · rw [Nat.pow_add]
      exact Nat.le_trans (Nat.mul_le_mul_right _ a1) (Nat.div_mul_le_self _ _)
    · have b : (x / 2 ^ s + 1) * 2 ^ s ≤ 2 ^ ((x / 2 ^ s).log2 + 1) * 2 ^ s := Nat.mul_le_mul_right _ a2
      rw [← Nat.pow_add, show (x / 2 ^ s).log2 + 1 + s = (x / 2 ^ s).log2 + s + 1 by omega, Nat.add_mul, Nat.mul_comm (x / 2 ^ s)] at b
      omega
  omega
/-- A table of how many digits the numbers below 256 have. -/
def TabOk (T : ByteArray) : Prop := T.size = 256 ∧ ((List.range 256).all fun m => (T.get! m).toNat == bitLen m) = true
theorem tab_at {T : ByteArray} (hT : TabOk T) (y : Nat) (h : y < T.size) : (T[y]'h).toNat = bitLen y := by
  have h1 := List.all_eq_true.1 hT.2 y (List.mem_range.2 (by rw [← hT.1]; exact h))
  have h2 : T.get! y = T[y]'h := by
    show T.data[y]! = T.data[y]'h
    rw [getElem!_pos T.data y h]
  rw [h2] at h1
  simpa using h1
theorem wrap_add0 (q : Nat) (h : q ≤ 8) : wrap64 (wrap64 (q : Int)) = (q : Int) := by unfold wrap64; omega
theorem wrap_add1 (q : Nat) (h : q ≤ 8) (a : Nat) (ha : a ≤ 100) : wrap64 ((a : Int) + wrap64 (q : Int)) = ((a + q : Nat) : Int) := by unfold wrap64; omega
theorem wrap_add2 (q : Nat) (h : q ≤ 8) (a b : Nat) (ha : a + b ≤ 100) : wrap64 (((a + b : Nat) : Int) + wrap64 (q : Int)) = ((a + (b + q) : Nat) : Int) := by unfold wrap64; omega
theorem wrap_add3 (q : Nat) (h : q ≤ 8) (a b c : Nat) (ha : a + b + c ≤ 100) : wrap64 (((a + b + c : Nat) : Int) + wrap64 (q : Int)) = ((a + (b + (c + q)) : Nat) : Int) := by unfold wrap64; omega
def tab8 : ByteArray := ⟨#[0, 1, 2, 2, 3, 3, 3, 3, 4, 4, 4, 4, 4, 4, 4, 4, 5, 5, 5, 5, 5, 5, 5, 5, 5, 5, 5, 5, 5, 5, 5, 5, 6, 6, 6, 6, 6, 6, 6, 6, 6, 6, 6, 6, 6, 6, 6, 6, 6, 6, 6, 6, 6, 6, 6, 6, 6, 6, 6, 6, 6, 6, 6, 6, 7, 7, 7, 7, 7, 7, 7, 7, 7, 7, 7, 7, 7, 7, 7, 7, 7, 7, 7, 7, 7, 7, 7, 7, 7, 7, 7, 7, 7, 7, 7, 7, 7, 7, 7, 7, 7, 7, 7, 7, 7, 7, 7, 7, 7, 7, 7, 7, 7, 7, 7, 7, 7, 7, 7, 7, 7, 7, 7, 7, 7, 7, 7, 7, 8, 8, 8, 8, 8, 8, 8, 8, 8, 8, 8, 8, 8, 8, 8, 8, 8, 8, 8, 8, 8, 8, 8, 8, 8, 8, 8, 8, 8, 8, 8, 8, 8, 8, 8, 8, 8, 8, 8, 8, 8, 8, 8, 8, 8, 8, 8, 8, 8, 8, 8, 8, 8, 8, 8, 8, 8, 8, 8, 8, 8, 8, 8, 8, 8, 8, 8, 8, 8, 8, 8, 8, 8, 8, 8, 8, 8, 8, 8, 8, 8, 8, 8, 8, 8, 8, 8, 8, 8, 8, 8, 8, 8, 8, 8, 8, 8, 8, 8, 8, 8, 8, 8, 8, 8, 8, 8, 8, 8, 8, 8, 8, 8, 8, 8, 8, 8, 8, 8, 8, 8, 8, 8, 8, 8, 8, 8, 8]⟩
theorem tab8_ok : TabOk tab8 := ⟨by decide +kernel, by decide +kernel⟩
theorem bitLen_small (y : Nat) (h : y < 256) : bitLen y ≤ 8 := by
  unfold bitLen
  by_cases h0 : y = 0
  · rw [if_pos h0]; omega
  · rw [if_neg h0]
    have := (Nat.log2_lt (k := 8) h0).2 (by omega)
    omega
set_option maxHeartbeats 1000000 in
theorem L64_111 (x : Nat) (hx : x < 9223372036854775808) (w : World) (c1 : 4294967296 ≤ x) (c2 : 65536 ≤ x / 4294967296) (c3 : 256 ≤ x / 4294967296 / 65536) : Calls Tryd.prog 40 #[.int .u64 (x : Int)] w fun e w' => e = .returned (.int .i64 (bitLen x : Int)) ∧ w = w' := by
  have t1 : decide ((4294967296 : Int) ≤ (x : Int)) = true := by simp; omega
  have e1 : bitLen (x) = 32 + bitLen (x / 4294967296) := bitLen_div (x) 32 (by omega)
  have t2 : decide ((65536 : Int) ≤ (x : Int) / 4294967296) = true := by simp; omega
  have e2 : bitLen (x / 4294967296) = 16 + bitLen (x / 4294967296 / 65536) := bitLen_div (x / 4294967296) 16 (by omega)
  have t3 : decide ((256 : Int) ≤ (x : Int) / 4294967296 / 65536) = true := by simp; omega
  have e3 : bitLen (x / 4294967296 / 65536) = 8 + bitLen (x / 4294967296 / 65536 / 256) := bitLen_div (x / 4294967296 / 65536) 8 (by omega)
  have hs := bitLen_small (x / 4294967296 / 65536 / 256) (by omega)
  go_enter Tryd.func40, Tryd.ntmps40
  go_wp2
  go_ret
  refine ⟨Eq.trans (b := Ending.returned (.int .i64 _)) rfl (congrArg (fun z : Int => Ending.returned (Value.int .i64 z)) ?_), rfl⟩
  rw [tab_at (show TabOk _ from ?ok)]; case ok => exact tab8_ok
  rw [e1, e2, e3]
  generalize bitLen (x / 4294967296 / 65536 / 256) = q at hs ⊢
  clear hx t1 t2 t3 c1 c2 c3 e1 e2 e3
  exact wrap_add3 q hs 32 16 8 (by omega)
set_option maxHeartbeats 1000000 in
theorem L64_110 (x : Nat) (hx : x < 9223372036854775808) (w : World) (c1 : 4294967296 ≤ x) (c2 : 65536 ≤ x / 4294967296) (c3 : ¬ 256 ≤ x / 4294967296 / 65536) : Calls Tryd.prog 40 #[.int .u64 (x : Int)] w fun e w' => e = .returned (.int .i64 (bitLen x : Int)) ∧ w = w' := by
  have t1 : decide ((4294967296 : Int) ≤ (x : Int)) = true := by simp; omega
  have e1 : bitLen (x) = 32 + bitLen (x / 4294967296) := bitLen_div (x) 32 (by omega)
  have t2 : decide ((65536 : Int) ≤ (x : Int) / 4294967296) = true := by simp; omega
  have e2 : bitLen (x / 4294967296) = 16 + bitLen (x / 4294967296 / 65536) := bitLen_div (x / 4294967296) 16 (by omega)
  have t3 : decide ((256 : Int) ≤ (x : Int) / 4294967296 / 65536) = false := by simp; omega
  have hs := bitLen_small (x / 4294967296 / 65536) (by omega)
  go_enter Tryd.func40, Tryd.ntmps40
  go_wp2
  go_ret
  refine ⟨Eq.trans (b := Ending.returned (.int .i64 _)) rfl (congrArg (fun z : Int => Ending.returned (Value.int .i64 z)) ?_), rfl⟩
  rw [tab_at (show TabOk _ from ?ok)]; case ok => exact tab8_ok
  rw [e1, e2]
  generalize bitLen (x / 4294967296 / 65536) = q at hs ⊢
  clear hx t1 t2 t3 c1 c2 c3 e1 e2
  exact wrap_add2 q hs 32 16 (by omega)
set_option maxHeartbeats 1000000 in
theorem L64_101 (x : Nat) (hx : x < 9223372036854775808) (w : World) (c1 : 4294967296 ≤ x) (c2 : ¬ 65536 ≤ x / 4294967296) (c3 : 256 ≤ x / 4294967296) : Calls Tryd.prog 40 #[.int .u64 (x : Int)] w fun e w' => e = .returned (.int .i64 (bitLen x : Int)) ∧ w = w' := by
  have t1 : decide ((4294967296 : Int) ≤ (x : Int)) = true := by simp; omega
  have e1 : bitLen (x) = 32 + bitLen (x / 4294967296) := bitLen_div (x) 32 (by omega)
  have t2 : decide ((65536 : Int) ≤ (x : Int) / 4294967296) = false := by simp; omega
  have t3 : decide ((256 : Int) ≤ (x : Int) / 4294967296) = true := by simp; omega
  have e3 : bitLen (x / 4294967296) = 8 + bitLen (x / 4294967296 / 256) := bitLen_div (x / 4294967296) 8 (by omega)
  have hs := bitLen_small (x / 4294967296 / 256) (by omega)
  go_enter Tryd.func40, Tryd.ntmps40
  go_wp2
  go_ret
  refine ⟨Eq.trans (b := Ending.returned (.int .i64 _)) rfl (congrArg (fun z : Int => Ending.returned (Value.int .i64 z)) ?_), rfl⟩
  rw [tab_at (show TabOk _ from ?ok)]; case ok => exact tab8_ok
  rw [e1, e3]
  generalize bitLen (x / 4294967296 / 256) = q at hs ⊢
  clear hx t1 t2 t3 c1 c2 c3 e1 e3
  exact wrap_add2 q hs 32 8 (by omega)
set_option maxHeartbeats 1000000 in
theorem L64_100 (x : Nat) (hx : x < 9223372036854775808) (w : World) (c1 : 4294967296 ≤ x) (c2 : ¬ 65536 ≤ x / 4294967296) (c3 : ¬ 256 ≤ x / 4294967296) : Calls Tryd.prog 40 #[.int .u64 (x : Int)] w fun e w' => e = .returned (.int .i64 (bitLen x : Int)) ∧ w = w' := by
  have t1 : decide ((4294967296 : Int) ≤ (x : Int)) = true := by simp; omega
  have e1 : bitLen (x) = 32 + bitLen (x / 4294967296) := bitLen_div (x) 32 (by omega)
  have t2 : decide ((65536 : Int) ≤ (x : Int) / 4294967296) = false := by simp; omega
  have t3 : decide ((256 : Int) ≤ (x : Int) / 4294967296) = false := by simp; omega
  have hs := bitLen_small (x / 4294967296) (by omega)
  go_enter Tryd.func40, Tryd.ntmps40
  go_wp2
  go_ret
  refine ⟨Eq.trans (b := Ending.returned (.int .i64 _)) rfl (congrArg (fun z : Int => Ending.returned (Value.int .i64 z)) ?_), rfl⟩
  rw [tab_at (show TabOk _ from ?ok)]; case ok => exact tab8_ok
  rw [e1]
  generalize bitLen (x / 4294967296) = q at hs ⊢
  clear hx t1 t2 t3 c1 c2 c3 e1
  exact wrap_add1 q hs 32 (by omega)
set_option maxHeartbeats 1000000 in
theorem L64_011 (x : Nat) (hx : x < 9223372036854775808) (w : World) (c1 : ¬ 4294967296 ≤ x) (c2 : 65536 ≤ x) (c3 : 256 ≤ x / 65536) : Calls Tryd.prog 40 #[.int .u64 (x : Int)] w fun e w' => e = .returned (.int .i64 (bitLen x : Int)) ∧ w = w' := by
  have t1 : decide ((4294967296 : Int) ≤ (x : Int)) = false := by simp; omega
  have t2 : decide ((65536 : Int) ≤ (x : Int)) = true := by simp; omega
  have e2 : bitLen (x) = 16 + bitLen (x / 65536) := bitLen_div (x) 16 (by omega)
  have t3 : decide ((256 : Int) ≤ (x : Int) / 65536) = true := by simp; omega
  have e3 : bitLen (x / 65536) = 8 + bitLen (x / 65536 / 256) := bitLen_div (x / 65536) 8 (by omega)
  have hs := bitLen_small (x / 65536 / 256) (by omega)
  go_enter Tryd.func40, Tryd.ntmps40
  go_wp2
  go_ret
  refine ⟨Eq.trans (b := Ending.returned (.int .i64 _)) rfl (congrArg (fun z : Int => Ending.returned (Value.int .i64 z)) ?_), rfl⟩
  rw [tab_at (show TabOk _ from ?ok)]; case ok => exact tab8_ok
  rw [e2, e3]
  generalize bitLen (x / 65536 / 256) = q at hs ⊢
  clear hx t1 t2 t3 c1 c2 c3 e2 e3
  exact wrap_add2 q hs 16 8 (by omega)
set_option maxHeartbeats 1000000 in
theorem L64_010 (x : Nat) (hx : x < 9223372036854775808) (w : World) (c1 : ¬ 4294967296 ≤ x) (c2 : 65536 ≤ x) (c3 : ¬ 256 ≤ x / 65536) : Calls Tryd.prog 40 #[.int .u64 (x : Int)] w fun e w' => e = .returned (.int .i64 (bitLen x : Int)) ∧ w = w' := by
  have t1 : decide ((4294967296 : Int) ≤ (x : Int)) = false := by simp; omega
  have t2 : decide ((65536 : Int) ≤ (x : Int)) = true := by simp; omega
  have e2 : bitLen (x) = 16 + bitLen (x / 65536) := bitLen_div (x) 16 (by omega)
  have t3 : decide ((256 : Int) ≤ (x : Int) / 65536) = false := by simp; omega
  have hs := bitLen_small (x / 65536) (by omega)
  go_enter Tryd.func40, Tryd.ntmps40
  go_wp2
  go_ret
  refine ⟨Eq.trans (b := Ending.returned (.int .i64 _)) rfl (congrArg (fun z : Int => Ending.returned (Value.int .i64 z)) ?_), rfl⟩
  rw [tab_at (show TabOk _ from ?ok)]; case ok => exact tab8_ok
  rw [e2]
  generalize bitLen (x / 65536) = q at hs ⊢
  clear hx t1 t2 t3 c1 c2 c3 e2
  exact wrap_add1 q hs 16 (by omega)
set_option maxHeartbeats 1000000 in
theorem L64_001 (x : Nat) (hx : x < 9223372036854775808) (w : World) (c1 : ¬ 4294967296 ≤ x) (c2 : ¬ 65536 ≤ x) (c3 : 256 ≤ x) : Calls Tryd.prog 40 #[.int .u64 (x : Int)] w fun e w' => e = .returned (.int .i64 (bitLen x : Int)) ∧ w = w' := by
  have t1 : decide ((4294967296 : Int) ≤ (x : Int)) = false := by simp; omega
  have t2 : decide ((65536 : Int) ≤ (x : Int)) = false := by simp; omega
  have t3 : decide ((256 : Int) ≤ (x : Int)) = true := by simp; omega
  have e3 : bitLen (x) = 8 + bitLen (x / 256) := bitLen_div (x) 8 (by omega)
  have hs := bitLen_small (x / 256) (by omega)
  go_enter Tryd.func40, Tryd.ntmps40
  go_wp2
  go_ret
  refine ⟨Eq.trans (b := Ending.returned (.int .i64 _)) rfl (congrArg (fun z : Int => Ending.returned (Value.int .i64 z)) ?_), rfl⟩
  rw [tab_at (show TabOk _ from ?ok)]; case ok => exact tab8_ok
  rw [e3]
  generalize bitLen (x / 256) = q at hs ⊢
  clear hx t1 t2 t3 c1 c2 c3 e3
  exact wrap_add1 q hs 8 (by omega)
set_option maxHeartbeats 1000000 in
theorem L64_000 (x : Nat) (hx : x < 9223372036854775808) (w : World) (c1 : ¬ 4294967296 ≤ x) (c2 : ¬ 65536 ≤ x) (c3 : ¬ 256 ≤ x) : Calls Tryd.prog 40 #[.int .u64 (x : Int)] w fun e w' => e = .returned (.int .i64 (bitLen x : Int)) ∧ w = w' := by
  have t1 : decide ((4294967296 : Int) ≤ (x : Int)) = false := by simp; omega
  have t2 : decide ((65536 : Int) ≤ (x : Int)) = false := by simp; omega
  have t3 : decide ((256 : Int) ≤ (x : Int)) = false := by simp; omega
  have hs := bitLen_small (x) (by omega)
  go_enter Tryd.func40, Tryd.ntmps40
  go_wp2
  go_ret
  refine ⟨Eq.trans (b := Ending.returned (.int .i64 _)) rfl (congrArg (fun z : Int => Ending.returned (Value.int .i64 z)) ?_), rfl⟩
  rw [tab_at (show TabOk _ from ?ok)]; case ok => exact tab8_ok
  generalize bitLen (x) = q at hs ⊢
  clear hx t1 t2 t3 c1 c2 c3
  exact wrap_add0 q hs
theorem Len64_any (x : Nat) (hx : x < 9223372036854775808) (w : World) : Calls Tryd.prog 40 #[.int .u64 (x : Int)] w fun e w' => e = .returned (.int .i64 (bitLen x : Int)) ∧ w = w' := by
  by_cases c1 : 4294967296 ≤ x
  · by_cases c2 : 65536 ≤ x / 4294967296
    · by_cases c3 : 256 ≤ x / 4294967296 / 65536
      · exact L64_111 x hx w c1 c2 c3
      · exact L64_110 x hx w c1 c2 c3
    · by_cases c3 : 256 ≤ x / 4294967296
      · exact L64_101 x hx w c1 c2 c3
      · exact L64_100 x hx w c1 c2 c3
  · by_cases c2 : 65536 ≤ x
    · by_cases c3 : 256 ≤ x / 65536
      · exact L64_011 x hx w c1 c2 c3
      · exact L64_010 x hx w c1 c2 c3
    · by_cases c3 : 256 ≤ x
      · exact L64_001 x hx w c1 c2 c3
      · exact L64_000 x hx w c1 c2 c3
set_option maxHeartbeats 400000 in
theorem Len_any (x : Nat) (hx : x < 9223372036854775808) (w : World) : Calls Tryd.prog 29 #[.int .u64 (x : Int)] w fun e w' => e = .returned (.int .i64 (bitLen x : Int)) ∧ w = w' := by
  go_enter Tryd.func29, Tryd.ntmps29
  go_wp2_with (go_at_call 40; refine (Len64_any x hx w).mono ?_; rintro e w' ⟨rfl, rfl⟩)
  go_ret
  exact ⟨rfl, rfl⟩
set_option maxHeartbeats 400000 in
theorem Split_cv (n : Int) (hn : n < 9223372036854775808) (h0 : -9223372036854775808 ≤ n) (w : World) : Cv 15 #[.int .i64 n] w (.eq (.int .i64 (splitN n.toNat : Int))) := by
  unfold Cv
  by_cases h2 : n < 2
  · have t1 : decide (n < 2) = true := by simpa using h2
    have e : splitN n.toNat = 0 := by unfold splitN; rw [if_pos (by omega)]
    rw [e]
    go_enter Tryd.func15, Tryd.ntmps15
    go_wp2
    go_ret
    exact ⟨_, rfl, NewT.refl _, rfl⟩
  · have t1 : decide (n < 2) = false := by simpa using h2
    obtain ⟨m, hm⟩ : ∃ m : Nat, n = (m : Int) + 1 := ⟨(n - 1).toNat, by omega⟩
    subst hm
    have hl := Len_any m (by omega) w
    have e : splitN ((m : Int) + 1).toNat = 2 ^ (bitLen m - 1) := by
      unfold splitN bitLen
      rw [if_neg (by omega), if_neg (by omega), show ((m : Int) + 1).toNat - 1 = m by omega, Nat.add_sub_cancel]
    have hb : bitLen m ≤ 63 ∧ 1 ≤ bitLen m := by
      unfold bitLen
      rw [if_neg (by omega)]
      have := (Nat.log2_lt (n := m) (k := 63) (by omega)).2 (by omega)
      omega
    obtain ⟨k, hk⟩ : ∃ k : Nat, bitLen m = k + 1 := ⟨bitLen m - 1, by omega⟩
    rw [e]
    rw [hk] at hl ⊢
    obtain ⟨hk1, _⟩ := hb
    have hk62 : k ≤ 62 := by omega
    clear e hk hk1
    go_enter Tryd.func15, Tryd.ntmps15
    go_wp2_with (go_at_call 29; refine hl.mono ?_; rintro e w' ⟨rfl, rfl⟩)
    go_ret
    refine ⟨_, rfl, NewT.refl _, ?_⟩
    show Value.int .i64 (wrap64 (2 ^ k)) = .int .i64 (((2 ^ (k + 1 - 1) : Nat)) : Int)
    have hp : 2 ^ k ≤ 2 ^ 62 := Nat.pow_le_pow_right (by omega) hk62
    have hq : ((2 ^ k : Nat) : Int) = (2 : Int) ^ k := by simp
    rw [Nat.add_sub_cancel, ← hq]
    congr 1
    have hp2 : 0 < 2 ^ k := Nat.two_pow_pos k
    generalize 2 ^ k = d at hp hp2
    unfold wrap64
    omega
end Go.Proofs.YtphbjamfhmcjcaaDoor
/- The small functions of package sha: rotations, the six sums, choose and majority: each call returns the document's number and leaves the world as it was. -/
namespace Go.Proofs.YtphbjamfhmcjcaaDoor
open Go.RowKit
set_option maxRecDepth 8000
set_option linter.all false
attribute [local go_sem] u32_add u32_xor u32_and u32_or u32_not signed_u32 wrap_uN u32_shl u32_shr u32_div8 u32_div1024

theorem and31 (n : Nat) (hn : 0 < n) (hn2 : n < 32) : bits .and .u64 (IntKind.u64.wrap (-(n : Int))) 31 = ((32 - n : Nat) : Int) := by
  have : ∀ k : Fin 32, 0 < k.val → bits .and .u64 (IntKind.u64.wrap (-(k.val : Int))) 31 = ((32 - k.val : Nat) : Int) := by decide
  exact this ⟨n, hn2⟩ hn
set_option maxHeartbeats 400000 in
theorem rot_any (x : BitVec 32) (n : Nat) (hn : 0 < n) (hn2 : n < 32) (w : World) :
    Calls Tryd.prog 55 #[.int .u32 (uN x), .int .i64 (-(n : Int))] w fun e w' => e = .returned (.int .u32 (uN (x.rotateRight n))) ∧ w = w' := by
  have hs := and31 n hn hn2
  obtain ⟨m, hm⟩ : ∃ m, 32 - n = m := ⟨_, rfl⟩
  have Hm := Lib.hid hm
  rw [hm] at hs
  have h1 : 1 ≤ m := by omega
  have h2 : m ≤ 31 := by omega
  clear hm
  go_enter Tryd.func55, Tryd.ntmps55
  go_wp2
  go_ret
  refine ⟨?_, rfl⟩
  have hm := Hm.out
  obtain rfl : n = 32 - m := by omega
  have e := uN_rotr x (32 - m) hn2
  rw [u32_or, show 32 - (32 - m) = m by omega] at e
  exact congrArg (fun z => Ending.returned (Value.int IntKind.u32 z)) e
set_option maxHeartbeats 400000 in
theorem turnRight_any (x : BitVec 32) (n : Int) (hn : 0 < n) (hn2 : n < 32) (w : World) :
    Calls Tryd.prog 54 #[.int .u32 (uN x), .int .i64 n] w fun e w' => e = .returned (.int .u32 (uN (x.rotateRight n.toNat))) ∧ w = w' := by
  obtain ⟨m, rfl⟩ := Int.eq_ofNat_of_zero_le (Int.le_of_lt hn)
  rw [Int.toNat_natCast]
  go_enter Tryd.func54, Tryd.ntmps54
  go_wp2_with fail
  refine (rot_any x m (by omega) (by omega) _).mono ?_
  rintro e w' ⟨rfl, rfl⟩
  go_wp2
  go_ret
  exact ⟨rfl, rfl⟩
def bs1 (x : BitVec 32) : BitVec 32 := x.rotateRight 6 ^^^ x.rotateRight 11 ^^^ x.rotateRight 25
set_option maxHeartbeats 400000 in
theorem bs1_any (x : BitVec 32) (w : World) :
    Calls Tryd.prog 48 #[.int .u32 (uN x)] w fun e w' => e = .returned (.int .u32 (uN (bs1 x))) ∧ w = w' := by
  go_enter Tryd.func48, Tryd.ntmps48
  go_wp2_with (go_at_call 54; refine (turnRight_any x _ (by decide) (by decide) _).mono ?_; rintro e w' ⟨rfl, rfl⟩)
  go_ret
  exact ⟨rfl, rfl⟩
def bs0 (x : BitVec 32) : BitVec 32 := x.rotateRight 2 ^^^ x.rotateRight 13 ^^^ x.rotateRight 22
set_option maxHeartbeats 400000 in
theorem bs0_any (x : BitVec 32) (w : World) :
    Calls Tryd.prog 50 #[.int .u32 (uN x)] w fun e w' => e = .returned (.int .u32 (uN (bs0 x))) ∧ w = w' := by
  go_enter Tryd.func50, Tryd.ntmps50
  go_wp2_with (go_at_call 54; refine (turnRight_any x _ (by decide) (by decide) _).mono ?_; rintro e w' ⟨rfl, rfl⟩)
  go_ret
  exact ⟨rfl, rfl⟩
def ss1 (x : BitVec 32) : BitVec 32 := x.rotateRight 17 ^^^ x.rotateRight 19 ^^^ x >>> 10
set_option maxHeartbeats 400000 in
theorem ss1_any (x : BitVec 32) (w : World) :
    Calls Tryd.prog 52 #[.int .u32 (uN x)] w fun e w' => e = .returned (.int .u32 (uN (ss1 x))) ∧ w = w' := by
  go_enter Tryd.func52, Tryd.ntmps52
  go_wp2_with (go_at_call 54; refine (turnRight_any x _ (by decide) (by decide) _).mono ?_; rintro e w' ⟨rfl, rfl⟩)
  go_ret
  exact ⟨rfl, rfl⟩
def ss0 (x : BitVec 32) : BitVec 32 := x.rotateRight 7 ^^^ x.rotateRight 18 ^^^ x >>> 3
set_option maxHeartbeats 400000 in
theorem ss0_any (x : BitVec 32) (w : World) :
    Calls Tryd.prog 53 #[.int .u32 (uN x)] w fun e w' => e = .returned (.int .u32 (uN (ss0 x))) ∧ w = w' := by
  go_enter Tryd.func53, Tryd.ntmps53
  go_wp2_with (go_at_call 54; refine (turnRight_any x _ (by decide) (by decide) _).mono ?_; rintro e w' ⟨rfl, rfl⟩)
  go_ret
  exact ⟨rfl, rfl⟩
def chs (x y z : BitVec 32) : BitVec 32 := (x &&& y) ^^^ (~~~x &&& z)
set_option maxHeartbeats 400000 in
theorem chs_any (x y z : BitVec 32) (w : World) :
    Calls Tryd.prog 49 #[.int .u32 (uN x), .int .u32 (uN y), .int .u32 (uN z)] w fun e w' => e = .returned (.int .u32 (uN (chs x y z))) ∧ w = w' := by
  go_enter Tryd.func49, Tryd.ntmps49
  go_wp2
  go_ret
  exact ⟨rfl, rfl⟩
def maj (x y z : BitVec 32) : BitVec 32 := (x &&& y) ^^^ (x &&& z) ^^^ (y &&& z)
set_option maxHeartbeats 400000 in
theorem maj_any (x y z : BitVec 32) (w : World) :
    Calls Tryd.prog 51 #[.int .u32 (uN x), .int .u32 (uN y), .int .u32 (uN z)] w fun e w' => e = .returned (.int .u32 (uN (maj x y z))) ∧ w = w' := by
  go_enter Tryd.func51, Tryd.ntmps51
  go_wp2
  go_ret
  exact ⟨rfl, rfl⟩
end Go.Proofs.YtphbjamfhmcjcaaDoor
namespace Go.Proofs.YtphbjamfhmcjcaaDoor
open Go.RowKit
set_option maxRecDepth 8000
set_option linter.all false
attribute [local go_sem] u32_add u32_xor u32_and u32_or u32_not signed_u32 wrap_uN u32_mul256 bN_u32

def wordTo (l : List UInt8) (t : Nat) : Nat → BitVec 32
  | 0 => 0
  | j + 1 => (wordTo l t j <<< 8) ||| (bAt l (4 * t + j)).toBitVec.setWidth 32
def zero64 : Nat → Value := fun _ => .int .u32 0
def part1 (l : List UInt8) (k j : Nat) : Nat → Value := fun i => .int .u32 (uN (if i < k then wordTo l i 4 else if i = k then wordTo l k j else 0))

theorem rowIs_zeros (w : World) (t : TypeId) : (w.alloc (.cells (Array.replicate 64 (.int .u32 0)) t)).rowIs w.heap.size t 64 zero64 := by
  have := World.rowIs_alloc w (Array.replicate 64 (.int .u32 0)) t zero64 (fun i hi => by simp at hi; simp [zero64, hi])
  simpa using this
theorem part1_start (l : List UInt8) (i : Nat) : zero64 i = part1 l 0 0 i := by
  simp only [zero64, part1]; by_cases h : i = 0 <;> simp [h, wordTo, uN]
theorem part1_next (l : List UInt8) (k i : Nat) : part1 l k 4 i = part1 l (k + 1) 0 i := by
  simp only [part1]
  by_cases h : i < k
  · rw [if_pos h, if_pos (by omega)]
  · by_cases h2 : i = k
    · subst h2; simp
    · rw [if_neg h, if_neg h2, if_neg (by omega)]; by_cases h3 : i = k + 1 <;> simp [h3, wordTo]
theorem part1_set (l : List UInt8) (k j i : Nat) : (if i = k then Value.int .u32 (uN (wordTo l k (j + 1))) else part1 l k j i) = part1 l k (j + 1) i := by
  simp only [part1]
  by_cases h : i = k
  · subst h; simp
  · simp [h]
def schedL (l : List UInt8) : Nat → List (BitVec 32)
  | 0 => (List.range 16).map fun i => wordTo l i 4
  | n + 1 => schedL l n ++ [ss1 ((schedL l n).getD (n + 14) 0) + (schedL l n).getD (n + 9) 0 + ss0 ((schedL l n).getD (n + 1) 0) + (schedL l n).getD n 0]
def wS (l : List UInt8) (n i : Nat) : BitVec 32 := (schedL l n).getD i 0
def part2 (l : List UInt8) (n : Nat) : Nat → Value := fun i => .int .u32 (uN (wS l n i))
theorem schedL_length (l : List UInt8) (n : Nat) : (schedL l n).length = 16 + n := by
  induction n with
  | zero => simp [schedL]
  | succ n ih => simp [schedL, ih]; omega
theorem part2_start (l : List UInt8) (i : Nat) : part1 l 16 0 i = part2 l 0 i := by
  simp only [part1, part2, wS, schedL]
  by_cases h : i < 16
  · simp [h]
  · by_cases h2 : i = 16
    · subst h2; simp [wordTo]
    · simp [h, h2]
theorem wS_old (l : List UInt8) (n i : Nat) (h : i < 16 + n) : wS l (n + 1) i = wS l n i := by
  have := schedL_length l n
  simp only [wS, schedL]
  simp [List.getElem?_append, this, h]
theorem wS_new (l : List UInt8) (n : Nat) : wS l (n + 1) (16 + n) = ss1 (wS l n (n + 14)) + wS l n (n + 9) + ss0 (wS l n (n + 1)) + wS l n n := by
  have := schedL_length l n
  simp only [wS, schedL]
  simp [this]
theorem wS_past (l : List UInt8) (n i : Nat) (h : 16 + n ≤ i) : wS l n i = 0 := by
  have := schedL_length l n
  simp only [wS]
  simp [this, h]
theorem part2_set (l : List UInt8) (t : Nat) (ht : 16 ≤ t) (i : Nat) :
    (if i = t then Value.int .u32 (uN (ss1 (wS l (t - 16) (t - 2)) + wS l (t - 16) (t - 7) + ss0 (wS l (t - 16) (t - 15)) + wS l (t - 16) (t - 16))) else part2 l (t - 16) i) = part2 l (t + 1 - 16) i := by
  obtain ⟨n, rfl⟩ : ∃ n, t = 16 + n := ⟨t - 16, by omega⟩
  rw [show 16 + n - 16 = n by omega, show 16 + n - 2 = n + 14 by omega, show 16 + n - 7 = n + 9 by omega, show 16 + n - 15 = n + 1 by omega, show 16 + n + 1 - 16 = n + 1 by omega]
  simp only [part2]
  by_cases h : i = 16 + n
  · subst h; rw [if_pos rfl, wS_new]
  · rw [if_neg h]
    by_cases h2 : i < 16 + n
    · rw [wS_old l n i h2]
    · rw [wS_past l n i (by omega), wS_past l (n + 1) i (by omega)]
theorem part1_at (l : List UInt8) (k j : Nat) : part1 l k j k = .int .u32 (uN (wordTo l k j)) := by simp [part1]

set_option maxHeartbeats 400000 in
theorem schedule_any (l : List UInt8) (b o cap : Nat) (hcap : 64 ≤ cap) (hm : cap ≤ maxLen) (w : World) (hb : b < w.heap.size)
    (hc : ∀ i, i < 64 → w.cell? ⟨b, o + i, none⟩ = some (.int .u8 (bN (bAt l i)))) :
    Calls Tryd.prog 45 #[.slice (some ⟨b, o, none⟩) 64 cap] w fun e w' => e = .returned (.agg (rowA 64 fun i => .int .u32 (uN (wS l 48 i)))) ∧ Below w.heap.size w w' := by
  unfold maxLen at hm
  have HC := Lib.hid hc
  clear hc
  go_enter Tryd.func45, Tryd.ntmps45
  go_wp2
  go_loopw [8] (fun i wr => ∃ k : Nat, k ≤ 16 ∧ i = .int .i64 k ∧ wr.rowIs w.heap.size 66 64 zero64 ∧ wr.rowIs (w.heap.size + 1) 66 64 (part1 l k 0) ∧ Below w.heap.size w wr) (fun i _ => 16 - (intOf i).toNat)
  case atStart =>
    refine ⟨0, Nat.zero_le _, rfl, (rowIs_zeros w 66).alloc _, ?_, ((Below.refl _ w).alloc (Nat.le_refl _) _).alloc (by simp) _⟩
    have h := rowIs_zeros (w.alloc (.cells (Array.replicate 64 (.int .u32 0)) 66)) 66
    rw [World.size_alloc] at h
    exact h.congr fun i _ => part1_start l i
  case round =>
    obtain ⟨k, hk, rfl, hz, hr, hB⟩ := hrel
    by_cases hlt : k < 16
    · go_wp2
      go_loopw [19] (fun i wr => ∃ j : Nat, j ≤ 4 ∧ i = .int .i64 j ∧ wr.rowIs w.heap.size 66 64 zero64 ∧ wr.rowIs (w.heap.size + 1) 66 64 (part1 l k j) ∧ Below w.heap.size w wr) (fun i _ => 4 - (intOf i).toNat)
      case atStart => exact ⟨0, Nat.zero_le _, rfl, hz, hr, hB⟩
      case round =>
        obtain ⟨j, hj, rfl, hz2, hr2, hB2⟩ := hrel
        clear hz hr hB
        by_cases hlt2 : j < 4
        · have hcell := (hB2.cell (p := ⟨b, o + (4 * k + j), none⟩) hb).trans (HC.out (4 * k + j) (by omega))
          rw [← Nat.add_assoc] at hcell
          have hw := hr2.cell (i := k) (by omega)
          rw [part1_at] at hw
          have hf := hr2.frozen k
          go_wp2
          go_roundw
          case rel => exact ⟨j + 1, by omega, by go_num, hz2.setOther (by simp) _, (hr2.set k _).congr fun i _ => part1_set l k j i, hB2.setCell (by simp) _⟩
          case measure => simp [intOf]; omega
        · obtain rfl : j = 4 := by omega
          go_wp2
          go_roundw
          case rel => exact ⟨k + 1, by omega, by go_num, hz2, hr2.congr fun i _ => part1_next l k i, hB2⟩
          case measure => simp [intOf]; omega
    · obtain rfl : k = 16 := by omega
      rw [show ((16 : Nat) : Int) = 16 from rfl]
      go_wp2
      go_loopw [7] (fun i wr => ∃ t : Nat, 16 ≤ t ∧ t ≤ 64 ∧ i = .int .i64 t ∧ wr.rowIs w.heap.size 66 64 zero64 ∧ wr.rowIs (w.heap.size + 1) 66 64 (part2 l (t - 16)) ∧ Below w.heap.size w wr) (fun i _ => 64 - (intOf i).toNat)
      case atStart => exact ⟨16, by omega, by omega, rfl, hz, hr.congr fun i _ => part2_start l i, hB⟩
      case round =>
        obtain ⟨t, ht1, ht2, rfl, hz2, hr2, hB2⟩ := hrel
        clear hz hr hB
        by_cases hlt : t < 64
        · have c0 : wr.cell? ⟨w.heap.size + 1, t, none⟩ = some (.int .u32 (uN (wS l (t - 16) t))) := hr2.cell (i := t) (by omega)
          have c2 : wr.cell? ⟨w.heap.size + 1, t - 2, none⟩ = some (.int .u32 (uN (wS l (t - 16) (t - 2)))) := hr2.cell (i := t - 2) (by omega)
          have c7 : wr.cell? ⟨w.heap.size + 1, t - 7, none⟩ = some (.int .u32 (uN (wS l (t - 16) (t - 7)))) := hr2.cell (i := t - 7) (by omega)
          have c15 : wr.cell? ⟨w.heap.size + 1, t - 15, none⟩ = some (.int .u32 (uN (wS l (t - 16) (t - 15)))) := hr2.cell (i := t - 15) (by omega)
          have c16 : wr.cell? ⟨w.heap.size + 1, t - 16, none⟩ = some (.int .u32 (uN (wS l (t - 16) (t - 16)))) := hr2.cell (i := t - 16) (by omega)
          have hf := hr2.frozen t
          have i2 : (2 : Int) ≤ t := by omega
          have j2 : (t : Int) - 2 < 64 := by omega
          have i7 : (7 : Int) ≤ t := by omega
          have j7 : (t : Int) - 7 < 64 := by omega
          have i15 : (15 : Int) ≤ t := by omega
          have j15 : (t : Int) - 15 < 64 := by omega
          have i16 : (16 : Int) ≤ t := by omega
          have j16 : (t : Int) - 16 < 64 := by omega
          go_wp2
          refine wp_region_still_tail 23 (by kernel_rfl) (by kernel_rfl) ?_
          simp only [List.take_succ_cons, List.take_zero, List.drop_succ_cons, List.drop_zero]
          iterate 5 (refine wpStill_step (fun K hK => ?_); go_simp; (try go_bits); refine hK _ ?_; clear hK K)
          (refine wpStill_step (fun K hK => ?_); go_simp; refine ⟨_, ((ss1_any _ _).mono fun _ _ h => ⟨h.1, h.2.symm⟩), hK _ ?_⟩; clear hK K)
          iterate 9 (refine wpStill_step (fun K hK => ?_); go_simp; (try go_bits); refine hK _ ?_; clear hK K)
          (refine wpStill_step (fun K hK => ?_); go_simp; refine ⟨_, ((ss0_any _ _).mono fun _ _ h => ⟨h.1, h.2.symm⟩), hK _ ?_⟩; clear hK K)
          iterate 7 (refine wpStill_step (fun K hK => ?_); go_simp; (try go_bits); refine hK _ ?_; clear hK K)
          refine wpStill_nil ?_
          go_wp2
          go_roundw
          case rel => exact ⟨t + 1, by omega, by omega, by go_num, hz2.setOther (by simp) _, (hr2.set t _).congr fun i _ => part2_set l t ht1 i, (hB2.setCell (p := ⟨w.heap.size + 1, t, none⟩) (by simp) _).drew⟩
          case measure => simp [intOf]; omega
        · obtain rfl : t = 64 := by omega
          have hsz : (Tryd.prog.info? 66).map (·.size) = some 64 := by kernel_rfl
          have hR := rangeAt_row hr2
          go_wp2_with (first
            | (refine wpList_load_mid rfl 66 (.tmp 3) rfl (w.heap.size + 1) 0 rfl (rowA 64 (part2 l (64 - 16))).toList _ hR Tryd.underlying66 rfl (by rw [rowA_toList]; simpa using hsz) ?_)
            | (refine wpList_store_mid rfl 66 (.tmp 2) (.tmp 61) rfl w.heap.size 0 (rowA 64 (part2 l (64 - 16))) rfl rfl (by rw [rowA_size]; exact there_row hz2) (by rw [rowA_size]; exact hsz) (rowA_one _ _ fun _ => rfl) ?_))
          exact bodyPost_ret (results_row rfl _ rfl (rowIs_setAll hz2 (part2 l 48)) Tryd.underlying66 hsz) rfl ⟨rfl, below_setCells _ (Nat.le_refl _) _ _ _ hB2⟩
end Go.Proofs.YtphbjamfhmcjcaaDoor
namespace Go.Proofs.YtphbjamfhmcjcaaDoor
open Go.RowKit
set_option maxRecDepth 8000
set_option linter.all false
attribute [local go_sem] u32_add u32_xor u32_and u32_or u32_not signed_u32 wrap_uN rowA_at

/-- Eight numbers as the model has them. -/
def uF (s : Nat → BitVec 32) : Nat → Value := fun i => .int .u32 (uN (s i))
theorem uF_at (s : Nat → BitVec 32) (i : Nat) : uF s i = .int .u32 (uN (s i)) := rfl
attribute [local go_sem] uF_at
structure St where
  a : BitVec 32
  b : BitVec 32
  c : BitVec 32
  d : BitVec 32
  e : BitVec 32
  f : BitVec 32
  g : BitVec 32
  h : BitVec 32
def St.get (s : St) : Nat → BitVec 32
  | 0 => s.a | 1 => s.b | 2 => s.c | 3 => s.d | 4 => s.e | 5 => s.f | 6 => s.g | 7 => s.h | _ => 0
def St.of (f : Nat → BitVec 32) : St := ⟨f 0, f 1, f 2, f 3, f 4, f 5, f 6, f 7⟩
def St.one (s : St) (k w : BitVec 32) : BitVec 32 := s.h + bs1 s.e + chs s.e s.f s.g + k + w
def St.two (s : St) : BitVec 32 := bs0 s.a + maj s.a s.b s.c
def St.next (s : St) (k w : BitVec 32) : St := ⟨s.one k w + s.two, s.a, s.b, s.c, s.d + s.one k w, s.e, s.f, s.g⟩
def runTo (K W : Nat → BitVec 32) (s : St) : Nat → St
  | 0 => s
  | t + 1 => (runTo K W s t).next (K t) (W t)

theorem cell_drew {w : World} {a : Addr} {v : Value} (h : w.cell? a = some v) : w.drew.cell? a = some v := h
set_option maxHeartbeats 800000 in
theorem rounds_any (K s W : Nat → BitVec 32) (w : World) (h1 : 1 < w.heap.size)
    (hK : ∀ i, i < 64 → w.cell? ⟨1, i, none⟩ = some (.int .u32 (uN (K i)))) :
    Calls Tryd.prog 44 #[.agg (rowA 8 (uF s)), .agg (rowA 64 (uF W))] w fun e w' => e = .returned (.agg (rowA 8 (uF (runTo K W (St.of s) 64).get))) ∧ Below w.heap.size w w' := by
  have HK := Lib.hid hK
  clear hK
  go_enter Tryd.func44, Tryd.ntmps44
  go_wp2
  have r0 := ((rowIs_box w 50 8 (uF s)).alloc (.cells (rowA 64 (uF W)) 66)).alloc (.cells (rowA 8 fun _ => .int .u32 0) 50)
  have r1 := (rowIs_box (w.alloc (.cells (rowA 8 (uF s)) 50)) 66 64 (uF W)).alloc (.cells (rowA 8 fun _ => .int .u32 0) 50)
  have r2 := rowIs_box ((w.alloc (.cells (rowA 8 (uF s)) 50)).alloc (.cells (rowA 64 (uF W)) 66)) 50 8 fun _ => .int .u32 0
  have hB : Below w.heap.size w (((w.alloc (.cells (rowA 8 (uF s)) 50)).alloc (.cells (rowA 64 (uF W)) 66)).alloc (.cells (rowA 8 fun _ => .int .u32 0) 50)) :=
    (((Below.refl _ w).alloc (Nat.le_refl _) _).alloc (by simp) _).alloc (by simp; omega) _
  rw [World.size_alloc] at r1 r2
  rw [World.size_alloc] at r2
  rw [show (#[Value.int IntKind.u32 0, Value.int IntKind.u32 0, Value.int IntKind.u32 0, Value.int IntKind.u32 0, Value.int IntKind.u32 0, Value.int IntKind.u32 0, Value.int IntKind.u32 0, Value.int IntKind.u32 0] : Array Value) = rowA 8 (fun _ => .int .u32 0) from rfl]
  generalize (((w.alloc (.cells (rowA 8 (uF s)) 50)).alloc (.cells (rowA 64 (uF W)) 66)).alloc (.cells (rowA 8 fun _ => .int .u32 0) 50)) = W0 at r0 r1 r2 hB ⊢
  have c0 := r0.cell (i := 0) (by omega)
  have c1 := r0.cell (i := 1) (by omega)
  have c2 := r0.cell (i := 2) (by omega)
  have c3 := r0.cell (i := 3) (by omega)
  have c4 := r0.cell (i := 4) (by omega)
  have c5 := r0.cell (i := 5) (by omega)
  have c6 := r0.cell (i := 6) (by omega)
  have c7 := r0.cell (i := 7) (by omega)
  clear r0
  go_still (by kernel_rfl)
  clear c0 c1 c2 c3
  replace c4 := cell_drew c4
  replace c5 := cell_drew c5
  replace c6 := cell_drew c6
  replace c7 := cell_drew c7
  replace r1 := r1.drew
  replace r2 := r2.drew
  replace hB := hB.drew
  go_wp2
  change Code.wp _ _ _ _ W0.drew
  generalize W0.drew = W1 at c4 c5 c6 c7 r1 r2 hB ⊢
  go_still (by kernel_rfl)
  clear c4 c5 c6 c7
  replace r1 := r1.drew
  replace r2 := r2.drew
  replace hB := hB.drew
  go_wp2
  change Code.wp _ _ _ _ W1.drew
  generalize W1.drew = W2 at r1 r2 hB ⊢
  go_loopw [5, 6, 7, 8, 9, 10, 11, 12, 32] (fun a b c d e f g h i wr => ∃ t : Nat, ∃ x : St, t ≤ 64 ∧ i = .int .i64 t ∧ Hid (x = runTo K W (St.of s) t) ∧ a = .int .u32 (uN x.a) ∧ b = .int .u32 (uN x.b) ∧ c = .int .u32 (uN x.c) ∧ d = .int .u32 (uN x.d) ∧ e = .int .u32 (uN x.e) ∧ f = .int .u32 (uN x.f) ∧ g = .int .u32 (uN x.g) ∧ h = .int .u32 (uN x.h) ∧ wr.rowIs (w.heap.size + 1) 66 64 (uF W) ∧ wr.rowIs (w.heap.size + 1 + 1) 50 8 (fun _ => .int .u32 0) ∧ Below w.heap.size w wr) (fun _ _ _ _ _ _ _ _ i _ => 64 - (intOf i).toNat)
  case atStart => exact ⟨0, St.of s, by omega, rfl, rfl, rfl, rfl, rfl, rfl, rfl, rfl, rfl, rfl, r1, r2, hB⟩
  case round =>
    obtain ⟨t, x, ht, rfl, hx, rfl, rfl, rfl, rfl, rfl, rfl, rfl, rfl, q1, q2, qB⟩ := hrel
    clear r1 r2 hB
    by_cases hlt : t < 64
    · have cW := q1.cell (i := t) (by omega)
      have cK := (qB.cell (p := ⟨1, t, none⟩) h1).trans (HK.out t hlt)
      have i64 : (t : Int) < 64 := by omega
      go_wp2
      refine wp_region_still_lit (by kernel_rfl) (by kernel_rfl) ?_
      iterate 2 (refine wpStill_step (fun K hK => ?_); go_simp; (try go_bits); refine hK _ ?_; clear hK K)
      (refine wpStill_step (fun K hK => ?_); go_simp; refine ⟨_, ((bs1_any _ _).mono fun _ _ h => ⟨h.1, h.2.symm⟩), hK _ ?_⟩; clear hK K)
      iterate 4 (refine wpStill_step (fun K hK => ?_); go_simp; (try go_bits); refine hK _ ?_; clear hK K)
      (refine wpStill_step (fun K hK => ?_); go_simp; refine ⟨_, ((chs_any _ _ _ _).mono fun _ _ h => ⟨h.1, h.2.symm⟩), hK _ ?_⟩; clear hK K)
      iterate 10 (refine wpStill_step (fun K hK => ?_); go_simp; (try go_bits); refine hK _ ?_; clear hK K)
      refine wpStill_nil ?_
      go_wp2_with (first | (go_at_call 50; refine (bs0_any _ _).mono ?_; rintro e w' ⟨rfl, rfl⟩) | (go_at_call 51; refine (maj_any _ _ _ _).mono ?_; rintro e w' ⟨rfl, rfl⟩))
      go_roundw
      case rel => exact ⟨t + 1, x.next (K t) (W t), by omega, by go_num, Lib.hid (by rw [hx.out]; rfl), rfl, rfl, rfl, rfl, rfl, rfl, rfl, rfl, q1.drew, q2.drew, qB.drew⟩
      case measure => simp [intOf]; omega
    · obtain rfl : t = 64 := by omega
      have hsz : (Tryd.prog.info? 50).map (·.size) = some 8 := by kernel_rfl
      go_wp2_with (refine wpList_store_mid rfl 50 (.tmp 4) (.tmp 80) rfl (w.heap.size + 1 + 1) 0 (rowA 8 (uF x.get)) rfl rfl (by rw [rowA_size]; exact there_row q2) (by rw [rowA_size]; exact hsz) (rowA_one _ _ fun _ => rfl) ?_)
      exact bodyPost_ret (results_row rfl _ rfl (rowIs_setAll q2 (uF x.get)) Tryd.underlying50 hsz) rfl ⟨by rw [hx.out], below_setCells _ (by omega) _ _ _ qB⟩
end Go.Proofs.YtphbjamfhmcjcaaDoor
namespace Go.Proofs.YtphbjamfhmcjcaaDoor
open Go.RowKit
set_option maxRecDepth 8000
set_option linter.all false
attribute [local go_sem] u32_add u32_xor u32_and u32_or u32_not signed_u32 wrap_uN uF_at

theorem info23 : (Tryd.prog.info? 50).map (·.size) = some 8 := by kernel_rfl

/-- A row of eight cells of type 23 that may be written. -/
def Row8 (W : World) (g : Nat) : Prop := ∃ f, W.rowIs g 50 8 f
theorem Row8_drew (W : World) (g : Nat) : Row8 W.drew g ↔ Row8 W g := Iff.rfl
theorem Row8_new (W : World) (f : Nat → Value) (g : Nat) (h : g = W.heap.size) : Row8 (W.alloc (.cells #[f 0, f 1, f 2, f 3, f 4, f 5, f 6, f 7] 50)) g := by subst h; exact ⟨f, rowIs_box W 50 8 f⟩
theorem Row8_zero (W : World) (g : Nat) (h : W.heap.size = g) : Row8 (W.alloc (.cells #[.int .u32 0, .int .u32 0, .int .u32 0, .int .u32 0, .int .u32 0, .int .u32 0, .int .u32 0, .int .u32 0] 50)) g := Row8_new W (fun _ => .int .u32 0) _ h.symm
theorem Row8_below {W W' : World} (h : Below W.heap.size W W') (g : Nat) (hg : Row8 W g) : Row8 W' g := by obtain ⟨f, r⟩ := hg; exact ⟨f, rowIs_below r h r.lt⟩
theorem run_store8 {W : World} {g : Nat} (h : Row8 W g) (f : Nat → BitVec 32) : (storeCells ⟨g, 0, none⟩ (rowA 8 (uF f)).toList).run Tryd.prog W = .ok () (W.setCells g 0 (rowA 8 (uF f)).toList) := by
  obtain ⟨z, r⟩ := h
  have := run_storeCells_cells (P := Tryd.prog) g 0 (rowA 8 (uF f)).toList 0 W (fun j hj => by simpa using (there_row r j (by rw [rowA_toList] at hj; simpa using hj)).1) (fun j hj => by simpa using (there_row r j (by rw [rowA_toList] at hj; simpa using hj)).2)
    (fun v hv => by rw [rowA_toList] at hv; obtain ⟨i, _, rfl⟩ := List.mem_map.1 hv; rfl)
  simpa using this
theorem Row8.setAll {W : World} {g : Nat} (h : Row8 W g) (f : Nat → Value) : (W.setCells g 0 (rowA 8 f).toList).rowIs g 50 8 f := by obtain ⟨z, r⟩ := h; exact rowIs_setAll r f
def mixed (s T : Nat → BitVec 32) (k : Nat) : Nat → BitVec 32 := fun i => if i < k then s i + T i else s i
theorem mixed_set (s T : Nat → BitVec 32) (k i : Nat) : (if i = k then Value.int .u32 (uN (s k + T k)) else uF (mixed s T k) i) = uF (mixed s T (k + 1)) i := by
  simp only [uF, mixed]
  by_cases h : i = k
  · subst h; simp
  · by_cases h2 : i < k
    · rw [if_neg h, if_pos h2, if_pos (by omega)]
    · rw [if_neg h, if_neg h2, if_neg (by omega)]
theorem schedule_near {B : Nat} {W0 : World} (l : List UInt8) (b o cap : Nat) (hcap : 64 ≤ cap) (hm : cap ≤ maxLen) (hb : b < B)
    (hc : ∀ i, i < 64 → W0.cell? ⟨b, o + i, none⟩ = some (.int .u8 (bN (bAt l i)))) (w : World) (hB : Below B W0 w) (hs : B ≤ w.heap.size) :
    Calls Tryd.prog 45 #[.slice (some ⟨b, o, none⟩) 64 cap] w fun e w' => e = .returned (.agg (rowA 64 (uF (wS l 48)))) ∧ Below B W0 w' ∧ (∀ g, Row8 w g → Row8 w' g) ∧ w.heap.size ≤ w'.heap.size :=
  (schedule_any l b o cap hcap hm w (by omega) (fun i hi => (hB.cell (p := ⟨b, o + i, none⟩) hb).trans (hc i hi))).mono fun _ _ h => ⟨h.1, hB.trans (h.2.mono hs), Row8_below h.2, h.2.size⟩
theorem rounds_near {B : Nat} {W0 : World} (K s W : Nat → BitVec 32) (h1 : 1 < B)
    (hK : ∀ i, i < 64 → W0.cell? ⟨1, i, none⟩ = some (.int .u32 (uN (K i)))) (w : World) (hB : Below B W0 w) (hs : B ≤ w.heap.size) :
    Calls Tryd.prog 44 #[.agg (rowA 8 (uF s)), .agg (rowA 64 (uF W))] w fun e w' => e = .returned (.agg (rowA 8 (uF (runTo K W (St.of s) 64).get))) ∧ Below B W0 w' ∧ (∀ g, Row8 w g → Row8 w' g) ∧ w.heap.size ≤ w'.heap.size :=
  (rounds_any K s W w (by omega) (fun i hi => (hB.cell (p := ⟨1, i, none⟩) h1).trans (hK i hi))).mono fun _ _ h => ⟨h.1, hB.trans (h.2.mono hs), Row8_below h.2, h.2.size⟩

attribute [local go_sem] Row8_drew Row8_zero run_store8
set_option maxHeartbeats 1000000 in
theorem Turn_any (K s : Nat → BitVec 32) (l : List UInt8) (b o cap : Nat) (hcap : 64 ≤ cap) (hm : cap ≤ maxLen) (w : World) (hb : b < w.heap.size) (h1 : 1 < w.heap.size)
    (hK : ∀ i, i < 64 → w.cell? ⟨1, i, none⟩ = some (.int .u32 (uN (K i))))
    (hc : ∀ i, i < 64 → w.cell? ⟨b, o + i, none⟩ = some (.int .u8 (bN (bAt l i)))) :
    Calls Tryd.prog 34 #[.agg (rowA 8 (uF s)), .slice (some ⟨b, o, none⟩) 64 cap] w fun e w' => e = .returned (.agg (rowA 8 (uF fun i => s i + (runTo K (wS l 48) (St.of s) 64).get i))) ∧ Below w.heap.size w w' := by
  have HK := Lib.hid hK
  have HC := Lib.hid hc
  clear hK hc
  go_enter Tryd.func34, Tryd.ntmps34
  go_wp2
  have r0 := (rowIs_box w 50 8 (uF s)).alloc (.cells (rowA 8 fun _ => .int .u32 0) 50)
  have r1 := rowIs_box (w.alloc (.cells (rowA 8 (uF s)) 50)) 50 8 fun _ => .int .u32 0
  have hB : Below w.heap.size w ((w.alloc (.cells (rowA 8 (uF s)) 50)).alloc (.cells (rowA 8 fun _ => .int .u32 0) 50)) :=
    ((Below.refl _ w).alloc (Nat.le_refl _) _).alloc (by simp) _
  have hs : ((w.alloc (.cells (rowA 8 (uF s)) 50)).alloc (.cells (rowA 8 fun _ => .int .u32 0) 50)).heap.size = w.heap.size + 2 := by simp
  rw [World.size_alloc] at r1
  rw [show (#[Value.int IntKind.u32 0, Value.int IntKind.u32 0, Value.int IntKind.u32 0, Value.int IntKind.u32 0, Value.int IntKind.u32 0, Value.int IntKind.u32 0, Value.int IntKind.u32 0, Value.int IntKind.u32 0] : Array Value) = rowA 8 (fun _ => .int .u32 0) from rfl]
  generalize ((w.alloc (.cells (rowA 8 (uF s)) 50)).alloc (.cells (rowA 8 fun _ => .int .u32 0) 50)) = W0 at r0 r1 hB hs ⊢
  have hB2 := Below.refl (w.heap.size + 2) W0
  have HB2 := Lib.hid hB2
  clear hB2
  have HK2 : Hid (∀ i, i < 64 → W0.cell? ⟨1, i, none⟩ = some (.int .u32 (uN (K i)))) := Lib.hid fun i hi => (hB.cell (p := ⟨1, i, none⟩) h1).trans (HK.out i hi)
  have HC2 : Hid (∀ i, i < 64 → W0.cell? ⟨b, o + i, none⟩ = some (.int .u8 (bN (bAt l i)))) := Lib.hid fun i hi => (hB.cell (p := ⟨b, o + i, none⟩) hb).trans (HC.out i hi)
  go_cut [5] (fun p wx => ∃ g : Nat, w.heap.size + 2 ≤ g ∧ p = .pointer (some ⟨g, 0, none⟩) ∧ wx.rowIs g 50 8 (uF (runTo K (wS l 48) (St.of s) 64).get) ∧ Below (w.heap.size + 2) W0 wx)
  case first =>
    have HS : Hid (∀ w' : World, Below (w.heap.size + 2) W0 w' → w'.cell? ⟨w.heap.size, 0, none⟩ = some (uF s 0) ∧ w'.cell? ⟨w.heap.size, 1, none⟩ = some (uF s 1) ∧ w'.cell? ⟨w.heap.size, 2, none⟩ = some (uF s 2) ∧ w'.cell? ⟨w.heap.size, 3, none⟩ = some (uF s 3) ∧ w'.cell? ⟨w.heap.size, 4, none⟩ = some (uF s 4) ∧ w'.cell? ⟨w.heap.size, 5, none⟩ = some (uF s 5) ∧ w'.cell? ⟨w.heap.size, 6, none⟩ = some (uF s 6) ∧ w'.cell? ⟨w.heap.size, 7, none⟩ = some (uF s 7)) := Lib.hid fun w' h => by
      have r := rowIs_below r0 h (by omega)
      exact ⟨r.cell (by omega), r.cell (by omega), r.cell (by omega), r.cell (by omega), r.cell (by omega), r.cell (by omega), r.cell (by omega), r.cell (by omega)⟩
    have c0 := r0.cell (i := 0) (by omega)
    have c1 := r0.cell (i := 1) (by omega)
    have c2 := r0.cell (i := 2) (by omega)
    have c3 := r0.cell (i := 3) (by omega)
    have c4 := r0.cell (i := 4) (by omega)
    have c5 := r0.cell (i := 5) (by omega)
    have c6 := r0.cell (i := 6) (by omega)
    have c7 := r0.cell (i := 7) (by omega)
    go_region_held3 (fun w' => w'.cell? ⟨w.heap.size, 0, none⟩ = some (uF s 0) ∧ w'.cell? ⟨w.heap.size, 1, none⟩ = some (uF s 1) ∧ w'.cell? ⟨w.heap.size, 2, none⟩ = some (uF s 2) ∧ w'.cell? ⟨w.heap.size, 3, none⟩ = some (uF s 3) ∧ w'.cell? ⟨w.heap.size, 4, none⟩ = some (uF s 4) ∧ w'.cell? ⟨w.heap.size, 5, none⟩ = some (uF s 5) ∧ w'.cell? ⟨w.heap.size, 6, none⟩ = some (uF s 6) ∧ w'.cell? ⟨w.heap.size, 7, none⟩ = some (uF s 7)) (first | with_reducible exact HS.out _ hb2 | with_reducible exact HS.out _ (hb2.alloc (by simp at hz1 hz2; omega) _) | with_reducible exact HS.out _ (below_setCells _ (by first | omega | (simp at hz1 hz2 ⊢; omega)) _ _ _ (hb2.alloc (by simp at hz1 hz2; omega) _)) | with_reducible exact HS.out _ (below_setCells _ (by first | omega | (simp at hz1 hz2 ⊢; omega)) _ _ _ hb2) | with_reducible exact HS.out _ hb1 | with_reducible exact HS.out _ (hb1.alloc (by simp at hz1; omega) _) | with_reducible exact HS.out _ HB2.out.drew | with_reducible exact HS.out _ (HB2.out.alloc (by omega) _).drew | with_reducible exact HS.out _ HB2.out | (trace "keep"; go_keep)) (first
      | (go_at_call 45; refine (schedule_near (B := w.heap.size + 2) (W0 := W0) l b o cap hcap hm (by omega) HC2.out _ (by first | with_reducible exact HB2.out.drew | with_reducible exact (HB2.out.alloc (by omega) _).drew) (by simp; omega)).mono ?_; rintro e w1 ⟨rfl, hb1, hg1, hz1⟩; (first | (have z1 := hg1 _ ((Row8_drew _ _).2 (Row8_zero W0 _ hs))) | skip))
      | (go_at_call 44; refine (rounds_near (B := w.heap.size + 2) (W0 := W0) K s _ (by omega) HK2.out _ (by first | with_reducible exact hb1 | with_reducible exact hb1.alloc (by simp at hz1; omega) _) (by simp at hz1 ⊢; omega)).mono ?_; rintro e w2 ⟨rfl, hb2, hg2, hz2⟩; (first | (have z2 := hg2 _ (Row8_zero w1 _ rfl)) | (have z2 := hg2 _ z1) | skip)))
    · go_wp2_with fail
      go_meet
      case rel => exact ⟨_, by simp at hz1 hz2; omega, rfl, (Row8_zero w2 _ rfl).setAll _, below_setCells _ (by simp at hz1 hz2; omega) _ _ _ (hb2.alloc (by simp at hz1 hz2; omega) _)⟩
    · go_wp2_with fail
      go_meet
      case rel => exact ⟨_, by simp at hz1; omega, rfl, z2.setAll _, below_setCells _ (by simp at hz1; omega) _ _ _ hb2⟩
    · go_wp2_with fail
      go_meet
      case rel => exact ⟨_, Nat.le_refl _, rfl, z2.setAll _, below_setCells _ (Nat.le_refl _) _ _ _ hb2⟩
  case rest =>
    obtain ⟨g, hg, rfl, q2, qB⟩ := hcut
    have q0 := rowIs_below r0 qB (by omega)
    have q1 := rowIs_below r1 qB (by omega)
    have qw : Below w.heap.size w wc := hB.trans (qB.mono (by omega))
    clear r0 r1 hB hs HB2 HK2 HC2 HK HC qB
    generalize HT : (runTo K (wS l 48) (St.of s) 64).get = T at q2
    have HT2 := Lib.hid HT
    clear HT
    go_wp2
    go_loopw [15] (fun i wr => ∃ k : Nat, k ≤ 8 ∧ i = .int .i64 k ∧ wr.rowIs w.heap.size 50 8 (uF (mixed s T k)) ∧ wr.rowIs (w.heap.size + 1) 50 8 (fun _ => .int .u32 0) ∧ wr.rowIs g 50 8 (uF T) ∧ Below w.heap.size w wr) (fun i _ => 8 - (intOf i).toNat)
    case atStart => exact ⟨0, by omega, rfl, q0, q1, q2, qw⟩
    case round =>
      obtain ⟨k, hk, rfl, r0, r1, r2, rB⟩ := hrel
      clear q0 q1 q2 qw
      by_cases hlt : k < 8
      · have c0 := r0.cell (i := k) (by omega)
        rw [uF_at, show mixed s T k k = s k by simp [mixed]] at c0
        have c2 := r2.cell (i := k) (by omega)
        have f0 := r0.frozen k
        have i8 : (k : Int) < 8 := by omega
        go_wp2
        refine wp_region_still_tail 8 (by kernel_rfl) (by kernel_rfl) ?_
        simp only [List.take_succ_cons, List.take_zero, List.drop_succ_cons, List.drop_zero]
        iterate 8 (refine wpStill_step (fun K hK => ?_); go_simp; (try go_bits); refine hK _ ?_; clear hK K)
        refine wpStill_nil ?_
        go_wp2
        go_roundw
        case rel => exact ⟨k + 1, by omega, by go_num, ((r0.set k _).congr fun i _ => mixed_set s T k i), r1.setOther (by simp) _, r2.setOther (by simp; omega) _, (rB.setCell (p := ⟨w.heap.size, k, none⟩) (by simp) _).drew⟩
        case measure => simp [intOf]; omega
      · obtain rfl : k = 8 := by omega
        have hR := rangeAt_row r0
        go_wp2_with (first
            | (refine wpList_load_mid rfl 50 (.tmp 2) rfl w.heap.size 0 rfl (rowA 8 (uF (mixed s T 8))).toList _ hR Tryd.underlying50 rfl (by rw [rowA_toList]; simpa using info23) ?_)
            | (refine wpList_store_mid rfl 50 (.tmp 4) (.tmp 27) rfl (w.heap.size + 1) 0 (rowA 8 (uF (mixed s T 8))) rfl rfl (by rw [rowA_size]; exact there_row r1) (by rw [rowA_size]; exact info23) (rowA_one _ _ fun _ => rfl) ?_))
        refine bodyPost_ret (results_row rfl _ rfl (rowIs_setAll r1 (uF (mixed s T 8))) Tryd.underlying50 info23) rfl ⟨?_, below_setCells _ (by omega) _ _ _ rB⟩
        rw [HT2.out]
        exact congrArg (fun z => Ending.returned (.agg z)) (rowA_congr fun i hi => by simp [uF, mixed, hi])
end Go.Proofs.YtphbjamfhmcjcaaDoor
