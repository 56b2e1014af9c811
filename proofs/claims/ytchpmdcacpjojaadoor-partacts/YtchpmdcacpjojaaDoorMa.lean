/- A region that draws its order, gone through ONCE, in the text's order: each operation has a condition on its value that no later step of the region can turn; whatever order is drawn, all conditions hold at the end. No program is named here. -/
import Derived.StillTail
import Derived.WalkKit
import Derived.WalkSpells
import Derived.WalkLawsBesides
import Derived.Lib.Hide
import Derived.Deep.OwnRows
import Derived.Deep.MidRow
import Derived.StillTailTactics
import Derived.RangeFuncNested
import Derived.RangeFuncBound
import Derived.RangeFuncCalls
import Derived.RangeFuncLeaves
import Derived.Shelf.Abstract
import Derived.OwnWalkIn
import Derived.TacticsInMore
import Derived.LoopNIn
import Derived.LoopIn
import Derived.Test.YtchpmdcacpjojaaDoorProg
import Derived.Maps.AppendAt
import Derived.Laws.StructEq
import Derived.Deep.AppendLies
import Derived.BigCall
import Derived.Test.YtchpmdcacpjojaaDoorRows
import Derived.ProofKit
import Derived.OpenShut
import Derived.Carry
import Derived.Deep.SlicePairs
import Derived.Deep.Cut
import Derived.Lib.SliceRun
set_option linter.all false
namespace Go.Proofs.YtchpmdcacpjojaaDoor
open Go
set_option maxRecDepth 8000
set_option linter.all false

/-- A condition on a value and a world that stands behind every step of T. -/
structure SV (T : World → World → Prop) where
  pred : Value → World → Prop
  stable : ∀ v w w', pred v w → T w w' → pred v w'
def SV.eq {T : World → World → Prop} (c : Value) : SV T := ⟨fun v _ => v = c, fun _ _ _ h _ => h⟩
def SV.any {T : World → World → Prop} : SV T := ⟨fun _ _ => True, fun _ _ _ h _ => h⟩

/-- Of each operation: the slots that it looks at, with the operation of the region that fills it, if it waits for one; its guard's slot. -/
abbrev Deps := List (List (Tmp × Option Nat) × Option (Tmp × Bool))

def relyFacts {T : World → World → Prop} (V : List (SV T)) (a0 a : Act) (w : World) : List (Tmp × Option Nat) → Prop
  | [] => True
  | (d, some j) :: r => (V.getD j SV.any).pred (a.tmps.getD d undef) w ∧ relyFacts V a0 a w r
  | (d, none) :: r => a.tmps.getD d undef = a0.tmps.getD d undef ∧ relyFacts V a0 a w r
def relyGuard : Option (Tmp × Bool) → Act → Bool
  | none, _ => true
  | some (d, b), a => match a.tmps.getD d undef with | .bool x => x == b | _ => false
/-- One operation, in whatever frame and world meets what it looks at. -/
def relyStep (P : Program) (Q : Exit → Act → World → Prop) (T : World → World → Prop) (V : List (SV T)) (a0 : Act) (w0 : World) (o : Oper) (dp : List (Tmp × Option Nat)) (g : Option (Tmp × Bool)) (c : SV T) : Prop :=
  ∀ (a : Act) (w : World), T w0 w → relyFacts V a0 a w dp → ∀ K : Act → World → Prop, (∀ v w', T w w' → c.pred v w' → K (a.put o.dst v) w') →
    if relyGuard g a then o.wp P a w K Q else K (a.put o.dst undef) w
def relyAll (P : Program) (Q : Exit → Act → World → Prop) (T : World → World → Prop) (V : List (SV T)) (a0 : Act) (w0 : World) : List Oper → Deps → List (SV T) → Prop
  | [], _, _ => True
  | o :: r, (dp, g) :: D, c :: C => relyStep P Q T V a0 w0 o dp g c ∧ relyAll P Q T V a0 w0 r D C
  | _, _, _ => False
/-- Shut, so that no tactic looks into it by itself. -/
structure Shut (p : Prop) : Prop where
  out : p
def relyEnd (Q : Exit → Act → World → Prop) (T : World → World → Prop) : List Oper → List (SV T) → Act → World → Prop
  | [], _, a, w => Shut (Q .normal a w)
  | o :: r, c :: C, a, w => ∀ u, (o.dst ≠ none → c.pred u w) → relyEnd Q T r C (a.put o.dst u) w
  | _, [], _, _ => True

def relyDst (ops : Array Oper) (j : Nat) : Option Tmp := (ops[j]?).bind (·.dst)
def relyOne (ops : Array Oper) (n : Nat) (i : Nat) (o : Oper) (dp : List (Tmp × Option Nat)) (g : Option (Tmp × Bool)) : Bool :=
  (match o.dst with | some d => decide (d < n) && (List.range ops.size).all (fun j => decide (j = i) || relyDst ops j != some d) | none => true) &&
  (o.after.all fun e => !Region.binds .any e || decide (e.on < i)) &&
  (dp.all fun x => match x.2 with
    | some j => relyDst ops j == some x.1 && Region.waitsFor .any ops i j
    | none => (List.range ops.size).all fun j => relyDst ops j != some x.1 || decide (j = i) || Region.waitsFor .any ops j i) &&
  (match o.guard, g with
    | none, none => true
    | some (k, b), some (d, b') => b == b' && relyDst ops k == some d && Region.waitsFor .any ops i k && decide (d < n)
    | _, _ => false)
def relyB (ops : Array Oper) (n : Nat) : Nat → List Oper → Deps → Bool
  | _, [], _ => true
  | i, o :: r, (dp, g) :: D => relyOne ops n i o dp g && relyB ops n (i + 1) r D
  | _, _, _ => false

section
variable {P : Program} {ops : Array Oper} {Q : Exit → Act → World → Prop} {T : World → World → Prop} {V : List (SV T)} {a0 : Act} {w0 : World} {n : Nat} {D : Deps}

/-- Not yet come up. -/
def unl (ops : Array Oper) (listed : Array Bool) : List Nat := (List.range ops.size).filter fun i => !listed.getD i true

theorem unl_set {listed : Array Bool} {i : Nat} (hs : listed.size = ops.size) (hi : listed.getD i true = false) : (unl ops (listed.setIfInBounds i true)).length + 1 = (unl ops listed).length := by
  have hlt : i < listed.size := by
    rcases Nat.lt_or_ge i listed.size with h | h
    · exact h
    · simp [Array.getElem?_eq_none h] at hi
  have hm : i ∈ unl ops listed := by
    unfold unl; rw [List.mem_filter]; exact ⟨List.mem_range.2 (by omega), by rw [hi]; rfl⟩
  have e : unl ops (listed.setIfInBounds i true) = (unl ops listed).erase i := by
    unfold unl
    rw [List.Nodup.erase_eq_filter (List.Nodup.sublist (List.filter_sublist) List.nodup_range)]
    rw [List.filter_filter]
    apply List.filter_congr
    intro j hj
    by_cases hji : i = j
    · subst hji; simp [hlt]
    · rw [getD_set_ne true hji]; simp [Ne.symm hji]
  rw [e, List.length_erase_of_mem hm]
  have := List.length_pos_of_mem hm
  omega

structure RelyInv (ops : Array Oper) (T : World → World → Prop) (V : List (SV T)) (a0 : Act) (w0 : World) (listed : Array Bool) (a : Act) (w : World) : Prop where
  size : listed.size = ops.size
  closed : ∀ j oj, ops[j]? = some oj → listed.getD j false = true → ∀ e ∈ oj.after, Region.binds .any e = true → listed.getD e.on false = true
  now : T w0 w
  slots : a.tmps.size = a0.tmps.size
  defers : a.defers = a0.defers
  new : ∀ j d, relyDst ops j = some d → listed.getD j false = true → (V.getD j SV.any).pred (a.tmps.getD d undef) w
  old : ∀ d, (∀ j, relyDst ops j = some d → listed.getD j false = false) → a.tmps.getD d undef = a0.tmps.getD d undef

theorem relyB_at : ∀ (l : List Oper) (D : Deps) (i k : Nat) (o : Oper), relyB ops n i l D = true → l[k]? = some o → ∃ dp g, D[k]? = some (dp, g) ∧ relyOne ops n (i + k) o dp g = true
  | [], _, _, _, _, _, h => by simp at h
  | x :: r, [], _, _, _, h, _ => by simp [relyB] at h
  | x :: r, (dp, g) :: D, i, 0, o, h, ho => by
    simp only [relyB, Bool.and_eq_true] at h
    simp at ho
    subst ho
    exact ⟨dp, g, rfl, h.1⟩
  | x :: r, (dp, g) :: D, i, k + 1, o, h, ho => by
    simp only [relyB, Bool.and_eq_true] at h
    obtain ⟨dp', g', hD, h'⟩ := relyB_at r D (i + 1) k o h.2 (by simpa using ho)
    exact ⟨dp', g', by simpa using hD, by rw [show i + (k + 1) = i + 1 + k by omega]; exact h'⟩
theorem relyAll_at : ∀ (l : List Oper) (D : Deps) (C : List (SV T)) (k : Nat) (o : Oper) dp g, relyAll P Q T V a0 w0 l D C → l[k]? = some o → D[k]? = some (dp, g) → relyStep P Q T V a0 w0 o dp g (C.getD k SV.any)
  | [], _, _, _, _, _, _, _, h, _ => by simp at h
  | x :: r, [], _, _, _, _, _, h, _, _ => h.elim
  | x :: r, y :: D, [], _, _, _, _, h, _, _ => h.elim
  | x :: r, (dp, g) :: D, c :: C, 0, o, dp', g', h, ho, hD => by
    simp at ho hD
    obtain ⟨rfl, rfl⟩ := hD
    subst ho
    exact h.1
  | x :: r, (dp, g) :: D, c :: C, k + 1, o, dp', g', h, ho, hD => by
    have := relyAll_at r D C k o dp' g' h.2 (by simpa using ho) (by simpa using hD)
    simpa using this
theorem relyEnd_of {a : Act} {w : World} : ∀ (l : List Oper) (C : List (SV T)) (b : Act), b.tmps.size = a.tmps.size → b.defers = a.defers → l.length ≤ C.length →
    (∀ d, (∀ o ∈ l, o.dst ≠ some d) → b.tmps.getD d undef = a.tmps.getD d undef) →
    (∀ (k : Nat) (o : Oper) d, l[k]? = some o → o.dst = some d → (C.getD k SV.any).pred (a.tmps.getD d undef) w) →
    relyEnd Q T l C b w → Q .normal a w
  | [], _, b, hs, hd, _, hb, _, h => by
    have e : b = a := by
      cases b; cases a
      simp only at hs hd
      subst hd
      congr 1
      apply Array.ext_getElem?
      intro d
      rcases Nat.lt_or_ge d (Array.size ‹_›) with hlt | hge
      · have := hb d (fun o ho => by simp at ho)
        simp only [Array.getD_eq_getD_getElem?] at this
        rw [Array.getElem?_eq_getElem hlt, Array.getElem?_eq_getElem (by omega)] at this ⊢
        simpa using this
      · rw [Array.getElem?_eq_none hge, Array.getElem?_eq_none (by omega)]
    subst e
    exact h.out
  | o :: r, [], _, _, _, hl, _, _, _ => by simp at hl
  | o :: r, c :: C, b, hs, hd, hl, hb, hV, h => by
    simp only [relyEnd] at h
    cases ho : o.dst with
    | none =>
      have h1 := h undef (fun hne => absurd ho hne)
      rw [ho] at h1
      refine relyEnd_of r C b hs hd (by simp at hl; omega) (fun d hr => hb d fun o' ho' => ?_) (fun k o' d hk hdd => by simpa using hV (k + 1) o' d (by simpa using hk) hdd) h1
      rcases List.mem_cons.1 ho' with rfl | hm
      · rw [ho]; simp
      · exact hr o' hm
    | some d0 =>
      have h1 := h (a.tmps.getD d0 undef) (fun _ => by simpa using hV 0 o d0 rfl ho)
      rw [ho] at h1
      refine relyEnd_of r C _ (by simp [Act.put, hs]) (by simp [Act.put, hd]) (by simp at hl; omega) (fun d hr => ?_) (fun k o' d hk hdd => by simpa using hV (k + 1) o' d (by simpa using hk) hdd) h1
      by_cases hdd : d0 = d
      · subst hdd
        rcases Nat.lt_or_ge d0 a.tmps.size with hlt | hge
        · simp [Act.put, hlt, hs]
        · simp [Act.put, Array.getElem?_eq_none hge]
      · have := hb d (fun o' ho' => by
          rcases List.mem_cons.1 ho' with rfl | hm
          · rw [ho]; simpa using hdd
          · exact hr o' hm)
        simpa [Act.put, Array.getElem?_setIfInBounds_ne hdd] using this

/-- One operation that may come up now, from a state that meets the invariant. -/
theorem rely_op (hn : a0.tmps.size = n) (ht : ∀ a b c : World, T a b → T b c → T a c) {i : Nat} {o : Oper} {dp : List (Tmp × Option Nat)} {g : Option (Tmp × Bool)} {listed : Array Bool} {a : Act} {w : World}
    (ho : ops[i]? = some o) (h1 : relyOne ops n i o dp g = true) (hstep : relyStep P Q T V a0 w0 o dp g (V.getD i SV.any)) (h0 : listed.getD i true = false)
    (hall : ∀ e ∈ o.after, Region.binds .any e = true → listed.getD e.on false = true) (inv : RelyInv ops T V a0 w0 listed a w) :
    wpOp P ops Q i (fun a' w' => RelyInv ops T V a0 w0 (listed.setIfInBounds i true) a' w') a w := by
  simp only [relyOne, Bool.and_eq_true] at h1
  obtain ⟨⟨⟨hdst, hafter⟩, hdp⟩, hg⟩ := h1
  have waits : ∀ j, Region.waitsFor .any ops i j = true → listed.getD j false = true := fun j hj => by
    obtain ⟨oi, hoi, e, he, hb, hon⟩ := Region.waitsFor_spec hj
    have : oi = o := Option.some.inj (hoi.symm.trans ho)
    subst this
    rw [← hon]
    exact hall e he hb
  have i0 : listed.getD i false = false := getD_both h0
  have hfacts : relyFacts V a0 a w dp := by
    clear hstep
    induction dp with
    | nil => trivial
    | cons x r ih2 =>
      simp only [List.all_cons, Bool.and_eq_true] at hdp
      obtain ⟨hx, hr⟩ := hdp
      obtain ⟨d, j⟩ := x
      cases j with
      | some j =>
        simp only [Bool.and_eq_true, beq_iff_eq] at hx
        exact ⟨inv.new j d hx.1 (waits j hx.2), ih2 hr⟩
      | none =>
        refine ⟨inv.old d fun j hj => ?_, ih2 hr⟩
        have hjlt : j < ops.size := by
          unfold relyDst at hj
          cases hoj : ops[j]? with
          | none => simp [hoj] at hj
          | some oj => exact (Array.getElem?_eq_some_iff.1 hoj).1
        have h2 := List.all_eq_true.1 hx j (List.mem_range.2 hjlt)
        simp only [hj, bne_self_eq_false, Bool.false_or, Bool.or_eq_true, decide_eq_true_eq] at h2
        rcases h2 with rfl | h2
        · exact i0
        · cases hlj : listed.getD j false with
          | false => rfl
          | true =>
            obtain ⟨oj, hoj, e, he, hb, hon⟩ := Region.waitsFor_spec h2
            have := inv.closed j oj hoj hlj e he hb
            rw [hon, i0] at this
            cases this
  have hguard : Region.wanted o (yielded ops a.tmps) = relyGuard g a := by
    unfold Region.wanted
    cases hgo : o.guard with
    | none =>
      rw [hgo] at hg
      cases g with
      | none => rfl
      | some x => cases hg
    | some kb =>
      obtain ⟨k, b⟩ := kb
      rw [hgo] at hg
      cases g with
      | none => cases hg
      | some x =>
        obtain ⟨d, b'⟩ := x
        simp only [Bool.and_eq_true, beq_iff_eq, decide_eq_true_eq] at hg
        obtain ⟨⟨⟨rfl, hd⟩, _⟩, hlt⟩ := hg
        have hlt' : d < a.tmps.size := by rw [inv.slots, hn]; exact hlt
        have hd' : (ops[k]?).bind (·.dst) = some d := hd
        simp only [yielded, hd', Option.bind_some, relyGuard, Array.getD_eq_getD_getElem?, Array.getElem?_eq_getElem hlt', Option.getD_some]
        cases a.tmps[d] <;> simp
        all_goals (rename_i x; cases x <;> cases b <;> rfl)
  have next : ∀ v w', T w w' → (V.getD i SV.any).pred v w' → RelyInv ops T V a0 w0 (listed.setIfInBounds i true) (a.put o.dst v) w' := fun v w' hT hv => by
    have hilt : i < listed.size := by rw [inv.size]; exact (Array.getElem?_eq_some_iff.1 ho).1
    refine ⟨by simp [inv.size], fun j oj hj hlj e he hb => ?_, ht _ _ _ inv.now hT, by cases o.dst <;> simp [Act.put, inv.slots], by cases o.dst <;> simp [Act.put, inv.defers], fun j d hj hlj => ?_, fun d hno => ?_⟩
    · by_cases hij : i = j
      · subst hij
        have : oj = o := Option.some.inj (hj.symm.trans ho)
        subst this
        exact getD_set_true (hall e he hb)
      · rw [getD_set_ne false hij] at hlj
        exact getD_set_true (inv.closed j oj hj hlj e he hb)
    · by_cases hij : i = j
      · subst hij
        have hd : o.dst = some d := by simpa [relyDst, ho] using hj
        rw [hd] at hdst
        simp only [Bool.and_eq_true, decide_eq_true_eq] at hdst
        have hlt : d < a.tmps.size := by rw [inv.slots, hn]; exact hdst.1
        rw [hd]
        simpa [Act.put, hlt] using hv
      · rw [getD_set_ne false hij] at hlj
        have h3 := (V.getD j SV.any).stable _ _ _ (inv.new j d hj hlj) hT
        cases hod : o.dst with
        | none => exact h3
        | some d0 =>
          rw [hod] at hdst
          simp only [Bool.and_eq_true, decide_eq_true_eq] at hdst
          have hjlt : j < ops.size := by
            unfold relyDst at hj
            cases hoj : ops[j]? with
            | none => simp [hoj] at hj
            | some oj => exact (Array.getElem?_eq_some_iff.1 hoj).1
          have h4 := List.all_eq_true.1 hdst.2 j (List.mem_range.2 hjlt)
          simp only [Bool.or_eq_true, decide_eq_true_eq, bne_iff_ne, ne_eq] at h4
          have hne : d0 ≠ d := fun e => by
            subst e
            rcases h4 with h4 | h4
            · exact hij h4.symm
            · exact h4 hj
          simpa [Act.put, Array.getElem?_setIfInBounds_ne hne] using h3
    · have hni : o.dst ≠ some d := fun hd => by
        have := hno i (by simp [relyDst, ho, hd])
        simp [hilt] at this
      have hold := inv.old d fun j hj => by
        have hij : i ≠ j := fun e => by subst e; exact hni (by simpa [relyDst, ho] using hj)
        have := hno j hj
        rwa [getD_set_ne false hij] at this
      cases hod : o.dst with
      | none => exact hold
      | some d0 =>
        have hne : d0 ≠ d := fun e => hni (by rw [hod, e])
        simpa [Act.put, Array.getElem?_setIfInBounds_ne hne] using hold
  have hs := hstep a w inv.now hfacts _ next
  unfold wpOp
  simp only [ho, hguard]
  split
  · rename_i hw; rw [if_pos hw] at hs; exact .inl hs
  · rename_i hw; rw [if_neg hw] at hs; exact hs

/-- At the end, from the canonical frame. -/
theorem rely_all {Q' : Act → World → Prop} {l : List Oper} {listed : Array Bool} {a : Act} {w : World} (inv : RelyInv ops T V a0 w0 listed a w) (hpre : ∀ (k : Nat) (o : Oper), l[k]? = some o → ops[k]? = some o ∧ listed.getD k false = true)
    (hno : ∀ j, listed.getD j false = true → j < l.length) (hl : l.length ≤ V.length) (hE : relyEnd (fun _ => Q') T l V a0 w) : Q' a w := by
  refine relyEnd_of (Q := fun _ => Q') l V a0 inv.slots.symm inv.defers.symm hl (fun d hnd => ?_) (fun k o d hk hd => ?_) hE
  · refine (inv.old d fun j hj => ?_).symm
    cases hlj : listed.getD j false with
    | false => rfl
    | true =>
      exfalso
      have hjl := hno j hlj
      have hj2 := (hpre j l[j] (List.getElem?_eq_getElem hjl)).1
      simp [relyDst, hj2] at hj
      exact hnd l[j] (List.getElem_mem hjl) hj
  · obtain ⟨hk', hlk⟩ := hpre k o hk
    exact inv.new k d (by simp [relyDst, hk', hd]) hlk

theorem rely_start (hd : T w0 w0.drew) : RelyInv ops T V a0 w0 (Array.replicate ops.size false) a0 w0.drew := by
  refine ⟨by simp, fun j oj hj hlj => ?_, hd, rfl, rfl, fun j d _ hlj => ?_, fun _ _ => rfl⟩
  · rw [getD_replicate_false] at hlj; cases hlj
  · rw [getD_replicate_false] at hlj; cases hlj
theorem rely_start' (hd : T w0 w0) : RelyInv ops T V a0 w0 (Array.replicate ops.size false) a0 w0 := by
  refine ⟨by simp, fun j oj hj hlj => ?_, hd, rfl, rfl, fun j d _ hlj => ?_, fun _ _ => rfl⟩
  · rw [getD_replicate_false] at hlj; cases hlj
  · rw [getD_replicate_false] at hlj; cases hlj
theorem unl_start : (unl ops (Array.replicate ops.size false)).length = ops.size := by
  unfold unl
  rw [List.filter_eq_self.2]
  · simp
  · intro i hi; simp at hi; simp [hi]

/-- The last operation waits for all others. -/
def lastB (ops : Array Oper) (last : Oper) (m : Nat) : Bool := Region.sinkB .any ops m && last.after.all fun e => !Region.binds .any e || decide (e.on < m)

theorem wpAny_done {listed : Array Bool} {a : Act} {w : World} (hr : Region.ready .any ops listed = []) (h : Q .normal a w) : ∀ fuel, wpAny P .any ops Q fuel listed a w
  | 0 => ⟨hr, h⟩
  | _ + 1 => ⟨fun _ => h, by rw [hr]; simp⟩
theorem ready_none {listed : Array Bool} (h : ∀ i, i < ops.size → listed.getD i false = true) : Region.ready .any ops listed = [] := by
  apply List.eq_nil_iff_forall_not_mem.2
  intro i hi
  obtain ⟨h0, o, ho, _⟩ := mem_ready.1 hi
  have := h i (Array.getElem?_eq_some_iff.1 ho).1
  rw [getD_both h0] at this
  cases this

section
variable {init : List Oper} {last : Oper}
theorem last_at (hsplit : ops.toList = init ++ [last]) : ops[init.length]? = some last ∧ ops.size = init.length + 1 ∧ ∀ (k : Nat) (o : Oper), init[k]? = some o → ops[k]? = some o := by
  have e : ops = (init ++ [last]).toArray := by rw [← hsplit]
  subst e
  refine ⟨by simp, by simp, fun k o hk => ?_⟩
  have hlt := (List.getElem?_eq_some_iff.1 hk).1
  simp [List.getElem?_append_left hlt, hk]
theorem last_op (hsplit : ops.toList = init ++ [last]) (hg : last.guard = none) (hl : init.length ≤ V.length) {K : Act → World → Prop} {listed : Array Bool} {a : Act} {w : World}
    (hE : ∀ w, T w0 w → relyEnd (fun _ a w => last.wp P a w (fun a' w' => Q .normal a' w') Q) T init V a0 w)
    (inv : RelyInv ops T V a0 w0 listed a w) (hdone : ∀ j, j < init.length → listed.getD j false = true) (hun : listed.getD init.length true = false) (hK : ∀ a' w', Q .normal a' w' → K a' w') : wpOp P ops Q init.length K a w := by
  obtain ⟨hlo, hsz, hpre⟩ := last_at hsplit
  have h1 : last.wp P a w (fun a' w' => Q .normal a' w') Q := rely_all (Q' := fun a w => last.wp P a w (fun a' w' => Q .normal a' w') Q) inv
    (fun k o hk => ⟨hpre k o hk, hdone k (List.getElem?_eq_some_iff.1 hk).1⟩) (fun j hj => by
      rcases Nat.lt_or_ge j init.length with h | h
      · exact h
      · rcases Nat.eq_or_lt_of_le h with h | h
        · subst h; rw [getD_both hun] at hj; cases hj
        · have : listed.getD j false = false := by simp [Array.getElem?_eq_none (show listed.size ≤ j by rw [inv.size]; omega)]
          rw [this] at hj; cases hj) hl (hE w inv.now)
  unfold wpOp
  simp only [hlo, Region.wanted, hg, if_true]
  exact .inl (Oper.wp_mono hK h1)

/-- **A region that draws its order, in the text's own order; the last operation waits for all others, and may do what it likes.** -/
theorem wpAny_rely (hsplit : ops.toList = init ++ [last]) (hn : a0.tmps.size = n) (hB : relyB ops n 0 init D = true) (hlast : lastB ops last init.length = true) (hg : last.guard = none) (ht : ∀ a b c : World, T a b → T b c → T a c)
    (hl : init.length ≤ V.length) (hA : relyAll P Q T V a0 w0 init D V) (hE : ∀ w, T w0 w → relyEnd (fun _ a w => last.wp P a w (fun a' w' => Q .normal a' w') Q) T init V a0 w) :
    ∀ (fuel : Nat) (listed : Array Bool) (a : Act) (w : World), (unl ops listed).length = fuel → listed.getD init.length true = false → RelyInv ops T V a0 w0 listed a w → wpAny P .any ops Q fuel listed a w := by
  obtain ⟨hlo, hsz, hpre⟩ := last_at hsplit
  simp only [lastB, Bool.and_eq_true] at hlast
  have hat : ∀ i o, init[i]? = some o → ∃ dp g, relyOne ops n i o dp g = true ∧ relyStep P Q T V a0 w0 o dp g (V.getD i SV.any) := fun i o hi => by
    obtain ⟨dp, g, hD, h1⟩ := relyB_at init D 0 i o hB hi
    rw [Nat.zero_add] at h1
    exact ⟨dp, g, h1, relyAll_at _ _ _ i o dp g hA hi hD⟩
  intro fuel
  induction fuel with
  | zero =>
    intro listed a w hu hun inv
    have : init.length ∈ unl ops listed := by
      unfold unl; rw [List.mem_filter]; exact ⟨List.mem_range.2 (by omega), by rw [hun]; rfl⟩
    rw [List.eq_nil_of_length_eq_zero hu] at this
    cases this
  | succ fuel ih =>
    intro listed a w hu hun inv
    refine ⟨fun hr => ?_, fun i hi => ?_⟩
    · exfalso
      have all : ∀ i, i < init.length → listed.getD i false = true := fun i => by
        induction i using Nat.strongRecOn with
        | _ i ih =>
          intro hi
          cases hli : listed.getD i false with
          | true => rfl
          | false =>
            exfalso
            have hmem : i ∈ Region.ready .any ops listed := by
              rw [mem_ready]
              refine ⟨getD_in (by rw [inv.size]; omega) hli, init[i], hpre i _ (List.getElem?_eq_getElem hi), fun e he hb => ?_⟩
              obtain ⟨dp, g, h1, _⟩ := hat i init[i] (List.getElem?_eq_getElem hi)
              simp only [relyOne, Bool.and_eq_true] at h1
              have h2 := (Array.all_eq_true_iff_forall_mem.1 h1.1.1.2) e he
              simp only [hb, Bool.not_true, Bool.false_or, decide_eq_true_eq] at h2
              exact ih e.on h2 (by omega)
            rw [hr] at hmem
            cases hmem
      have hmem : init.length ∈ Region.ready .any ops listed := by
        rw [mem_ready]
        refine ⟨hun, last, hlo, fun e he hb => ?_⟩
        have h2 := (Array.all_eq_true_iff_forall_mem.1 hlast.2) e he
        simp only [hb, Bool.not_true, Bool.false_or, decide_eq_true_eq] at h2
        exact all e.on h2
      rw [hr] at hmem
      cases hmem
    · obtain ⟨h0, o, ho, hall⟩ := mem_ready.1 hi
      have hilt := (Array.getElem?_eq_some_iff.1 ho).1
      by_cases him : i = init.length
      · subst him
        have hol : o = last := Option.some.inj (ho.symm.trans hlo)
        subst hol
        have hdone : ∀ (d j : Nat), init.length - j = d → j < init.length → listed.getD j false = true := fun d => by
          induction d using Nat.strongRecOn with
          | _ d ihd =>
            intro j hd hj
            have h1 := List.all_eq_true.1 hlast.1 j (List.mem_range.2 hj)
            obtain ⟨t, ht1, ht2⟩ := List.any_eq_true.1 h1
            simp only [Bool.and_eq_true, decide_eq_true_eq] at ht2
            obtain ⟨ot, hot, e, he, hb, hon⟩ := Region.waitsFor_spec ht2.2
            have htle : t ≤ init.length := by have := List.mem_range.1 ht1; omega
            rw [← hon]
            by_cases htm : t = init.length
            · subst htm
              have : ot = o := Option.some.inj (hot.symm.trans ho)
              subst this
              exact hall e he hb
            · exact inv.closed t ot hot (ihd (init.length - t) (by omega) t rfl (by omega)) e he hb
        replace hdone : ∀ j, j < init.length → listed.getD j false = true := fun j hj => hdone _ j rfl hj
        refine last_op hsplit hg hl hE inv hdone hun fun a' w' h => wpAny_done (ready_none fun j hj => ?_) h _
        by_cases hj2 : j = init.length
        · subst hj2; simp [show init.length < listed.size by rw [inv.size]; exact hj]
        · exact getD_set_true (hdone j (by omega))
      · have hi' : i < init.length := by omega
        have hio : init[i]? = some o := by
          have := hpre i init[i] (List.getElem?_eq_getElem hi')
          rw [ho] at this
          rw [List.getElem?_eq_getElem hi', Option.some.inj this]
        obtain ⟨dp, g, h1, hstep⟩ := hat i o hio
        refine wpOp_mono (fun a' w' inv' => ih _ a' w' (by have := unl_set inv.size h0; omega) (by rw [getD_set_ne true him]; exact hun) inv') (rely_op hn ht ho h1 hstep h0 hall inv)

/-- In the text's order, from place k on. -/
theorem wpOps_rely (hsplit : ops.toList = init ++ [last]) (hn : a0.tmps.size = n) (hB : relyB ops n 0 init D = true) (hg : last.guard = none) (ht : ∀ a b c : World, T a b → T b c → T a c)
    (hl : init.length ≤ V.length) (hA : relyAll P Q T V a0 w0 init D V) (hE : ∀ w, T w0 w → relyEnd (fun _ a w => last.wp P a w (fun a' w' => Q .normal a' w') Q) T init V a0 w) :
    ∀ (f k : Nat) (listed : Array Bool) (a : Act) (w : World), k + f = init.length → (∀ j, j < k → listed.getD j false = true) → (∀ j, k ≤ j → j < ops.size → listed.getD j true = false) → RelyInv ops T V a0 w0 listed a w → wpOps P ops Q (List.range' k (f + 1)) a w := by
  obtain ⟨hlo, hsz, hpre⟩ := last_at hsplit
  intro f
  induction f with
  | zero =>
    intro k listed a w hk hdone hun inv
    obtain rfl : k = init.length := by omega
    rw [List.range'_succ, wpOps_cons]
    exact last_op hsplit hg hl hE inv hdone (hun _ (Nat.le_refl _) (by omega)) fun a' w' h => by simpa [wpOps] using h
  | succ f ih =>
    intro k listed a w hk hdone hun inv
    rw [List.range'_succ, wpOps_cons]
    have hklt : k < init.length := by omega
    have hio : init[k]? = some init[k] := List.getElem?_eq_getElem hklt
    obtain ⟨dp, g, hD, h1⟩ := relyB_at init D 0 k _ hB hio
    rw [Nat.zero_add] at h1
    have hstep := relyAll_at _ _ _ k _ dp g hA hio hD
    refine wpOp_mono (fun a' w' inv' => ih (k + 1) _ a' w' (by omega) (fun j hj => ?_) (fun j hj hj2 => ?_) inv') (rely_op hn ht (hpre k _ hio) h1 hstep (hun k (Nat.le_refl _) (by omega)) (fun e he hb => ?_) inv)
    · by_cases hjk : k = j
      · subst hjk; simp [show k < listed.size by rw [inv.size]; omega]
      · exact getD_set_true (hdone j (by omega))
    · rw [getD_set_ne true (by omega)]; exact hun j (by omega) hj2
    · simp only [relyOne, Bool.and_eq_true] at h1
      have h2 := (Array.all_eq_true_iff_forall_mem.1 h1.1.1.2) e he
      simp only [hb, Bool.not_true, Bool.false_or, decide_eq_true_eq] at h2
      exact hdone e.on h2

end
section
variable {last : Oper}
theorem split_last (h : ops.toList.getLast? = some last) : ops.toList = ops.toList.dropLast ++ [last] := by
  have hne : ops.toList ≠ [] := fun e => by rw [e] at h; cases h
  rw [List.getLast?_eq_some_getLast hne] at h
  rw [← Option.some.inj h, List.dropLast_concat_getLast hne]
/-- **A region that draws its order.** -/
theorem wp_region_rely {id : Nat} (T : World → World → Prop) (V : List (SV T)) (D : Deps) (n : Nat) (hla : ops.toList.getLast? = some last) (hm : P.follows .mixedOrders = true) (hn : a0.tmps.size = n) (hB : relyB ops n 0 ops.toList.dropLast D = true)
    (hlast : lastB ops last ops.toList.dropLast.length = true) (hg : last.guard = none) (ht : ∀ a b c : World, T a b → T b c → T a c) (hd : T w0 w0.drew) (hl : ops.toList.dropLast.length ≤ V.length)
    (hA : relyAll P Q T V a0 w0 ops.toList.dropLast D V) (hE : ∀ w, T w0 w → relyEnd (fun _ a w => last.wp P a w (fun a' w' => Q .normal a' w') Q) T ops.toList.dropLast V a0 w) : (Code.region id ops true).wp P Q a0 w0 := by
  have hsplit := split_last hla
  obtain ⟨_, hsz, _⟩ := last_at hsplit
  refine wp_region_any hm ?_
  exact wpAny_rely hsplit hn hB hlast hg ht hl hA hE ops.size _ a0 w0.drew unl_start (by
    have hlt : ops.toList.dropLast.length < ops.size := by omega
    generalize ops.toList.dropLast.length = m at hlt
    simp [hlt]) (rely_start hd)
/-- **A region in the text's order.** -/
theorem wp_region_seq {id : Nat} (T : World → World → Prop) (V : List (SV T)) (D : Deps) (n : Nat) (hla : ops.toList.getLast? = some last) (hn : a0.tmps.size = n) (hB : relyB ops n 0 ops.toList.dropLast D = true)
    (hg : last.guard = none) (ht : ∀ a b c : World, T a b → T b c → T a c) (hd : T w0 w0) (hl : ops.toList.dropLast.length ≤ V.length)
    (hA : relyAll P Q T V a0 w0 ops.toList.dropLast D V) (hE : ∀ w, T w0 w → relyEnd (fun _ a w => last.wp P a w (fun a' w' => Q .normal a' w') Q) T ops.toList.dropLast V a0 w) : (Code.region id ops false).wp P Q a0 w0 := by
  have hsplit := split_last hla
  obtain ⟨_, hsz, _⟩ := last_at hsplit
  refine wp_region ?_
  rw [List.range_eq_range', hsz]
  exact wpOps_rely hsplit hn hB hg ht hl hA hE ops.toList.dropLast.length 0 _ a0 w0 (by omega) (fun j hj => by omega) (fun j _ hj => by simp [hj]) (rely_start' hd)
end
end
end Go.Proofs.YtchpmdcacpjojaaDoor
/- Own words for numbers of 32 bits and bytes, and how the walk's arithmetic reads on them. No program is named here. -/
namespace Go.Proofs.YtchpmdcacpjojaaDoor
open Go.RowKit
set_option maxRecDepth 8000
set_option linter.all false

/-- A number of 32 bits, as the model has it. -/
def uN (x : BitVec 32) : Int := x.toNat
/-- A byte, as the model has it. -/
def bN (b : UInt8) : Int := b.toNat

theorem uN_lt (x : BitVec 32) : 0 ≤ uN x ∧ uN x < 4294967296 := by unfold uN; omega
theorem bN_lt (x : UInt8) : 0 ≤ bN x ∧ bN x < 256 := by unfold bN; have := x.toNat_lt; omega

theorem wrap_u32 (n : Int) : IntKind.u32.wrap n = n % 4294967296 := by simp [IntKind.wrap, IntKind.bits, IntKind.signed]
theorem wrap_u8 (n : Int) : IntKind.u8.wrap n = n % 256 := by simp [IntKind.wrap, IntKind.bits, IntKind.signed]
theorem ofInt_uN (x : BitVec 32) : BitVec.ofInt 32 (uN x) = x := by unfold uN; simp
theorem wrap_uN (x : BitVec 32) : IntKind.u32.wrap (uN x) = uN x := by rw [wrap_u32]; have := uN_lt x; omega
theorem u32_add (x y : BitVec 32) : IntKind.u32.wrap (uN x + uN y) = uN (x + y) := by
  rw [wrap_u32]; unfold uN; rw [BitVec.toNat_add]; omega
theorem u32_xor (x y : BitVec 32) : bits .xor .u32 (uN x) (uN y) = uN (x ^^^ y) := by
  show IntKind.u32.wrap (uN (BitVec.ofInt 32 (uN x) ^^^ BitVec.ofInt 32 (uN y))) = _
  rw [ofInt_uN, ofInt_uN, wrap_uN]
theorem u32_and (x y : BitVec 32) : bits .and .u32 (uN x) (uN y) = uN (x &&& y) := by
  show IntKind.u32.wrap (uN (BitVec.ofInt 32 (uN x) &&& BitVec.ofInt 32 (uN y))) = _
  rw [ofInt_uN, ofInt_uN, wrap_uN]
theorem u32_or (x y : BitVec 32) : bits .or .u32 (uN x) (uN y) = uN (x ||| y) := by
  show IntKind.u32.wrap (uN (BitVec.ofInt 32 (uN x) ||| BitVec.ofInt 32 (uN y))) = _
  rw [ofInt_uN, ofInt_uN, wrap_uN]
theorem u32_not (x : BitVec 32) : bits .xor .u32 IntKind.u32.max (uN x) = uN (~~~x) := by
  show IntKind.u32.wrap (uN (BitVec.ofInt 32 IntKind.u32.max ^^^ BitVec.ofInt 32 (uN x))) = _
  rw [ofInt_uN, wrap_uN, show BitVec.ofInt 32 IntKind.u32.max = BitVec.allOnes 32 by decide, BitVec.allOnes_xor]
theorem signed_u32 : IntKind.u32.signed = false := rfl
theorem u32_shr (x : BitVec 32) (n : Nat) : uN x / (2 : Int) ^ n = uN (x >>> n) := by
  unfold uN; rw [BitVec.toNat_ushiftRight, Nat.shiftRight_eq_div_pow]; simp
theorem u32_shl (x : BitVec 32) (n : Nat) : IntKind.u32.wrap (uN x * (2 : Int) ^ n) = uN (x <<< n) := by
  rw [wrap_u32]; unfold uN; rw [BitVec.toNat_shiftLeft, Nat.shiftLeft_eq]; simp
theorem u32_div8 (x : BitVec 32) : uN x / (8 : Int) = uN (x >>> 3) := u32_shr x 3
theorem u32_div1024 (x : BitVec 32) : uN x / (1024 : Int) = uN (x >>> 10) := u32_shr x 10
theorem u32_mul256 (x : BitVec 32) : IntKind.u32.wrap (uN x * (256 : Int)) = uN (x <<< 8) := u32_shl x 8
theorem bN_u32 (b : UInt8) : IntKind.u32.wrap (bN b) = uN (b.toBitVec.setWidth 32) := by
  have h := bN_lt b
  rw [wrap_u32]; unfold uN bN at *; rw [BitVec.toNat_setWidth]
  show (b.toNat : Int) % 4294967296 = ((b.toNat % 2 ^ 32 : Nat) : Int)
  omega
theorem u32_u8 (x : BitVec 32) : IntKind.u8.wrap (uN x) = bN (UInt8.ofBitVec (x.setWidth 8)) := by
  rw [wrap_u8]; unfold uN bN
  show _ = (((x.setWidth 8).toNat : Nat) : Int)
  rw [BitVec.toNat_setWidth]; omega
theorem uN_rotr (x : BitVec 32) (n : Nat) (h1 : n < 32) : bits .or .u32 (uN (x <<< (32 - n))) (uN (x >>> n)) = uN (x.rotateRight n) := by
  rw [u32_or, BitVec.rotateRight_def, Nat.mod_eq_of_lt h1, BitVec.or_comm]
theorem bN_inj {x y : UInt8} (h : bN x = bN y) : x = y := by
  unfold bN at h; exact UInt8.toNat_inj.1 (by omega)

end Go.Proofs.YtchpmdcacpjojaaDoor
/- Own words for rows of cells: an array by value as a function of its places; whole arrays read, written and handed back. No program is named here. -/
namespace Go.Proofs.YtchpmdcacpjojaaDoor
open Go.RowKit
set_option maxRecDepth 8000
set_option linter.all false

/-- The cells of an array by value: n places, place i holds f i. -/
def rowA (n : Nat) (f : Nat → Value) : Array Value := ((List.range n).map f).toArray
theorem rowA_size (n : Nat) (f : Nat → Value) : (rowA n f).size = n := by simp [rowA]
theorem rowA_toList (n : Nat) (f : Nat → Value) : (rowA n f).toList = (List.range n).map f := by simp [rowA]
theorem rowA_at (n : Nat) (f : Nat → Value) (i : Nat) (h : i < n) : (rowA n f)[i]? = some (f i) := by simp [rowA, h]
theorem rowA_congr {n : Nat} {f g : Nat → Value} (h : ∀ i, i < n → f i = g i) : rowA n f = rowA n g := by
  unfold rowA; congr 1; exact List.map_congr_left fun i hi => h i (by simpa using hi)
theorem rowA_one (n : Nat) (f : Nat → Value) (h : ∀ i, (f i).oneCell' = true) : (rowA n f).all (·.oneCell') = true :=
  all_oneCell_toArray (fun v hv => by obtain ⟨i, _, rfl⟩ := List.mem_map.1 hv; exact h i)

section
variable {P : Program} {w w' : World} {b : Nat} {t : TypeId} {n : Nat} {f g : Nat → Value}

theorem rowIs_box (w : World) (t : TypeId) (n : Nat) (f : Nat → Value) : (w.alloc (.cells (rowA n f) t)).rowIs w.heap.size t n f := by
  have := World.rowIs_alloc w (rowA n f) t f (fun i hi => rowA_at n f i (by rwa [rowA_size] at hi))
  rwa [rowA_size] at this
theorem rowIs_below {B : Nat} (h : w.rowIs b t n f) (hb : Below B w w') (hlt : b < B) : w'.rowIs b t n f := h.of_block (hb.block b hlt)
theorem rangeAt_row (h : w.rowIs b t n f) : w.rangeAt b 0 (rowA n f).toList := fun j v hv => by
  rw [rowA_toList, List.getElem?_map] at hv
  cases hj : (List.range n)[j]? with
  | none => rw [hj] at hv; simp at hv
  | some k =>
    rw [hj] at hv
    obtain ⟨hlt, hk⟩ := List.getElem?_eq_some_iff.1 hj
    simp at hlt hk
    subst hk
    simp at hv
    subst hv
    simpa using h.cell hlt
theorem there_row (h : w.rowIs b t n f) : w.there b 0 n := fun j hj => ⟨by simp [h.cell (i := j) hj], by simpa using h.frozen j⟩
theorem below_setCells {B : Nat} {a : World} (b : Nat) (hb : B ≤ b) : ∀ (vs : List Value) (o : Nat) (w : World), Below B a w → Below B a (w.setCells b o vs)
  | [], _, _, h => h
  | v :: r, o, w, h => by
    rw [World.setCells]
    exact below_setCells b hb r (o + 1) _ (h.setCell (p := ⟨b, o, none⟩) hb v)
theorem rowIs_setCells_at (h : w.rowIs b t n f) : ∀ (vs : List Value) (o : Nat), (w.setCells b o vs).rowIs b t n (fun i => if o ≤ i ∧ i < o + vs.length then vs.getD (i - o) undef else f i) := by
  intro vs
  induction vs generalizing w f with
  | nil => intro o; exact h.congr fun i _ => by rw [if_neg (by simp only [List.length_nil]; omega)]
  | cons v r ih =>
    intro o
    rw [World.setCells]
    refine (ih (h.set o v) (o + 1)).congr fun i hi => ?_
    by_cases e : i = o
    · subst e; rw [if_neg (by omega), if_pos rfl, if_pos (by simp only [List.length_cons]; omega)]; simp
    · by_cases h2 : o + 1 ≤ i ∧ i < o + 1 + r.length
      · rw [if_pos h2, if_pos (by simp only [List.length_cons]; omega), show i - o = (i - (o + 1)) + 1 by omega]; simp
      · rw [if_neg h2, if_neg e, if_neg (by simp only [List.length_cons]; omega)]
theorem rowIs_setAll (h : w.rowIs b t n f) (g : Nat → Value) : (w.setCells b 0 (rowA n g).toList).rowIs b t n g :=
  (rowIs_setCells_at h (rowA n g).toList 0).congr fun i hi => by
    have hl : (rowA n g).toList.length = n := by rw [rowA_toList]; simp
    rw [if_pos ⟨Nat.zero_le _, by omega⟩, rowA_toList]; simp [hi]
theorem rowIs_setOther (h : w.rowIs b t n f) {b' : Nat} (hne : b ≠ b') : ∀ (vs : List Value) (o : Nat), (w.setCells b' o vs).rowIs b t n f := by
  intro vs
  induction vs generalizing w with
  | nil => intro o; exact h
  | cons v r ih => intro o; rw [World.setCells]; exact ih (h.setOther (a := ⟨b', o, none⟩) hne v) (o + 1)
theorem load_row {e : TypeId} {m : Nat} (h : w.rowIs b t n f) {ty : TypeId} (hu : P.underlying ty = some (.array m e)) (hi : (P.info? ty).map (·.size) = some n) :
    (loadVar ty ⟨b, 0, none⟩).run P w = .ok (.agg (rowA n f)) w := by
  have := run_loadVar_mid (P := P) w b 0 ty (rowA n f).toList _ (rangeAt_row h) hu rfl (by rw [hi, rowA_toList]; simp)
  simpa using this
/-- An element of an array by value. -/
theorem index_row (t e : TypeId) (d : TypeDesc) (hu : P.underlying t = some (.array n e)) (he : P.underlying e = some d) (hd : d.isRow = false) (hs : (P.info? e).map (·.size) = some 1) (f : Nat → Value) (kd : IntKind) (k : Nat) (hk : k < n) (w : World) :
    (Instr.index t (.agg (rowA n f)) (.int kd (k : Int))).run P w = .ok (f k) w := by
  have hsz : (sizeOf e).run P w = .ok 1 w := by
    cases hq : P.info? e with
    | none => simp [hq] at hs
    | some i => simp [hq] at hs; simp [sizeOf, typeInfo, hq, hs]
  have hagg : (isAgg e).run P w = .ok false w := by
    unfold isAgg
    rw [Sem.run_bind, run_underlying he w]
    cases d <;> simp_all
  have hat := rowA_at n f k hk
  simp [Instr.index, asIntOf, run_underlying hu, hsz, hk, part, hagg, hat]
/-- 's[m:]', the address as the model has it. -/
theorem slice_from (t e : TypeId) (hu : P.underlying t = some (.slice e)) (hs : (P.info? e).map (·.size) = some 1) (a : Addr) (n cap m : Nat) (hm : m ≤ n) (w : World) :
    (Instr.slice t (.slice (some a) n cap) (some (.int .i64 (m : Int))) none none).run P w = .ok (.slice (some (if cap = m then a else a.add m)) (n - m) (cap - m)) w := by
  have hsz : (sizeOf e).run P w = .ok 1 w := by
    cases hq : P.info? e with
    | none => simp [hq] at hs
    | some i => simp [hq] at hs; simp [sizeOf, typeInfo, hq, hs]
  by_cases h : cap = m
  · simp [Instr.slice, run_underlying hu, Instr.sliceBounds, Instr.sliceBound, asIntOf, hm, hsz, h]
  · simp [Instr.slice, run_underlying hu, Instr.sliceBounds, Instr.sliceBound, asIntOf, hm, hsz, h]
/-- An array that a call hands back. -/
theorem results_row {e : TypeId} {m : Nat} {fn : Func} {p : Tmp} {ty : TypeId} (hf : fn.results = #[.cell p ty]) (tmps : Array Value) (hp : tmps.getD p undef = .pointer (some ⟨b, 0, none⟩))
    (h : w.rowIs b t n f) (hu : P.underlying ty = some (.array m e)) (hi : (P.info? ty).map (·.size) = some n) : (results fn tmps).run P w = .ok (.agg (rowA n f)) w := by
  have := load_row (P := P) h hu hi
  have hp' : tmps[p]?.getD undef = .pointer (some ⟨b, 0, none⟩) := by simpa using hp
  simp [results, hf, hp', asAddr, this]
end
end Go.Proofs.YtchpmdcacpjojaaDoor
/- A law of our own for a range over a function, at the wide fence: the iterator tells its rounds something of what it hands on (what a slice reads as), and keeps memory of its own; the caller's invariant abides whatever turns from the loop's beginning on. No program is named here. -/
namespace Go.Proofs.YtchpmdcacpjojaaDoor
open Go.RowKit
set_option maxRecDepth 8000
set_option linter.all false

/-- Cells outside the blocks of L lie as they lay. -/
def KeepBut (L : List Nat) (W W' : World) : Prop :=
  W.heap.size ≤ W'.heap.size ∧ ∀ (k : Nat) (o : Obj), k ∉ L → W.heap[k]? = some o → o.isCells = true → W'.heap[k]? = some o
theorem KeepBut.refl (L : List Nat) (W : World) : KeepBut L W W := ⟨Nat.le_refl _, fun _ _ _ h _ => h⟩
theorem KeepBut.trans {L : List Nat} {A B C : World} (h : KeepBut L A B) (k : KeepBut L B C) : KeepBut L A C :=
  ⟨Nat.le_trans h.1 k.1, fun i o hi ho hc => k.2 i o hi (h.2 i o hi ho hc) hc⟩
theorem KeepBut.more {L L' : List Nat} {A B : World} (h : KeepBut L A B) (hL : ∀ k, k ∈ L → k ∈ L') : KeepBut L' A B :=
  ⟨h.1, fun i o hi ho hc => h.2 i o (fun hm => hi (hL i hm)) ho hc⟩
theorem KeepBut.putObj {L : List Nat} {W : World} {l : Nat} {o o' : Obj} (h : W.heap[l]? = some o) (hc : o.isCells = false) : KeepBut L W (W.putObj l o') :=
  ⟨by simp, fun k ok _ hk hck => by
    by_cases e : k = l
    · subst e; rw [h] at hk; cases hk; rw [hc] at hck; cases hck
    · exact (World.putObj_heap_other e).trans hk⟩
theorem KeepBut.below {L : List Nat} {W W' : World} (h : Below W.heap.size W W') : KeepBut L W W' :=
  ⟨h.size, fun k _ _ hk _ => (h.block k (Array.getElem?_eq_some_iff.1 hk).1).trans hk⟩
theorem KeepBut.drew {L : List Nat} (W : World) : KeepBut L W W.drew := ⟨Nat.le_refl _, fun _ _ _ h _ => h⟩
theorem KeepBut.alloc {L : List Nat} (W : World) (o : Obj) : KeepBut L W (W.alloc o) := KeepBut.below ((Below.refl _ W).alloc (Nat.le_refl _) o)
theorem KeepBut.setCell {L : List Nat} {W : World} {a : Addr} (ha : a.block ∈ L) (v : Value) : KeepBut L W (W.setCell a v) :=
  ⟨by simp, fun k _ hk h _ => (Below.heap_setCell W a v k (fun e => hk (e ▸ ha))).trans h⟩
theorem KeepBut.setCells {L : List Nat} {b : Nat} (hb : b ∈ L) : ∀ (vs : List Value) (o : Nat) (W : World), KeepBut L W (W.setCells b o vs)
  | [], _, W => KeepBut.refl L W
  | v :: r, o, W => by
    rw [World.setCells]
    exact (KeepBut.setCell (a := ⟨b, o, none⟩) hb v).trans (KeepBut.setCells hb r (o + 1) _)
theorem KeepBut.cell {L : List Nat} {W W' : World} (h : KeepBut L W W') {a : Addr} {v : Value} (ha : a.block ∉ L) (hc : W.cell? a = some v) : W'.cell? a = some v := by
  obtain ⟨o, ho, hic⟩ : ∃ o, W.heap[a.block]? = some o ∧ o.isCells = true := by
    unfold World.cell? at hc
    cases ho : W.heap[a.block]? with
    | none => simp [ho] at hc
    | some o => exact ⟨o, rfl, by cases o <;> simp_all [Obj.isCells]⟩
  rw [World.cell?_of_block ((h.2 _ o ha ho hic).trans ho.symm)]; exact hc
theorem KeepBut.row {L : List Nat} {W W' : World} (h : KeepBut L W W') {b n : Nat} {t : TypeId} {f : Nat → Value} (hb : b ∉ L) (hr : W.rowIs b t n f) : W'.rowIs b t n f := by
  obtain ⟨c, hc, hs, hf⟩ := hr
  exact ⟨c, h.2 _ _ hb hc rfl, hs, hf⟩

/-- A step after which all that is no cells lies as it lay, by 'Below' at the heap's end. -/
theorem keepsOthers_below {W W' : World} (h : Below W.heap.size W W') : KeepsOthers W W' :=
  ⟨h.size, fun k _ hk _ => (h.block k (Array.getElem?_eq_some_iff.1 hk).1).trans hk⟩
theorem keepsOthers_setCells (b : Nat) : ∀ (vs : List Value) (o : Nat) (W : World), KeepsOthers W (W.setCells b o vs)
  | [], _, W => KeepsOthers.refl W
  | v :: r, o, W => by
    rw [World.setCells]
    exact (KeepsOthers.setCell W _ v).trans (keepsOthers_setCells b r (o + 1) _)

theorem below_putObj {B : Nat} {W : World} {l : Nat} (hl : B ≤ l) (o : Obj) : Below B W (W.putObj l o) := ⟨rfl, rfl, rfl, by simp, fun k hk => World.putObj_heap_other (by omega)⟩
theorem keepsFrom_low {B : Nat} {W : World} {l : Nat} (o : Obj) (hl : l < B) : KeepsFrom B W (W.putObj l o) :=
  ⟨by simp, fun k o' hk h _ => (World.putObj_heap_other (by omega)).trans h⟩
theorem keepsFrom_mono {B B' : Nat} {W W' : World} (h : KeepsFrom B W W') (hB : B ≤ B') : KeepsFrom B' W W' := ⟨h.size, fun k o hk => h.same k o (Nat.le_trans hB hk)⟩
/-- What an iterator promises, at the wide fence. 'G pre x W': what it tells of x, that it hands on behind pre, in the world W of that call of yield. 'Kp W W'': what a round that goes on keeps. -/
def SeqG {α : Type} (P : Program) (g : Nat) (lb : Array Value) (encs : α → Array Value) (Kp : World → World → Prop) (G : List α → α → World → Prop) (S Sp : List α → Prop) (w : World) : Prop :=
  ∀ (l : Nat) (J Jx : List α → World → Prop) (W : World), Below w.heap.size w W →
    (∀ pre A B, J pre A → Below W.heap.size A B → J pre B) → (∀ pre A B, Jx pre A → Below W.heap.size A B → Jx pre B) →
    (∀ pre x W1, J pre W1 → G pre x W1 → YieldAt Fence.wide 0 P l (encs x) W1 fun e W' =>
      (e = .returned (.bool true) ∧ J (pre ++ [x]) W' ∧ Kp W1 W' ∧ KeepsFrom W.heap.size W1 W') ∨ (e = .returned (.bool false) ∧ Jx (pre ++ [x]) W' ∧ KeepsFrom W.heap.size W1 W')) →
    J [] W →
    CallsIn Fence.wide 0 P g (#[.func (.yield l) #[] #[]] ++ lb) W fun e W' => (∃ v, e = .returned v) ∧ ((∃ xs, S xs ∧ J xs W') ∨ (∃ pre, Sp pre ∧ Jx pre W'))

/-- **The statement 'for x := range g { .. }' by an iterator's promise.** -/
theorem range_law {P : Program} {α : Type} {g : Operand} {ps : Array Tmp} {assign body : Code} {Q : Exit → Act → World → Prop} {a : Act} {w : World} {n : Nat}
    {gf : Nat} {lb : Array Value} (hg : a.eval g = .func (.func gf) #[] lb) (eg : ∀ args w, (callFunc gf args).run P w = .ok (.enter gf args) w)
    {encs : α → Array Value} {Kp : World → World → Prop} {G : List α → α → World → Prop} {S Sp : List α → Prop} {w0 : World} (hseq : SeqG P gf lb encs Kp G S Sp w0) (hb0 : Below w0.heap.size w0 w)
    (hKt : ∀ {A B C : World}, Kp A B → Kp B C → Kp A C) (hKb : ∀ (W : World) (l : Nat) (o o' : Obj), w.heap.size ≤ l → W.heap[l]? = some o → o.isCells = false → Kp W (W.putObj l o'))
    (hGb : ∀ (pre : List α) (x : α) (W : World) (l : Nat) (o o' : Obj), w.heap.size ≤ l → W.heap[l]? = some o → o.isCells = false → G pre x W → G pre x (W.putObj l o'))
    (hps : ∀ x, (encs x).size = ps.size)
    (I : List α → World → Prop) (Ix : Code → List α → World → Prop) (hI : ∀ pre A B, I pre A → Below w.heap.size A B → I pre B) (hIx : ∀ c pre A B, Ix c pre A → Below w.heap.size A B → Ix c pre B) (h0 : I [] w) (a₁ : α → Act)
    (hassign : ∀ (l : Nat) (x : α) (W : World) (K : Act → World → Prop), K (a₁ x) W →
      assign.wpIn (Fence.wide.inRound l) 0 P (Exit.then K (fun _ _ _ => False)) { tmps := (ps.zip (encs x)).foldl (fun t (p, v) => t.setIfInBounds p v) a.tmps, defers := [] } W)
    (hbody : ∀ (l : Nat) (pre : List α) (x : α) (W : World), w.heap.size ≤ l → I pre W → G pre x W → body.wpIn (Fence.wide.inRound l) 0 P (ownPostG w.heap.size Kp I Ix (pre ++ [x]) W) (a₁ x) W)
    (hdone : ∀ (D : Nat) (xs : List α) (W : World), w.heap.size ≤ D → S xs → I xs W → W.heap[D]? = some (.deferred (some [])) → Q .normal { a with defers := { target := .collected D, args := #[] } :: a.defers } W)
    (hstop : ∀ (D : Nat) (c : Code) (pre : List α) (W : World), w.heap.size ≤ D → Sp pre → Ix c pre W → W.heap[D]? = some (.deferred (some [])) → c.wpIn Fence.wide n P Q { a with defers := { target := .collected D, args := #[] } :: a.defers } W) :
    (Code.rangeFunc g ps assign body).wpIn Fence.wide n P Q a w := by
  refine wpIn_rangeFunc ?_
  intro fn hfn
  obtain ⟨rec, hrec⟩ : ∃ rec : LoopState → Option Code → Loop, rec = fun st pe => { state := st, pending := pe, fn, tmps := a.tmps, params := ps, assign, body, defers := w.heap.size } := ⟨_, rfl⟩
  obtain ⟨W1, hW1⟩ : ∃ W1, (w.alloc (.deferred (some []))).alloc (.loop (rec .ready none)) = W1 := ⟨_, rfl⟩
  have hsz : W1.heap.size = w.heap.size + 2 := by rw [← hW1]; simp
  have hL1 : W1.heap[w.heap.size + 1]? = some (.loop (rec .ready none)) := by
    rw [← hW1]; have := World.alloc_heap_new (w.alloc (.deferred (some []))) (.loop (rec .ready none)); rwa [World.size_alloc] at this
  have hK1 : W1.heap[w.heap.size]? = some (.deferred (some [])) := by
    rw [← hW1]; exact (Below.heap_alloc _ _ _ (by simp)).trans (World.alloc_heap_new w _)
  have hbw : Below w.heap.size w W1 := by rw [← hW1]; exact ((Below.refl _ w).alloc (Nat.le_refl _) _).alloc (by simp) _
  have put : ∀ (W : World) (l : Nat) (o o' : Obj), w.heap.size ≤ l → W.heap[l]? = some o → Below w.heap.size W (W.putObj l o') := fun W l o o' hl h =>
    ⟨rfl, rfl, rfl, by simp, fun k hk => World.putObj_heap_other (by omega)⟩
  refine ⟨w.heap.size + 1, [{ target := .collected w.heap.size, args := #[] }], W1, { target := .fn (.func gf) lb, args := #[.func (.yield (w.heap.size + 1)) #[] #[]] }, W1, gf,
    #[.func (.yield (w.heap.size + 1)) #[] #[]] ++ lb, W1, ?_, ?_, fun _ _ => trivial, ?_, fun h => by simp [Fence.wide] at h, ?_⟩
  · rw [← hW1, hrec]; exact run_enterLoop_outer _ _ _ _ _
  · simp only [resolve, hg]
    simp [go_sem]
  · simp [invoke, go_sem, eg]
  · have hcall := hseq (w.heap.size + 1)
      (fun pre W => I pre W ∧ W.heap[w.heap.size + 1]? = some (.loop (rec .ready none)) ∧ W.heap[w.heap.size]? = some (.deferred (some [])))
      (fun pre W => ∃ c, Ix c pre W ∧ W.heap[w.heap.size + 1]? = some (.loop (rec .done (some c))) ∧ W.heap[w.heap.size]? = some (.deferred (some [])))
      W1 (hb0.trans (hbw.mono hb0.size))
      (fun pre A B hs hB => ⟨hI pre A B hs.1 (hB.mono (by omega)), (hB.block _ (by omega)).trans hs.2.1, (hB.block _ (by omega)).trans hs.2.2⟩)
      (fun pre A B hs hB => by
        obtain ⟨c, hc, hl, hk⟩ := hs
        exact ⟨c, hIx c pre A B hc (hB.mono (by omega)), (hB.block _ (by omega)).trans hl, (hB.block _ (by omega)).trans hk⟩)
      ?_ ⟨hI _ _ _ h0 hbw, hL1, hK1⟩
    · have hcall' : CallsIn Fence.wide (n - 1) P gf (#[.func (.yield (w.heap.size + 1)) #[] #[]] ++ lb) W1 _ := callsIn_wide.2 (callsIn_wide.1 hcall)
      refine hcall'.mono ?_
      rintro e W2 ⟨⟨v, rfl⟩, (⟨xs, hS, hi, hl, hk⟩ | ⟨pre, hSp, c, hi, hl, hk⟩)⟩
      · exact ⟨none, _, by have := run_endLoop (P := P) hl (by rw [hrec]; simp); rw [hrec] at this; exact this, hdone _ xs _ (Nat.le_refl _) hS (hI _ _ _ hi (put _ _ _ _ (by omega) hl)) ((World.putObj_heap_other (by omega)).trans hk)⟩
      · exact ⟨some c, _, by have := run_endLoop (P := P) hl (by rw [hrec]; simp); rw [hrec] at this; exact this, hstop _ c pre _ (Nat.le_refl _) hSp (hIx _ _ _ _ hi (put _ _ _ _ (by omega) hl)) ((World.putObj_heap_other (by omega)).trans hk)⟩
    · rintro pre x W ⟨hi, hl, hk⟩ hG
      have hlt : w.heap.size + 1 < W.heap.size := (Array.getElem?_eq_some_iff.1 hl).1
      have hy := run_yield (P := P) (args := encs x) hl (by rw [hrec]; exact hps x)
      rw [hrec] at hy
      refine ⟨fn, _, assign, body, hy, roundIn_of_wpIn hfn (hassign _ x W _ ?_)⟩
      clear hy
      refine ⟨_, run_beginRound hl (by rw [hrec]), ?_⟩
      have hl2 : (W.putObj (w.heap.size + 1) (.loop { rec .ready none with state := .busy })).heap[w.heap.size + 1]? = some (.loop { rec .ready none with state := .busy }) := World.putObj_heap_same hlt
      have hk2 : (W.putObj (w.heap.size + 1) (.loop { rec .ready none with state := .busy })).heap[w.heap.size]? = some (.deferred (some [])) := (World.putObj_heap_other (by omega)).trans hk
      have hw2 : Kp W (W.putObj (w.heap.size + 1) (.loop { rec .ready none with state := .busy })) := hKb _ _ _ _ (by omega) hl rfl
      refine wpIn_mono (hbody _ pre x _ (by omega) (hI _ _ _ hi (put _ _ _ _ (by omega) hl)) (hGb _ _ _ _ _ _ (by omega) hl rfl hG)) ?_
      have fin : ∀ (jump : Option Code) (W3 : World), KeepsFrom w.heap.size (W.putObj (w.heap.size + 1) (.loop { rec .ready none with state := .busy })) W3 →
          (Instr.endRound (w.heap.size + 1) jump).run P W3 = .ok (.bool jump.isNone) (W3.putObj (w.heap.size + 1) (.loop (rec (if jump.isNone then .ready else .done) jump))) ∧
          W3.heap[w.heap.size + 1]? = some (.loop { rec .ready none with state := .busy }) ∧
          (W3.putObj (w.heap.size + 1) (.loop (rec (if jump.isNone then .ready else .done) jump))).heap[w.heap.size + 1]? = some (.loop (rec (if jump.isNone then .ready else .done) jump)) ∧
          (W3.putObj (w.heap.size + 1) (.loop (rec (if jump.isNone then .ready else .done) jump))).heap[w.heap.size]? = some (.deferred (some [])) := fun jump W3 hk3 => by
        have hl3 := hk3.same _ _ (by omega) hl2 rfl
        have := run_endRound (P := P) jump hl3
        rw [hrec] at this ⊢
        exact ⟨this, by rw [hrec] at hl3; exact hl3, World.putObj_heap_same (Array.getElem?_eq_some_iff.1 hl3).1, (World.putObj_heap_other (by omega)).trans (hk3.same _ _ (Nat.le_refl _) hk2 rfl)⟩
      have whole : ∀ (W3 : World) (o : Obj), KeepsFrom w.heap.size (W.putObj (w.heap.size + 1) (.loop { rec .ready none with state := .busy })) W3 → KeepsFrom W1.heap.size W (W3.putObj (w.heap.size + 1) o) := fun W3 o hk3 =>
        ((keepsFrom_low _ (by omega)).trans (keepsFrom_mono hk3 (by omega))).trans (keepsFrom_low _ (by omega))
      rintro e a3 W3 hp
      cases e with
      | normal =>
        obtain ⟨hk3, hkp3, hi3⟩ := hp
        obtain ⟨hr, hl3, hl4, hk4⟩ := fin none W3 hk3
        exact ⟨_, _, hr, .inl ⟨rfl, ⟨hI _ _ _ hi3 (put _ _ _ _ (by omega) hl3), hl4, hk4⟩, hKt (hKt hw2 hkp3) (hKb _ _ _ _ (by omega) hl3 rfl), whole _ _ hk3⟩⟩
      | ret =>
        obtain ⟨hk3, hi3⟩ := hp
        obtain ⟨hr, hl3, hl4, hk4⟩ := fin (some .ret) W3 hk3
        exact ⟨_, _, hr, .inr ⟨rfl, ⟨.ret, hIx _ _ _ _ hi3 (put _ _ _ _ (by omega) hl3), hl4, hk4⟩, whole _ _ hk3⟩⟩
      | exit id =>
        obtain ⟨hk3, hi3⟩ := hp
        obtain ⟨hr, hl3, hl4, hk4⟩ := fin (some (.exit id)) W3 hk3
        exact ⟨_, _, hr, .inr ⟨rfl, ⟨.exit id, hIx _ _ _ _ hi3 (put _ _ _ _ (by omega) hl3), hl4, hk4⟩, whole _ _ hk3⟩⟩
      | goto t =>
        obtain ⟨hk3, hi3⟩ := hp
        obtain ⟨hr, hl3, hl4, hk4⟩ := fin (some (.goto t)) W3 hk3
        exact ⟨_, _, hr, .inr ⟨rfl, ⟨.goto t, hIx _ _ _ _ hi3 (put _ _ _ _ (by omega) hl3), hl4, hk4⟩, whole _ _ hk3⟩⟩
      | panic ch => exact hp.elim
      | outgrown => exact hp.elim
end Go.Proofs.YtchpmdcacpjojaaDoor
/- Own words that all layers share: bytes as values, slices that read as lists, rows of a call's own, appends, conversions. -/
namespace Go.Proofs.YtchpmdcacpjojaaDoor
open Go.RowKit
set_option maxRecDepth 8000
set_option linter.all false
/-- A list's byte at a place. -/
def bAt (l : List UInt8) (i : Nat) : UInt8 := l.getD i 0
/-- Bytes as the model has them. -/
def bF (f : Nat → UInt8) : Nat → Value := fun i => .int .u8 (bN (f i))
theorem bF_at (s : Nat → UInt8) (i : Nat) : bF s i = .int .u8 (bN (s i)) := rfl
theorem info31 : (Tryd.prog.info? 32).map (·.size) = some 32 := by kernel_rfl
theorem made_row (n : Nat) (z : Value) : madeCells #[z] n = rowA n (fun _ => z) := by
  apply Array.ext_getElem?
  intro i
  by_cases h : i < n
  · rw [rowA_at _ _ _ h]; simp [madeCells, h, Nat.mod_one]
  · have h1 : (rowA n fun _ => z).size ≤ i := by rw [rowA_size]; omega
    rw [Array.getElem?_eq_none h1]; simp [madeCells]; omega
theorem ownsRow_row {w : World} {g : Nat} {t : TypeId} {c : Nat} {f : Nat → Value} (h : w.rowIs g t c f) (base k : Nat) (hk : k ≤ c) (hc : c ≤ maxLen) (hb : base ≤ g) :
    w.ownsRow base t 1 (.slice (some ⟨g, 0, none⟩) k c) k ((List.range k).map f) := by
  obtain ⟨cur, h1, h2, h3⟩ := h
  refine ⟨by simp, .inr ⟨g, c, cur, rfl, hb, h1, hk, hc, by omega, ?_⟩⟩
  apply List.ext_getElem?
  intro i
  rw [List.getElem?_take]
  by_cases hi : i < k
  · rw [if_pos (by omega)]
    have := h3 i (by omega)
    simpa [hi] using this
  · rw [if_neg (by omega)]
    simp [hi]
theorem info5 : (Tryd.prog.info? 5).map (fun i => (i.zero, i.size, i.bytes)) = some (some (.int .u8 0), 1, 1) := by kernel_rfl
theorem one_cell (w : World) (v : Value) (t : TypeId) : ∀ (j : Nat) (u : Value), [v][j]? = some u → (w.alloc (.cells #[v] t)).cell? ((⟨w.heap.size, 0, none⟩ : Addr).add j) = some u := by
  intro j u h
  cases j with
  | zero => simp at h; subst h; rw [Addr.add_zero']; exact World.cell?_alloc_at _ _ _ _ rfl
  | succ j => simp at h
theorem make_none (i0 : TypeInfo) (hi : Tryd.prog.info? 5 = some i0) (hz0 : i0.zero = some (.int .u8 0)) (hz1 : i0.size = 1) (hz2 : i0.bytes = 1) (W : World) :
    (Instr.makeSlice 49 (.int .i64 0) (.int .i64 64)).run Tryd.prog W = .ok (.slice (some ⟨W.heap.size, 0, none⟩) 0 64) (W.alloc (.cells (rowA 64 (bF fun _ => 0)) 5)) := by
  have := run_make (P := Tryd.prog) W 49 5 i0 _ Tryd.underlying49 hi hz0 .i64 .i64 0 64 (by omega) (by omega) (by rw [hz2]; omega) (by omega)
  rw [this, hz1]
  have e : madeCells (Value.int .u8 0).cells 64 = rowA 64 (bF fun _ => 0) := made_row 64 (.int .u8 0)
  exact congrArg (fun z => Result.ok _ (W.alloc (.cells z 5))) e
/-- A slice of bytes reads as l, outside the blocks of L. -/
def RdV (W : World) (L : List Nat) (v : Value) (l : List UInt8) : Prop :=
  ∃ A cap, v = .slice A l.length cap ∧ l.length ≤ cap ∧ cap ≤ maxLen ∧
    (0 < l.length → ∃ b o, A = some ⟨b, o, none⟩ ∧ b ∉ L ∧ ∀ i, i < l.length → W.cell? ⟨b, o + i, none⟩ = some (.int .u8 (bN (bAt l i))))
theorem RdV.keep {W W' : World} {L : List Nat} {v : Value} {l : List UInt8} (h : RdV W L v l) (hk : KeepBut L W W') : RdV W' L v l := by
  obtain ⟨A, cap, hv, h1, h2, h3⟩ := h
  refine ⟨A, cap, hv, h1, h2, fun h0 => ?_⟩
  obtain ⟨b, o, hA, hb, hc⟩ := h3 h0
  exact ⟨b, o, hA, hb, fun i hi => hk.cell hb (hc i hi)⟩
/-- A slice of slices of bytes. -/
def PartsAt (W : World) (L : List Nat) (v : Value) (ps : List (Value × List UInt8)) : Prop :=
  ∃ A cap, v = .slice A ps.length cap ∧ ps.length ≤ cap ∧ cap ≤ maxLen ∧
    (0 < ps.length → ∃ b o, A = some ⟨b, o, none⟩ ∧ b ∉ L ∧ ∀ i x, ps[i]? = some x → W.cell? ⟨b, o + i, none⟩ = some x.1) ∧ ∀ x ∈ ps, RdV W L x.1 x.2
theorem PartsAt.keep {W W' : World} {L : List Nat} {v : Value} {ps : List (Value × List UInt8)} (h : PartsAt W L v ps) (hk : KeepBut L W W') : PartsAt W' L v ps := by
  obtain ⟨A, cap, hv, h1, h2, h3, h4⟩ := h
  refine ⟨A, cap, hv, h1, h2, fun h0 => ?_, fun x hx => (h4 x hx).keep hk⟩
  obtain ⟨b, o, hA, hb, hc⟩ := h3 h0
  exact ⟨b, o, hA, hb, fun i x hx => hk.cell hb (hc i x hx)⟩
/-- How many bytes there are together. -/
def total (ps : List (Value × List UInt8)) : Nat := (ps.map fun x => x.2.length).sum
theorem total_snoc (ps : List (Value × List UInt8)) (x : Value × List UInt8) : total (ps ++ [x]) = total ps + x.2.length := by simp [total]
theorem total_take (ps : List (Value × List UInt8)) (k : Nat) : total (ps.take k) ≤ total ps := by
  have h := congrArg total (List.take_append_drop k ps)
  have e : total (ps.take k ++ ps.drop k) = total (ps.take k) + total (ps.drop k) := by
    unfold total; rw [List.map_append, List.sum_append]
  omega
def flat (ps : List (Value × List UInt8)) : List UInt8 := (ps.map (·.2)).flatten
theorem flat_snoc (ps : List (Value × List UInt8)) (x : Value × List UInt8) : flat (ps ++ [x]) = flat ps ++ x.2 := by simp [flat]
theorem RdV.more {W : World} {L L' : List Nat} {v : Value} {l : List UInt8} (h : RdV W L v l) (hL : ∀ k, k < W.heap.size → k ∉ L → k ∉ L') : RdV W L' v l := by
  obtain ⟨A, cap, hv, h1, h2, h3⟩ := h
  refine ⟨A, cap, hv, h1, h2, fun h0 => ?_⟩
  obtain ⟨b, o, hA, hb, hc⟩ := h3 h0
  have hlt : b < W.heap.size := World.block_lt_of_cell? _ _ (hc 0 h0)
  exact ⟨b, o, hA, hL b hlt hb, hc⟩
theorem PartsAt.more {W : World} {L L' : List Nat} {v : Value} {ps : List (Value × List UInt8)} (h : PartsAt W L v ps) (hL : ∀ k, k < W.heap.size → k ∉ L → k ∉ L') : PartsAt W L' v ps := by
  obtain ⟨A, cap, hv, h1, h2, h3, h4⟩ := h
  refine ⟨A, cap, hv, h1, h2, fun h0 => ?_, fun x hx => (h4 x hx).more hL⟩
  obtain ⟨b, o, hA, hb, hc⟩ := h3 h0
  have hlt : b < W.heap.size := World.block_lt_of_cell? _ _ (hc 0 _ (List.getElem?_eq_getElem h0))
  exact ⟨b, o, hA, hL b hlt hb, hc⟩
theorem ownsRow_keep {W W' : World} {base g n cap : Nat} {e : TypeId} {xs : List Value} (h : W.ownsRow base e 1 (.slice (some ⟨g, 0, none⟩) n cap) n xs) (hk : ∀ o : Obj, o.isCells = true → W.heap[g]? = some o → W'.heap[g]? = some o) :
    W'.ownsRow base e 1 (.slice (some ⟨g, 0, none⟩) n cap) n xs := by
  obtain ⟨h1, h2⟩ := h
  refine ⟨h1, ?_⟩
  rcases h2 with ⟨h, _⟩ | ⟨g', cap', cur, hv, hb, hh, r⟩
  · cases h
  · cases hv
    exact .inr ⟨g, cap, cur, rfl, hb, hk _ rfl hh, r⟩
theorem ownsRow_none {W : World} {base g n cap : Nat} {e : TypeId} {xs : List Value} (h : W.ownsRow base e 1 (.slice (some ⟨g, 0, none⟩) n cap) n xs) : W.ownsRow base e 1 (.slice (some ⟨g, 0, none⟩) 0 cap) 0 [] := by
  obtain ⟨_, h2⟩ := h
  rcases h2 with ⟨h, _⟩ | ⟨g', cap', cur, hv, hb, hh, _, hm, hs, _⟩
  · cases h
  · cases hv
    exact ⟨rfl, .inr ⟨g, cap, cur, rfl, hb, hh, Nat.zero_le _, hm, hs, by simp⟩⟩
theorem map_at (l : List UInt8) (i : Nat) (hi : i < l.length) : (l.map fun b => Value.int .u8 (bN b))[i]? = some (.int .u8 (bN (bAt l i))) := by simp [bAt, hi]
theorem cells_take {W : World} {q : List UInt8} {b o m : Nat} (hm : m ≤ q.length) (h : ∀ i, i < q.length → W.cell? ⟨b, o + i, none⟩ = some (.int .u8 (bN (bAt q i)))) :
    ∀ j u, ((q.take m).map fun b => Value.int .u8 (bN b))[j]? = some u → W.cell? ((⟨b, o, none⟩ : Addr).add j) = some u := by
  intro j u hj
  rw [Addr.add_mid]
  have hjm : j < m := by
    have := (List.getElem?_eq_some_iff.1 hj).1
    simp at this; omega
  rw [h j (by omega)]
  rw [List.getElem?_map, List.getElem?_take, if_pos hjm, List.getElem?_eq_getElem (by omega)] at hj
  simp at hj
  rw [← hj]
  simp [bAt, show j < q.length by omega]
/-- A row of the call's own reads as a list. -/
theorem rdV_own {W : World} {base : Nat} {v : Value} {n : Nat} {l : List UInt8} {L : List Nat} (h : W.ownsRow base 5 1 v n (l.map fun b => .int .u8 (bN b))) (hl : l.length = n) (hL : ∀ k ∈ L, k < base) : RdV W L v l := by
  subst hl
  rcases h.2 with ⟨rfl, h0⟩ | ⟨g, cap, cur, rfl, hb, _, hnc, hcm, _, _⟩
  · have : l = [] := List.eq_nil_of_length_eq_zero h0
    subst this
    exact ⟨none, 0, rfl, Nat.le_refl _, by unfold maxLen; omega, fun h => absurd h (by simp)⟩
  · refine ⟨some ⟨g, 0, none⟩, cap, rfl, hnc, hcm, fun _ => ⟨g, 0, rfl, fun hm => by have := hL g hm; omega, fun i hi => ?_⟩⟩
    have hc := h.cells (g := g) rfl i (.int .u8 (bN (bAt l i))) (map_at l i hi)
    rwa [Addr.add_mid] at hc
theorem run_append_rd {P : Program} {W : World} {L : List Nat} {base : Nat} {t ty : TypeId} {i0 : TypeInfo} (ht : P.underlying t = some (.slice 5)) (hi : P.info? 5 = some i0) (hz0 : i0.zero = some (.int .u8 0)) (hz1 : i0.size = 1) (hz2 : i0.bytes = 1)
    {v : Value} {n : Nat} {xs : List Value} (hown : W.ownsRow base 5 1 v n xs) {u : Value} {l : List UInt8} (hr : RdV W L u l) (hn : n + l.length ≤ 1000000) (hbase : base ≤ W.heap.size) :
    ∃ v' w', (Builtin.append_ #[t, t] ty #[v, u]).run P W = .ok v' w' ∧ w'.ownsRow base 5 1 v' (n + l.length) (xs ++ l.map fun b => .int .u8 (bN b)) ∧ W.grownBy w' v.ownBlock := by
  obtain ⟨A, cap, rfl, h1, h2, h3⟩ := hr
  cases A with
  | none =>
    have h0 : l = [] := by
      cases l with
      | nil => rfl
      | cons b l => obtain ⟨_, _, h, _⟩ := h3 (by simp); cases h
    subst h0
    refine ⟨v, W, ?_, by simpa using hown, World.grownBy.refl W _⟩
    rcases hown.2 with ⟨rfl, rfl⟩ | ⟨g, cap', cur, rfl, _, _, hnc, _⟩
    · simp [Builtin.append_, run_underlying ht, sizeOf, typeInfo, hi, Builtin.lenOf, Builtin.firstCells]
    · simp [Builtin.append_, run_underlying ht, sizeOf, typeInfo, hi, Builtin.lenOf, Builtin.firstCells, hnc, storeCells]
  | some ad =>
    have hcells : ∀ j u, (l.map fun b => Value.int .u8 (bN b))[j]? = some u → W.cell? (ad.add j) = some u := fun j u hj => by
      have hjl : j < l.length := by have := (List.getElem?_eq_some_iff.1 hj).1; simpa using this
      obtain ⟨b, o, hA, _, hc⟩ := h3 (by omega)
      cases hA
      rw [Addr.add_mid, hc j hjl, ← map_at l j hjl, hj]
    obtain ⟨v', w', hrun, ho, hg, _⟩ := run_append_own (P := P) W base t ty 5 i0 _ 1 1 ht hi hz0 hz1 hz2 rfl (by omega) v n xs hown ad l.length cap (l.map fun b => .int .u8 (bN b)) (by simp) hcells
      (fun u hu => by obtain ⟨b, _, rfl⟩ := List.mem_map.1 hu; rfl) (by unfold maxLen; omega) (by omega) hbase
    exact ⟨v', w', hrun, ho, hg⟩
theorem wpList_append_rd {P : Program} {W : World} {ops : Array Oper} {rest : List Oper} {o : Oper} {a : Act} {Q : Exit → Act → World → Prop} (hgd : o.guard = none) (s x : Operand) (t : TypeId)
    (ho : o.op = .call { callee := .builtin .append, args := #[s, x], argTypes := #[t, t] }) {L : List Nat} {base : Nat} {i0 : TypeInfo} (ht : P.underlying t = some (.slice 5)) (hi : P.info? 5 = some i0) (hz0 : i0.zero = some (.int .u8 0)) (hz1 : i0.size = 1) (hz2 : i0.bytes = 1)
    {v : Value} {n : Nat} {xs : List Value} (hs : a.eval s = v) (hown : W.ownsRow base 5 1 v n xs) {u : Value} {l : List UInt8} (hx : a.eval x = u) (hr : RdV W L u l) (hn : n + l.length ≤ 1000000) (hbase : base ≤ W.heap.size)
    (h : ∀ v' w', w'.ownsRow base 5 1 v' (n + l.length) (xs ++ l.map fun b => .int .u8 (bN b)) → W.grownBy w' v.ownBlock → wpList P ops Q rest (a.put o.dst v') w') : wpList P ops Q (o :: rest) a W :=
  wpList_plain hgd fun _ hK => by
    obtain ⟨v', w', hrun, h2, h3⟩ := run_append_rd (P := P) (ty := o.type) ht hi hz0 hz1 hz2 hown hr hn hbase
    unfold Oper.wp execOp
    simp only [ho, resolve, invoke, builtin, Sem.run_bind, Sem.run_pure, Result.andThen_ok, List.map_toArray, List.map_cons, List.map_nil, hs, hx, hrun]
    exact hK _ _ (h v' w' h2 h3)
/-- A slice of slices, made of those that are handed in one by one. -/
theorem parts_new {W : World} {L : List Nat} (ps : List (Value × List UInt8)) (t : TypeId) (hL : ∀ k ∈ L, k < W.heap.size) (hn : ps.length ≤ 1000) (h : ∀ x ∈ ps, RdV W L x.1 x.2) :
    PartsAt (W.alloc (.cells (ps.map (·.1)).toArray t)) L (.slice (some ⟨W.heap.size, 0, none⟩) ps.length ps.length) ps := by
  refine ⟨_, ps.length, rfl, Nat.le_refl _, by unfold maxLen; omega, fun _ => ⟨W.heap.size, 0, rfl, fun hm => by have := hL _ hm; omega, fun i x hx => ?_⟩, fun x hx => (h x hx).keep (KeepBut.alloc W _)⟩
  have hb : (W.alloc (.cells (ps.map (·.1)).toArray t)).cell? ⟨W.heap.size, 0 + i, none⟩ = (ps.map (·.1)).toArray[0 + i]? := World.cell?_alloc_at _ _ _ _ rfl
  rw [hb, Nat.zero_add]
  simp [hx]
/-- A row that may be written whole. -/
def RowW (W : World) (g n : Nat) : Prop := ∃ t f, W.rowIs g t n f
theorem run_storeB {W : World} {g n : Nat} (h : RowW W g n) (f : Nat → UInt8) : (storeCells ⟨g, 0, none⟩ (rowA n (bF f)).toList).run Tryd.prog W = .ok () (W.setCells g 0 (rowA n (bF f)).toList) := by
  obtain ⟨t, z, r⟩ := h
  have := run_storeCells_cells (P := Tryd.prog) g 0 (rowA n (bF f)).toList 0 W (fun j hj => by simpa using (there_row r j (by rw [rowA_toList] at hj; simpa using hj)).1) (fun j hj => by simpa using (there_row r j (by rw [rowA_toList] at hj; simpa using hj)).2)
    (fun v hv => by rw [rowA_toList] at hv; obtain ⟨i, _, rfl⟩ := List.mem_map.1 hv; rfl)
  simpa using this
theorem flat_length (ps : List (Value × List UInt8)) : (flat ps).length = total ps := by simp [flat, total, Function.comp_def]
theorem cell_new_fr (W : World) (C : Array Value) (t : TypeId) (fr : Nat × Nat) (g i : Nat) (h : g = W.heap.size) : (W.alloc (.cells C t fr)).cell? ⟨g, i, none⟩ = C[i]? := by
  subst h
  unfold World.cell?
  rw [World.alloc_heap_new W (.cells C t fr)]
  rfl
theorem info5s : (Tryd.prog.info? 5).map (·.size) = some 1 := by kernel_rfl
theorem RdV.less {W : World} {L L' : List Nat} {v : Value} {l : List UInt8} (h : RdV W L v l) (hL : ∀ k ∈ L', k ∈ L) : RdV W L' v l := by
  obtain ⟨A, cap, hv, h1, h2, h3⟩ := h
  refine ⟨A, cap, hv, h1, h2, fun h0 => ?_⟩
  obtain ⟨b, o, hA, hb, hc⟩ := h3 h0
  exact ⟨b, o, hA, fun hm => hb (hL b hm), hc⟩
theorem keepBut_grown {w w' : World} {row : Option Nat} (hg : w.grownBy w' row) {L : List Nat} (hL : ∀ k, row = some k → k ∈ L) : KeepBut L w w' :=
  ⟨hg.size, fun k o hk ho _ => by
    have hlt : k < w.heap.size := by
      rcases Nat.lt_or_ge k w.heap.size with h | h
      · exact h
      · rw [Array.getElem?_eq_none h] at ho; cases ho
    rw [hg.block k hlt (fun e => hk (hL k e.symm))]; exact ho⟩
end Go.Proofs.YtchpmdcacpjojaaDoor
/- Own words that all layers share, for regions gone through once: new memory alone is made; what values stand for; an operation, a lemma. -/
namespace Go.Proofs.YtchpmdcacpjojaaDoor
open Go Go.RowKit
set_option maxRecDepth 8000
set_option linter.all false
/-- A name for a term, the equation hidden. -/
theorem hid_ex {α : Type} (x : α) : ∃ d, Hid (x = d) := ⟨x, Lib.hid rfl⟩
/-- From one world to another one new memory alone was made. -/
def NewT (w w' : World) : Prop := Below w.heap.size w w'
theorem NewT.refl (w : World) : NewT w w := Below.refl _ w
theorem NewT.trans (a b c : World) (h : NewT a b) (k : NewT b c) : NewT a c := Below.trans h (Below.mono k (Below.size h))
theorem NewT.drew (w : World) : NewT w w.drew := (Below.refl _ w).drew
theorem NewT.of {w w' : World} (h : Below w.heap.size w w') : NewT w w' := h
theorem NewT.out {w w' : World} (h : NewT w w') : Below w.heap.size w w' := h
theorem NewT.alloc (w : World) (o : Obj) : NewT w (w.alloc o) := (Below.refl _ w).alloc (Nat.le_refl _) _
theorem NewT.rd {w w' : World} (h : NewT w w') {L : List Nat} {v : Value} {l : List UInt8} (hr : RdV w L v l) : RdV w' L v l := hr.keep (KeepBut.below h)
theorem NewT.parts {w w' : World} (h : NewT w w') {L : List Nat} {v : Value} {ps : List (Value × List UInt8)} (hr : PartsAt w L v ps) : PartsAt w' L v ps := hr.keep (KeepBut.below h)
theorem NewT.row {w w' : World} (h : NewT w w') {b : Nat} {t : TypeId} {n : Nat} {f : Nat → Value} (hr : w.rowIs b t n f) : w'.rowIs b t n f := rowIs_below hr h hr.lt
/-- It reads as l. -/
def svRd (l : List UInt8) : SV NewT := ⟨fun v w => RdV w [] v l, fun _ _ _ h hT => hT.rd h⟩
/-- Slices of bytes, one behind the other, that read as ls. -/
def Parts (w : World) (v : Value) (ls : List (List UInt8)) : Prop := ∃ ps, PartsAt w [] v ps ∧ ps.map (·.2) = ls
theorem NewT.partsL {w w' : World} (h : NewT w w') {v : Value} {ls : List (List UInt8)} (hr : Parts w v ls) : Parts w' v ls := by
  obtain ⟨ps, h1, h2⟩ := hr; exact ⟨ps, h.parts h1, h2⟩
def svParts (ls : List (List UInt8)) : SV NewT := ⟨fun v w => Parts w v ls, fun _ _ _ h hT => hT.partsL h⟩

section
variable {P : Program} {a : Act} {w : World} {o : Oper} {K : Act → World → Prop} {Q : Exit → Act → World → Prop} {g : Option (Tmp × Bool)}
theorem relyEnd_nil {T : World → World → Prop} {C : List (SV T)} {l : List Oper} (hl : l = []) (h : Q .normal a w) : relyEnd Q T l C a w := by subst hl; exact ⟨h⟩
theorem rely_wp (hg : relyGuard g a = true) (h : o.wp P a w K Q) : if relyGuard g a then o.wp P a w K Q else K (a.put o.dst undef) w := by rw [if_pos hg]; exact h
theorem rely_skip (hg : relyGuard g a = false) (h : K (a.put o.dst undef) w) : if relyGuard g a then o.wp P a w K Q else K (a.put o.dst undef) w := by rw [hg]; exact h
theorem rely_guard {d : Tmp} {b : Bool} (h : a.tmps.getD d undef = .bool b) : relyGuard (some (d, b)) a = true := by simp only [relyGuard, h]; cases b <;> rfl
theorem rely_guard_no {d : Tmp} {b c : Bool} (h : a.tmps.getD d undef = .bool c) (hb : c ≠ b) : relyGuard (some (d, b)) a = false := by simp only [relyGuard, h]; simpa using hb
/-- A value of the frame is moved. -/
theorem opr_move {x : Operand} (ho : o.op = .move x ∨ o.op = .assign x) (h : K (a.put o.dst (a.eval x)) w) : o.wp P a w K Q := by
  obtain ⟨dst, op, type, pos, after, guard⟩ := o
  rcases ho with ho | ho
  all_goals
    simp only at ho
    subst ho
    simpa [Oper.wp, execOp, Oper.upon, Sem.run_pure] using h
theorem opr_pick_true {c x y : Operand} (ho : o.op = .pick c x y) (hc : a.eval c = .bool true) (h : K (a.put o.dst (a.eval x)) w) : o.wp P a w K Q := by
  obtain ⟨dst, op, type, pos, after, guard⟩ := o
  simp only at ho
  subst ho
  simpa [Oper.wp, execOp, hc, asBool, Oper.upon, Sem.run_pure] using h
theorem opr_pick_false {c x y : Operand} (ho : o.op = .pick c x y) (hc : a.eval c = .bool false) (h : K (a.put o.dst (a.eval y)) w) : o.wp P a w K Q := by
  obtain ⟨dst, op, type, pos, after, guard⟩ := o
  simp only at ho
  subst ho
  simpa [Oper.wp, execOp, hc, asBool, Oper.upon, Sem.run_pure] using h
/-- An operation that yields a value. -/
theorem opr_val {s : Sem Value} {v : Value} {w' : World} (ho : execOp a.eval o = (do pure (.value (← s)))) (hr : s.run P w = .ok v w') (h : K (a.put o.dst v) w') : o.wp P a w K Q := by
  simpa [Oper.wp, ho, hr, Oper.upon, Sem.run_pure, Sem.run_bind] using h
theorem opr_unit {s : Sem Unit} {w' : World} (ho : execOp a.eval o = (do s; pure .skip)) (hr : s.run P w = .ok () w') (h : K (a.put o.dst undef) w') : o.wp P a w K Q := by
  simpa [Oper.wp, ho, hr, Oper.upon, Sem.run_pure, Sem.run_bind] using h
theorem run_callFunc_go {f : Nat} {fn : Func} {vs : Array Value} (hf : P.funcs[f]? = some fn) (hn : (fn.name == "runtime.NumGoroutine") = false) (hb : fn.body.isNone = false) : (callFunc f vs).run P w = .ok (.enter f vs) w := by
  unfold callFunc
  rw [Sem.run_bind, run_program]
  simp only [Result.andThen_ok, hf, hn, hb, Bool.false_eq_true, if_false]
  exact Sem.run_pure ..
/-- A Go function is called. -/
theorem opr_call {f : Nat} {fn : Func} {args : Array Operand} {vs : Array Value} {ts : Array TypeId} (ho : o.op = .call { callee := .value (.func f), args := args, argTypes := ts }) (hf : P.funcs[f]? = some fn)
    (hn : (fn.name == "runtime.NumGoroutine") = false) (hb : fn.body.isNone = false) (hv : args.map a.eval = vs)
    (h : Calls P f vs w fun e w' => ∃ v, e = .returned v ∧ K (a.put o.dst v) w') : o.wp P a w K Q := by
  obtain ⟨dst, op, type, pos, after, guard⟩ := o
  simp only at ho
  subst ho
  subst hv
  unfold Oper.wp
  rw [execOp_call_go, show #[] ++ args.map a.eval ++ #[] = args.map a.eval by simp, run_callFunc_go hf hn hb, Oper.upon_enter]
  refine h.mono ?_
  rintro e w' ⟨v, rfl, hk⟩
  exact hk
theorem eval_tmp (t : Tmp) : a.eval (.tmp t) = a.tmps.getD t undef := rfl
end
theorem run_forIn_eqs {P : Program} {w : World} {α σ : Type} (f : α → σ → Sem (ForInStep σ)) (s s' : σ) (p : α → Bool) : ∀ (l : List α), (∀ a ∈ l, (f a s).run P w = .ok (if p a then .yield s else .done s') w) → (forIn l s f).run P w = .ok (if l.all p then s else s') w
  | [], _ => by simp [Sem.run_pure]
  | a :: l, h => by
    rw [List.forIn_cons, Sem.run_bind, h a (by simp)]
    by_cases hp : p a
    · simp only [hp, if_true, Result.andThen_ok, List.all_cons, Bool.true_and]
      exact run_forIn_eqs f s s' p l fun b hb => h b (by simp [hb])
    · simp [hp, Sem.run_pure]
/-- Two arrays by value. -/
theorem equalIn_arr {P : Program} (w : World) (d : Nat) (t e : TypeId) (n : Nat) (k : IntKind) (ht : P.underlying t = some (.array n e)) (he : P.underlying e = some (.int k)) (hs : (P.info? e).map (·.size) = some 1) (f g : Nat → Int) :
    (Op.equalIn (d + 2) t (.agg (rowA n fun i => .int k (f i))) (.agg (rowA n fun i => .int k (g i)))).run P w = .ok ((List.range n).all fun i => f i == g i) w := by
  have hsz : (sizeOf e).run P w = .ok 1 w := by
    cases hq : P.info? e with
    | none => simp [hq] at hs
    | some i => simp [hq] at hs; simp [sizeOf, typeInfo, hq, hs]
  have hagg : (isAgg e).run P w = .ok false w := by
    unfold isAgg
    rw [Sem.run_bind, run_underlying he w]
    rfl
  have hpart : ∀ (f : Nat → Int) i, i < n → (part e (rowA n fun i => .int k (f i)) i).run P w = .ok (.int k (f i)) w := fun f i hi => by
    simp [part, hagg, rowA_at n (fun i => .int k (f i)) i hi]
  rw [Op.equalIn, Sem.run_bind, run_underlying ht w]
  simp only [Result.andThen_ok, Sem.run_bind, hsz, Std.Legacy.Range.forIn_eq_forIn_range', Std.Legacy.Range.size, Nat.sub_zero, Nat.add_one_sub_one, Nat.div_one]
  rw [run_forIn_eqs _ _ ⟨some false, PUnit.unit⟩ (fun i => f i == g i) _ (fun i hi => by
    have hi' : i < n := by simpa [List.mem_range'] using hi
    by_cases hfg : f i = g i
    · simp [hpart f i hi', hpart g i hi', run_equalIn_int w d e k k _ _ he, hfg]
    · simp [hpart f i hi', hpart g i hi', run_equalIn_int w d e k k _ _ he, hfg])]
  rw [← List.range_eq_range']
  by_cases h : (List.range n).all fun i => f i == g i
  · simp [h]
  · simp only [h]; simp [Sem.run_pure]
/-- Are two hashes the same? -/
def eqH (d1 d2 : Nat → UInt8) : Bool := (List.range 32).all fun i => bN (d1 i) == bN (d2 i)
theorem eqH_iff (d1 d2 : Nat → UInt8) : eqH d1 d2 = true ↔ ∀ i, i < 32 → d1 i = d2 i := by
  simp only [eqH, List.all_eq_true, List.mem_range, beq_iff_eq]
  exact ⟨fun h i hi => bN_inj (h i hi), fun h i hi => by rw [h i hi]⟩
theorem equalIn_hash (w : World) (d1 d2 : Nat → UInt8) : (Op.equalIn 10000 32 (.agg (rowA 32 (bF d1))) (.agg (rowA 32 (bF d2)))).run Tryd.prog w = .ok (eqH d1 d2) w :=
  equalIn_arr w 9998 32 5 32 .u8 Tryd.underlying32 Tryd.underlying5 info5s (fun i => bN (d1 i)) (fun i => bN (d2 i))
theorem eqType_hash : Tryd.prog.eqGuardType Tryd.prog.depth 32 = false := by kernel_rfl

/-- A digest as bytes. -/
def digL (d : Nat → UInt8) : List UInt8 := (List.range 32).map d
theorem digL_length (d : Nat → UInt8) : (digL d).length = 32 := by simp [digL]
/-- A row of bytes, sliced whole, reads as them. -/
theorem rd_row {W : World} {L : List Nat} {g t n : Nat} {f : Nat → UInt8} (h : W.rowIs g t n (bF f)) (hg : g ∉ L) (hn : n ≤ 1000000) : RdV W L (.slice (some ⟨g, 0, none⟩) n n) ((List.range n).map f) := by
  have hl : ((List.range n).map f).length = n := by simp
  refine ⟨some ⟨g, 0, none⟩, n, by rw [hl], by rw [hl]; exact Nat.le_refl _, by unfold maxLen; omega, fun _ => ⟨g, 0, rfl, hg, fun i hi => ?_⟩⟩
  rw [hl] at hi
  rw [Nat.zero_add, h.cell hi, bF_at]
  simp [bAt, hi]

section
variable {a : Act} {w : World} {o : Oper} {K : Act → World → Prop} {Q : Exit → Act → World → Prop}
theorem opr_len {x : Operand} {t e : TypeId} {A : Option Addr} {n c : Nat} (ho : o.op = .call { callee := .builtin .len, args := #[x], argTypes := #[t] }) (ht : Tryd.prog.underlying t = some (.slice e)) (hx : a.eval x = .slice A n c) (h : K (a.put o.dst (.int .i64 (n : Int))) w) : o.wp Tryd.prog a w K Q := by
  obtain ⟨dst, op, type, pos, after, guard⟩ := o
  simp only at ho
  subst ho
  refine opr_val (s := Builtin.len_ #[t] type #[a.eval x]) (v := .int .i64 (n : Int)) (by
    show (do let d ← resolve a.eval { callee := .builtin .len, args := #[x], argTypes := #[t] } type; invoke d.target d.args) = _
    simp only [resolve, invoke, pure_bind, BigFrame.builtin_len, List.map_toArray, List.map_cons, List.map_nil]) ?_ h
  rw [hx]
  simp [Builtin.len_, run_underlying ht, goInt]
theorem opr_len_rd {x : Operand} {l : List UInt8} {L : List Nat} (ho : o.op = .call { callee := .builtin .len, args := #[x], argTypes := #[49] }) (hx : RdV w L (a.eval x) l) (h : K (a.put o.dst (.int .i64 (l.length : Int))) w) : o.wp Tryd.prog a w K Q := by
  obtain ⟨A, c, hv, _⟩ := hx
  exact opr_len ho Tryd.underlying49 hv h
theorem opr_load_hash {x : Operand} {g : Nat} {t : TypeId} {d : Nat → UInt8} (ho : o.op = .load 32 x) (hx : a.eval x = .pointer (some ⟨g, 0, none⟩)) (hr : w.rowIs g t 32 (bF d)) (h : K (a.put o.dst (.agg (rowA 32 (bF d)))) w) : o.wp Tryd.prog a w K Q := by
  obtain ⟨dst, op, type, pos, after, guard⟩ := o
  simp only at ho
  subst ho
  refine opr_val (s := Instr.loadAt 32 (a.eval x)) rfl ?_ h
  rw [hx]
  have := run_loadAt_mid (P := Tryd.prog) w g 0 32 (rowA 32 (bF d)).toList _ (rangeAt_row hr) Tryd.underlying32 rfl (by rw [rowA_toList]; simpa using info31)
  simpa using this
theorem run_sliceAt_hash (w : World) (g : Nat) : (Instr.sliceAt 32 (.pointer (some ⟨g, 0, none⟩)) none none none).run Tryd.prog w = .ok (.slice (some ⟨g, 0, none⟩) 32 32) w := by
  have hsz : (sizeOf 5).run Tryd.prog w = .ok 1 w := by
    have hs := info5s
    cases hq : Tryd.prog.info? 5 with
    | none => simp [hq] at hs
    | some i => simp [hq] at hs; simp [sizeOf, typeInfo, hq, hs]
  simp [Instr.sliceAt, run_underlying Tryd.underlying32, Instr.sureAddr, Instr.sliceBounds, hsz, Addr.add_zero']
/-- 'h[:]' of a hash. -/
theorem opr_slice_hash {x : Operand} {g : Nat} (ho : o.op = .slice 32 x none none none) (hx : a.eval x = .pointer (some ⟨g, 0, none⟩)) (h : K (a.put o.dst (.slice (some ⟨g, 0, none⟩) 32 32)) w) : o.wp Tryd.prog a w K Q := by
  obtain ⟨dst, op, type, pos, after, guard⟩ := o
  simp only at ho
  subst ho
  refine opr_val (s := Instr.sliceAt 32 (a.eval x) none none none) rfl ?_ h
  rw [hx]; exact run_sliceAt_hash w g
theorem opr_eql_hash {x y : Operand} {t' : TypeId} {d1 d2 : Nat → UInt8} {b : Bool} (ho : o.op = .binOp .eql 32 x y t') (hx : a.eval x = .agg (rowA 32 (bF d1))) (hy : a.eval y = .agg (rowA 32 (bF d2))) (hb : eqH d1 d2 = b) (h : K (a.put o.dst (.bool b)) w) : o.wp Tryd.prog a w K Q := by
  obtain ⟨dst, op, type, pos, after, guard⟩ := o
  simp only at ho
  subst ho hb
  refine opr_val (s := do eqGuard .eql 32 x y (a.eval x) (a.eval y); binOp .eql 32 (a.eval x) (a.eval y)) rfl ?_ h
  rw [hx, hy, Sem.run_bind, run_eqGuard_agg _ _ _ _ _ _ _ eqType_hash]
  simp only [Result.andThen_ok]
  rw [run_eql_struct, equalIn_hash]; rfl
theorem run_bs1 (A : Option Addr) (n c : Nat) (w : World) : (Instr.buildSlice 99 1 #[(0, .slice A n c)]).run Tryd.prog w = .ok (.slice (some ⟨w.heap.size, 0, none⟩) 1 1) (w.alloc (.cells #[.slice A n c] 49)) := by
  simp [go_sem]
theorem run_bs2 (A : Option Addr) (n c : Nat) (A2 : Option Addr) (n2 c2 : Nat) (w : World) : (Instr.buildSlice 99 2 #[(0, .slice A n c), (1, .slice A2 n2 c2)]).run Tryd.prog w = .ok (.slice (some ⟨w.heap.size, 0, none⟩) 2 2) (w.alloc (.cells #[.slice A n c, .slice A2 n2 c2] 49)) := by
  simp [go_sem]
/-- A new slice of one slice. -/
theorem opr_bs1 {x : Operand} {l : List UInt8} (ho : o.op = .buildSlice 99 1 #[(0, x)]) (hx : RdV w [] (a.eval x) l) (h : ∀ v w', NewT w w' → Parts w' v [l] → K (a.put o.dst v) w') : o.wp Tryd.prog a w K Q := by
  obtain ⟨dst, op, type, pos, after, guard⟩ := o
  simp only at ho
  subst ho
  have hx0 := hx
  obtain ⟨A, c, hv, _⟩ := hx0
  rw [hv] at hx
  refine opr_val (s := Instr.buildSlice 99 1 #[(0, a.eval x)]) (by simp [execOp]) (by rw [hv]; exact run_bs1 A _ c w) (h _ _ (NewT.alloc _ _) ⟨[(.slice A l.length c, l)], parts_new [(.slice A l.length c, l)] 49 (by simp) (by simp) (by simpa using hx), rfl⟩)
theorem opr_bs2 {x y : Operand} {l m : List UInt8} (ho : o.op = .buildSlice 99 2 #[(0, x), (1, y)]) (hx : RdV w [] (a.eval x) l) (hy : RdV w [] (a.eval y) m) (h : ∀ v w', NewT w w' → Parts w' v [l, m] → K (a.put o.dst v) w') : o.wp Tryd.prog a w K Q := by
  obtain ⟨dst, op, type, pos, after, guard⟩ := o
  simp only at ho
  subst ho
  have hx0 := hx
  obtain ⟨A, c, hv, _⟩ := hx0
  have hy0 := hy
  obtain ⟨A2, c2, hv2, _⟩ := hy0
  rw [hv] at hx
  rw [hv2] at hy
  refine opr_val (s := Instr.buildSlice 99 2 #[(0, a.eval x), (1, a.eval y)]) (by simp [execOp]) (by rw [hv, hv2]; exact run_bs2 A _ c A2 _ c2 w) (h _ _ (NewT.alloc _ _) ⟨[(.slice A l.length c, l), (.slice A2 m.length c2, m)], parts_new [(.slice A l.length c, l), (.slice A2 m.length c2, m)] 49 (by simp) (by simp) (by simp; exact ⟨hx, hy⟩), rfl⟩)
end
/-- A function value is called: what it caught stands behind the arguments. -/
theorem opr_callv {P : Program} {a : Act} {w : World} {o : Oper} {K : Act → World → Prop} {Q : Exit → Act → World → Prop} {f : Nat} {fn : Func} {x : Operand} {args : Array Operand} {vs cap : Array Value} {ts : Array TypeId} (ho : o.op = .call { callee := .value x, args := args, argTypes := ts }) (hx : a.eval x = .func (.func f) #[] cap) (hf : P.funcs[f]? = some fn)
    (hn : (fn.name == "runtime.NumGoroutine") = false) (hb : fn.body.isNone = false) (hv : args.map a.eval ++ cap = vs)
    (h : Calls P f vs w fun e w' => ∃ v, e = .returned v ∧ K (a.put o.dst v) w') : o.wp P a w K Q := by
  obtain ⟨dst, op, type, pos, after, guard⟩ := o
  simp only at ho
  subst ho
  have e : execOp a.eval { dst, op := .call { callee := .value x, args := args, argTypes := ts }, type, pos, after, guard } = callFunc f vs := by
    show (do let d ← resolve a.eval { callee := .value x, args := args, argTypes := ts } type; invoke d.target d.args) = _
    simp only [resolve, Deferred.ofValue, hx, invoke, pure_bind]
    rw [← hv]; simp
  unfold Oper.wp
  rw [e, run_callFunc_go hf hn hb, Oper.upon_enter]
  refine h.mono ?_
  rintro e w' ⟨v, rfl, hk⟩
  exact hk
/-- A builtin append whose run is known. -/
theorem opr_append {P : Program} {a : Act} {w w' : World} {o : Oper} {K : Act → World → Prop} {Q : Exit → Act → World → Prop} {x y : Operand} {t t' : TypeId} {vx vy v' : Value} (ho : o.op = .call { callee := .builtin .append, args := #[x, y], argTypes := #[t, t'] }) (hx : a.eval x = vx) (hy : a.eval y = vy)
    (hr : (Builtin.append_ #[t, t'] o.type #[vx, vy]).run P w = .ok v' w') (h : K (a.put o.dst v') w') : o.wp P a w K Q := by
  obtain ⟨dst, op, type, pos, after, guard⟩ := o
  simp only at ho hr
  subst ho hx hy
  refine opr_val (s := Builtin.append_ #[t, t'] type #[a.eval x, a.eval y]) ?_ hr h
  show (do let d ← resolve a.eval { callee := .builtin .append, args := #[x, y], argTypes := #[t, t'] } type; invoke d.target d.args) = _
  simp only [resolve, invoke, pure_bind, BigFrame.builtin_append, List.map_toArray, List.map_cons, List.map_nil]
/-- A new row of bytes, all 0, that a region makes. -/
def svNew (W : World) (t : TypeId) (n : Nat) : SV NewT := ⟨fun v w => ∃ g, v = .pointer (some ⟨g, 0, none⟩) ∧ W.heap.size ≤ g ∧ w.rowIs g t n (bF fun _ => 0), fun _ _ _ ⟨g, h1, h2, h3⟩ hT => ⟨g, h1, h2, hT.row h3⟩⟩
theorem svNew_out {W : World} {t n : Nat} {v : Value} {w : World} (h : (svNew W t n).pred v w) : ∃ g, v = .pointer (some ⟨g, 0, none⟩) ∧ W.heap.size ≤ g ∧ w.rowIs g t n (bF fun _ => 0) := h
theorem run_alloc_hash (w : World) : (Instr.alloc 32 true (.tuple #[])).run Tryd.prog w = .ok (.pointer (some ⟨w.heap.size, 0, none⟩)) (w.alloc (.cells (rowA 32 (bF fun _ => 0)) 32)) := by
  simp [go_sem]; rfl
theorem opr_alloc_hash {a : Act} {w : World} {o : Oper} {K : Act → World → Prop} {Q : Exit → Act → World → Prop} {W : World} (ho : o.op = .alloc 32) (hT : NewT W w) (h : ∀ v w', NewT w w' → (svNew W 32 32).pred v w' → K (a.put o.dst v) w') : o.wp Tryd.prog a w K Q := by
  obtain ⟨dst, op, type, pos, after, guard⟩ := o
  simp only at ho
  subst ho
  exact opr_val (s := Instr.alloc 32 true (.tuple #[])) rfl (run_alloc_hash w) (h _ _ (NewT.alloc _ _) ⟨w.heap.size, rfl, hT.out.size, rowIs_box w 32 32 _⟩)
/-- A whole array is stored into a row that is new. -/
theorem opr_store_new {B : Nat} {P : Program} {a : Act} {w W : World} {o : Oper} {K : Act → World → Prop} {Q : Exit → Act → World → Prop} {t t' : TypeId} {x y : Operand} {g n : Nat} {f0 : Nat → Value} {D : Nat → UInt8} (hi : (P.info? t).map (·.size) = some n) (ho : o.op = .store t x y) (hx : a.eval x = .pointer (some ⟨g, 0, none⟩)) (hy : a.eval y = .agg (rowA n (bF D)))
    (hr : w.rowIs g t' n f0) (hN : Below B W w) (hg : B ≤ g) (h : ∀ w', Below B W w' → w'.rowIs g t' n (bF D) → K (a.put o.dst undef) w') : o.wp P a w K Q :=
  wp_store_mid t x y ho g 0 (rowA n (bF D)) hx hy (by rw [rowA_size]; exact there_row hr) (by rw [rowA_size]; exact hi) (rowA_one _ _ fun _ => rfl) (h _ (below_setCells g hg _ _ _ hN) (rowIs_setAll hr (bF D)))
/-- A function's contract: new memory alone, and what it returns. -/
def Cv (f : Nat) (vs : Array Value) (w : World) (c : SV NewT) : Prop := Calls Tryd.prog f vs w fun e w' => ∃ v, e = .returned v ∧ NewT w w' ∧ c.pred v w'
theorem opr_cv {a : Act} {w : World} {o : Oper} {K : Act → World → Prop} {Q : Exit → Act → World → Prop} {f : Nat} {fn : Func} {args : Array Operand} {ts : Array TypeId} {vs : Array Value} {c : SV NewT} (hc : Cv f vs w c)
    (ho : o.op = .call { callee := .value (.func f), args := args, argTypes := ts }) (hf : Tryd.prog.funcs[f]? = some fn) (hn : (fn.name == "runtime.NumGoroutine") = false) (hb : fn.body.isNone = false) (hv : args.map a.eval = vs)
    (h : ∀ v w', NewT w w' → c.pred v w' → K (a.put o.dst v) w') : o.wp Tryd.prog a w K Q := by
  refine opr_call ho hf hn hb hv (Calls.mono hc ?_)
  rintro e w' ⟨v, rfl, h1, h2⟩
  exact ⟨v, rfl, h v w' h1 h2⟩
theorem Cv.of_eq {f : Nat} {vs : Array Value} {w : World} {v : Value} (h : Calls Tryd.prog f vs w fun e w' => e = .returned v ∧ Below w.heap.size w w') : Cv f vs w (.eq v) :=
  Calls.mono h fun _ _ ⟨he, hb⟩ => ⟨v, he, hb, rfl⟩
theorem Cv.eq {f : Nat} {vs : Array Value} {w : World} {v : Value} (h : Cv f vs w (.eq v)) : Calls Tryd.prog f vs w fun e w' => e = .returned v ∧ Below w.heap.size w w' :=
  Calls.mono h fun _ _ ⟨_, he, hb, hv⟩ => ⟨by rw [he]; exact congrArg _ hv, hb⟩
theorem eval_const {a : Act} (v : Value) : a.eval (.const v) = v := rfl
theorem eval_func {a : Act} (f : Nat) : a.eval (.func f) = .func (.func f) #[] #[] := rfl
/-- It reads as l, in a row that is new since W. -/
def svRdN (W : World) (l : List UInt8) : SV NewT := ⟨fun v w => ∀ L, (∀ k ∈ L, k < W.heap.size) → RdV w L v l, fun _ _ _ h hT L hL => hT.rd (h L hL)⟩
theorem make_bytes (i0 : TypeInfo) (hi : Tryd.prog.info? 5 = some i0) (hz0 : i0.zero = some (.int .u8 0)) (hz1 : i0.size = 1) (hz2 : i0.bytes = 1) (r : Nat) (hr : r ≤ 64) (W : World) :
    (Instr.makeSlice 49 (.int .i64 (r : Int)) (.int .i64 (r : Int))).run Tryd.prog W = .ok (.slice (some ⟨W.heap.size, 0, none⟩) r r) (W.alloc (.cells (rowA r (bF fun _ => 0)) 5)) := by
  have := run_make (P := Tryd.prog) W 49 5 i0 _ Tryd.underlying49 hi hz0 .i64 .i64 (r : Int) (r : Int) (by omega) (by omega) (by rw [hz2]; omega) (by omega)
  rw [this, hz1, Int.toNat_natCast, Nat.mul_one]
  have e : madeCells (Value.int .u8 0).cells r = rowA r (bF fun _ => 0) := made_row r (.int .u8 0)
  rw [e]
def putTo (f : Nat → UInt8) (k i : Nat) : UInt8 := if i < k then f i else 0
theorem putTo_set (f : Nat → UInt8) (k i : Nat) : (if i = k then Value.int .u8 (bN (f k)) else bF (putTo f k) i) = bF (putTo f (k + 1)) i := by
  simp only [bF, putTo]
  by_cases h : i = k
  · subst h; simp
  · by_cases h2 : i < k
    · rw [if_neg h, if_pos h2, if_pos (by omega)]
    · rw [if_neg h, if_neg h2, if_neg (by omega)]
end Go.Proofs.YtchpmdcacpjojaaDoor
/- Fields of a struct by value and in memory: a cell, a row of cells. No program is named here. -/
namespace Go.Proofs.YtchpmdcacpjojaaDoor
open Go Go.RowKit
set_option maxRecDepth 8000
set_option linter.all false

section
variable {P : Program} {t : TypeId} {fs : Array Field} {f : Field} {i n : Nat}
theorem run_isAgg_no {d : TypeDesc} {e : TypeId} (he : P.underlying e = some d) (hd : d.isRow = false) (w : World) : (isAgg e).run P w = .ok false w := by
  unfold isAgg
  rw [Sem.run_bind, run_underlying he w]
  cases d <;> simp_all
end
/-- A part of a row. -/
theorem rangeAt_part {w : World} {b : Nat} {t : TypeId} {n : Nat} {f : Nat → Value} (h : w.rowIs b t n f) (o m : Nat) (hm : o + m ≤ n) : w.rangeAt b o (rowA m fun j => f (o + j)).toList := fun j v hv => by
  rw [rowA_toList, List.getElem?_map] at hv
  cases hj : (List.range m)[j]? with
  | none => rw [hj] at hv; simp at hv
  | some k =>
    rw [hj] at hv
    obtain ⟨hlt, hk⟩ := List.getElem?_eq_some_iff.1 hj
    simp at hlt hk
    subst hk
    simp at hv
    subst hv
    exact h.cell (by omega)
end Go.Proofs.YtchpmdcacpjojaaDoor
/- A region that draws its order, whose last operations come one behind the other: the rest is gone through once, in the text's order, and the last ones then as they stand. No program is named here. -/
namespace Go.Proofs.YtchpmdcacpjojaaDoor
open Go
set_option maxRecDepth 8000
set_option linter.all false

section
variable {P : Program} {ops : Array Oper} {Q : Exit → Act → World → Prop} {T : World → World → Prop} {V : List (SV T)} {a0 : Act} {w0 : World} {n : Nat} {D : Deps} {init tail : List Oper}

theorem split_at (hsplit : ops.toList = init ++ tail) : ops.size = init.length + tail.length ∧ (∀ (k : Nat) (o : Oper), init[k]? = some o → ops[k]? = some o) ∧ ∀ k : Nat, ops[init.length + k]? = tail[k]? := by
  have e : ops = (init ++ tail).toArray := by rw [← hsplit]
  subst e
  refine ⟨by simp, fun k o hk => ?_, fun k => ?_⟩
  · have hlt := (List.getElem?_eq_some_iff.1 hk).1
    simp [List.getElem?_append_left hlt, hk]
  · simp [List.getElem?_append_right]
/-- The last ones look back alone, each waits for the one ahead. -/
def tailB (ops : Array Oper) (tail : List Oper) (m : Nat) : Bool :=
  (List.range tail.length).all fun t => (match tail[t]? with | some o => o.after.all (fun e => !Region.binds .any e || decide (e.on < m + t)) | none => true) && (decide (t = 0) || Region.waitsFor .any ops (m + t) (m + t - 1))

theorem tail_seq (hsplit : ops.toList = init ++ tail) (hB : tailB ops tail init.length = true) : ∀ (f k : Nat) (listed : Array Bool) (a : Act) (w : World), k + f = tail.length → listed.size = ops.size →
    (∀ j, j < init.length + k → listed.getD j false = true) → (∀ j, init.length + k ≤ j → j < ops.size → listed.getD j true = false) → wpList P ops Q (tail.drop k) a w → wpAny P .any ops Q f listed a w := by
  obtain ⟨hsz, _, htl⟩ := split_at hsplit
  have hb : ∀ t, t < tail.length → (∀ o, tail[t]? = some o → ∀ e ∈ o.after, Region.binds .any e = true → e.on < init.length + t) ∧ (t = 0 ∨ Region.waitsFor .any ops (init.length + t) (init.length + t - 1) = true) := fun t ht => by
    have h := List.all_eq_true.1 hB t (List.mem_range.2 ht)
    simp only [Bool.and_eq_true, Bool.or_eq_true, decide_eq_true_eq] at h
    refine ⟨fun o ho e he hbe => ?_, h.2⟩
    have h1 := h.1
    rw [ho] at h1
    have h2 := (Array.all_eq_true_iff_forall_mem.1 h1) e he
    simpa [hbe] using h2
  intro f
  induction f with
  | zero =>
    intro k listed a w hk hs hdone _ h
    obtain rfl : k = tail.length := by omega
    rw [List.drop_length] at h
    exact wpAny_done (ready_none fun i hi => hdone i (by omega)) h 0
  | succ f ih =>
    intro k listed a w hk hs hdone hun h
    have hkl : k < tail.length := by omega
    have ho : ops[init.length + k]? = some tail[k] := by rw [htl, List.getElem?_eq_getElem hkl]
    rw [List.drop_eq_getElem_cons hkl] at h
    have hmem : init.length + k ∈ Region.ready .any ops listed := by
      rw [mem_ready]
      exact ⟨hun _ (Nat.le_refl _) (by omega), tail[k], ho, fun e he hbe => hdone _ ((hb k hkl).1 _ (List.getElem?_eq_getElem hkl) e he hbe)⟩
    refine ⟨fun hr => (by rw [hr] at hmem; cases hmem), fun i hi => ?_⟩
    obtain ⟨h0, o, hoi, hall⟩ := mem_ready.1 hi
    have hilt := (Array.getElem?_eq_some_iff.1 hoi).1
    have hik : i = init.length + k := by
      rcases Nat.lt_trichotomy i (init.length + k) with hlt | rfl | hgt
      · have := hdone i hlt
        rw [getD_both h0] at this; cases this
      · rfl
      · exfalso
        have ht := (hb (i - init.length) (by omega)).2
        rw [show init.length + (i - init.length) = i by omega] at ht
        rcases ht with ht | ht
        · omega
        · obtain ⟨oi, hoi', e, he, hbe, hon⟩ := Region.waitsFor_spec ht
          have : oi = o := Option.some.inj (hoi'.symm.trans hoi)
          subst this
          have h1 := hall e he hbe
          rw [hon, getD_both (hun (i - 1) (by omega) (by omega))] at h1
          cases h1
    subst hik
    have next : ∀ a' w', wpList P ops Q (tail.drop (k + 1)) a' w' → wpAny P .any ops Q f (listed.setIfInBounds (init.length + k) true) a' w' := fun a' w' h' =>
      ih (k + 1) _ a' w' (by omega) (by simp [hs]) (fun j hj => by
        by_cases hjk : init.length + k = j
        · subst hjk; simp [show init.length + k < listed.size by omega]
        · exact getD_set_true (hdone j (by omega))) (fun j hj hj2 => by rw [getD_set_ne true (by omega)]; exact hun j (by omega) hj2) h'
    refine wpOp_mono next ?_
    unfold wpOp
    simp only [ho]
    simpa only [wpList] using h

theorem wpAny_rely_tail (hsplit : ops.toList = init ++ tail) (hpos : 0 < tail.length) (hn : a0.tmps.size = n) (hB : relyB ops n 0 init D = true) (hsink : Region.sinkB .any ops init.length = true) (htb : tailB ops tail init.length = true) (ht : ∀ a b c : World, T a b → T b c → T a c)
    (hl : init.length ≤ V.length) (hA : relyAll P Q T V a0 w0 init D V) (hE : ∀ w, T w0 w → relyEnd (fun _ a w => wpList P ops Q tail a w) T init V a0 w) :
    ∀ (fuel : Nat) (listed : Array Bool) (a : Act) (w : World), (unl ops listed).length = fuel → (∀ j, init.length ≤ j → j < ops.size → listed.getD j true = false) → RelyInv ops T V a0 w0 listed a w → wpAny P .any ops Q fuel listed a w := by
  obtain ⟨hsz, hpre, htl⟩ := split_at hsplit
  have hat : ∀ i o, init[i]? = some o → ∃ dp g, relyOne ops n i o dp g = true ∧ relyStep P Q T V a0 w0 o dp g (V.getD i SV.any) := fun i o hi => by
    obtain ⟨dp, g, hD, h1⟩ := relyB_at init D 0 i o hB hi
    rw [Nat.zero_add] at h1
    exact ⟨dp, g, h1, relyAll_at _ _ _ i o dp g hA hi hD⟩
  -- once all of the first ones have come up
  have fin : ∀ (fuel : Nat) (listed : Array Bool) (a : Act) (w : World), (unl ops listed).length = fuel → (∀ j, init.length ≤ j → j < ops.size → listed.getD j true = false) → RelyInv ops T V a0 w0 listed a w → (∀ j, j < init.length → listed.getD j false = true) → wpAny P .any ops Q fuel listed a w := fun fuel listed a w hu hun inv hdone => by
    have h1 : wpList P ops Q tail a w := rely_all (Q' := fun a w => wpList P ops Q tail a w) inv
      (fun k o hk => ⟨hpre k o hk, hdone k (List.getElem?_eq_some_iff.1 hk).1⟩) (fun j hj => by
        rcases Nat.lt_or_ge j init.length with h | h
        · exact h
        · rcases Nat.lt_or_ge j ops.size with h' | h'
          · rw [getD_both (hun j h h')] at hj; cases hj
          · have : listed.getD j false = false := by simp [Array.getElem?_eq_none (show listed.size ≤ j by rw [inv.size]; omega)]
            rw [this] at hj; cases hj) hl (hE w inv.now)
    have hf : fuel = tail.length := by
      rw [← hu]
      unfold unl
      have e : (List.range ops.size).filter (fun i => !listed.getD i true) = List.range' init.length tail.length := by
        rw [List.range_eq_range', show ops.size = init.length + tail.length from hsz, ← List.range'_append_1, List.filter_append, List.filter_eq_nil_iff.2, List.filter_eq_self.2]
        · simp
        · intro i hi
          simp only [List.mem_range'_1] at hi
          rw [hun i (by omega) (by omega)]; rfl
        · intro i hi
          simp only [List.mem_range'_1] at hi
          have h2 := hdone i (by omega)
          have h3 : listed.getD i true = true := by
            have hlt : i < listed.size := by rw [inv.size]; omega
            simp [hlt] at h2 ⊢; exact h2
          rw [h3]; simp
      rw [e]; simp
    subst hf
    exact tail_seq hsplit htb tail.length 0 listed a w (by omega) inv.size (by simpa using hdone) (by simpa using hun) (by simpa using h1)
  intro fuel
  induction fuel with
  | zero =>
    intro listed a w hu hun inv
    have : init.length ∈ unl ops listed := by
      unfold unl; rw [List.mem_filter]; exact ⟨List.mem_range.2 (by omega), by rw [hun _ (Nat.le_refl _) (by omega)]; rfl⟩
    rw [List.eq_nil_of_length_eq_zero hu] at this
    cases this
  | succ fuel ih =>
    intro listed a w hu hun inv
    by_cases hdone : ∀ j, j < init.length → listed.getD j false = true
    · exact fin _ listed a w hu hun inv hdone
    · -- none of the last ones may come up yet
      have hlow : ∀ i, i ∈ Region.ready .any ops listed → i < init.length := fun i hi => by
        rcases Nat.lt_or_ge i init.length with h | h
        · exact h
        · exfalso
          obtain ⟨h0, o, ho, hall⟩ := mem_ready.1 hi
          have hilt := (Array.getElem?_eq_some_iff.1 ho).1
          by_cases him : i = init.length
          · subst him
            apply hdone
            have hd : ∀ (d j : Nat), init.length - j = d → j < init.length → listed.getD j false = true := fun d => by
              induction d using Nat.strongRecOn with
              | _ d ihd =>
                intro j hd hj
                have h1 := List.all_eq_true.1 hsink j (List.mem_range.2 hj)
                obtain ⟨t, ht1, ht2⟩ := List.any_eq_true.1 h1
                simp only [Bool.and_eq_true, decide_eq_true_eq] at ht2
                obtain ⟨ot, hot, e, he, hb, hon⟩ := Region.waitsFor_spec ht2.2
                have htle : t ≤ init.length := by have := List.mem_range.1 ht1; omega
                rw [← hon]
                by_cases htm : t = init.length
                · subst htm
                  have : ot = o := Option.some.inj (hot.symm.trans ho)
                  subst this
                  exact hall e he hb
                · exact inv.closed t ot hot (ihd (init.length - t) (by omega) t rfl (by omega)) e he hb
            exact fun j hj => hd _ j rfl hj
          · have h := List.all_eq_true.1 htb (i - init.length) (List.mem_range.2 (by omega))
            simp only [Bool.and_eq_true, Bool.or_eq_true, decide_eq_true_eq] at h
            rw [show init.length + (i - init.length) = i by omega] at h
            rcases h.2 with h | h
            · omega
            · obtain ⟨oi, hoi', e, he, hbe, hon⟩ := Region.waitsFor_spec h
              have : oi = o := Option.some.inj (hoi'.symm.trans ho)
              subst this
              have h1 := hall e he hbe
              rw [hon, getD_both (hun (i - 1) (by omega) (by omega))] at h1
              cases h1
      refine ⟨fun hr => ?_, fun i hi => ?_⟩
      · exfalso
        apply hdone
        intro i
        induction i using Nat.strongRecOn with
        | _ i ih =>
          intro hi
          cases hli : listed.getD i false with
          | true => rfl
          | false =>
            exfalso
            have hmem : i ∈ Region.ready .any ops listed := by
              rw [mem_ready]
              refine ⟨getD_in (by rw [inv.size]; omega) hli, init[i], hpre i _ (List.getElem?_eq_getElem hi), fun e he hb => ?_⟩
              obtain ⟨dp, g, h1, _⟩ := hat i init[i] (List.getElem?_eq_getElem hi)
              simp only [relyOne, Bool.and_eq_true] at h1
              have h2 := (Array.all_eq_true_iff_forall_mem.1 h1.1.1.2) e he
              simp only [hb, Bool.not_true, Bool.false_or, decide_eq_true_eq] at h2
              exact ih e.on h2 (by omega)
            rw [hr] at hmem
            cases hmem
      · have hi' := hlow i hi
        obtain ⟨h0, o, ho, hall⟩ := mem_ready.1 hi
        have hio : init[i]? = some o := by
          have := hpre i init[i] (List.getElem?_eq_getElem hi')
          rw [ho] at this
          rw [List.getElem?_eq_getElem hi', Option.some.inj this]
        obtain ⟨dp, g, h1, hstep⟩ := hat i o hio
        refine wpOp_mono (fun a' w' inv' => ih _ a' w' (by have := unl_set inv.size h0; omega) (fun j hj hj2 => by rw [getD_set_ne true (by omega)]; exact hun j hj hj2) inv') (rely_op hn ht ho h1 hstep h0 hall inv)
/-- **A region that draws its order, the last operations (from place m on) one behind the other.** -/
theorem wp_region_rely_tail {id : Nat} (T : World → World → Prop) (V : List (SV T)) (D : Deps) (n m : Nat) (hm : P.follows .mixedOrders = true) (hn : a0.tmps.size = n) (hlen : (ops.toList.take m).length = m) (hpos : 0 < (ops.toList.drop m).length) (hB : relyB ops n 0 (ops.toList.take m) D = true)
    (hsink : Region.sinkB .any ops m = true) (htb : tailB ops (ops.toList.drop m) m = true) (ht : ∀ a b c : World, T a b → T b c → T a c) (hd : T w0 w0.drew) (hl : m ≤ V.length)
    (hA : relyAll P Q T V a0 w0 (ops.toList.take m) D V) (hE : ∀ w, T w0 w → relyEnd (fun _ a w => wpList P ops Q (ops.toList.drop m) a w) T (ops.toList.take m) V a0 w) : (Code.region id ops true).wp P Q a0 w0 := by
  refine wp_region_any hm ?_
  refine wpAny_rely_tail (List.take_append_drop m ops.toList).symm hpos hn hB (by rw [hlen]; exact hsink) (by rw [hlen]; exact htb) ht (by rw [hlen]; exact hl) hA hE ops.size _ a0 w0.drew unl_start (fun j _ hj => by simp [hj]) (rely_start hd)
end
end Go.Proofs.YtchpmdcacpjojaaDoor
/- A region in the text's order, gone through once: each operation has a condition on its value that later steps keep; beside them a relation on the world that steps on with the operations; the last operations may be left as they stand. No program is named here. -/
namespace Go.Proofs.YtchpmdcacpjojaaDoor
open Go
set_option maxRecDepth 8000
set_option linter.all false

def seqStep (P : Program) (Q : Exit → Act → World → Prop) (T : World → World → Prop) (V : List (SV T)) (J : Nat → World → Prop) (a0 : Act) (w0 : World) (i : Nat) (o : Oper) (dp : List (Tmp × Option Nat)) (g : Option (Tmp × Bool)) (c : SV T) : Prop :=
  ∀ (a : Act) (w : World), T w0 w → relyFacts V a0 a w dp → J i w → ∀ K : Act → World → Prop, (∀ v w', T w w' → J (i + 1) w' → c.pred v w' → K (a.put o.dst v) w') →
    if relyGuard g a then o.wp P a w K Q else K (a.put o.dst undef) w
def seqAll (P : Program) (Q : Exit → Act → World → Prop) (T : World → World → Prop) (V : List (SV T)) (J : Nat → World → Prop) (a0 : Act) (w0 : World) : Nat → List Oper → Deps → List (SV T) → Prop
  | _, [], _, _ => True
  | i, o :: r, (dp, g) :: D, c :: C => seqStep P Q T V J a0 w0 i o dp g c ∧ seqAll P Q T V J a0 w0 (i + 1) r D C
  | _, _, _, _ => False
def seqOne (ops : Array Oper) (n m : Nat) (i : Nat) (o : Oper) (dp : List (Tmp × Option Nat)) (g : Option (Tmp × Bool)) : Bool :=
  (match o.dst with | some d => decide (d < n) && (List.range m).all (fun j => decide (j = i) || relyDst ops j != some d) | none => true) &&
  (dp.all fun x => match x.2 with
    | some j => relyDst ops j == some x.1 && decide (j < i)
    | none => (List.range i).all fun j => relyDst ops j != some x.1) &&
  (match o.guard, g with
    | none, none => true
    | some (k, b), some (d, b') => b == b' && relyDst ops k == some d && decide (d < n)
    | _, _ => false)
def seqB (ops : Array Oper) (n m : Nat) : Nat → List Oper → Deps → Bool
  | _, [], _ => true
  | i, o :: r, (dp, g) :: D => seqOne ops n m i o dp g && seqB ops n m (i + 1) r D
  | _, _, _ => false
section
variable {P : Program} {ops : Array Oper} {Q : Exit → Act → World → Prop} {T : World → World → Prop} {V : List (SV T)} {J : Nat → World → Prop} {a0 : Act} {w0 : World} {n m : Nat} {D : Deps} {init tail : List Oper}
theorem seqB_at : ∀ (l : List Oper) (D : Deps) (i k : Nat) (o : Oper), seqB ops n m i l D = true → l[k]? = some o → ∃ dp g, D[k]? = some (dp, g) ∧ seqOne ops n m (i + k) o dp g = true
  | [], _, _, _, _, _, h => by simp at h
  | x :: r, [], _, _, _, h, _ => by simp [seqB] at h
  | x :: r, (dp, g) :: D, i, 0, o, h, ho => by
    simp only [seqB, Bool.and_eq_true] at h
    simp at ho
    subst ho
    exact ⟨dp, g, rfl, h.1⟩
  | x :: r, (dp, g) :: D, i, k + 1, o, h, ho => by
    simp only [seqB, Bool.and_eq_true] at h
    obtain ⟨dp', g', hD, h'⟩ := seqB_at r D (i + 1) k o h.2 (by simpa using ho)
    exact ⟨dp', g', by simpa using hD, by rw [show i + (k + 1) = i + 1 + k by omega]; exact h'⟩
theorem seqAll_at : ∀ (l : List Oper) (D : Deps) (C : List (SV T)) (i k : Nat) (o : Oper) dp g, seqAll P Q T V J a0 w0 i l D C → l[k]? = some o → D[k]? = some (dp, g) → seqStep P Q T V J a0 w0 (i + k) o dp g (C.getD k SV.any)
  | [], _, _, _, _, _, _, _, _, h, _ => by simp at h
  | x :: r, [], _, _, _, _, _, _, h, _, _ => h.elim
  | x :: r, y :: D, [], _, _, _, _, _, h, _, _ => h.elim
  | x :: r, (dp, g) :: D, c :: C, i, 0, o, dp', g', h, ho, hD => by
    simp at ho hD
    obtain ⟨rfl, rfl⟩ := hD
    subst ho
    exact h.1
  | x :: r, (dp, g) :: D, c :: C, i, k + 1, o, dp', g', h, ho, hD => by
    have := seqAll_at r D C (i + 1) k o dp' g' h.2 (by simpa using ho) (by simpa using hD)
    rw [show i + (k + 1) = i + 1 + k by omega]
    simpa using this
structure SeqInv (ops : Array Oper) (T : World → World → Prop) (V : List (SV T)) (J : Nat → World → Prop) (a0 : Act) (w0 : World) (k : Nat) (a : Act) (w : World) : Prop where
  now : T w0 w
  at_ : J k w
  slots : a.tmps.size = a0.tmps.size
  defers : a.defers = a0.defers
  new : ∀ j d, j < k → relyDst ops j = some d → (V.getD j SV.any).pred (a.tmps.getD d undef) w
  old : ∀ d, (∀ j, j < k → relyDst ops j ≠ some d) → a.tmps.getD d undef = a0.tmps.getD d undef
theorem seq_op (hn : a0.tmps.size = n) (ht : ∀ a b c : World, T a b → T b c → T a c) {i : Nat} {o : Oper} {dp : List (Tmp × Option Nat)} {g : Option (Tmp × Bool)} {a : Act} {w : World}
    (him : i < m) (ho : ops[i]? = some o) (h1 : seqOne ops n m i o dp g = true) (hstep : seqStep P Q T V J a0 w0 i o dp g (V.getD i SV.any)) (inv : SeqInv ops T V J a0 w0 i a w) :
    wpOp P ops Q i (fun a' w' => SeqInv ops T V J a0 w0 (i + 1) a' w') a w := by
  simp only [seqOne, Bool.and_eq_true] at h1
  obtain ⟨⟨hdst, hdp⟩, hg⟩ := h1
  have hfacts : relyFacts V a0 a w dp := by
    clear hstep
    induction dp with
    | nil => trivial
    | cons x r ih2 =>
      simp only [List.all_cons, Bool.and_eq_true] at hdp
      obtain ⟨hx, hr⟩ := hdp
      obtain ⟨d, j⟩ := x
      cases j with
      | some j =>
        simp only [Bool.and_eq_true, beq_iff_eq, decide_eq_true_eq] at hx
        exact ⟨inv.new j d hx.2 hx.1, ih2 hr⟩
      | none =>
        refine ⟨inv.old d fun j hj => ?_, ih2 hr⟩
        simpa using List.all_eq_true.1 hx j (List.mem_range.2 hj)
  have hguard : Region.wanted o (yielded ops a.tmps) = relyGuard g a := by
    unfold Region.wanted
    cases hgo : o.guard with
    | none =>
      rw [hgo] at hg
      cases g with
      | none => rfl
      | some x => cases hg
    | some kb =>
      obtain ⟨k, b⟩ := kb
      rw [hgo] at hg
      cases g with
      | none => cases hg
      | some x =>
        obtain ⟨d, b'⟩ := x
        simp only [Bool.and_eq_true, beq_iff_eq, decide_eq_true_eq] at hg
        obtain ⟨⟨rfl, hd⟩, hlt⟩ := hg
        have hlt' : d < a.tmps.size := by rw [inv.slots, hn]; exact hlt
        have hd' : (ops[k]?).bind (·.dst) = some d := hd
        simp only [yielded, hd', Option.bind_some, relyGuard, Array.getD_eq_getD_getElem?, Array.getElem?_eq_getElem hlt', Option.getD_some]
        cases a.tmps[d] <;> simp
        all_goals (rename_i x; cases x <;> cases b <;> rfl)
  have next : ∀ v w', T w w' → J (i + 1) w' → (V.getD i SV.any).pred v w' → SeqInv ops T V J a0 w0 (i + 1) (a.put o.dst v) w' := fun v w' hT hJ hv => by
    refine ⟨ht _ _ _ inv.now hT, hJ, by cases o.dst <;> simp [Act.put, inv.slots], by cases o.dst <;> simp [Act.put, inv.defers], fun j d hji hj => ?_, fun d hno => ?_⟩
    · by_cases hij : i = j
      · subst hij
        have hd : o.dst = some d := by simpa [relyDst, ho] using hj
        rw [hd] at hdst
        simp only [Bool.and_eq_true, decide_eq_true_eq] at hdst
        have hlt : d < a.tmps.size := by rw [inv.slots, hn]; exact hdst.1
        rw [hd]
        simpa [Act.put, hlt] using hv
      · have h3 := (V.getD j SV.any).stable _ _ _ (inv.new j d (by omega) hj) hT
        cases hod : o.dst with
        | none => exact h3
        | some d0 =>
          rw [hod] at hdst
          simp only [Bool.and_eq_true, decide_eq_true_eq] at hdst
          have h4 := List.all_eq_true.1 hdst.2 j (List.mem_range.2 (by omega))
          simp only [Bool.or_eq_true, decide_eq_true_eq, bne_iff_ne, ne_eq] at h4
          have hne : d0 ≠ d := fun e => by
            subst e
            rcases h4 with h4 | h4
            · exact hij h4.symm
            · exact h4 hj
          simpa [Act.put, Array.getElem?_setIfInBounds_ne hne] using h3
    · have hni : o.dst ≠ some d := fun hd => hno i (by omega) (by simp [relyDst, ho, hd])
      have hold := inv.old d fun j hj => hno j (by omega)
      cases hod : o.dst with
      | none => exact hold
      | some d0 =>
        have hne : d0 ≠ d := fun e => hni (by rw [hod, e])
        simpa [Act.put, Array.getElem?_setIfInBounds_ne hne] using hold
  have hs := hstep a w inv.now hfacts inv.at_ _ next
  unfold wpOp
  simp only [ho, hguard]
  split
  · rename_i hw; rw [if_pos hw] at hs; exact .inl hs
  · rename_i hw; rw [if_neg hw] at hs; exact hs
theorem wpOps_tail : ∀ (t : List Oper) (k : Nat) (a : Act) (w : World), (∀ i : Nat, ops[k + i]? = t[i]?) → wpList P ops Q t a w → wpOps P ops Q (List.range' k t.length) a w
  | [], k, a, w, _, h => by simpa [wpOps, wpList] using h
  | o :: t, k, a, w, hk, h => by
    have hi : ops[k]? = some o := by simpa using hk 0
    rw [List.length_cons, List.range'_succ, wpOps_cons]
    refine wpOp_mono (fun a' w' h' => wpOps_tail t (k + 1) a' w' (fun i => by have := hk (i + 1); rw [show k + 1 + i = k + (i + 1) by omega]; simpa using this) h') ?_
    unfold wpOp
    simp only [hi]
    simpa only [wpList] using h
theorem wpOps_seq (hsplit : ops.toList = init ++ tail) (hn : a0.tmps.size = n) (hB : seqB ops n init.length 0 init D = true) (ht : ∀ a b c : World, T a b → T b c → T a c)
    (hl : init.length ≤ V.length) (hA : seqAll P Q T V J a0 w0 0 init D V) (hE : ∀ w, T w0 w → J init.length w → relyEnd (fun _ a w => wpList P ops Q tail a w) T init V a0 w) :
    ∀ (f k : Nat) (a : Act) (w : World), k + f = init.length → SeqInv ops T V J a0 w0 k a w → wpOps P ops Q (List.range' k (f + tail.length)) a w := by
  obtain ⟨hsz, hpre, htl⟩ := split_at hsplit
  intro f
  induction f with
  | zero =>
    intro k a w hk inv
    obtain rfl : k = init.length := by omega
    rw [Nat.zero_add]
    refine wpOps_tail tail init.length a w htl ?_
    refine relyEnd_of (Q := fun _ a w => wpList P ops Q tail a w) init V a0 inv.slots.symm inv.defers.symm hl (fun d hnd => ?_) (fun k o d hk hd => ?_) (hE w inv.now inv.at_)
    · refine (inv.old d fun j hj hjd => ?_).symm
      have hj2 := hpre j init[j] (List.getElem?_eq_getElem hj)
      simp [relyDst, hj2] at hjd
      exact hnd init[j] (List.getElem_mem hj) hjd
    · exact inv.new k d (List.getElem?_eq_some_iff.1 hk).1 (by simp [relyDst, hpre k o hk, hd])
  | succ f ih =>
    intro k a w hk inv
    rw [show f + 1 + tail.length = (f + tail.length) + 1 by omega, List.range'_succ, wpOps_cons]
    have hklt : k < init.length := by omega
    have hio : init[k]? = some init[k] := List.getElem?_eq_getElem hklt
    obtain ⟨dp, g, hD, h1⟩ := seqB_at init D 0 k _ hB hio
    have hstep := seqAll_at _ _ _ 0 k _ dp g hA hio hD
    rw [Nat.zero_add] at h1 hstep
    exact wpOp_mono (fun a' w' inv' => ih (k + 1) a' w' (by omega) inv') (seq_op hn ht hklt (hpre k _ hio) h1 hstep inv)
/-- **A region in the text's order; the operations from place m on are left as they stand.** -/
theorem wp_region_steps {id : Nat} (T : World → World → Prop) (J : Nat → World → Prop) (V : List (SV T)) (D : Deps) (n m : Nat) (hn : a0.tmps.size = n) (hlen : (ops.toList.take m).length = m) (hB : seqB ops n m 0 (ops.toList.take m) D = true)
    (ht : ∀ a b c : World, T a b → T b c → T a c) (hd : T w0 w0) (hJ : J 0 w0) (hl : m ≤ V.length)
    (hA : seqAll P Q T V J a0 w0 0 (ops.toList.take m) D V) (hE : ∀ w, T w0 w → J m w → relyEnd (fun _ a w => wpList P ops Q (ops.toList.drop m) a w) T (ops.toList.take m) V a0 w) : (Code.region id ops false).wp P Q a0 w0 := by
  refine wp_region ?_
  have hs := split_at (List.take_append_drop m ops.toList).symm
  rw [List.range_eq_range', hs.1]
  exact wpOps_seq (List.take_append_drop m ops.toList).symm hn (by rw [hlen]; exact hB) ht (by rw [hlen]; exact hl) hA (by rw [hlen]; exact hE) _ 0 a0 w0 (by omega) ⟨hd, hJ, rfl, rfl, fun j d hj => absurd hj (by omega), fun _ _ => rfl⟩
/-- Without a relation beside. -/
theorem seqAll_of : ∀ (i : Nat) (l : List Oper) (D : Deps) (C : List (SV T)), relyAll P Q T V a0 w0 l D C → seqAll P Q T V (fun _ _ => True) a0 w0 i l D C
  | _, [], _, _, _ => trivial
  | i, _ :: r, (_, _) :: D, _ :: C, h => ⟨fun a w hT hF _ K hK => h.1 a w hT hF K fun v w' h1 h2 => hK v w' h1 trivial h2, seqAll_of (i + 1) r D C h.2⟩
  | _, _ :: _, [], _, h => h.elim
  | _, _ :: _, _ :: _, [], h => h.elim
theorem wp_region_steps0 {id : Nat} (T : World → World → Prop) (V : List (SV T)) (D : Deps) (n m : Nat) (hn : a0.tmps.size = n) (hlen : (ops.toList.take m).length = m) (hB : seqB ops n m 0 (ops.toList.take m) D = true)
    (ht : ∀ a b c : World, T a b → T b c → T a c) (hd : T w0 w0) (hl : m ≤ V.length)
    (hA : relyAll P Q T V a0 w0 (ops.toList.take m) D V) (hE : ∀ w, T w0 w → relyEnd (fun _ a w => wpList P ops Q (ops.toList.drop m) a w) T (ops.toList.take m) V a0 w) : (Code.region id ops false).wp P Q a0 w0 :=
  wp_region_steps T (fun _ _ => True) V D n m hn hlen hB ht hd trivial hl (seqAll_of 0 _ _ _ hA) fun w hT _ => hE w hT
theorem wpList_end {a : Act} {w : World} {l : List Oper} (hl : l = []) (h : Q .normal a w) : wpList P ops Q l a w := by subst hl; exact h
end
end Go.Proofs.YtchpmdcacpjojaaDoor
/- A step that writes one block; stores into a row, a lemma each. No program is named here. -/
namespace Go.Proofs.YtchpmdcacpjojaaDoor
open Go Go.RowKit
set_option maxRecDepth 8000
set_option linter.all false

/-- A step that writes block R, and new memory, alone. -/
structure RT (R : Nat) (w w' : World) : Prop where
  below : Below R w w'
  keep : KeepBut [R] w w'
theorem RT.refl (R : Nat) (w : World) : RT R w w := ⟨Below.refl _ _, KeepBut.refl _ _⟩
theorem RT.trans {R : Nat} (a b c : World) (h : RT R a b) (k : RT R b c) : RT R a c := ⟨h.below.trans k.below, h.keep.trans k.keep⟩
theorem RT.new {R : Nat} {w w' : World} (hR : R < w.heap.size) (h : NewT w w') : RT R w w' := ⟨h.out.mono (by omega), KeepBut.below h⟩
theorem RT.drew (R : Nat) (w : World) : RT R w w.drew := ⟨(Below.refl _ _).drew, KeepBut.drew _⟩
theorem RT.setCell {R : Nat} (w : World) (o : Nat) (v : Value) : RT R w (w.setCell ⟨R, o, none⟩ v) := ⟨(Below.refl R w).setCell (p := ⟨R, o, none⟩) (Nat.le_refl R) v, KeepBut.setCell (by simp) v⟩
theorem RT.rd {R : Nat} {w w' : World} (h : RT R w w') {v : Value} {l : List UInt8} (hr : RdV w [R] v l) : RdV w' [R] v l := hr.keep h.keep
theorem RT.row {R : Nat} {w w' : World} (h : RT R w w') {b n : Nat} {t : TypeId} {f : Nat → Value} (hb : b ≠ R) (hr : w.rowIs b t n f) : w'.rowIs b t n f := h.keep.row (by simpa using hb) hr
theorem RT.size {R : Nat} {w w' : World} (h : RT R w w') : w.heap.size ≤ w'.heap.size := h.below.size
/-- A block that is new is written. -/
theorem NewT.rt {w w1 w2 : World} {b : Nat} (h : NewT w w1) (hR : RT b w1 w2) (hb : w.heap.size ≤ b) : NewT w w2 := NewT.of (h.out.trans (hR.below.mono hb))
section
variable {P : Program} {ops : Array Oper} {rest : List Oper} {a : Act} {w : World} {Q : Exit → Act → World → Prop}
theorem wpList_new {o1 o2 : Oper} {t : TypeId} {n d0 : Nat} {y : Operand} {f f0 : Nat → Value} (hg1 : o1.guard = none) (hg2 : o2.guard = none) (h1 : o1.op = .alloc t) (hd : o1.dst = some d0) (h2 : o2.op = .store t (.tmp d0) y) (hd2 : o2.dst = none) (hlt : d0 < a.tmps.size)
    (hal : ∀ w : World, (Instr.alloc t true (.tuple #[])).run P w = .ok (.pointer (some ⟨w.heap.size, 0, none⟩)) (w.alloc (.cells (rowA n f0) t))) (hi : (P.info? t).map (·.size) = some n) (hone : ∀ i, (f i).oneCell' = true)
    (hy : (a.put (some d0) (.pointer (some ⟨w.heap.size, 0, none⟩))).eval y = .agg (rowA n f)) (h : ∀ w', NewT w w' → w'.rowIs w.heap.size t n f → wpList P ops Q rest (a.put (some d0) (.pointer (some ⟨w.heap.size, 0, none⟩))) w') : wpList P ops Q (o1 :: o2 :: rest) a w := by
  refine wpList_plain hg1 fun K hK => ?_
  obtain ⟨dst, op, type, pos, after, guard⟩ := o1
  simp only at h1 hd
  subst h1 hd
  refine opr_val (s := Instr.alloc t true (.tuple #[])) rfl (hal w) (hK _ _ ?_)
  have hr := rowIs_box w t n f0
  refine wpList_store_mid hg2 t (.tmp d0) y h2 w.heap.size 0 (rowA n f) (by rw [eval_tmp]; simp [Act.put, hlt]) hy (by rw [rowA_size]; exact there_row hr) (by rw [rowA_size]; exact hi) (rowA_one _ _ hone) ?_
  rw [hd2]
  exact h _ (below_setCells _ (Nat.le_refl _) _ _ _ (NewT.alloc _ _).out) (rowIs_setAll hr f)
theorem wpList_put1 {o : Oper} {t t' : TypeId} {x y : Operand} {g o0 n : Nat} {v : Value} {f0 F : Nat → Value} (hg : o.guard = none) (ho : o.op = .store t x y) (hd : o.dst = none) (hx : a.eval x = .pointer (some ⟨g, o0, none⟩)) (hy : a.eval y = v) (hr : w.rowIs g t' n f0) (hm : o0 < n) (hi : (P.info? t).map (·.size) = some 1) (hone : v.oneCell' = true)
    (hF : ∀ i, i < n → F i = if i = o0 then v else f0 i) (h : ∀ w', (∀ B, B ≤ g → Below B w w') → w'.rowIs g t' n F → wpList P ops Q rest a w') : wpList P ops Q (o :: rest) a w := by
  refine wpList_plain hg fun K hK => ?_
  obtain ⟨dst, op, type, pos, after, guard⟩ := o
  simp only at ho hd
  subst ho hd
  have hsz : (sizeOf t).run P w = .ok 1 w := by
    cases hq : P.info? t with
    | none => simp [hq] at hi
    | some i => simp [hq] at hi; simp [sizeOf, typeInfo, hq, hi]
  have hc := hr.cell hm
  have hf := hr.frozen o0
  have hcs : v.cells = #[v] := by cases v <;> first | rfl | simp [Value.oneCell'] at hone
  refine opr_unit (s := Instr.storeAt t (a.eval x) (a.eval y)) (w' := w.setCell ⟨g, o0, none⟩ v) rfl ?_ (hK _ _ ?_)
  · rw [hx, hy]
    simp [Instr.storeAt, Instr.sureAddr, storeVar, hsz, hcs, storeCells, run_store _ _ _ _ _ hone, hc, hf, Addr.add_zero']
  · exact h _ (fun B hB => (Below.refl B w).setCell (p := ⟨g, o0, none⟩) hB v) ((hr.set o0 v).congr fun i hi => by rw [hF i hi])
/-- A record or a row that a call hands back. -/
theorem results_agg {fn : Func} {p : Tmp} {ty t : TypeId} {d : TypeDesc} {n b : Nat} {f : Nat → Value} (hf : fn.results = #[.cell p ty]) (tmps : Array Value) (hp : tmps.getD p undef = .pointer (some ⟨b, 0, none⟩))
    (h : w.rowIs b t n f) (hu : P.underlying ty = some d) (hd : d.isRow = true) (hi : (P.info? ty).map (·.size) = some n) : (results fn tmps).run P w = .ok (.agg (rowA n f)) w := by
  have := run_loadVar_mid (P := P) w b 0 ty (rowA n f).toList d (rangeAt_row h) hu hd (by rw [hi, rowA_toList]; simp)
  have hp' : tmps[p]?.getD undef = .pointer (some ⟨b, 0, none⟩) := by simpa using hp
  simp [results, hf, hp', asAddr, this]
end
section
variable {P : Program} {a : Act} {w : World} {o : Oper} {K : Act → World → Prop} {Q : Exit → Act → World → Prop}
theorem opr_put1 {t t' : TypeId} {x y : Operand} {g o0 n : Nat} {v : Value} {f0 F : Nat → Value} (ho : o.op = .store t x y) (hx : a.eval x = .pointer (some ⟨g, o0, none⟩)) (hy : a.eval y = v) (hr : w.rowIs g t' n f0) (hm : o0 < n) (hi : (P.info? t).map (·.size) = some 1) (hone : v.oneCell' = true)
    (hF : ∀ i, i < n → F i = if i = o0 then v else f0 i) (h : ∀ w', RT g w w' → w'.rowIs g t' n F → K (a.put o.dst undef) w') : o.wp P a w K Q := by
  obtain ⟨dst, op, type, pos, after, guard⟩ := o
  simp only at ho
  subst ho
  have hsz : (sizeOf t).run P w = .ok 1 w := by
    cases hq : P.info? t with
    | none => simp [hq] at hi
    | some i => simp [hq] at hi; simp [sizeOf, typeInfo, hq, hi]
  have hc := hr.cell hm
  have hf := hr.frozen o0
  have hcs : v.cells = #[v] := by cases v <;> first | rfl | simp [Value.oneCell'] at hone
  refine opr_unit (s := Instr.storeAt t (a.eval x) (a.eval y)) (w' := w.setCell ⟨g, o0, none⟩ v) rfl ?_ (h _ (RT.setCell w o0 v) ((hr.set o0 v).congr fun i hi => by rw [hF i hi]))
  rw [hx, hy]
  simp [Instr.storeAt, Instr.sureAddr, storeVar, hsz, hcs, storeCells, run_store _ _ _ _ _ hone, hc, hf, Addr.add_zero']
theorem RT.setCells {R : Nat} (vs : List Value) (o : Nat) (w : World) : RT R w (w.setCells R o vs) := by
  induction vs generalizing o w with
  | nil => exact RT.refl _ _
  | cons v r ih => rw [World.setCells]; exact RT.trans _ _ _ (RT.setCell w o v) (ih (o + 1) _)
theorem opr_putm {t t' : TypeId} {x y : Operand} {g o0 n m : Nat} {f f0 F : Nat → Value} (ho : o.op = .store t x y) (hx : a.eval x = .pointer (some ⟨g, o0, none⟩)) (hy : a.eval y = .agg (rowA m f)) (hr : w.rowIs g t' n f0) (hm : o0 + m ≤ n) (hi : (P.info? t).map (·.size) = some m) (hone : ∀ i, (f i).oneCell' = true)
    (hF : ∀ i, i < n → F i = if o0 ≤ i ∧ i < o0 + m then f (i - o0) else f0 i) (h : ∀ w', RT g w w' → w'.rowIs g t' n F → K (a.put o.dst undef) w') : o.wp P a w K Q := by
  refine wp_store_mid t x y ho g o0 (rowA m f) hx hy (by rw [rowA_size]; exact fun j hj => ⟨by simp [hr.cell (i := o0 + j) (by omega)], by simpa using hr.frozen (o0 + j)⟩) (by rw [rowA_size]; exact hi) (rowA_one _ _ hone) ?_
  refine h _ (RT.setCells _ _ _) ((rowIs_setCells_at hr (rowA m f).toList o0).congr fun i hi => ?_)
  rw [hF i hi, rowA_toList]
  simp only [List.length_map, List.length_range]
  by_cases h : o0 ≤ i ∧ i < o0 + m
  · rw [if_pos h, if_pos h]
    simp [show i - o0 < m by omega]
  · rw [if_neg h, if_neg h]
end
end Go.Proofs.YtchpmdcacpjojaaDoor
/- What the guards of a region make conditional, and single operations, a lemma each: fields, loads, numbers compared. -/
namespace Go.Proofs.YtchpmdcacpjojaaDoor
open Go Go.RowKit
set_option maxRecDepth 8000
set_option linter.all false

theorem evs0 {a : Act} : (#[] : Array Operand).map a.eval = #[] := by simp
theorem evs1 {a : Act} {x : Operand} {v : Value} (h : a.eval x = v) : #[x].map a.eval = #[v] := by simp only [List.map_toArray, List.map_cons, List.map_nil, h]
theorem evs2 {a : Act} {x y : Operand} {v u : Value} (h : a.eval x = v) (k : a.eval y = u) : #[x, y].map a.eval = #[v, u] := by simp only [List.map_toArray, List.map_cons, List.map_nil, h, k]
theorem evs3 {a : Act} {x y z : Operand} {v u t : Value} (h : a.eval x = v) (k : a.eval y = u) (l : a.eval z = t) : #[x, y, z].map a.eval = #[v, u, t] := by simp only [List.map_toArray, List.map_cons, List.map_nil, h, k, l]
theorem evs4 {a : Act} {x y z p : Operand} {v u t s : Value} (h : a.eval x = v) (k : a.eval y = u) (l : a.eval z = t) (m : a.eval p = s) : #[x, y, z, p].map a.eval = #[v, u, t, s] := by simp only [List.map_toArray, List.map_cons, List.map_nil, h, k, l, m]
section
variable {P : Program} {a : Act} {w : World} {o : Oper} {K : Act → World → Prop} {Q : Exit → Act → World → Prop}
/-- A condition that stands where b is so. -/
def svIf {T : World → World → Prop} (b : Bool) (c : SV T) : SV T := ⟨fun v w => b = true → c.pred v w, fun v w w' h hT hb => c.stable v w w' (h hb) hT⟩
theorem rely_on {g : Option (Tmp × Bool)} {E : Bool} (hg : relyGuard g a = E) (h1 : E = true → o.wp P a w K Q) (h0 : E = false → K (a.put o.dst undef) w) : if relyGuard g a then o.wp P a w K Q else K (a.put o.dst undef) w := by
  rw [hg]; cases E
  · exact h0 rfl
  · exact h1 rfl
/-- What is done under a guard that isn't known. -/
theorem rely_if {T : World → World → Prop} {g : Option (Tmp × Bool)} {E : Bool} {c : SV T} (hg : relyGuard g a = E) (hr : T w w) (hK : ∀ v w', T w w' → (svIf E c).pred v w' → K (a.put o.dst v) w') (h : E = true → (∀ v w', T w w' → c.pred v w' → K (a.put o.dst v) w') → o.wp P a w K Q) : if relyGuard g a then o.wp P a w K Q else K (a.put o.dst undef) w :=
  rely_on hg (fun hE => h hE fun v w' h1 h2 => hK v w' h1 fun _ => h2) fun hE => hK _ _ hr fun h1 => by rw [hE] at h1; cases h1
theorem pn_and1 {b e q : Bool} {v : Value} (hq : (b && e) = q) (h : v = .bool e) (hb : b = true) : v = .bool q := by rw [h, ← hq, hb]; rfl
theorem pn_and0 {b e q : Bool} (hq : (b && e) = q) (hb : b = false) : Value.bool false = .bool q := by rw [← hq, hb]; rfl
theorem pn_or1 {b e q : Bool} (hq : (b || e) = q) (hb : b = true) : Value.bool true = .bool q := by rw [← hq, hb]; rfl
theorem pn_or0 {b e q : Bool} {v : Value} (hq : (b || e) = q) (h : v = .bool e) (hb : b = false) : v = .bool q := by rw [h, ← hq, hb]; rfl
theorem rely_gt {d : Tmp} {b : Bool} (h : a.tmps.getD d undef = .bool b) : relyGuard (some (d, true)) a = b := by simp only [relyGuard, h]; cases b <;> rfl
theorem rely_gf {d : Tmp} {b : Bool} (h : a.tmps.getD d undef = .bool b) : relyGuard (some (d, false)) a = !b := by simp only [relyGuard, h]; cases b <;> rfl
theorem opr_pick_b {c x y : Operand} {b : Bool} (ho : o.op = .pick c x y) (hc : a.eval c = .bool b) (h1 : b = true → K (a.put o.dst (a.eval x)) w) (h0 : b = false → K (a.put o.dst (a.eval y)) w) : o.wp P a w K Q := by
  cases b
  · exact opr_pick_false ho hc (h0 rfl)
  · exact opr_pick_true ho hc (h1 rfl)
theorem pk_and1 {b e : Bool} {v : Value} (h : v = .bool e) (hb : b = true) : v = .bool (b && e) := by rw [h, hb]; rfl
theorem pk_and0 {b e : Bool} (hb : b = false) : Value.bool false = .bool (b && e) := by rw [hb]; rfl
theorem pk_or1 {b e : Bool} (hb : b = true) : Value.bool true = .bool (b || e) := by rw [hb]; rfl
theorem pk_or0 {b e : Bool} {v : Value} (h : v = .bool e) (hb : b = false) : v = .bool (b || e) := by rw [h, hb]; rfl
theorem bnot {b : Bool} (h : b = false) : (!b) = true := by rw [h]; rfl
theorem opr_not {t : TypeId} {x : Operand} {b : Bool} (ho : o.op = .unOp .not t x) (hx : a.eval x = .bool b) (h : K (a.put o.dst (.bool !b)) w) : o.wp P a w K Q := by
  obtain ⟨dst, op, type, pos, after, guard⟩ := o
  simp only at ho
  subst ho
  refine opr_val (s := Op.unary .not (a.eval x)) rfl ?_ h
  rw [hx]; simp [go_sem]
/-- A field's place. -/
theorem opr_fld {t : TypeId} {x : Operand} {k g o0 off m : Nat} {fs : Array Field} {f : Field} (hu : P.underlying t = some (.struct fs)) (hk : fs[k]? = some f) (hs : (P.info? f.type).map (·.size) = some (m + 1)) (ho : o.op = .fieldAddr t x k) (hx : a.eval x = .pointer (some ⟨g, o0, none⟩)) (hoff : o0 + f.offset = off) (h : K (a.put o.dst (.pointer (some ⟨g, off, none⟩))) w) : o.wp P a w K Q := by
  subst hoff
  obtain ⟨dst, op, type, pos, after, guard⟩ := o
  simp only at ho
  subst ho
  refine opr_val (s := Instr.fieldAt t (a.eval x) k) rfl ?_ h
  have hsz : (sizeOf f.type).run P w = .ok (m + 1) w := by
    cases hq : P.info? f.type with
    | none => simp [hq] at hs
    | some i => simp [hq] at hs; simp [sizeOf, typeInfo, hq, hs]
  rw [hx]
  simp [Instr.fieldAt, run_underlying hu, hk, Instr.sureAddr, fieldPlace, hsz, Addr.add_mid]
/-- A cell is loaded. -/
theorem opr_ld1 {t : TypeId} {x : Operand} {g o0 : Nat} {d : TypeDesc} {v : Value} (hu : P.underlying t = some d) (hd : d.isRow = false) (ho : o.op = .load t x) (hx : a.eval x = .pointer (some ⟨g, o0, none⟩)) (hc : w.cell? ⟨g, o0, none⟩ = some v) (h : K (a.put o.dst v) w) : o.wp P a w K Q := by
  obtain ⟨dst, op, type, pos, after, guard⟩ := o
  simp only at ho
  subst ho
  refine opr_val (s := Instr.loadAt t (a.eval x)) rfl ?_ h
  have hagg : (isAgg t).run P w = .ok false w := by
    unfold isAgg
    rw [Sem.run_bind, run_underlying hu w]
    cases d <;> simp_all
  rw [hx]
  simp [Instr.loadAt, Instr.sureAddr, loadVar, hagg, hc]
/-- A part of a row is loaded. -/
theorem opr_ldm {t t' : TypeId} {x : Operand} {g o0 n m : Nat} {d : TypeDesc} {f : Nat → Value} (hu : P.underlying t = some d) (hd : d.isRow = true) (hi : (P.info? t).map (·.size) = some m) (ho : o.op = .load t x) (hx : a.eval x = .pointer (some ⟨g, o0, none⟩)) (hr : w.rowIs g t' n f) (hm : o0 + m ≤ n) (h : K (a.put o.dst (.agg (rowA m fun j => f (o0 + j)))) w) : o.wp P a w K Q := by
  obtain ⟨dst, op, type, pos, after, guard⟩ := o
  simp only at ho
  subst ho
  refine opr_val (s := Instr.loadAt t (a.eval x)) rfl ?_ h
  rw [hx]
  have := run_loadAt_mid (P := P) w g o0 t _ d (rangeAt_part hr o0 m hm) hu hd (by rw [rowA_toList]; simpa using hi)
  simpa using this
end
section
variable {a : Act} {w : World} {o : Oper} {K : Act → World → Prop} {Q : Exit → Act → World → Prop} {x : Operand} {g : Nat}
theorem info_int : (Tryd.prog.info? 3).map (·.size) = some (0 + 1) := by kernel_rfl
theorem info_bool : (Tryd.prog.info? 4).map (·.size) = some (0 + 1) := by kernel_rfl
theorem info_hash1 : (Tryd.prog.info? 32).map (·.size) = some (31 + 1) := by kernel_rfl
theorem info_sb1 : (Tryd.prog.info? 49).map (·.size) = some (0 + 1) := by kernel_rfl
variable {F : Nat → Value} {t' : TypeId} {n : Nat} {o0 : Nat} {v : Value}
theorem opr_ldI (hr : w.rowIs g t' n F) (hn : o0 < n) (hv : F o0 = v) (ho : o.op = .load 3 x) (hx : a.eval x = .pointer (some ⟨g, o0, none⟩)) (h : K (a.put o.dst v) w) : o.wp Tryd.prog a w K Q :=
  opr_ld1 Tryd.underlying3 rfl ho hx (by rw [hr.cell hn, hv]) h
theorem opr_ldQ (hr : w.rowIs g t' n F) (hn : o0 < n) (hv : F o0 = v) (ho : o.op = .load 4 x) (hx : a.eval x = .pointer (some ⟨g, o0, none⟩)) (h : K (a.put o.dst v) w) : o.wp Tryd.prog a w K Q :=
  opr_ld1 Tryd.underlying4 rfl ho hx (by rw [hr.cell hn, hv]) h
theorem opr_ldB (hr : w.rowIs g t' n F) (hn : o0 < n) (hv : F o0 = v) (ho : o.op = .load 49 x) (hx : a.eval x = .pointer (some ⟨g, o0, none⟩)) (h : K (a.put o.dst v) w) : o.wp Tryd.prog a w K Q :=
  opr_ld1 Tryd.underlying49 rfl ho hx (by rw [hr.cell hn, hv]) h
theorem opr_ldH {d : Nat → UInt8} (hr : w.rowIs g t' n F) (hn : o0 + 32 ≤ n) (hv : ∀ j, j < 32 → F (o0 + j) = bF d j) (ho : o.op = .load 32 x) (hx : a.eval x = .pointer (some ⟨g, o0, none⟩)) (h : K (a.put o.dst (.agg (rowA 32 (bF d)))) w) : o.wp Tryd.prog a w K Q :=
  opr_ldm Tryd.underlying32 rfl info31 ho hx hr hn (by rw [rowA_congr hv]; exact h)
/-- Numbers are compared. -/
theorem opr_cmp {op : BinOp} {t t2 : TypeId} {x y : Operand} {m n : Int} {b : Bool} (hop : op = .eql ∧ (m == n) = b ∨ op = .neq ∧ (m != n) = b ∨ op = .leq ∧ decide (m ≤ n) = b ∨ op = .lss ∧ decide (m < n) = b ∨ op = .gtr ∧ decide (n < m) = b ∨ op = .geq ∧ decide (n ≤ m) = b) (_ht : Tryd.prog.underlying t = some (.int .i64)) (ho : o.op = .binOp op t x y t2) (hx : a.eval x = .int .i64 m) (hy : a.eval y = .int .i64 n) (h : K (a.put o.dst (.bool b)) w) : o.wp Tryd.prog a w K Q := by
  obtain ⟨dst, op', type, pos, after, guard⟩ := o
  simp only at ho
  subst ho
  refine opr_val (s := do eqGuard op t x y (a.eval x) (a.eval y); binOp op t (a.eval x) (a.eval y)) rfl ?_ h
  rw [hx, hy]
  rcases hop with ⟨rfl, rfl⟩ | ⟨rfl, rfl⟩ | ⟨rfl, rfl⟩ | ⟨rfl, rfl⟩ | ⟨rfl, rfl⟩ | ⟨rfl, rfl⟩ <;> simp [go_sem]
end
section
variable {a : Act} {w : World} {o : Oper} {K : Act → World → Prop} {Q : Exit → Act → World → Prop} {x y : Operand} {g : Nat}
theorem opr_eqlQ {p q b : Bool} {t2 : TypeId} (hb : (p == q) = b) (ho : o.op = .binOp .eql 4 x y t2) (hx : a.eval x = .bool p) (hy : a.eval y = .bool q) (h : K (a.put o.dst (.bool b)) w) : o.wp Tryd.prog a w K Q := by
  obtain ⟨dst, op', type, pos, after, guard⟩ := o
  simp only at ho
  subst ho hb
  refine opr_val (s := do eqGuard .eql 4 x y (a.eval x) (a.eval y); binOp .eql 4 (a.eval x) (a.eval y)) rfl ?_ h
  rw [hx, hy]
  simp [go_sem]
end
end Go.Proofs.YtchpmdcacpjojaaDoor
/- Merkle trees on lists, whatever a node's hash is: a list's root, a frontier's whole trees, and that they agree. No program is named. -/
namespace Go.Proofs.YtchpmdcacpjojaaDoor
set_option maxRecDepth 8000
set_option linter.all false
/-- The greatest power of two below n; 0 of n below 2. -/
def splitN (n : Nat) : Nat := if n < 2 then 0 else 2 ^ (n - 1).log2
theorem splitN_lt (n : Nat) (h : 2 ≤ n) : splitN n < n ∧ 0 < splitN n ∧ n ≤ 2 * splitN n := by
  unfold splitN
  rw [if_neg (by omega)]
  have h1 := Nat.two_pow_pos (n - 1).log2
  have h2 : 2 ^ (n - 1).log2 ≤ n - 1 := Nat.log2_self_le (by omega)
  have h3 : n - 1 < 2 ^ ((n - 1).log2 + 1) := Nat.lt_log2_self
  rw [Nat.pow_succ] at h3
  omega
section
variable {H : Type} (node : H → H → H) (z : H)
/-- A list's root. -/
def rootM (l : List H) : H :=
  if h : l.length < 2 then l.headD z
  else node (rootM (l.take (splitN l.length))) (rootM (l.drop (splitN l.length)))
termination_by l.length
decreasing_by
  · have := splitN_lt l.length (by omega); simp; omega
  · have := splitN_lt l.length (by omega); simp; omega
/-- A frontier: whole trees, the greatest first, each with its height. -/
inductive Fr : List (Nat × H) → List H → Prop
  | nil : Fr [] []
  | cons {k : Nat} {l l' : List H} {F : List (Nat × H)} : l.length = 2 ^ k → (∀ p ∈ F, p.1 < k) → Fr F l' → Fr ((k, rootM node z l) :: F) (l ++ l')
variable {node z}
theorem Fr.lt {F : List (Nat × H)} {l : List H} (h : Fr node z F l) (k : Nat) (hk : ∀ p ∈ F, p.1 < k) : l.length < 2 ^ k := by
  induction h generalizing k with
  | nil => exact Nat.two_pow_pos k
  | @cons k' a b F ha hF _ ih =>
    have h1 := ih k' hF
    have h2 : k' < k := hk (k', rootM node z a) (by simp)
    have h3 : 2 ^ (k' + 1) ≤ 2 ^ k := Nat.pow_le_pow_right (by omega) h2
    rw [Nat.pow_succ] at h3
    rw [List.length_append]; omega
theorem Fr.pos {F : List (Nat × H)} {l : List H} (h : Fr node z F l) (hF : F ≠ []) : 0 < l.length := by
  cases h with
  | nil => exact absurd rfl hF
  | @cons k a b F ha _ _ => have := Nat.two_pow_pos k; rw [List.length_append]; omega
variable (node z)
variable {node z}
/-- How many ones are in a number. -/
def onesN (n : Nat) : Nat := if h : n = 0 then 0 else n % 2 + onesN (n / 2)
termination_by n
theorem onesN_zero : onesN 0 = 0 := by unfold onesN; simp
theorem onesN_step (n : Nat) : onesN n = n % 2 + onesN (n / 2) := by
  by_cases h : n = 0
  · subst h; simp [onesN_zero]
  · rw [onesN, dif_neg h]
theorem onesN_pow (k : Nat) : ∀ m, m < 2 ^ k → onesN (2 ^ k + m) = 1 + onesN m := by
  induction k with
  | zero => intro m h; obtain rfl : m = 0 := by omega
            rw [onesN_step]
  | succ k ih =>
    intro m h
    rw [Nat.pow_succ] at h ⊢
    rw [onesN_step, onesN_step m]
    have e1 : (2 ^ k * 2 + m) % 2 = m % 2 := by omega
    have e2 : (2 ^ k * 2 + m) / 2 = 2 ^ k + m / 2 := by omega
    rw [e1, e2, ih (m / 2) (by omega)]
    omega
theorem Fr.ones {F : List (Nat × H)} {l : List H} (h : Fr node z F l) : F.length = onesN l.length := by
  induction h with
  | nil => simp [onesN_zero]
  | @cons k a b F ha hF hb ih =>
    rw [List.length_append, ha, onesN_pow k _ (hb.lt k hF), ← ih]; simp; omega
/-- Two frontiers side by side. -/
theorem Fr.append {F : List (Nat × H)} {l : List H} (h : Fr node z F l) : ∀ {G : List (Nat × H)} {m : List H}, Fr node z G m → (∀ p ∈ F, ∀ q ∈ G, q.1 < p.1) → Fr node z (F ++ G) (l ++ m) := by
  induction h with
  | nil => intro G m hG _; simpa using hG
  | @cons k a b F ha hF hb ih =>
    intro G m hG hlt
    rw [List.append_assoc]
    refine Fr.cons ha (fun p hp => ?_) (ih hG fun p hp q hq => hlt p (by simp [hp]) q hq)
    rcases List.mem_append.1 hp with hp | hp
    · exact hF p hp
    · exact hlt (k, rootM node z a) (by simp) p hp
variable (node)
variable {node}
/-- A whole tree's frontier is one root. -/
theorem Fr.whole {F : List (Nat × H)} {l : List H} (h : Fr node z F l) (k : Nat) (hl : l.length = 2 ^ k) : F = [(k, rootM node z l)] := by
  cases h with
  | nil => have := Nat.two_pow_pos k; simp at hl; omega
  | @cons k' a b F ha hF hb =>
    have h1 := hb.lt k' hF
    rw [List.length_append, ha] at hl
    have hk : k' = k := by
      rcases Nat.lt_trichotomy k' k with h | h | h
      · have : 2 ^ (k' + 1) ≤ 2 ^ k := Nat.pow_le_pow_right (by omega) h
        rw [Nat.pow_succ] at this; omega
      · exact h
      · have : 2 ^ (k + 1) ≤ 2 ^ k' := Nat.pow_le_pow_right (by omega) h
        rw [Nat.pow_succ] at this; omega
    subst hk
    have hb0 : b.length = 0 := by omega
    cases hb with
    | nil => simp
    | cons hc _ _ => have := Nat.two_pow_pos ‹Nat›; simp at hb0; rw [hb0.1] at hc; simp at hc; omega
variable (node z)
variable {node z}
variable (node)
variable {node}
end
end Go.Proofs.YtchpmdcacpjojaaDoor
/- Slices of hashes that read as lists: elements, parts, new ones, appends. -/
namespace Go.Proofs.YtchpmdcacpjojaaDoor
open Go Go.RowKit
set_option maxRecDepth 8000
set_option linter.all false

/-- A hash, byte by byte. -/
abbrev Hs := Nat → UInt8
/-- A slice of hashes reads as l. -/
def RdH (W : World) (v : Value) (l : List Hs) : Prop :=
  ∃ A cap, v = .slice A l.length cap ∧ l.length ≤ cap ∧ cap ≤ maxLen ∧ (0 < l.length → ∃ b o, A = some ⟨b, o, none⟩ ∧ ∀ i d, l[i]? = some d → ∀ j, j < 32 → W.cell? ⟨b, o + i * 32 + j, none⟩ = some (bF d j))
theorem NewT.hs {w w' : World} (h : NewT w w') {v : Value} {l : List Hs} (hr : RdH w v l) : RdH w' v l := by
  obtain ⟨A, cap, hv, h1, h2, h3⟩ := hr
  refine ⟨A, cap, hv, h1, h2, fun h0 => ?_⟩
  obtain ⟨b, o, hA, hc⟩ := h3 h0
  exact ⟨b, o, hA, fun i d hd j hj => (h.out.cell (p := ⟨b, o + i * 32 + j, none⟩) (World.block_lt_of_cell? _ _ (hc i d hd j hj))).trans (hc i d hd j hj)⟩
def svH (l : List Hs) : SV NewT := ⟨fun v w => RdH w v l, fun _ _ _ h hT => hT.hs h⟩
theorem rdH_form {w : World} {v : Value} {l : List Hs} (h : RdH w v l) : ∃ A c, v = .slice A l.length c := by
  obtain ⟨A, c, hv, _⟩ := h; exact ⟨A, c, hv⟩
theorem rdH_nil (w : World) : RdH w (.slice none 0 0) [] := ⟨none, 0, rfl, Nat.le_refl _, by unfold maxLen; omega, fun h => absurd h (by simp)⟩
/-- The cells of hashes, one behind the other. -/
def hcs (l : List Hs) : List Value := l.flatMap fun d => (List.range 32).map (bF d)
theorem hcs_length (l : List Hs) : (hcs l).length = l.length * 32 := by
  induction l with
  | nil => rfl
  | cons d l ih => rw [hcs, List.flatMap_cons, List.length_append, show (l.flatMap fun d => (List.range 32).map (bF d)) = hcs l from rfl, ih]; simp; omega
theorem hcs_app (a b : List Hs) : hcs (a ++ b) = hcs a ++ hcs b := by simp [hcs]
theorem hcs_at (l : List Hs) : ∀ (i : Nat) (d : Hs), l[i]? = some d → ∀ j, j < 32 → (hcs l)[i * 32 + j]? = some (bF d j) := by
  induction l with
  | nil => intro i d h; simp at h
  | cons e l ih =>
    intro i d h j hj
    have hl : ((List.range 32).map (bF e)).length = 32 := by simp
    rw [show hcs (e :: l) = (List.range 32).map (bF e) ++ hcs l from rfl]
    cases i with
    | zero => simp at h; subst h; rw [List.getElem?_append_left (by rw [hl]; omega)]; simp [hj]
    | succ i => rw [List.getElem?_append_right (by rw [hl]; omega), hl, show (i + 1) * 32 + j - 32 = i * 32 + j by omega]; exact ih i d (by simpa using h) j hj
theorem hcs_one_cell (l : List Hs) : ∀ u ∈ hcs l, u.oneCell' = true := by
  intro u hu
  obtain ⟨d, _, h⟩ := List.mem_flatMap.1 hu
  obtain ⟨j, _, rfl⟩ := List.mem_map.1 h
  rfl
theorem hcs_take (l : List Hs) (n : Nat) (h : n ≤ l.length) : (hcs l).take (n * 32) = hcs (l.take n) := by
  have e := hcs_app (l.take n) (l.drop n)
  rw [List.take_append_drop] at e
  have hl : (hcs (l.take n)).length = n * 32 := by rw [hcs_length, List.length_take]; congr 1; omega
  rw [e, ← hl, List.take_left]
/-- The cells that a slice of hashes reads, as a list. -/
theorem RdH.news {w : World} {l : List Hs} {b o n c : Nat} (h : RdH w (.slice (some ⟨b, o, none⟩) n c) l) : ∀ j u, (hcs l)[j]? = some u → w.cell? ((⟨b, o, none⟩ : Addr).add j) = some u := by
  intro j u hj
  obtain ⟨A, cap, hv, _, _, h3⟩ := h
  have hlt : j < l.length * 32 := by rw [← hcs_length]; exact (List.getElem?_eq_some_iff.1 hj).1
  obtain ⟨b', o', hA, hc⟩ := h3 (by omega)
  injection hv with e1 _ _
  rw [hA] at e1
  cases e1
  have hi : j / 32 < l.length := by omega
  have hd : l[j / 32]? = some l[j / 32] := List.getElem?_eq_getElem hi
  have h1 := hcs_at l _ _ hd (j % 32) (by omega)
  rw [show j / 32 * 32 + j % 32 = j by omega] at h1
  rw [h1] at hj
  cases hj
  have := hc _ _ hd (j % 32) (by omega)
  rw [Addr.add_mid, show o + j = o + j / 32 * 32 + j % 32 by omega]
  exact this
/-- A row of hashes of the call's own reads as a list. -/
theorem rdH_own {W : World} {base : Nat} {v : Value} {l : List Hs} (h : W.ownsRow base 32 32 v l.length (hcs l)) : RdH W v l := by
  rcases h.2 with ⟨rfl, h0⟩ | ⟨g, cap, cur, rfl, hb, _, hnc, hcm, _, _⟩
  · have : l = [] := List.eq_nil_of_length_eq_zero h0
    subst this
    exact rdH_nil W
  · refine ⟨some ⟨g, 0, none⟩, cap, rfl, hnc, hcm, fun _ => ⟨g, 0, rfl, fun i d hd j hj => ?_⟩⟩
    have hc := h.cells (g := g) rfl (i * 32 + j) _ (hcs_at l i d hd j hj)
    rw [Addr.add_mid] at hc
    rw [Nat.add_assoc]; exact hc
/-- A row of cells that holds hashes reads as a list. -/
theorem rdH_row {W : World} {g t n : Nat} {f : Nat → Value} {l : List Hs} (h : W.rowIs g t n f) (hn : l.length * 32 ≤ n) (hm : l.length ≤ maxLen) (hf : ∀ i d, l[i]? = some d → ∀ j, j < 32 → f (i * 32 + j) = bF d j) : RdH W (.slice (some ⟨g, 0, none⟩) l.length l.length) l := by
  refine ⟨some ⟨g, 0, none⟩, l.length, rfl, Nat.le_refl _, hm, fun _ => ⟨g, 0, rfl, fun i d hd j hj => ?_⟩⟩
  have hi : i < l.length := (List.getElem?_eq_some_iff.1 hd).1
  rw [show 0 + i * 32 + j = i * 32 + j by omega, h.cell (by omega), hf i d hd j hj]
theorem size_hash : (Tryd.prog.info? 32).map (·.size) = some 32 := info31
theorem run_size_hash (w : World) : (sizeOf 32).run Tryd.prog w = .ok 32 w := by
  have hs := size_hash
  cases hq : Tryd.prog.info? 32 with
  | none => simp [hq] at hs
  | some i => simp [hq] at hs; simp [sizeOf, typeInfo, hq, hs]
section
variable {a : Act} {w : World} {o : Oper} {K : Act → World → Prop} {Q : Exit → Act → World → Prop} {x y : Operand}
theorem opr_len_h {l : List Hs} (ho : o.op = .call { callee := .builtin .len, args := #[x], argTypes := #[22] }) (hx : RdH w (a.eval x) l) (h : K (a.put o.dst (.int .i64 (l.length : Int))) w) : o.wp Tryd.prog a w K Q := by
  obtain ⟨A, c, hv, _⟩ := hx
  exact opr_len ho Tryd.underlying22 hv h
theorem run_idxH {b off n c i : Nat} (w : World) (hi : i < n) : (Instr.indexAt 22 (.slice (some ⟨b, off, none⟩) n c) (.int .i64 (i : Int))).run Tryd.prog w = .ok (.pointer (some ⟨b, off + i * 32, none⟩)) w := by
  simp [Instr.indexAt, asIntOf, run_underlying Tryd.underlying22, run_size_hash, hi, Addr.add_mid]
/-- An element's place: where the hash d lies. -/
def svP (d : Hs) : SV NewT := ⟨fun v w => ∃ b off, v = .pointer (some ⟨b, off, none⟩) ∧ ∀ j, j < 32 → w.cell? ⟨b, off + j, none⟩ = some (bF d j), fun _ w w' h hT => by
  obtain ⟨b, off, hv, hc⟩ := h
  exact ⟨b, off, hv, fun j hj => (hT.out.cell (p := ⟨b, off + j, none⟩) (World.block_lt_of_cell? _ _ (hc j hj))).trans (hc j hj)⟩⟩
theorem opr_idxH {l : List Hs} {i : Nat} {n : Int} {d : Hs} (hd : l[i]? = some d) (hn : n = (i : Int)) (ho : o.op = .indexAddr 22 x y) (hx : RdH w (a.eval x) l) (hy : a.eval y = .int .i64 n) (h : ∀ v, (svP d).pred v w → K (a.put o.dst v) w) : o.wp Tryd.prog a w K Q := by
  subst hn
  obtain ⟨dst, op, type, pos, after, guard⟩ := o
  simp only at ho
  subst ho
  obtain ⟨A, c, hv, _, _, h3⟩ := hx
  have hi : i < l.length := (List.getElem?_eq_some_iff.1 hd).1
  obtain ⟨b, off, rfl, hc⟩ := h3 (by omega)
  exact opr_val (s := Instr.indexAt 22 (a.eval x) (a.eval y)) rfl (by rw [hv, hy]; exact run_idxH w hi) (h _ ⟨b, off + i * 32, rfl, fun j hj => hc i d hd j hj⟩)
theorem run_ldH_at {b off : Nat} {d : Hs} {w : World} (hc : ∀ j, j < 32 → w.cell? ⟨b, off + j, none⟩ = some (bF d j)) : (Instr.loadAt 32 (.pointer (some ⟨b, off, none⟩))).run Tryd.prog w = .ok (.agg (rowA 32 (bF d))) w := by
  have hr : w.rangeAt b off (rowA 32 (bF d)).toList := fun j v hv => by
    rw [rowA_toList] at hv
    have hj : j < 32 := by have := (List.getElem?_eq_some_iff.1 hv).1; simpa using this
    simp [hj] at hv
    subst hv
    exact hc j hj
  have := run_loadAt_mid (P := Tryd.prog) w b off 32 (rowA 32 (bF d)).toList _ hr Tryd.underlying32 rfl (by rw [rowA_toList]; simpa using info31)
  simpa using this
theorem opr_ldP {d : Hs} (ho : o.op = .load 32 x) (hx : (svP d).pred (a.eval x) w) (h : K (a.put o.dst (.agg (rowA 32 (bF d)))) w) : o.wp Tryd.prog a w K Q := by
  obtain ⟨dst, op, type, pos, after, guard⟩ := o
  simp only at ho
  subst ho
  obtain ⟨b, off, hv, hc⟩ := hx
  exact opr_val (s := Instr.loadAt 32 (a.eval x)) rfl (by rw [hv]; exact run_ldH_at hc) h
end
end Go.Proofs.YtchpmdcacpjojaaDoor
/- Numbers as bytes, on lists: a number's bytes, how bytes are read as a number, and that these two are one another's. No program is named here. -/
namespace Go.Proofs.YtchpmdcacpjojaaDoor
open Go
set_option maxRecDepth 8000
set_option linter.all false

/-- How many bytes a number has. -/
def sz (n : Nat) : Nat := if n < 128 then 1 else if n < 16384 then 2 else if n < 2097152 then 3 else if n < 268435456 then 4 else 5
abbrev uB (n : Nat) : UInt8 := UInt8.ofNat n
/-- A number's bytes. -/
def numL (n : Nat) : List UInt8 :=
  if n < 128 then [uB n] else if n < 16384 then [uB (n / 128 + 128), uB (n % 128)] else if n < 2097152 then [uB (n / 16384 + 128), uB (n / 128 % 128 + 128), uB (n % 128)]
  else if n < 268435456 then [uB (n / 2097152 + 128), uB (n / 16384 % 128 + 128), uB (n / 128 % 128 + 128), uB (n % 128)]
  else [uB (n / 268435456 % 128 + 128), uB (n / 2097152 % 128 + 128), uB (n / 16384 % 128 + 128), uB (n / 128 % 128 + 128), uB (n % 128)]
/-- The bytes of whatever number there is, none of what is none. -/
def numI (n : Int) : List UInt8 := if 0 ≤ n ∧ n ≤ 2147483647 then numL n.toNat else []
end Go.Proofs.YtchpmdcacpjojaaDoor
/- Records, on lists: which are right, their bytes, sealed and open; that sealed bytes tell right records apart, but for what redacting leaves out. No program is named here; the commitment is whatever function cm is. -/
namespace Go.Proofs.YtchpmdcacpjojaaDoor
open Go
set_option maxRecDepth 8000
set_option linter.all false

/-- A record: its numbers, flags, hashes (their first 32 places), steps and payload. -/
structure Rc where
  kind : Int
  saga : Int
  seq : Int
  step : Int
  tr : Int
  back : Bool
  good : Bool
  nd : Int
  part : Int
  epoch : Int
  tag : Nat → UInt8
  steps : List (Int × Int)
  data : List UInt8
  salt : Nat → UInt8
  gone : Bool
  com : Nat → UInt8
/-- A hash as bytes. -/
def hL (d : Nat → UInt8) : List UInt8 := (List.range 32).map d
def hZ (d : Nat → UInt8) : Bool := (List.range 32).all fun i => d i == 0
theorem hZ_hL (d : Nat → UInt8) (h : hZ d = true) : hL d = hL fun _ => 0 := by
  unfold hL
  exact List.map_congr_left fun i hi => by simpa using List.all_eq_true.1 h i hi
def inR (n lo hi : Int) : Bool := decide (lo ≤ n) && decide (n ≤ hi)
theorem inR_iff (n lo hi : Int) : inR n lo hi = true ↔ lo ≤ n ∧ n ≤ hi := by simp [inR]
def stepOk (s : Int × Int) : Bool := inR s.1 0 3 && inR s.2 1 3
/-- What a kind of record hasn't, of those that are no Begin. -/
def noBegin (x : Rc) : Bool := x.steps.isEmpty && x.data.isEmpty && hZ x.salt && !x.gone && hZ x.com
def noCall (x : Rc) : Bool := x.step == 0 && x.tr == 0 && !x.back
def noReceipt (x : Rc) : Bool := !x.good && hZ x.tag
def isCall (x : Rc) : Bool := inR x.seq 1 400 && inR x.step 0 5 && inR x.tr 1 9
/-- Is it right? -/
def rightB (x : Rc) : Bool :=
  if x.kind = 1 then inR x.saga 0 11 && x.seq == 0 && noCall x && noReceipt x && x.nd == 0 && x.part == 0 && x.epoch == 0 && inR x.steps.length 1 6 && x.steps.all stepOk && decide (x.data.length ≤ 60) && (if x.gone then x.data.isEmpty && hZ x.salt else hZ x.com)
  else if x.kind = 2 ∨ x.kind = 4 then inR x.saga 0 11 && isCall x && noReceipt x && x.nd == 0 && x.part == 0 && x.epoch == 0 && noBegin x
  else if x.kind = 3 then inR x.saga 0 11 && isCall x && x.nd == 0 && inR x.part 0 3 && inR x.epoch 0 400 && noBegin x
  else if x.kind = 5 then inR x.saga 0 11 && inR x.seq 1 400 && noCall x && noReceipt x && inR x.nd 2 4 && x.part == 0 && x.epoch == 0 && noBegin x
  else if x.kind = 6 then x.saga == 0 && x.seq == 0 && noCall x && noReceipt x && x.nd == 0 && inR x.part 0 3 && inR x.epoch 1 400 && noBegin x
  else false
section
variable (cm : (Nat → UInt8) → List UInt8 → Nat → UInt8)
/-- The same all through. -/
structure SameR (x y : Rc) : Prop where
  kind : x.kind = y.kind
  saga : x.saga = y.saga
  seq : x.seq = y.seq
  step : x.step = y.step
  tr : x.tr = y.tr
  back : x.back = y.back
  good : x.good = y.good
  nd : x.nd = y.nd
  part : x.part = y.part
  epoch : x.epoch = y.epoch
  tag : hL x.tag = hL y.tag
  steps : x.steps = y.steps
  data : x.data = y.data
  salt : hL x.salt = hL y.salt
  gone : x.gone = y.gone
  com : hL x.com = hL y.com
end
end Go.Proofs.YtchpmdcacpjojaaDoor
/- Keys, receipts and checkpoints, on lists: which keys may be, who has a key, what a tag is of, which marks are good. No program is named here; kf, tg and pf are whatever functions make keys' tags, texts' tags and checkpoints' texts. -/
namespace Go.Proofs.YtchpmdcacpjojaaDoor
open Go
set_option maxRecDepth 8000
set_option linter.all false

def z32 : Hs := fun _ => 0
/-- May keys be? -/
def mayB (ps ws : List Hs) (need : Int) : Bool := (inR ps.length 1 4 && inR ws.length 1 4) && inR need 1 ws.length
/-- Is there a participant's key of an epoch? -/
def hasB (ps ws : List Hs) (need part epoch : Int) : Bool := (mayB ps ws need && inR part 0 (ps.length - 1)) && inR epoch 0 400
def bI (b : Bool) : Int := if b = true then 1 else 0
theorem mayB_iff (ps ws : List Hs) (need : Int) : mayB ps ws need = true ↔ (1 ≤ ps.length ∧ ps.length ≤ 4) ∧ (1 ≤ ws.length ∧ ws.length ≤ 4) ∧ 1 ≤ need ∧ need ≤ ws.length := by
  simp only [mayB, Bool.and_eq_true, inR_iff]; omega
theorem hasB_iff (ps ws : List Hs) (need part epoch : Int) : hasB ps ws need part epoch = true ↔ mayB ps ws need = true ∧ (0 ≤ part ∧ part < ps.length) ∧ 0 ≤ epoch ∧ epoch ≤ 400 := by
  simp only [hasB, Bool.and_eq_true, inR_iff]
  constructor
  · rintro ⟨⟨h, h1⟩, h2⟩; exact ⟨h, by omega, h2⟩
  · rintro ⟨h, h1, h2⟩; exact ⟨⟨h, by omega⟩, h2⟩
theorem hasB_at {ps ws : List Hs} {need part epoch : Int} (h : hasB ps ws need part epoch = true) : ∃ i : Nat, part = (i : Int) ∧ i < ps.length ∧ ps[i]? = some (ps.getD part.toNat z32) := by
  obtain ⟨_, ⟨h0, h1⟩, _⟩ := (hasB_iff _ _ _ _ _).1 h
  refine ⟨part.toNat, by omega, by omega, ?_⟩
  rw [List.getD, List.getElem?_eq_getElem (show part.toNat < ps.length by omega)]; rfl
section
variable (kf : Hs → List Int → Hs) (tg : Hs → Hs → Hs) (pf : Int → Hs → Hs)
/-- A participant's key. -/
def partH (ps ws : List Hs) (need part epoch : Int) : Hs := if hasB ps ws need part epoch = true then kf (ps.getD part.toNat z32) [1, epoch] else z32
/-- A receipt's tag. -/
def recpH (ps ws : List Hs) (need : Int) (x : Rc) : Hs := if (x.kind == 3 && hasB ps ws need x.part x.epoch) = true then kf (partH kf ps ws need x.part x.epoch) [2, x.saga, x.step, bI x.back, bI x.good] else z32
/-- Is a receipt's tag right? -/
def holdsB (ps ws : List Hs) (need : Int) (x : Rc) : Bool := ((x.kind == 3 && rightB x) && hasB ps ws need x.part x.epoch) && eqH (recpH kf ps ws need x) x.tag
end
theorem or_not {a b c : Bool} (h : (!a || !b) = c) : (a && b) = !c := by subst h; cases a <;> cases b <;> rfl
theorem or_not3 {a b c d : Bool} (h : ((!a || !b) || !c) = d) : ((a && b) && c) = !d := by subst h; cases a <;> cases b <;> cases c <;> rfl
section
variable {ps ws : List Hs} {need size : Int} {sg : Nat → Hs} {l : List (Int × Hs)}
end
section
variable {kf : Hs → List Int → Hs} {tg : Hs → Hs → Hs} {pf : Int → Hs → Hs} {ps ws : List Hs} {need : Int}
end
end Go.Proofs.YtchpmdcacpjojaaDoor
/- A law's last step, for all laws of a seat: it returned true, and only new memory was made; arguments opened: arrays by value, slices of bytes. -/
namespace Go.Proofs.YtchpmdcacpjojaaDoor
open Go.ChangeShapes Go.WideShapes Go.ChangeAt Go.WideMaps Go.WideElems Go.RowKit
set_option maxRecDepth 8000
set_option linter.all false
theorem own : ownKnob Tryd.prog.godebug = none := by kernel_rfl
theorem laidOut : laidOutB Tryd.prog = true := by kernel_rfl
theorem trodAll_below {H : Type} {enc : TypeId × Value → H} {W W' : World} (hb : Below W.heap.size W W') : ∀ (ts : List TypeId) (vs : List Value) (ds : List (DataW H)) (p : List MemPlace),
    (∀ t ∈ ts, Tryd.prog.readableRec t = true ∧ t < Tryd.prog.types.size) → (∀ x ∈ p, x.block < W.heap.size) →
    DataW.TrodAll enc Tryd.prog W 0 (fun _ => true) true ts vs ds p → DataW.TrodAll enc Tryd.prog W' 0 (fun b => decide (b < W.heap.size)) true ts vs ds p := by
  intro ts
  induction ts with
  | nil =>
    intro vs ds p _ _ h
    obtain ⟨rfl, rfl, rfl⟩ := trodAll_nil h
    exact trodAll_mk0
  | cons t ts ih =>
    intro vs ds p ht hp h
    obtain ⟨v0, vs0, d0, ds0, p0, q0, rfl, rfl, rfl, h0, r0⟩ := trodAll_cons h
    exact trodAll_cons_mk (Below.trod laidOut (ht t (by simp)).1 (ht t (by simp)).2 h0 hb (fun x hx => hp x (by simp [hx])))
      (ih vs0 ds0 q0 (fun t' h' => ht t' (by simp [h'])) (fun x hx => hp x (by simp [hx])) r0)
theorem law_post {H : Type} {enc : TypeId × Value → H} {f : Func} {s : ChangeSpec} {W W' : World} {args : Array Value} {ds gs : List (DataW H)} {before : List MemPlace}
    (hW : DataW.Whole enc Tryd.prog f.params.toList s.vars false W args.toList ds gs before) (hvars : s.vars = [])
    (hr : (s.fn H (ds ++ [])).results = [.lit (.bool true)]) (ha : (s.fn H (ds ++ [])).args = ds) (hv : (s.fn H (ds ++ [])).vars = []) (hrt : f.resultTypes = #[4])
    (hts : ∀ t ∈ f.params.toList, Tryd.prog.readableRec t = true ∧ t < Tryd.prog.types.size) (hb : Below W.heap.size W W') :
    s.post enc Tryd.prog f false true false false W args (.bool true) W' := by
  have hlt : ∀ p ∈ before, p.block < W.heap.size := fun p hp => hW.lt p hp
  have hW0 := hW
  obtain ⟨p, q, hA, hV, rfl, hz, _⟩ := hW
  rw [hvars] at hV
  obtain ⟨rfl, rfl⟩ := trodVars_none hV
  refine ⟨ds, [], p ++ [], [], p, [], hW0, ?_, ?_, ?_, World.keptBut_mono (fun x hx => ⟨hx, .inr (.inl (by simpa using hx))⟩) (hb.frame (· ∈ p ++ [])), fun h => by cases h⟩
  · rw [hr, hrt]
    exact trodAll_cons_mk (shut_bool Tryd.underlying4 true) trodAll_mk0
  · rw [ha]
    exact trodAll_below hb _ _ _ _ hts (fun x hx => hlt x (by simp [hx])) hA
  · rw [hv, hvars]
    exact rfl
end Go.Proofs.YtchpmdcacpjojaaDoor
/- A record that came in, opened: a struct by value of 109 cells, read as a record on lists. No program is named here but by its facts on types. -/
namespace Go.Proofs.YtchpmdcacpjojaaDoor
open Go Go.ChangeShapes Go.WideShapes Go.ChangeAt Go.WideMaps Go.WideElems Go.RowKit
set_option maxRecDepth 8000
set_option linter.all false

section
variable {H : Type} {enc : TypeId × Value → H} {P : Program} {w : World} {base : Nat} {spare : Nat → Bool} {held : Bool}
theorem open_fields {r : Reach} {b0 : Nat} {t : TypeId} {fs : Array Field} {v : Value} {d : DataW H} {p : List MemPlace} (hs : P.underlying t = some (.struct fs)) (hv : Value.okWide P w r b0 t v) (h : DataW.Trod enc P w base spare held t v d p) :
    ∃ (cs : Array Value) (n : Nat), v = .agg cs ∧ cs.size = P.cellsOf t ∧ ∀ (i : Nat) (f : Field), fs[i]? = some f → ∃ y, DataW.trod enc P w base spare held n f.type ((cs.toList.drop f.offset).take (P.cellsOf f.type)) = some y := by
  obtain ⟨cs, rfl, hsz⟩ := okWide_struct hs hv
  obtain ⟨fuel, hf⟩ := h
  obtain ⟨xs, n, _, _, _, hl, hx⟩ := DataW.trod_struct hs hf
  refine ⟨cs, n, rfl, hsz, fun i f hi => ?_⟩
  have hlt : i < xs.length := by rw [hl]; exact (Array.getElem?_eq_some_iff.1 hi).1
  exact ⟨xs[i], by rw [← List.getElem?_eq_getElem hlt]; exact hx i f hi⟩
theorem take_one {cs : Array Value} {o : Nat} {c : Value} (h : (cs.toList.drop o).take 1 = [c]) : cs[o]? = some c := by
  have := congrArg (·[0]?) h
  simpa using this
variable {n : Nat} {ty : TypeId} {o : Nat} {cs : Array Value}
theorem field_int {k : IntKind} (hT : P.underlying ty = some (.int k)) (hc : P.cellsOf ty = 1) (h : ∃ y, DataW.trod enc P w base spare held n ty ((cs.toList.drop o).take (P.cellsOf ty)) = some y) : ∃ z, cs[o]? = some (.int k z) ∧ (Lit.int k z).wf = true := by
  obtain ⟨y, h⟩ := h
  obtain ⟨z, hz, _, hw⟩ := DataW.trod_int hT h
  rw [hc] at hz
  exact ⟨z, take_one hz, hw⟩
theorem field_bool (hT : P.underlying ty = some .bool) (hc : P.cellsOf ty = 1) (h : ∃ y, DataW.trod enc P w base spare held n ty ((cs.toList.drop o).take (P.cellsOf ty)) = some y) : ∃ b, cs[o]? = some (.bool b) := by
  obtain ⟨y, h⟩ := h
  obtain ⟨b, hb, _⟩ := DataW.trod_bool hT h
  rw [hc] at hb
  exact ⟨b, take_one hb⟩
theorem field_hash {e : TypeId} {m : Nat} (hT : P.underlying ty = some (.array m e)) (he : P.underlying e = some (.int .u8)) (hc : P.cellsOf ty = m) (hce : P.cellsOf e = 1) (h : ∃ y, DataW.trod enc P w base spare held n ty ((cs.toList.drop o).take (P.cellsOf ty)) = some y) : ∃ d : Nat → UInt8, ∀ i, i < m → cs[o + i]? = some (.int .u8 (bN (d i))) := by
  obtain ⟨y, h⟩ := h
  obtain ⟨xs, n', _, _, hl, hxl, hel⟩ := DataW.trod_array hT h
  have hall : ∀ i, i < m → ∃ z, cs[o + i]? = some (.int .u8 z) ∧ (Lit.int .u8 z).wf = true := fun i hi => by
    have h1 := hel i hi
    rw [hce, Nat.mul_one, List.getElem?_eq_getElem (by omega)] at h1
    obtain ⟨z, hz, _, hw⟩ := DataW.trod_int he h1
    refine ⟨z, ?_, hw⟩
    have := congrArg (·[0]?) hz
    rw [hc] at this
    simpa [List.getElem?_take, List.getElem?_drop, hi] using this
  refine ⟨fun i => match cs[o + i]? with | some (.int _ z) => UInt8.ofNat z.toNat | _ => 0, fun i hi => ?_⟩
  obtain ⟨z, hz, hw⟩ := hall i hi
  have hb := bounds_u8 hw
  simp only [hz]
  unfold bN
  rw [UInt8.toNat_ofNat']
  congr 2
  omega
/-- A slice of pairs of numbers reads as l. -/
def RdP (W : World) (v : Value) (l : List (Int × Int)) : Prop :=
  ∃ A cap, v = .slice A l.length cap ∧ l.length ≤ cap ∧ cap ≤ maxLen ∧ (0 < l.length → ∃ b o, A = some ⟨b, o, none⟩ ∧ ∀ i, i < l.length → W.cell? ⟨b, o + 2 * i, none⟩ = some (.int .i64 (l.getD i (0, 0)).1) ∧ W.cell? ⟨b, o + 2 * i + 1, none⟩ = some (.int .i64 (l.getD i (0, 0)).2))
theorem NewT.pairs {w w' : World} (h : NewT w w') {v : Value} {l : List (Int × Int)} (hr : RdP w v l) : RdP w' v l := by
  obtain ⟨A, cap, hv, h1, h2, h3⟩ := hr
  refine ⟨A, cap, hv, h1, h2, fun h0 => ?_⟩
  obtain ⟨b, o, hA, hc⟩ := h3 h0
  refine ⟨b, o, hA, fun i hi => ⟨?_, ?_⟩⟩
  · exact (h.out.cell (p := ⟨b, o + 2 * i, none⟩) (World.block_lt_of_cell? _ _ (hc i hi).1)).trans (hc i hi).1
  · exact (h.out.cell (p := ⟨b, o + 2 * i + 1, none⟩) (World.block_lt_of_cell? _ _ (hc i hi).2)).trans (hc i hi).2
end
/-- The cells of a record. -/
def recF (x : Rc) (sv dv : Value) (i : Nat) : Value :=
  if i < 10 then (if i = 0 then .int .i64 x.kind else if i = 1 then .int .i64 x.saga else if i = 2 then .int .i64 x.seq else if i = 3 then .int .i64 x.step else if i = 4 then .int .i64 x.tr else if i = 5 then .bool x.back else if i = 6 then .bool x.good else if i = 7 then .int .i64 x.nd else if i = 8 then .int .i64 x.part else .int .i64 x.epoch)
  else if i < 42 then bF x.tag (i - 10) else if i = 42 then sv else if i = 43 then dv else if i < 76 then bF x.salt (i - 44) else if i = 76 then .bool x.gone else bF x.com (i - 77)
/-- A value that is a record. -/
def RecV (w : World) (v : Value) (x : Rc) : Prop := ∃ sv dv, v = .agg (rowA 109 (recF x sv dv)) ∧ RdP w sv x.steps ∧ RdV w [] dv x.data
theorem NewT.recV {w w' : World} (h : NewT w w') {v : Value} {x : Rc} (hr : RecV w v x) : RecV w' v x := by
  obtain ⟨sv, dv, h1, h2, h3⟩ := hr
  exact ⟨sv, dv, h1, h.pairs h2, h.rd h3⟩
end Go.Proofs.YtchpmdcacpjojaaDoor
/- Records, on lists: what Right looks at (a range, and what a kind has alone), which records are the same; that these come to R0's words. -/
namespace Go.Proofs.YtchpmdcacpjojaaDoor
open Go
set_option maxRecDepth 8000
set_option linter.all false

def stepsOk (l : List (Int × Int)) : Bool := inR l.length 1 6 && l.all stepOk
def inRg (x : Rc) : Bool :=
  if x.kind = 1 then (inR x.saga 0 11 && stepsOk x.steps) && decide ((x.data.length : Int) ≤ 60)
  else if x.kind = 3 then (!((!inR x.part 0 3) || !inR x.epoch 0 400)) && (((inR x.saga 0 11 && inR x.seq 1 400) && inR x.step 0 5) && inR x.tr 1 9)
  else if x.kind = 2 ∨ x.kind = 4 then ((inR x.saga 0 11 && inR x.seq 1 400) && inR x.step 0 5) && inR x.tr 1 9
  else if x.kind = 5 then (inR x.saga 0 11 && inR x.seq 1 400) && inR x.nd 2 4
  else if x.kind = 6 then inR x.part 0 3 && inR x.epoch 1 400
  else false
/-- The record with nothing. -/
def zR : Rc := ⟨0, 0, 0, 0, 0, false, false, 0, 0, 0, fun _ => 0, [], [], fun _ => 0, false, fun _ => 0⟩
def onlyR (x : Rc) : Rc :=
  if x.kind = 1 then (if x.gone then { zR with kind := x.kind, saga := x.saga, steps := x.steps, gone := x.gone, com := x.com } else { zR with kind := x.kind, saga := x.saga, steps := x.steps, gone := x.gone, data := x.data, salt := x.salt })
  else if x.kind = 3 then { zR with kind := x.kind, good := x.good, part := x.part, epoch := x.epoch, tag := x.tag, saga := x.saga, seq := x.seq, step := x.step, tr := x.tr, back := x.back }
  else if x.kind = 2 ∨ x.kind = 4 then { zR with kind := x.kind, saga := x.saga, seq := x.seq, step := x.step, tr := x.tr, back := x.back }
  else if x.kind = 5 then { zR with kind := x.kind, saga := x.saga, seq := x.seq, nd := x.nd }
  else if x.kind = 6 then { zR with kind := x.kind, part := x.part, epoch := x.epoch }
  else { zR with kind := x.kind }
/-- The same all through, in Same's order. -/
def sameB (x y : Rc) : Bool :=
  ((((((((((((((((x.kind == y.kind) && (x.saga == y.saga)) && (x.seq == y.seq)) && (x.step == y.step)) && (x.tr == y.tr)) && (x.back == y.back)) && (x.good == y.good)) && (x.nd == y.nd)) && (x.part == y.part)) && (x.epoch == y.epoch)) && eqH x.tag y.tag) && decide (x.steps = y.steps)) && decide (x.data = y.data)) && eqH x.salt y.salt) && (x.gone == y.gone)) && eqH x.com y.com)
theorem eqH_hL (d e : Nat → UInt8) : eqH d e = true ↔ hL d = hL e := by
  rw [eqH_iff]
  unfold hL
  constructor
  · intro h
    exact List.map_congr_left fun i hi => h i (List.mem_range.1 hi)
  · intro h i hi
    have := congrArg (·[i]?) h
    simpa [hi] using this
theorem sameB_iff (x y : Rc) : sameB x y = true ↔ SameR x y := by
  unfold sameB
  simp only [Bool.and_eq_true, beq_iff_eq, decide_eq_true_eq, eqH_hL]
  constructor
  · rintro ⟨⟨⟨⟨⟨⟨⟨⟨⟨⟨⟨⟨⟨⟨⟨h1, h2⟩, h3⟩, h4⟩, h5⟩, h6⟩, h7⟩, h8⟩, h9⟩, h10⟩, h11⟩, h12⟩, h13⟩, h14⟩, h15⟩, h16⟩
    exact ⟨h1, h2, h3, h4, h5, h6, h7, h8, h9, h10, h11, h12, h13, h14, h15, h16⟩
  · rintro ⟨h1, h2, h3, h4, h5, h6, h7, h8, h9, h10, h11, h12, h13, h14, h15, h16⟩
    exact ⟨⟨⟨⟨⟨⟨⟨⟨⟨⟨⟨⟨⟨⟨⟨h1, h2⟩, h3⟩, h4⟩, h5⟩, h6⟩, h7⟩, h8⟩, h9⟩, h10⟩, h11⟩, h12⟩, h13⟩, h14⟩, h15⟩, h16⟩
theorem hZ_iff (d : Nat → UInt8) : hZ d = true ↔ hL d = hL fun _ => 0 := by
  constructor
  · exact hZ_hL d
  · intro h
    rw [← eqH_hL, eqH_iff] at h
    unfold hZ
    rw [List.all_eq_true]
    intro i hi
    simpa using h i (List.mem_range.1 hi)
theorem right_eq (x : Rc) : (inRg x && sameB x (onlyR x)) = rightB x := by
  rw [Bool.eq_iff_iff, Bool.and_eq_true, sameB_iff]
  unfold inRg onlyR rightB
  by_cases k1 : x.kind = 1
  · simp only [if_pos k1]
    cases hg : x.gone
    · simp only [Bool.false_eq_true, if_false]
      constructor
      · rintro ⟨h, s⟩
        simp only [Bool.and_eq_true, stepsOk, decide_eq_true_eq, noCall, noReceipt, beq_iff_eq, Bool.not_eq_true'] at h ⊢
        exact ⟨⟨⟨⟨⟨⟨⟨⟨⟨⟨h.1.1, s.seq⟩, ⟨s.step, s.tr⟩, s.back⟩, s.good, (hZ_iff _).2 s.tag⟩, s.nd⟩, s.part⟩, s.epoch⟩, h.1.2.1⟩, h.1.2.2⟩, by omega⟩, (hZ_iff _).2 s.com⟩
      · intro h
        simp only [Bool.and_eq_true, stepsOk, decide_eq_true_eq, noCall, noReceipt, beq_iff_eq, Bool.not_eq_true'] at h ⊢
        obtain ⟨⟨⟨⟨⟨⟨⟨⟨⟨⟨a1, a2⟩, ⟨a3, a4⟩, a5⟩, a6, a7⟩, a8⟩, a9⟩, a10⟩, a11⟩, a12⟩, a13⟩, a14⟩ := h
        exact ⟨⟨⟨a1, a11, a12⟩, by omega⟩, rfl, rfl, a2, a3, a4, a5, a6, a8, a9, a10, (hZ_iff _).1 a7, rfl, rfl, rfl, hg, (hZ_iff _).1 a14⟩
    · simp only [if_true]
      constructor
      · rintro ⟨h, s⟩
        simp only [Bool.and_eq_true, stepsOk, decide_eq_true_eq, noCall, noReceipt, beq_iff_eq, Bool.not_eq_true', List.isEmpty_iff] at h ⊢
        exact ⟨⟨⟨⟨⟨⟨⟨⟨⟨⟨h.1.1, s.seq⟩, ⟨s.step, s.tr⟩, s.back⟩, s.good, (hZ_iff _).2 s.tag⟩, s.nd⟩, s.part⟩, s.epoch⟩, h.1.2.1⟩, h.1.2.2⟩, by omega⟩, s.data, (hZ_iff _).2 s.salt⟩
      · intro h
        simp only [Bool.and_eq_true, stepsOk, decide_eq_true_eq, noCall, noReceipt, beq_iff_eq, Bool.not_eq_true', List.isEmpty_iff] at h ⊢
        obtain ⟨⟨⟨⟨⟨⟨⟨⟨⟨⟨a1, a2⟩, ⟨a3, a4⟩, a5⟩, a6, a7⟩, a8⟩, a9⟩, a10⟩, a11⟩, a12⟩, a13⟩, a14, a15⟩ := h
        exact ⟨⟨⟨a1, a11, a12⟩, by omega⟩, rfl, rfl, a2, a3, a4, a5, a6, a8, a9, a10, (hZ_iff _).1 a7, rfl, a14, (hZ_iff _).1 a15, hg, rfl⟩
  simp only [if_neg k1]
  by_cases k3 : x.kind = 3
  · simp only [if_pos k3, if_neg (show ¬ (x.kind = 2 ∨ x.kind = 4) by omega)]
    constructor
    · rintro ⟨h, s⟩
      simp only [Bool.and_eq_true, isCall, noBegin, beq_iff_eq, Bool.not_eq_true', Bool.or_eq_false_iff, Bool.not_eq_false', List.isEmpty_iff] at h ⊢
      exact ⟨⟨⟨⟨⟨h.2.1.1.1, ⟨h.2.1.1.2, h.2.1.2⟩, h.2.2⟩, s.nd⟩, h.1.1⟩, h.1.2⟩, ⟨⟨⟨s.steps, s.data⟩, (hZ_iff _).2 s.salt⟩, s.gone⟩, (hZ_iff _).2 s.com⟩
    · intro h
      simp only [Bool.and_eq_true, isCall, noBegin, beq_iff_eq, Bool.not_eq_true', Bool.or_eq_false_iff, Bool.not_eq_false', List.isEmpty_iff] at h ⊢
      obtain ⟨⟨⟨⟨⟨a1, ⟨a2, a3⟩, a4⟩, a7⟩, a8⟩, a9⟩, ⟨⟨⟨a10, a11⟩, a12⟩, a13⟩, a14⟩ := h
      exact ⟨⟨⟨a8, a9⟩, ⟨⟨a1, a2⟩, a3⟩, a4⟩, rfl, rfl, rfl, rfl, rfl, rfl, rfl, a7, rfl, rfl, rfl, a10, a11, (hZ_iff _).1 a12, a13, (hZ_iff _).1 a14⟩
  simp only [if_neg k3]
  by_cases k2 : x.kind = 2 ∨ x.kind = 4
  · simp only [if_pos k2]
    constructor
    · rintro ⟨h, s⟩
      simp only [Bool.and_eq_true, isCall, noReceipt, noBegin, beq_iff_eq, Bool.not_eq_true', List.isEmpty_iff] at h ⊢
      exact ⟨⟨⟨⟨⟨⟨h.1.1.1, ⟨h.1.1.2, h.1.2⟩, h.2⟩, s.good, (hZ_iff _).2 s.tag⟩, s.nd⟩, s.part⟩, s.epoch⟩, ⟨⟨⟨s.steps, s.data⟩, (hZ_iff _).2 s.salt⟩, s.gone⟩, (hZ_iff _).2 s.com⟩
    · intro h
      simp only [Bool.and_eq_true, isCall, noReceipt, noBegin, beq_iff_eq, Bool.not_eq_true', List.isEmpty_iff] at h ⊢
      obtain ⟨⟨⟨⟨⟨⟨a1, ⟨a2, a3⟩, a4⟩, a5, a6⟩, a7⟩, a8⟩, a9⟩, ⟨⟨⟨a10, a11⟩, a12⟩, a13⟩, a14⟩ := h
      exact ⟨⟨⟨⟨a1, a2⟩, a3⟩, a4⟩, rfl, rfl, rfl, rfl, rfl, rfl, a5, a7, a8, a9, (hZ_iff _).1 a6, a10, a11, (hZ_iff _).1 a12, a13, (hZ_iff _).1 a14⟩
  simp only [if_neg k2]
  by_cases k5 : x.kind = 5
  · simp only [if_pos k5]
    constructor
    · rintro ⟨h, s⟩
      simp only [Bool.and_eq_true, noCall, noReceipt, noBegin, beq_iff_eq, Bool.not_eq_true', List.isEmpty_iff] at h ⊢
      exact ⟨⟨⟨⟨⟨⟨⟨h.1.1, h.1.2⟩, ⟨s.step, s.tr⟩, s.back⟩, s.good, (hZ_iff _).2 s.tag⟩, h.2⟩, s.part⟩, s.epoch⟩, ⟨⟨⟨s.steps, s.data⟩, (hZ_iff _).2 s.salt⟩, s.gone⟩, (hZ_iff _).2 s.com⟩
    · intro h
      simp only [Bool.and_eq_true, noCall, noReceipt, noBegin, beq_iff_eq, Bool.not_eq_true', List.isEmpty_iff] at h ⊢
      obtain ⟨⟨⟨⟨⟨⟨⟨a1, a2⟩, ⟨a3, a4⟩, a5⟩, a6, a7⟩, a8⟩, a9⟩, aA⟩, ⟨⟨⟨a10, a11⟩, a12⟩, a13⟩, a14⟩ := h
      exact ⟨⟨⟨a1, a2⟩, a8⟩, rfl, rfl, rfl, a3, a4, a5, a6, rfl, a9, aA, (hZ_iff _).1 a7, a10, a11, (hZ_iff _).1 a12, a13, (hZ_iff _).1 a14⟩
  simp only [if_neg k5]
  by_cases k6 : x.kind = 6
  · simp only [if_pos k6]
    constructor
    · rintro ⟨h, s⟩
      simp only [Bool.and_eq_true, noCall, noReceipt, noBegin, beq_iff_eq, Bool.not_eq_true', List.isEmpty_iff] at h ⊢
      exact ⟨⟨⟨⟨⟨⟨⟨s.saga, s.seq⟩, ⟨s.step, s.tr⟩, s.back⟩, s.good, (hZ_iff _).2 s.tag⟩, s.nd⟩, h.1⟩, h.2⟩, ⟨⟨⟨s.steps, s.data⟩, (hZ_iff _).2 s.salt⟩, s.gone⟩, (hZ_iff _).2 s.com⟩
    · intro h
      simp only [Bool.and_eq_true, noCall, noReceipt, noBegin, beq_iff_eq, Bool.not_eq_true', List.isEmpty_iff] at h ⊢
      obtain ⟨⟨⟨⟨⟨⟨⟨a1, a2⟩, ⟨a3, a4⟩, a5⟩, a6, a7⟩, a8⟩, a9⟩, aA⟩, ⟨⟨⟨a10, a11⟩, a12⟩, a13⟩, a14⟩ := h
      exact ⟨⟨a9, aA⟩, rfl, a1, a2, a3, a4, a5, a6, a8, rfl, rfl, (hZ_iff _).1 a7, a10, a11, (hZ_iff _).1 a12, a13, (hZ_iff _).1 a14⟩
  simp only [if_neg k6]
  simp
/-- What a value that is a record says. -/
def svRec (x : Rc) : SV NewT := ⟨fun v w => RecV w v x, fun _ _ _ h hT => hT.recV h⟩
theorem recF_tag (x : Rc) (sv dv : Value) (j : Nat) (h : j < 32) : recF x sv dv (10 + j) = bF x.tag j := by
  unfold recF; rw [if_neg (by omega), if_pos (by omega), Nat.add_sub_cancel_left]
theorem recF_salt (x : Rc) (sv dv : Value) (j : Nat) (h : j < 32) : recF x sv dv (44 + j) = bF x.salt j := by
  unfold recF; rw [if_neg (by omega), if_neg (by omega), if_neg (by omega), if_neg (by omega), if_pos (by omega), Nat.add_sub_cancel_left]
theorem recF_com (x : Rc) (sv dv : Value) (j : Nat) (h : j < 32) : recF x sv dv (77 + j) = bF x.com j := by
  unfold recF; rw [if_neg (by omega), if_neg (by omega), if_neg (by omega), if_neg (by omega), if_neg (by omega), if_neg (by omega), Nat.add_sub_cancel_left]
end Go.Proofs.YtchpmdcacpjojaaDoor
/- Participants, on lists (layer 13): calls, entries, what is answered, what is remembered, the receipts that answers say. No program is named here. -/
namespace Go.Proofs.YtchpmdcacpjojaaDoor
open Go
set_option maxRecDepth 8000
set_option linter.all false
/-- A call, or an answer. -/
structure Cl where
  saga : Int
  step : Int
  tr : Int
  back : Bool
  part : Int
  kind : Int
  ans : Bool
  good : Bool
  ep : Int
  tag : Hs
def zC : Cl := ⟨0, 0, 0, false, 0, 0, false, false, 0, z32⟩
/-- What a participant remembers of a call. -/
structure En where
  saga : Int
  step : Int
  back : Bool
  good : Bool
def isE (s t : Int) (b : Bool) (x : En) : Bool := (x.saga == s && x.step == t) && x.back == b
/-- What an entry says. -/
def hasE (L : List En) (s t : Int) (b : Bool) : Option Bool := (L.find? (isE s t b)).map (·.good)
/-- Is a call its? -/
def itsB (n : Int) (c : Cl) : Bool := ((((!c.ans && c.part == n) && inR c.saga 0 11) && inR c.step 0 5) && inR c.kind 1 3) && inR c.tr 1 9
/-- Was it compensated ahead? -/
def undE (L : List En) (c : Cl) : Bool := !c.back && (hasE L c.saga c.step true).getD false
def goodN (L : List En) (c : Cl) (r : Bool) : Bool := !r && !undE L c
/-- What is answered. -/
def goodE (L : List En) (c : Cl) (r : Bool) : Bool := (hasE L c.saga c.step c.back).getD (goodN L c r)
def askB (c : Cl) : Bool := c.back || c.kind == 3
def putB (L : List En) (c : Cl) (r : Bool) : Bool := (goodN L c r || undE L c) || !askB c
def newE (L : List En) (c : Cl) (r : Bool) : En := ⟨c.saga, c.step, c.back, goodN L c r⟩
/-- What is remembered behind a call that is its. -/
def keepL (L : List En) (c : Cl) (r : Bool) : List En := if (hasE L c.saga c.step c.back).isSome = true then L else if putB L c r = true then L ++ [newE L c r] else L
def takeL (n : Int) (L : List En) (c : Cl) (r : Bool) : List En := if itsB n c = true then keepL L c r else L
/-- The receipt that an answer says. -/
def recC (c : Cl) (seq : Int) : Rc := if c.ans = true then { zR with kind := 3, saga := c.saga, seq := seq, step := c.step, tr := c.tr, back := c.back, good := c.good, part := c.part, epoch := c.ep, tag := c.tag } else zR
section
variable (kf : Hs → List Int → Hs) (ps ws : List Hs) (need : Int)
def sayC (e : Int) (c : Cl) (g : Bool) : Cl := { c with ans := true, good := g, ep := e }
def ansC (e : Int) (c : Cl) (g : Bool) : Cl := { sayC e c g with tag := recpH kf ps ws need (recC (sayC e c g) 0) }
/-- What Take answers. -/
def takeC (n e : Int) (L : List En) (c : Cl) (r : Bool) : Cl := if itsB n c = true then ansC kf ps ws need e c (goodE L c r) else zC
theorem recp_seq (c : Cl) (h : c.ans = true) (s t : Int) (d : Hs) : recpH kf ps ws need (recC { c with tag := d } s) = recpH kf ps ws need (recC c t) := by
  unfold recC
  rw [if_pos h, if_pos h]
  rfl
theorem ans_tag (e : Int) (c : Cl) (g : Bool) (s : Int) : (ansC kf ps ws need e c g).tag = recpH kf ps ws need (recC (ansC kf ps ws need e c g) s) := (recp_seq kf ps ws need (sayC e c g) rfl s 0 _).symm
end
theorem its_iff (n : Int) (c : Cl) : itsB n c = true ↔ c.ans = false ∧ c.part = n ∧ (0 ≤ c.saga ∧ c.saga ≤ 11) ∧ (0 ≤ c.step ∧ c.step ≤ 5) ∧ (1 ≤ c.kind ∧ c.kind ≤ 3) ∧ 1 ≤ c.tr ∧ c.tr ≤ 9 := by
  simp only [itsB, Bool.and_eq_true, inR_iff, Bool.not_eq_true', beq_iff_eq]
  constructor
  · rintro ⟨⟨⟨⟨⟨a, b⟩, c⟩, d⟩, e⟩, f⟩; exact ⟨a, b, c, d, e, f⟩
  · rintro ⟨a, b, c, d, e, f⟩; exact ⟨⟨⟨⟨⟨a, b⟩, c⟩, d⟩, e⟩, f⟩
theorem keep_len (L : List En) (c : Cl) (r : Bool) : (keepL L c r).length ≤ L.length + 1 := by
  unfold keepL
  split
  · omega
  · split
    · simp
    · omega
theorem take_len (n : Int) (L : List En) (c : Cl) (r : Bool) : (takeL n L c r).length ≤ L.length + 1 := by
  unfold takeL
  split
  · exact keep_len L c r
  · omega
theorem keep_has (L : List En) (c : Cl) (r : Bool) (h : (hasE L c.saga c.step c.back).isSome = true) : keepL L c r = L := by unfold keepL; rw [if_pos h]
end Go.Proofs.YtchpmdcacpjojaaDoor
/- Package rec's base: a record that lies in memory, its fields, and what the guards of a region make conditional. -/
namespace Go.Proofs.YtchpmdcacpjojaaDoor
open Go Go.RowKit
set_option maxRecDepth 8000
set_option linter.all false

/-- A record in memory: block g holds x. -/
def recOff (k : Nat) : Nat := if k < 12 then (if k = 11 then 42 else k) else if k = 12 then 43 else if k = 13 then 44 else if k = 14 then 76 else 77
theorem info_rec : (Tryd.prog.info? 51).map (·.size) = some 109 := by kernel_rfl
section
variable {a : Act} {w : World} {o : Oper} {K : Act → World → Prop} {Q : Exit → Act → World → Prop} {x : Operand} {g : Nat}
theorem info_steps1 : (Tryd.prog.info? 48).map (·.size) = some (0 + 1) := by kernel_rfl
/-- The place of a record's field. -/
theorem opr_fldR {k : Nat} (hk : k < 16) (ho : o.op = .fieldAddr 51 x k) (hx : a.eval x = .pointer (some ⟨g, 0, none⟩)) (h : K (a.put o.dst (.pointer (some ⟨g, recOff k, none⟩))) w) : o.wp Tryd.prog a w K Q := by
  have hk' : k = 0 ∨ k = 1 ∨ k = 2 ∨ k = 3 ∨ k = 4 ∨ k = 5 ∨ k = 6 ∨ k = 7 ∨ k = 8 ∨ k = 9 ∨ k = 10 ∨ k = 11 ∨ k = 12 ∨ k = 13 ∨ k = 14 ∨ k = 15 := by omega
  rcases hk' with rfl | rfl | rfl | rfl | rfl | rfl | rfl | rfl | rfl | rfl | rfl | rfl | rfl | rfl | rfl | rfl
  all_goals
    first
      | exact opr_fld Tryd.underlying51 rfl info_int ho hx (by rfl) h
      | exact opr_fld Tryd.underlying51 rfl info_bool ho hx (by rfl) h
      | exact opr_fld Tryd.underlying51 rfl info_hash1 ho hx (by rfl) h
      | exact opr_fld Tryd.underlying51 rfl info_steps1 ho hx (by rfl) h
      | exact opr_fld Tryd.underlying51 rfl info_sb1 ho hx (by rfl) h
theorem opr_fldS {k o0 : Nat} (hk : k < 2) (ho : o.op = .fieldAddr 88 x k) (hx : a.eval x = .pointer (some ⟨g, o0, none⟩)) (h : K (a.put o.dst (.pointer (some ⟨g, o0 + k, none⟩))) w) : o.wp Tryd.prog a w K Q := by
  have hk' : k = 0 ∨ k = 1 := by omega
  rcases hk' with rfl | rfl
  all_goals exact opr_fld Tryd.underlying88 rfl info_int ho hx (by rfl) h
variable {F : Nat → Value} {t' : TypeId} {n : Nat} {o0 : Nat} {v : Value}
theorem opr_ldS (hr : w.rowIs g t' n F) (hn : o0 < n) (hv : F o0 = v) (ho : o.op = .load 48 x) (hx : a.eval x = .pointer (some ⟨g, o0, none⟩)) (h : K (a.put o.dst v) w) : o.wp Tryd.prog a w K Q :=
  opr_ld1 Tryd.underlying48 rfl ho hx (by rw [hr.cell hn, hv]) h
theorem opr_ldR (hr : w.rowIs g t' 109 F) (ho : o.op = .load 51 x) (hx : a.eval x = .pointer (some ⟨g, 0, none⟩)) (h : K (a.put o.dst (.agg (rowA 109 F))) w) : o.wp Tryd.prog a w K Q :=
  opr_ldm Tryd.underlying51 rfl info_rec ho hx hr (by omega) (by rw [rowA_congr (g := F) fun i _ => by rw [Nat.zero_add]]; exact h)
end
section
variable {a : Act} {w : World} {o : Oper} {K : Act → World → Prop} {Q : Exit → Act → World → Prop} {x y : Operand} {g : Nat}
end
end Go.Proofs.YtchpmdcacpjojaaDoor
/- slices.Clone of bytes; no bytes; bytes in a row that is new. -/
namespace Go.Proofs.YtchpmdcacpjojaaDoor
open Go Go.RowKit
set_option maxRecDepth 8000
set_option linter.all false
theorem rdV_nil (W : World) (L : List Nat) : RdV W L (.slice none 0 0) [] := ⟨none, 0, rfl, Nat.le_refl _, by unfold maxLen; omega, fun h => absurd h (by simp)⟩
end Go.Proofs.YtchpmdcacpjojaaDoor
/- A number's bytes are put: wire.Num. -/
namespace Go.Proofs.YtchpmdcacpjojaaDoor
open Go Go.RowKit
set_option maxRecDepth 8000
set_option linter.all false

end Go.Proofs.YtchpmdcacpjojaaDoor
/- A reader: a block of two cells, what is left and the error; what its small calls answer. -/
namespace Go.Proofs.YtchpmdcacpjojaaDoor
open Go Go.RowKit
set_option maxRecDepth 8000
set_option linter.all false

/-- It reads as l, in a block ahead of R. -/
def Rest (w : World) (R : Nat) (v : Value) (l : List UInt8) : Prop := ∀ L, (∀ k ∈ L, R ≤ k) → RdV w L v l
theorem Rest.rd {w : World} {R : Nat} {v : Value} {l : List UInt8} (h : Rest w R v l) : RdV w [R] v l := h [R] (by simp)
theorem Rest.new {w w' : World} {R : Nat} {v : Value} {l : List UInt8} (h : Rest w R v l) (hN : NewT w w') : Rest w' R v l := fun L hL => hN.rd (h L hL)
theorem Rest.keep {w w' : World} {R : Nat} {v : Value} {l : List UInt8} (h : Rest w R v l) {G : List Nat} (hG : ∀ k ∈ G, R ≤ k) (hK : KeepBut G w w') : Rest w' R v l := fun L hL => by
  have h1 := h (G ++ L) (fun k hk => by rcases List.mem_append.1 hk with hk | hk; exact hG k hk; exact hL k hk)
  obtain ⟨A, cap, hv, h1, h2, h3⟩ := h1.keep (hK.more fun k hk => List.mem_append.2 (.inl hk))
  refine ⟨A, cap, hv, h1, h2, fun h0 => ?_⟩
  obtain ⟨b, o, hA, hb, hc⟩ := h3 h0
  exact ⟨b, o, hA, fun hm => hb (List.mem_append.2 (.inr hm)), hc⟩
theorem NewT.of_eq {w w' : World} (h : w = w') : NewT w w' := h ▸ NewT.refl w
end Go.Proofs.YtchpmdcacpjojaaDoor
/- What puts: Flag, All, Bytes, Hash; Clone; a new reader. -/
namespace Go.Proofs.YtchpmdcacpjojaaDoor
open Go Go.RowKit
set_option maxRecDepth 8000
set_option linter.all false

end Go.Proofs.YtchpmdcacpjojaaDoor
/- Clone; Bytes, Hash; a new reader. -/
namespace Go.Proofs.YtchpmdcacpjojaaDoor
open Go Go.RowKit
set_option maxRecDepth 8000
set_option linter.all false

end Go.Proofs.YtchpmdcacpjojaaDoor
/- Bytes are read as a number: wire.number. -/
namespace Go.Proofs.YtchpmdcacpjojaaDoor
open Go Go.RowKit
set_option maxRecDepth 8000
set_option linter.all false

end Go.Proofs.YtchpmdcacpjojaaDoor
/- A reader reads a number: take[int], Num. -/
namespace Go.Proofs.YtchpmdcacpjojaaDoor
open Go Go.RowKit
set_option maxRecDepth 8000
set_option linter.all false

end Go.Proofs.YtchpmdcacpjojaaDoor
/- A reader reads a flag: take[bool], Flag. -/
namespace Go.Proofs.YtchpmdcacpjojaaDoor
open Go Go.RowKit
set_option maxRecDepth 8000
set_option linter.all false

end Go.Proofs.YtchpmdcacpjojaaDoor
/- A reader reads bytes: take[[]byte], Bytes. -/
namespace Go.Proofs.YtchpmdcacpjojaaDoor
open Go Go.RowKit
set_option maxRecDepth 8000
set_option linter.all false

end Go.Proofs.YtchpmdcacpjojaaDoor
/- A reader reads a hash: take[api.Hash], Hash. -/
namespace Go.Proofs.YtchpmdcacpjojaaDoor
open Go Go.RowKit
set_option maxRecDepth 8000
set_option linter.all false

end Go.Proofs.YtchpmdcacpjojaaDoor
/- Layer 3, words that later layers share: bytes as strings; slices of slices; what is read of what was put; a reader in a region. -/
namespace Go.Proofs.YtchpmdcacpjojaaDoor
open Go Go.RowKit
set_option maxRecDepth 8000
set_option linter.all false
/-- A slice of bytes becomes a string. -/
theorem conv_rd {w : World} {L : List Nat} {v : Value} {l : List UInt8} (h : RdV w L v l) : (convert 49 9 v).run Tryd.prog w = .ok (.string ⟨l.toArray⟩) w := by
  obtain ⟨A, cap, rfl, h1, h2, h3⟩ := h
  by_cases h0 : 0 < l.length
  · obtain ⟨b, o, rfl, _, hc⟩ := h3 h0
    have := run_convert_bytes_arg (P := Tryd.prog) w 49 5 Tryd.underlying49 Tryd.underlying5 b o l.length cap (l.map bN) (by simp) (fun i hi => by
      rw [hc i hi]
      simp [bAt, hi]) 9 Tryd.underlying9
    rw [this]
    have e : strOfNums (l.map bN) = ⟨l.toArray⟩ := by
      unfold strOfNums
      congr 2
      rw [List.map_map]
      conv => rhs; rw [← List.map_id l]
      exact List.map_congr_left fun b _ => by simp [bN]
    rw [e]
  · have : l = [] := List.eq_nil_of_length_eq_zero (by omega)
    subst this
    simp only [List.length_nil]
    simp [convert, run_underlying Tryd.underlying49, run_underlying Tryd.underlying9, run_underlying Tryd.underlying5, Conv.bytesToString]
    cases A <;> simp [go_sem] <;> rfl
end Go.Proofs.YtchpmdcacpjojaaDoor
/- Steps by value, new records and steps in memory, what a call hands back in a cell. -/
namespace Go.Proofs.YtchpmdcacpjojaaDoor
open Go Go.RowKit
set_option maxRecDepth 8000
set_option linter.all false

/-- The cells of a step. -/
def stepF (s : Int × Int) (i : Nat) : Value := if i = 0 then .int .i64 s.1 else .int .i64 s.2
theorem info_step : (Tryd.prog.info? 88).map (·.size) = some 2 := by kernel_rfl
theorem run_alloc_rec (w : World) : (Instr.alloc 51 true (.tuple #[])).run Tryd.prog w = .ok (.pointer (some ⟨w.heap.size, 0, none⟩)) (w.alloc (.cells (rowA 109 (recF zR (.slice none 0 0) (.slice none 0 0))) 51)) := by kernel_rfl
theorem run_alloc_step (w : World) : (Instr.alloc 88 true (.tuple #[])).run Tryd.prog w = .ok (.pointer (some ⟨w.heap.size, 0, none⟩)) (w.alloc (.cells (rowA 2 (stepF (0, 0))) 88)) := by kernel_rfl
theorem recF_one (x : Rc) (sv dv : Value) (hs : sv.oneCell' = true) (hd : dv.oneCell' = true) (i : Nat) : (recF x sv dv i).oneCell' = true := by
  unfold recF bF
  repeat' split
  all_goals first | rfl | assumption
theorem stepF_one (s : Int × Int) (i : Nat) : (stepF s i).oneCell' = true := by unfold stepF; split <;> rfl
theorem oneP {w : World} {v : Value} {l : List (Int × Int)} (h : RdP w v l) : v.oneCell' = true := by obtain ⟨A, c, rfl, _⟩ := h; rfl
theorem oneR {w : World} {L : List Nat} {v : Value} {l : List UInt8} (h : RdV w L v l) : v.oneCell' = true := by obtain ⟨A, c, rfl, _⟩ := h; rfl
section
variable {a : Act} {w : World} {o : Oper} {K : Act → World → Prop} {Q : Exit → Act → World → Prop} {x y : Operand} {g : Nat}
theorem opr_idxS {b o0 n c k : Nat} (hk : k < n) (ho : o.op = .indexAddr 48 x y) (hx : a.eval x = .slice (some ⟨b, o0, none⟩) n c) (hy : a.eval y = .int .i64 (k : Int)) (h : K (a.put o.dst (.pointer (some ⟨b, o0 + 2 * k, none⟩))) w) : o.wp Tryd.prog a w K Q := by
  obtain ⟨dst, op, type, pos, after, guard⟩ := o
  simp only at ho
  subst ho
  refine opr_val (s := Instr.indexAt 48 (a.eval x) (a.eval y)) rfl ?_ h
  rw [hx, hy]
  have hsz : (sizeOf 88).run Tryd.prog w = .ok 2 w := by
    have hs := info_step
    cases hq : Tryd.prog.info? 88 with
    | none => simp [hq] at hs
    | some i => simp [hq] at hs; simp [sizeOf, typeInfo, hq, hs]
  simp [Instr.indexAt, asIntOf, run_underlying Tryd.underlying48, hk, Addr.add_mid, Nat.mul_comm]
theorem opr_ld2 {o0 : Nat} {s : Int × Int} (h0 : w.cell? ⟨g, o0, none⟩ = some (.int .i64 s.1)) (h1 : w.cell? ⟨g, o0 + 1, none⟩ = some (.int .i64 s.2)) (ho : o.op = .load 88 x) (hx : a.eval x = .pointer (some ⟨g, o0, none⟩)) (h : K (a.put o.dst (.agg (rowA 2 (stepF s)))) w) : o.wp Tryd.prog a w K Q := by
  refine wp_load_mid 88 x ho g o0 hx [.int .i64 s.1, .int .i64 s.2] _ (fun j v hv => ?_) Tryd.underlying88 rfl info_step h
  match j, hv with
  | 0, hv => simp at hv; subst hv; exact h0
  | 1, hv => simp at hv; subst hv; exact h1
theorem opr_ldSt {t' : TypeId} {s : Int × Int} (hr : w.rowIs g t' 2 (stepF s)) (ho : o.op = .load 88 x) (hx : a.eval x = .pointer (some ⟨g, 0, none⟩)) (h : K (a.put o.dst (.agg (rowA 2 (stepF s)))) w) : o.wp Tryd.prog a w K Q :=
  opr_ldm Tryd.underlying88 rfl info_step ho hx hr (by omega) (by rw [rowA_congr (g := stepF s) fun i _ => by rw [Nat.zero_add]]; exact h)
theorem eqType_step : Tryd.prog.eqGuardType Tryd.prog.depth 88 = false := by kernel_rfl
theorem equalIn_step (w : World) (s t : Int × Int) : (Op.equalIn 10000 88 (.agg (rowA 2 (stepF s))) (.agg (rowA 2 (stepF t)))).run Tryd.prog w = .ok (decide (s = t)) w := by
  rw [show rowA 2 (stepF s) = #[.int .i64 s.1, .int .i64 s.2] from rfl, show rowA 2 (stepF t) = #[.int .i64 t.1, .int .i64 t.2] from rfl]
  obtain ⟨s1, s2⟩ := s
  obtain ⟨t1, t2⟩ := t
  rw [run_equalIn_agg w 9999 88 _ _ (by kernel_rfl) (by kernel_rfl)]
  by_cases h1 : s1 = t1
  · by_cases h2 : s2 = t2
    · subst h1 h2; simp [go_sem]
    · subst h1; simp [go_sem, h2]
  · simp [go_sem, h1]
theorem opr_neqS {t2 : TypeId} {s t : Int × Int} {b : Bool} (hb : (!decide (s = t)) = b) (ho : o.op = .binOp .neq 88 x y t2) (hx : a.eval x = .agg (rowA 2 (stepF s))) (hy : a.eval y = .agg (rowA 2 (stepF t))) (h : K (a.put o.dst (.bool b)) w) : o.wp Tryd.prog a w K Q := by
  obtain ⟨dst, op', type, pos, after, guard⟩ := o
  simp only at ho
  subst ho hb
  refine opr_val (s := do eqGuard .neq 88 x y (a.eval x) (a.eval y); binOp .neq 88 (a.eval x) (a.eval y)) rfl ?_ h
  rw [hx, hy, Sem.run_bind, run_eqGuard_agg _ _ _ _ _ _ _ eqType_step]
  simp only [Result.andThen_ok]
  rw [run_neq_struct, equalIn_step]; rfl
end
section
variable {a : Act} {w : World} {o : Oper} {K : Act → World → Prop} {Q : Exit → Act → World → Prop} {x : Operand} {F : Nat → Value} {off : Nat} {v : Value}
end
section
variable (x : Rc) (sv dv : Value) (i : Nat)
theorem rs_kind (n : Int) : recF { x with kind := n } sv dv i = if i = 0 then .int .i64 n else recF x sv dv i := by
  unfold recF; by_cases h : i = 0
  · subst h; rfl
  · simp only [h, if_false]
theorem rs_saga (n : Int) : recF { x with saga := n } sv dv i = if i = 1 then .int .i64 n else recF x sv dv i := by
  unfold recF; by_cases h : i = 1
  · subst h; rfl
  · simp only [h, if_false]
theorem rs_seq (n : Int) : recF { x with seq := n } sv dv i = if i = 2 then .int .i64 n else recF x sv dv i := by
  unfold recF; by_cases h : i = 2
  · subst h; rfl
  · simp only [h, if_false]
theorem rs_step (n : Int) : recF { x with step := n } sv dv i = if i = 3 then .int .i64 n else recF x sv dv i := by
  unfold recF; by_cases h : i = 3
  · subst h; rfl
  · simp only [h, if_false]
theorem rs_tr (n : Int) : recF { x with tr := n } sv dv i = if i = 4 then .int .i64 n else recF x sv dv i := by
  unfold recF; by_cases h : i = 4
  · subst h; rfl
  · simp only [h, if_false]
theorem rs_nd (n : Int) : recF { x with nd := n } sv dv i = if i = 7 then .int .i64 n else recF x sv dv i := by
  unfold recF; by_cases h : i = 7
  · subst h; rfl
  · simp only [h, if_false]
theorem rs_part (n : Int) : recF { x with part := n } sv dv i = if i = 8 then .int .i64 n else recF x sv dv i := by
  unfold recF; by_cases h : i = 8
  · subst h; rfl
  · simp only [h, if_false]
theorem rs_epoch (n : Int) : recF { x with epoch := n } sv dv i = if i = 9 then .int .i64 n else recF x sv dv i := by
  by_cases h : i = 9
  · subst h; rfl
  · rw [if_neg h]
    by_cases h10 : i < 10
    · have : i = 0 ∨ i = 1 ∨ i = 2 ∨ i = 3 ∨ i = 4 ∨ i = 5 ∨ i = 6 ∨ i = 7 ∨ i = 8 := by omega
      rcases this with rfl | rfl | rfl | rfl | rfl | rfl | rfl | rfl | rfl <;> rfl
    · unfold recF; simp only [h10, if_false]
theorem rs_back (n : Bool) : recF { x with back := n } sv dv i = if i = 5 then .bool n else recF x sv dv i := by
  unfold recF; by_cases h : i = 5
  · subst h; rfl
  · simp only [h, if_false]
theorem rs_good (n : Bool) : recF { x with good := n } sv dv i = if i = 6 then .bool n else recF x sv dv i := by
  unfold recF; by_cases h : i = 6
  · subst h; rfl
  · simp only [h, if_false]
theorem rs_gone (n : Bool) : recF { x with gone := n } sv dv i = if i = 76 then .bool n else recF x sv dv i := by
  unfold recF; by_cases h : i = 76
  · subst h; rfl
  · simp only [h, if_false]
theorem rs_steps (v : Value) : recF x v dv i = if i = 42 then v else recF x sv dv i := by
  unfold recF; by_cases h : i = 42
  · subst h; rfl
  · simp only [h, if_false]
theorem rs_data (v : Value) : recF x sv v i = if i = 43 then v else recF x sv dv i := by
  unfold recF; by_cases h : i = 43
  · subst h; rfl
  · simp only [h, if_false]
theorem rs_tag (d : Nat → UInt8) (hi : i < 109) : recF { x with tag := d } sv dv i = if 10 ≤ i ∧ i < 10 + 32 then bF d (i - 10) else recF x sv dv i := by
  by_cases h : 10 ≤ i ∧ i < 10 + 32
  · rw [if_pos h]; obtain ⟨j, rfl⟩ := Nat.exists_eq_add_of_le h.1; rw [recF_tag _ _ _ _ (by omega), Nat.add_sub_cancel_left]
  · rw [if_neg h]; unfold recF; by_cases h1 : i < 10
    · simp only [h1, if_true]
    · have h2 : ¬ i < 42 := by omega
      simp only [h1, h2, if_false]
theorem rs_salt (d : Nat → UInt8) (hi : i < 109) : recF { x with salt := d } sv dv i = if 44 ≤ i ∧ i < 44 + 32 then bF d (i - 44) else recF x sv dv i := by
  by_cases h : 44 ≤ i ∧ i < 44 + 32
  · rw [if_pos h]; obtain ⟨j, rfl⟩ := Nat.exists_eq_add_of_le h.1; rw [recF_salt _ _ _ _ (by omega), Nat.add_sub_cancel_left]
  · rw [if_neg h]; unfold recF; by_cases h1 : i < 10
    · simp only [h1, if_true]
    · by_cases h2 : i < 42
      · simp only [h1, h2, if_true, if_false]
      · by_cases h3 : i = 42
        · subst h3; rfl
        · by_cases h4 : i = 43
          · subst h4; rfl
          · have h5 : ¬ i < 76 := by omega
            simp only [h1, h2, h3, h4, h5, if_false]
theorem rs_com (d : Nat → UInt8) (hi : i < 109) : recF { x with com := d } sv dv i = if 77 ≤ i ∧ i < 77 + 32 then bF d (i - 77) else recF x sv dv i := by
  by_cases h : 77 ≤ i ∧ i < 77 + 32
  · rw [if_pos h]; obtain ⟨j, rfl⟩ := Nat.exists_eq_add_of_le h.1; rw [recF_com _ _ _ _ (by omega), Nat.add_sub_cancel_left]
  · rw [if_neg h]; unfold recF; by_cases h1 : i < 10
    · simp only [h1, if_true]
    · by_cases h2 : i < 42
      · simp only [h1, h2, if_true, if_false]
      · by_cases h3 : i = 42
        · subst h3; rfl
        · by_cases h4 : i = 43
          · subst h4; rfl
          · by_cases h5 : i < 76
            · simp only [h1, h2, h3, h4, h5, if_true, if_false]
            · have h6 : i = 76 := by omega
              subst h6; rfl
end
theorem rdP_nil (w : World) : RdP w (.slice none 0 0) [] := ⟨none, 0, rfl, Nat.le_refl _, by unfold maxLen; omega, fun h => absurd h (by simp)⟩
theorem info_i1 : (Tryd.prog.info? 3).map (·.size) = some 1 := by kernel_rfl
theorem info_b1 : (Tryd.prog.info? 4).map (·.size) = some 1 := by kernel_rfl
theorem info_s1 : (Tryd.prog.info? 48).map (·.size) = some 1 := by kernel_rfl
theorem info_d1 : (Tryd.prog.info? 49).map (·.size) = some 1 := by kernel_rfl
theorem build_kind (k : Int) (w : World) : (Instr.build 51 #[(0, .int .i64 k)]).run Tryd.prog w = .ok (.agg (rowA 109 (recF { zR with kind := k } (.slice none 0 0) (.slice none 0 0)))) w := by kernel_rfl
theorem opr_build {a : Act} {w : World} {o : Oper} {K : Act → World → Prop} {Q : Exit → Act → World → Prop} {t : TypeId} {parts : Array (Nat × Operand)} {pv : Array (Nat × Value)} {v : Value} (ho : o.op = .build t parts) (hp : parts.map (fun (i, x) => (i, a.eval x)) = pv) (hr : (Instr.build t pv).run Tryd.prog w = .ok v w) (h : K (a.put o.dst v) w) : o.wp Tryd.prog a w K Q := by
  obtain ⟨dst, op, type, pos, after, guard⟩ := o
  simp only at ho
  subst ho hp
  exact opr_val (s := Instr.build t (parts.map fun (i, x) => (i, a.eval x))) rfl hr h
end Go.Proofs.YtchpmdcacpjojaaDoor
/- Steps that write a block that is new. -/
namespace Go.Proofs.YtchpmdcacpjojaaDoor
open Go Go.RowKit
set_option maxRecDepth 8000
set_option linter.all false
theorem put_all (F G : Nat → Value) : ∀ i, i < 109 → F i = if 0 ≤ i ∧ i < 0 + 109 then F (i - 0) else G i := fun i hi => by
  rw [if_pos (by omega), Nat.sub_zero]
end Go.Proofs.YtchpmdcacpjojaaDoor
/- Slices of steps that a call makes: rows of pairs, appended to, cloned. -/
namespace Go.Proofs.YtchpmdcacpjojaaDoor
open Go Go.RowKit
set_option maxRecDepth 8000
set_option linter.all false
end Go.Proofs.YtchpmdcacpjojaaDoor
