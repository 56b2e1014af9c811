/- A region that draws its order, gone through ONCE, in the text's order: each operation has a condition on its value that no later step of the region can turn; whatever order is drawn, all conditions hold at the end. No program is named here. -/
import Derived.StillTail
import Derived.WalkKit
import Derived.WalkSpells
import Derived.WalkLawsBesides
import Derived.Lib.Hide
import Derived.Deep.OwnRows
import Derived.Deep.MidRow
import Derived.StillTailTactics
import Derived.RangeFuncNested
import Derived.RangeFuncBound
import Derived.RangeFuncCalls
import Derived.RangeFuncLeaves
import Derived.Shelf.Abstract
import Derived.OwnWalkIn
import Derived.TacticsInMore
import Derived.LoopNIn
import Derived.LoopIn
import Derived.Test.YtchpmdcacpjojaaDoorProg
import Derived.Maps.AppendAt
import Derived.Laws.StructEq
import Derived.Deep.AppendLies
import Derived.BigCall
import Derived.Test.YtchpmdcacpjojaaDoorRows
import Derived.ProofKit
import Derived.OpenShut
import Derived.Carry
import Derived.StillTactics
import Derived.Deep.RegionHeld3
import Derived.Deep.RegionWith
import Derived.Deep.DeepCutAuto
import Derived.OrdersIn
import Derived.KernelRfl
set_option linter.all false
namespace Go.Proofs.YtchpmdcacpjojaaDoor
open Go
set_option maxRecDepth 8000
set_option linter.all false

/-- A condition on a value and a world that stands behind every step of T. -/
structure SV (T : World → World → Prop) where
  pred : Value → World → Prop
  stable : ∀ v w w', pred v w → T w w' → pred v w'
def SV.eq {T : World → World → Prop} (c : Value) : SV T := ⟨fun v _ => v = c, fun _ _ _ h _ => h⟩
def SV.any {T : World → World → Prop} : SV T := ⟨fun _ _ => True, fun _ _ _ h _ => h⟩

/-- Of each operation: the slots that it looks at, with the operation of the region that fills it, if it waits for one; its guard's slot. -/
abbrev Deps := List (List (Tmp × Option Nat) × Option (Tmp × Bool))

def relyFacts {T : World → World → Prop} (V : List (SV T)) (a0 a : Act) (w : World) : List (Tmp × Option Nat) → Prop
  | [] => True
  | (d, some j) :: r => (V.getD j SV.any).pred (a.tmps.getD d undef) w ∧ relyFacts V a0 a w r
  | (d, none) :: r => a.tmps.getD d undef = a0.tmps.getD d undef ∧ relyFacts V a0 a w r
def relyGuard : Option (Tmp × Bool) → Act → Bool
  | none, _ => true
  | some (d, b), a => match a.tmps.getD d undef with | .bool x => x == b | _ => false
/-- One operation, in whatever frame and world meets what it looks at. -/
def relyStep (P : Program) (Q : Exit → Act → World → Prop) (T : World → World → Prop) (V : List (SV T)) (a0 : Act) (w0 : World) (o : Oper) (dp : List (Tmp × Option Nat)) (g : Option (Tmp × Bool)) (c : SV T) : Prop :=
  ∀ (a : Act) (w : World), T w0 w → relyFacts V a0 a w dp → ∀ K : Act → World → Prop, (∀ v w', T w w' → c.pred v w' → K (a.put o.dst v) w') →
    if relyGuard g a then o.wp P a w K Q else K (a.put o.dst undef) w
def relyAll (P : Program) (Q : Exit → Act → World → Prop) (T : World → World → Prop) (V : List (SV T)) (a0 : Act) (w0 : World) : List Oper → Deps → List (SV T) → Prop
  | [], _, _ => True
  | o :: r, (dp, g) :: D, c :: C => relyStep P Q T V a0 w0 o dp g c ∧ relyAll P Q T V a0 w0 r D C
  | _, _, _ => False
/-- Shut, so that no tactic looks into it by itself. -/
structure Shut (p : Prop) : Prop where
  out : p
def relyEnd (Q : Exit → Act → World → Prop) (T : World → World → Prop) : List Oper → List (SV T) → Act → World → Prop
  | [], _, a, w => Shut (Q .normal a w)
  | o :: r, c :: C, a, w => ∀ u, (o.dst ≠ none → c.pred u w) → relyEnd Q T r C (a.put o.dst u) w
  | _, [], _, _ => True

def relyDst (ops : Array Oper) (j : Nat) : Option Tmp := (ops[j]?).bind (·.dst)
def relyOne (ops : Array Oper) (n : Nat) (i : Nat) (o : Oper) (dp : List (Tmp × Option Nat)) (g : Option (Tmp × Bool)) : Bool :=
  (match o.dst with | some d => decide (d < n) && (List.range ops.size).all (fun j => decide (j = i) || relyDst ops j != some d) | none => true) &&
  (o.after.all fun e => !Region.binds .any e || decide (e.on < i)) &&
  (dp.all fun x => match x.2 with
    | some j => relyDst ops j == some x.1 && Region.waitsFor .any ops i j
    | none => (List.range ops.size).all fun j => relyDst ops j != some x.1 || decide (j = i) || Region.waitsFor .any ops j i) &&
  (match o.guard, g with
    | none, none => true
    | some (k, b), some (d, b') => b == b' && relyDst ops k == some d && Region.waitsFor .any ops i k && decide (d < n)
    | _, _ => false)
def relyB (ops : Array Oper) (n : Nat) : Nat → List Oper → Deps → Bool
  | _, [], _ => true
  | i, o :: r, (dp, g) :: D => relyOne ops n i o dp g && relyB ops n (i + 1) r D
  | _, _, _ => false

section
variable {P : Program} {ops : Array Oper} {Q : Exit → Act → World → Prop} {T : World → World → Prop} {V : List (SV T)} {a0 : Act} {w0 : World} {n : Nat} {D : Deps}

/-- Not yet come up. -/
def unl (ops : Array Oper) (listed : Array Bool) : List Nat := (List.range ops.size).filter fun i => !listed.getD i true

theorem unl_set {listed : Array Bool} {i : Nat} (hs : listed.size = ops.size) (hi : listed.getD i true = false) : (unl ops (listed.setIfInBounds i true)).length + 1 = (unl ops listed).length := by
  have hlt : i < listed.size := by
    rcases Nat.lt_or_ge i listed.size with h | h
    · exact h
    · simp [Array.getElem?_eq_none h] at hi
  have hm : i ∈ unl ops listed := by
    unfold unl; rw [List.mem_filter]; exact ⟨List.mem_range.2 (by omega), by rw [hi]; rfl⟩
  have e : unl ops (listed.setIfInBounds i true) = (unl ops listed).erase i := by
    unfold unl
    rw [List.Nodup.erase_eq_filter (List.Nodup.sublist (List.filter_sublist) List.nodup_range)]
    rw [List.filter_filter]
    apply List.filter_congr
    intro j hj
    by_cases hji : i = j
    · subst hji; simp [hlt]
    · rw [getD_set_ne true hji]; simp [Ne.symm hji]
  rw [e, List.length_erase_of_mem hm]
  have := List.length_pos_of_mem hm
  omega

structure RelyInv (ops : Array Oper) (T : World → World → Prop) (V : List (SV T)) (a0 : Act) (w0 : World) (listed : Array Bool) (a : Act) (w : World) : Prop where
  size : listed.size = ops.size
  closed : ∀ j oj, ops[j]? = some oj → listed.getD j false = true → ∀ e ∈ oj.after, Region.binds .any e = true → listed.getD e.on false = true
  now : T w0 w
  slots : a.tmps.size = a0.tmps.size
  defers : a.defers = a0.defers
  new : ∀ j d, relyDst ops j = some d → listed.getD j false = true → (V.getD j SV.any).pred (a.tmps.getD d undef) w
  old : ∀ d, (∀ j, relyDst ops j = some d → listed.getD j false = false) → a.tmps.getD d undef = a0.tmps.getD d undef

theorem relyB_at : ∀ (l : List Oper) (D : Deps) (i k : Nat) (o : Oper), relyB ops n i l D = true → l[k]? = some o → ∃ dp g, D[k]? = some (dp, g) ∧ relyOne ops n (i + k) o dp g = true
  | [], _, _, _, _, _, h => by simp at h
  | x :: r, [], _, _, _, h, _ => by simp [relyB] at h
  | x :: r, (dp, g) :: D, i, 0, o, h, ho => by
    simp only [relyB, Bool.and_eq_true] at h
    simp at ho
    subst ho
    exact ⟨dp, g, rfl, h.1⟩
  | x :: r, (dp, g) :: D, i, k + 1, o, h, ho => by
    simp only [relyB, Bool.and_eq_true] at h
    obtain ⟨dp', g', hD, h'⟩ := relyB_at r D (i + 1) k o h.2 (by simpa using ho)
    exact ⟨dp', g', by simpa using hD, by rw [show i + (k + 1) = i + 1 + k by omega]; exact h'⟩
theorem relyAll_at : ∀ (l : List Oper) (D : Deps) (C : List (SV T)) (k : Nat) (o : Oper) dp g, relyAll P Q T V a0 w0 l D C → l[k]? = some o → D[k]? = some (dp, g) → relyStep P Q T V a0 w0 o dp g (C.getD k SV.any)
  | [], _, _, _, _, _, _, _, h, _ => by simp at h
  | x :: r, [], _, _, _, _, _, h, _, _ => h.elim
  | x :: r, y :: D, [], _, _, _, _, h, _, _ => h.elim
  | x :: r, (dp, g) :: D, c :: C, 0, o, dp', g', h, ho, hD => by
    simp at ho hD
    obtain ⟨rfl, rfl⟩ := hD
    subst ho
    exact h.1
  | x :: r, (dp, g) :: D, c :: C, k + 1, o, dp', g', h, ho, hD => by
    have := relyAll_at r D C k o dp' g' h.2 (by simpa using ho) (by simpa using hD)
    simpa using this
theorem relyEnd_of {a : Act} {w : World} : ∀ (l : List Oper) (C : List (SV T)) (b : Act), b.tmps.size = a.tmps.size → b.defers = a.defers → l.length ≤ C.length →
    (∀ d, (∀ o ∈ l, o.dst ≠ some d) → b.tmps.getD d undef = a.tmps.getD d undef) →
    (∀ (k : Nat) (o : Oper) d, l[k]? = some o → o.dst = some d → (C.getD k SV.any).pred (a.tmps.getD d undef) w) →
    relyEnd Q T l C b w → Q .normal a w
  | [], _, b, hs, hd, _, hb, _, h => by
    have e : b = a := by
      cases b; cases a
      simp only at hs hd
      subst hd
      congr 1
      apply Array.ext_getElem?
      intro d
      rcases Nat.lt_or_ge d (Array.size ‹_›) with hlt | hge
      · have := hb d (fun o ho => by simp at ho)
        simp only [Array.getD_eq_getD_getElem?] at this
        rw [Array.getElem?_eq_getElem hlt, Array.getElem?_eq_getElem (by omega)] at this ⊢
        simpa using this
      · rw [Array.getElem?_eq_none hge, Array.getElem?_eq_none (by omega)]
    subst e
    exact h.out
  | o :: r, [], _, _, _, hl, _, _, _ => by simp at hl
  | o :: r, c :: C, b, hs, hd, hl, hb, hV, h => by
    simp only [relyEnd] at h
    cases ho : o.dst with
    | none =>
      have h1 := h undef (fun hne => absurd ho hne)
      rw [ho] at h1
      refine relyEnd_of r C b hs hd (by simp at hl; omega) (fun d hr => hb d fun o' ho' => ?_) (fun k o' d hk hdd => by simpa using hV (k + 1) o' d (by simpa using hk) hdd) h1
      rcases List.mem_cons.1 ho' with rfl | hm
      · rw [ho]; simp
      · exact hr o' hm
    | some d0 =>
      have h1 := h (a.tmps.getD d0 undef) (fun _ => by simpa using hV 0 o d0 rfl ho)
      rw [ho] at h1
      refine relyEnd_of r C _ (by simp [Act.put, hs]) (by simp [Act.put, hd]) (by simp at hl; omega) (fun d hr => ?_) (fun k o' d hk hdd => by simpa using hV (k + 1) o' d (by simpa using hk) hdd) h1
      by_cases hdd : d0 = d
      · subst hdd
        rcases Nat.lt_or_ge d0 a.tmps.size with hlt | hge
        · simp [Act.put, hlt, hs]
        · simp [Act.put, Array.getElem?_eq_none hge]
      · have := hb d (fun o' ho' => by
          rcases List.mem_cons.1 ho' with rfl | hm
          · rw [ho]; simpa using hdd
          · exact hr o' hm)
        simpa [Act.put, Array.getElem?_setIfInBounds_ne hdd] using this

/-- One operation that may come up now, from a state that meets the invariant. -/
theorem rely_op (hn : a0.tmps.size = n) (ht : ∀ a b c : World, T a b → T b c → T a c) {i : Nat} {o : Oper} {dp : List (Tmp × Option Nat)} {g : Option (Tmp × Bool)} {listed : Array Bool} {a : Act} {w : World}
    (ho : ops[i]? = some o) (h1 : relyOne ops n i o dp g = true) (hstep : relyStep P Q T V a0 w0 o dp g (V.getD i SV.any)) (h0 : listed.getD i true = false)
    (hall : ∀ e ∈ o.after, Region.binds .any e = true → listed.getD e.on false = true) (inv : RelyInv ops T V a0 w0 listed a w) :
    wpOp P ops Q i (fun a' w' => RelyInv ops T V a0 w0 (listed.setIfInBounds i true) a' w') a w := by
  simp only [relyOne, Bool.and_eq_true] at h1
  obtain ⟨⟨⟨hdst, hafter⟩, hdp⟩, hg⟩ := h1
  have waits : ∀ j, Region.waitsFor .any ops i j = true → listed.getD j false = true := fun j hj => by
    obtain ⟨oi, hoi, e, he, hb, hon⟩ := Region.waitsFor_spec hj
    have : oi = o := Option.some.inj (hoi.symm.trans ho)
    subst this
    rw [← hon]
    exact hall e he hb
  have i0 : listed.getD i false = false := getD_both h0
  have hfacts : relyFacts V a0 a w dp := by
    clear hstep
    induction dp with
    | nil => trivial
    | cons x r ih2 =>
      simp only [List.all_cons, Bool.and_eq_true] at hdp
      obtain ⟨hx, hr⟩ := hdp
      obtain ⟨d, j⟩ := x
      cases j with
      | some j =>
        simp only [Bool.and_eq_true, beq_iff_eq] at hx
        exact ⟨inv.new j d hx.1 (waits j hx.2), ih2 hr⟩
      | none =>
        refine ⟨inv.old d fun j hj => ?_, ih2 hr⟩
        have hjlt : j < ops.size := by
          unfold relyDst at hj
          cases hoj : ops[j]? with
          | none => simp [hoj] at hj
          | some oj => exact (Array.getElem?_eq_some_iff.1 hoj).1
        have h2 := List.all_eq_true.1 hx j (List.mem_range.2 hjlt)
        simp only [hj, bne_self_eq_false, Bool.false_or, Bool.or_eq_true, decide_eq_true_eq] at h2
        rcases h2 with rfl | h2
        · exact i0
        · cases hlj : listed.getD j false with
          | false => rfl
          | true =>
            obtain ⟨oj, hoj, e, he, hb, hon⟩ := Region.waitsFor_spec h2
            have := inv.closed j oj hoj hlj e he hb
            rw [hon, i0] at this
            cases this
  have hguard : Region.wanted o (yielded ops a.tmps) = relyGuard g a := by
    unfold Region.wanted
    cases hgo : o.guard with
    | none =>
      rw [hgo] at hg
      cases g with
      | none => rfl
      | some x => cases hg
    | some kb =>
      obtain ⟨k, b⟩ := kb
      rw [hgo] at hg
      cases g with
      | none => cases hg
      | some x =>
        obtain ⟨d, b'⟩ := x
        simp only [Bool.and_eq_true, beq_iff_eq, decide_eq_true_eq] at hg
        obtain ⟨⟨⟨rfl, hd⟩, _⟩, hlt⟩ := hg
        have hlt' : d < a.tmps.size := by rw [inv.slots, hn]; exact hlt
        have hd' : (ops[k]?).bind (·.dst) = some d := hd
        simp only [yielded, hd', Option.bind_some, relyGuard, Array.getD_eq_getD_getElem?, Array.getElem?_eq_getElem hlt', Option.getD_some]
        cases a.tmps[d] <;> simp
        all_goals (rename_i x; cases x <;> cases b <;> rfl)
  have next : ∀ v w', T w w' → (V.getD i SV.any).pred v w' → RelyInv ops T V a0 w0 (listed.setIfInBounds i true) (a.put o.dst v) w' := fun v w' hT hv => by
    have hilt : i < listed.size := by rw [inv.size]; exact (Array.getElem?_eq_some_iff.1 ho).1
    refine ⟨by simp [inv.size], fun j oj hj hlj e he hb => ?_, ht _ _ _ inv.now hT, by cases o.dst <;> simp [Act.put, inv.slots], by cases o.dst <;> simp [Act.put, inv.defers], fun j d hj hlj => ?_, fun d hno => ?_⟩
    · by_cases hij : i = j
      · subst hij
        have : oj = o := Option.some.inj (hj.symm.trans ho)
        subst this
        exact getD_set_true (hall e he hb)
      · rw [getD_set_ne false hij] at hlj
        exact getD_set_true (inv.closed j oj hj hlj e he hb)
    · by_cases hij : i = j
      · subst hij
        have hd : o.dst = some d := by simpa [relyDst, ho] using hj
        rw [hd] at hdst
        simp only [Bool.and_eq_true, decide_eq_true_eq] at hdst
        have hlt : d < a.tmps.size := by rw [inv.slots, hn]; exact hdst.1
        rw [hd]
        simpa [Act.put, hlt] using hv
      · rw [getD_set_ne false hij] at hlj
        have h3 := (V.getD j SV.any).stable _ _ _ (inv.new j d hj hlj) hT
        cases hod : o.dst with
        | none => exact h3
        | some d0 =>
          rw [hod] at hdst
          simp only [Bool.and_eq_true, decide_eq_true_eq] at hdst
          have hjlt : j < ops.size := by
            unfold relyDst at hj
            cases hoj : ops[j]? with
            | none => simp [hoj] at hj
            | some oj => exact (Array.getElem?_eq_some_iff.1 hoj).1
          have h4 := List.all_eq_true.1 hdst.2 j (List.mem_range.2 hjlt)
          simp only [Bool.or_eq_true, decide_eq_true_eq, bne_iff_ne, ne_eq] at h4
          have hne : d0 ≠ d := fun e => by
            subst e
            rcases h4 with h4 | h4
            · exact hij h4.symm
            · exact h4 hj
          simpa [Act.put, Array.getElem?_setIfInBounds_ne hne] using h3
    · have hni : o.dst ≠ some d := fun hd => by
        have := hno i (by simp [relyDst, ho, hd])
        simp [hilt] at this
      have hold := inv.old d fun j hj => by
        have hij : i ≠ j := fun e => by subst e; exact hni (by simpa [relyDst, ho] using hj)
        have := hno j hj
        rwa [getD_set_ne false hij] at this
      cases hod : o.dst with
      | none => exact hold
      | some d0 =>
        have hne : d0 ≠ d := fun e => hni (by rw [hod, e])
        simpa [Act.put, Array.getElem?_setIfInBounds_ne hne] using hold
  have hs := hstep a w inv.now hfacts _ next
  unfold wpOp
  simp only [ho, hguard]
  split
  · rename_i hw; rw [if_pos hw] at hs; exact .inl hs
  · rename_i hw; rw [if_neg hw] at hs; exact hs

/-- At the end, from the canonical frame. -/
theorem rely_all {Q' : Act → World → Prop} {l : List Oper} {listed : Array Bool} {a : Act} {w : World} (inv : RelyInv ops T V a0 w0 listed a w) (hpre : ∀ (k : Nat) (o : Oper), l[k]? = some o → ops[k]? = some o ∧ listed.getD k false = true)
    (hno : ∀ j, listed.getD j false = true → j < l.length) (hl : l.length ≤ V.length) (hE : relyEnd (fun _ => Q') T l V a0 w) : Q' a w := by
  refine relyEnd_of (Q := fun _ => Q') l V a0 inv.slots.symm inv.defers.symm hl (fun d hnd => ?_) (fun k o d hk hd => ?_) hE
  · refine (inv.old d fun j hj => ?_).symm
    cases hlj : listed.getD j false with
    | false => rfl
    | true =>
      exfalso
      have hjl := hno j hlj
      have hj2 := (hpre j l[j] (List.getElem?_eq_getElem hjl)).1
      simp [relyDst, hj2] at hj
      exact hnd l[j] (List.getElem_mem hjl) hj
  · obtain ⟨hk', hlk⟩ := hpre k o hk
    exact inv.new k d (by simp [relyDst, hk', hd]) hlk

theorem rely_start (hd : T w0 w0.drew) : RelyInv ops T V a0 w0 (Array.replicate ops.size false) a0 w0.drew := by
  refine ⟨by simp, fun j oj hj hlj => ?_, hd, rfl, rfl, fun j d _ hlj => ?_, fun _ _ => rfl⟩
  · rw [getD_replicate_false] at hlj; cases hlj
  · rw [getD_replicate_false] at hlj; cases hlj
theorem rely_start' (hd : T w0 w0) : RelyInv ops T V a0 w0 (Array.replicate ops.size false) a0 w0 := by
  refine ⟨by simp, fun j oj hj hlj => ?_, hd, rfl, rfl, fun j d _ hlj => ?_, fun _ _ => rfl⟩
  · rw [getD_replicate_false] at hlj; cases hlj
  · rw [getD_replicate_false] at hlj; cases hlj
theorem unl_start : (unl ops (Array.replicate ops.size false)).length = ops.size := by
  unfold unl
  rw [List.filter_eq_self.2]
  · simp
  · intro i hi; simp at hi; simp [hi]

/-- The last operation waits for all others. -/
def lastB (ops : Array Oper) (last : Oper) (m : Nat) : Bool := Region.sinkB .any ops m && last.after.all fun e => !Region.binds .any e || decide (e.on < m)

theorem wpAny_done {listed : Array Bool} {a : Act} {w : World} (hr : Region.ready .any ops listed = []) (h : Q .normal a w) : ∀ fuel, wpAny P .any ops Q fuel listed a w
  | 0 => ⟨hr, h⟩
  | _ + 1 => ⟨fun _ => h, by rw [hr]; simp⟩
theorem ready_none {listed : Array Bool} (h : ∀ i, i < ops.size → listed.getD i false = true) : Region.ready .any ops listed = [] := by
  apply List.eq_nil_iff_forall_not_mem.2
  intro i hi
  obtain ⟨h0, o, ho, _⟩ := mem_ready.1 hi
  have := h i (Array.getElem?_eq_some_iff.1 ho).1
  rw [getD_both h0] at this
  cases this

section
variable {init : List Oper} {last : Oper}
theorem last_at (hsplit : ops.toList = init ++ [last]) : ops[init.length]? = some last ∧ ops.size = init.length + 1 ∧ ∀ (k : Nat) (o : Oper), init[k]? = some o → ops[k]? = some o := by
  have e : ops = (init ++ [last]).toArray := by rw [← hsplit]
  subst e
  refine ⟨by simp, by simp, fun k o hk => ?_⟩
  have hlt := (List.getElem?_eq_some_iff.1 hk).1
  simp [List.getElem?_append_left hlt, hk]
theorem last_op (hsplit : ops.toList = init ++ [last]) (hg : last.guard = none) (hl : init.length ≤ V.length) {K : Act → World → Prop} {listed : Array Bool} {a : Act} {w : World}
    (hE : ∀ w, T w0 w → relyEnd (fun _ a w => last.wp P a w (fun a' w' => Q .normal a' w') Q) T init V a0 w)
    (inv : RelyInv ops T V a0 w0 listed a w) (hdone : ∀ j, j < init.length → listed.getD j false = true) (hun : listed.getD init.length true = false) (hK : ∀ a' w', Q .normal a' w' → K a' w') : wpOp P ops Q init.length K a w := by
  obtain ⟨hlo, hsz, hpre⟩ := last_at hsplit
  have h1 : last.wp P a w (fun a' w' => Q .normal a' w') Q := rely_all (Q' := fun a w => last.wp P a w (fun a' w' => Q .normal a' w') Q) inv
    (fun k o hk => ⟨hpre k o hk, hdone k (List.getElem?_eq_some_iff.1 hk).1⟩) (fun j hj => by
      rcases Nat.lt_or_ge j init.length with h | h
      · exact h
      · rcases Nat.eq_or_lt_of_le h with h | h
        · subst h; rw [getD_both hun] at hj; cases hj
        · have : listed.getD j false = false := by simp [Array.getElem?_eq_none (show listed.size ≤ j by rw [inv.size]; omega)]
          rw [this] at hj; cases hj) hl (hE w inv.now)
  unfold wpOp
  simp only [hlo, Region.wanted, hg, if_true]
  exact .inl (Oper.wp_mono hK h1)

/-- **A region that draws its order, in the text's own order; the last operation waits for all others, and may do what it likes.** -/
theorem wpAny_rely (hsplit : ops.toList = init ++ [last]) (hn : a0.tmps.size = n) (hB : relyB ops n 0 init D = true) (hlast : lastB ops last init.length = true) (hg : last.guard = none) (ht : ∀ a b c : World, T a b → T b c → T a c)
    (hl : init.length ≤ V.length) (hA : relyAll P Q T V a0 w0 init D V) (hE : ∀ w, T w0 w → relyEnd (fun _ a w => last.wp P a w (fun a' w' => Q .normal a' w') Q) T init V a0 w) :
    ∀ (fuel : Nat) (listed : Array Bool) (a : Act) (w : World), (unl ops listed).length = fuel → listed.getD init.length true = false → RelyInv ops T V a0 w0 listed a w → wpAny P .any ops Q fuel listed a w := by
  obtain ⟨hlo, hsz, hpre⟩ := last_at hsplit
  simp only [lastB, Bool.and_eq_true] at hlast
  have hat : ∀ i o, init[i]? = some o → ∃ dp g, relyOne ops n i o dp g = true ∧ relyStep P Q T V a0 w0 o dp g (V.getD i SV.any) := fun i o hi => by
    obtain ⟨dp, g, hD, h1⟩ := relyB_at init D 0 i o hB hi
    rw [Nat.zero_add] at h1
    exact ⟨dp, g, h1, relyAll_at _ _ _ i o dp g hA hi hD⟩
  intro fuel
  induction fuel with
  | zero =>
    intro listed a w hu hun inv
    have : init.length ∈ unl ops listed := by
      unfold unl; rw [List.mem_filter]; exact ⟨List.mem_range.2 (by omega), by rw [hun]; rfl⟩
    rw [List.eq_nil_of_length_eq_zero hu] at this
    cases this
  | succ fuel ih =>
    intro listed a w hu hun inv
    refine ⟨fun hr => ?_, fun i hi => ?_⟩
    · exfalso
      have all : ∀ i, i < init.length → listed.getD i false = true := fun i => by
        induction i using Nat.strongRecOn with
        | _ i ih =>
          intro hi
          cases hli : listed.getD i false with
          | true => rfl
          | false =>
            exfalso
            have hmem : i ∈ Region.ready .any ops listed := by
              rw [mem_ready]
              refine ⟨getD_in (by rw [inv.size]; omega) hli, init[i], hpre i _ (List.getElem?_eq_getElem hi), fun e he hb => ?_⟩
              obtain ⟨dp, g, h1, _⟩ := hat i init[i] (List.getElem?_eq_getElem hi)
              simp only [relyOne, Bool.and_eq_true] at h1
              have h2 := (Array.all_eq_true_iff_forall_mem.1 h1.1.1.2) e he
              simp only [hb, Bool.not_true, Bool.false_or, decide_eq_true_eq] at h2
              exact ih e.on h2 (by omega)
            rw [hr] at hmem
            cases hmem
      have hmem : init.length ∈ Region.ready .any ops listed := by
        rw [mem_ready]
        refine ⟨hun, last, hlo, fun e he hb => ?_⟩
        have h2 := (Array.all_eq_true_iff_forall_mem.1 hlast.2) e he
        simp only [hb, Bool.not_true, Bool.false_or, decide_eq_true_eq] at h2
        exact all e.on h2
      rw [hr] at hmem
      cases hmem
    · obtain ⟨h0, o, ho, hall⟩ := mem_ready.1 hi
      have hilt := (Array.getElem?_eq_some_iff.1 ho).1
      by_cases him : i = init.length
      · subst him
        have hol : o = last := Option.some.inj (ho.symm.trans hlo)
        subst hol
        have hdone : ∀ (d j : Nat), init.length - j = d → j < init.length → listed.getD j false = true := fun d => by
          induction d using Nat.strongRecOn with
          | _ d ihd =>
            intro j hd hj
            have h1 := List.all_eq_true.1 hlast.1 j (List.mem_range.2 hj)
            obtain ⟨t, ht1, ht2⟩ := List.any_eq_true.1 h1
            simp only [Bool.and_eq_true, decide_eq_true_eq] at ht2
            obtain ⟨ot, hot, e, he, hb, hon⟩ := Region.waitsFor_spec ht2.2
            have htle : t ≤ init.length := by have := List.mem_range.1 ht1; omega
            rw [← hon]
            by_cases htm : t = init.length
            · subst htm
              have : ot = o := Option.some.inj (hot.symm.trans ho)
              subst this
              exact hall e he hb
            · exact inv.closed t ot hot (ihd (init.length - t) (by omega) t rfl (by omega)) e he hb
        replace hdone : ∀ j, j < init.length → listed.getD j false = true := fun j hj => hdone _ j rfl hj
        refine last_op hsplit hg hl hE inv hdone hun fun a' w' h => wpAny_done (ready_none fun j hj => ?_) h _
        by_cases hj2 : j = init.length
        · subst hj2; simp [show init.length < listed.size by rw [inv.size]; exact hj]
        · exact getD_set_true (hdone j (by omega))
      · have hi' : i < init.length := by omega
        have hio : init[i]? = some o := by
          have := hpre i init[i] (List.getElem?_eq_getElem hi')
          rw [ho] at this
          rw [List.getElem?_eq_getElem hi', Option.some.inj this]
        obtain ⟨dp, g, h1, hstep⟩ := hat i o hio
        refine wpOp_mono (fun a' w' inv' => ih _ a' w' (by have := unl_set inv.size h0; omega) (by rw [getD_set_ne true him]; exact hun) inv') (rely_op hn ht ho h1 hstep h0 hall inv)

/-- In the text's order, from place k on. -/
theorem wpOps_rely (hsplit : ops.toList = init ++ [last]) (hn : a0.tmps.size = n) (hB : relyB ops n 0 init D = true) (hg : last.guard = none) (ht : ∀ a b c : World, T a b → T b c → T a c)
    (hl : init.length ≤ V.length) (hA : relyAll P Q T V a0 w0 init D V) (hE : ∀ w, T w0 w → relyEnd (fun _ a w => last.wp P a w (fun a' w' => Q .normal a' w') Q) T init V a0 w) :
    ∀ (f k : Nat) (listed : Array Bool) (a : Act) (w : World), k + f = init.length → (∀ j, j < k → listed.getD j false = true) → (∀ j, k ≤ j → j < ops.size → listed.getD j true = false) → RelyInv ops T V a0 w0 listed a w → wpOps P ops Q (List.range' k (f + 1)) a w := by
  obtain ⟨hlo, hsz, hpre⟩ := last_at hsplit
  intro f
  induction f with
  | zero =>
    intro k listed a w hk hdone hun inv
    obtain rfl : k = init.length := by omega
    rw [List.range'_succ, wpOps_cons]
    exact last_op hsplit hg hl hE inv hdone (hun _ (Nat.le_refl _) (by omega)) fun a' w' h => by simpa [wpOps] using h
  | succ f ih =>
    intro k listed a w hk hdone hun inv
    rw [List.range'_succ, wpOps_cons]
    have hklt : k < init.length := by omega
    have hio : init[k]? = some init[k] := List.getElem?_eq_getElem hklt
    obtain ⟨dp, g, hD, h1⟩ := relyB_at init D 0 k _ hB hio
    rw [Nat.zero_add] at h1
    have hstep := relyAll_at _ _ _ k _ dp g hA hio hD
    refine wpOp_mono (fun a' w' inv' => ih (k + 1) _ a' w' (by omega) (fun j hj => ?_) (fun j hj hj2 => ?_) inv') (rely_op hn ht (hpre k _ hio) h1 hstep (hun k (Nat.le_refl _) (by omega)) (fun e he hb => ?_) inv)
    · by_cases hjk : k = j
      · subst hjk; simp [show k < listed.size by rw [inv.size]; omega]
      · exact getD_set_true (hdone j (by omega))
    · rw [getD_set_ne true (by omega)]; exact hun j (by omega) hj2
    · simp only [relyOne, Bool.and_eq_true] at h1
      have h2 := (Array.all_eq_true_iff_forall_mem.1 h1.1.1.2) e he
      simp only [hb, Bool.not_true, Bool.false_or, decide_eq_true_eq] at h2
      exact hdone e.on h2

end
section
variable {last : Oper}
theorem split_last (h : ops.toList.getLast? = some last) : ops.toList = ops.toList.dropLast ++ [last] := by
  have hne : ops.toList ≠ [] := fun e => by rw [e] at h; cases h
  rw [List.getLast?_eq_some_getLast hne] at h
  rw [← Option.some.inj h, List.dropLast_concat_getLast hne]
/-- **A region that draws its order.** -/
theorem wp_region_rely {id : Nat} (T : World → World → Prop) (V : List (SV T)) (D : Deps) (n : Nat) (hla : ops.toList.getLast? = some last) (hm : P.follows .mixedOrders = true) (hn : a0.tmps.size = n) (hB : relyB ops n 0 ops.toList.dropLast D = true)
    (hlast : lastB ops last ops.toList.dropLast.length = true) (hg : last.guard = none) (ht : ∀ a b c : World, T a b → T b c → T a c) (hd : T w0 w0.drew) (hl : ops.toList.dropLast.length ≤ V.length)
    (hA : relyAll P Q T V a0 w0 ops.toList.dropLast D V) (hE : ∀ w, T w0 w → relyEnd (fun _ a w => last.wp P a w (fun a' w' => Q .normal a' w') Q) T ops.toList.dropLast V a0 w) : (Code.region id ops true).wp P Q a0 w0 := by
  have hsplit := split_last hla
  obtain ⟨_, hsz, _⟩ := last_at hsplit
  refine wp_region_any hm ?_
  exact wpAny_rely hsplit hn hB hlast hg ht hl hA hE ops.size _ a0 w0.drew unl_start (by
    have hlt : ops.toList.dropLast.length < ops.size := by omega
    generalize ops.toList.dropLast.length = m at hlt
    simp [hlt]) (rely_start hd)
/-- **A region in the text's order.** -/
theorem wp_region_seq {id : Nat} (T : World → World → Prop) (V : List (SV T)) (D : Deps) (n : Nat) (hla : ops.toList.getLast? = some last) (hn : a0.tmps.size = n) (hB : relyB ops n 0 ops.toList.dropLast D = true)
    (hg : last.guard = none) (ht : ∀ a b c : World, T a b → T b c → T a c) (hd : T w0 w0) (hl : ops.toList.dropLast.length ≤ V.length)
    (hA : relyAll P Q T V a0 w0 ops.toList.dropLast D V) (hE : ∀ w, T w0 w → relyEnd (fun _ a w => last.wp P a w (fun a' w' => Q .normal a' w') Q) T ops.toList.dropLast V a0 w) : (Code.region id ops false).wp P Q a0 w0 := by
  have hsplit := split_last hla
  obtain ⟨_, hsz, _⟩ := last_at hsplit
  refine wp_region ?_
  rw [List.range_eq_range', hsz]
  exact wpOps_rely hsplit hn hB hg ht hl hA hE ops.toList.dropLast.length 0 _ a0 w0 (by omega) (fun j hj => by omega) (fun j _ hj => by simp [hj]) (rely_start' hd)
end
end
end Go.Proofs.YtchpmdcacpjojaaDoor
/- Own words for numbers of 32 bits and bytes, and how the walk's arithmetic reads on them. No program is named here. -/
namespace Go.Proofs.YtchpmdcacpjojaaDoor
open Go.RowKit
set_option maxRecDepth 8000
set_option linter.all false

/-- A number of 32 bits, as the model has it. -/
def uN (x : BitVec 32) : Int := x.toNat
/-- A byte, as the model has it. -/
def bN (b : UInt8) : Int := b.toNat

theorem uN_lt (x : BitVec 32) : 0 ≤ uN x ∧ uN x < 4294967296 := by unfold uN; omega
theorem bN_lt (x : UInt8) : 0 ≤ bN x ∧ bN x < 256 := by unfold bN; have := x.toNat_lt; omega

theorem wrap_u32 (n : Int) : IntKind.u32.wrap n = n % 4294967296 := by simp [IntKind.wrap, IntKind.bits, IntKind.signed]
theorem wrap_u8 (n : Int) : IntKind.u8.wrap n = n % 256 := by simp [IntKind.wrap, IntKind.bits, IntKind.signed]
theorem ofInt_uN (x : BitVec 32) : BitVec.ofInt 32 (uN x) = x := by unfold uN; simp
theorem wrap_uN (x : BitVec 32) : IntKind.u32.wrap (uN x) = uN x := by rw [wrap_u32]; have := uN_lt x; omega
theorem u32_add (x y : BitVec 32) : IntKind.u32.wrap (uN x + uN y) = uN (x + y) := by
  rw [wrap_u32]; unfold uN; rw [BitVec.toNat_add]; omega
theorem u32_xor (x y : BitVec 32) : bits .xor .u32 (uN x) (uN y) = uN (x ^^^ y) := by
  show IntKind.u32.wrap (uN (BitVec.ofInt 32 (uN x) ^^^ BitVec.ofInt 32 (uN y))) = _
  rw [ofInt_uN, ofInt_uN, wrap_uN]
theorem u32_and (x y : BitVec 32) : bits .and .u32 (uN x) (uN y) = uN (x &&& y) := by
  show IntKind.u32.wrap (uN (BitVec.ofInt 32 (uN x) &&& BitVec.ofInt 32 (uN y))) = _
  rw [ofInt_uN, ofInt_uN, wrap_uN]
theorem u32_or (x y : BitVec 32) : bits .or .u32 (uN x) (uN y) = uN (x ||| y) := by
  show IntKind.u32.wrap (uN (BitVec.ofInt 32 (uN x) ||| BitVec.ofInt 32 (uN y))) = _
  rw [ofInt_uN, ofInt_uN, wrap_uN]
theorem u32_not (x : BitVec 32) : bits .xor .u32 IntKind.u32.max (uN x) = uN (~~~x) := by
  show IntKind.u32.wrap (uN (BitVec.ofInt 32 IntKind.u32.max ^^^ BitVec.ofInt 32 (uN x))) = _
  rw [ofInt_uN, wrap_uN, show BitVec.ofInt 32 IntKind.u32.max = BitVec.allOnes 32 by decide, BitVec.allOnes_xor]
theorem signed_u32 : IntKind.u32.signed = false := rfl
theorem u32_shr (x : BitVec 32) (n : Nat) : uN x / (2 : Int) ^ n = uN (x >>> n) := by
  unfold uN; rw [BitVec.toNat_ushiftRight, Nat.shiftRight_eq_div_pow]; simp
theorem u32_shl (x : BitVec 32) (n : Nat) : IntKind.u32.wrap (uN x * (2 : Int) ^ n) = uN (x <<< n) := by
  rw [wrap_u32]; unfold uN; rw [BitVec.toNat_shiftLeft, Nat.shiftLeft_eq]; simp
theorem u32_div8 (x : BitVec 32) : uN x / (8 : Int) = uN (x >>> 3) := u32_shr x 3
theorem u32_div1024 (x : BitVec 32) : uN x / (1024 : Int) = uN (x >>> 10) := u32_shr x 10
theorem u32_mul256 (x : BitVec 32) : IntKind.u32.wrap (uN x * (256 : Int)) = uN (x <<< 8) := u32_shl x 8
theorem bN_u32 (b : UInt8) : IntKind.u32.wrap (bN b) = uN (b.toBitVec.setWidth 32) := by
  have h := bN_lt b
  rw [wrap_u32]; unfold uN bN at *; rw [BitVec.toNat_setWidth]
  show (b.toNat : Int) % 4294967296 = ((b.toNat % 2 ^ 32 : Nat) : Int)
  omega
theorem u32_u8 (x : BitVec 32) : IntKind.u8.wrap (uN x) = bN (UInt8.ofBitVec (x.setWidth 8)) := by
  rw [wrap_u8]; unfold uN bN
  show _ = (((x.setWidth 8).toNat : Nat) : Int)
  rw [BitVec.toNat_setWidth]; omega
theorem uN_rotr (x : BitVec 32) (n : Nat) (h1 : n < 32) : bits .or .u32 (uN (x <<< (32 - n))) (uN (x >>> n)) = uN (x.rotateRight n) := by
  rw [u32_or, BitVec.rotateRight_def, Nat.mod_eq_of_lt h1, BitVec.or_comm]
theorem uN_inj {x y : BitVec 32} (h : uN x = uN y) : x = y := by
  unfold uN at h; exact BitVec.eq_of_toNat_eq (by omega)
theorem bN_inj {x y : UInt8} (h : bN x = bN y) : x = y := by
  unfold bN at h; exact UInt8.toNat_inj.1 (by omega)

end Go.Proofs.YtchpmdcacpjojaaDoor
/- Own words for rows of cells: an array by value as a function of its places; whole arrays read, written and handed back. No program is named here. -/
namespace Go.Proofs.YtchpmdcacpjojaaDoor
open Go.RowKit
set_option maxRecDepth 8000
set_option linter.all false

/-- The cells of an array by value: n places, place i holds f i. -/
def rowA (n : Nat) (f : Nat → Value) : Array Value := ((List.range n).map f).toArray
theorem rowA_size (n : Nat) (f : Nat → Value) : (rowA n f).size = n := by simp [rowA]
theorem rowA_toList (n : Nat) (f : Nat → Value) : (rowA n f).toList = (List.range n).map f := by simp [rowA]
theorem rowA_at (n : Nat) (f : Nat → Value) (i : Nat) (h : i < n) : (rowA n f)[i]? = some (f i) := by simp [rowA, h]
theorem rowA_congr {n : Nat} {f g : Nat → Value} (h : ∀ i, i < n → f i = g i) : rowA n f = rowA n g := by
  unfold rowA; congr 1; exact List.map_congr_left fun i hi => h i (by simpa using hi)
theorem rowA_one (n : Nat) (f : Nat → Value) (h : ∀ i, (f i).oneCell' = true) : (rowA n f).all (·.oneCell') = true :=
  all_oneCell_toArray (fun v hv => by obtain ⟨i, _, rfl⟩ := List.mem_map.1 hv; exact h i)

section
variable {P : Program} {w w' : World} {b : Nat} {t : TypeId} {n : Nat} {f g : Nat → Value}

theorem rowIs_box (w : World) (t : TypeId) (n : Nat) (f : Nat → Value) : (w.alloc (.cells (rowA n f) t)).rowIs w.heap.size t n f := by
  have := World.rowIs_alloc w (rowA n f) t f (fun i hi => rowA_at n f i (by rwa [rowA_size] at hi))
  rwa [rowA_size] at this
theorem rowIs_below {B : Nat} (h : w.rowIs b t n f) (hb : Below B w w') (hlt : b < B) : w'.rowIs b t n f := h.of_block (hb.block b hlt)
theorem rangeAt_row (h : w.rowIs b t n f) : w.rangeAt b 0 (rowA n f).toList := fun j v hv => by
  rw [rowA_toList, List.getElem?_map] at hv
  cases hj : (List.range n)[j]? with
  | none => rw [hj] at hv; simp at hv
  | some k =>
    rw [hj] at hv
    obtain ⟨hlt, hk⟩ := List.getElem?_eq_some_iff.1 hj
    simp at hlt hk
    subst hk
    simp at hv
    subst hv
    simpa using h.cell hlt
theorem there_row (h : w.rowIs b t n f) : w.there b 0 n := fun j hj => ⟨by simp [h.cell (i := j) hj], by simpa using h.frozen j⟩
theorem below_setCells {B : Nat} {a : World} (b : Nat) (hb : B ≤ b) : ∀ (vs : List Value) (o : Nat) (w : World), Below B a w → Below B a (w.setCells b o vs)
  | [], _, _, h => h
  | v :: r, o, w, h => by
    rw [World.setCells]
    exact below_setCells b hb r (o + 1) _ (h.setCell (p := ⟨b, o, none⟩) hb v)
theorem rowIs_setCells_at (h : w.rowIs b t n f) : ∀ (vs : List Value) (o : Nat), (w.setCells b o vs).rowIs b t n (fun i => if o ≤ i ∧ i < o + vs.length then vs.getD (i - o) undef else f i) := by
  intro vs
  induction vs generalizing w f with
  | nil => intro o; exact h.congr fun i _ => by rw [if_neg (by simp only [List.length_nil]; omega)]
  | cons v r ih =>
    intro o
    rw [World.setCells]
    refine (ih (h.set o v) (o + 1)).congr fun i hi => ?_
    by_cases e : i = o
    · subst e; rw [if_neg (by omega), if_pos rfl, if_pos (by simp only [List.length_cons]; omega)]; simp
    · by_cases h2 : o + 1 ≤ i ∧ i < o + 1 + r.length
      · rw [if_pos h2, if_pos (by simp only [List.length_cons]; omega), show i - o = (i - (o + 1)) + 1 by omega]; simp
      · rw [if_neg h2, if_neg e, if_neg (by simp only [List.length_cons]; omega)]
theorem rowIs_setAll (h : w.rowIs b t n f) (g : Nat → Value) : (w.setCells b 0 (rowA n g).toList).rowIs b t n g :=
  (rowIs_setCells_at h (rowA n g).toList 0).congr fun i hi => by
    have hl : (rowA n g).toList.length = n := by rw [rowA_toList]; simp
    rw [if_pos ⟨Nat.zero_le _, by omega⟩, rowA_toList]; simp [hi]
theorem rowIs_setOther (h : w.rowIs b t n f) {b' : Nat} (hne : b ≠ b') : ∀ (vs : List Value) (o : Nat), (w.setCells b' o vs).rowIs b t n f := by
  intro vs
  induction vs generalizing w with
  | nil => intro o; exact h
  | cons v r ih => intro o; rw [World.setCells]; exact ih (h.setOther (a := ⟨b', o, none⟩) hne v) (o + 1)
theorem size_setCells (b : Nat) : ∀ (vs : List Value) (o : Nat) (w : World), (w.setCells b o vs).heap.size = w.heap.size
  | [], _, _ => rfl
  | v :: r, o, w => by rw [World.setCells, size_setCells b r]; simp
theorem load_row {e : TypeId} {m : Nat} (h : w.rowIs b t n f) {ty : TypeId} (hu : P.underlying ty = some (.array m e)) (hi : (P.info? ty).map (·.size) = some n) :
    (loadVar ty ⟨b, 0, none⟩).run P w = .ok (.agg (rowA n f)) w := by
  have := run_loadVar_mid (P := P) w b 0 ty (rowA n f).toList _ (rangeAt_row h) hu rfl (by rw [hi, rowA_toList]; simp)
  simpa using this
/-- An element of an array by value. -/
theorem index_row (t e : TypeId) (d : TypeDesc) (hu : P.underlying t = some (.array n e)) (he : P.underlying e = some d) (hd : d.isRow = false) (hs : (P.info? e).map (·.size) = some 1) (f : Nat → Value) (kd : IntKind) (k : Nat) (hk : k < n) (w : World) :
    (Instr.index t (.agg (rowA n f)) (.int kd (k : Int))).run P w = .ok (f k) w := by
  have hsz : (sizeOf e).run P w = .ok 1 w := by
    cases hq : P.info? e with
    | none => simp [hq] at hs
    | some i => simp [hq] at hs; simp [sizeOf, typeInfo, hq, hs]
  have hagg : (isAgg e).run P w = .ok false w := by
    unfold isAgg
    rw [Sem.run_bind, run_underlying he w]
    cases d <;> simp_all
  have hat := rowA_at n f k hk
  simp [Instr.index, asIntOf, run_underlying hu, hsz, hk, part, hagg, hat]
/-- 's[m:]', the address as the model has it. -/
theorem slice_from (t e : TypeId) (hu : P.underlying t = some (.slice e)) (hs : (P.info? e).map (·.size) = some 1) (a : Addr) (n cap m : Nat) (hm : m ≤ n) (w : World) :
    (Instr.slice t (.slice (some a) n cap) (some (.int .i64 (m : Int))) none none).run P w = .ok (.slice (some (if cap = m then a else a.add m)) (n - m) (cap - m)) w := by
  have hsz : (sizeOf e).run P w = .ok 1 w := by
    cases hq : P.info? e with
    | none => simp [hq] at hs
    | some i => simp [hq] at hs; simp [sizeOf, typeInfo, hq, hs]
  by_cases h : cap = m
  · simp [Instr.slice, run_underlying hu, Instr.sliceBounds, Instr.sliceBound, asIntOf, hm, hsz, h]
  · simp [Instr.slice, run_underlying hu, Instr.sliceBounds, Instr.sliceBound, asIntOf, hm, hsz, h]
/-- An array that a call hands back. -/
theorem results_row {e : TypeId} {m : Nat} {fn : Func} {p : Tmp} {ty : TypeId} (hf : fn.results = #[.cell p ty]) (tmps : Array Value) (hp : tmps.getD p undef = .pointer (some ⟨b, 0, none⟩))
    (h : w.rowIs b t n f) (hu : P.underlying ty = some (.array m e)) (hi : (P.info? ty).map (·.size) = some n) : (results fn tmps).run P w = .ok (.agg (rowA n f)) w := by
  have := load_row (P := P) h hu hi
  have hp' : tmps[p]?.getD undef = .pointer (some ⟨b, 0, none⟩) := by simpa using hp
  simp [results, hf, hp', asAddr, this]
end
end Go.Proofs.YtchpmdcacpjojaaDoor
/- A law of our own for a range over a function, at the wide fence: the iterator tells its rounds something of what it hands on (what a slice reads as), and keeps memory of its own; the caller's invariant abides whatever turns from the loop's beginning on. No program is named here. -/
namespace Go.Proofs.YtchpmdcacpjojaaDoor
open Go.RowKit
set_option maxRecDepth 8000
set_option linter.all false

/-- Cells outside the blocks of L lie as they lay. -/
def KeepBut (L : List Nat) (W W' : World) : Prop :=
  W.heap.size ≤ W'.heap.size ∧ ∀ (k : Nat) (o : Obj), k ∉ L → W.heap[k]? = some o → o.isCells = true → W'.heap[k]? = some o
theorem KeepBut.refl (L : List Nat) (W : World) : KeepBut L W W := ⟨Nat.le_refl _, fun _ _ _ h _ => h⟩
theorem KeepBut.trans {L : List Nat} {A B C : World} (h : KeepBut L A B) (k : KeepBut L B C) : KeepBut L A C :=
  ⟨Nat.le_trans h.1 k.1, fun i o hi ho hc => k.2 i o hi (h.2 i o hi ho hc) hc⟩
theorem KeepBut.more {L L' : List Nat} {A B : World} (h : KeepBut L A B) (hL : ∀ k, k ∈ L → k ∈ L') : KeepBut L' A B :=
  ⟨h.1, fun i o hi ho hc => h.2 i o (fun hm => hi (hL i hm)) ho hc⟩
theorem KeepBut.putObj {L : List Nat} {W : World} {l : Nat} {o o' : Obj} (h : W.heap[l]? = some o) (hc : o.isCells = false) : KeepBut L W (W.putObj l o') :=
  ⟨by simp, fun k ok _ hk hck => by
    by_cases e : k = l
    · subst e; rw [h] at hk; cases hk; rw [hc] at hck; cases hck
    · exact (World.putObj_heap_other e).trans hk⟩
theorem KeepBut.below {L : List Nat} {W W' : World} (h : Below W.heap.size W W') : KeepBut L W W' :=
  ⟨h.size, fun k _ _ hk _ => (h.block k (Array.getElem?_eq_some_iff.1 hk).1).trans hk⟩
theorem KeepBut.drew {L : List Nat} (W : World) : KeepBut L W W.drew := ⟨Nat.le_refl _, fun _ _ _ h _ => h⟩
theorem KeepBut.alloc {L : List Nat} (W : World) (o : Obj) : KeepBut L W (W.alloc o) := KeepBut.below ((Below.refl _ W).alloc (Nat.le_refl _) o)
theorem KeepBut.setCell {L : List Nat} {W : World} {a : Addr} (ha : a.block ∈ L) (v : Value) : KeepBut L W (W.setCell a v) :=
  ⟨by simp, fun k _ hk h _ => (Below.heap_setCell W a v k (fun e => hk (e ▸ ha))).trans h⟩
theorem KeepBut.setCells {L : List Nat} {b : Nat} (hb : b ∈ L) : ∀ (vs : List Value) (o : Nat) (W : World), KeepBut L W (W.setCells b o vs)
  | [], _, W => KeepBut.refl L W
  | v :: r, o, W => by
    rw [World.setCells]
    exact (KeepBut.setCell (a := ⟨b, o, none⟩) hb v).trans (KeepBut.setCells hb r (o + 1) _)
theorem KeepBut.cell {L : List Nat} {W W' : World} (h : KeepBut L W W') {a : Addr} {v : Value} (ha : a.block ∉ L) (hc : W.cell? a = some v) : W'.cell? a = some v := by
  obtain ⟨o, ho, hic⟩ : ∃ o, W.heap[a.block]? = some o ∧ o.isCells = true := by
    unfold World.cell? at hc
    cases ho : W.heap[a.block]? with
    | none => simp [ho] at hc
    | some o => exact ⟨o, rfl, by cases o <;> simp_all [Obj.isCells]⟩
  rw [World.cell?_of_block ((h.2 _ o ha ho hic).trans ho.symm)]; exact hc
theorem KeepBut.row {L : List Nat} {W W' : World} (h : KeepBut L W W') {b n : Nat} {t : TypeId} {f : Nat → Value} (hb : b ∉ L) (hr : W.rowIs b t n f) : W'.rowIs b t n f := by
  obtain ⟨c, hc, hs, hf⟩ := hr
  exact ⟨c, h.2 _ _ hb hc rfl, hs, hf⟩

/-- A step after which all that is no cells lies as it lay, by 'Below' at the heap's end. -/
theorem keepsOthers_below {W W' : World} (h : Below W.heap.size W W') : KeepsOthers W W' :=
  ⟨h.size, fun k _ hk _ => (h.block k (Array.getElem?_eq_some_iff.1 hk).1).trans hk⟩
theorem keepsOthers_setCells (b : Nat) : ∀ (vs : List Value) (o : Nat) (W : World), KeepsOthers W (W.setCells b o vs)
  | [], _, W => KeepsOthers.refl W
  | v :: r, o, W => by
    rw [World.setCells]
    exact (KeepsOthers.setCell W _ v).trans (keepsOthers_setCells b r (o + 1) _)

theorem roundIn_any {m m' : Nat} {P : Program} {l : Nat} {f : FuncId} {tmps : Array Value} {assign body : Code} {w : World} {R : Ending → World → Prop}
    (h : RoundIn Fence.wide m P l f tmps assign body w R) : RoundIn Fence.wide m' P l f tmps assign body w R := ⟨h.1, fun c cs _ => h.2 c cs (room_wide _)⟩

theorem below_putObj {B : Nat} {W : World} {l : Nat} (hl : B ≤ l) (o : Obj) : Below B W (W.putObj l o) := ⟨rfl, rfl, rfl, by simp, fun k hk => World.putObj_heap_other (by omega)⟩
theorem keepsFrom_low {B : Nat} {W : World} {l : Nat} (o : Obj) (hl : l < B) : KeepsFrom B W (W.putObj l o) :=
  ⟨by simp, fun k o' hk h _ => (World.putObj_heap_other (by omega)).trans h⟩
theorem keepsFrom_mono {B B' : Nat} {W W' : World} (h : KeepsFrom B W W') (hB : B ≤ B') : KeepsFrom B' W W' := ⟨h.size, fun k o hk => h.same k o (Nat.le_trans hB hk)⟩
/-- What an iterator promises, at the wide fence. 'G pre x W': what it tells of x, that it hands on behind pre, in the world W of that call of yield. 'Kp W W'': what a round that goes on keeps. -/
def SeqG {α : Type} (P : Program) (g : Nat) (lb : Array Value) (encs : α → Array Value) (Kp : World → World → Prop) (G : List α → α → World → Prop) (S Sp : List α → Prop) (w : World) : Prop :=
  ∀ (l : Nat) (J Jx : List α → World → Prop) (W : World), Below w.heap.size w W →
    (∀ pre A B, J pre A → Below W.heap.size A B → J pre B) → (∀ pre A B, Jx pre A → Below W.heap.size A B → Jx pre B) →
    (∀ pre x W1, J pre W1 → G pre x W1 → YieldAt Fence.wide 0 P l (encs x) W1 fun e W' =>
      (e = .returned (.bool true) ∧ J (pre ++ [x]) W' ∧ Kp W1 W' ∧ KeepsFrom W.heap.size W1 W') ∨ (e = .returned (.bool false) ∧ Jx (pre ++ [x]) W' ∧ KeepsFrom W.heap.size W1 W')) →
    J [] W →
    CallsIn Fence.wide 0 P g (#[.func (.yield l) #[] #[]] ++ lb) W fun e W' => (∃ v, e = .returned v) ∧ ((∃ xs, S xs ∧ J xs W') ∨ (∃ pre, Sp pre ∧ Jx pre W'))

/-- **The statement 'for x := range g { .. }' by an iterator's promise.** -/
theorem range_law {P : Program} {α : Type} {g : Operand} {ps : Array Tmp} {assign body : Code} {Q : Exit → Act → World → Prop} {a : Act} {w : World} {n : Nat}
    {gf : Nat} {lb : Array Value} (hg : a.eval g = .func (.func gf) #[] lb) (eg : ∀ args w, (callFunc gf args).run P w = .ok (.enter gf args) w)
    {encs : α → Array Value} {Kp : World → World → Prop} {G : List α → α → World → Prop} {S Sp : List α → Prop} {w0 : World} (hseq : SeqG P gf lb encs Kp G S Sp w0) (hb0 : Below w0.heap.size w0 w)
    (hKt : ∀ {A B C : World}, Kp A B → Kp B C → Kp A C) (hKb : ∀ (W : World) (l : Nat) (o o' : Obj), w.heap.size ≤ l → W.heap[l]? = some o → o.isCells = false → Kp W (W.putObj l o'))
    (hGb : ∀ (pre : List α) (x : α) (W : World) (l : Nat) (o o' : Obj), w.heap.size ≤ l → W.heap[l]? = some o → o.isCells = false → G pre x W → G pre x (W.putObj l o'))
    (hps : ∀ x, (encs x).size = ps.size)
    (I : List α → World → Prop) (Ix : Code → List α → World → Prop) (hI : ∀ pre A B, I pre A → Below w.heap.size A B → I pre B) (hIx : ∀ c pre A B, Ix c pre A → Below w.heap.size A B → Ix c pre B) (h0 : I [] w) (a₁ : α → Act)
    (hassign : ∀ (l : Nat) (x : α) (W : World) (K : Act → World → Prop), K (a₁ x) W →
      assign.wpIn (Fence.wide.inRound l) 0 P (Exit.then K (fun _ _ _ => False)) { tmps := (ps.zip (encs x)).foldl (fun t (p, v) => t.setIfInBounds p v) a.tmps, defers := [] } W)
    (hbody : ∀ (l : Nat) (pre : List α) (x : α) (W : World), w.heap.size ≤ l → I pre W → G pre x W → body.wpIn (Fence.wide.inRound l) 0 P (ownPostG w.heap.size Kp I Ix (pre ++ [x]) W) (a₁ x) W)
    (hdone : ∀ (D : Nat) (xs : List α) (W : World), w.heap.size ≤ D → S xs → I xs W → W.heap[D]? = some (.deferred (some [])) → Q .normal { a with defers := { target := .collected D, args := #[] } :: a.defers } W)
    (hstop : ∀ (D : Nat) (c : Code) (pre : List α) (W : World), w.heap.size ≤ D → Sp pre → Ix c pre W → W.heap[D]? = some (.deferred (some [])) → c.wpIn Fence.wide n P Q { a with defers := { target := .collected D, args := #[] } :: a.defers } W) :
    (Code.rangeFunc g ps assign body).wpIn Fence.wide n P Q a w := by
  refine wpIn_rangeFunc ?_
  intro fn hfn
  obtain ⟨rec, hrec⟩ : ∃ rec : LoopState → Option Code → Loop, rec = fun st pe => { state := st, pending := pe, fn, tmps := a.tmps, params := ps, assign, body, defers := w.heap.size } := ⟨_, rfl⟩
  obtain ⟨W1, hW1⟩ : ∃ W1, (w.alloc (.deferred (some []))).alloc (.loop (rec .ready none)) = W1 := ⟨_, rfl⟩
  have hsz : W1.heap.size = w.heap.size + 2 := by rw [← hW1]; simp
  have hL1 : W1.heap[w.heap.size + 1]? = some (.loop (rec .ready none)) := by
    rw [← hW1]; have := World.alloc_heap_new (w.alloc (.deferred (some []))) (.loop (rec .ready none)); rwa [World.size_alloc] at this
  have hK1 : W1.heap[w.heap.size]? = some (.deferred (some [])) := by
    rw [← hW1]; exact (Below.heap_alloc _ _ _ (by simp)).trans (World.alloc_heap_new w _)
  have hbw : Below w.heap.size w W1 := by rw [← hW1]; exact ((Below.refl _ w).alloc (Nat.le_refl _) _).alloc (by simp) _
  have put : ∀ (W : World) (l : Nat) (o o' : Obj), w.heap.size ≤ l → W.heap[l]? = some o → Below w.heap.size W (W.putObj l o') := fun W l o o' hl h =>
    ⟨rfl, rfl, rfl, by simp, fun k hk => World.putObj_heap_other (by omega)⟩
  refine ⟨w.heap.size + 1, [{ target := .collected w.heap.size, args := #[] }], W1, { target := .fn (.func gf) lb, args := #[.func (.yield (w.heap.size + 1)) #[] #[]] }, W1, gf,
    #[.func (.yield (w.heap.size + 1)) #[] #[]] ++ lb, W1, ?_, ?_, fun _ _ => trivial, ?_, fun h => by simp [Fence.wide] at h, ?_⟩
  · rw [← hW1, hrec]; exact run_enterLoop_outer _ _ _ _ _
  · simp only [resolve, hg]
    simp [go_sem]
  · simp [invoke, go_sem, eg]
  · have hcall := hseq (w.heap.size + 1)
      (fun pre W => I pre W ∧ W.heap[w.heap.size + 1]? = some (.loop (rec .ready none)) ∧ W.heap[w.heap.size]? = some (.deferred (some [])))
      (fun pre W => ∃ c, Ix c pre W ∧ W.heap[w.heap.size + 1]? = some (.loop (rec .done (some c))) ∧ W.heap[w.heap.size]? = some (.deferred (some [])))
      W1 (hb0.trans (hbw.mono hb0.size))
      (fun pre A B hs hB => ⟨hI pre A B hs.1 (hB.mono (by omega)), (hB.block _ (by omega)).trans hs.2.1, (hB.block _ (by omega)).trans hs.2.2⟩)
      (fun pre A B hs hB => by
        obtain ⟨c, hc, hl, hk⟩ := hs
        exact ⟨c, hIx c pre A B hc (hB.mono (by omega)), (hB.block _ (by omega)).trans hl, (hB.block _ (by omega)).trans hk⟩)
      ?_ ⟨hI _ _ _ h0 hbw, hL1, hK1⟩
    · have hcall' : CallsIn Fence.wide (n - 1) P gf (#[.func (.yield (w.heap.size + 1)) #[] #[]] ++ lb) W1 _ := callsIn_wide.2 (callsIn_wide.1 hcall)
      refine hcall'.mono ?_
      rintro e W2 ⟨⟨v, rfl⟩, (⟨xs, hS, hi, hl, hk⟩ | ⟨pre, hSp, c, hi, hl, hk⟩)⟩
      · exact ⟨none, _, by have := run_endLoop (P := P) hl (by rw [hrec]; simp); rw [hrec] at this; exact this, hdone _ xs _ (Nat.le_refl _) hS (hI _ _ _ hi (put _ _ _ _ (by omega) hl)) ((World.putObj_heap_other (by omega)).trans hk)⟩
      · exact ⟨some c, _, by have := run_endLoop (P := P) hl (by rw [hrec]; simp); rw [hrec] at this; exact this, hstop _ c pre _ (Nat.le_refl _) hSp (hIx _ _ _ _ hi (put _ _ _ _ (by omega) hl)) ((World.putObj_heap_other (by omega)).trans hk)⟩
    · rintro pre x W ⟨hi, hl, hk⟩ hG
      have hlt : w.heap.size + 1 < W.heap.size := (Array.getElem?_eq_some_iff.1 hl).1
      have hy := run_yield (P := P) (args := encs x) hl (by rw [hrec]; exact hps x)
      rw [hrec] at hy
      refine ⟨fn, _, assign, body, hy, roundIn_of_wpIn hfn (hassign _ x W _ ?_)⟩
      clear hy
      refine ⟨_, run_beginRound hl (by rw [hrec]), ?_⟩
      have hl2 : (W.putObj (w.heap.size + 1) (.loop { rec .ready none with state := .busy })).heap[w.heap.size + 1]? = some (.loop { rec .ready none with state := .busy }) := World.putObj_heap_same hlt
      have hk2 : (W.putObj (w.heap.size + 1) (.loop { rec .ready none with state := .busy })).heap[w.heap.size]? = some (.deferred (some [])) := (World.putObj_heap_other (by omega)).trans hk
      have hw2 : Kp W (W.putObj (w.heap.size + 1) (.loop { rec .ready none with state := .busy })) := hKb _ _ _ _ (by omega) hl rfl
      refine wpIn_mono (hbody _ pre x _ (by omega) (hI _ _ _ hi (put _ _ _ _ (by omega) hl)) (hGb _ _ _ _ _ _ (by omega) hl rfl hG)) ?_
      have fin : ∀ (jump : Option Code) (W3 : World), KeepsFrom w.heap.size (W.putObj (w.heap.size + 1) (.loop { rec .ready none with state := .busy })) W3 →
          (Instr.endRound (w.heap.size + 1) jump).run P W3 = .ok (.bool jump.isNone) (W3.putObj (w.heap.size + 1) (.loop (rec (if jump.isNone then .ready else .done) jump))) ∧
          W3.heap[w.heap.size + 1]? = some (.loop { rec .ready none with state := .busy }) ∧
          (W3.putObj (w.heap.size + 1) (.loop (rec (if jump.isNone then .ready else .done) jump))).heap[w.heap.size + 1]? = some (.loop (rec (if jump.isNone then .ready else .done) jump)) ∧
          (W3.putObj (w.heap.size + 1) (.loop (rec (if jump.isNone then .ready else .done) jump))).heap[w.heap.size]? = some (.deferred (some [])) := fun jump W3 hk3 => by
        have hl3 := hk3.same _ _ (by omega) hl2 rfl
        have := run_endRound (P := P) jump hl3
        rw [hrec] at this ⊢
        exact ⟨this, by rw [hrec] at hl3; exact hl3, World.putObj_heap_same (Array.getElem?_eq_some_iff.1 hl3).1, (World.putObj_heap_other (by omega)).trans (hk3.same _ _ (Nat.le_refl _) hk2 rfl)⟩
      have whole : ∀ (W3 : World) (o : Obj), KeepsFrom w.heap.size (W.putObj (w.heap.size + 1) (.loop { rec .ready none with state := .busy })) W3 → KeepsFrom W1.heap.size W (W3.putObj (w.heap.size + 1) o) := fun W3 o hk3 =>
        ((keepsFrom_low _ (by omega)).trans (keepsFrom_mono hk3 (by omega))).trans (keepsFrom_low _ (by omega))
      rintro e a3 W3 hp
      cases e with
      | normal =>
        obtain ⟨hk3, hkp3, hi3⟩ := hp
        obtain ⟨hr, hl3, hl4, hk4⟩ := fin none W3 hk3
        exact ⟨_, _, hr, .inl ⟨rfl, ⟨hI _ _ _ hi3 (put _ _ _ _ (by omega) hl3), hl4, hk4⟩, hKt (hKt hw2 hkp3) (hKb _ _ _ _ (by omega) hl3 rfl), whole _ _ hk3⟩⟩
      | ret =>
        obtain ⟨hk3, hi3⟩ := hp
        obtain ⟨hr, hl3, hl4, hk4⟩ := fin (some .ret) W3 hk3
        exact ⟨_, _, hr, .inr ⟨rfl, ⟨.ret, hIx _ _ _ _ hi3 (put _ _ _ _ (by omega) hl3), hl4, hk4⟩, whole _ _ hk3⟩⟩
      | exit id =>
        obtain ⟨hk3, hi3⟩ := hp
        obtain ⟨hr, hl3, hl4, hk4⟩ := fin (some (.exit id)) W3 hk3
        exact ⟨_, _, hr, .inr ⟨rfl, ⟨.exit id, hIx _ _ _ _ hi3 (put _ _ _ _ (by omega) hl3), hl4, hk4⟩, whole _ _ hk3⟩⟩
      | goto t =>
        obtain ⟨hk3, hi3⟩ := hp
        obtain ⟨hr, hl3, hl4, hk4⟩ := fin (some (.goto t)) W3 hk3
        exact ⟨_, _, hr, .inr ⟨rfl, ⟨.goto t, hIx _ _ _ _ hi3 (put _ _ _ _ (by omega) hl3), hl4, hk4⟩, whole _ _ hk3⟩⟩
      | panic ch => exact hp.elim
      | outgrown => exact hp.elim
end Go.Proofs.YtchpmdcacpjojaaDoor
/- Own words that all layers share: bytes as values, slices that read as lists, rows of a call's own, appends, conversions. -/
namespace Go.Proofs.YtchpmdcacpjojaaDoor
open Go.RowKit
set_option maxRecDepth 8000
set_option linter.all false
/-- A list's byte at a place. -/
def bAt (l : List UInt8) (i : Nat) : UInt8 := l.getD i 0
/-- Bytes as the model has them. -/
def bF (f : Nat → UInt8) : Nat → Value := fun i => .int .u8 (bN (f i))
theorem bF_at (s : Nat → UInt8) (i : Nat) : bF s i = .int .u8 (bN (s i)) := rfl
theorem info31 : (Tryd.prog.info? 32).map (·.size) = some 32 := by kernel_rfl
theorem made_row (n : Nat) (z : Value) : madeCells #[z] n = rowA n (fun _ => z) := by
  apply Array.ext_getElem?
  intro i
  by_cases h : i < n
  · rw [rowA_at _ _ _ h]; simp [madeCells, h, Nat.mod_one]
  · have h1 : (rowA n fun _ => z).size ≤ i := by rw [rowA_size]; omega
    rw [Array.getElem?_eq_none h1]; simp [madeCells]; omega
theorem ownsRow_row {w : World} {g : Nat} {t : TypeId} {c : Nat} {f : Nat → Value} (h : w.rowIs g t c f) (base k : Nat) (hk : k ≤ c) (hc : c ≤ maxLen) (hb : base ≤ g) :
    w.ownsRow base t 1 (.slice (some ⟨g, 0, none⟩) k c) k ((List.range k).map f) := by
  obtain ⟨cur, h1, h2, h3⟩ := h
  refine ⟨by simp, .inr ⟨g, c, cur, rfl, hb, h1, hk, hc, by omega, ?_⟩⟩
  apply List.ext_getElem?
  intro i
  rw [List.getElem?_take]
  by_cases hi : i < k
  · rw [if_pos (by omega)]
    have := h3 i (by omega)
    simpa [hi] using this
  · rw [if_neg (by omega)]
    simp [hi]
theorem info5 : (Tryd.prog.info? 5).map (fun i => (i.zero, i.size, i.bytes)) = some (some (.int .u8 0), 1, 1) := by kernel_rfl
theorem one_cell (w : World) (v : Value) (t : TypeId) : ∀ (j : Nat) (u : Value), [v][j]? = some u → (w.alloc (.cells #[v] t)).cell? ((⟨w.heap.size, 0, none⟩ : Addr).add j) = some u := by
  intro j u h
  cases j with
  | zero => simp at h; subst h; rw [Addr.add_zero']; exact World.cell?_alloc_at _ _ _ _ rfl
  | succ j => simp at h
theorem make_none (i0 : TypeInfo) (hi : Tryd.prog.info? 5 = some i0) (hz0 : i0.zero = some (.int .u8 0)) (hz1 : i0.size = 1) (hz2 : i0.bytes = 1) (W : World) :
    (Instr.makeSlice 49 (.int .i64 0) (.int .i64 64)).run Tryd.prog W = .ok (.slice (some ⟨W.heap.size, 0, none⟩) 0 64) (W.alloc (.cells (rowA 64 (bF fun _ => 0)) 5)) := by
  have := run_make (P := Tryd.prog) W 49 5 i0 _ Tryd.underlying49 hi hz0 .i64 .i64 0 64 (by omega) (by omega) (by rw [hz2]; omega) (by omega)
  rw [this, hz1]
  have e : madeCells (Value.int .u8 0).cells 64 = rowA 64 (bF fun _ => 0) := made_row 64 (.int .u8 0)
  exact congrArg (fun z => Result.ok _ (W.alloc (.cells z 5))) e
theorem two_cell (w : World) (u v : Value) (t : TypeId) : ∀ (j : Nat) (x : Value), [u, v][j]? = some x → (w.alloc (.cells #[u, v] t)).cell? ((⟨w.heap.size, 0, none⟩ : Addr).add j) = some x := by
  intro j x h
  rw [Addr.add_lit, World.cell?_alloc_at _ _ _ _ rfl]
  simpa using h
set_option maxRecDepth 20000 in
/-- A row of bytes of the call's own, as a string. -/
theorem conv_own {w : World} {base g n cap : Nat} {l : List UInt8} (h : w.ownsRow base 5 1 (.slice (some ⟨g, 0, none⟩) n cap) n (l.map fun b => .int .u8 (bN b))) (hl : l.length = n) :
    (convert 49 9 (.slice (some ⟨g, 0, none⟩) n cap)).run Tryd.prog w = .ok (.string ⟨l.toArray⟩) w := by
  have hc := h.cells (g := g) rfl
  have := run_convert_bytes_arg (P := Tryd.prog) w 49 5 Tryd.underlying49 Tryd.underlying5 g 0 n cap (l.map bN) (by simpa using hl) (fun i hi => by
    have := hc i (.int .u8 (bN (bAt l i))) (by simp [bAt, show i < l.length by omega])
    rw [Addr.add_mid] at this
    rw [this]
    simp [bAt, show i < l.length by omega]) 9 Tryd.underlying9
  rw [this]
  have e : strOfNums (l.map bN) = ⟨l.toArray⟩ := by
    unfold strOfNums
    congr 2
    rw [List.map_map]
    conv => rhs; rw [← List.map_id l]
    exact List.map_congr_left fun b _ => by simp [bN]
  rw [e]
/-- A slice of bytes reads as l, outside the blocks of L. -/
def RdV (W : World) (L : List Nat) (v : Value) (l : List UInt8) : Prop :=
  ∃ A cap, v = .slice A l.length cap ∧ l.length ≤ cap ∧ cap ≤ maxLen ∧
    (0 < l.length → ∃ b o, A = some ⟨b, o, none⟩ ∧ b ∉ L ∧ ∀ i, i < l.length → W.cell? ⟨b, o + i, none⟩ = some (.int .u8 (bN (bAt l i))))
theorem RdV.keep {W W' : World} {L : List Nat} {v : Value} {l : List UInt8} (h : RdV W L v l) (hk : KeepBut L W W') : RdV W' L v l := by
  obtain ⟨A, cap, hv, h1, h2, h3⟩ := h
  refine ⟨A, cap, hv, h1, h2, fun h0 => ?_⟩
  obtain ⟨b, o, hA, hb, hc⟩ := h3 h0
  exact ⟨b, o, hA, hb, fun i hi => hk.cell hb (hc i hi)⟩
/-- A slice of slices of bytes. -/
def PartsAt (W : World) (L : List Nat) (v : Value) (ps : List (Value × List UInt8)) : Prop :=
  ∃ A cap, v = .slice A ps.length cap ∧ ps.length ≤ cap ∧ cap ≤ maxLen ∧
    (0 < ps.length → ∃ b o, A = some ⟨b, o, none⟩ ∧ b ∉ L ∧ ∀ i x, ps[i]? = some x → W.cell? ⟨b, o + i, none⟩ = some x.1) ∧ ∀ x ∈ ps, RdV W L x.1 x.2
theorem PartsAt.keep {W W' : World} {L : List Nat} {v : Value} {ps : List (Value × List UInt8)} (h : PartsAt W L v ps) (hk : KeepBut L W W') : PartsAt W' L v ps := by
  obtain ⟨A, cap, hv, h1, h2, h3, h4⟩ := h
  refine ⟨A, cap, hv, h1, h2, fun h0 => ?_, fun x hx => (h4 x hx).keep hk⟩
  obtain ⟨b, o, hA, hb, hc⟩ := h3 h0
  exact ⟨b, o, hA, hb, fun i x hx => hk.cell hb (hc i x hx)⟩
/-- How many bytes there are together. -/
def total (ps : List (Value × List UInt8)) : Nat := (ps.map fun x => x.2.length).sum
theorem total_snoc (ps : List (Value × List UInt8)) (x : Value × List UInt8) : total (ps ++ [x]) = total ps + x.2.length := by simp [total]
theorem total_take (ps : List (Value × List UInt8)) (k : Nat) : total (ps.take k) ≤ total ps := by
  have h := congrArg total (List.take_append_drop k ps)
  have e : total (ps.take k ++ ps.drop k) = total (ps.take k) + total (ps.drop k) := by
    unfold total; rw [List.map_append, List.sum_append]
  omega
def flat (ps : List (Value × List UInt8)) : List UInt8 := (ps.map (·.2)).flatten
theorem flat_snoc (ps : List (Value × List UInt8)) (x : Value × List UInt8) : flat (ps ++ [x]) = flat ps ++ x.2 := by simp [flat]
theorem RdV.more {W : World} {L L' : List Nat} {v : Value} {l : List UInt8} (h : RdV W L v l) (hL : ∀ k, k < W.heap.size → k ∉ L → k ∉ L') : RdV W L' v l := by
  obtain ⟨A, cap, hv, h1, h2, h3⟩ := h
  refine ⟨A, cap, hv, h1, h2, fun h0 => ?_⟩
  obtain ⟨b, o, hA, hb, hc⟩ := h3 h0
  have hlt : b < W.heap.size := World.block_lt_of_cell? _ _ (hc 0 h0)
  exact ⟨b, o, hA, hL b hlt hb, hc⟩
theorem PartsAt.more {W : World} {L L' : List Nat} {v : Value} {ps : List (Value × List UInt8)} (h : PartsAt W L v ps) (hL : ∀ k, k < W.heap.size → k ∉ L → k ∉ L') : PartsAt W L' v ps := by
  obtain ⟨A, cap, hv, h1, h2, h3, h4⟩ := h
  refine ⟨A, cap, hv, h1, h2, fun h0 => ?_, fun x hx => (h4 x hx).more hL⟩
  obtain ⟨b, o, hA, hb, hc⟩ := h3 h0
  have hlt : b < W.heap.size := World.block_lt_of_cell? _ _ (hc 0 _ (List.getElem?_eq_getElem h0))
  exact ⟨b, o, hA, hL b hlt hb, hc⟩
theorem ownsRow_keep {W W' : World} {base g n cap : Nat} {e : TypeId} {xs : List Value} (h : W.ownsRow base e 1 (.slice (some ⟨g, 0, none⟩) n cap) n xs) (hk : ∀ o : Obj, o.isCells = true → W.heap[g]? = some o → W'.heap[g]? = some o) :
    W'.ownsRow base e 1 (.slice (some ⟨g, 0, none⟩) n cap) n xs := by
  obtain ⟨h1, h2⟩ := h
  refine ⟨h1, ?_⟩
  rcases h2 with ⟨h, _⟩ | ⟨g', cap', cur, hv, hb, hh, r⟩
  · cases h
  · cases hv
    exact .inr ⟨g, cap, cur, rfl, hb, hk _ rfl hh, r⟩
theorem ownsRow_none {W : World} {base g n cap : Nat} {e : TypeId} {xs : List Value} (h : W.ownsRow base e 1 (.slice (some ⟨g, 0, none⟩) n cap) n xs) : W.ownsRow base e 1 (.slice (some ⟨g, 0, none⟩) 0 cap) 0 [] := by
  obtain ⟨_, h2⟩ := h
  rcases h2 with ⟨h, _⟩ | ⟨g', cap', cur, hv, hb, hh, _, hm, hs, _⟩
  · cases h
  · cases hv
    exact ⟨rfl, .inr ⟨g, cap, cur, rfl, hb, hh, Nat.zero_le _, hm, hs, by simp⟩⟩
theorem map_at (l : List UInt8) (i : Nat) (hi : i < l.length) : (l.map fun b => Value.int .u8 (bN b))[i]? = some (.int .u8 (bN (bAt l i))) := by simp [bAt, hi]
theorem cells_take {W : World} {q : List UInt8} {b o m : Nat} (hm : m ≤ q.length) (h : ∀ i, i < q.length → W.cell? ⟨b, o + i, none⟩ = some (.int .u8 (bN (bAt q i)))) :
    ∀ j u, ((q.take m).map fun b => Value.int .u8 (bN b))[j]? = some u → W.cell? ((⟨b, o, none⟩ : Addr).add j) = some u := by
  intro j u hj
  rw [Addr.add_mid]
  have hjm : j < m := by
    have := (List.getElem?_eq_some_iff.1 hj).1
    simp at this; omega
  rw [h j (by omega)]
  rw [List.getElem?_map, List.getElem?_take, if_pos hjm, List.getElem?_eq_getElem (by omega)] at hj
  simp at hj
  rw [← hj]
  simp [bAt, show j < q.length by omega]
theorem run_forIn_yields {P : Program} {w : World} {α σ : Type} (f : α → σ → Sem (ForInStep σ)) (s : σ) : ∀ (l : List α), (∀ a ∈ l, (f a s).run P w = .ok (.yield s) w) → (forIn l s f).run P w = .ok s w
  | [], _ => by simp [Sem.run_pure]
  | a :: l, h => by
    rw [List.forIn_cons, Sem.run_bind, h a (by simp)]
    exact run_forIn_yields f s l fun b hb => h b (by simp [hb])
/-- An array by value is the same as itself. -/
theorem equalIn_same {P : Program} (w : World) (d : Nat) (t e : TypeId) (n : Nat) (k : IntKind) (ht : P.underlying t = some (.array n e)) (he : P.underlying e = some (.int k)) (hs : (P.info? e).map (·.size) = some 1) (f : Nat → Int) :
    (Op.equalIn (d + 2) t (.agg (rowA n fun i => .int k (f i))) (.agg (rowA n fun i => .int k (f i)))).run P w = .ok true w := by
  have hsz : (sizeOf e).run P w = .ok 1 w := by
    cases hq : P.info? e with
    | none => simp [hq] at hs
    | some i => simp [hq] at hs; simp [sizeOf, typeInfo, hq, hs]
  have hagg : (isAgg e).run P w = .ok false w := by
    unfold isAgg
    rw [Sem.run_bind, run_underlying he w]
    rfl
  have hpart : ∀ i, i < n → (part e (rowA n fun i => .int k (f i)) i).run P w = .ok (.int k (f i)) w := fun i hi => by
    simp [part, hagg, rowA_at n (fun i => .int k (f i)) i hi]
  rw [Op.equalIn, Sem.run_bind, run_underlying ht w]
  simp only [Result.andThen_ok, Sem.run_bind, hsz, Std.Legacy.Range.forIn_eq_forIn_range', Std.Legacy.Range.size, Nat.sub_zero, Nat.add_one_sub_one, Nat.div_one]
  rw [run_forIn_yields _ _ _ (fun i hi => by
    have hi' : i < n := by simpa [List.mem_range'] using hi
    simp [hpart i hi', run_equalIn_int w d e k k _ _ he])]
  rfl
theorem eql_same {P : Program} (w : World) (t e : TypeId) (n : Nat) (k : IntKind) (ht : P.underlying t = some (.array n e)) (he : P.underlying e = some (.int k)) (hs : (P.info? e).map (·.size) = some 1) (f : Nat → Int) :
    (binOp .eql t (.agg (rowA n fun i => .int k (f i))) (.agg (rowA n fun i => .int k (f i)))).run P w = .ok (.bool true) w := by
  rw [run_eql_struct, equalIn_same w 9998 t e n k ht he hs f]; rfl
/-- A row of the call's own reads as a list. -/
theorem rdV_own {W : World} {base : Nat} {v : Value} {n : Nat} {l : List UInt8} {L : List Nat} (h : W.ownsRow base 5 1 v n (l.map fun b => .int .u8 (bN b))) (hl : l.length = n) (hL : ∀ k ∈ L, k < base) : RdV W L v l := by
  subst hl
  rcases h.2 with ⟨rfl, h0⟩ | ⟨g, cap, cur, rfl, hb, _, hnc, hcm, _, _⟩
  · have : l = [] := List.eq_nil_of_length_eq_zero h0
    subst this
    exact ⟨none, 0, rfl, Nat.le_refl _, by unfold maxLen; omega, fun h => absurd h (by simp)⟩
  · refine ⟨some ⟨g, 0, none⟩, cap, rfl, hnc, hcm, fun _ => ⟨g, 0, rfl, fun hm => by have := hL g hm; omega, fun i hi => ?_⟩⟩
    have hc := h.cells (g := g) rfl i (.int .u8 (bN (bAt l i))) (map_at l i hi)
    rwa [Addr.add_mid] at hc
theorem run_append_rd {P : Program} {W : World} {L : List Nat} {base : Nat} {t ty : TypeId} {i0 : TypeInfo} (ht : P.underlying t = some (.slice 5)) (hi : P.info? 5 = some i0) (hz0 : i0.zero = some (.int .u8 0)) (hz1 : i0.size = 1) (hz2 : i0.bytes = 1)
    {v : Value} {n : Nat} {xs : List Value} (hown : W.ownsRow base 5 1 v n xs) {u : Value} {l : List UInt8} (hr : RdV W L u l) (hn : n + l.length ≤ 1000000) (hbase : base ≤ W.heap.size) :
    ∃ v' w', (Builtin.append_ #[t, t] ty #[v, u]).run P W = .ok v' w' ∧ w'.ownsRow base 5 1 v' (n + l.length) (xs ++ l.map fun b => .int .u8 (bN b)) ∧ W.grownBy w' v.ownBlock := by
  obtain ⟨A, cap, rfl, h1, h2, h3⟩ := hr
  cases A with
  | none =>
    have h0 : l = [] := by
      cases l with
      | nil => rfl
      | cons b l => obtain ⟨_, _, h, _⟩ := h3 (by simp); cases h
    subst h0
    refine ⟨v, W, ?_, by simpa using hown, World.grownBy.refl W _⟩
    rcases hown.2 with ⟨rfl, rfl⟩ | ⟨g, cap', cur, rfl, _, _, hnc, _⟩
    · simp [Builtin.append_, run_underlying ht, sizeOf, typeInfo, hi, Builtin.lenOf, Builtin.firstCells]
    · simp [Builtin.append_, run_underlying ht, sizeOf, typeInfo, hi, Builtin.lenOf, Builtin.firstCells, hnc, storeCells]
  | some ad =>
    have hcells : ∀ j u, (l.map fun b => Value.int .u8 (bN b))[j]? = some u → W.cell? (ad.add j) = some u := fun j u hj => by
      have hjl : j < l.length := by have := (List.getElem?_eq_some_iff.1 hj).1; simpa using this
      obtain ⟨b, o, hA, _, hc⟩ := h3 (by omega)
      cases hA
      rw [Addr.add_mid, hc j hjl, ← map_at l j hjl, hj]
    obtain ⟨v', w', hrun, ho, hg, _⟩ := run_append_own (P := P) W base t ty 5 i0 _ 1 1 ht hi hz0 hz1 hz2 rfl (by omega) v n xs hown ad l.length cap (l.map fun b => .int .u8 (bN b)) (by simp) hcells
      (fun u hu => by obtain ⟨b, _, rfl⟩ := List.mem_map.1 hu; rfl) (by unfold maxLen; omega) (by omega) hbase
    exact ⟨v', w', hrun, ho, hg⟩
theorem wpList_append_rd {P : Program} {W : World} {ops : Array Oper} {rest : List Oper} {o : Oper} {a : Act} {Q : Exit → Act → World → Prop} (hgd : o.guard = none) (s x : Operand) (t : TypeId)
    (ho : o.op = .call { callee := .builtin .append, args := #[s, x], argTypes := #[t, t] }) {L : List Nat} {base : Nat} {i0 : TypeInfo} (ht : P.underlying t = some (.slice 5)) (hi : P.info? 5 = some i0) (hz0 : i0.zero = some (.int .u8 0)) (hz1 : i0.size = 1) (hz2 : i0.bytes = 1)
    {v : Value} {n : Nat} {xs : List Value} (hs : a.eval s = v) (hown : W.ownsRow base 5 1 v n xs) {u : Value} {l : List UInt8} (hx : a.eval x = u) (hr : RdV W L u l) (hn : n + l.length ≤ 1000000) (hbase : base ≤ W.heap.size)
    (h : ∀ v' w', w'.ownsRow base 5 1 v' (n + l.length) (xs ++ l.map fun b => .int .u8 (bN b)) → W.grownBy w' v.ownBlock → wpList P ops Q rest (a.put o.dst v') w') : wpList P ops Q (o :: rest) a W :=
  wpList_plain hgd fun _ hK => by
    obtain ⟨v', w', hrun, h2, h3⟩ := run_append_rd (P := P) (ty := o.type) ht hi hz0 hz1 hz2 hown hr hn hbase
    unfold Oper.wp execOp
    simp only [ho, resolve, invoke, builtin, Sem.run_bind, Sem.run_pure, Result.andThen_ok, List.map_toArray, List.map_cons, List.map_nil, hs, hx, hrun]
    exact hK _ _ (h v' w' h2 h3)
/-- A slice of slices, made of those that are handed in one by one. -/
theorem parts_new {W : World} {L : List Nat} (ps : List (Value × List UInt8)) (t : TypeId) (hL : ∀ k ∈ L, k < W.heap.size) (hn : ps.length ≤ 1000) (h : ∀ x ∈ ps, RdV W L x.1 x.2) :
    PartsAt (W.alloc (.cells (ps.map (·.1)).toArray t)) L (.slice (some ⟨W.heap.size, 0, none⟩) ps.length ps.length) ps := by
  refine ⟨_, ps.length, rfl, Nat.le_refl _, by unfold maxLen; omega, fun _ => ⟨W.heap.size, 0, rfl, fun hm => by have := hL _ hm; omega, fun i x hx => ?_⟩, fun x hx => (h x hx).keep (KeepBut.alloc W _)⟩
  have hb : (W.alloc (.cells (ps.map (·.1)).toArray t)).cell? ⟨W.heap.size, 0 + i, none⟩ = (ps.map (·.1)).toArray[0 + i]? := World.cell?_alloc_at _ _ _ _ rfl
  rw [hb, Nat.zero_add]
  simp [hx]
/-- A row that may be written whole. -/
def RowW (W : World) (g n : Nat) : Prop := ∃ t f, W.rowIs g t n f
theorem run_storeB {W : World} {g n : Nat} (h : RowW W g n) (f : Nat → UInt8) : (storeCells ⟨g, 0, none⟩ (rowA n (bF f)).toList).run Tryd.prog W = .ok () (W.setCells g 0 (rowA n (bF f)).toList) := by
  obtain ⟨t, z, r⟩ := h
  have := run_storeCells_cells (P := Tryd.prog) g 0 (rowA n (bF f)).toList 0 W (fun j hj => by simpa using (there_row r j (by rw [rowA_toList] at hj; simpa using hj)).1) (fun j hj => by simpa using (there_row r j (by rw [rowA_toList] at hj; simpa using hj)).2)
    (fun v hv => by rw [rowA_toList] at hv; obtain ⟨i, _, rfl⟩ := List.mem_map.1 hv; rfl)
  simpa using this
theorem flat_length (ps : List (Value × List UInt8)) : (flat ps).length = total ps := by simp [flat, total, Function.comp_def]
theorem modify_push (a : Array Obj) (x : Obj) (f : Obj → Obj) : (a.push x).modify a.size f = a.push (f x) := by
  apply Array.ext
  · simp
  · intro i h1 h2
    simp only [Array.getElem_modify, Array.getElem_push]
    by_cases h : a.size = i
    · subst h; simp
    · have hi : i < a.size := by simp at h1; omega
      simp [h, hi]
/-- '[]byte("..")' of a text that is known, as the model has it: its row is marked behind its end. -/
theorem conv_bytes (W : World) (C : Array Value) (g n c : Nat) (h : W.heap.size = g) : (convert 49 49 (.slice (some ⟨g, 0, none⟩) n c)).run Tryd.prog (W.alloc (.cells C 5)) = .ok (.slice (some ⟨g, 0, none⟩) n c) (W.alloc (.cells C 5 (C.size, C.size + 1))) := by
  subst h
  have hsh : (W.alloc (.cells C 5)).shape? W.heap.size = some (5, C.size) := by
    unfold World.shape?; rw [World.alloc_heap_new]
  have hfr : (W.alloc (.cells C 5)).freeze ⟨W.heap.size, C.size, none⟩ 1 = W.alloc (.cells C 5 (C.size, C.size + 1)) := by
    unfold World.freeze
    rw [if_neg (by decide)]
    show ({ W.alloc (.cells C 5) with heap := (W.heap.push (.cells C 5)).modify W.heap.size _ } : World) = _
    rw [modify_push]
    rfl
  simp [convert, run_underlying Tryd.underlying49, run_underlying Tryd.underlying5, markStringish, hsh, hfr]
theorem cell_new_fr (W : World) (C : Array Value) (t : TypeId) (fr : Nat × Nat) (g i : Nat) (h : g = W.heap.size) : (W.alloc (.cells C t fr)).cell? ⟨g, i, none⟩ = C[i]? := by
  subst h
  unfold World.cell?
  rw [World.alloc_heap_new W (.cells C t fr)]
  rfl
theorem str_eq {a b : ByteArray} (h : a = b) (w : World) : (binOp .eql 9 (.string a) (.string b)).run Tryd.prog w = .ok (.bool true) w := by
  subst h; simp [go_sem]
theorem rdV_lit {W : World} {g : Nat} {l : List UInt8} {cap : Nat} (hc : l.length ≤ cap) (hm : cap ≤ maxLen) (h : ∀ i, i < l.length → W.cell? ⟨g, i, none⟩ = some (.int .u8 (bN (bAt l i)))) : RdV W [] (.slice (some ⟨g, 0, none⟩) l.length cap) l :=
  ⟨some ⟨g, 0, none⟩, cap, rfl, hc, hm, fun _ => ⟨g, 0, rfl, by simp, fun i hi => by rw [Nat.zero_add]; exact h i hi⟩⟩
theorem rdV_form {W : World} {L : List Nat} {v : Value} {l : List UInt8} (h : RdV W L v l) : ∃ A cap, v = .slice A l.length cap := by
  obtain ⟨A, cap, h, _⟩ := h; exact ⟨A, cap, h⟩
theorem info5s : (Tryd.prog.info? 5).map (·.size) = some 1 := by kernel_rfl
theorem eql_hash (w : World) (d : Nat → UInt8) : (binOp .eql 32 (.agg (rowA 32 (bF d))) (.agg (rowA 32 (bF d)))).run Tryd.prog w = .ok (.bool true) w :=
  eql_same w 32 5 32 .u8 Tryd.underlying32 Tryd.underlying5 info5s (fun i => bN (d i))
theorem equal_hash (w : World) (d : Nat → UInt8) : (Op.equalIn 10000 32 (.agg (rowA 32 (bF d))) (.agg (rowA 32 (bF d)))).run Tryd.prog w = .ok true w :=
  equalIn_same w 9998 32 5 32 .u8 Tryd.underlying32 Tryd.underlying5 info5s (fun i => bN (d i))
theorem slice_to (A : Option Addr) (n cap m : Nat) (hm : m ≤ cap) (w : World) : (Instr.slice 49 (.slice A n cap) none (some (.int .i64 (m : Int))) none).run Tryd.prog w = .ok (.slice A m cap) w := by
  have hsz : (sizeOf 5).run Tryd.prog w = .ok 1 w := by
    obtain ⟨i0, hi, _, hz1, _⟩ := info_parts info5
    simp [sizeOf, typeInfo, hi, hz1]
  cases A with
  | none => simp [Instr.slice, run_underlying Tryd.underlying49, Instr.sliceBounds, Instr.sliceBound, asIntOf, hm, hsz]
  | some a =>
    have : a.add 0 = a := by rcases a with ⟨b, o, p⟩; cases p <;> rfl
    simp [Instr.slice, run_underlying Tryd.underlying49, Instr.sliceBounds, Instr.sliceBound, asIntOf, hm, hsz, this]
theorem RdV.less {W : World} {L L' : List Nat} {v : Value} {l : List UInt8} (h : RdV W L v l) (hL : ∀ k ∈ L', k ∈ L) : RdV W L' v l := by
  obtain ⟨A, cap, hv, h1, h2, h3⟩ := h
  refine ⟨A, cap, hv, h1, h2, fun h0 => ?_⟩
  obtain ⟨b, o, hA, hb, hc⟩ := h3 h0
  exact ⟨b, o, hA, fun hm => hb (hL b hm), hc⟩
theorem keepBut_grown {w w' : World} {row : Option Nat} (hg : w.grownBy w' row) {L : List Nat} (hL : ∀ k, row = some k → k ∈ L) : KeepBut L w w' :=
  ⟨hg.size, fun k o hk ho _ => by
    have hlt : k < w.heap.size := by
      rcases Nat.lt_or_ge k w.heap.size with h | h
      · exact h
      · rw [Array.getElem?_eq_none h] at ho; cases ho
    rw [hg.block k hlt (fun e => hk (hL k e.symm))]; exact ho⟩
end Go.Proofs.YtchpmdcacpjojaaDoor
/- Own words that all layers share, for regions gone through once: new memory alone is made; what values stand for; an operation, a lemma. -/
namespace Go.Proofs.YtchpmdcacpjojaaDoor
open Go Go.RowKit
set_option maxRecDepth 8000
set_option linter.all false
/-- A name for a term, the equation hidden. -/
theorem hid_ex {α : Type} (x : α) : ∃ d, Hid (x = d) := ⟨x, Lib.hid rfl⟩
/-- From one world to another one new memory alone was made. -/
def NewT (w w' : World) : Prop := Below w.heap.size w w'
theorem NewT.refl (w : World) : NewT w w := Below.refl _ w
theorem NewT.trans (a b c : World) (h : NewT a b) (k : NewT b c) : NewT a c := Below.trans h (Below.mono k (Below.size h))
theorem NewT.drew (w : World) : NewT w w.drew := (Below.refl _ w).drew
theorem NewT.of {w w' : World} (h : Below w.heap.size w w') : NewT w w' := h
theorem NewT.out {w w' : World} (h : NewT w w') : Below w.heap.size w w' := h
theorem NewT.alloc (w : World) (o : Obj) : NewT w (w.alloc o) := (Below.refl _ w).alloc (Nat.le_refl _) _
theorem NewT.rd {w w' : World} (h : NewT w w') {L : List Nat} {v : Value} {l : List UInt8} (hr : RdV w L v l) : RdV w' L v l := hr.keep (KeepBut.below h)
theorem NewT.parts {w w' : World} (h : NewT w w') {L : List Nat} {v : Value} {ps : List (Value × List UInt8)} (hr : PartsAt w L v ps) : PartsAt w' L v ps := hr.keep (KeepBut.below h)
theorem NewT.row {w w' : World} (h : NewT w w') {b : Nat} {t : TypeId} {n : Nat} {f : Nat → Value} (hr : w.rowIs b t n f) : w'.rowIs b t n f := rowIs_below hr h hr.lt
/-- It reads as l. -/
def svRd (l : List UInt8) : SV NewT := ⟨fun v w => RdV w [] v l, fun _ _ _ h hT => hT.rd h⟩
/-- Slices of bytes, one behind the other, that read as ls. -/
def Parts (w : World) (v : Value) (ls : List (List UInt8)) : Prop := ∃ ps, PartsAt w [] v ps ∧ ps.map (·.2) = ls
theorem NewT.partsL {w w' : World} (h : NewT w w') {v : Value} {ls : List (List UInt8)} (hr : Parts w v ls) : Parts w' v ls := by
  obtain ⟨ps, h1, h2⟩ := hr; exact ⟨ps, h.parts h1, h2⟩
def svParts (ls : List (List UInt8)) : SV NewT := ⟨fun v w => Parts w v ls, fun _ _ _ h hT => hT.partsL h⟩

section
variable {P : Program} {a : Act} {w : World} {o : Oper} {K : Act → World → Prop} {Q : Exit → Act → World → Prop} {g : Option (Tmp × Bool)}
theorem relyEnd_nil {T : World → World → Prop} {C : List (SV T)} {l : List Oper} (hl : l = []) (h : Q .normal a w) : relyEnd Q T l C a w := by subst hl; exact ⟨h⟩
theorem rely_wp (hg : relyGuard g a = true) (h : o.wp P a w K Q) : if relyGuard g a then o.wp P a w K Q else K (a.put o.dst undef) w := by rw [if_pos hg]; exact h
theorem rely_skip (hg : relyGuard g a = false) (h : K (a.put o.dst undef) w) : if relyGuard g a then o.wp P a w K Q else K (a.put o.dst undef) w := by rw [hg]; exact h
theorem rely_guard {d : Tmp} {b : Bool} (h : a.tmps.getD d undef = .bool b) : relyGuard (some (d, b)) a = true := by simp only [relyGuard, h]; cases b <;> rfl
theorem rely_guard_no {d : Tmp} {b c : Bool} (h : a.tmps.getD d undef = .bool c) (hb : c ≠ b) : relyGuard (some (d, b)) a = false := by simp only [relyGuard, h]; simpa using hb
theorem rely_guard_undef {d : Tmp} {b : Bool} (h : a.tmps.getD d undef = undef) : relyGuard (some (d, b)) a = false := by simp only [relyGuard, h]; rfl
/-- A value of the frame is moved. -/
theorem opr_move {x : Operand} (ho : o.op = .move x ∨ o.op = .assign x) (h : K (a.put o.dst (a.eval x)) w) : o.wp P a w K Q := by
  obtain ⟨dst, op, type, pos, after, guard⟩ := o
  rcases ho with ho | ho
  all_goals
    simp only at ho
    subst ho
    simpa [Oper.wp, execOp, Oper.upon, Sem.run_pure] using h
theorem opr_pick_true {c x y : Operand} (ho : o.op = .pick c x y) (hc : a.eval c = .bool true) (h : K (a.put o.dst (a.eval x)) w) : o.wp P a w K Q := by
  obtain ⟨dst, op, type, pos, after, guard⟩ := o
  simp only at ho
  subst ho
  simpa [Oper.wp, execOp, hc, asBool, Oper.upon, Sem.run_pure] using h
theorem opr_pick_false {c x y : Operand} (ho : o.op = .pick c x y) (hc : a.eval c = .bool false) (h : K (a.put o.dst (a.eval y)) w) : o.wp P a w K Q := by
  obtain ⟨dst, op, type, pos, after, guard⟩ := o
  simp only at ho
  subst ho
  simpa [Oper.wp, execOp, hc, asBool, Oper.upon, Sem.run_pure] using h
/-- An operation that yields a value. -/
theorem opr_val {s : Sem Value} {v : Value} {w' : World} (ho : execOp a.eval o = (do pure (.value (← s)))) (hr : s.run P w = .ok v w') (h : K (a.put o.dst v) w') : o.wp P a w K Q := by
  simpa [Oper.wp, ho, hr, Oper.upon, Sem.run_pure, Sem.run_bind] using h
theorem opr_unit {s : Sem Unit} {w' : World} (ho : execOp a.eval o = (do s; pure .skip)) (hr : s.run P w = .ok () w') (h : K (a.put o.dst undef) w') : o.wp P a w K Q := by
  simpa [Oper.wp, ho, hr, Oper.upon, Sem.run_pure, Sem.run_bind] using h
theorem run_callFunc_go {f : Nat} {fn : Func} {vs : Array Value} (hf : P.funcs[f]? = some fn) (hn : (fn.name == "runtime.NumGoroutine") = false) (hb : fn.body.isNone = false) : (callFunc f vs).run P w = .ok (.enter f vs) w := by
  unfold callFunc
  rw [Sem.run_bind, run_program]
  simp only [Result.andThen_ok, hf, hn, hb, Bool.false_eq_true, if_false]
  exact Sem.run_pure ..
/-- A Go function is called. -/
theorem opr_call {f : Nat} {fn : Func} {args : Array Operand} {vs : Array Value} {ts : Array TypeId} (ho : o.op = .call { callee := .value (.func f), args := args, argTypes := ts }) (hf : P.funcs[f]? = some fn)
    (hn : (fn.name == "runtime.NumGoroutine") = false) (hb : fn.body.isNone = false) (hv : args.map a.eval = vs)
    (h : Calls P f vs w fun e w' => ∃ v, e = .returned v ∧ K (a.put o.dst v) w') : o.wp P a w K Q := by
  obtain ⟨dst, op, type, pos, after, guard⟩ := o
  simp only at ho
  subst ho
  subst hv
  unfold Oper.wp
  rw [execOp_call_go, show #[] ++ args.map a.eval ++ #[] = args.map a.eval by simp, run_callFunc_go hf hn hb, Oper.upon_enter]
  refine h.mono ?_
  rintro e w' ⟨v, rfl, hk⟩
  exact hk
theorem eval_tmp (t : Tmp) : a.eval (.tmp t) = a.tmps.getD t undef := rfl
end
theorem run_forIn_eqs {P : Program} {w : World} {α σ : Type} (f : α → σ → Sem (ForInStep σ)) (s s' : σ) (p : α → Bool) : ∀ (l : List α), (∀ a ∈ l, (f a s).run P w = .ok (if p a then .yield s else .done s') w) → (forIn l s f).run P w = .ok (if l.all p then s else s') w
  | [], _ => by simp [Sem.run_pure]
  | a :: l, h => by
    rw [List.forIn_cons, Sem.run_bind, h a (by simp)]
    by_cases hp : p a
    · simp only [hp, if_true, Result.andThen_ok, List.all_cons, Bool.true_and]
      exact run_forIn_eqs f s s' p l fun b hb => h b (by simp [hb])
    · simp [hp, Sem.run_pure]
/-- Two arrays by value. -/
theorem equalIn_arr {P : Program} (w : World) (d : Nat) (t e : TypeId) (n : Nat) (k : IntKind) (ht : P.underlying t = some (.array n e)) (he : P.underlying e = some (.int k)) (hs : (P.info? e).map (·.size) = some 1) (f g : Nat → Int) :
    (Op.equalIn (d + 2) t (.agg (rowA n fun i => .int k (f i))) (.agg (rowA n fun i => .int k (g i)))).run P w = .ok ((List.range n).all fun i => f i == g i) w := by
  have hsz : (sizeOf e).run P w = .ok 1 w := by
    cases hq : P.info? e with
    | none => simp [hq] at hs
    | some i => simp [hq] at hs; simp [sizeOf, typeInfo, hq, hs]
  have hagg : (isAgg e).run P w = .ok false w := by
    unfold isAgg
    rw [Sem.run_bind, run_underlying he w]
    rfl
  have hpart : ∀ (f : Nat → Int) i, i < n → (part e (rowA n fun i => .int k (f i)) i).run P w = .ok (.int k (f i)) w := fun f i hi => by
    simp [part, hagg, rowA_at n (fun i => .int k (f i)) i hi]
  rw [Op.equalIn, Sem.run_bind, run_underlying ht w]
  simp only [Result.andThen_ok, Sem.run_bind, hsz, Std.Legacy.Range.forIn_eq_forIn_range', Std.Legacy.Range.size, Nat.sub_zero, Nat.add_one_sub_one, Nat.div_one]
  rw [run_forIn_eqs _ _ ⟨some false, PUnit.unit⟩ (fun i => f i == g i) _ (fun i hi => by
    have hi' : i < n := by simpa [List.mem_range'] using hi
    by_cases hfg : f i = g i
    · simp [hpart f i hi', hpart g i hi', run_equalIn_int w d e k k _ _ he, hfg]
    · simp [hpart f i hi', hpart g i hi', run_equalIn_int w d e k k _ _ he, hfg])]
  rw [← List.range_eq_range']
  by_cases h : (List.range n).all fun i => f i == g i
  · simp [h]
  · simp only [h]; simp [Sem.run_pure]
/-- Are two hashes the same? -/
def eqH (d1 d2 : Nat → UInt8) : Bool := (List.range 32).all fun i => bN (d1 i) == bN (d2 i)
theorem eqH_same (d : Nat → UInt8) : eqH d d = true := by simp [eqH]
theorem eqH_iff (d1 d2 : Nat → UInt8) : eqH d1 d2 = true ↔ ∀ i, i < 32 → d1 i = d2 i := by
  simp only [eqH, List.all_eq_true, List.mem_range, beq_iff_eq]
  exact ⟨fun h i hi => bN_inj (h i hi), fun h i hi => by rw [h i hi]⟩
theorem equalIn_hash (w : World) (d1 d2 : Nat → UInt8) : (Op.equalIn 10000 32 (.agg (rowA 32 (bF d1))) (.agg (rowA 32 (bF d2)))).run Tryd.prog w = .ok (eqH d1 d2) w :=
  equalIn_arr w 9998 32 5 32 .u8 Tryd.underlying32 Tryd.underlying5 info5s (fun i => bN (d1 i)) (fun i => bN (d2 i))
theorem eqType_hash : Tryd.prog.eqGuardType Tryd.prog.depth 32 = false := by kernel_rfl

/-- A digest as bytes. -/
def digL (d : Nat → UInt8) : List UInt8 := (List.range 32).map d
theorem digL_length (d : Nat → UInt8) : (digL d).length = 32 := by simp [digL]
/-- A row of bytes, sliced whole, reads as them. -/
theorem rd_row {W : World} {L : List Nat} {g t n : Nat} {f : Nat → UInt8} (h : W.rowIs g t n (bF f)) (hg : g ∉ L) (hn : n ≤ 1000000) : RdV W L (.slice (some ⟨g, 0, none⟩) n n) ((List.range n).map f) := by
  have hl : ((List.range n).map f).length = n := by simp
  refine ⟨some ⟨g, 0, none⟩, n, by rw [hl], by rw [hl]; exact Nat.le_refl _, by unfold maxLen; omega, fun _ => ⟨g, 0, rfl, hg, fun i hi => ?_⟩⟩
  rw [hl] at hi
  rw [Nat.zero_add, h.cell hi, bF_at]
  simp [bAt, hi]

section
variable {a : Act} {w : World} {o : Oper} {K : Act → World → Prop} {Q : Exit → Act → World → Prop}
theorem opr_len {x : Operand} {t e : TypeId} {A : Option Addr} {n c : Nat} (ho : o.op = .call { callee := .builtin .len, args := #[x], argTypes := #[t] }) (ht : Tryd.prog.underlying t = some (.slice e)) (hx : a.eval x = .slice A n c) (h : K (a.put o.dst (.int .i64 (n : Int))) w) : o.wp Tryd.prog a w K Q := by
  obtain ⟨dst, op, type, pos, after, guard⟩ := o
  simp only at ho
  subst ho
  refine opr_val (s := Builtin.len_ #[t] type #[a.eval x]) (v := .int .i64 (n : Int)) (by
    show (do let d ← resolve a.eval { callee := .builtin .len, args := #[x], argTypes := #[t] } type; invoke d.target d.args) = _
    simp only [resolve, invoke, pure_bind, BigFrame.builtin_len, List.map_toArray, List.map_cons, List.map_nil]) ?_ h
  rw [hx]
  simp [Builtin.len_, run_underlying ht, goInt]
theorem opr_len_rd {x : Operand} {l : List UInt8} {L : List Nat} (ho : o.op = .call { callee := .builtin .len, args := #[x], argTypes := #[49] }) (hx : RdV w L (a.eval x) l) (h : K (a.put o.dst (.int .i64 (l.length : Int))) w) : o.wp Tryd.prog a w K Q := by
  obtain ⟨A, c, hv, _⟩ := hx
  exact opr_len ho Tryd.underlying49 hv h
theorem opr_len_parts {x : Operand} {ls : List (List UInt8)} (ho : o.op = .call { callee := .builtin .len, args := #[x], argTypes := #[99] }) (hx : Parts w (a.eval x) ls) (h : K (a.put o.dst (.int .i64 (ls.length : Int))) w) : o.wp Tryd.prog a w K Q := by
  obtain ⟨ps, ⟨A, c, hv, _⟩, rfl⟩ := hx
  refine opr_len ho Tryd.underlying99 hv ?_
  simpa using h
theorem opr_load_hash {x : Operand} {g : Nat} {t : TypeId} {d : Nat → UInt8} (ho : o.op = .load 32 x) (hx : a.eval x = .pointer (some ⟨g, 0, none⟩)) (hr : w.rowIs g t 32 (bF d)) (h : K (a.put o.dst (.agg (rowA 32 (bF d)))) w) : o.wp Tryd.prog a w K Q := by
  obtain ⟨dst, op, type, pos, after, guard⟩ := o
  simp only at ho
  subst ho
  refine opr_val (s := Instr.loadAt 32 (a.eval x)) rfl ?_ h
  rw [hx]
  have := run_loadAt_mid (P := Tryd.prog) w g 0 32 (rowA 32 (bF d)).toList _ (rangeAt_row hr) Tryd.underlying32 rfl (by rw [rowA_toList]; simpa using info31)
  simpa using this
theorem run_sliceAt_hash (w : World) (g : Nat) : (Instr.sliceAt 32 (.pointer (some ⟨g, 0, none⟩)) none none none).run Tryd.prog w = .ok (.slice (some ⟨g, 0, none⟩) 32 32) w := by
  have hsz : (sizeOf 5).run Tryd.prog w = .ok 1 w := by
    have hs := info5s
    cases hq : Tryd.prog.info? 5 with
    | none => simp [hq] at hs
    | some i => simp [hq] at hs; simp [sizeOf, typeInfo, hq, hs]
  simp [Instr.sliceAt, run_underlying Tryd.underlying32, Instr.sureAddr, Instr.sliceBounds, hsz, Addr.add_zero']
/-- 'h[:]' of a hash. -/
theorem opr_slice_hash {x : Operand} {g : Nat} (ho : o.op = .slice 32 x none none none) (hx : a.eval x = .pointer (some ⟨g, 0, none⟩)) (h : K (a.put o.dst (.slice (some ⟨g, 0, none⟩) 32 32)) w) : o.wp Tryd.prog a w K Q := by
  obtain ⟨dst, op, type, pos, after, guard⟩ := o
  simp only at ho
  subst ho
  refine opr_val (s := Instr.sliceAt 32 (a.eval x) none none none) rfl ?_ h
  rw [hx]; exact run_sliceAt_hash w g
theorem opr_eql_hash {x y : Operand} {t' : TypeId} {d1 d2 : Nat → UInt8} {b : Bool} (ho : o.op = .binOp .eql 32 x y t') (hx : a.eval x = .agg (rowA 32 (bF d1))) (hy : a.eval y = .agg (rowA 32 (bF d2))) (hb : eqH d1 d2 = b) (h : K (a.put o.dst (.bool b)) w) : o.wp Tryd.prog a w K Q := by
  obtain ⟨dst, op, type, pos, after, guard⟩ := o
  simp only at ho
  subst ho hb
  refine opr_val (s := do eqGuard .eql 32 x y (a.eval x) (a.eval y); binOp .eql 32 (a.eval x) (a.eval y)) rfl ?_ h
  rw [hx, hy, Sem.run_bind, run_eqGuard_agg _ _ _ _ _ _ _ eqType_hash]
  simp only [Result.andThen_ok]
  rw [run_eql_struct, equalIn_hash]; rfl
theorem opr_neq_hash {x y : Operand} {t' : TypeId} {d1 d2 : Nat → UInt8} {b : Bool} (ho : o.op = .binOp .neq 32 x y t') (hx : a.eval x = .agg (rowA 32 (bF d1))) (hy : a.eval y = .agg (rowA 32 (bF d2))) (hb : (!eqH d1 d2) = b) (h : K (a.put o.dst (.bool b)) w) : o.wp Tryd.prog a w K Q := by
  obtain ⟨dst, op, type, pos, after, guard⟩ := o
  simp only at ho
  subst ho hb
  refine opr_val (s := do eqGuard .neq 32 x y (a.eval x) (a.eval y); binOp .neq 32 (a.eval x) (a.eval y)) rfl ?_ h
  rw [hx, hy, Sem.run_bind, run_eqGuard_agg _ _ _ _ _ _ _ eqType_hash]
  simp only [Result.andThen_ok]
  rw [run_neq_struct, equalIn_hash]; rfl
theorem run_bs1 (A : Option Addr) (n c : Nat) (w : World) : (Instr.buildSlice 99 1 #[(0, .slice A n c)]).run Tryd.prog w = .ok (.slice (some ⟨w.heap.size, 0, none⟩) 1 1) (w.alloc (.cells #[.slice A n c] 49)) := by
  simp [go_sem]
theorem run_bs2 (A : Option Addr) (n c : Nat) (A2 : Option Addr) (n2 c2 : Nat) (w : World) : (Instr.buildSlice 99 2 #[(0, .slice A n c), (1, .slice A2 n2 c2)]).run Tryd.prog w = .ok (.slice (some ⟨w.heap.size, 0, none⟩) 2 2) (w.alloc (.cells #[.slice A n c, .slice A2 n2 c2] 49)) := by
  simp [go_sem]
/-- A new slice of one slice. -/
theorem opr_bs1 {x : Operand} {l : List UInt8} (ho : o.op = .buildSlice 99 1 #[(0, x)]) (hx : RdV w [] (a.eval x) l) (h : ∀ v w', NewT w w' → Parts w' v [l] → K (a.put o.dst v) w') : o.wp Tryd.prog a w K Q := by
  obtain ⟨dst, op, type, pos, after, guard⟩ := o
  simp only at ho
  subst ho
  have hx0 := hx
  obtain ⟨A, c, hv, _⟩ := hx0
  rw [hv] at hx
  refine opr_val (s := Instr.buildSlice 99 1 #[(0, a.eval x)]) (by simp [execOp]) (by rw [hv]; exact run_bs1 A _ c w) (h _ _ (NewT.alloc _ _) ⟨[(.slice A l.length c, l)], parts_new [(.slice A l.length c, l)] 49 (by simp) (by simp) (by simpa using hx), rfl⟩)
theorem opr_bs2 {x y : Operand} {l m : List UInt8} (ho : o.op = .buildSlice 99 2 #[(0, x), (1, y)]) (hx : RdV w [] (a.eval x) l) (hy : RdV w [] (a.eval y) m) (h : ∀ v w', NewT w w' → Parts w' v [l, m] → K (a.put o.dst v) w') : o.wp Tryd.prog a w K Q := by
  obtain ⟨dst, op, type, pos, after, guard⟩ := o
  simp only at ho
  subst ho
  have hx0 := hx
  obtain ⟨A, c, hv, _⟩ := hx0
  have hy0 := hy
  obtain ⟨A2, c2, hv2, _⟩ := hy0
  rw [hv] at hx
  rw [hv2] at hy
  refine opr_val (s := Instr.buildSlice 99 2 #[(0, a.eval x), (1, a.eval y)]) (by simp [execOp]) (by rw [hv, hv2]; exact run_bs2 A _ c A2 _ c2 w) (h _ _ (NewT.alloc _ _) ⟨[(.slice A l.length c, l), (.slice A2 m.length c2, m)], parts_new [(.slice A l.length c, l), (.slice A2 m.length c2, m)] 49 (by simp) (by simp) (by simp; exact ⟨hx, hy⟩), rfl⟩)
end
/-- A function value is called: what it caught stands behind the arguments. -/
theorem opr_callv {P : Program} {a : Act} {w : World} {o : Oper} {K : Act → World → Prop} {Q : Exit → Act → World → Prop} {f : Nat} {fn : Func} {x : Operand} {args : Array Operand} {vs cap : Array Value} {ts : Array TypeId} (ho : o.op = .call { callee := .value x, args := args, argTypes := ts }) (hx : a.eval x = .func (.func f) #[] cap) (hf : P.funcs[f]? = some fn)
    (hn : (fn.name == "runtime.NumGoroutine") = false) (hb : fn.body.isNone = false) (hv : args.map a.eval ++ cap = vs)
    (h : Calls P f vs w fun e w' => ∃ v, e = .returned v ∧ K (a.put o.dst v) w') : o.wp P a w K Q := by
  obtain ⟨dst, op, type, pos, after, guard⟩ := o
  simp only at ho
  subst ho
  have e : execOp a.eval { dst, op := .call { callee := .value x, args := args, argTypes := ts }, type, pos, after, guard } = callFunc f vs := by
    show (do let d ← resolve a.eval { callee := .value x, args := args, argTypes := ts } type; invoke d.target d.args) = _
    simp only [resolve, Deferred.ofValue, hx, invoke, pure_bind]
    rw [← hv]; simp
  unfold Oper.wp
  rw [e, run_callFunc_go hf hn hb, Oper.upon_enter]
  refine h.mono ?_
  rintro e w' ⟨v, rfl, hk⟩
  exact hk
/-- A builtin append whose run is known. -/
theorem opr_append {P : Program} {a : Act} {w w' : World} {o : Oper} {K : Act → World → Prop} {Q : Exit → Act → World → Prop} {x y : Operand} {t t' : TypeId} {vx vy v' : Value} (ho : o.op = .call { callee := .builtin .append, args := #[x, y], argTypes := #[t, t'] }) (hx : a.eval x = vx) (hy : a.eval y = vy)
    (hr : (Builtin.append_ #[t, t'] o.type #[vx, vy]).run P w = .ok v' w') (h : K (a.put o.dst v') w') : o.wp P a w K Q := by
  obtain ⟨dst, op, type, pos, after, guard⟩ := o
  simp only at ho hr
  subst ho hx hy
  refine opr_val (s := Builtin.append_ #[t, t'] type #[a.eval x, a.eval y]) ?_ hr h
  show (do let d ← resolve a.eval { callee := .builtin .append, args := #[x, y], argTypes := #[t, t'] } type; invoke d.target d.args) = _
  simp only [resolve, invoke, pure_bind, BigFrame.builtin_append, List.map_toArray, List.map_cons, List.map_nil]
/-- A new row of bytes, all 0, that a region makes. -/
def svNew (W : World) (t : TypeId) (n : Nat) : SV NewT := ⟨fun v w => ∃ g, v = .pointer (some ⟨g, 0, none⟩) ∧ W.heap.size ≤ g ∧ w.rowIs g t n (bF fun _ => 0), fun _ _ _ ⟨g, h1, h2, h3⟩ hT => ⟨g, h1, h2, hT.row h3⟩⟩
theorem svNew_out {W : World} {t n : Nat} {v : Value} {w : World} (h : (svNew W t n).pred v w) : ∃ g, v = .pointer (some ⟨g, 0, none⟩) ∧ W.heap.size ≤ g ∧ w.rowIs g t n (bF fun _ => 0) := h
theorem run_alloc_hash (w : World) : (Instr.alloc 32 true (.tuple #[])).run Tryd.prog w = .ok (.pointer (some ⟨w.heap.size, 0, none⟩)) (w.alloc (.cells (rowA 32 (bF fun _ => 0)) 32)) := by
  simp [go_sem]; rfl
theorem opr_alloc_hash {a : Act} {w : World} {o : Oper} {K : Act → World → Prop} {Q : Exit → Act → World → Prop} {W : World} (ho : o.op = .alloc 32) (hT : NewT W w) (h : ∀ v w', NewT w w' → (svNew W 32 32).pred v w' → K (a.put o.dst v) w') : o.wp Tryd.prog a w K Q := by
  obtain ⟨dst, op, type, pos, after, guard⟩ := o
  simp only at ho
  subst ho
  exact opr_val (s := Instr.alloc 32 true (.tuple #[])) rfl (run_alloc_hash w) (h _ _ (NewT.alloc _ _) ⟨w.heap.size, rfl, hT.out.size, rowIs_box w 32 32 _⟩)
/-- A whole array is stored into a row that is new. -/
theorem opr_store_new {B : Nat} {P : Program} {a : Act} {w W : World} {o : Oper} {K : Act → World → Prop} {Q : Exit → Act → World → Prop} {t t' : TypeId} {x y : Operand} {g n : Nat} {f0 : Nat → Value} {D : Nat → UInt8} (hi : (P.info? t).map (·.size) = some n) (ho : o.op = .store t x y) (hx : a.eval x = .pointer (some ⟨g, 0, none⟩)) (hy : a.eval y = .agg (rowA n (bF D)))
    (hr : w.rowIs g t' n f0) (hN : Below B W w) (hg : B ≤ g) (h : ∀ w', Below B W w' → w'.rowIs g t' n (bF D) → K (a.put o.dst undef) w') : o.wp P a w K Q :=
  wp_store_mid t x y ho g 0 (rowA n (bF D)) hx hy (by rw [rowA_size]; exact there_row hr) (by rw [rowA_size]; exact hi) (rowA_one _ _ fun _ => rfl) (h _ (below_setCells g hg _ _ _ hN) (rowIs_setAll hr (bF D)))
/-- A function's contract: new memory alone, and what it returns. -/
def Cv (f : Nat) (vs : Array Value) (w : World) (c : SV NewT) : Prop := Calls Tryd.prog f vs w fun e w' => ∃ v, e = .returned v ∧ NewT w w' ∧ c.pred v w'
theorem opr_cv {a : Act} {w : World} {o : Oper} {K : Act → World → Prop} {Q : Exit → Act → World → Prop} {f : Nat} {fn : Func} {args : Array Operand} {ts : Array TypeId} {vs : Array Value} {c : SV NewT} (hc : Cv f vs w c)
    (ho : o.op = .call { callee := .value (.func f), args := args, argTypes := ts }) (hf : Tryd.prog.funcs[f]? = some fn) (hn : (fn.name == "runtime.NumGoroutine") = false) (hb : fn.body.isNone = false) (hv : args.map a.eval = vs)
    (h : ∀ v w', NewT w w' → c.pred v w' → K (a.put o.dst v) w') : o.wp Tryd.prog a w K Q := by
  refine opr_call ho hf hn hb hv (Calls.mono hc ?_)
  rintro e w' ⟨v, rfl, h1, h2⟩
  exact ⟨v, rfl, h v w' h1 h2⟩
theorem Cv.of_eq {f : Nat} {vs : Array Value} {w : World} {v : Value} (h : Calls Tryd.prog f vs w fun e w' => e = .returned v ∧ Below w.heap.size w w') : Cv f vs w (.eq v) :=
  Calls.mono h fun _ _ ⟨he, hb⟩ => ⟨v, he, hb, rfl⟩
theorem Cv.eq {f : Nat} {vs : Array Value} {w : World} {v : Value} (h : Cv f vs w (.eq v)) : Calls Tryd.prog f vs w fun e w' => e = .returned v ∧ Below w.heap.size w w' :=
  Calls.mono h fun _ _ ⟨_, he, hb, hv⟩ => ⟨by rw [he]; exact congrArg _ hv, hb⟩
theorem eval_const {a : Act} (v : Value) : a.eval (.const v) = v := rfl
theorem eval_func {a : Act} (f : Nat) : a.eval (.func f) = .func (.func f) #[] #[] := rfl
/-- It reads as l, in a row that is new since W. -/
def svRdN (W : World) (l : List UInt8) : SV NewT := ⟨fun v w => ∀ L, (∀ k ∈ L, k < W.heap.size) → RdV w L v l, fun _ _ _ h hT L hL => hT.rd (h L hL)⟩
theorem make_bytes (i0 : TypeInfo) (hi : Tryd.prog.info? 5 = some i0) (hz0 : i0.zero = some (.int .u8 0)) (hz1 : i0.size = 1) (hz2 : i0.bytes = 1) (r : Nat) (hr : r ≤ 64) (W : World) :
    (Instr.makeSlice 49 (.int .i64 (r : Int)) (.int .i64 (r : Int))).run Tryd.prog W = .ok (.slice (some ⟨W.heap.size, 0, none⟩) r r) (W.alloc (.cells (rowA r (bF fun _ => 0)) 5)) := by
  have := run_make (P := Tryd.prog) W 49 5 i0 _ Tryd.underlying49 hi hz0 .i64 .i64 (r : Int) (r : Int) (by omega) (by omega) (by rw [hz2]; omega) (by omega)
  rw [this, hz1, Int.toNat_natCast, Nat.mul_one]
  have e : madeCells (Value.int .u8 0).cells r = rowA r (bF fun _ => 0) := made_row r (.int .u8 0)
  rw [e]
def putTo (f : Nat → UInt8) (k i : Nat) : UInt8 := if i < k then f i else 0
theorem putTo_set (f : Nat → UInt8) (k i : Nat) : (if i = k then Value.int .u8 (bN (f k)) else bF (putTo f k) i) = bF (putTo f (k + 1)) i := by
  simp only [bF, putTo]
  by_cases h : i = k
  · subst h; simp
  · by_cases h2 : i < k
    · rw [if_neg h, if_pos h2, if_pos (by omega)]
    · rw [if_neg h, if_neg h2, if_neg (by omega)]
end Go.Proofs.YtchpmdcacpjojaaDoor
/- A law's last step, for all laws of a seat: it returned true, and only new memory was made; arguments opened: arrays by value, slices of bytes. -/
namespace Go.Proofs.YtchpmdcacpjojaaDoor
open Go.ChangeShapes Go.WideShapes Go.ChangeAt Go.WideMaps Go.WideElems Go.RowKit
set_option maxRecDepth 8000
set_option linter.all false
theorem own : ownKnob Tryd.prog.godebug = none := by kernel_rfl
theorem laidOut : laidOutB Tryd.prog = true := by kernel_rfl
theorem trodAll_below {H : Type} {enc : TypeId × Value → H} {W W' : World} (hb : Below W.heap.size W W') : ∀ (ts : List TypeId) (vs : List Value) (ds : List (DataW H)) (p : List MemPlace),
    (∀ t ∈ ts, Tryd.prog.readableRec t = true ∧ t < Tryd.prog.types.size) → (∀ x ∈ p, x.block < W.heap.size) →
    DataW.TrodAll enc Tryd.prog W 0 (fun _ => true) true ts vs ds p → DataW.TrodAll enc Tryd.prog W' 0 (fun b => decide (b < W.heap.size)) true ts vs ds p := by
  intro ts
  induction ts with
  | nil =>
    intro vs ds p _ _ h
    obtain ⟨rfl, rfl, rfl⟩ := trodAll_nil h
    exact trodAll_mk0
  | cons t ts ih =>
    intro vs ds p ht hp h
    obtain ⟨v0, vs0, d0, ds0, p0, q0, rfl, rfl, rfl, h0, r0⟩ := trodAll_cons h
    exact trodAll_cons_mk (Below.trod laidOut (ht t (by simp)).1 (ht t (by simp)).2 h0 hb (fun x hx => hp x (by simp [hx])))
      (ih vs0 ds0 q0 (fun t' h' => ht t' (by simp [h'])) (fun x hx => hp x (by simp [hx])) r0)
theorem law_post {H : Type} {enc : TypeId × Value → H} {f : Func} {s : ChangeSpec} {W W' : World} {args : Array Value} {ds gs : List (DataW H)} {before : List MemPlace}
    (hW : DataW.Whole enc Tryd.prog f.params.toList s.vars false W args.toList ds gs before) (hvars : s.vars = [])
    (hr : (s.fn H (ds ++ [])).results = [.lit (.bool true)]) (ha : (s.fn H (ds ++ [])).args = ds) (hv : (s.fn H (ds ++ [])).vars = []) (hrt : f.resultTypes = #[4])
    (hts : ∀ t ∈ f.params.toList, Tryd.prog.readableRec t = true ∧ t < Tryd.prog.types.size) (hb : Below W.heap.size W W') :
    s.post enc Tryd.prog f false true false false W args (.bool true) W' := by
  have hlt : ∀ p ∈ before, p.block < W.heap.size := fun p hp => hW.lt p hp
  have hW0 := hW
  obtain ⟨p, q, hA, hV, rfl, hz, _⟩ := hW
  rw [hvars] at hV
  obtain ⟨rfl, rfl⟩ := trodVars_none hV
  refine ⟨ds, [], p ++ [], [], p, [], hW0, ?_, ?_, ?_, World.keptBut_mono (fun x hx => ⟨hx, .inr (.inl (by simpa using hx))⟩) (hb.frame (· ∈ p ++ [])), fun h => by cases h⟩
  · rw [hr, hrt]
    exact trodAll_cons_mk (shut_bool Tryd.underlying4 true) trodAll_mk0
  · rw [ha]
    exact trodAll_below hb _ _ _ _ hts (fun x hx => hlt x (by simp [hx])) hA
  · rw [hv, hvars]
    exact rfl
theorem open_row {H : Type} {enc : TypeId × Value → H} {P : Program} {w : World} {base : Nat} {spare : Nat → Bool} {held : Bool} {r : Reach} {b0 : Nat} {t e : TypeId} {n : Nat} {k : IntKind} {v : Value} {d : DataW H} {p : List MemPlace}
    (ht : P.underlying t = some (.array n e)) (he : P.underlying e = some (.int k)) (hce : P.cellsOf e = 1) (hct : P.cellsOf t = n)
    (hv : Value.okWide P w r b0 t v) (h : DataW.Trod enc P w base spare held t v d p) :
    ∃ f : Nat → Int, v = .agg (rowA n fun i => .int k (f i)) ∧ ∀ i, i < n → (Lit.int k (f i)).wf = true := by
  simp only [Value.okWide, ht] at hv
  obtain ⟨cs, rfl, hs, _⟩ := hv
  rw [hct] at hs
  obtain ⟨fuel, hf⟩ := h
  obtain ⟨xs, m, _, hx, hl, hxl, hel⟩ := DataW.trod_array ht hf
  have hall : ∀ i, i < n → ∃ z, cs[i]? = some (.int k z) ∧ (Lit.int k z).wf = true := fun i hi => by
    have h1 := hel i hi
    rw [hce, List.getElem?_eq_getElem (by omega)] at h1
    obtain ⟨z, hc, _, hw⟩ := DataW.trod_int he h1
    refine ⟨z, ?_, hw⟩
    have := congrArg (·[0]?) hc
    simpa [List.getElem?_take, List.getElem?_drop, Value.cells] using this
  refine ⟨fun i => match cs[i]? with | some (.int _ z) => z | _ => 0, ?_, fun i hi => ?_⟩
  · congr 1
    apply Array.ext_getElem?
    intro i
    by_cases hi : i < n
    · rw [rowA_at _ _ _ hi]
      obtain ⟨z, hz, _⟩ := hall i hi
      simp only [hz]
    · rw [Array.getElem?_eq_none (by omega), Array.getElem?_eq_none (by rw [rowA_size]; omega)]
  · obtain ⟨z, hz, hw⟩ := hall i hi
    simp only [hz]
    exact hw
theorem open_bytes {f : Nat → Int} {n : Nat} (h : ∀ i, i < n → (Lit.int .u8 (f i)).wf = true) : ∃ d : Nat → UInt8, rowA n (fun i => Value.int .u8 (f i)) = rowA n (bF d) := by
  refine ⟨fun i => UInt8.ofNat (f i).toNat, rowA_congr fun i hi => ?_⟩
  have := bounds_u8 (h i hi)
  unfold bF bN
  rw [UInt8.toNat_ofNat']
  congr 1
  omega
/-- A slice of bytes that came in reads as a list. -/
theorem open_slice_bytes {H : Type} {enc : TypeId × Value → H} {w : World} {base : Nat} {spare : Nat → Bool} {held : Bool} {v : Value} {d : DataW H} {p : List MemPlace} {r : Reach} {b0 : Nat}
    (hv : Value.okWide Tryd.prog w r b0 49 v) (h : DataW.Trod enc Tryd.prog w base spare held 49 v d p) : ∃ l : List UInt8, RdV w [] v l := by
  obtain ⟨a0, len, cap, rfl⟩ := okWide_slice Tryd.underlying49 hv
  obtain ⟨fuel, hf⟩ := h
  rcases open_ints Tryd.underlying49 Tryd.underlying5 (by kernel_rfl) hf with ⟨hcs, _⟩ | ⟨a, len', cap', zs, hcs, _, hl, hm, hz, _, hcell, hwz⟩
  · simp [Value.cells] at hcs
    obtain ⟨rfl, rfl, rfl⟩ := hcs
    exact ⟨[], none, 0, rfl, by simp, by unfold maxLen; omega, fun h0 => absurd h0 (by simp)⟩
  · simp [Value.cells] at hcs
    obtain ⟨rfl, rfl, rfl⟩ := hcs
    have hlz : len ≤ zs.length := by rw [hz]; split <;> omega
    have hlen : ((zs.take len).map fun z => UInt8.ofNat z.toNat).length = len := by simp; omega
    refine ⟨(zs.take len).map fun z => UInt8.ofNat z.toNat, some a, cap, by rw [hlen], by rw [hlen]; exact hl, hm, fun h0 => ?_⟩
    rw [hlen] at h0
    obtain ⟨b, off, rfl, hc⟩ := ints_at hcell (by omega)
    refine ⟨b, off, rfl, by simp, fun i hi => ?_⟩
    rw [hlen] at hi
    rw [hc i (by omega)]
    have hzi : zs[i]? = some zs[i] := List.getElem?_eq_getElem (by omega)
    have hb := bounds_u8 (hwz zs[i] (List.getElem_mem (by omega)))
    have e1 : bAt ((zs.take len).map fun z => UInt8.ofNat z.toNat) i = UInt8.ofNat zs[i].toNat := by simp [bAt, hi, hzi]
    rw [e1]
    unfold bN
    rw [UInt8.toNat_ofNat']
    simp [List.getD, hzi]
    omega
end Go.Proofs.YtchpmdcacpjojaaDoor
/- The small functions of package sha: rotations, the six sums, choose and majority: each call returns the document's number and leaves the world as it was. -/
namespace Go.Proofs.YtchpmdcacpjojaaDoor
open Go.RowKit
set_option maxRecDepth 8000
set_option linter.all false
attribute [local go_sem] u32_add u32_xor u32_and u32_or u32_not signed_u32 wrap_uN u32_shl u32_shr u32_div8 u32_div1024

theorem and31 (n : Nat) (hn : 0 < n) (hn2 : n < 32) : bits .and .u64 (IntKind.u64.wrap (-(n : Int))) 31 = ((32 - n : Nat) : Int) := by
  have : ∀ k : Fin 32, 0 < k.val → bits .and .u64 (IntKind.u64.wrap (-(k.val : Int))) 31 = ((32 - k.val : Nat) : Int) := by decide
  exact this ⟨n, hn2⟩ hn
set_option maxHeartbeats 400000 in
theorem rot_any (x : BitVec 32) (n : Nat) (hn : 0 < n) (hn2 : n < 32) (w : World) :
    Calls Tryd.prog 97 #[.int .u32 (uN x), .int .i64 (-(n : Int))] w fun e w' => e = .returned (.int .u32 (uN (x.rotateRight n))) ∧ w = w' := by
  have hs := and31 n hn hn2
  obtain ⟨m, hm⟩ : ∃ m, 32 - n = m := ⟨_, rfl⟩
  have Hm := Lib.hid hm
  rw [hm] at hs
  have h1 : 1 ≤ m := by omega
  have h2 : m ≤ 31 := by omega
  clear hm
  go_enter Tryd.func97, Tryd.ntmps97
  go_wp2
  go_ret
  refine ⟨?_, rfl⟩
  have hm := Hm.out
  obtain rfl : n = 32 - m := by omega
  have e := uN_rotr x (32 - m) hn2
  rw [u32_or, show 32 - (32 - m) = m by omega] at e
  exact congrArg (fun z => Ending.returned (Value.int IntKind.u32 z)) e
set_option maxHeartbeats 400000 in
theorem turnRight_any (x : BitVec 32) (n : Int) (hn : 0 < n) (hn2 : n < 32) (w : World) :
    Calls Tryd.prog 96 #[.int .u32 (uN x), .int .i64 n] w fun e w' => e = .returned (.int .u32 (uN (x.rotateRight n.toNat))) ∧ w = w' := by
  obtain ⟨m, rfl⟩ := Int.eq_ofNat_of_zero_le (Int.le_of_lt hn)
  rw [Int.toNat_natCast]
  go_enter Tryd.func96, Tryd.ntmps96
  go_wp2_with fail
  refine (rot_any x m (by omega) (by omega) _).mono ?_
  rintro e w' ⟨rfl, rfl⟩
  go_wp2
  go_ret
  exact ⟨rfl, rfl⟩
def bs1 (x : BitVec 32) : BitVec 32 := x.rotateRight 6 ^^^ x.rotateRight 11 ^^^ x.rotateRight 25
set_option maxHeartbeats 400000 in
theorem bs1_any (x : BitVec 32) (w : World) :
    Calls Tryd.prog 90 #[.int .u32 (uN x)] w fun e w' => e = .returned (.int .u32 (uN (bs1 x))) ∧ w = w' := by
  go_enter Tryd.func90, Tryd.ntmps90
  go_wp2_with (go_at_call 96; refine (turnRight_any x _ (by decide) (by decide) _).mono ?_; rintro e w' ⟨rfl, rfl⟩)
  go_ret
  exact ⟨rfl, rfl⟩
def bs0 (x : BitVec 32) : BitVec 32 := x.rotateRight 2 ^^^ x.rotateRight 13 ^^^ x.rotateRight 22
set_option maxHeartbeats 400000 in
theorem bs0_any (x : BitVec 32) (w : World) :
    Calls Tryd.prog 92 #[.int .u32 (uN x)] w fun e w' => e = .returned (.int .u32 (uN (bs0 x))) ∧ w = w' := by
  go_enter Tryd.func92, Tryd.ntmps92
  go_wp2_with (go_at_call 96; refine (turnRight_any x _ (by decide) (by decide) _).mono ?_; rintro e w' ⟨rfl, rfl⟩)
  go_ret
  exact ⟨rfl, rfl⟩
def ss1 (x : BitVec 32) : BitVec 32 := x.rotateRight 17 ^^^ x.rotateRight 19 ^^^ x >>> 10
set_option maxHeartbeats 400000 in
theorem ss1_any (x : BitVec 32) (w : World) :
    Calls Tryd.prog 94 #[.int .u32 (uN x)] w fun e w' => e = .returned (.int .u32 (uN (ss1 x))) ∧ w = w' := by
  go_enter Tryd.func94, Tryd.ntmps94
  go_wp2_with (go_at_call 96; refine (turnRight_any x _ (by decide) (by decide) _).mono ?_; rintro e w' ⟨rfl, rfl⟩)
  go_ret
  exact ⟨rfl, rfl⟩
def ss0 (x : BitVec 32) : BitVec 32 := x.rotateRight 7 ^^^ x.rotateRight 18 ^^^ x >>> 3
set_option maxHeartbeats 400000 in
theorem ss0_any (x : BitVec 32) (w : World) :
    Calls Tryd.prog 95 #[.int .u32 (uN x)] w fun e w' => e = .returned (.int .u32 (uN (ss0 x))) ∧ w = w' := by
  go_enter Tryd.func95, Tryd.ntmps95
  go_wp2_with (go_at_call 96; refine (turnRight_any x _ (by decide) (by decide) _).mono ?_; rintro e w' ⟨rfl, rfl⟩)
  go_ret
  exact ⟨rfl, rfl⟩
def chs (x y z : BitVec 32) : BitVec 32 := (x &&& y) ^^^ (~~~x &&& z)
set_option maxHeartbeats 400000 in
theorem chs_any (x y z : BitVec 32) (w : World) :
    Calls Tryd.prog 91 #[.int .u32 (uN x), .int .u32 (uN y), .int .u32 (uN z)] w fun e w' => e = .returned (.int .u32 (uN (chs x y z))) ∧ w = w' := by
  go_enter Tryd.func91, Tryd.ntmps91
  go_wp2
  go_ret
  exact ⟨rfl, rfl⟩
def maj (x y z : BitVec 32) : BitVec 32 := (x &&& y) ^^^ (x &&& z) ^^^ (y &&& z)
set_option maxHeartbeats 400000 in
theorem maj_any (x y z : BitVec 32) (w : World) :
    Calls Tryd.prog 93 #[.int .u32 (uN x), .int .u32 (uN y), .int .u32 (uN z)] w fun e w' => e = .returned (.int .u32 (uN (maj x y z))) ∧ w = w' := by
  go_enter Tryd.func93, Tryd.ntmps93
  go_wp2
  go_ret
  exact ⟨rfl, rfl⟩
end Go.Proofs.YtchpmdcacpjojaaDoor
namespace Go.Proofs.YtchpmdcacpjojaaDoor
open Go.RowKit
set_option maxRecDepth 8000
set_option linter.all false
attribute [local go_sem] u32_add u32_xor u32_and u32_or u32_not signed_u32 wrap_uN u32_mul256 bN_u32

def wordTo (l : List UInt8) (t : Nat) : Nat → BitVec 32
  | 0 => 0
  | j + 1 => (wordTo l t j <<< 8) ||| (bAt l (4 * t + j)).toBitVec.setWidth 32
def zero64 : Nat → Value := fun _ => .int .u32 0
def part1 (l : List UInt8) (k j : Nat) : Nat → Value := fun i => .int .u32 (uN (if i < k then wordTo l i 4 else if i = k then wordTo l k j else 0))

theorem rowIs_zeros (w : World) (t : TypeId) : (w.alloc (.cells (Array.replicate 64 (.int .u32 0)) t)).rowIs w.heap.size t 64 zero64 := by
  have := World.rowIs_alloc w (Array.replicate 64 (.int .u32 0)) t zero64 (fun i hi => by simp at hi; simp [zero64, hi])
  simpa using this
theorem part1_start (l : List UInt8) (i : Nat) : zero64 i = part1 l 0 0 i := by
  simp only [zero64, part1]; by_cases h : i = 0 <;> simp [h, wordTo, uN]
theorem part1_next (l : List UInt8) (k i : Nat) : part1 l k 4 i = part1 l (k + 1) 0 i := by
  simp only [part1]
  by_cases h : i < k
  · rw [if_pos h, if_pos (by omega)]
  · by_cases h2 : i = k
    · subst h2; simp
    · rw [if_neg h, if_neg h2, if_neg (by omega)]; by_cases h3 : i = k + 1 <;> simp [h3, wordTo]
theorem part1_set (l : List UInt8) (k j i : Nat) : (if i = k then Value.int .u32 (uN (wordTo l k (j + 1))) else part1 l k j i) = part1 l k (j + 1) i := by
  simp only [part1]
  by_cases h : i = k
  · subst h; simp
  · simp [h]
def schedL (l : List UInt8) : Nat → List (BitVec 32)
  | 0 => (List.range 16).map fun i => wordTo l i 4
  | n + 1 => schedL l n ++ [ss1 ((schedL l n).getD (n + 14) 0) + (schedL l n).getD (n + 9) 0 + ss0 ((schedL l n).getD (n + 1) 0) + (schedL l n).getD n 0]
def wS (l : List UInt8) (n i : Nat) : BitVec 32 := (schedL l n).getD i 0
def part2 (l : List UInt8) (n : Nat) : Nat → Value := fun i => .int .u32 (uN (wS l n i))
theorem schedL_length (l : List UInt8) (n : Nat) : (schedL l n).length = 16 + n := by
  induction n with
  | zero => simp [schedL]
  | succ n ih => simp [schedL, ih]; omega
theorem part2_start (l : List UInt8) (i : Nat) : part1 l 16 0 i = part2 l 0 i := by
  simp only [part1, part2, wS, schedL]
  by_cases h : i < 16
  · simp [h]
  · by_cases h2 : i = 16
    · subst h2; simp [wordTo]
    · simp [h, h2]
theorem wS_old (l : List UInt8) (n i : Nat) (h : i < 16 + n) : wS l (n + 1) i = wS l n i := by
  have := schedL_length l n
  simp only [wS, schedL]
  simp [List.getElem?_append, this, h]
theorem wS_new (l : List UInt8) (n : Nat) : wS l (n + 1) (16 + n) = ss1 (wS l n (n + 14)) + wS l n (n + 9) + ss0 (wS l n (n + 1)) + wS l n n := by
  have := schedL_length l n
  simp only [wS, schedL]
  simp [this]
theorem wS_past (l : List UInt8) (n i : Nat) (h : 16 + n ≤ i) : wS l n i = 0 := by
  have := schedL_length l n
  simp only [wS]
  simp [this, h]
theorem part2_set (l : List UInt8) (t : Nat) (ht : 16 ≤ t) (i : Nat) :
    (if i = t then Value.int .u32 (uN (ss1 (wS l (t - 16) (t - 2)) + wS l (t - 16) (t - 7) + ss0 (wS l (t - 16) (t - 15)) + wS l (t - 16) (t - 16))) else part2 l (t - 16) i) = part2 l (t + 1 - 16) i := by
  obtain ⟨n, rfl⟩ : ∃ n, t = 16 + n := ⟨t - 16, by omega⟩
  rw [show 16 + n - 16 = n by omega, show 16 + n - 2 = n + 14 by omega, show 16 + n - 7 = n + 9 by omega, show 16 + n - 15 = n + 1 by omega, show 16 + n + 1 - 16 = n + 1 by omega]
  simp only [part2]
  by_cases h : i = 16 + n
  · subst h; rw [if_pos rfl, wS_new]
  · rw [if_neg h]
    by_cases h2 : i < 16 + n
    · rw [wS_old l n i h2]
    · rw [wS_past l n i (by omega), wS_past l (n + 1) i (by omega)]
theorem part1_at (l : List UInt8) (k j : Nat) : part1 l k j k = .int .u32 (uN (wordTo l k j)) := by simp [part1]

set_option maxHeartbeats 400000 in
theorem schedule_any (l : List UInt8) (b o cap : Nat) (hcap : 64 ≤ cap) (hm : cap ≤ maxLen) (w : World) (hb : b < w.heap.size)
    (hc : ∀ i, i < 64 → w.cell? ⟨b, o + i, none⟩ = some (.int .u8 (bN (bAt l i)))) :
    Calls Tryd.prog 87 #[.slice (some ⟨b, o, none⟩) 64 cap] w fun e w' => e = .returned (.agg (rowA 64 fun i => .int .u32 (uN (wS l 48 i)))) ∧ Below w.heap.size w w' := by
  unfold maxLen at hm
  have HC := Lib.hid hc
  clear hc
  go_enter Tryd.func87, Tryd.ntmps87
  go_wp2
  go_loopw [8] (fun i wr => ∃ k : Nat, k ≤ 16 ∧ i = .int .i64 k ∧ wr.rowIs w.heap.size 126 64 zero64 ∧ wr.rowIs (w.heap.size + 1) 126 64 (part1 l k 0) ∧ Below w.heap.size w wr) (fun i _ => 16 - (intOf i).toNat)
  case atStart =>
    refine ⟨0, Nat.zero_le _, rfl, (rowIs_zeros w 126).alloc _, ?_, ((Below.refl _ w).alloc (Nat.le_refl _) _).alloc (by simp) _⟩
    have h := rowIs_zeros (w.alloc (.cells (Array.replicate 64 (.int .u32 0)) 126)) 126
    rw [World.size_alloc] at h
    exact h.congr fun i _ => part1_start l i
  case round =>
    obtain ⟨k, hk, rfl, hz, hr, hB⟩ := hrel
    by_cases hlt : k < 16
    · go_wp2
      go_loopw [19] (fun i wr => ∃ j : Nat, j ≤ 4 ∧ i = .int .i64 j ∧ wr.rowIs w.heap.size 126 64 zero64 ∧ wr.rowIs (w.heap.size + 1) 126 64 (part1 l k j) ∧ Below w.heap.size w wr) (fun i _ => 4 - (intOf i).toNat)
      case atStart => exact ⟨0, Nat.zero_le _, rfl, hz, hr, hB⟩
      case round =>
        obtain ⟨j, hj, rfl, hz2, hr2, hB2⟩ := hrel
        clear hz hr hB
        by_cases hlt2 : j < 4
        · have hcell := (hB2.cell (p := ⟨b, o + (4 * k + j), none⟩) hb).trans (HC.out (4 * k + j) (by omega))
          rw [← Nat.add_assoc] at hcell
          have hw := hr2.cell (i := k) (by omega)
          rw [part1_at] at hw
          have hf := hr2.frozen k
          go_wp2
          go_roundw
          case rel => exact ⟨j + 1, by omega, by go_num, hz2.setOther (by simp) _, (hr2.set k _).congr fun i _ => part1_set l k j i, hB2.setCell (by simp) _⟩
          case measure => simp [intOf]; omega
        · obtain rfl : j = 4 := by omega
          go_wp2
          go_roundw
          case rel => exact ⟨k + 1, by omega, by go_num, hz2, hr2.congr fun i _ => part1_next l k i, hB2⟩
          case measure => simp [intOf]; omega
    · obtain rfl : k = 16 := by omega
      rw [show ((16 : Nat) : Int) = 16 from rfl]
      go_wp2
      go_loopw [7] (fun i wr => ∃ t : Nat, 16 ≤ t ∧ t ≤ 64 ∧ i = .int .i64 t ∧ wr.rowIs w.heap.size 126 64 zero64 ∧ wr.rowIs (w.heap.size + 1) 126 64 (part2 l (t - 16)) ∧ Below w.heap.size w wr) (fun i _ => 64 - (intOf i).toNat)
      case atStart => exact ⟨16, by omega, by omega, rfl, hz, hr.congr fun i _ => part2_start l i, hB⟩
      case round =>
        obtain ⟨t, ht1, ht2, rfl, hz2, hr2, hB2⟩ := hrel
        clear hz hr hB
        by_cases hlt : t < 64
        · have c0 : wr.cell? ⟨w.heap.size + 1, t, none⟩ = some (.int .u32 (uN (wS l (t - 16) t))) := hr2.cell (i := t) (by omega)
          have c2 : wr.cell? ⟨w.heap.size + 1, t - 2, none⟩ = some (.int .u32 (uN (wS l (t - 16) (t - 2)))) := hr2.cell (i := t - 2) (by omega)
          have c7 : wr.cell? ⟨w.heap.size + 1, t - 7, none⟩ = some (.int .u32 (uN (wS l (t - 16) (t - 7)))) := hr2.cell (i := t - 7) (by omega)
          have c15 : wr.cell? ⟨w.heap.size + 1, t - 15, none⟩ = some (.int .u32 (uN (wS l (t - 16) (t - 15)))) := hr2.cell (i := t - 15) (by omega)
          have c16 : wr.cell? ⟨w.heap.size + 1, t - 16, none⟩ = some (.int .u32 (uN (wS l (t - 16) (t - 16)))) := hr2.cell (i := t - 16) (by omega)
          have hf := hr2.frozen t
          have i2 : (2 : Int) ≤ t := by omega
          have j2 : (t : Int) - 2 < 64 := by omega
          have i7 : (7 : Int) ≤ t := by omega
          have j7 : (t : Int) - 7 < 64 := by omega
          have i15 : (15 : Int) ≤ t := by omega
          have j15 : (t : Int) - 15 < 64 := by omega
          have i16 : (16 : Int) ≤ t := by omega
          have j16 : (t : Int) - 16 < 64 := by omega
          go_wp2
          refine wp_region_still_tail 23 (by kernel_rfl) (by kernel_rfl) ?_
          simp only [List.take_succ_cons, List.take_zero, List.drop_succ_cons, List.drop_zero]
          iterate 5 (refine wpStill_step (fun K hK => ?_); go_simp; (try go_bits); refine hK _ ?_; clear hK K)
          (refine wpStill_step (fun K hK => ?_); go_simp; refine ⟨_, ((ss1_any _ _).mono fun _ _ h => ⟨h.1, h.2.symm⟩), hK _ ?_⟩; clear hK K)
          iterate 9 (refine wpStill_step (fun K hK => ?_); go_simp; (try go_bits); refine hK _ ?_; clear hK K)
          (refine wpStill_step (fun K hK => ?_); go_simp; refine ⟨_, ((ss0_any _ _).mono fun _ _ h => ⟨h.1, h.2.symm⟩), hK _ ?_⟩; clear hK K)
          iterate 7 (refine wpStill_step (fun K hK => ?_); go_simp; (try go_bits); refine hK _ ?_; clear hK K)
          refine wpStill_nil ?_
          go_wp2
          go_roundw
          case rel => exact ⟨t + 1, by omega, by omega, by go_num, hz2.setOther (by simp) _, (hr2.set t _).congr fun i _ => part2_set l t ht1 i, (hB2.setCell (p := ⟨w.heap.size + 1, t, none⟩) (by simp) _).drew⟩
          case measure => simp [intOf]; omega
        · obtain rfl : t = 64 := by omega
          have hsz : (Tryd.prog.info? 126).map (·.size) = some 64 := by kernel_rfl
          have hR := rangeAt_row hr2
          go_wp2_with (first
            | (refine wpList_load_mid rfl 126 (.tmp 3) rfl (w.heap.size + 1) 0 rfl (rowA 64 (part2 l (64 - 16))).toList _ hR Tryd.underlying126 rfl (by rw [rowA_toList]; simpa using hsz) ?_)
            | (refine wpList_store_mid rfl 126 (.tmp 2) (.tmp 61) rfl w.heap.size 0 (rowA 64 (part2 l (64 - 16))) rfl rfl (by rw [rowA_size]; exact there_row hz2) (by rw [rowA_size]; exact hsz) (rowA_one _ _ fun _ => rfl) ?_))
          exact bodyPost_ret (results_row rfl _ rfl (rowIs_setAll hz2 (part2 l 48)) Tryd.underlying126 hsz) rfl ⟨rfl, below_setCells _ (Nat.le_refl _) _ _ _ hB2⟩
end Go.Proofs.YtchpmdcacpjojaaDoor
namespace Go.Proofs.YtchpmdcacpjojaaDoor
open Go.RowKit
set_option maxRecDepth 8000
set_option linter.all false
attribute [local go_sem] u32_add u32_xor u32_and u32_or u32_not signed_u32 wrap_uN rowA_at

/-- Eight numbers as the model has them. -/
def uF (s : Nat → BitVec 32) : Nat → Value := fun i => .int .u32 (uN (s i))
theorem uF_at (s : Nat → BitVec 32) (i : Nat) : uF s i = .int .u32 (uN (s i)) := rfl
attribute [local go_sem] uF_at
structure ShSt where
  a : BitVec 32
  b : BitVec 32
  c : BitVec 32
  d : BitVec 32
  e : BitVec 32
  f : BitVec 32
  g : BitVec 32
  h : BitVec 32
def ShSt.get (s : ShSt) : Nat → BitVec 32
  | 0 => s.a | 1 => s.b | 2 => s.c | 3 => s.d | 4 => s.e | 5 => s.f | 6 => s.g | 7 => s.h | _ => 0
def ShSt.of (f : Nat → BitVec 32) : ShSt := ⟨f 0, f 1, f 2, f 3, f 4, f 5, f 6, f 7⟩
def ShSt.one (s : ShSt) (k w : BitVec 32) : BitVec 32 := s.h + bs1 s.e + chs s.e s.f s.g + k + w
def ShSt.two (s : ShSt) : BitVec 32 := bs0 s.a + maj s.a s.b s.c
def ShSt.next (s : ShSt) (k w : BitVec 32) : ShSt := ⟨s.one k w + s.two, s.a, s.b, s.c, s.d + s.one k w, s.e, s.f, s.g⟩
def runTo (K W : Nat → BitVec 32) (s : ShSt) : Nat → ShSt
  | 0 => s
  | t + 1 => (runTo K W s t).next (K t) (W t)

theorem cell_drew {w : World} {a : Addr} {v : Value} (h : w.cell? a = some v) : w.drew.cell? a = some v := h
set_option maxHeartbeats 800000 in
theorem rounds_any (K s W : Nat → BitVec 32) (w : World) (h1 : 1 < w.heap.size)
    (hK : ∀ i, i < 64 → w.cell? ⟨1, i, none⟩ = some (.int .u32 (uN (K i)))) :
    Calls Tryd.prog 86 #[.agg (rowA 8 (uF s)), .agg (rowA 64 (uF W))] w fun e w' => e = .returned (.agg (rowA 8 (uF (runTo K W (ShSt.of s) 64).get))) ∧ Below w.heap.size w w' := by
  have HK := Lib.hid hK
  clear hK
  go_enter Tryd.func86, Tryd.ntmps86
  go_wp2
  have r0 := ((rowIs_box w 117 8 (uF s)).alloc (.cells (rowA 64 (uF W)) 126)).alloc (.cells (rowA 8 fun _ => .int .u32 0) 117)
  have r1 := (rowIs_box (w.alloc (.cells (rowA 8 (uF s)) 117)) 126 64 (uF W)).alloc (.cells (rowA 8 fun _ => .int .u32 0) 117)
  have r2 := rowIs_box ((w.alloc (.cells (rowA 8 (uF s)) 117)).alloc (.cells (rowA 64 (uF W)) 126)) 117 8 fun _ => .int .u32 0
  have hB : Below w.heap.size w (((w.alloc (.cells (rowA 8 (uF s)) 117)).alloc (.cells (rowA 64 (uF W)) 126)).alloc (.cells (rowA 8 fun _ => .int .u32 0) 117)) :=
    (((Below.refl _ w).alloc (Nat.le_refl _) _).alloc (by simp) _).alloc (by simp; omega) _
  rw [World.size_alloc] at r1 r2
  rw [World.size_alloc] at r2
  rw [show (#[Value.int IntKind.u32 0, Value.int IntKind.u32 0, Value.int IntKind.u32 0, Value.int IntKind.u32 0, Value.int IntKind.u32 0, Value.int IntKind.u32 0, Value.int IntKind.u32 0, Value.int IntKind.u32 0] : Array Value) = rowA 8 (fun _ => .int .u32 0) from rfl]
  generalize (((w.alloc (.cells (rowA 8 (uF s)) 117)).alloc (.cells (rowA 64 (uF W)) 126)).alloc (.cells (rowA 8 fun _ => .int .u32 0) 117)) = W0 at r0 r1 r2 hB ⊢
  have c0 := r0.cell (i := 0) (by omega)
  have c1 := r0.cell (i := 1) (by omega)
  have c2 := r0.cell (i := 2) (by omega)
  have c3 := r0.cell (i := 3) (by omega)
  have c4 := r0.cell (i := 4) (by omega)
  have c5 := r0.cell (i := 5) (by omega)
  have c6 := r0.cell (i := 6) (by omega)
  have c7 := r0.cell (i := 7) (by omega)
  clear r0
  go_still (by kernel_rfl)
  clear c0 c1 c2 c3
  replace c4 := cell_drew c4
  replace c5 := cell_drew c5
  replace c6 := cell_drew c6
  replace c7 := cell_drew c7
  replace r1 := r1.drew
  replace r2 := r2.drew
  replace hB := hB.drew
  go_wp2
  change Code.wp _ _ _ _ W0.drew
  generalize W0.drew = W1 at c4 c5 c6 c7 r1 r2 hB ⊢
  go_still (by kernel_rfl)
  clear c4 c5 c6 c7
  replace r1 := r1.drew
  replace r2 := r2.drew
  replace hB := hB.drew
  go_wp2
  change Code.wp _ _ _ _ W1.drew
  generalize W1.drew = W2 at r1 r2 hB ⊢
  go_loopw [5, 6, 7, 8, 9, 10, 11, 12, 32] (fun a b c d e f g h i wr => ∃ t : Nat, ∃ x : ShSt, t ≤ 64 ∧ i = .int .i64 t ∧ Hid (x = runTo K W (ShSt.of s) t) ∧ a = .int .u32 (uN x.a) ∧ b = .int .u32 (uN x.b) ∧ c = .int .u32 (uN x.c) ∧ d = .int .u32 (uN x.d) ∧ e = .int .u32 (uN x.e) ∧ f = .int .u32 (uN x.f) ∧ g = .int .u32 (uN x.g) ∧ h = .int .u32 (uN x.h) ∧ wr.rowIs (w.heap.size + 1) 126 64 (uF W) ∧ wr.rowIs (w.heap.size + 1 + 1) 117 8 (fun _ => .int .u32 0) ∧ Below w.heap.size w wr) (fun _ _ _ _ _ _ _ _ i _ => 64 - (intOf i).toNat)
  case atStart => exact ⟨0, ShSt.of s, by omega, rfl, rfl, rfl, rfl, rfl, rfl, rfl, rfl, rfl, rfl, r1, r2, hB⟩
  case round =>
    obtain ⟨t, x, ht, rfl, hx, rfl, rfl, rfl, rfl, rfl, rfl, rfl, rfl, q1, q2, qB⟩ := hrel
    clear r1 r2 hB
    by_cases hlt : t < 64
    · have cW := q1.cell (i := t) (by omega)
      have cK := (qB.cell (p := ⟨1, t, none⟩) h1).trans (HK.out t hlt)
      have i64 : (t : Int) < 64 := by omega
      go_wp2
      refine wp_region_still_lit (by kernel_rfl) (by kernel_rfl) ?_
      iterate 2 (refine wpStill_step (fun K hK => ?_); go_simp; (try go_bits); refine hK _ ?_; clear hK K)
      (refine wpStill_step (fun K hK => ?_); go_simp; refine ⟨_, ((bs1_any _ _).mono fun _ _ h => ⟨h.1, h.2.symm⟩), hK _ ?_⟩; clear hK K)
      iterate 4 (refine wpStill_step (fun K hK => ?_); go_simp; (try go_bits); refine hK _ ?_; clear hK K)
      (refine wpStill_step (fun K hK => ?_); go_simp; refine ⟨_, ((chs_any _ _ _ _).mono fun _ _ h => ⟨h.1, h.2.symm⟩), hK _ ?_⟩; clear hK K)
      iterate 10 (refine wpStill_step (fun K hK => ?_); go_simp; (try go_bits); refine hK _ ?_; clear hK K)
      refine wpStill_nil ?_
      go_wp2_with (first | (go_at_call 92; refine (bs0_any _ _).mono ?_; rintro e w' ⟨rfl, rfl⟩) | (go_at_call 93; refine (maj_any _ _ _ _).mono ?_; rintro e w' ⟨rfl, rfl⟩))
      go_roundw
      case rel => exact ⟨t + 1, x.next (K t) (W t), by omega, by go_num, Lib.hid (by rw [hx.out]; rfl), rfl, rfl, rfl, rfl, rfl, rfl, rfl, rfl, q1.drew, q2.drew, qB.drew⟩
      case measure => simp [intOf]; omega
    · obtain rfl : t = 64 := by omega
      have hsz : (Tryd.prog.info? 117).map (·.size) = some 8 := by kernel_rfl
      go_wp2_with (refine wpList_store_mid rfl 117 (.tmp 4) (.tmp 80) rfl (w.heap.size + 1 + 1) 0 (rowA 8 (uF x.get)) rfl rfl (by rw [rowA_size]; exact there_row q2) (by rw [rowA_size]; exact hsz) (rowA_one _ _ fun _ => rfl) ?_)
      exact bodyPost_ret (results_row rfl _ rfl (rowIs_setAll q2 (uF x.get)) Tryd.underlying117 hsz) rfl ⟨by rw [hx.out], below_setCells _ (by omega) _ _ _ qB⟩
end Go.Proofs.YtchpmdcacpjojaaDoor
namespace Go.Proofs.YtchpmdcacpjojaaDoor
open Go.RowKit
set_option maxRecDepth 8000
set_option linter.all false
attribute [local go_sem] u32_add u32_xor u32_and u32_or u32_not signed_u32 wrap_uN uF_at

theorem info23 : (Tryd.prog.info? 117).map (·.size) = some 8 := by kernel_rfl

/-- A row of eight cells of type 23 that may be written. -/
def Row8 (W : World) (g : Nat) : Prop := ∃ f, W.rowIs g 117 8 f
theorem Row8_drew (W : World) (g : Nat) : Row8 W.drew g ↔ Row8 W g := Iff.rfl
theorem Row8_new (W : World) (f : Nat → Value) (g : Nat) (h : g = W.heap.size) : Row8 (W.alloc (.cells #[f 0, f 1, f 2, f 3, f 4, f 5, f 6, f 7] 117)) g := by subst h; exact ⟨f, rowIs_box W 117 8 f⟩
theorem Row8_zero (W : World) (g : Nat) (h : W.heap.size = g) : Row8 (W.alloc (.cells #[.int .u32 0, .int .u32 0, .int .u32 0, .int .u32 0, .int .u32 0, .int .u32 0, .int .u32 0, .int .u32 0] 117)) g := Row8_new W (fun _ => .int .u32 0) _ h.symm
theorem Row8_old (W : World) (o : Obj) (g : Nat) (h : Row8 W g) : Row8 (W.alloc o) g := by obtain ⟨f, h⟩ := h; exact ⟨f, h.alloc o⟩
theorem Row8_below {W W' : World} (h : Below W.heap.size W W') (g : Nat) (hg : Row8 W g) : Row8 W' g := by obtain ⟨f, r⟩ := hg; exact ⟨f, rowIs_below r h r.lt⟩
theorem run_store8 {W : World} {g : Nat} (h : Row8 W g) (f : Nat → BitVec 32) : (storeCells ⟨g, 0, none⟩ (rowA 8 (uF f)).toList).run Tryd.prog W = .ok () (W.setCells g 0 (rowA 8 (uF f)).toList) := by
  obtain ⟨z, r⟩ := h
  have := run_storeCells_cells (P := Tryd.prog) g 0 (rowA 8 (uF f)).toList 0 W (fun j hj => by simpa using (there_row r j (by rw [rowA_toList] at hj; simpa using hj)).1) (fun j hj => by simpa using (there_row r j (by rw [rowA_toList] at hj; simpa using hj)).2)
    (fun v hv => by rw [rowA_toList] at hv; obtain ⟨i, _, rfl⟩ := List.mem_map.1 hv; rfl)
  simpa using this
theorem Row8.setAll {W : World} {g : Nat} (h : Row8 W g) (f : Nat → Value) : (W.setCells g 0 (rowA 8 f).toList).rowIs g 117 8 f := by obtain ⟨z, r⟩ := h; exact rowIs_setAll r f
def mixed (s T : Nat → BitVec 32) (k : Nat) : Nat → BitVec 32 := fun i => if i < k then s i + T i else s i
theorem mixed_set (s T : Nat → BitVec 32) (k i : Nat) : (if i = k then Value.int .u32 (uN (s k + T k)) else uF (mixed s T k) i) = uF (mixed s T (k + 1)) i := by
  simp only [uF, mixed]
  by_cases h : i = k
  · subst h; simp
  · by_cases h2 : i < k
    · rw [if_neg h, if_pos h2, if_pos (by omega)]
    · rw [if_neg h, if_neg h2, if_neg (by omega)]
theorem schedule_near {B : Nat} {W0 : World} (l : List UInt8) (b o cap : Nat) (hcap : 64 ≤ cap) (hm : cap ≤ maxLen) (hb : b < B)
    (hc : ∀ i, i < 64 → W0.cell? ⟨b, o + i, none⟩ = some (.int .u8 (bN (bAt l i)))) (w : World) (hB : Below B W0 w) (hs : B ≤ w.heap.size) :
    Calls Tryd.prog 87 #[.slice (some ⟨b, o, none⟩) 64 cap] w fun e w' => e = .returned (.agg (rowA 64 (uF (wS l 48)))) ∧ Below B W0 w' ∧ (∀ g, Row8 w g → Row8 w' g) ∧ w.heap.size ≤ w'.heap.size :=
  (schedule_any l b o cap hcap hm w (by omega) (fun i hi => (hB.cell (p := ⟨b, o + i, none⟩) hb).trans (hc i hi))).mono fun _ _ h => ⟨h.1, hB.trans (h.2.mono hs), Row8_below h.2, h.2.size⟩
theorem rounds_near {B : Nat} {W0 : World} (K s W : Nat → BitVec 32) (h1 : 1 < B)
    (hK : ∀ i, i < 64 → W0.cell? ⟨1, i, none⟩ = some (.int .u32 (uN (K i)))) (w : World) (hB : Below B W0 w) (hs : B ≤ w.heap.size) :
    Calls Tryd.prog 86 #[.agg (rowA 8 (uF s)), .agg (rowA 64 (uF W))] w fun e w' => e = .returned (.agg (rowA 8 (uF (runTo K W (ShSt.of s) 64).get))) ∧ Below B W0 w' ∧ (∀ g, Row8 w g → Row8 w' g) ∧ w.heap.size ≤ w'.heap.size :=
  (rounds_any K s W w (by omega) (fun i hi => (hB.cell (p := ⟨1, i, none⟩) h1).trans (hK i hi))).mono fun _ _ h => ⟨h.1, hB.trans (h.2.mono hs), Row8_below h.2, h.2.size⟩

attribute [local go_sem] Row8_drew Row8_zero run_store8
set_option maxHeartbeats 1000000 in
theorem Turn_any (K s : Nat → BitVec 32) (l : List UInt8) (b o cap : Nat) (hcap : 64 ≤ cap) (hm : cap ≤ maxLen) (w : World) (hb : b < w.heap.size) (h1 : 1 < w.heap.size)
    (hK : ∀ i, i < 64 → w.cell? ⟨1, i, none⟩ = some (.int .u32 (uN (K i))))
    (hc : ∀ i, i < 64 → w.cell? ⟨b, o + i, none⟩ = some (.int .u8 (bN (bAt l i)))) :
    Calls Tryd.prog 80 #[.agg (rowA 8 (uF s)), .slice (some ⟨b, o, none⟩) 64 cap] w fun e w' => e = .returned (.agg (rowA 8 (uF fun i => s i + (runTo K (wS l 48) (ShSt.of s) 64).get i))) ∧ Below w.heap.size w w' := by
  have HK := Lib.hid hK
  have HC := Lib.hid hc
  clear hK hc
  go_enter Tryd.func80, Tryd.ntmps80
  go_wp2
  have r0 := (rowIs_box w 117 8 (uF s)).alloc (.cells (rowA 8 fun _ => .int .u32 0) 117)
  have r1 := rowIs_box (w.alloc (.cells (rowA 8 (uF s)) 117)) 117 8 fun _ => .int .u32 0
  have hB : Below w.heap.size w ((w.alloc (.cells (rowA 8 (uF s)) 117)).alloc (.cells (rowA 8 fun _ => .int .u32 0) 117)) :=
    ((Below.refl _ w).alloc (Nat.le_refl _) _).alloc (by simp) _
  have hs : ((w.alloc (.cells (rowA 8 (uF s)) 117)).alloc (.cells (rowA 8 fun _ => .int .u32 0) 117)).heap.size = w.heap.size + 2 := by simp
  rw [World.size_alloc] at r1
  rw [show (#[Value.int IntKind.u32 0, Value.int IntKind.u32 0, Value.int IntKind.u32 0, Value.int IntKind.u32 0, Value.int IntKind.u32 0, Value.int IntKind.u32 0, Value.int IntKind.u32 0, Value.int IntKind.u32 0] : Array Value) = rowA 8 (fun _ => .int .u32 0) from rfl]
  generalize ((w.alloc (.cells (rowA 8 (uF s)) 117)).alloc (.cells (rowA 8 fun _ => .int .u32 0) 117)) = W0 at r0 r1 hB hs ⊢
  have hB2 := Below.refl (w.heap.size + 2) W0
  have HB2 := Lib.hid hB2
  clear hB2
  have HK2 : Hid (∀ i, i < 64 → W0.cell? ⟨1, i, none⟩ = some (.int .u32 (uN (K i)))) := Lib.hid fun i hi => (hB.cell (p := ⟨1, i, none⟩) h1).trans (HK.out i hi)
  have HC2 : Hid (∀ i, i < 64 → W0.cell? ⟨b, o + i, none⟩ = some (.int .u8 (bN (bAt l i)))) := Lib.hid fun i hi => (hB.cell (p := ⟨b, o + i, none⟩) hb).trans (HC.out i hi)
  go_cut [5] (fun p wx => ∃ g : Nat, w.heap.size + 2 ≤ g ∧ p = .pointer (some ⟨g, 0, none⟩) ∧ wx.rowIs g 117 8 (uF (runTo K (wS l 48) (ShSt.of s) 64).get) ∧ Below (w.heap.size + 2) W0 wx)
  case first =>
    have HS : Hid (∀ w' : World, Below (w.heap.size + 2) W0 w' → w'.cell? ⟨w.heap.size, 0, none⟩ = some (uF s 0) ∧ w'.cell? ⟨w.heap.size, 1, none⟩ = some (uF s 1) ∧ w'.cell? ⟨w.heap.size, 2, none⟩ = some (uF s 2) ∧ w'.cell? ⟨w.heap.size, 3, none⟩ = some (uF s 3) ∧ w'.cell? ⟨w.heap.size, 4, none⟩ = some (uF s 4) ∧ w'.cell? ⟨w.heap.size, 5, none⟩ = some (uF s 5) ∧ w'.cell? ⟨w.heap.size, 6, none⟩ = some (uF s 6) ∧ w'.cell? ⟨w.heap.size, 7, none⟩ = some (uF s 7)) := Lib.hid fun w' h => by
      have r := rowIs_below r0 h (by omega)
      exact ⟨r.cell (by omega), r.cell (by omega), r.cell (by omega), r.cell (by omega), r.cell (by omega), r.cell (by omega), r.cell (by omega), r.cell (by omega)⟩
    have c0 := r0.cell (i := 0) (by omega)
    have c1 := r0.cell (i := 1) (by omega)
    have c2 := r0.cell (i := 2) (by omega)
    have c3 := r0.cell (i := 3) (by omega)
    have c4 := r0.cell (i := 4) (by omega)
    have c5 := r0.cell (i := 5) (by omega)
    have c6 := r0.cell (i := 6) (by omega)
    have c7 := r0.cell (i := 7) (by omega)
    go_region_held3 (fun w' => w'.cell? ⟨w.heap.size, 0, none⟩ = some (uF s 0) ∧ w'.cell? ⟨w.heap.size, 1, none⟩ = some (uF s 1) ∧ w'.cell? ⟨w.heap.size, 2, none⟩ = some (uF s 2) ∧ w'.cell? ⟨w.heap.size, 3, none⟩ = some (uF s 3) ∧ w'.cell? ⟨w.heap.size, 4, none⟩ = some (uF s 4) ∧ w'.cell? ⟨w.heap.size, 5, none⟩ = some (uF s 5) ∧ w'.cell? ⟨w.heap.size, 6, none⟩ = some (uF s 6) ∧ w'.cell? ⟨w.heap.size, 7, none⟩ = some (uF s 7)) (first | with_reducible exact HS.out _ hb2 | with_reducible exact HS.out _ (hb2.alloc (by simp at hz1 hz2; omega) _) | with_reducible exact HS.out _ (below_setCells _ (by first | omega | (simp at hz1 hz2 ⊢; omega)) _ _ _ (hb2.alloc (by simp at hz1 hz2; omega) _)) | with_reducible exact HS.out _ (below_setCells _ (by first | omega | (simp at hz1 hz2 ⊢; omega)) _ _ _ hb2) | with_reducible exact HS.out _ hb1 | with_reducible exact HS.out _ (hb1.alloc (by simp at hz1; omega) _) | with_reducible exact HS.out _ HB2.out.drew | with_reducible exact HS.out _ (HB2.out.alloc (by omega) _).drew | with_reducible exact HS.out _ HB2.out | (trace "keep"; go_keep)) (first
      | (go_at_call 87; refine (schedule_near (B := w.heap.size + 2) (W0 := W0) l b o cap hcap hm (by omega) HC2.out _ (by first | with_reducible exact HB2.out.drew | with_reducible exact (HB2.out.alloc (by omega) _).drew) (by simp; omega)).mono ?_; rintro e w1 ⟨rfl, hb1, hg1, hz1⟩; (first | (have z1 := hg1 _ ((Row8_drew _ _).2 (Row8_zero W0 _ hs))) | skip))
      | (go_at_call 86; refine (rounds_near (B := w.heap.size + 2) (W0 := W0) K s _ (by omega) HK2.out _ (by first | with_reducible exact hb1 | with_reducible exact hb1.alloc (by simp at hz1; omega) _) (by simp at hz1 ⊢; omega)).mono ?_; rintro e w2 ⟨rfl, hb2, hg2, hz2⟩; (first | (have z2 := hg2 _ (Row8_zero w1 _ rfl)) | (have z2 := hg2 _ z1) | skip)))
    · go_wp2_with fail
      go_meet
      case rel => exact ⟨_, by simp at hz1 hz2; omega, rfl, (Row8_zero w2 _ rfl).setAll _, below_setCells _ (by simp at hz1 hz2; omega) _ _ _ (hb2.alloc (by simp at hz1 hz2; omega) _)⟩
    · go_wp2_with fail
      go_meet
      case rel => exact ⟨_, by simp at hz1; omega, rfl, z2.setAll _, below_setCells _ (by simp at hz1; omega) _ _ _ hb2⟩
    · go_wp2_with fail
      go_meet
      case rel => exact ⟨_, Nat.le_refl _, rfl, z2.setAll _, below_setCells _ (Nat.le_refl _) _ _ _ hb2⟩
  case rest =>
    obtain ⟨g, hg, rfl, q2, qB⟩ := hcut
    have q0 := rowIs_below r0 qB (by omega)
    have q1 := rowIs_below r1 qB (by omega)
    have qw : Below w.heap.size w wc := hB.trans (qB.mono (by omega))
    clear r0 r1 hB hs HB2 HK2 HC2 HK HC qB
    generalize HT : (runTo K (wS l 48) (ShSt.of s) 64).get = T at q2
    have HT2 := Lib.hid HT
    clear HT
    go_wp2
    go_loopw [15] (fun i wr => ∃ k : Nat, k ≤ 8 ∧ i = .int .i64 k ∧ wr.rowIs w.heap.size 117 8 (uF (mixed s T k)) ∧ wr.rowIs (w.heap.size + 1) 117 8 (fun _ => .int .u32 0) ∧ wr.rowIs g 117 8 (uF T) ∧ Below w.heap.size w wr) (fun i _ => 8 - (intOf i).toNat)
    case atStart => exact ⟨0, by omega, rfl, q0, q1, q2, qw⟩
    case round =>
      obtain ⟨k, hk, rfl, r0, r1, r2, rB⟩ := hrel
      clear q0 q1 q2 qw
      by_cases hlt : k < 8
      · have c0 := r0.cell (i := k) (by omega)
        rw [uF_at, show mixed s T k k = s k by simp [mixed]] at c0
        have c2 := r2.cell (i := k) (by omega)
        have f0 := r0.frozen k
        have i8 : (k : Int) < 8 := by omega
        go_wp2
        refine wp_region_still_tail 8 (by kernel_rfl) (by kernel_rfl) ?_
        simp only [List.take_succ_cons, List.take_zero, List.drop_succ_cons, List.drop_zero]
        iterate 8 (refine wpStill_step (fun K hK => ?_); go_simp; (try go_bits); refine hK _ ?_; clear hK K)
        refine wpStill_nil ?_
        go_wp2
        go_roundw
        case rel => exact ⟨k + 1, by omega, by go_num, ((r0.set k _).congr fun i _ => mixed_set s T k i), r1.setOther (by simp) _, r2.setOther (by simp; omega) _, (rB.setCell (p := ⟨w.heap.size, k, none⟩) (by simp) _).drew⟩
        case measure => simp [intOf]; omega
      · obtain rfl : k = 8 := by omega
        have hR := rangeAt_row r0
        go_wp2_with (first
            | (refine wpList_load_mid rfl 117 (.tmp 2) rfl w.heap.size 0 rfl (rowA 8 (uF (mixed s T 8))).toList _ hR Tryd.underlying117 rfl (by rw [rowA_toList]; simpa using info23) ?_)
            | (refine wpList_store_mid rfl 117 (.tmp 4) (.tmp 27) rfl (w.heap.size + 1) 0 (rowA 8 (uF (mixed s T 8))) rfl rfl (by rw [rowA_size]; exact there_row r1) (by rw [rowA_size]; exact info23) (rowA_one _ _ fun _ => rfl) ?_))
        refine bodyPost_ret (results_row rfl _ rfl (rowIs_setAll r1 (uF (mixed s T 8))) Tryd.underlying117 info23) rfl ⟨?_, below_setCells _ (by omega) _ _ _ rB⟩
        rw [HT2.out]
        exact congrArg (fun z => Ending.returned (.agg z)) (rowA_congr fun i hi => by simp [uF, mixed, hi])
end Go.Proofs.YtchpmdcacpjojaaDoor
namespace Go.Proofs.YtchpmdcacpjojaaDoor
open Go.RowKit
set_option maxRecDepth 8000
set_option linter.all false
attribute [local go_sem] u32_add u32_xor u32_and u32_or u32_not signed_u32 wrap_uN uF_at u32_shr u32_u8

def dig (s : Nat → BitVec 32) (n : Nat) : UInt8 := UInt8.ofBitVec ((s (n / 4) >>> (24 - 8 * (n % 4))).setWidth 8)
def digTo (s : Nat → BitVec 32) (m n : Nat) : UInt8 := if n < m then dig s n else 0
theorem digTo_set (s : Nat → BitVec 32) (k j i : Nat) (hj : j < 4) :
    (if i = 4 * k + j then Value.int .u8 (bN (UInt8.ofBitVec ((s k >>> (24 - 8 * j)).setWidth 8))) else bF (digTo s (4 * k + j)) i) = bF (digTo s (4 * k + (j + 1))) i := by
  simp only [bF, digTo]
  by_cases h : i = 4 * k + j
  · subst h
    rw [if_pos rfl, if_pos (by omega), dig, show (4 * k + j) / 4 = k by omega, show (4 * k + j) % 4 = j by omega]
  · by_cases h2 : i < 4 * k + j
    · rw [if_neg h, if_pos h2, if_pos (by omega)]
    · rw [if_neg h, if_neg h2, if_neg (by omega)]
set_option maxHeartbeats 1000000 in
theorem digest_any (s : Nat → BitVec 32) (w : World) :
    Calls Tryd.prog 81 #[.agg (rowA 8 (uF s))] w fun e w' => e = .returned (.agg (rowA 32 (bF (dig s)))) ∧ Below w.heap.size w w' := by
  go_enter Tryd.func81, Tryd.ntmps81
  go_upto_region 2 with fail
  have r0 := ((rowIs_box w 117 8 (uF s)).alloc (.cells (rowA 32 (bF fun _ => 0)) 32)).alloc (.cells (rowA 32 (bF fun _ => 0)) 32)
  have r1 := (rowIs_box (w.alloc (.cells (rowA 8 (uF s)) 117)) 32 32 (bF fun _ => 0)).alloc (.cells (rowA 32 (bF fun _ => 0)) 32)
  have r2 := rowIs_box ((w.alloc (.cells (rowA 8 (uF s)) 117)).alloc (.cells (rowA 32 (bF fun _ => 0)) 32)) 32 32 (bF fun _ => 0)
  have hB : Below w.heap.size w (((w.alloc (.cells (rowA 8 (uF s)) 117)).alloc (.cells (rowA 32 (bF fun _ => 0)) 32)).alloc (.cells (rowA 32 (bF fun _ => 0)) 32)) :=
    (((Below.refl _ w).alloc (Nat.le_refl _) _).alloc (by simp) _).alloc (by simp; omega) _
  rw [World.size_alloc] at r1 r2
  rw [World.size_alloc] at r2
  change Code.wp _ _ _ _ (((w.alloc (.cells (rowA 8 (uF s)) 117)).alloc (.cells (rowA 32 (bF fun _ => 0)) 32)).alloc (.cells (rowA 32 (bF fun _ => 0)) 32))
  generalize (((w.alloc (.cells (rowA 8 (uF s)) 117)).alloc (.cells (rowA 32 (bF fun _ => 0)) 32)).alloc (.cells (rowA 32 (bF fun _ => 0)) 32)) = W0 at r0 r1 r2 hB ⊢
  have hR := rangeAt_row r0
  go_wp2_with (refine wpList_load_mid rfl 117 (.tmp 1) rfl w.heap.size 0 rfl (rowA 8 (uF s)).toList _ hR Tryd.underlying117 rfl (by rw [rowA_toList]; simpa using info23) ?_)
  clear hR r0
  go_loopw [8] (fun i wr => ∃ k : Nat, k ≤ 8 ∧ i = .int .i64 k ∧ wr.rowIs (w.heap.size + 1) 32 32 (bF fun _ => 0) ∧ wr.rowIs (w.heap.size + 1 + 1) 32 32 (bF (digTo s (4 * k))) ∧ Below w.heap.size w wr) (fun i _ => 8 - (intOf i).toNat)
  case atStart => exact ⟨0, by omega, rfl, r1, r2, hB⟩
  case round =>
    obtain ⟨k, hk, rfl, q1, q2, qB⟩ := hrel
    clear r1 r2 hB
    by_cases hlt : k < 8
    · have hix := index_row (P := Tryd.prog) 117 116 _ Tryd.underlying117 Tryd.underlying116 rfl (by kernel_rfl) (uF s) .i64 k hlt
      go_wp2
      clear hix
      go_loopw [12] (fun i wr => ∃ j : Nat, j ≤ 4 ∧ i = .int .i64 j ∧ wr.rowIs (w.heap.size + 1) 32 32 (bF fun _ => 0) ∧ wr.rowIs (w.heap.size + 1 + 1) 32 32 (bF (digTo s (4 * k + j))) ∧ Below w.heap.size w wr) (fun i _ => 4 - (intOf i).toNat)
      case atStart => exact ⟨0, by omega, rfl, q1, q2, qB⟩
      case round =>
        obtain ⟨j, hj, rfl, z1, z2, zB⟩ := hrel
        clear q1 q2 qB
        by_cases hj4 : j < 4
        · have c0 := z2.cell (i := 4 * k + j) (by omega)
          have f0 := z2.frozen (4 * k + j)
          have e24 : ((24 : Int) - 8 * (j : Int)).toNat = 24 - 8 * j := by omega
          go_wp2
          go_roundw
          case rel => exact ⟨j + 1, by omega, by go_num, z1.setOther (by simp) _, (z2.set (4 * k + j) _).congr fun i _ => digTo_set s k j i hj4, (zB.setCell (p := ⟨w.heap.size + 1 + 1, 4 * k + j, none⟩) (by simp; omega) _)⟩
          case measure => simp [intOf]; omega
        · obtain rfl : j = 4 := by omega
          go_wp2
          go_roundw
          case rel => exact ⟨k + 1, by omega, by go_num, z1, z2, zB⟩
          case measure => simp [intOf]; omega
    · obtain rfl : k = 8 := by omega
      have hR := rangeAt_row q2
      go_wp2_with (first
            | (refine wpList_load_mid rfl 32 (.tmp 3) rfl (w.heap.size + 1 + 1) 0 rfl (rowA 32 (bF (digTo s (4 * 8)))).toList _ hR Tryd.underlying32 rfl (by rw [rowA_toList]; simpa using info31) ?_)
            | (refine wpList_store_mid rfl 32 (.tmp 2) (.tmp 28) rfl (w.heap.size + 1) 0 (rowA 32 (bF (digTo s (4 * 8)))) rfl rfl (by rw [rowA_size]; exact there_row q1) (by rw [rowA_size]; exact info31) (rowA_one _ _ fun _ => rfl) ?_))
      refine bodyPost_ret (results_row rfl _ rfl (rowIs_setAll q1 (bF (digTo s (4 * 8)))) Tryd.underlying32 info31) rfl ⟨?_, below_setCells _ (by omega) _ _ _ qB⟩
      exact congrArg (fun z => Ending.returned (.agg z)) (rowA_congr fun i hi => by simp [bF, digTo, hi])
end Go.Proofs.YtchpmdcacpjojaaDoor
namespace Go.Proofs.YtchpmdcacpjojaaDoor
open Go.RowKit
set_option maxRecDepth 8000
set_option linter.all false
attribute [local go_sem] bF_at rowA_at

/-- The bytes that tell the length 8 n, the highest first. -/
def lenByte (n i : Nat) : UInt8 := UInt8.ofNat (n * 8 % 18446744073709551616 / 2 ^ (56 - 8 * i))
def fillHead (i : Nat) : UInt8 := if i = 0 then 128 else 0
def FillPost (n r : Nat) (w : World) (e : Ending) (w' : World) : Prop := ∃ v, e = .returned v ∧ w'.ownsRow w.heap.size 5 1 v (r + 8) ((List.range r).map (bF fillHead) ++ (List.range 8).map (bF (lenByte n))) ∧ Below w.heap.size w w'
theorem make_fill (i0 : TypeInfo) (hi : Tryd.prog.info? 5 = some i0) (hz0 : i0.zero = some (.int .u8 0)) (hz1 : i0.size = 1) (hz2 : i0.bytes = 1) (r : Nat) (hr : r ≤ 64) (W : World) :
    (Instr.makeSlice 49 (.int .i64 (r : Int)) (.int .i64 ((r : Int) + 8))).run Tryd.prog W = .ok (.slice (some ⟨W.heap.size, 0, none⟩) r (r + 8)) (W.alloc (.cells (rowA (r + 8) (bF fun _ => 0)) 5)) := by
  have := run_make (P := Tryd.prog) W 49 5 i0 _ Tryd.underlying49 hi hz0 .i64 .i64 (r : Int) ((r : Int) + 8) (by omega) (by omega) (by rw [hz2]; omega) (by omega)
  rw [this, hz1, show ((r : Int) + 8).toNat = r + 8 by omega, Int.toNat_natCast, Nat.mul_one]
  have e : madeCells (Value.int .u8 0).cells (r + 8) = rowA (r + 8) (bF fun _ => 0) := made_row (r + 8) (.int .u8 0)
  rw [e]
theorem lenByte_eq (n i : Nat) : IntKind.u8.wrap (IntKind.u64.wrap ((n : Int) * 8) / 2 ^ (56 - 8 * i)) = bN (lenByte n i) := by
  have h1 : IntKind.u64.wrap ((n : Int) * 8) = ((n * 8 % 18446744073709551616 : Nat) : Int) := by simp [IntKind.wrap, IntKind.bits, IntKind.signed]
  rw [h1, wrap_u8, lenByte, bN, UInt8.toNat_ofNat']
  have h2 : ((2 : Int) ^ (56 - 8 * i)) = ((2 ^ (56 - 8 * i) : Nat) : Int) := by simp
  rw [h2, ← Int.natCast_ediv]
  omega
set_option maxHeartbeats 1000000 in
theorem Fill_two (n r : Nat) (hn : n ≤ 9223372036854775807) (hr : (56 : Int) - (n : Int) % 64 = r) (hr1 : 1 ≤ r) (hr2 : r ≤ 64) (w : World) :
    Calls Tryd.prog 89 #[.int .i64 n] w (FillPost n r w) := by
  obtain ⟨i0, hi, hz0, hz1, hz2⟩ := info_parts info5
  have hmk : ∀ W : World, (Instr.makeSlice 49 (.int .i64 (r : Int)) (.int .i64 ((r : Int) + 8))).run Tryd.prog W = .ok (.slice (some ⟨W.heap.size, 0, none⟩) r (r + 8)) (W.alloc (.cells (rowA (r + 8) (bF fun _ => 0)) 5)) := make_fill i0 hi hz0 hz1 hz2 r hr2
  have h0 : 0 < r := by omega
  have hd0 : decide (r = 0) = false := by simp; omega
  have hlb := lenByte_eq n
  have HLB := Lib.hid hlb
  clear hlb
  go_enter Tryd.func89, Tryd.ntmps89
  go_wp2
  have r0 : (w.alloc (.cells ((rowA (r + 8) (bF fun _ => 0)).setIfInBounds 0 (.int .u8 128)) 5)).rowIs w.heap.size 5 (r + 8) (bF fillHead) := by
    have := (rowIs_box w 5 (r + 8) (bF fun _ => 0)).set 0 (.int .u8 128)
    rw [World.setCell_alloc_at _ _ _ _ _ rfl] at this
    exact this.congr fun i _ => by by_cases h : i = 0 <;> simp [h, bF, fillHead, bN]
  have hB : Below w.heap.size w (w.alloc (.cells ((rowA (r + 8) (bF fun _ => 0)).setIfInBounds 0 (.int .u8 128)) 5)) := (Below.refl _ w).alloc (Nat.le_refl _) _
  have ho := ownsRow_row r0 w.heap.size r (by omega) (by unfold maxLen; omega) (Nat.le_refl _)
  generalize w.alloc (.cells ((rowA (r + 8) (bF fun _ => 0)).setIfInBounds 0 (.int .u8 128)) 5) = W0 at ho hB ⊢
  clear r0 hmk
  go_loopw [4, 21] (fun v i wr => ∃ k : Nat, k ≤ 8 ∧ i = .int .i64 k ∧ wr.ownsRow w.heap.size 5 1 v (r + k) ((List.range r).map (bF fillHead) ++ (List.range k).map (bF (lenByte n))) ∧ Below w.heap.size w wr) (fun _ i _ => 8 - (intOf i).toNat)
  case atStart => exact ⟨0, by omega, rfl, by simpa using ho, hB⟩
  case round =>
    obtain ⟨k, hk, rfl, hown, qB⟩ := hrel
    clear ho hB
    by_cases hlt : k < 8
    · have e56 : ((56 : Int) - 8 * (k : Int)).toNat = 56 - 8 * k := by omega
      have hb8 := HLB.out k
      go_wp2_with (at_builtin; refine wpList_append_own _ rfl (.tmp 24) (.tmp 33) 49 rfl w.heap.size 5 i0 _ 1 1 Tryd.underlying49 hi hz0 hz1 hz2 rfl (by omega) u4 (r + k) _ rfl (hown.alloc _) ⟨wr.heap.size, 0, none⟩ 1 1 [bF (lenByte n) k] rfl rfl (one_cell _ _ _) (by simp [bF, Value.oneCell']) (by unfold maxLen; omega) (by omega) (by have := qB.size; simp; omega) ?_; intro v' w1 hown' hg1 _)
      go_roundw
      case rel =>
        refine ⟨k + 1, by omega, by go_num, ?_, (qB.alloc qB.size _).grown hg1 (by have := qB.size; simp; omega) (fun g e => (hown.lt g e).1)⟩
        rw [List.range_succ, List.map_append, ← List.append_assoc]
        exact hown'
      case measure => simp [intOf]; omega
    · obtain rfl : k = 8 := by omega
      go_wp2
      go_ret
      exact ⟨u4, rfl, hown, qB⟩
set_option maxHeartbeats 1000000 in
theorem Fill_one (n r : Nat) (hn : n ≤ 9223372036854775807) (hr0 : (56 : Int) - (n : Int) % 64 ≤ 0) (hr : (56 : Int) - (n : Int) % 64 + 64 = r) (hr2 : r ≤ 64) (w : World) :
    Calls Tryd.prog 89 #[.int .i64 n] w (FillPost n r w) := by
  obtain ⟨i0, hi, hz0, hz1, hz2⟩ := info_parts info5
  have hmk : ∀ W : World, (Instr.makeSlice 49 (.int .i64 (r : Int)) (.int .i64 ((r : Int) + 8))).run Tryd.prog W = .ok (.slice (some ⟨W.heap.size, 0, none⟩) r (r + 8)) (W.alloc (.cells (rowA (r + 8) (bF fun _ => 0)) 5)) := make_fill i0 hi hz0 hz1 hz2 r hr2
  have h0 : 0 < r := by omega
  have hlb := lenByte_eq n
  have HLB := Lib.hid hlb
  clear hlb
  go_enter Tryd.func89, Tryd.ntmps89
  go_wp2
  have r0 : (w.alloc (.cells ((rowA (r + 8) (bF fun _ => 0)).setIfInBounds 0 (.int .u8 128)) 5)).rowIs w.heap.size 5 (r + 8) (bF fillHead) := by
    have := (rowIs_box w 5 (r + 8) (bF fun _ => 0)).set 0 (.int .u8 128)
    rw [World.setCell_alloc_at _ _ _ _ _ rfl] at this
    exact this.congr fun i _ => by by_cases h : i = 0 <;> simp [h, bF, fillHead, bN]
  have hB : Below w.heap.size w (w.alloc (.cells ((rowA (r + 8) (bF fun _ => 0)).setIfInBounds 0 (.int .u8 128)) 5)) := (Below.refl _ w).alloc (Nat.le_refl _) _
  have ho := ownsRow_row r0 w.heap.size r (by omega) (by unfold maxLen; omega) (Nat.le_refl _)
  generalize w.alloc (.cells ((rowA (r + 8) (bF fun _ => 0)).setIfInBounds 0 (.int .u8 128)) 5) = W0 at ho hB ⊢
  clear r0 hmk
  go_loopw [4, 21] (fun v i wr => ∃ k : Nat, k ≤ 8 ∧ i = .int .i64 k ∧ wr.ownsRow w.heap.size 5 1 v (r + k) ((List.range r).map (bF fillHead) ++ (List.range k).map (bF (lenByte n))) ∧ Below w.heap.size w wr) (fun _ i _ => 8 - (intOf i).toNat)
  case atStart => exact ⟨0, by omega, rfl, by simpa using ho, hB⟩
  case round =>
    obtain ⟨k, hk, rfl, hown, qB⟩ := hrel
    clear ho hB
    by_cases hlt : k < 8
    · have e56 : ((56 : Int) - 8 * (k : Int)).toNat = 56 - 8 * k := by omega
      have hb8 := HLB.out k
      go_wp2_with (at_builtin; refine wpList_append_own _ rfl (.tmp 24) (.tmp 33) 49 rfl w.heap.size 5 i0 _ 1 1 Tryd.underlying49 hi hz0 hz1 hz2 rfl (by omega) u4 (r + k) _ rfl (hown.alloc _) ⟨wr.heap.size, 0, none⟩ 1 1 [bF (lenByte n) k] rfl rfl (one_cell _ _ _) (by simp [bF, Value.oneCell']) (by unfold maxLen; omega) (by omega) (by have := qB.size; simp; omega) ?_; intro v' w1 hown' hg1 _)
      go_roundw
      case rel =>
        refine ⟨k + 1, by omega, by go_num, ?_, (qB.alloc qB.size _).grown hg1 (by have := qB.size; simp; omega) (fun g e => (hown.lt g e).1)⟩
        rw [List.range_succ, List.map_append, ← List.append_assoc]
        exact hown'
      case measure => simp [intOf]; omega
    · obtain rfl : k = 8 := by omega
      go_wp2
      go_ret
      exact ⟨u4, rfl, hown, qB⟩
theorem Fill_any (n : Nat) (hn : n ≤ 9223372036854775807) (w : World) : Calls Tryd.prog 89 #[.int .i64 n] w (FillPost n (if n % 64 < 56 then 56 - n % 64 else 120 - n % 64) w) := by
  by_cases h : n % 64 < 56
  · rw [if_pos h]; exact Fill_two n _ hn (by omega) (by omega) (by omega) w
  · rw [if_neg h]; exact Fill_one n _ hn (by omega) (by omega) (by omega) w
set_option maxHeartbeats 400000 in
theorem Fill_neg (n : Int) (hn : n < 0) (w : World) : Calls Tryd.prog 89 #[.int .i64 n] w fun e w' => e = .returned (.slice none 0 0) ∧ w = w' := by
  go_enter Tryd.func89, Tryd.ntmps89
  go_wp2
  go_ret
  exact ⟨rfl, rfl⟩
end Go.Proofs.YtchpmdcacpjojaaDoor
namespace Go.Proofs.YtchpmdcacpjojaaDoor
open Go.RowKit Go.Shelf
set_option maxRecDepth 8000
set_option linter.all false
attribute [local go_sem] Oper.semAt_some

/-- What fills up n bytes. -/
def fillB (n : Nat) : List UInt8 := (List.range (if n % 64 < 56 then 56 - n % 64 else 120 - n % 64)).map fillHead ++ (List.range 8).map (lenByte n)
theorem fillB_length (n : Nat) : (fillB n).length = (if n % 64 < 56 then 56 - n % 64 else 120 - n % 64) + 8 := by simp [fillB]
theorem rdV_fill {w w' : World} {n : Nat} {v : Value} {L : List Nat} (hL : ∀ k ∈ L, k < w.heap.size)
    (h : w'.ownsRow w.heap.size 5 1 v ((if n % 64 < 56 then 56 - n % 64 else 120 - n % 64) + 8) ((List.range (if n % 64 < 56 then 56 - n % 64 else 120 - n % 64)).map (bF fillHead) ++ (List.range 8).map (bF (lenByte n)))) : RdV w' L v (fillB n) := by
  rcases h.2 with ⟨_, h0⟩ | ⟨g, cap, cur, rfl, hb, _, hnc, hcm, _, _⟩
  · omega
  · refine ⟨some ⟨g, 0, none⟩, cap, by rw [fillB_length], by rw [fillB_length]; exact hnc, hcm, fun _ => ⟨g, 0, rfl, fun hm => by have := hL g hm; omega, fun i hi => ?_⟩⟩
    have hc := h.cells (g := g) rfl i (.int .u8 (bN (bAt (fillB n) i)))
    rw [Addr.add_mid] at hc
    apply hc
    have : (List.range (if n % 64 < 56 then 56 - n % 64 else 120 - n % 64)).map (bF fillHead) ++ (List.range 8).map (bF (lenByte n)) = (fillB n).map fun b => .int .u8 (bN b) := by
      rw [fillB, List.map_append, List.map_map, List.map_map]; rfl
    rw [this]
    simp [bAt, hi]

set_option maxHeartbeats 1000000 in
theorem filled1_seq (L : List Nat) (pb : Nat) (hpb : pb ∉ L) (pv : Value) (ps : List (Value × List UInt8)) (w : World) (hL : ∀ k ∈ L, k < w.heap.size) (hbox : w.cell? ⟨pb, 0, none⟩ = some pv) (hps : PartsAt w L pv ps) (ht : total ps ≤ 4611686018427387904) :
    SeqG Tryd.prog 88 #[.pointer (some ⟨pb, 0, none⟩)] (fun x : Value × List UInt8 => #[x.1]) (KeepBut L) (fun _ x W => RdV W L x.1 x.2) (fun xs => xs.map (·.2) = ps.map (·.2) ++ [fillB (total ps)]) (fun _ => True) w := by
  intro l J Jx W hW hJ hJx hY h0
  have hLW : ∀ k ∈ L, k < W.heap.size := fun k hk => Nat.lt_of_lt_of_le (hL k hk) hW.size
  have hbox' := KeepBut.cell (KeepBut.below hW) hpb hbox
  have hps' := hps.keep (KeepBut.below hW)
  obtain ⟨A, cap, rfl, hpc, hpm, hpA, hpR⟩ := hps'
  have HA := Lib.hid hpA
  have HR := Lib.hid hpR
  unfold maxLen at hpm
  clear hpA hpR hps hbox hL
  refine callsIn_of_wp Tryd.func88 rfl trivial ?_ rfl
  simp only [Tryd.ntmps88, List.size_toArray, List.length_cons, List.length_nil, Nat.reduceAdd, Nat.reduceSub, Array.replicate_succ, Array.replicate_zero, List.push_toArray, List.append_toArray, List.nil_append, List.cons_append]
  gi_wp2
  gi_loopw [3, 8] (fun nv i wr => ∃ (k : Nat) (pre : List (Value × List UInt8)), k ≤ ps.length ∧ i = .int .i64 k ∧ nv = .int .i64 (total (ps.take k) : Nat) ∧ Hid (pre = ps.take k) ∧ J pre wr ∧ KeepBut L W wr) (fun _ i _ => ps.length - (intOf i).toNat)
  case atStart => exact ⟨0, [], by omega, rfl, rfl, rfl, h0, KeepBut.refl _ _⟩
  case round =>
    obtain ⟨k, pre, hk, rfl, rfl, Hpre, hJs, hKs⟩ := hrel
    have htk := total_take ps k
    by_cases hlt : k < ps.length
    · obtain ⟨b, o, rfl, hbL, hcells⟩ := HA.out (by omega)
      have hx : ps[k]? = some ps[k] := List.getElem?_eq_getElem hlt
      have hcell := hKs.cell (a := ⟨b, o + k, none⟩) hbL (hcells k _ hx)
      have hrd := (HR.out ps[k] (List.getElem_mem hlt)).keep hKs
      generalize hxx : ps[k] = x at hcell hrd hx
      have Hxx := Lib.hid hxx
      have Hx := Lib.hid hx
      clear hx hxx hcells
      have htk2 : total (ps.take k) + x.2.length ≤ total ps := by
        have e : ps.take (k + 1) = ps.take k ++ [x] := by rw [List.take_add_one, Hx.out]; rfl
        have := total_take ps (k + 1)
        rw [e, total_snoc] at this; exact this
      obtain ⟨A', cap', hv', h1', h2', _⟩ := hrd
      have hrd := (HR.out x (List.mem_of_getElem? Hx.out)).keep hKs
      obtain ⟨fn, tmps, assign, body, hy, hR⟩ := hY pre x wr hJs hrd
      have Hrd := Lib.hid hrd
      clear hrd
      rw [hv'] at hy hcell
      gi_wp2
      refine ⟨rfl, hR.mono ?_⟩
      rintro e W3 (⟨rfl, hJ3, hk3, _⟩ | ⟨rfl, hJx3, _⟩)
      · gi_wp2
        go_roundw
        case rel =>
          have e : ps.take (k + 1) = ps.take k ++ [x] := by rw [List.take_add_one, Hx.out]; rfl
          exact ⟨k + 1, pre ++ [x], by omega, by go_num, by rw [e, total_snoc]; go_num, Lib.hid (by rw [e, Hpre.out]), hJ3, hKs.trans hk3⟩
        case measure => simp [intOf]; omega
      · gi_wp2
        refine bodyPost_ret (results_none rfl _ _ _) rfl ?_
        exact ⟨⟨_, rfl⟩, .inr ⟨pre ++ [x], trivial, hJx3⟩⟩
    · obtain rfl : k = ps.length := by omega
      rw [List.take_length] at *
      gi_wp2_with fail
      refine ⟨trivial, rfl, (callsIn_wide.2 (Fill_any (total ps) (by omega) _)).mono ?_⟩
      rintro e w2 ⟨v, rfl, hown, hB2⟩
      have hrd := rdV_fill (L := L) (fun k hk => Nat.lt_of_lt_of_le (hLW k hk) hKs.1) hown
      have hJ2 := hJ _ _ _ hJs (hB2.mono hKs.1)
      obtain ⟨fn, tmps, assign, body, hy, hR⟩ := hY pre (v, fillB (total ps)) w2 hJ2 hrd
      clear hown
      have Hrd := Lib.hid hrd
      clear hrd
      gi_wp2
      refine ⟨rfl, hR.mono ?_⟩
      rintro e W3 (⟨rfl, hJ3, hk3, _⟩ | ⟨rfl, hJx3, _⟩)
      · gi_wp2
        go_end0
        exact ⟨⟨_, rfl⟩, .inl ⟨_, by rw [Hpre.out]; simp, hJ3⟩⟩
      · gi_wp2
        go_end0
        exact ⟨⟨_, rfl⟩, .inr ⟨_, trivial, hJx3⟩⟩
end Go.Proofs.YtchpmdcacpjojaaDoor
/- A region that draws its order, within a round of a range over a function: all operations but a forced tail read alone. No program is named here. -/
namespace Go.Proofs.YtchpmdcacpjojaaDoor
open Go.RowKit
set_option maxRecDepth 8000
set_option linter.all false
variable {P : Program} {ops : Array Oper} {md : Region.Mode} {w : World} {l₀ n : Nat}

def noDefer (ops : Array Oper) : Bool := ops.all fun o => match o.op with | .defer _ => false | _ => true
theorem noDefer_at (h : noDefer ops = true) {i : Nat} {o : Oper} (hi : ops[i]? = some o) : ∀ c, o.op ≠ .defer c := by
  intro c e
  have := Array.all_eq_true_iff_forall_mem.1 h o (Array.mem_of_getElem? hi)
  rw [e] at this
  cases this
theorem wpOpIn_of_stOp (hnd : noDefer ops = true) {i : Nat} {a : Act} {K : Act → Prop} {K' : Act → World → Prop} {Q' : Exit → Act → World → Prop} (h : ∀ a, K a → K' a w) (hh : stOp P ops w i K a) :
    wpOpIn (Fence.wide.inRound l₀) n P ops Q' i K' a w := by
  unfold stOp at hh
  unfold wpOpIn
  cases ho : ops[i]? with
  | none => simp only [ho] at hh ⊢; exact h _ hh
  | some o =>
    simp only [ho] at hh ⊢
    split
    · rename_i hw
      simp only [hw, if_true] at hh
      refine ⟨fun _ _ => trivial, ?_⟩
      rw [Oper.semAt_eq _ _ _ (noDefer_at hnd ho)]
      unfold Oper.still at hh
      generalize (execOp a.eval o).run P w = r at *
      cases r with
      | ok x w' =>
        cases x <;> simp only [Oper.stillUpon] at hh <;> simp only [Oper.uponIn]
        case enter f args =>
          obtain ⟨rfl, v, hc, hn⟩ := hh
          refine ⟨fun hd => by simp [Fence.wide] at hd, CallsIn.inRound l₀ ((callsIn_wide.2 hc).mono fun e w'' he => ?_)⟩
          obtain ⟨rfl, rfl⟩ := he
          exact h _ hn
        all_goals (obtain ⟨rfl, h2⟩ := hh; exact h _ h2)
      | halt x w' => simp only [Oper.stillUpon] at hh
    · rename_i hw
      simp only [hw] at hh
      exact ⟨fun _ _ => trivial, h _ hh⟩
theorem wpAnyIn_of_head (hnd : noDefer ops = true) {m g : Nat} {L : Array Bool → Act → Prop} {Q' : Exit → Act → World → Prop} (hL : ∀ listed a, L listed a → wpAnyIn (Fence.wide.inRound l₀) n P md ops Q' g listed a w) :
    ∀ (f : Nat) (listed : Array Bool) (a : Act), wpAnyL P md ops w m L f listed a → wpAnyIn (Fence.wide.inRound l₀) n P md ops Q' (f + g) listed a w
  | 0, listed, a, h => by rw [Nat.zero_add]; exact hL _ _ h
  | f + 1, listed, a, h => by
    rw [show f + 1 + g = (f + g) + 1 by omega]
    exact ⟨fun h0 => absurd h0 h.1, fun i hi => wpOpIn_of_stOp hnd (fun a' h' => wpAnyIn_of_head hnd hL f _ a' h') (h.2 i hi).2⟩
theorem wpAnyIn_of_seq {Q' : Exit → Act → World → Prop} : ∀ (l : List Oper) (k : Nat) (listed : Array Bool) (a : Act) (w : World), (∀ j, l[j]? = ops[k + j]?) →
    Region.seqB md ops l.length k listed = true → wpListIn (Fence.wide.inRound l₀) n P ops Q' l a w → wpAnyIn (Fence.wide.inRound l₀) n P md ops Q' l.length listed a w
  | [], _, _, _, _, _, hB, h => ⟨by simpa [Region.seqB] using hB, h⟩
  | o :: l, k, listed, a, w, hl, hB, h => by
    have h0 : ops[k]? = some o := by simpa using (hl 0).symm
    simp only [List.length_cons, Region.seqB, Bool.and_eq_true, decide_eq_true_eq] at hB
    refine ⟨fun h1 => (by rw [hB.1] at h1; cases h1), fun i hi => ?_⟩
    rw [hB.1] at hi
    have hik : i = k := by simpa using hi
    subst hik
    have hw : wpOpIn (Fence.wide.inRound l₀) n P ops Q' i (wpListIn (Fence.wide.inRound l₀) n P ops Q' l) a w := by unfold wpOpIn; simp only [h0]; exact h
    exact wpOpIn_mono (fun a' w' h' => wpAnyIn_of_seq l (i + 1) _ a' w' (fun j => by have := hl (j + 1); simpa [Nat.add_assoc, Nat.add_comm 1 j] using this) hB.2 h') hw

/-- All operations but a forced tail read alone: in the text's order, within a round. -/
theorem region_round_tail {id : Nat} {Q : Exit → Act → World → Prop} {a : Act} {w : World} {l : List Oper} (m : Nat) (hm : P.follows .mixedOrders = true) (hB : Region.lexTailB .any l.toArray m = true) (hnd : noDefer l.toArray = true)
    (h : wpStill P l.toArray w.drew (fun a' => wpListIn (Fence.wide.inRound l₀) n P l.toArray Q (l.drop m) a' w.drew) (l.take m) a) : (Code.region id l.toArray true).wpIn (Fence.wide.inRound l₀) n P Q a w := by
  simp only [Region.lexTailB, Bool.and_eq_true, decide_eq_true_eq] at hB
  obtain ⟨⟨⟨⟨hsel, hn⟩, hs⟩, hc⟩, hlex⟩ := hB
  have hn' : m < l.length := by simpa using hn
  have htl : (l.take m).length = m := by simp; omega
  have hdl : (l.drop m).length = l.toArray.size - m := by simp
  have inv0 : HeadInv .any l.toArray m (Array.replicate l.toArray.size false) :=
    ⟨by simp, fun j oj _ hl => (by rw [getD_replicate_false] at hl; cases hl), fun t _ ht => getD_in (by simpa using ht) (getD_replicate_false _ _)⟩
  have H := wpAnyL_lex (md := .any) (g := l.toArray.size - m) hsel hs hc hn (l.take m) 0 _ a (fun j hj => by
    have hj' : j < m := by rw [htl] at hj; exact hj
    simp [hj']) (by simpa using htl) inv0 (by rw [htl]; exact hlex) h
  refine wpIn_region_any hm ?_
  have := wpAnyIn_of_head (n := n) (l₀ := l₀) hnd (Q' := Q) (g := l.toArray.size - m) (fun listed a' hL => by
    have := wpAnyIn_of_seq (n := n) (l₀ := l₀) (md := .any) (Q' := Q) (l.drop m) m listed a' w.drew (fun j => by simp [List.getElem?_drop]) (by rw [hdl]; exact hL.1) hL.2
    rwa [hdl] at this) _ _ _ H
  rw [htl, show m + (l.toArray.size - m) = l.toArray.size by omega] at this
  exact this
end Go.Proofs.YtchpmdcacpjojaaDoor
namespace Go.Proofs.YtchpmdcacpjojaaDoor
open Go.RowKit Go.Shelf
set_option maxRecDepth 8000
set_option linter.all false
attribute [local go_sem] Oper.semAt_some

/-- The whole blocks of a text. -/
def cks (c : List UInt8) : List (List UInt8) := (List.range (c.length / 64)).map fun i => (c.drop (64 * i)).take 64
/-- What is left behind them. -/
def rem (c : List UInt8) : List UInt8 := c.drop (64 * (c.length / 64))
theorem rem_length (c : List UInt8) : (rem c).length = c.length % 64 := by simp [rem]; omega
theorem cks_nil : cks [] = [] := rfl
theorem rem_nil : rem [] = [] := rfl
theorem chunk_app (c d : List UInt8) (i : Nat) (h : 64 * i + 64 ≤ c.length) : ((c ++ d).drop (64 * i)).take 64 = (c.drop (64 * i)).take 64 := by
  rw [List.drop_append_of_le_length (by omega), List.take_append_of_le_length (by simp; omega)]
theorem rem_less (c d : List UInt8) (h : c.length % 64 + d.length < 64) : rem (c ++ d) = rem c ++ d ∧ cks (c ++ d) = cks c := by
  have e : (c ++ d).length / 64 = c.length / 64 := by simp; omega
  constructor
  · unfold rem; rw [e, List.drop_append_of_le_length (by omega)]
  · unfold cks; rw [e]; exact List.map_congr_left fun i hi => chunk_app c d i (by simp at hi; omega)
theorem rem_full (c d : List UInt8) (h : c.length % 64 + d.length = 64) : rem (c ++ d) = [] ∧ cks (c ++ d) = cks c ++ [rem c ++ d] := by
  have e : (c ++ d).length / 64 = c.length / 64 + 1 := by simp; omega
  have e2 : (c ++ d).length = 64 * (c.length / 64 + 1) := by simp; omega
  constructor
  · unfold rem; rw [e, ← e2, List.drop_length]
  · unfold cks; rw [e, List.range_succ, List.map_append]
    congr 1
    · exact List.map_congr_left fun i hi => chunk_app c d i (by simp at hi; omega)
    · simp only [List.map_cons, List.map_nil]
      rw [List.drop_append_of_le_length (by omega)]
      rw [List.take_of_length_le (by simp; omega)]
      rfl
theorem filled_any (A : Option Addr) (n c : Nat) (w : World) : Calls Tryd.prog 85 #[.slice A n c] w fun e w' => e = .returned (.func (.func 88) #[] #[.pointer (some ⟨w.heap.size, 0, none⟩)]) ∧ w.alloc (.cells #[.slice A n c] 99) = w' := by
  go_enter Tryd.func85, Tryd.ntmps85
  go_wp2
  go_ret
  exact ⟨rfl, rfl⟩
theorem blocks_any (A : Option Addr) (n c : Nat) (w : World) : Calls Tryd.prog 79 #[.slice A n c] w fun e w' => e = .returned (.func (.func 84) #[] #[.pointer (some ⟨w.heap.size, 0, none⟩)]) ∧ w.alloc (.cells #[.slice A n c] 99) = w' := by
  go_enter Tryd.func79, Tryd.ntmps79
  go_wp2
  go_ret
  exact ⟨rfl, rfl⟩

/-- The iterator's own memory: yield's box, the begun block's box, and its row. -/
def Beg (B l : Nat) (V : World) (r : List UInt8) : Prop :=
  V.rowIs B 127 1 (fun _ => .func (.yield l) #[] #[]) ∧ V.rowIs (B + 1 + 1) 49 1 (fun _ => .slice (some ⟨B + 1, 0, none⟩) r.length 64) ∧
    V.ownsRow (B + 1) 5 1 (.slice (some ⟨B + 1, 0, none⟩) r.length 64) r.length (r.map fun b => .int .u8 (bN b))
theorem Beg.below {B l : Nat} {V V' : World} {r : List UInt8} (h : Beg B l V r) (hb : Below (B + 1 + 1 + 1) V V') : Beg B l V' r :=
  ⟨rowIs_below h.1 hb (by omega), rowIs_below h.2.1 hb (by omega), ownsRow_keep h.2.2 fun _ _ ho => (hb.block _ (by omega)).trans ho⟩
theorem Beg.keep {B l : Nat} {L : List Nat} {V V' : World} {r : List UInt8} (h : Beg B l V r) (hL : ∀ k ∈ L, k < B) (hb : KeepBut L V V') : Beg B l V' r :=
  ⟨hb.row (fun hm => by have := hL _ hm; omega) h.1, hb.row (fun hm => by have := hL _ hm; omega) h.2.1, ownsRow_keep h.2.2 fun _ hc ho => hb.2 _ _ (fun hm => by have := hL _ hm; omega) ho hc⟩
def ShInv (J : List (Value × List UInt8) → World → Prop) (B l : Nat) (pre2 : List (Value × List UInt8)) (V : World) : Prop :=
  ∃ pre : List (Value × List UInt8), pre.map (·.2) = cks (flat pre2) ∧ J pre V ∧ Beg B l V (rem (flat pre2))
def InvX (Jx : List (Value × List UInt8) → World → Prop) (c : Code) (V : World) : Prop := c = .ret ∧ ∃ pre : List (Value × List UInt8), Jx pre V
def lenOf : Value → Nat | .slice _ n _ => n | _ => 0
def Going (J : List (Value × List UInt8) → World → Prop) (B l : Nat) (L : List Nat) (c q : List UInt8) (V : World) (p : Value) (V' : World) : Prop :=
  ∃ (q1 q2 : List UInt8) (pre : List (Value × List UInt8)), q = q1 ++ q2 ∧ RdV V' L p q2 ∧ pre.map (·.2) = cks (c ++ q1) ∧ J pre V' ∧ Beg B l V' (rem (c ++ q1)) ∧ KeepsFrom (B + 1 + 1 + 1 + 1) V V' ∧ KeepBut L V V'

set_option maxHeartbeats 1000000 in
theorem blocks1_seq (L0 : List Nat) (pb : Nat) (hpb : pb ∉ L0) (pv : Value) (ps : List (Value × List UInt8)) (w : World) (hL0 : ∀ k ∈ L0, k < w.heap.size) (hbox : w.cell? ⟨pb, 0, none⟩ = some pv) (hps : PartsAt w L0 pv ps) (ht : total ps ≤ 4611686018427387904) :
    SeqG Tryd.prog 84 #[.pointer (some ⟨pb, 0, none⟩)] (fun x : Value × List UInt8 => #[x.1]) (KeepBut L0) (fun _ x W => RdV W L0 x.1 x.2 ∧ x.2.length = 64) (fun xs => xs.map (·.2) = cks (flat ps ++ fillB (total ps))) (fun _ => True) w := by
  intro l J Jx W hW hJ hJx hY h0
  have hLW : ∀ k ∈ L0, k < W.heap.size := fun k hk => Nat.lt_of_lt_of_le (hL0 k hk) hW.size
  have hbox' := KeepBut.cell (KeepBut.below hW) hpb hbox
  have hps' := hps.keep (KeepBut.below hW)
  obtain ⟨A, cap, rfl, _⟩ := hps'
  have hps' := hps.keep (KeepBut.below hW)
  have Hps := Lib.hid hps'
  have Hbox := Lib.hid hbox'
  obtain ⟨i0, hi, hz0, hz1, hz2⟩ := info_parts info5
  have hmk : ∀ W : World, (Instr.makeSlice 49 (.int .i64 0) (.int .i64 64)).run Tryd.prog W = .ok (.slice (some ⟨W.heap.size, 0, none⟩) 0 64) (W.alloc (.cells (rowA 64 (bF fun _ => 0)) 5)) := make_none i0 hi hz0 hz1 hz2
  have hpbW := World.block_lt_of_cell? _ _ hbox'
  have hpbW : pb < W.heap.size := hpbW
  have hp1 : pb < W.heap.size + 1 := by omega
  have hp2 : pb < W.heap.size + 1 + 1 := by omega
  clear hps' hps hbox hL0
  refine callsIn_of_wp_marks Tryd.func84 rfl trivial ?_ rfl
  simp only [Tryd.ntmps84, List.size_toArray, List.length_cons, List.length_nil, Nat.reduceAdd, Nat.reduceSub, Array.replicate_succ, Array.replicate_zero, List.push_toArray, List.append_toArray, List.nil_append, List.cons_append]
  gi_wp2_with fail
  refine ⟨trivial, rfl, (callsIn_wide.2 (filled_any A ps.length cap _)).mono ?_⟩
  rintro e W4 ⟨rfl, hW4⟩
  clear hmk
  have bA : W4.rowIs W.heap.size 127 1 (fun _ => .func (.yield l) #[] #[]) := by
    rw [← hW4]; exact (((rowIs_box W 127 1 (fun _ => .func (.yield l) #[] #[])).alloc _).alloc _).alloc _
  have bB : W4.rowIs (W.heap.size + 1) 5 64 (bF fun _ => 0) := by
    rw [← hW4]
    have := ((rowIs_box (W.alloc (.cells #[.func (.yield l) #[] #[]] 127)) 5 64 (bF fun _ => 0)).alloc (.cells #[.slice (some ⟨W.heap.size + 1, 0, none⟩) 0 64] 49)).alloc (.cells #[.slice A ps.length cap] 99)
    rwa [World.size_alloc] at this
  have bC : W4.rowIs (W.heap.size + 1 + 1) 49 1 (fun _ => .slice (some ⟨W.heap.size + 1, 0, none⟩) 0 64) := by
    rw [← hW4]
    have := (rowIs_box ((W.alloc (.cells #[.func (.yield l) #[] #[]] 127)).alloc (.cells (rowA 64 (bF fun _ => 0)) 5)) 49 1 (fun _ => .slice (some ⟨W.heap.size + 1, 0, none⟩) 0 64)).alloc (.cells #[.slice A ps.length cap] 99)
    rwa [World.size_alloc, World.size_alloc] at this
  have bD : W4.rowIs (W.heap.size + 1 + 1 + 1) 99 1 (fun _ => .slice A ps.length cap) := by
    rw [← hW4]
    have := rowIs_box (((W.alloc (.cells #[.func (.yield l) #[] #[]] 127)).alloc (.cells (rowA 64 (bF fun _ => 0)) 5)).alloc (.cells #[.slice (some ⟨W.heap.size + 1, 0, none⟩) 0 64] 49)) 99 1 (fun _ => .slice A ps.length cap)
    rwa [World.size_alloc, World.size_alloc, World.size_alloc] at this
  have hB4 : Below W.heap.size W W4 := by
    rw [← hW4]
    exact ((((Below.refl _ W).alloc (Nat.le_refl _) _).alloc (by simp) _).alloc (by simp; omega) _).alloc (by simp; omega) _
  have hs4 : W4.heap.size = W.heap.size + 1 + 1 + 1 + 1 := by rw [← hW4]; simp
  clear hW4
  have hbeg : Beg W.heap.size l W4 [] := ⟨bA, bC, by have := ownsRow_row bB (W.heap.size + 1) 0 (by omega) (by unfold maxLen; omega) (Nat.le_refl _); simpa using this⟩
  have hJ4 := hJ _ _ _ h0 hB4
  obtain ⟨L, hLe⟩ : ∃ L, L = (W.heap.size + 1) :: (W.heap.size + 1 + 1) :: L0 := ⟨_, rfl⟩
  have hLnot : ∀ k, k < W.heap.size → k ∉ L0 → k ∉ L := fun k hk h0 hm => by
    rw [hLe] at hm; simp at hm; rcases hm with h | h | h
    · omega
    · omega
    · exact h0 h
  have hLlt : ∀ k ∈ L, k < W.heap.size + 1 + 1 + 1 := fun k hm => by
    rw [hLe] at hm; simp at hm; rcases hm with h | h | h
    · omega
    · omega
    · have := hLW k h; omega
  have hp4 : PartsAt W4 L (.slice A ps.length cap) ps := (Hps.out.more hLnot).keep (KeepBut.below hB4)
  have seq := filled1_seq L (W.heap.size + 1 + 1 + 1) (fun hm => by have := hLlt _ hm; omega) (.slice A ps.length cap) ps W4 (fun k hk => by have := hLlt k hk; omega) (bD.cell (by omega)) hp4 ht
  clear bA bB bC bD hp4 Hps Hbox hbox' hp1 hp2 hpbW
  gi_wp2_with fail
  refine range_law (n := 0) (gf := 88) (lb := #[.pointer (some ⟨W.heap.size + 1 + 1 + 1, 0, none⟩)]) rfl (enters_of Tryd.func88 (by kernel_rfl) rfl) seq (Below.refl _ _) KeepBut.trans (fun V k o o' _ h hc => KeepBut.putObj h hc)
    (fun _ x V k o o' _ h hc hG => hG.keep (KeepBut.putObj h hc)) (fun _ => rfl)
    (ShInv J W.heap.size l) (fun c _ V => InvX Jx c V)
    (fun pre A B h hb => by obtain ⟨p, h1, h2, h3⟩ := h; exact ⟨p, h1, hJ _ _ _ h2 (hb.mono (by omega)), h3.below (hb.mono (by omega))⟩)
    (fun c pre A B h hb => by obtain ⟨h1, p, h2⟩ := h; exact ⟨h1, p, hJx _ _ _ h2 (hb.mono (by omega))⟩)
    ⟨[], rfl, hJ4, hbeg⟩
    (fun x => { tmps := #[.func (.yield l) #[] #[], .pointer (some ⟨pb, 0, none⟩), .pointer (some ⟨W.heap.size, 0, none⟩), .pointer (some ⟨W.heap.size + 1 + 1, 0, none⟩), x.1, undef, .slice (some ⟨W.heap.size + 1, 0, none⟩) 0 64, .slice A ps.length cap, .func (.func 88) #[] #[.pointer (some ⟨W.heap.size + 1 + 1 + 1, 0, none⟩)], x.1, undef, undef, undef, undef, undef, undef, undef, undef, undef, undef, undef, undef, undef, undef, undef, undef, undef, undef, undef, undef, undef, undef, undef, undef, undef, undef], defers := [] }) ?assign ?body ?done ?stop
  case assign =>
    intro l2 x V K hK
    gi_wp2
    exact hK
  case body =>
    rintro l2 pre2 x V hl2 ⟨pre, hpre, hJp, hBeg⟩ hG
    gi_wp2
    gi_loopw [4] (fun p V' => Going J W.heap.size l L (flat pre2) x.2 V p V') (fun p _ => lenOf p)
    case atStart =>
      refine ⟨[], x.2, pre, rfl, hG, ?_, hJp, ?_, KeepsFrom.refl _ _, KeepBut.refl _ _⟩
      · rw [List.append_nil]; exact hpre
      · rw [List.append_nil]; exact hBeg
    case round =>
      obtain ⟨q1, q2, pre', hq, hrd, hpre', hJp', hBeg', hKF, hKB⟩ := hrel
      clear hG hBeg hJp hpre pre
      have Hq := Lib.hid hq
      have Hpre := Lib.hid hpre'
      clear hq hpre'
      obtain ⟨Ap, capp, rfl, hn1, hn2, hcells⟩ := hrd
      have Hcells := Lib.hid hcells
      clear hcells
      unfold maxLen at hn2
      generalize hc : flat pre2 ++ q1 = c at *
      have Hc := Lib.hid hc
      clear hc
      have hk := rem_length c
      have hk64 : (rem c).length < 64 := by omega
      have Hk := Lib.hid hk
      clear hk
      by_cases hn : 0 < q2.length
      · obtain ⟨pb2, po, rfl, hpbL, hcell⟩ := Hcells.out hn
        have Hcell := Lib.hid hcell
        clear hcell
        have cb := hBeg'.2.1.cell (i := 0) (by omega)
        have fb := hBeg'.2.1.frozen 0
        have cy := hBeg'.1.cell (i := 0) (by omega)
        obtain ⟨k, hkk⟩ : ∃ k, (rem c).length = k := ⟨_, rfl⟩
        rw [hkk] at cb hk64
        have Hkk := Lib.hid hkk
        clear hkk
        obtain ⟨m, hm1, hm2, hm3, hm4, hmin⟩ : ∃ m : Nat, 1 ≤ m ∧ m ≤ q2.length ∧ k + m ≤ 64 ∧ (k + m = 64 ∨ m = q2.length) ∧ (if (64 : Int) - (k : Int) < (q2.length : Int) then (64 : Int) - (k : Int) else (q2.length : Int)) = (m : Int) := by
          by_cases h : (64 : Int) - (k : Int) < (q2.length : Int)
          · exact ⟨64 - k, by omega, by omega, by omega, by omega, by rw [if_pos h]; omega⟩
          · exact ⟨q2.length, by omega, by omega, by omega, .inr rfl, by rw [if_neg h]⟩
        gi_wp2
        clear hmin
        have i1 : (m : Int) ≤ (capp : Int) := by omega
        have i2 : (m : Int) ≤ (q2.length : Int) := by omega
        refine region_round_tail 4 (by kernel_rfl) (by kernel_rfl) (by kernel_rfl) ?_
        simp only [List.take_succ_cons, List.take_zero, List.drop_succ_cons, List.drop_zero]
        iterate 4 (refine wpStill_step (fun K hK => ?_); go_simp; (try go_bits); refine hK _ ?_; clear hK K)
        refine wpStill_nil ?_
        have hpw : pb2 < wr.heap.size := World.block_lt_of_cell? _ _ (Hcell.out 0 hn)
        have hown := hBeg'.2.2
        rw [Hkk.out] at hown
        refine wpListIn_append_fits _ rfl (.tmp 19) (.tmp 22) 49 rfl (W.heap.size + 1) 5 i0 1 Tryd.underlying49 hi hz1 (W.heap.size + 1) k 64 _ rfl hown.drew ⟨pb2, po, none⟩ m capp ((q2.take m).map fun b => .int .u8 (bN b)) rfl (by simp; omega) (cells_take hm2 Hcell.out) (by intro u hu; obtain ⟨b, _, rfl⟩ := List.mem_map.1 hu; rfl) hm3 ?_
        intro w1 hown1 hg1
        have hB1 : Below (W.heap.size) wr w1 := (Below.refl _ wr).drew.grown hg1 (by have := hBeg'.2.1.lt; show _ ≤ wr.heap.size; omega) (fun g e => by injection e with e; omega)
        have hrb : w1.rowIs (W.heap.size + 1 + 1) 49 1 (fun _ => .slice (some ⟨W.heap.size + 1, 0, none⟩) (rem c).length 64) := hBeg'.2.1.of_block (hg1.block _ hBeg'.2.1.lt (fun e => by injection e with e; omega))
        have hra : w1.rowIs W.heap.size 127 1 (fun _ => .func (.yield l) #[] #[]) := hBeg'.1.of_block (hg1.block _ hBeg'.1.lt (fun e => by injection e with e; omega))
        have hkb1 : KeepBut L wr w1 := ⟨hg1.size, fun j o hj ho _ => (hg1.block j (Array.getElem?_eq_some_iff.1 ho).1 (fun e => hj (by cases e; rw [hLe]; simp))).trans ho⟩
        have hkf1 : KeepsOthers wr w1 := ⟨hg1.size, fun j o ho hc => (hg1.block j (Array.getElem?_eq_some_iff.1 ho).1 (fun e => by
          cases e
          obtain ⟨_, hh⟩ := hown
          rcases hh with ⟨h, _⟩ | ⟨g', cap', cur, hv, _, hh, _⟩
          · cases h
          · cases hv; rw [hh] at ho; cases ho; cases hc)).trans ho⟩
        have cb1 := hrb.cell (i := 0) (by omega)
        have fb1 := hrb.frozen 0
        have hsl := slice_from (P := Tryd.prog) 49 5 Tryd.underlying49 (by kernel_rfl) ⟨pb2, po, none⟩ q2.length capp m hm2
        obtain ⟨ad, had⟩ : ∃ ad, (if capp = m then (⟨pb2, po, none⟩ : Addr) else (⟨pb2, po, none⟩ : Addr).add m) = ad := ⟨_, rfl⟩
        rw [had] at hsl
        have Had := Lib.hid had
        clear cb fb cy had
        obtain ⟨V2, hV2⟩ : ∃ V2, w1.setCell ⟨W.heap.size + 1 + 1, 0, none⟩ (.slice (some ⟨W.heap.size + 1, 0, none⟩) (k + m) 64) = V2 := ⟨_, rfl⟩
        have hlen : (rem c ++ q2.take m).length = k + m := by rw [List.length_append, Hkk.out, List.length_take]; omega
        have hbeg2 : Beg W.heap.size l V2 (rem c ++ q2.take m) := by
          rw [← hV2]
          refine ⟨hra.setOther (by simp; omega) _, (hrb.set 0 _).congr fun i hi => ?_, ?_⟩
          · obtain rfl : i = 0 := by omega
            rw [if_pos rfl, hlen]
          · rw [hlen, List.map_append]
            exact ownsRow_keep hown1 fun o _ ho => (Below.heap_setCell w1 _ _ _ (by simp)).trans ho
        have hbj : Below W.heap.size wr V2 := by rw [← hV2]; exact hB1.setCell (by simp; omega) _
        have hkb2 : KeepBut L wr V2 := by rw [← hV2]; exact hkb1.trans (KeepBut.setCell (by rw [hLe]; simp) _)
        have hkf2 : KeepsOthers wr V2 := by rw [← hV2]; exact hkf1.trans (KeepsOthers.setCell _ _ _)
        have hj2 := hJ _ _ _ hJp' hbj
        have hrd2 : RdV V2 L (.slice (some ad) (q2.length - m) (capp - m)) (q2.drop m) := by
          refine ⟨some ad, capp - m, by simp, by simp; omega, by unfold maxLen; omega, fun h0 => ?_⟩
          have hlt : m < q2.length := by simp at h0; omega
          refine ⟨pb2, po + m, by rw [← Had.out, if_neg (by omega), Addr.add_mid], hpbL, fun i hi => ?_⟩
          have hi' : m + i < q2.length := by simp at hi; omega
          have := hkb2.cell (a := ⟨pb2, po + (m + i), none⟩) hpbL (Hcell.out (m + i) hi')
          rw [Nat.add_assoc, this]
          simp [bAt]
        have Hrd2 := Lib.hid hrd2
        clear hrd2 hbj hB1 hkf1 hkb1 hrb hra hown1 hg1
        have cb2 := hbeg2.2.1.cell (i := 0) (by omega)
        have fb2 := hbeg2.2.1.frozen 0
        have cy2 := hbeg2.1.cell (i := 0) (by omega)
        rw [hlen] at cb2
        have Hlen := Lib.hid hlen
        clear hlen
        have hcq : c ++ q2.take m = flat pre2 ++ (q1 ++ q2.take m) := by rw [← Hc.out, List.append_assoc]
        have hxq : x.2 = (q1 ++ q2.take m) ++ q2.drop m := by rw [List.append_assoc, List.take_append_drop]; exact Hq.out
        have hml : (q2.take m).length = m := by rw [List.length_take]; omega
        have hck := Hk.out
        rw [Hkk.out] at hck
        have Hcq := Lib.hid hcq
        have Hxq := Lib.hid hxq
        have Hml := Lib.hid hml
        have Hck := Lib.hid hck
        clear hcq hxq hml hck
        by_cases hfull : k + m < 64
        · have hd : decide ((k : Int) + (m : Int) < 64) = true := by simp; omega
          gi_wp2
          go_roundw
          case rel =>
            obtain ⟨r1, r2⟩ := rem_less c (q2.take m) (by rw [Hml.out, ← Hck.out]; exact hfull)
            exact ⟨q1 ++ q2.take m, q2.drop m, pre', Hxq.out, Hrd2.out, by rw [← Hcq.out, r2]; exact Hpre.out, hj2, by rw [← Hcq.out, r1]; exact hbeg2, hKF.trans (hkf2.from _), hKB.trans hkb2⟩
          case measure => simp [lenOf]; omega
        · have hfull' : k + m = 64 := by omega
          have hd : decide ((k : Int) + (m : Int) < 64) = false := by simp; omega
          have hrdB : RdV V2 L0 (.slice (some ⟨W.heap.size + 1, 0, none⟩) (k + m) 64) (rem c ++ q2.take m) := by
            refine ⟨some ⟨W.heap.size + 1, 0, none⟩, 64, by rw [Hlen.out], by rw [Hlen.out]; omega, by unfold maxLen; omega, fun _ => ⟨W.heap.size + 1, 0, rfl, fun hm => by have := hLW _ hm; omega, fun i hi => ?_⟩⟩
            have hcc := hbeg2.2.2.cells (g := W.heap.size + 1) rfl i (.int .u8 (bN (bAt (rem c ++ q2.take m) i)))
            rw [Addr.add_mid] at hcc
            exact hcc (map_at _ i hi)
          obtain ⟨fn, tmps, assign, body, hy, hR⟩ := hY pre' (.slice (some ⟨W.heap.size + 1, 0, none⟩) (k + m) 64, rem c ++ q2.take m) V2 hj2 ⟨hrdB, by show (rem c ++ q2.take m).length = 64; rw [Hlen.out]; exact hfull'⟩
          clear hrdB
          have Hfull := Lib.hid hfull'
          clear hfull'
          gi_wp2
          refine ⟨rfl, RoundIn.mono (show RoundIn (Fence.wide.inRound l2) 0 _ _ _ _ _ _ _ _ from hR) ?_⟩
          obtain ⟨r1, r2⟩ := rem_full c (q2.take m) (by rw [Hml.out, ← Hck.out]; exact Hfull.out)
          have Hr1 := Lib.hid r1
          have Hr2 := Lib.hid r2
          clear r1 r2
          rintro e W5 (⟨rfl, hJ5, hk5, hf5⟩ | ⟨rfl, hJx5, hf5⟩)
          · have hbeg5 := hbeg2.keep hLW hk5
            have cb5 := hbeg5.2.1.cell (i := 0) (by omega)
            have fb5 := hbeg5.2.1.frozen 0
            rw [Hlen.out] at cb5
            clear cb2 fb2 cy2
            gi_wp2
            go_roundw
            case rel =>
              refine ⟨q1 ++ q2.take m, q2.drop m, _, Hxq.out, ?_, ?_, hJ _ _ _ hJ5 ((Below.refl _ W5).setCell (by simp; omega) _), ?_, ?_, ?_⟩
              · exact (Hrd2.out.keep (hk5.more fun k hk => by rw [hLe]; simp [hk])).keep (KeepBut.setCell (by rw [hLe]; simp) _)
              · rw [List.map_append, ← Hcq.out, Hr2.out, Hpre.out]; rfl
              · rw [← Hcq.out, Hr1.out]
                refine ⟨hbeg5.1.setOther (by simp; omega) _, (hbeg5.2.1.set 0 _).congr fun i hi => ?_, ?_⟩
                · obtain rfl : i = 0 := by omega
                  rw [if_pos rfl]; rfl
                · have := ownsRow_keep (ownsRow_none hbeg5.2.2) fun o _ ho => (Below.heap_setCell W5 ⟨W.heap.size + 1 + 1, 0, none⟩ (.slice (some ⟨W.heap.size + 1, 0, none⟩) 0 64) _ (by simp)).trans ho
                  exact this
              · exact (hKF.trans (hkf2.from _)).trans ((keepsFrom_mono hf5 (by omega)).trans ((KeepsOthers.setCell _ _ _).from _))
              · exact (hKB.trans hkb2).trans ((hk5.more fun k hk => by rw [hLe]; simp [hk]).trans (KeepBut.setCell (by rw [hLe]; simp) _))
            case measure => simp [lenOf]; omega
          · gi_wp2
            exact ⟨by rw [hs4]; exact (hKF.trans (hkf2.from _)).trans (keepsFrom_mono hf5 (by omega)), rfl, _, hJx5⟩
      · have hq0 : q2 = [] := List.eq_nil_of_length_eq_zero (by omega)
        have hd0 : decide (0 < q2.length) = false := by simp; omega
        have Hq0 := Lib.hid hq0
        clear hq0
        gi_wp2
        have hcx : flat (pre2 ++ [x]) = c := by rw [flat_snoc, Hq.out, Hq0.out, List.append_nil]; exact Hc.out
        exact ⟨by rw [hs4]; exact hKF, hKB, pre', by rw [hcx]; exact Hpre.out, hJp', by rw [hcx]; exact hBeg'⟩
  case done =>
    rintro D xs V hD hS ⟨pre, hpre, hJp, hBeg⟩ hK
    gi_wp2
    refine ⟨by simp, .inl ⟨_, _, rfl, run_takeDeferred hK, ?_⟩⟩
    refine ⟨_, results_none rfl _ _ _, ⟨_, rfl⟩, .inl ⟨pre, ?_, hJ _ _ _ hJp (below_putObj (by omega) _)⟩⟩
    have e : flat xs = flat ps ++ fillB (total ps) := by unfold flat; rw [hS]; simp
    rw [hpre, e]
  case stop =>
    rintro D c pre2 V hD _ ⟨rfl, pre, hJp⟩ hK
    gi_wp2
    refine ⟨by simp, .inl ⟨_, _, rfl, run_takeDeferred hK, ?_⟩⟩
    exact ⟨_, results_none rfl _ _ _, ⟨_, rfl⟩, .inr ⟨pre, trivial, hJx _ _ _ hJp (below_putObj (by omega) _)⟩⟩
end Go.Proofs.YtchpmdcacpjojaaDoor
namespace Go.Proofs.YtchpmdcacpjojaaDoor
open Go.RowKit Go.Shelf
set_option maxRecDepth 8000
set_option linter.all false
attribute [local go_sem] Oper.semAt_some uF_at

theorem run_storeU {W : World} {g n : Nat} (h : RowW W g n) (f : Nat → BitVec 32) : (storeCells ⟨g, 0, none⟩ (rowA n (uF f)).toList).run Tryd.prog W = .ok () (W.setCells g 0 (rowA n (uF f)).toList) := by
  obtain ⟨t, z, r⟩ := h
  have := run_storeCells_cells (P := Tryd.prog) g 0 (rowA n (uF f)).toList 0 W (fun j hj => by simpa using (there_row r j (by rw [rowA_toList] at hj; simpa using hj)).1) (fun j hj => by simpa using (there_row r j (by rw [rowA_toList] at hj; simpa using hj)).2)
    (fun v hv => by rw [rowA_toList] at hv; obtain ⟨i, _, rfl⟩ := List.mem_map.1 hv; rfl)
  simpa using this
attribute [local go_sem] run_storeU run_storeB
/-- The state behind a block. -/
def turnF (K s : Nat → BitVec 32) (l : List UInt8) : Nat → BitVec 32 := fun i => s i + (runTo K (wS l 48) (ShSt.of s) 64).get i
/-- The digest of a text, from a first state. -/
def shaL (K F : Nat → BitVec 32) (text : List UInt8) : Nat → UInt8 := dig ((cks (text ++ fillB text.length)).foldl (turnF K) F)
theorem rowIs_putObj {W : World} {b n l : Nat} {t : TypeId} {f : Nat → Value} (h : W.rowIs b t n f) (hne : b ≠ l) (o : Obj) : (W.putObj l o).rowIs b t n f := h.of_block (World.putObj_heap_other hne)

def SumInv (K F : Nat → BitVec 32) (w : World) (pre : List (Value × List UInt8)) (V : World) : Prop :=
  V.rowIs (w.heap.size + 1) 117 8 (uF ((pre.map (·.2)).foldl (turnF K) F)) ∧ V.rowIs w.heap.size 32 32 (bF fun _ => 0) ∧ Below w.heap.size w V
set_option maxHeartbeats 2000000 in
theorem Sum_any (K F : Nat → BitVec 32) (pv : Value) (ps : List (Value × List UInt8)) (w : World) (h1 : 1 < w.heap.size)
    (hK : ∀ i, i < 64 → w.cell? ⟨1, i, none⟩ = some (.int .u32 (uN (K i)))) (hF : ∀ i, i < 8 → w.cell? ⟨0, i, none⟩ = some (.int .u32 (uN (F i))))
    (hps : PartsAt w [] pv ps) (ht : total ps ≤ 4611686018427387904) :
    Calls Tryd.prog 72 #[pv] w fun e w' => e = .returned (.agg (rowA 32 (bF (shaL K F (flat ps))))) ∧ Below w.heap.size w w' := by
  have HK := Lib.hid hK
  have Hps := Lib.hid hps
  obtain ⟨A, cap, rfl, _⟩ := hps
  have f0 := hF 0 (by omega)
  have f1 := hF 1 (by omega)
  have f2 := hF 2 (by omega)
  have f3 := hF 3 (by omega)
  have f4 := hF 4 (by omega)
  have f5 := hF 5 (by omega)
  have f6 := hF 6 (by omega)
  have f7 := hF 7 (by omega)
  have h0 : 0 < w.heap.size := by omega
  have h01 : 0 < w.heap.size + 1 := by omega
  clear hK hF
  refine (callsIn_wide (n := 0)).1 ?_
  refine callsIn_of_wp_marks Tryd.func72 rfl trivial ?_ rfl
  simp only [Tryd.ntmps72, List.size_toArray, List.length_cons, List.length_nil, Nat.reduceAdd, Nat.reduceSub, Array.replicate_succ, Array.replicate_zero, List.push_toArray, List.append_toArray, List.nil_append, List.cons_append]
  gi_wp2_with fail
  refine ⟨trivial, rfl, (callsIn_wide.2 (blocks_any A ps.length cap _)).mono ?_⟩
  rintro e W3 ⟨rfl, hW3⟩
  clear f0 f1 f2 f3 f4 f5 f6 f7
  have hW3' : ((w.alloc (.cells (rowA 32 (bF fun _ => 0)) 32)).alloc (.cells (rowA 8 (uF F)) 117)).alloc (.cells #[.slice A ps.length cap] 99) = W3 := hW3
  clear hW3
  have bA : W3.rowIs w.heap.size 32 32 (bF fun _ => 0) := by
    rw [← hW3']; exact ((rowIs_box w 32 32 (bF fun _ => 0)).alloc _).alloc _
  have bB : W3.rowIs (w.heap.size + 1) 117 8 (uF F) := by
    rw [← hW3']
    have := (rowIs_box (w.alloc (.cells (rowA 32 (bF fun _ => 0)) 32)) 117 8 (uF F)).alloc (.cells #[.slice A ps.length cap] 99)
    rwa [World.size_alloc] at this
  have bC : W3.rowIs (w.heap.size + 1 + 1) 99 1 (fun _ => .slice A ps.length cap) := by
    rw [← hW3']
    have := rowIs_box ((w.alloc (.cells (rowA 32 (bF fun _ => 0)) 32)).alloc (.cells (rowA 8 (uF F)) 117)) 99 1 (fun _ => .slice A ps.length cap)
    rwa [World.size_alloc, World.size_alloc] at this
  have hB3 : Below w.heap.size w W3 := by
    rw [← hW3']; exact (((Below.refl _ w).alloc (Nat.le_refl _) _).alloc (by simp) _).alloc (by simp; omega) _
  have hs3 : W3.heap.size = w.heap.size + 1 + 1 + 1 := by rw [← hW3']; simp
  clear hW3'
  have hp3 : PartsAt W3 [w.heap.size + 1] (.slice A ps.length cap) ps := (Hps.out.more (fun k hk _ => by simp; omega)).keep (KeepBut.below hB3)
  have seq := blocks1_seq [w.heap.size + 1] (w.heap.size + 1 + 1) (by simp) (.slice A ps.length cap) ps W3 (fun k hk => by simp at hk; omega) (bC.cell (by omega)) hp3 ht
  clear bC hp3 Hps
  gi_wp2_with fail
  refine range_law (n := 0) (gf := 84) (lb := #[.pointer (some ⟨w.heap.size + 1 + 1, 0, none⟩)]) rfl (enters_of Tryd.func84 (by kernel_rfl) rfl) seq (Below.refl _ _) KeepBut.trans (fun V k o o' _ h hc => KeepBut.putObj h hc)
    (fun _ x V k o o' _ h hc hG => ⟨hG.1.keep (KeepBut.putObj h hc), hG.2⟩) (fun _ => rfl)
    (SumInv K F w) (fun _ _ _ => False)
    (fun pre A B h hb => ⟨rowIs_below h.1 hb (by omega), rowIs_below h.2.1 hb (by omega), h.2.2.trans (hb.mono (by omega))⟩)
    (fun _ _ _ _ h _ => h)
    ⟨bB, bA, hB3⟩
    (fun x => { tmps := #[.slice A ps.length cap, undef, .pointer (some ⟨w.heap.size, 0, none⟩), .pointer (some ⟨w.heap.size + 1, 0, none⟩), x.1, .agg #[.int .u32 (uN (F 0)), .int .u32 (uN (F 1)), .int .u32 (uN (F 2)), .int .u32 (uN (F 3)), .int .u32 (uN (F 4)), .int .u32 (uN (F 5)), .int .u32 (uN (F 6)), .int .u32 (uN (F 7))], .slice A ps.length cap, .func (.func 84) #[] #[.pointer (some ⟨w.heap.size + 1 + 1, 0, none⟩)], x.1, undef, undef, undef, undef, undef], defers := [] }) ?assign ?body ?done ?stop
  case assign =>
    intro l2 x V K hK
    gi_wp2
    exact hK
  case body =>
    rintro l2 pre x V hl2 ⟨hH, hZ, hBw⟩ ⟨hrd, h64⟩
    obtain ⟨Ax, capx, hx1, hx2, hx3, hx4⟩ := hrd
    rw [h64] at hx1 hx2 hx4
    obtain ⟨b, o, rfl, _, hcell⟩ := hx4 (by omega)
    rw [hx1]
    have hbV : b < V.heap.size := World.block_lt_of_cell? _ _ (hcell 0 (by omega))
    obtain ⟨s, hs⟩ : ∃ s, (pre.map (·.2)).foldl (turnF K) F = s := ⟨_, rfl⟩
    rw [hs] at hH
    have c0 := hH.cell (i := 0) (by omega)
    have c1 := hH.cell (i := 1) (by omega)
    have c2 := hH.cell (i := 2) (by omega)
    have c3 := hH.cell (i := 3) (by omega)
    have c4 := hH.cell (i := 4) (by omega)
    have c5 := hH.cell (i := 5) (by omega)
    have c6 := hH.cell (i := 6) (by omega)
    have c7 := hH.cell (i := 7) (by omega)
    have Hs := Lib.hid hs
    have Hx := Lib.hid hx1
    have Hcell := Lib.hid hcell
    have H64 := Lib.hid h64
    clear hs hx1 hcell h64 hx4
    gi_wp2_with fail
    have hT := CallsIn.inRound (F := Fence.wide) (n := 0) l2 (callsIn_wide.2 (Turn_any K s x.2 b o capx hx2 hx3 V hbV (by have := hBw.size; omega) (fun i hi => (hBw.cell (p := ⟨1, i, none⟩) h1).trans (HK.out i hi)) Hcell.out))
    refine ⟨trivial, rfl, hT.mono ?_⟩
    clear hT
    rintro e w2 ⟨rfl, hB2⟩
    have r2 := rowIs_below hH hB2 hH.lt
    have z2 := rowIs_below hZ hB2 hZ.lt
    have rw2 : RowW w2 (w.heap.size + 1) 8 := ⟨_, _, r2⟩
    clear c0 c1 c2 c3 c4 c5 c6 c7
    gi_wp2
    refine ⟨((keepsOthers_below hB2).trans (keepsOthers_setCells _ _ _ _)).from _, (KeepBut.below hB2).trans (KeepBut.setCells (by simp) _ _ _), ?_, rowIs_setOther z2 (by omega) _ _, ?_⟩
    · rw [List.map_append, List.foldl_append, Hs.out]
      exact rowIs_setAll r2 _
    · exact below_setCells _ (by omega) _ _ _ (hBw.trans (hB2.mono hBw.size))
  case done =>
    rintro D xs V hD hS ⟨hH, hZ, hBw⟩ hK
    obtain ⟨s, hs⟩ : ∃ s, (xs.map (·.2)).foldl (turnF K) F = s := ⟨_, rfl⟩
    rw [hs] at hH
    have c0 := hH.cell (i := 0) (by omega)
    have c1 := hH.cell (i := 1) (by omega)
    have c2 := hH.cell (i := 2) (by omega)
    have c3 := hH.cell (i := 3) (by omega)
    have c4 := hH.cell (i := 4) (by omega)
    have c5 := hH.cell (i := 5) (by omega)
    have c6 := hH.cell (i := 6) (by omega)
    have c7 := hH.cell (i := 7) (by omega)
    have Hs := Lib.hid hs
    have HS := Lib.hid hS
    have HKD := Lib.hid hK
    clear hs hS hK
    gi_wp2_with fail
    refine ⟨trivial, rfl, (callsIn_wide.2 (digest_any s V)).mono ?_⟩
    rintro e w2 ⟨rfl, hB2⟩
    have z2 := rowIs_below hZ hB2 hZ.lt
    have rw2 : RowW w2 w.heap.size 32 := ⟨_, _, z2⟩
    clear c0 c1 c2 c3 c4 c5 c6 c7
    gi_wp2
    have hK2 : (w2.setCells w.heap.size 0 (rowA 32 (bF (dig s))).toList).heap[D]? = some (.deferred (some [])) := (keepsOthers_setCells _ _ _ _).same D _ ((keepsOthers_below hB2).same D _ HKD.out rfl) rfl
    refine ⟨by simp, .inl ⟨_, _, rfl, run_takeDeferred hK2, ?_⟩⟩
    refine ⟨_, results_row rfl _ rfl (rowIs_putObj (rowIs_setAll z2 (bF (dig s))) (by omega) _) Tryd.underlying32 info31, ?_, ?_⟩
    · rw [← Hs.out, HS.out, shaL, flat_length]
    · exact (below_setCells _ (Nat.le_refl _) _ _ _ (hBw.trans (hB2.mono hBw.size))).trans (below_putObj (by omega) _)
  case stop =>
    rintro D c pre2 V hD _ h hK
    exact h.elim
end Go.Proofs.YtchpmdcacpjojaaDoor
namespace Go.Proofs.YtchpmdcacpjojaaDoor
set_option maxRecDepth 8000
set_option linter.all false
def kTab : List Nat := [1116352408, 1899447441, 3049323471, 3921009573, 961987163, 1508970993, 2453635748, 2870763221, 3624381080, 310598401, 607225278, 1426881987, 1925078388, 2162078206, 2614888103, 3248222580, 3835390401, 4022224774, 264347078, 604807628, 770255983, 1249150122, 1555081692, 1996064986, 2554220882, 2821834349, 2952996808, 3210313671, 3336571891, 3584528711, 113926993, 338241895, 666307205, 773529912, 1294757372, 1396182291, 1695183700, 1986661051, 2177026350, 2456956037, 2730485921, 2820302411, 3259730800, 3345764771, 3516065817, 3600352804, 4094571909, 275423344, 430227734, 506948616, 659060556, 883997877, 958139571, 1322822218, 1537002063, 1747873779, 1955562222, 2024104815, 2227730452, 2361852424, 2428436474, 2756734187, 3204031479, 3329325298]
def fTab : List Nat := [1779033703, 3144134277, 1013904242, 2773480762, 1359893119, 2600822924, 528734635, 1541459225]
def Kc (i : Nat) : BitVec 32 := BitVec.ofNat 32 (kTab.getD i 0)
def Fc (i : Nat) : BitVec 32 := BitVec.ofNat 32 (fTab.getD i 0)
open Go.RowKit
/-- The two tables lie as the program's text lays them. -/
structure Tables (w : World) : Prop where
  size : 1 < w.heap.size
  k : ∀ i, i < 64 → w.cell? ⟨1, i, none⟩ = some (.int .u32 (uN (Kc i)))
  f : ∀ i, i < 8 → w.cell? ⟨0, i, none⟩ = some (.int .u32 (uN (Fc i)))
theorem Tables.below {w w' : World} (h : Tables w) (hb : Below w.heap.size w w') : Tables w' :=
  ⟨by have := h.size; have := hb.size; omega, fun i hi => (hb.cell (p := ⟨1, i, none⟩) h.size).trans (h.k i hi), fun i hi => (hb.cell (p := ⟨0, i, none⟩) (by have := h.size; show 0 < _; omega)).trans (h.f i hi)⟩
theorem Sum_c (pv : Value) (ps : List (Value × List UInt8)) (w : World) (hT : Tables w) (hps : PartsAt w [] pv ps) (ht : total ps ≤ 4611686018427387904) :
    Calls Tryd.prog 72 #[pv] w fun e w' => e = .returned (.agg (rowA 32 (bF (shaL Kc Fc (flat ps))))) ∧ Below w.heap.size w w' :=
  Sum_any Kc Fc pv ps w hT.size hT.k hT.f hps ht
end Go.Proofs.YtchpmdcacpjojaaDoor
