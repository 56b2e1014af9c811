/- A region in the text's order, gone through once: each operation has a condition on its value that later steps keep; beside them a relation on the world that steps on with the operations; the last operations may be left as they stand. No program is named here. -/
import Derived.Test.YtenmoljaeeeaaaaMa
import Derived.Deep.Cut
import Derived.Deep.SlicePairs
import Derived.Deep.Slices
set_option linter.all false
namespace Go.Proofs.Ytenmoljaeeeaaaa
open Go
set_option maxRecDepth 8000
set_option linter.all false

def seqStep (P : Program) (Q : Exit → Act → World → Prop) (T : World → World → Prop) (V : List (SV T)) (J : Nat → World → Prop) (a0 : Act) (w0 : World) (i : Nat) (o : Oper) (dp : List (Tmp × Option Nat)) (g : Option (Tmp × Bool)) (c : SV T) : Prop :=
  ∀ (a : Act) (w : World), T w0 w → relyFacts V a0 a w dp → J i w → ∀ K : Act → World → Prop, (∀ v w', T w w' → J (i + 1) w' → c.pred v w' → K (a.put o.dst v) w') →
    if relyGuard g a then o.wp P a w K Q else K (a.put o.dst undef) w
def seqAll (P : Program) (Q : Exit → Act → World → Prop) (T : World → World → Prop) (V : List (SV T)) (J : Nat → World → Prop) (a0 : Act) (w0 : World) : Nat → List Oper → Deps → List (SV T) → Prop
  | _, [], _, _ => True
  | i, o :: r, (dp, g) :: D, c :: C => seqStep P Q T V J a0 w0 i o dp g c ∧ seqAll P Q T V J a0 w0 (i + 1) r D C
  | _, _, _, _ => False
def seqOne (ops : Array Oper) (n m : Nat) (i : Nat) (o : Oper) (dp : List (Tmp × Option Nat)) (g : Option (Tmp × Bool)) : Bool :=
  (match o.dst with | some d => decide (d < n) && (List.range m).all (fun j => decide (j = i) || relyDst ops j != some d) | none => true) &&
  (dp.all fun x => match x.2 with
    | some j => relyDst ops j == some x.1 && decide (j < i)
    | none => (List.range i).all fun j => relyDst ops j != some x.1) &&
  (match o.guard, g with
    | none, none => true
    | some (k, b), some (d, b') => b == b' && relyDst ops k == some d && decide (d < n)
    | _, _ => false)
def seqB (ops : Array Oper) (n m : Nat) : Nat → List Oper → Deps → Bool
  | _, [], _ => true
  | i, o :: r, (dp, g) :: D => seqOne ops n m i o dp g && seqB ops n m (i + 1) r D
  | _, _, _ => false
section
variable {P : Program} {ops : Array Oper} {Q : Exit → Act → World → Prop} {T : World → World → Prop} {V : List (SV T)} {J : Nat → World → Prop} {a0 : Act} {w0 : World} {n m : Nat} {D : Deps} {init tail : List Oper}
theorem seqB_at : ∀ (l : List Oper) (D : Deps) (i k : Nat) (o : Oper), seqB ops n m i l D = true → l[k]? = some o → ∃ dp g, D[k]? = some (dp, g) ∧ seqOne ops n m (i + k) o dp g = true
  | [], _, _, _, _, _, h => by simp at h
  | x :: r, [], _, _, _, h, _ => by simp [seqB] at h
  | x :: r, (dp, g) :: D, i, 0, o, h, ho => by
    simp only [seqB, Bool.and_eq_true] at h
    simp at ho
    subst ho
    exact ⟨dp, g, rfl, h.1⟩
  | x :: r, (dp, g) :: D, i, k + 1, o, h, ho => by
    simp only [seqB, Bool.and_eq_true] at h
    obtain ⟨dp', g', hD, h'⟩ := seqB_at r D (i + 1) k o h.2 (by simpa using ho)
    exact ⟨dp', g', by simpa using hD, by rw [show i + (k + 1) = i + 1 + k by omega]; exact h'⟩
theorem seqAll_at : ∀ (l : List Oper) (D : Deps) (C : List (SV T)) (i k : Nat) (o : Oper) dp g, seqAll P Q T V J a0 w0 i l D C → l[k]? = some o → D[k]? = some (dp, g) → seqStep P Q T V J a0 w0 (i + k) o dp g (C.getD k SV.any)
  | [], _, _, _, _, _, _, _, _, h, _ => by simp at h
  | x :: r, [], _, _, _, _, _, _, h, _, _ => h.elim
  | x :: r, y :: D, [], _, _, _, _, _, h, _, _ => h.elim
  | x :: r, (dp, g) :: D, c :: C, i, 0, o, dp', g', h, ho, hD => by
    simp at ho hD
    obtain ⟨rfl, rfl⟩ := hD
    subst ho
    exact h.1
  | x :: r, (dp, g) :: D, c :: C, i, k + 1, o, dp', g', h, ho, hD => by
    have := seqAll_at r D C (i + 1) k o dp' g' h.2 (by simpa using ho) (by simpa using hD)
    rw [show i + (k + 1) = i + 1 + k by omega]
    simpa using this
structure SeqInv (ops : Array Oper) (T : World → World → Prop) (V : List (SV T)) (J : Nat → World → Prop) (a0 : Act) (w0 : World) (k : Nat) (a : Act) (w : World) : Prop where
  now : T w0 w
  at_ : J k w
  slots : a.tmps.size = a0.tmps.size
  defers : a.defers = a0.defers
  new : ∀ j d, j < k → relyDst ops j = some d → (V.getD j SV.any).pred (a.tmps.getD d undef) w
  old : ∀ d, (∀ j, j < k → relyDst ops j ≠ some d) → a.tmps.getD d undef = a0.tmps.getD d undef
theorem seq_op (hn : a0.tmps.size = n) (ht : ∀ a b c : World, T a b → T b c → T a c) {i : Nat} {o : Oper} {dp : List (Tmp × Option Nat)} {g : Option (Tmp × Bool)} {a : Act} {w : World}
    (him : i < m) (ho : ops[i]? = some o) (h1 : seqOne ops n m i o dp g = true) (hstep : seqStep P Q T V J a0 w0 i o dp g (V.getD i SV.any)) (inv : SeqInv ops T V J a0 w0 i a w) :
    wpOp P ops Q i (fun a' w' => SeqInv ops T V J a0 w0 (i + 1) a' w') a w := by
  simp only [seqOne, Bool.and_eq_true] at h1
  obtain ⟨⟨hdst, hdp⟩, hg⟩ := h1
  have hfacts : relyFacts V a0 a w dp := by
    clear hstep
    induction dp with
    | nil => trivial
    | cons x r ih2 =>
      simp only [List.all_cons, Bool.and_eq_true] at hdp
      obtain ⟨hx, hr⟩ := hdp
      obtain ⟨d, j⟩ := x
      cases j with
      | some j =>
        simp only [Bool.and_eq_true, beq_iff_eq, decide_eq_true_eq] at hx
        exact ⟨inv.new j d hx.2 hx.1, ih2 hr⟩
      | none =>
        refine ⟨inv.old d fun j hj => ?_, ih2 hr⟩
        simpa using List.all_eq_true.1 hx j (List.mem_range.2 hj)
  have hguard : Region.wanted o (yielded ops a.tmps) = relyGuard g a := by
    unfold Region.wanted
    cases hgo : o.guard with
    | none =>
      rw [hgo] at hg
      cases g with
      | none => rfl
      | some x => cases hg
    | some kb =>
      obtain ⟨k, b⟩ := kb
      rw [hgo] at hg
      cases g with
      | none => cases hg
      | some x =>
        obtain ⟨d, b'⟩ := x
        simp only [Bool.and_eq_true, beq_iff_eq, decide_eq_true_eq] at hg
        obtain ⟨⟨rfl, hd⟩, hlt⟩ := hg
        have hlt' : d < a.tmps.size := by rw [inv.slots, hn]; exact hlt
        have hd' : (ops[k]?).bind (·.dst) = some d := hd
        simp only [yielded, hd', Option.bind_some, relyGuard, Array.getD_eq_getD_getElem?, Array.getElem?_eq_getElem hlt', Option.getD_some]
        cases a.tmps[d] <;> simp
        all_goals (rename_i x; cases x <;> cases b <;> rfl)
  have next : ∀ v w', T w w' → J (i + 1) w' → (V.getD i SV.any).pred v w' → SeqInv ops T V J a0 w0 (i + 1) (a.put o.dst v) w' := fun v w' hT hJ hv => by
    refine ⟨ht _ _ _ inv.now hT, hJ, by cases o.dst <;> simp [Act.put, inv.slots], by cases o.dst <;> simp [Act.put, inv.defers], fun j d hji hj => ?_, fun d hno => ?_⟩
    · by_cases hij : i = j
      · subst hij
        have hd : o.dst = some d := by simpa [relyDst, ho] using hj
        rw [hd] at hdst
        simp only [Bool.and_eq_true, decide_eq_true_eq] at hdst
        have hlt : d < a.tmps.size := by rw [inv.slots, hn]; exact hdst.1
        rw [hd]
        simpa [Act.put, hlt] using hv
      · have h3 := (V.getD j SV.any).stable _ _ _ (inv.new j d (by omega) hj) hT
        cases hod : o.dst with
        | none => exact h3
        | some d0 =>
          rw [hod] at hdst
          simp only [Bool.and_eq_true, decide_eq_true_eq] at hdst
          have h4 := List.all_eq_true.1 hdst.2 j (List.mem_range.2 (by omega))
          simp only [Bool.or_eq_true, decide_eq_true_eq, bne_iff_ne, ne_eq] at h4
          have hne : d0 ≠ d := fun e => by
            subst e
            rcases h4 with h4 | h4
            · exact hij h4.symm
            · exact h4 hj
          simpa [Act.put, Array.getElem?_setIfInBounds_ne hne] using h3
    · have hni : o.dst ≠ some d := fun hd => hno i (by omega) (by simp [relyDst, ho, hd])
      have hold := inv.old d fun j hj => hno j (by omega)
      cases hod : o.dst with
      | none => exact hold
      | some d0 =>
        have hne : d0 ≠ d := fun e => hni (by rw [hod, e])
        simpa [Act.put, Array.getElem?_setIfInBounds_ne hne] using hold
  have hs := hstep a w inv.now hfacts inv.at_ _ next
  unfold wpOp
  simp only [ho, hguard]
  split
  · rename_i hw; rw [if_pos hw] at hs; exact .inl hs
  · rename_i hw; rw [if_neg hw] at hs; exact hs
theorem wpOps_tail : ∀ (t : List Oper) (k : Nat) (a : Act) (w : World), (∀ i : Nat, ops[k + i]? = t[i]?) → wpList P ops Q t a w → wpOps P ops Q (List.range' k t.length) a w
  | [], k, a, w, _, h => by simpa [wpOps, wpList] using h
  | o :: t, k, a, w, hk, h => by
    have hi : ops[k]? = some o := by simpa using hk 0
    rw [List.length_cons, List.range'_succ, wpOps_cons]
    refine wpOp_mono (fun a' w' h' => wpOps_tail t (k + 1) a' w' (fun i => by have := hk (i + 1); rw [show k + 1 + i = k + (i + 1) by omega]; simpa using this) h') ?_
    unfold wpOp
    simp only [hi]
    simpa only [wpList] using h
theorem wpOps_seq (hsplit : ops.toList = init ++ tail) (hn : a0.tmps.size = n) (hB : seqB ops n init.length 0 init D = true) (ht : ∀ a b c : World, T a b → T b c → T a c)
    (hl : init.length ≤ V.length) (hA : seqAll P Q T V J a0 w0 0 init D V) (hE : ∀ w, T w0 w → J init.length w → relyEnd (fun _ a w => wpList P ops Q tail a w) T init V a0 w) :
    ∀ (f k : Nat) (a : Act) (w : World), k + f = init.length → SeqInv ops T V J a0 w0 k a w → wpOps P ops Q (List.range' k (f + tail.length)) a w := by
  obtain ⟨hsz, hpre, htl⟩ := split_at hsplit
  intro f
  induction f with
  | zero =>
    intro k a w hk inv
    obtain rfl : k = init.length := by omega
    rw [Nat.zero_add]
    refine wpOps_tail tail init.length a w htl ?_
    refine relyEnd_of (Q := fun _ a w => wpList P ops Q tail a w) init V a0 inv.slots.symm inv.defers.symm hl (fun d hnd => ?_) (fun k o d hk hd => ?_) (hE w inv.now inv.at_)
    · refine (inv.old d fun j hj hjd => ?_).symm
      have hj2 := hpre j init[j] (List.getElem?_eq_getElem hj)
      simp [relyDst, hj2] at hjd
      exact hnd init[j] (List.getElem_mem hj) hjd
    · exact inv.new k d (List.getElem?_eq_some_iff.1 hk).1 (by simp [relyDst, hpre k o hk, hd])
  | succ f ih =>
    intro k a w hk inv
    rw [show f + 1 + tail.length = (f + tail.length) + 1 by omega, List.range'_succ, wpOps_cons]
    have hklt : k < init.length := by omega
    have hio : init[k]? = some init[k] := List.getElem?_eq_getElem hklt
    obtain ⟨dp, g, hD, h1⟩ := seqB_at init D 0 k _ hB hio
    have hstep := seqAll_at _ _ _ 0 k _ dp g hA hio hD
    rw [Nat.zero_add] at h1 hstep
    exact wpOp_mono (fun a' w' inv' => ih (k + 1) a' w' (by omega) inv') (seq_op hn ht hklt (hpre k _ hio) h1 hstep inv)
/-- **A region in the text's order; the operations from place m on are left as they stand.** -/
theorem wp_region_steps {id : Nat} (T : World → World → Prop) (J : Nat → World → Prop) (V : List (SV T)) (D : Deps) (n m : Nat) (hn : a0.tmps.size = n) (hlen : (ops.toList.take m).length = m) (hB : seqB ops n m 0 (ops.toList.take m) D = true)
    (ht : ∀ a b c : World, T a b → T b c → T a c) (hd : T w0 w0) (hJ : J 0 w0) (hl : m ≤ V.length)
    (hA : seqAll P Q T V J a0 w0 0 (ops.toList.take m) D V) (hE : ∀ w, T w0 w → J m w → relyEnd (fun _ a w => wpList P ops Q (ops.toList.drop m) a w) T (ops.toList.take m) V a0 w) : (Code.region id ops false).wp P Q a0 w0 := by
  refine wp_region ?_
  have hs := split_at (List.take_append_drop m ops.toList).symm
  rw [List.range_eq_range', hs.1]
  exact wpOps_seq (List.take_append_drop m ops.toList).symm hn (by rw [hlen]; exact hB) ht (by rw [hlen]; exact hl) hA (by rw [hlen]; exact hE) _ 0 a0 w0 (by omega) ⟨hd, hJ, rfl, rfl, fun j d hj => absurd hj (by omega), fun _ _ => rfl⟩
/-- Without a relation beside. -/
theorem seqAll_of : ∀ (i : Nat) (l : List Oper) (D : Deps) (C : List (SV T)), relyAll P Q T V a0 w0 l D C → seqAll P Q T V (fun _ _ => True) a0 w0 i l D C
  | _, [], _, _, _ => trivial
  | i, _ :: r, (_, _) :: D, _ :: C, h => ⟨fun a w hT hF _ K hK => h.1 a w hT hF K fun v w' h1 h2 => hK v w' h1 trivial h2, seqAll_of (i + 1) r D C h.2⟩
  | _, _ :: _, [], _, h => h.elim
  | _, _ :: _, _ :: _, [], h => h.elim
theorem wp_region_steps0 {id : Nat} (T : World → World → Prop) (V : List (SV T)) (D : Deps) (n m : Nat) (hn : a0.tmps.size = n) (hlen : (ops.toList.take m).length = m) (hB : seqB ops n m 0 (ops.toList.take m) D = true)
    (ht : ∀ a b c : World, T a b → T b c → T a c) (hd : T w0 w0) (hl : m ≤ V.length)
    (hA : relyAll P Q T V a0 w0 (ops.toList.take m) D V) (hE : ∀ w, T w0 w → relyEnd (fun _ a w => wpList P ops Q (ops.toList.drop m) a w) T (ops.toList.take m) V a0 w) : (Code.region id ops false).wp P Q a0 w0 :=
  wp_region_steps T (fun _ _ => True) V D n m hn hlen hB ht hd trivial hl (seqAll_of 0 _ _ _ hA) fun w hT _ => hE w hT
theorem wpList_end {a : Act} {w : World} {l : List Oper} (hl : l = []) (h : Q .normal a w) : wpList P ops Q l a w := by subst hl; exact h
end
end Go.Proofs.Ytenmoljaeeeaaaa
/- What the guards of a region make conditional, and single operations, a lemma each: fields, loads, numbers compared. -/
namespace Go.Proofs.Ytenmoljaeeeaaaa
open Go Go.RowKit
set_option maxRecDepth 8000
set_option linter.all false

section
variable {P : Program} {a : Act} {w : World} {o : Oper} {K : Act → World → Prop} {Q : Exit → Act → World → Prop}
/-- A condition that stands where b is so. -/
def svIf {T : World → World → Prop} (b : Bool) (c : SV T) : SV T := ⟨fun v w => b = true → c.pred v w, fun v w w' h hT hb => c.stable v w w' (h hb) hT⟩
/-- A guard's own value, where it may be left out. -/
def gV (b c : Bool) : Value := bif b then .bool c else undef
theorem rely_on {g : Option (Tmp × Bool)} {E : Bool} (hg : relyGuard g a = E) (h1 : E = true → o.wp P a w K Q) (h0 : E = false → K (a.put o.dst undef) w) : if relyGuard g a then o.wp P a w K Q else K (a.put o.dst undef) w := by
  rw [hg]; cases E
  · exact h0 rfl
  · exact h1 rfl
/-- What is done under a guard that isn't known. -/
theorem rely_if {T : World → World → Prop} {g : Option (Tmp × Bool)} {E : Bool} {c : SV T} (hg : relyGuard g a = E) (hr : T w w) (hK : ∀ v w', T w w' → (svIf E c).pred v w' → K (a.put o.dst v) w') (h : E = true → (∀ v w', T w w' → c.pred v w' → K (a.put o.dst v) w') → o.wp P a w K Q) : if relyGuard g a then o.wp P a w K Q else K (a.put o.dst undef) w :=
  rely_on hg (fun hE => h hE fun v w' h1 h2 => hK v w' h1 fun _ => h2) fun hE => hK _ _ hr fun h1 => by rw [hE] at h1; cases h1
theorem rely_ifg {T : World → World → Prop} {g : Option (Tmp × Bool)} {E b : Bool} (hg : relyGuard g a = E) (hr : T w w) (hK : ∀ v w', T w w' → (SV.eq (T := T) (gV E b)).pred v w' → K (a.put o.dst v) w') (h : E = true → (∀ v w', T w w' → v = .bool b → K (a.put o.dst v) w') → o.wp P a w K Q) : if relyGuard g a then o.wp P a w K Q else K (a.put o.dst undef) w :=
  rely_on hg (fun hE => h hE fun v w' h1 h2 => hK v w' h1 (by rw [h2, hE]; rfl)) fun hE => hK _ _ hr (by rw [hE]; rfl)
theorem pn_and1 {b e q : Bool} {v : Value} (hq : (b && e) = q) (h : v = .bool e) (hb : b = true) : v = .bool q := by rw [h, ← hq, hb]; rfl
theorem pn_and0 {b e q : Bool} (hq : (b && e) = q) (hb : b = false) : Value.bool false = .bool q := by rw [← hq, hb]; rfl
theorem pn_or1 {b e q : Bool} (hq : (b || e) = q) (hb : b = true) : Value.bool true = .bool q := by rw [← hq, hb]; rfl
theorem pn_or0 {b e q : Bool} {v : Value} (hq : (b || e) = q) (h : v = .bool e) (hb : b = false) : v = .bool q := by rw [h, ← hq, hb]; rfl
theorem rely_gt {d : Tmp} {b : Bool} (h : a.tmps.getD d undef = .bool b) : relyGuard (some (d, true)) a = b := by simp only [relyGuard, h]; cases b <;> rfl
theorem rely_gf {d : Tmp} {b : Bool} (h : a.tmps.getD d undef = .bool b) : relyGuard (some (d, false)) a = !b := by simp only [relyGuard, h]; cases b <;> rfl
theorem rely_ggt {d : Tmp} {p b : Bool} (h : a.tmps.getD d undef = gV p b) : relyGuard (some (d, true)) a = (p && b) := by simp only [relyGuard, h, gV]; cases p <;> cases b <;> rfl
theorem rely_ggf {d : Tmp} {p b : Bool} (h : a.tmps.getD d undef = gV p b) : relyGuard (some (d, false)) a = (p && !b) := by simp only [relyGuard, h, gV]; cases p <;> cases b <;> rfl
theorem gV_on {p b : Bool} (h : p = true) : gV p b = .bool b := by rw [h]; rfl
theorem gV_off {p b : Bool} (h : p = false) : undef = gV p b := by rw [h]; rfl
theorem svIf_off {T : World → World → Prop} {b : Bool} {c : SV T} {v : Value} {w : World} (h : b = false) : (svIf b c).pred v w := fun h1 => by rw [h] at h1; cases h1
theorem bleft {a b : Bool} (h : (a && b) = true) : a = true := by cases a <;> simp_all
theorem opr_pick_b {c x y : Operand} {b : Bool} (ho : o.op = .pick c x y) (hc : a.eval c = .bool b) (h1 : b = true → K (a.put o.dst (a.eval x)) w) (h0 : b = false → K (a.put o.dst (a.eval y)) w) : o.wp P a w K Q := by
  cases b
  · exact opr_pick_false ho hc (h0 rfl)
  · exact opr_pick_true ho hc (h1 rfl)
theorem pk_and1 {b e : Bool} {v : Value} (h : v = .bool e) (hb : b = true) : v = .bool (b && e) := by rw [h, hb]; rfl
theorem pk_and0 {b e : Bool} (hb : b = false) : Value.bool false = .bool (b && e) := by rw [hb]; rfl
theorem pk_or1 {b e : Bool} (hb : b = true) : Value.bool true = .bool (b || e) := by rw [hb]; rfl
theorem pk_or0 {b e : Bool} {v : Value} (h : v = .bool e) (hb : b = false) : v = .bool (b || e) := by rw [h, hb]; rfl
theorem bnot {b : Bool} (h : b = false) : (!b) = true := by rw [h]; rfl
theorem band {a b : Bool} (h : a = true) (k : b = true) : (a && b) = true := by rw [h, k]; rfl
theorem opr_not {t : TypeId} {x : Operand} {b : Bool} (ho : o.op = .unOp .not t x) (hx : a.eval x = .bool b) (h : K (a.put o.dst (.bool !b)) w) : o.wp P a w K Q := by
  obtain ⟨dst, op, type, pos, after, guard⟩ := o
  simp only at ho
  subst ho
  refine opr_val (s := Op.unary .not (a.eval x)) rfl ?_ h
  rw [hx]; simp [go_sem]
/-- A field's place. -/
theorem opr_fld {t : TypeId} {x : Operand} {k g o0 off m : Nat} {fs : Array Field} {f : Field} (hu : P.underlying t = some (.struct fs)) (hk : fs[k]? = some f) (hs : (P.info? f.type).map (·.size) = some (m + 1)) (ho : o.op = .fieldAddr t x k) (hx : a.eval x = .pointer (some ⟨g, o0, none⟩)) (hoff : o0 + f.offset = off) (h : K (a.put o.dst (.pointer (some ⟨g, off, none⟩))) w) : o.wp P a w K Q := by
  subst hoff
  obtain ⟨dst, op, type, pos, after, guard⟩ := o
  simp only at ho
  subst ho
  refine opr_val (s := Instr.fieldAt t (a.eval x) k) rfl ?_ h
  have hsz : (sizeOf f.type).run P w = .ok (m + 1) w := by
    cases hq : P.info? f.type with
    | none => simp [hq] at hs
    | some i => simp [hq] at hs; simp [sizeOf, typeInfo, hq, hs]
  rw [hx]
  simp [Instr.fieldAt, run_underlying hu, hk, Instr.sureAddr, fieldPlace, hsz, Addr.add_mid]
/-- A cell is loaded. -/
theorem opr_ld1 {t : TypeId} {x : Operand} {g o0 : Nat} {d : TypeDesc} {v : Value} (hu : P.underlying t = some d) (hd : d.isRow = false) (ho : o.op = .load t x) (hx : a.eval x = .pointer (some ⟨g, o0, none⟩)) (hc : w.cell? ⟨g, o0, none⟩ = some v) (h : K (a.put o.dst v) w) : o.wp P a w K Q := by
  obtain ⟨dst, op, type, pos, after, guard⟩ := o
  simp only at ho
  subst ho
  refine opr_val (s := Instr.loadAt t (a.eval x)) rfl ?_ h
  have hagg : (isAgg t).run P w = .ok false w := by
    unfold isAgg
    rw [Sem.run_bind, run_underlying hu w]
    cases d <;> simp_all
  rw [hx]
  simp [Instr.loadAt, Instr.sureAddr, loadVar, hagg, hc]
/-- A part of a row is loaded. -/
theorem opr_ldm {t t' : TypeId} {x : Operand} {g o0 n m : Nat} {d : TypeDesc} {f : Nat → Value} (hu : P.underlying t = some d) (hd : d.isRow = true) (hi : (P.info? t).map (·.size) = some m) (ho : o.op = .load t x) (hx : a.eval x = .pointer (some ⟨g, o0, none⟩)) (hr : w.rowIs g t' n f) (hm : o0 + m ≤ n) (h : K (a.put o.dst (.agg (rowA m fun j => f (o0 + j)))) w) : o.wp P a w K Q := by
  obtain ⟨dst, op, type, pos, after, guard⟩ := o
  simp only at ho
  subst ho
  refine opr_val (s := Instr.loadAt t (a.eval x)) rfl ?_ h
  rw [hx]
  have := run_loadAt_mid (P := P) w g o0 t _ d (rangeAt_part hr o0 m hm) hu hd (by rw [rowA_toList]; simpa using hi)
  simpa using this
end
section
variable {a : Act} {w : World} {o : Oper} {K : Act → World → Prop} {Q : Exit → Act → World → Prop} {x : Operand} {g : Nat}
theorem info_int : (Try.prog.info? 3).map (·.size) = some (0 + 1) := by kernel_rfl
theorem info_bool : (Try.prog.info? 4).map (·.size) = some (0 + 1) := by kernel_rfl
theorem info_sb1 : (Try.prog.info? 31).map (·.size) = some (0 + 1) := by kernel_rfl
variable {F : Nat → Value} {t' : TypeId} {n : Nat} {o0 : Nat} {v : Value}
theorem opr_ldI (hr : w.rowIs g t' n F) (hn : o0 < n) (hv : F o0 = v) (ho : o.op = .load 3 x) (hx : a.eval x = .pointer (some ⟨g, o0, none⟩)) (h : K (a.put o.dst v) w) : o.wp Try.prog a w K Q :=
  opr_ld1 Try.underlying3 rfl ho hx (by rw [hr.cell hn, hv]) h
theorem opr_ldQ (hr : w.rowIs g t' n F) (hn : o0 < n) (hv : F o0 = v) (ho : o.op = .load 4 x) (hx : a.eval x = .pointer (some ⟨g, o0, none⟩)) (h : K (a.put o.dst v) w) : o.wp Try.prog a w K Q :=
  opr_ld1 Try.underlying4 rfl ho hx (by rw [hr.cell hn, hv]) h
theorem opr_ldB (hr : w.rowIs g t' n F) (hn : o0 < n) (hv : F o0 = v) (ho : o.op = .load 31 x) (hx : a.eval x = .pointer (some ⟨g, o0, none⟩)) (h : K (a.put o.dst v) w) : o.wp Try.prog a w K Q :=
  opr_ld1 Try.underlying31 rfl ho hx (by rw [hr.cell hn, hv]) h
/-- Numbers are compared. -/
theorem opr_cmp {op : BinOp} {t t2 : TypeId} {x y : Operand} {m n : Int} {b : Bool} (hop : op = .eql ∧ (m == n) = b ∨ op = .neq ∧ (m != n) = b ∨ op = .leq ∧ decide (m ≤ n) = b ∨ op = .lss ∧ decide (m < n) = b ∨ op = .gtr ∧ decide (n < m) = b ∨ op = .geq ∧ decide (n ≤ m) = b) (_ht : Try.prog.underlying t = some (.int .i64)) (ho : o.op = .binOp op t x y t2) (hx : a.eval x = .int .i64 m) (hy : a.eval y = .int .i64 n) (h : K (a.put o.dst (.bool b)) w) : o.wp Try.prog a w K Q := by
  obtain ⟨dst, op', type, pos, after, guard⟩ := o
  simp only at ho
  subst ho
  refine opr_val (s := do eqGuard op t x y (a.eval x) (a.eval y); binOp op t (a.eval x) (a.eval y)) rfl ?_ h
  rw [hx, hy]
  rcases hop with ⟨rfl, rfl⟩ | ⟨rfl, rfl⟩ | ⟨rfl, rfl⟩ | ⟨rfl, rfl⟩ | ⟨rfl, rfl⟩ | ⟨rfl, rfl⟩ <;> simp [go_sem]
end
section
variable {a : Act} {w : World} {o : Oper} {K : Act → World → Prop} {Q : Exit → Act → World → Prop} {x y : Operand} {g : Nat}
theorem opr_eqlQ {p q b : Bool} {t2 : TypeId} (hb : (p == q) = b) (ho : o.op = .binOp .eql 4 x y t2) (hx : a.eval x = .bool p) (hy : a.eval y = .bool q) (h : K (a.put o.dst (.bool b)) w) : o.wp Try.prog a w K Q := by
  obtain ⟨dst, op', type, pos, after, guard⟩ := o
  simp only at ho
  subst ho hb
  refine opr_val (s := do eqGuard .eql 4 x y (a.eval x) (a.eval y); binOp .eql 4 (a.eval x) (a.eval y)) rfl ?_ h
  rw [hx, hy]
  simp [go_sem]
theorem rd_rowH {t' n o0 : Nat} {F : Nat → Value} {d : Nat → UInt8} (hr : w.rowIs g t' n F) (hn : o0 + 32 ≤ n) (hv : ∀ j, j < 32 → F (o0 + j) = bF d j) : RdV w [] (.slice (some ⟨g, o0, none⟩) 32 32) (digL d) := by
  refine ⟨some ⟨g, o0, none⟩, 32, by rw [digL_length], by rw [digL_length]; exact Nat.le_refl _, by unfold maxLen; omega, fun _ => ⟨g, o0, rfl, by simp, fun i hi => ?_⟩⟩
  rw [digL_length] at hi
  rw [hr.cell (by omega), hv i hi, bF_at]
  simp [bAt, digL, hi]
theorem run_bs3 (A : Option Addr) (n c : Nat) (A2 : Option Addr) (n2 c2 : Nat) (A3 : Option Addr) (n3 c3 : Nat) (w : World) : (Instr.buildSlice 45 3 #[(0, .slice A n c), (1, .slice A2 n2 c2), (2, .slice A3 n3 c3)]).run Try.prog w = .ok (.slice (some ⟨w.heap.size, 0, none⟩) 3 3) (w.alloc (.cells #[.slice A n c, .slice A2 n2 c2, .slice A3 n3 c3] 31)) := by
  simp [go_sem]
theorem run_bs4 (A : Option Addr) (n c : Nat) (A2 : Option Addr) (n2 c2 : Nat) (A3 : Option Addr) (n3 c3 : Nat) (A4 : Option Addr) (n4 c4 : Nat) (w : World) : (Instr.buildSlice 45 4 #[(0, .slice A n c), (1, .slice A2 n2 c2), (2, .slice A3 n3 c3), (3, .slice A4 n4 c4)]).run Try.prog w = .ok (.slice (some ⟨w.heap.size, 0, none⟩) 4 4) (w.alloc (.cells #[.slice A n c, .slice A2 n2 c2, .slice A3 n3 c3, .slice A4 n4 c4] 31)) := by
  simp [go_sem]
theorem opr_bs3 {x1 x2 x3 : Operand} {l1 l2 l3 : List UInt8} (ho : o.op = .buildSlice 45 3 #[(0, x1), (1, x2), (2, x3)]) (h1 : RdV w [] (a.eval x1) l1) (h2 : RdV w [] (a.eval x2) l2) (h3 : RdV w [] (a.eval x3) l3) (h : ∀ v w', NewT w w' → Parts w' v [l1, l2, l3] → K (a.put o.dst v) w') : o.wp Try.prog a w K Q := by
  obtain ⟨dst, op, type, pos, after, guard⟩ := o
  simp only at ho
  subst ho
  obtain ⟨A1, c1, e1⟩ := rdV_form h1
  obtain ⟨A2, c2, e2⟩ := rdV_form h2
  obtain ⟨A3, c3, e3⟩ := rdV_form h3
  rw [e1] at h1
  rw [e2] at h2
  rw [e3] at h3
  exact opr_val (s := Instr.buildSlice 45 3 #[(0, a.eval x1), (1, a.eval x2), (2, a.eval x3)]) (by simp [execOp]) (by rw [e1, e2, e3]; exact run_bs3 _ _ _ _ _ _ _ _ _ w) (h _ _ (NewT.alloc _ _) ⟨[(.slice A1 l1.length c1, l1), (.slice A2 l2.length c2, l2), (.slice A3 l3.length c3, l3)], parts_new [(.slice A1 l1.length c1, l1), (.slice A2 l2.length c2, l2), (.slice A3 l3.length c3, l3)] 31 (by simp) (by simp) (by simp; exact ⟨h1, h2, h3⟩), rfl⟩)
theorem opr_bs4 {x1 x2 x3 x4 : Operand} {l1 l2 l3 l4 : List UInt8} (ho : o.op = .buildSlice 45 4 #[(0, x1), (1, x2), (2, x3), (3, x4)]) (h1 : RdV w [] (a.eval x1) l1) (h2 : RdV w [] (a.eval x2) l2) (h3 : RdV w [] (a.eval x3) l3) (h4 : RdV w [] (a.eval x4) l4) (h : ∀ v w', NewT w w' → Parts w' v [l1, l2, l3, l4] → K (a.put o.dst v) w') : o.wp Try.prog a w K Q := by
  obtain ⟨dst, op, type, pos, after, guard⟩ := o
  simp only at ho
  subst ho
  obtain ⟨A1, c1, e1⟩ := rdV_form h1
  obtain ⟨A2, c2, e2⟩ := rdV_form h2
  obtain ⟨A3, c3, e3⟩ := rdV_form h3
  obtain ⟨A4, c4, e4⟩ := rdV_form h4
  rw [e1] at h1
  rw [e2] at h2
  rw [e3] at h3
  rw [e4] at h4
  exact opr_val (s := Instr.buildSlice 45 4 #[(0, a.eval x1), (1, a.eval x2), (2, a.eval x3), (3, a.eval x4)]) (by simp [execOp]) (by rw [e1, e2, e3, e4]; exact run_bs4 _ _ _ _ _ _ _ _ _ _ _ _ w) (h _ _ (NewT.alloc _ _) ⟨[(.slice A1 l1.length c1, l1), (.slice A2 l2.length c2, l2), (.slice A3 l3.length c3, l3), (.slice A4 l4.length c4, l4)], parts_new [(.slice A1 l1.length c1, l1), (.slice A2 l2.length c2, l2), (.slice A3 l3.length c3, l3), (.slice A4 l4.length c4, l4)] 31 (by simp) (by simp) (by simp; exact ⟨h1, h2, h3, h4⟩), rfl⟩)
end
end Go.Proofs.Ytenmoljaeeeaaaa
/- Single operations: a pointer that isn't nil, sums, differences, products. -/
namespace Go.Proofs.Ytenmoljaeeeaaaa
open Go Go.RowKit
set_option maxRecDepth 8000
set_option linter.all false
section
variable {P : Program} {a : Act} {w : World} {o : Oper} {K : Act → World → Prop} {Q : Exit → Act → World → Prop} {x y : Operand}
theorem opr_nilc {A : Addr} (ho : o.op = .nilCheck x) (hx : a.eval x = .pointer (some A)) (h : K (a.put o.dst (.pointer (some A))) w) : o.wp P a w K Q := by
  obtain ⟨dst, op, type, pos, after, guard⟩ := o
  simp only at ho
  subst ho
  simpa [Oper.wp, execOp, hx, Oper.upon, Sem.run_pure] using h
theorem opr_add {t t2 : TypeId} {m n r : Int} (ht : P.underlying t = some (.int .i64)) (hr : wrap64 (m + n) = r) (ho : o.op = .binOp .add t x y t2) (hx : a.eval x = .int .i64 m) (hy : a.eval y = .int .i64 n) (h : K (a.put o.dst (.int .i64 r)) w) : o.wp P a w K Q := by
  obtain ⟨dst, op, type, pos, after, guard⟩ := o
  simp only at ho
  subst ho hr
  refine opr_val (s := do eqGuard .add t x y (a.eval x) (a.eval y); binOp .add t (a.eval x) (a.eval y)) rfl ?_ h
  rw [hx, hy]; simp [go_sem]; rw [IntKind.wrap_i64, wrap64]
theorem opr_sub {t t2 : TypeId} {m n r : Int} (ht : P.underlying t = some (.int .i64)) (hr : wrap64 (m - n) = r) (ho : o.op = .binOp .sub t x y t2) (hx : a.eval x = .int .i64 m) (hy : a.eval y = .int .i64 n) (h : K (a.put o.dst (.int .i64 r)) w) : o.wp P a w K Q := by
  obtain ⟨dst, op, type, pos, after, guard⟩ := o
  simp only at ho
  subst ho hr
  refine opr_val (s := do eqGuard .sub t x y (a.eval x) (a.eval y); binOp .sub t (a.eval x) (a.eval y)) rfl ?_ h
  rw [hx, hy]; simp [go_sem]; rw [IntKind.wrap_i64, wrap64]
theorem opr_mul {t t2 : TypeId} {m n r : Int} (ht : P.underlying t = some (.int .i64)) (hr : wrap64 (m * n) = r) (ho : o.op = .binOp .mul t x y t2) (hx : a.eval x = .int .i64 m) (hy : a.eval y = .int .i64 n) (h : K (a.put o.dst (.int .i64 r)) w) : o.wp P a w K Q := by
  obtain ⟨dst, op, type, pos, after, guard⟩ := o
  simp only at ho
  subst ho hr
  refine opr_val (s := do eqGuard .mul t x y (a.eval x) (a.eval y); binOp .mul t (a.eval x) (a.eval y)) rfl ?_ h
  rw [hx, hy]; simp [go_sem]; rw [IntKind.wrap_i64, wrap64]
end
end Go.Proofs.Ytenmoljaeeeaaaa
/- Regions that append onto rows of bytes of their own, piece by piece: what reads as a beginning of all that is put stays so. -/
namespace Go.Proofs.Ytenmoljaeeeaaaa
open Go Go.RowKit
set_option maxRecDepth 8000
set_option linter.all false
theorem app_same {α : Type} (X L M C : List α) (a b k : Nat) (hL : X.take a = L) (ha : L.length = a) (hb : M.length = b) (hC : L ++ M = C.take (a + b)) (hk : X.take k = C.take k) (hX : k ≤ X.length) (hkC : k ≤ C.length) : (X.take a ++ M ++ X.drop (a + b)).take k = X.take k := by
  subst hL
  apply List.ext_getElem?
  intro i
  by_cases hi : i < k
  · rw [List.getElem?_take_of_lt hi, List.getElem?_take_of_lt hi]
    by_cases h1 : i < a
    · rw [List.append_assoc, List.getElem?_append_left (by omega), List.getElem?_take_of_lt h1]
    · by_cases h2 : i < a + b
      · rw [List.getElem?_append_left (by rw [List.length_append]; omega)]
        have e1 := congrArg (·[i]?) hC
        have e2 := congrArg (·[i]?) hk
        simp only [List.getElem?_take_of_lt h2, List.getElem?_take_of_lt hi] at e1 e2
        rw [e1, e2]
      · rw [List.getElem?_append_right (by rw [List.length_append]; omega), List.length_append, ha, hb, List.getElem?_drop, show a + b + (i - (a + b)) = i by omega]
  · rw [List.getElem?_eq_none (by rw [List.length_take]; omega), List.getElem?_eq_none (by rw [List.length_take]; omega)]
/-- A step of a region that puts C, piece by piece, into rows of its own from block B on: new memory, and these rows, are written. -/
structure AppT (B : Nat) (C : List UInt8) (w w' : World) : Prop where
  below : Below B w w'
  own : ∀ v l, l <+: C → OwnB w B v l → OwnB w' B v l
theorem AppT.trans {B : Nat} {C : List UInt8} (a b c : World) (h : AppT B C a b) (k : AppT B C b c) : AppT B C a c := ⟨h.below.trans k.below, fun v l hl x => k.own v l hl (h.own v l hl x)⟩
theorem AppT.refl {B : Nat} {C : List UInt8} (w : World) : AppT B C w w := ⟨Below.refl _ w, fun _ _ _ x => x⟩
theorem AppT.of_new {B : Nat} {C : List UInt8} {w w' : World} (hB : B ≤ w.heap.size) (h : NewT w w') : AppT B C w w' := ⟨h.out.mono hB, fun _ _ _ x => x.keep h⟩
theorem AppT.drew {B : Nat} {C : List UInt8} (w : World) : AppT B C w w.drew := ⟨(Below.refl _ w).drew, fun _ _ _ x => x.of_block fun _ _ _ h _ => h⟩
/-- A row of its own that reads as a beginning of C. -/
def svAp (B : Nat) (C l : List UInt8) : SV (AppT B C) := ⟨fun v w => l <+: C ∧ OwnB w B v l, fun _ _ _ h hT => ⟨h.1, hT.own _ _ h.1 h.2⟩⟩
/-- It reads as l in an elder world. -/
def svEl (W : World) (M : List Nat) (l : List UInt8) {T : World → World → Prop} : SV T := ⟨fun v _ => RdV W M v l, fun _ _ _ h _ => h⟩
theorem run_appB_T {W : World} {B : Nat} {v u : Value} {l m C : List UInt8} {L : List Nat} (h : OwnB W B v l) (hr : RdV W L u m) (hC : l ++ m <+: C) (hn : l.length + m.length ≤ 1000000) (hB : B ≤ W.heap.size) (ty : TypeId) :
    ∃ v' w', (Builtin.append_ #[31, 31] ty #[v, u]).run Try.prog W = .ok v' w' ∧ OwnB w' B v' (l ++ m) ∧ AppT B C W w' := by
  obtain ⟨v', w', h1, h2, h3, _⟩ := run_appB_two h hr hn hB ty
  refine ⟨v', w', h1, h2, (Below.refl _ W).grown h3 hB (fun k hk => (h.lt k hk).1), fun v'' l'' hl'' h'' => ?_⟩
  obtain ⟨i0, hi, hz0, hz1, hz2⟩ := info_parts info5
  have hother : ∀ g, v''.ownBlock = some g → v.ownBlock ≠ some g → OwnB w' B v'' l'' := fun g e e2 => h''.of_block fun k o hk ho _ => by
    rw [e] at hk
    injection hk with hk
    subst hk
    rw [h3.block _ (h''.lt _ e).2 (fun e3 => e2 e3.symm)]
    exact ho
  rcases h''.2 with ⟨rfl, h0⟩ | ⟨g, cap2, cur2, rfl, hb2, hg2, hn2, hm2, hs2, hx2⟩
  · exact ⟨h''.1, .inl ⟨rfl, h0⟩⟩
  by_cases e : v.ownBlock = some g
  case neg => exact hother g rfl e
  rcases h.2 with ⟨rfl, h0⟩ | ⟨g', c, cur, rfl, hb, hg, hnc, hcm, hs, ht⟩
  · cases e
  · simp only [Value.ownBlock, Option.some.injEq] at e
    subst e
    rw [hg] at hg2
    injection hg2 with hg2
    injection hg2 with hg2
    subst hg2
    obtain ⟨A, cap, rfl, k1, k2, k3⟩ := hr
    by_cases hm0 : m = []
    · subst hm0
      cases A with
      | none =>
        simp [Builtin.append_, run_underlying Try.underlying31, sizeOf, typeInfo, hi, Builtin.lenOf, Builtin.firstCells, hnc, storeCells] at h1
        rw [← h1.2]; exact h''
      | some ad =>
        have hrun := run_append_room (P := Try.prog) W 31 ty 5 i0 Try.underlying31 hi g' l.length c cur hg ad 0 cap [] (by simp) (fun j u hj => by simp at hj) (fun u hu => by simp at hu) hnc (by rw [hs, hz1]; simp; omega)
        rw [show ([] : List UInt8).length = 0 from rfl] at h1
        rw [h1] at hrun
        injection hrun with _ ew
        subst ew
        refine ⟨h''.1, .inr ⟨g', cap2, _, rfl, hb2, setRow_heap W g' cur _ _ _ hg, hn2, hm2, ?_, ?_⟩⟩
        · simp; omega
        · simp only [List.append_nil, List.length_nil, Nat.add_zero, List.take_append_drop]
          exact hx2
    · cases A with
      | none =>
        obtain ⟨_, _, h5, _⟩ := k3 (List.length_pos_iff.2 hm0)
        cases h5
      | some ad =>
        have hcells : ∀ j u, (m.map fun b => Value.int .u8 (bN b))[j]? = some u → W.cell? (ad.add j) = some u := fun j u hj => by
          have hjl : j < m.length := by have := (List.getElem?_eq_some_iff.1 hj).1; simpa using this
          obtain ⟨b, o, hA, _, hc⟩ := k3 (by omega)
          cases hA
          rw [Addr.add_mid, hc j hjl, ← map_at m j hjl, hj]
        have hz3 : (m.map fun b => Value.int .u8 (bN b)).length = m.length * i0.size := by rw [hz1]; simp
        by_cases hroom : l.length + m.length ≤ c
        · have hrun := run_append_room (P := Try.prog) W 31 ty 5 i0 Try.underlying31 hi g' l.length c cur hg ad m.length cap _ hz3 hcells (fun u hu => by obtain ⟨b, _, rfl⟩ := List.mem_map.1 hu; rfl) hroom (by rw [hs, hz1]; simp; omega)
          rw [h1] at hrun
          injection hrun with _ ew
          subst ew
          refine ⟨h''.1, .inr ⟨g', cap2, _, rfl, hb2, setRow_heap W g' cur _ _ _ hg, hn2, hm2, ?_, ?_⟩⟩
          · simp only [List.size_toArray, List.length_append, List.length_take, List.length_drop, Array.length_toList, List.length_map, hz1]
            omega
          · rw [hz1]
            simp only [Nat.mul_one] at hx2 ht ⊢
            have hCl := hC.length_le
            have hl2 := hl''.length_le
            rw [List.length_append] at hCl
            have eC : l ++ m = C.take (l.length + m.length) := by rw [← List.length_append]; exact List.prefix_iff_eq_take.1 hC
            have el : l'' = C.take l''.length := List.prefix_iff_eq_take.1 hl''
            have hx3 : cur.toList.take l''.length = (C.map fun b => Value.int .u8 (bN b)).take l''.length := by rw [hx2, ← List.map_take, ← el]
            have hX3 : l''.length ≤ cur.toList.length := by
              have : l''.length ≤ cur.size := by omega
              simpa using this
            have e2 := app_same cur.toList _ (m.map fun b => Value.int .u8 (bN b)) (C.map fun b => Value.int .u8 (bN b)) l.length m.length l''.length rfl (by rw [ht]; simp) (by simp) (by rw [ht, ← List.map_append, eC, List.map_take]) hx3 hX3 (by simpa using hl2)
            simp only [List.length_map]
            rw [← hx2]
            exact e2
        · have hrun := run_append_grow (P := Try.prog) W 31 ty 5 i0 _ Try.underlying31 hi hz0 ⟨g', 0, none⟩ l.length c _ (by rw [hz1]; exact h.1) (World.ownsRow.cells h (g := g') rfl) ad m.length cap _ hz3 hcells (by omega) (by omega) (growslice_fits (by omega) (by rw [hz2]; omega))
          rw [h1] at hrun
          injection hrun with _ ew
          subst ew
          exact h''.keep (NewT.trans _ _ _ (NewT.drew W) (NewT.alloc _ _))
/-- An empty row that is new. -/
theorem ownB_empty (w : World) : OwnB (w.alloc (.cells #[] 5)) w.heap.size (.slice (some ⟨w.heap.size, 0, none⟩) 0 0) [] :=
  ownsRow_row (rowIs_box w 5 0 (fun _ => undef)) w.heap.size 0 (by omega) (by unfold maxLen; omega) (Nat.le_refl _)
theorem OwnB.mono {W : World} {B B' : Nat} {v : Value} {l : List UInt8} (h : OwnB W B v l) (hB : B' ≤ B) : OwnB W B' v l := by
  obtain ⟨h1, h2⟩ := h
  refine ⟨h1, ?_⟩
  rcases h2 with h2 | ⟨g, c, cur, hv, hb, r⟩
  · exact .inl h2
  · exact .inr ⟨g, c, cur, hv, Nat.le_trans hB hb, r⟩
section
variable {a : Act} {w : World} {o : Oper} {K : Act → World → Prop} {Q : Exit → Act → World → Prop} {x y : Operand} {B : Nat} {C : List UInt8}
/-- An empty slice that is new, with a row of its own. -/
theorem opr_bs0 (hB : B ≤ w.heap.size) (ho : o.op = .buildSlice 31 0 #[]) (h : ∀ v w', AppT B C w w' → (svAp B C []).pred v w' → K (a.put o.dst v) w') : o.wp Try.prog a w K Q := by
  obtain ⟨dst, op, type, pos, after, guard⟩ := o
  simp only at ho
  subst ho
  exact opr_val (s := Instr.buildSlice 31 0 #[]) (by simp [execOp]) (v := .slice (some ⟨w.heap.size, 0, none⟩) 0 0) (w' := w.alloc (.cells #[] 5)) (by simp [go_sem]) (h _ _ (AppT.of_new hB (NewT.alloc _ _)) ⟨List.nil_prefix, (ownB_empty w).mono hB⟩)
/-- An append onto a row of its own. -/
theorem opr_appB {l m : List UInt8} {M : List Nat} (hB : B ≤ w.heap.size) (hC : l ++ m <+: C) (hCl : C.length ≤ 1000000) (ho : o.op = .call { callee := .builtin .append, args := #[x, y], argTypes := #[31, 31] }) (hx : (svAp B C l).pred (a.eval x) w) (hy : RdV w M (a.eval y) m)
    (h : ∀ v w', AppT B C w w' → (svAp B C (l ++ m)).pred v w' → K (a.put o.dst v) w') : o.wp Try.prog a w K Q := by
  obtain ⟨v2, w2, hrun, hO, hT⟩ := run_appB_T hx.2 hy hC (by have := hC.length_le; rw [List.length_append] at this; omega) hB o.type
  exact opr_append ho rfl rfl hrun (h _ _ hT ⟨hC, hO⟩)
end
end Go.Proofs.Ytenmoljaeeeaaaa
/- The reference's disk in memory: its row, the bytes that its fields read as; regions that it goes through. -/
namespace Go.Proofs.Ytenmoljaeeeaaaa
open Go Go.RowKit
set_option maxRecDepth 8000
set_option linter.all false
/-- The reference's disk: bytes that last, bytes that don't yet, how many there is room for. -/
def rdF (vd vl : Value) (z : Nat) (i : Nat) : Value := if i = 0 then vd else if i = 1 then vl else .int .i64 (z : Int)
/-- Block g is the reference's disk; what its fields read as lies outside of g and of M. -/
structure RefAt (w : World) (g : Nat) (M : List Nat) (vd vl : Value) (z : Nat) (D L : List UInt8) : Prop where
  row : w.rowIs g 36 3 (rdF vd vl z)
  done : RdV w (g :: M) vd D
  late : RdV w (g :: M) vl L
  fits : D.length + L.length ≤ 65536
  room : z ≤ 65536
section
variable {a : Act} {w : World} {o : Oper} {K : Act → World → Prop} {Q : Exit → Act → World → Prop} {x y : Operand} {g : Nat}
theorem opr_fldD0 (ho : o.op = .fieldAddr 36 x 0) (hx : a.eval x = .pointer (some ⟨g, 0, none⟩)) (h : K (a.put o.dst (.pointer (some ⟨g, 0, none⟩))) w) : o.wp Try.prog a w K Q :=
  opr_fld Try.underlying36 rfl info_sb1 ho hx (by rfl) h
theorem opr_fldD1 (ho : o.op = .fieldAddr 36 x 1) (hx : a.eval x = .pointer (some ⟨g, 0, none⟩)) (h : K (a.put o.dst (.pointer (some ⟨g, 1, none⟩))) w) : o.wp Try.prog a w K Q :=
  opr_fld Try.underlying36 rfl info_sb1 ho hx (by rfl) h
theorem opr_fldD2 (ho : o.op = .fieldAddr 36 x 2) (hx : a.eval x = .pointer (some ⟨g, 0, none⟩)) (h : K (a.put o.dst (.pointer (some ⟨g, 2, none⟩))) w) : o.wp Try.prog a w K Q :=
  opr_fld Try.underlying36 rfl info_int ho hx (by rfl) h
end
end Go.Proofs.Ytenmoljaeeeaaaa
/- The reference's disk: what its calls do. -/
namespace Go.Proofs.Ytenmoljaeeeaaaa
open Go Go.RowKit
set_option maxRecDepth 8000
set_option linter.all false
set_option maxHeartbeats 1000000 in
theorem RBytes_cv (g : Nat) (M : List Nat) (vd vl : Value) (z : Nat) (D L : List UInt8) (w : World) (h : RefAt w g M vd vl z D L) : Cv 23 #[.pointer (some ⟨g, 0, none⟩)] w (svFr w.heap.size (D ++ L)) := by
  unfold Cv
  have HF := Lib.hid h
  obtain ⟨CC, hCC⟩ := hid_ex (D ++ L)
  have HC1 : Hid ([] ++ D <+: CC) := Lib.hid (by rw [← hCC.out]; simp)
  have HC2 : Hid (([] ++ D) ++ L <+: CC) := Lib.hid (by rw [← hCC.out]; simp)
  have HCl : Hid (CC.length ≤ 1000000) := Lib.hid (by have := h.fits; rw [← hCC.out, List.length_append]; omega)
  clear h
  go_enter Try.func23, Try.ntmps23
  go_upto_region 1 with fail
  refine wp_region_rely (AppT w.heap.size CC) [svAp w.heap.size CC ([]), SV.eq (.pointer (some ⟨g, 0, none⟩)), SV.eq (.pointer (some ⟨g, 0, none⟩)), SV.eq (.pointer (some ⟨g, 0, none⟩)), SV.eq (vd), svAp w.heap.size CC ([] ++ D), SV.eq (.pointer (some ⟨g, 0, none⟩)), SV.eq (.pointer (some ⟨g, 0, none⟩)), SV.eq (.pointer (some ⟨g, 1, none⟩)), SV.eq (vl), svAp w.heap.size CC (([] ++ D) ++ L)] [([], none), ([(0, none)], none), ([(4, some 1)], none), ([(5, some 2)], none), ([(6, some 3)], none), ([(3, some 0), (7, some 4)], none), ([(0, none)], none), ([(9, some 6)], none), ([(10, some 7)], none), ([(11, some 8)], none), ([(8, some 5), (12, some 9)], none)] 14 rfl (by kernel_rfl) rfl (by kernel_rfl) (by kernel_rfl) rfl AppT.trans (AppT.drew _) (Nat.le_of_ble_eq_true rfl) ⟨?_, ?_, ?_, ?_, ?_, ?_, ?_, ?_, ?_, ?_, ?_, trivial⟩ ?_
  · intro a wx hT hF K hK
    refine rely_wp rfl ?_
    exact opr_bs0 hT.below.size rfl hK
  · intro a wx hT hF K hK
    obtain ⟨f0, _⟩ := hF
    have f0 : a.tmps.getD 0 undef = .pointer (some ⟨g, 0, none⟩) := f0
    refine rely_wp rfl ?_
    exact opr_move (.inl rfl) (hK _ _ (AppT.refl _) f0)
  · intro a wx hT hF K hK
    obtain ⟨f4, _⟩ := hF
    have f4 : a.tmps.getD 4 undef = .pointer (some ⟨g, 0, none⟩) := f4
    refine rely_wp rfl ?_
    exact opr_nilc rfl f4 (hK _ _ (AppT.refl _) rfl)
  · intro a wx hT hF K hK
    obtain ⟨f5, _⟩ := hF
    have f5 : a.tmps.getD 5 undef = .pointer (some ⟨g, 0, none⟩) := f5
    refine rely_wp rfl ?_
    exact opr_fldD0 rfl f5 (hK _ _ (AppT.refl _) rfl)
  · intro a wx hT hF K hK
    obtain ⟨f6, _⟩ := hF
    have f6 : a.tmps.getD 6 undef = .pointer (some ⟨g, 0, none⟩) := f6
    refine rely_wp rfl ?_
    exact opr_ldB (NewT.row (NewT.of hT.below) HF.out.row) (by decide) rfl rfl f6 (hK _ _ (AppT.refl _) rfl)
  · intro a wx hT hF K hK
    obtain ⟨f3, f7, _⟩ := hF
    replace f3 := show (svAp w.heap.size CC ([])).pred (a.tmps.getD 3 undef) wx from f3
    have f7 : a.tmps.getD 7 undef = vd := f7
    refine rely_wp rfl ?_
    exact opr_appB (l := []) (m := D) hT.below.size (HC1.out) HCl.out rfl f3 (by rw [eval_tmp, f7]; exact NewT.rd (NewT.of hT.below) HF.out.done) hK
  · intro a wx hT hF K hK
    obtain ⟨f0, _⟩ := hF
    have f0 : a.tmps.getD 0 undef = .pointer (some ⟨g, 0, none⟩) := f0
    refine rely_wp rfl ?_
    exact opr_move (.inl rfl) (hK _ _ (AppT.refl _) f0)
  · intro a wx hT hF K hK
    obtain ⟨f9, _⟩ := hF
    have f9 : a.tmps.getD 9 undef = .pointer (some ⟨g, 0, none⟩) := f9
    refine rely_wp rfl ?_
    exact opr_nilc rfl f9 (hK _ _ (AppT.refl _) rfl)
  · intro a wx hT hF K hK
    obtain ⟨f10, _⟩ := hF
    have f10 : a.tmps.getD 10 undef = .pointer (some ⟨g, 0, none⟩) := f10
    refine rely_wp rfl ?_
    exact opr_fldD1 rfl f10 (hK _ _ (AppT.refl _) rfl)
  · intro a wx hT hF K hK
    obtain ⟨f11, _⟩ := hF
    have f11 : a.tmps.getD 11 undef = .pointer (some ⟨g, 1, none⟩) := f11
    refine rely_wp rfl ?_
    exact opr_ldB (NewT.row (NewT.of hT.below) HF.out.row) (by decide) rfl rfl f11 (hK _ _ (AppT.refl _) rfl)
  · intro a wx hT hF K hK
    obtain ⟨f8, f12, _⟩ := hF
    replace f8 := show (svAp w.heap.size CC ([] ++ D)).pred (a.tmps.getD 8 undef) wx from f8
    have f12 : a.tmps.getD 12 undef = vl := f12
    refine rely_wp rfl ?_
    exact opr_appB (l := ([] ++ D)) (m := L) hT.below.size (HC2.out) HCl.out rfl f8 (by rw [eval_tmp, f12]; exact NewT.rd (NewT.of hT.below) HF.out.late) hK
  · intro wx hT
    intro _ _
    intro u h; obtain rfl := Eq.symm (h (by simp)); clear h
    intro u h; obtain rfl := Eq.symm (h (by simp)); clear h
    intro u h; obtain rfl := Eq.symm (h (by simp)); clear h
    intro u h; obtain rfl := Eq.symm (h (by simp)); clear h
    intro _ _
    intro u h; obtain rfl := Eq.symm (h (by simp)); clear h
    intro u h; obtain rfl := Eq.symm (h (by simp)); clear h
    intro u h; obtain rfl := Eq.symm (h (by simp)); clear h
    intro u h; obtain rfl := Eq.symm (h (by simp)); clear h
    intro u13 h; have g13 := h (by simp); clear h; replace g13 := show (svAp w.heap.size CC (([] ++ D) ++ L)).pred u13 wx from g13
    refine relyEnd_nil rfl ?_
    simp only [Act.put, List.setIfInBounds_toArray, List.set_cons_zero, List.set_cons_succ]
    refine opr_move (.inr rfl) ?_
    go_simp
    go_wp2
    go_ret
    refine ⟨_, rfl, NewT.of hT.below, ?_⟩
    have := OwnB.fresh g13.2
    rw [List.nil_append] at this
    exact this
set_option maxHeartbeats 1000000 in
theorem RSync_c (g : Nat) (M : List Nat) (vd vl : Value) (z : Nat) (D L : List UInt8) (w : World) (h : RefAt w g M vd vl z D L) (hM : ∀ k ∈ g :: M, k < w.heap.size) : Calls Try.prog 19 #[.pointer (some ⟨g, 0, none⟩)] w fun e w' => e = .returned (.tuple #[]) ∧ ∃ vd', RT g w w' ∧ RefAt w' g M vd' (.slice none 0 0) z (D ++ L) [] := by
  have HF := Lib.hid h
  have HM := Lib.hid hM
  obtain ⟨CC, hCC⟩ := hid_ex (D ++ L)
  have HC1 : Hid ([] ++ D <+: CC) := Lib.hid (by rw [← hCC.out]; simp)
  have HC2 : Hid (([] ++ D) ++ L <+: CC) := Lib.hid (by rw [← hCC.out]; simp)
  have HCl : Hid (CC.length ≤ 1000000) := Lib.hid (by have := h.fits; rw [← hCC.out, List.length_append]; omega)
  clear h hM
  go_enter Try.func19, Try.ntmps19
  go_upto_region 0 with fail
  refine wp_region_rely (AppT w.heap.size CC) [SV.eq (.pointer (some ⟨g, 0, none⟩)), svAp w.heap.size CC ([]), SV.eq (.pointer (some ⟨g, 0, none⟩)), SV.eq (.pointer (some ⟨g, 0, none⟩)), SV.eq (.pointer (some ⟨g, 0, none⟩)), SV.eq (vd), svAp w.heap.size CC ([] ++ D), SV.eq (.pointer (some ⟨g, 0, none⟩)), SV.eq (.pointer (some ⟨g, 0, none⟩)), SV.eq (.pointer (some ⟨g, 1, none⟩)), SV.eq (vl), svAp w.heap.size CC (([] ++ D) ++ L), SV.eq (.pointer (some ⟨g, 0, none⟩)), SV.eq (.pointer (some ⟨g, 0, none⟩))] [([(0, none)], none), ([], none), ([(0, none)], none), ([(4, some 2)], none), ([(5, some 3)], none), ([(6, some 4)], none), ([(3, some 1), (7, some 5)], none), ([(0, none)], none), ([(9, some 7)], none), ([(10, some 8)], none), ([(11, some 9)], none), ([(8, some 6), (12, some 10)], none), ([(2, some 0)], none), ([(14, some 12)], none)] 19 rfl (by kernel_rfl) rfl (by kernel_rfl) (by kernel_rfl) rfl AppT.trans (AppT.drew _) (Nat.le_of_ble_eq_true rfl) ⟨?_, ?_, ?_, ?_, ?_, ?_, ?_, ?_, ?_, ?_, ?_, ?_, ?_, ?_, trivial⟩ ?_
  · intro a wx hT hF K hK
    obtain ⟨f0, _⟩ := hF
    have f0 : a.tmps.getD 0 undef = .pointer (some ⟨g, 0, none⟩) := f0
    refine rely_wp rfl ?_
    exact opr_move (.inl rfl) (hK _ _ (AppT.refl _) f0)
  · intro a wx hT hF K hK
    refine rely_wp rfl ?_
    exact opr_bs0 hT.below.size rfl hK
  · intro a wx hT hF K hK
    obtain ⟨f0, _⟩ := hF
    have f0 : a.tmps.getD 0 undef = .pointer (some ⟨g, 0, none⟩) := f0
    refine rely_wp rfl ?_
    exact opr_move (.inl rfl) (hK _ _ (AppT.refl _) f0)
  · intro a wx hT hF K hK
    obtain ⟨f4, _⟩ := hF
    have f4 : a.tmps.getD 4 undef = .pointer (some ⟨g, 0, none⟩) := f4
    refine rely_wp rfl ?_
    exact opr_nilc rfl f4 (hK _ _ (AppT.refl _) rfl)
  · intro a wx hT hF K hK
    obtain ⟨f5, _⟩ := hF
    have f5 : a.tmps.getD 5 undef = .pointer (some ⟨g, 0, none⟩) := f5
    refine rely_wp rfl ?_
    exact opr_fldD0 rfl f5 (hK _ _ (AppT.refl _) rfl)
  · intro a wx hT hF K hK
    obtain ⟨f6, _⟩ := hF
    have f6 : a.tmps.getD 6 undef = .pointer (some ⟨g, 0, none⟩) := f6
    refine rely_wp rfl ?_
    exact opr_ldB (NewT.row (NewT.of hT.below) HF.out.row) (by decide) rfl rfl f6 (hK _ _ (AppT.refl _) rfl)
  · intro a wx hT hF K hK
    obtain ⟨f3, f7, _⟩ := hF
    replace f3 := show (svAp w.heap.size CC ([])).pred (a.tmps.getD 3 undef) wx from f3
    have f7 : a.tmps.getD 7 undef = vd := f7
    refine rely_wp rfl ?_
    exact opr_appB (l := []) (m := D) hT.below.size (HC1.out) HCl.out rfl f3 (by rw [eval_tmp, f7]; exact NewT.rd (NewT.of hT.below) HF.out.done) hK
  · intro a wx hT hF K hK
    obtain ⟨f0, _⟩ := hF
    have f0 : a.tmps.getD 0 undef = .pointer (some ⟨g, 0, none⟩) := f0
    refine rely_wp rfl ?_
    exact opr_move (.inl rfl) (hK _ _ (AppT.refl _) f0)
  · intro a wx hT hF K hK
    obtain ⟨f9, _⟩ := hF
    have f9 : a.tmps.getD 9 undef = .pointer (some ⟨g, 0, none⟩) := f9
    refine rely_wp rfl ?_
    exact opr_nilc rfl f9 (hK _ _ (AppT.refl _) rfl)
  · intro a wx hT hF K hK
    obtain ⟨f10, _⟩ := hF
    have f10 : a.tmps.getD 10 undef = .pointer (some ⟨g, 0, none⟩) := f10
    refine rely_wp rfl ?_
    exact opr_fldD1 rfl f10 (hK _ _ (AppT.refl _) rfl)
  · intro a wx hT hF K hK
    obtain ⟨f11, _⟩ := hF
    have f11 : a.tmps.getD 11 undef = .pointer (some ⟨g, 1, none⟩) := f11
    refine rely_wp rfl ?_
    exact opr_ldB (NewT.row (NewT.of hT.below) HF.out.row) (by decide) rfl rfl f11 (hK _ _ (AppT.refl _) rfl)
  · intro a wx hT hF K hK
    obtain ⟨f8, f12, _⟩ := hF
    replace f8 := show (svAp w.heap.size CC ([] ++ D)).pred (a.tmps.getD 8 undef) wx from f8
    have f12 : a.tmps.getD 12 undef = vl := f12
    refine rely_wp rfl ?_
    exact opr_appB (l := ([] ++ D)) (m := L) hT.below.size (HC2.out) HCl.out rfl f8 (by rw [eval_tmp, f12]; exact NewT.rd (NewT.of hT.below) HF.out.late) hK
  · intro a wx hT hF K hK
    obtain ⟨f2, _⟩ := hF
    have f2 : a.tmps.getD 2 undef = .pointer (some ⟨g, 0, none⟩) := f2
    refine rely_wp rfl ?_
    exact opr_nilc rfl f2 (hK _ _ (AppT.refl _) rfl)
  · intro a wx hT hF K hK
    obtain ⟨f14, _⟩ := hF
    have f14 : a.tmps.getD 14 undef = .pointer (some ⟨g, 0, none⟩) := f14
    refine rely_wp rfl ?_
    exact opr_fldD0 rfl f14 (hK _ _ (AppT.refl _) rfl)
  · intro w5 k5
    intro u h; obtain rfl := Eq.symm (h (by simp)); clear h
    intro _ _
    intro u h; obtain rfl := Eq.symm (h (by simp)); clear h
    intro u h; obtain rfl := Eq.symm (h (by simp)); clear h
    intro u h; obtain rfl := Eq.symm (h (by simp)); clear h
    intro u h; obtain rfl := Eq.symm (h (by simp)); clear h
    intro _ _
    intro u h; obtain rfl := Eq.symm (h (by simp)); clear h
    intro u h; obtain rfl := Eq.symm (h (by simp)); clear h
    intro u h; obtain rfl := Eq.symm (h (by simp)); clear h
    intro u h; obtain rfl := Eq.symm (h (by simp)); clear h
    intro u13 h; have g13 := h (by simp); clear h; replace g13 := show (svAp w.heap.size CC (([] ++ D) ++ L)).pred u13 w5 from g13
    intro u h; obtain rfl := Eq.symm (h (by simp)); clear h
    intro u h; obtain rfl := Eq.symm (h (by simp)); clear h
    refine relyEnd_nil rfl ?_
    simp only [Act.put, List.setIfInBounds_toArray, List.set_cons_zero, List.set_cons_succ]
    refine opr_put1 (v := u13) (F := rdF u13 vl z) rfl rfl rfl ((NewT.of k5.below).row HF.out.row) (by decide) info_sb1 g13.2.one (fun i hi => by simp only [rdF]; split <;> simp_all) ?_
    intro w6 hR6 r6
    have c1 := r6.cell (i := 1) (by omega)
    have f1 := r6.frozen 1
    have E13 := Lib.hid g13
    clear g13
    go_simp
    go_wp2
    go_end0
    have hg := HM.out g (by simp)
    have hR : RT g w w6 := RT.trans _ _ _ (RT.new hg (NewT.of k5.below)) hR6
    have hR7 := RT.setCell (R := g) w6 1 (Value.slice none 0 0)
    have hfr := OwnB.fresh E13.out.2
    rw [List.nil_append] at hfr
    refine ⟨rfl, RT.trans _ _ _ hR hR7, u13, (r6.set 1 _).congr fun i hi => ?_, ?_, rdV_nil _ _, by simpa using HF.out.fits, HF.out.room⟩
    · have : i = 0 ∨ i = 1 ∨ i = 2 := by omega
      rcases this with rfl | rfl | rfl <;> simp [rdF]
    · exact ((hfr.rdL HM.out).keep ((hR6.keep.trans hR7.keep).more (by simp)))
end Go.Proofs.Ytenmoljaeeeaaaa
/- DiskSynced, walked. -/
namespace Go.Proofs.Ytenmoljaeeeaaaa
open Go Go.RowKit
set_option maxRecDepth 8000
set_option linter.all false
theorem crashN_all (keep : Int) (n : Nat) : crashN keep n n = n := by unfold crashN; omega
/-- A crash of a disk that is synced. -/
theorem Crash_all (g : Nat) (v : Value) (room : Nat) (S : List UInt8) (keep : Int) (w : World) (h : DiskAt w g v room S S.length) : Calls Try.prog 12 #[.pointer (some ⟨g, 0, none⟩), .int .i64 keep] w fun e w' => e = .returned (.tuple #[]) ∧ ∃ v', DStep g v w w' v' ∧ DiskAt w' g v' room S S.length := by
  refine (Crash_c g v room S S.length keep w h).mono ?_
  rintro e w' ⟨rfl, v', hD, hA⟩
  rw [crashN_all, List.take_length] at hA
  exact ⟨rfl, v', hD, hA⟩
set_option maxHeartbeats 4000000 in
theorem DiskSynced_walk (room : Int) (v1 : Value) (l1 : List UInt8) (v2 : Value) (l2 : List UInt8) (keep : Int) (w : World) (h1 : RdV w [] v1 l1) (h2 : RdV w [] v2 l2) : Calls Try.prog 7 #[.int .i64 room, v1, v2, .int .i64 keep] w fun e w' => e = .returned (.bool true) ∧ Below w.heap.size w w' := by
  have R1 := Lib.hid h1
  have R2 := Lib.hid h2
  obtain ⟨A1, c1, rfl, _⟩ := h1
  obtain ⟨A2, c2, rfl, _⟩ := h2
  by_cases g1 : 300 < (l1.length : Int)
  · go_enter Try.func7, Try.ntmps7
    go_wp2_with (go_at_call 8; refine (alive8_c w).eq.mono ?_; rintro _ w1 ⟨rfl, hN1⟩)
    go_ret
    exact ⟨rfl, hN1⟩
  by_cases g2 : 300 < (l2.length : Int)
  · go_enter Try.func7, Try.ntmps7
    go_wp2_with (go_at_call 8; refine (alive8_c w).eq.mono ?_; rintro _ w1 ⟨rfl, hN1⟩)
    go_ret
    exact ⟨rfl, hN1⟩
  by_cases g3 : room < 600
  · go_enter Try.func7, Try.ntmps7
    go_wp2_with (go_at_call 8; refine (alive8_c w).eq.mono ?_; rintro _ w1 ⟨rfl, hN1⟩)
    go_ret
    exact ⟨rfl, hN1⟩
  by_cases g4 : 65536 < room
  · go_enter Try.func7, Try.ntmps7
    go_wp2_with (go_at_call 8; refine (alive8_c w).eq.mono ?_; rintro _ w1 ⟨rfl, hN1⟩)
    go_ret
    exact ⟨rfl, hN1⟩
  obtain ⟨r, rfl⟩ : ∃ r : Nat, room = r := ⟨room.toNat, by omega⟩
  have hsum : (l1.length : Int) + (l2.length : Int) = ((l1 ++ l2).length : Int) := by simp
  have hwr : IntKind.i64.wrap ((l1 ++ l2).length : Int) = ((l1 ++ l2).length : Int) := IntWalk.i64_in _ (by rw [← hsum]; omega)
  have b1 : l1.length ≤ (l1 ++ l2).length := by simp
  have bnd : Hid ((l1 ++ l2).length ≤ r ∧ 600 ≤ r ∧ r ≤ 65536 ∧ l1.length ≤ 300 ∧ l2.length ≤ 300) := Lib.hid (by simp; omega)
  have B1 := Lib.hid b1
  clear b1
  obtain ⟨S, hS⟩ := hid_ex (l1 ++ l2)
  rw [hS.out] at hsum hwr bnd B1
  generalize hm : S.length = m at *
  have Hm := Lib.hid hm
  clear hm
  have t1 : Hid True := Lib.hid trivial
  have s1 : Hid True := Lib.hid trivial
  have x1 : Hid True := Lib.hid trivial
  go_enter Try.func7, Try.ntmps7
  go_wp2_with (first
    | (go_at_call 8; refine (alive8_c w).eq.mono ?_; rintro _ w1 ⟨rfl, hN1⟩; have N1 : Hid (NewT w w1) := Lib.hid hN1; have Q1 := Lib.hid hN1.size; clear hN1)
    | (go_at_call 10; refine (New_c r (by have := bnd.out; omega) (by have := bnd.out; omega) w1).mono ?_; rintro _ w2 ⟨rfl, hN, hD⟩; have H2 := Lib.hid hD; have N2 := Lib.hid (NewT.trans _ _ _ N1.out hN); clear hN hD)
    | (go_at_call 13; clear t1; refine (Write_ok _ _ r [] 0 _ l1 _ H2.out (N2.out.rd R1.out) (by have := bnd.out; simp; omega)).mono ?_; rintro _ w3 ⟨rfl, v3, hD, hA⟩; have H3 : Hid (DiskAt w3 w1.heap.size v3 r l1 0) := Lib.hid hA; have N3 := Lib.hid (hD.newT N2.out Q1.out); clear hD hA)
    | (go_at_call 13; refine (Write_ok _ _ r l1 0 _ l2 _ H3.out (N3.out.rd R2.out) (by have := bnd.out; omega)).mono ?_; rintro _ w4 ⟨rfl, v4, hD, hA⟩; rw [hS.out] at hA; have H4 := Lib.hid hA; have N4 := Lib.hid (hD.newT N3.out Q1.out); clear hD hA)
    | (go_at_call 11; refine (Sync_c _ _ r S 0 _ H4.out).mono ?_; rintro _ w5 ⟨rfl, v5, hD, hA⟩; have H5 := Lib.hid hA; have N5 := Lib.hid (hD.newT N4.out Q1.out); clear hD hA)
    | (go_at_call 12; clear s1; refine (Crash_all _ _ r S keep _ H5.out).mono ?_; rintro _ w6 ⟨rfl, v6, hD, hA⟩; have H6 := Lib.hid hA; have N6 := Lib.hid (hD.newT N5.out Q1.out); clear hD hA)
    | (go_at_call 15; clear x1; refine Calls.mono (DBytes_c _ _ r S _ _ H6.out) ?_; rintro _ w7 ⟨v7, rfl, hN, hv⟩; obtain ⟨A7, c7, rfl⟩ := rdV_form (FreshB.rd hv); rw [Hm.out]; have H7 := Lib.hid (H6.out.new hN); have N7 := Lib.hid (NewT.trans _ _ _ N6.out hN); clear hN hv)
    | (go_at_call 14; refine (Cut_ok _ _ r S _ l1.length _ H7.out (by rw [Hm.out]; exact B1.out)).mono ?_; rintro _ w8 ⟨rfl, v8, hD, hA⟩; rw [← hS.out, List.take_left] at hA; have H8 := Lib.hid hA; have N8 := Lib.hid (hD.newT N7.out Q1.out); clear hD hA)
    | (go_at_call 12; refine (Crash_all _ _ r l1 keep _ H8.out).mono ?_; rintro _ w9 ⟨rfl, v9, hD, hA⟩; have H9 := Lib.hid hA; have N9 := Lib.hid (hD.newT N8.out Q1.out); clear hD hA)
    | (go_at_call 15; refine Calls.mono (DBytes_c _ _ r l1 _ _ H9.out) ?_; rintro _ wa ⟨va, rfl, hN, hv⟩; have HA := Lib.hid (H9.out.new hN); have NA := Lib.hid (NewT.trans _ _ _ N9.out hN); have VA := Lib.hid (FreshB.rd hv); clear hN hv)
    | (go_at_call 22; refine (Bytes_cv _ _ l1 l1 _ VA.out (NA.out.rd R1.out) (by have := bnd.out; omega) (by have := bnd.out; omega)).eq.mono ?_; rintro _ wb ⟨rfl, hN⟩; have HB := Lib.hid (HA.out.new hN); have NB := Lib.hid (NewT.trans _ _ _ NA.out hN); clear hN; have dt : decide (l1 = l1) = true := by simp)
    | (go_at_call 16; refine (Lasts_c _ _ r _ _ _ HB.out).eq.mono ?_; rintro _ wc ⟨rfl, hN⟩; have NC := Lib.hid (NewT.trans _ _ _ NB.out hN); clear hN))
  go_ret
  exact ⟨rfl, NC.out⟩
end Go.Proofs.Ytenmoljaeeeaaaa
/- DiskKeeps, walked. -/
namespace Go.Proofs.Ytenmoljaeeeaaaa
open Go Go.RowKit
set_option maxRecDepth 8000
set_option linter.all false
/-- A slice's beginning. -/
theorem rd_begin {w : World} {L : List Nat} {A : Option Addr} {n cap m : Nat} {l : List UInt8} (h : RdV w L (.slice A n cap) l) (hm : m ≤ l.length) : RdV w L (.slice A m cap) (l.take m) := by
  obtain ⟨A', c', hv, h1, h2, h3⟩ := h
  cases hv
  have hl : (l.take m).length = m := by rw [List.length_take]; omega
  refine ⟨A, cap, by rw [hl], by omega, h2, fun h0 => ?_⟩
  obtain ⟨b, o, hA, hb, hc⟩ := h3 (by omega)
  refine ⟨b, o, hA, hb, fun i hi => ?_⟩
  rw [hc i (by omega)]
  simp [bAt, List.getElem?_take, show i < m by omega]
theorem rd_cap {w : World} {L : List Nat} {A : Option Addr} {n c : Nat} {l : List UInt8} (h : RdV w L (.slice A n c) l) : l.length ≤ c := by
  obtain ⟨A', c', hv, h1, _⟩ := h
  cases hv; exact h1
/-- What is new lies beside the disk. -/
theorem DiskAt.beside {w w' : World} {g : Nat} {v : Value} {room : Nat} {S : List UInt8} {n : Nat} (h : DiskAt w g v room S n) {u : Value} {l : List UInt8} (hf : FreshB w.heap.size w' u l) : RdV w' (g :: v.ownBlock.toList) u l :=
  hf.rdL fun k hk => by
    rcases List.mem_cons.1 hk with rfl | hk
    · exact h.lt
    · exact (h.own.lt k (by simpa using hk)).2
theorem rd_any {w : World} {L : List Nat} {u : Value} {l : List UInt8} (h : RdV w L u l) : RdV w [] u l := h.more fun _ _ _ => by simp
set_option maxHeartbeats 1000000 in
theorem DiskKeeps_walk (room : Int) (v1 : Value) (l1 : List UInt8) (v2 : Value) (l2 : List UInt8) (keep : Int) (w : World) (h1 : RdV w [] v1 l1) (h2 : RdV w [] v2 l2) : Calls Try.prog 4 #[.int .i64 room, v1, v2, .int .i64 keep] w fun e w' => e = .returned (.bool true) ∧ Below w.heap.size w w' := by
  have R1 := Lib.hid h1
  have R2 := Lib.hid h2
  obtain ⟨A1, c1, rfl, _⟩ := h1
  obtain ⟨A2, c2, rfl, _⟩ := h2
  by_cases g1 : 300 < (l1.length : Int)
  · go_enter Try.func4, Try.ntmps4
    go_wp2_with (go_at_call 8; refine (alive8_c w).eq.mono ?_; rintro _ w1 ⟨rfl, hN1⟩)
    go_ret
    exact ⟨rfl, hN1⟩
  by_cases g2 : 300 < (l2.length : Int)
  · go_enter Try.func4, Try.ntmps4
    go_wp2_with (go_at_call 8; refine (alive8_c w).eq.mono ?_; rintro _ w1 ⟨rfl, hN1⟩)
    go_ret
    exact ⟨rfl, hN1⟩
  by_cases g3 : room < 1
  · go_enter Try.func4, Try.ntmps4
    go_wp2_with (go_at_call 8; refine (alive8_c w).eq.mono ?_; rintro _ w1 ⟨rfl, hN1⟩)
    go_ret
    exact ⟨rfl, hN1⟩
  by_cases g4 : 65536 < room
  · go_enter Try.func4, Try.ntmps4
    go_wp2_with (go_at_call 8; refine (alive8_c w).eq.mono ?_; rintro _ w1 ⟨rfl, hN1⟩)
    go_ret
    exact ⟨rfl, hN1⟩
  obtain ⟨r, rfl⟩ : ∃ r : Nat, room = r := ⟨room.toNat, by omega⟩
  have bnd : Hid (1 ≤ r ∧ r ≤ 65536 ∧ l1.length ≤ 300 ∧ l2.length ≤ 300) := Lib.hid (by omega)
  by_cases hfit : l1.length ≤ r
  case neg =>
    have i5 : (r : Int) < (l1.length : Int) := by omega
    go_enter Try.func4, Try.ntmps4
    go_wp2_with (first
      | (go_at_call 8; refine (alive8_c w).eq.mono ?_; rintro _ w1 ⟨rfl, hN1⟩; have N1 : Hid (NewT w w1) := Lib.hid hN1; clear hN1)
      | (go_at_call 10; refine (New_c r (by have := bnd.out; omega) (by have := bnd.out; omega) w1).mono ?_; rintro _ w2 ⟨rfl, hN, hD⟩; have H2 := Lib.hid hD; have N2 := Lib.hid (NewT.trans _ _ _ N1.out hN); clear hN hD)
      | (go_at_call 13; refine (Write_full _ _ r [] 0 _ l1 _ H2.out (N2.out.rd R1.out) (by simp; omega)).eq.mono ?_; rintro _ w3 ⟨rfl, hN⟩; have N3 := Lib.hid (NewT.trans _ _ _ N2.out hN); clear hN))
    go_ret
    exact ⟨rfl, N3.out⟩
  have i5 : ¬ (r : Int) < (l1.length : Int) := by omega
  by_cases hlate : l1.length + l2.length ≤ r
  · have bnd2 := Lib.hid hlate
    clear hlate
    replace bnd : Hid (1 ≤ r ∧ r ≤ 65536 ∧ l1.length ≤ 300 ∧ l2.length ≤ 300 ∧ l1.length ≤ r ∧ l1.length + l2.length ≤ r) := Lib.hid (by have := bnd.out; have := bnd2.out; omega)
    clear bnd2 hfit
    obtain ⟨S, hS⟩ := hid_ex (l1 ++ l2)
    have hb1 : l1.length ≤ S.length := by rw [← hS.out]; simp
    obtain ⟨k, hk⟩ := hid_ex (crashN keep l1.length S.length)
    have k1 : l1.length ≤ k := by rw [← hk.out]; exact crashN_ge _ _ _
    have k2 : k ≤ S.length := by rw [← hk.out]; exact crashN_le _ _ _ hb1
    obtain ⟨T, hT⟩ := hid_ex (S.take k)
    have HT : Hid (T.length = k) := Lib.hid (by rw [← hT.out, List.length_take]; omega)
    have K3 : Hid (k ≤ 600) := Lib.hid (by have := bnd.out; have : S.length ≤ 600 := by rw [← hS.out]; simp; omega
                                           omega)
    have i7 : ¬ (k : Int) < (l1.length : Int) := by omega
    have K := Lib.hid (And.intro k1 k2)
    clear k1 k2 hb1
    obtain ⟨m, Hm⟩ := hid_ex S.length
    have i8 : ¬ (m : Int) < (k : Int) := by have := K.out.2; have := Hm.out; omega
    have t1 : Hid True := Lib.hid trivial
    have t2 : Hid True := Lib.hid trivial
    have s1 : Hid True := Lib.hid trivial
    have x1 : Hid True := Lib.hid trivial
    have y1 : Hid True := Lib.hid trivial
    go_enter Try.func4, Try.ntmps4
    go_wp2_with (first
      | (go_at_call 8; refine (alive8_c w).eq.mono ?_; rintro _ w1 ⟨rfl, hN1⟩; have N1 : Hid (NewT w w1) := Lib.hid hN1; have Q1 := Lib.hid hN1.size; clear hN1)
      | (go_at_call 10; refine (New_c r (by have := bnd.out; omega) (by have := bnd.out; omega) w1).mono ?_; rintro _ w2 ⟨rfl, hN, hD⟩; have H2 := Lib.hid hD; have N2 := Lib.hid (NewT.trans _ _ _ N1.out hN); clear hN hD)
      | (go_at_call 13; clear t1; refine (Write_ok _ _ r [] 0 _ l1 _ H2.out (N2.out.rd R1.out) (by have := bnd.out; simp; omega)).mono ?_; rintro _ w3 ⟨rfl, v3, hD, hA⟩; have H3 : Hid (DiskAt w3 w1.heap.size v3 r l1 0) := Lib.hid hA; have N3 := Lib.hid (hD.newT N2.out Q1.out); clear hD hA)
      | (go_at_call 11; refine (Sync_c _ _ r l1 0 _ H3.out).mono ?_; rintro _ w4 ⟨rfl, v4, hD, hA⟩; have H4 := Lib.hid hA; have N4 := Lib.hid (hD.newT N3.out Q1.out); clear hD hA)
      | (go_at_call 13; refine (Write_ok _ _ r l1 _ _ l2 _ H4.out (N4.out.rd R2.out) (by have := bnd.out; omega)).mono ?_; rintro _ w5 ⟨rfl, v5, hD, hA⟩; rw [hS.out] at hA; have H5 := Lib.hid hA; have N5 := Lib.hid (hD.newT N4.out Q1.out); clear hD hA)
      | (go_at_call 15; clear x1; refine Calls.mono (DBytes_c _ _ r S _ _ H5.out) ?_; rintro _ w6 ⟨v6, rfl, hN, hv⟩; have V6 := Lib.hid (H5.out.beside hv); obtain ⟨A6, c6, rfl⟩ := rdV_form V6.out; have cc6 : k ≤ c6 := Nat.le_trans K.out.2 (rd_cap V6.out); have hs := slice_to A6 S.length c6 k cc6; rw [Hm.out] at hs V6 ⊢; clear cc6; have H6 := Lib.hid (H5.out.new hN); have N6 := Lib.hid (NewT.trans _ _ _ N5.out hN); clear hN hv)
      | (go_at_call 12; clear s1; refine (Crash_c _ _ r S _ keep _ H6.out).mono ?_; rintro _ w7 ⟨rfl, v7, hD, hA⟩; rw [hk.out, hT.out] at hA; have H7 := Lib.hid hA; have N7 := Lib.hid (hD.newT N6.out Q1.out); have V7 := Lib.hid (hD.rd V6.out); clear hD hA)
      | (go_at_call 15; clear y1; refine Calls.mono (DBytes_c _ _ r T _ _ H7.out) ?_; rintro _ w8 ⟨v8, rfl, hN, hv⟩; have U8 := Lib.hid (H7.out.beside hv); obtain ⟨A8, c8, rfl⟩ := rdV_form U8.out; rw [HT.out] at U8 ⊢; have V8 := Lib.hid (NewT.rd hN V7.out); have H8 := Lib.hid (H7.out.new hN); have N8 := Lib.hid (NewT.trans _ _ _ N7.out hN); clear hN hv)
      | (go_at_call 22; clear t2; refine (Bytes_cv _ _ T T _ (rd_any U8.out) (by have := rd_begin (m := k) (rd_any V8.out) K.out.2; rw [hT.out] at this; exact this) (by have := bnd.out; have := K3.out; rw [HT.out]; omega) (by have := bnd.out; have := K3.out; rw [HT.out]; omega)).eq.mono ?_; rintro _ w9 ⟨rfl, hN⟩; have H9 := Lib.hid (H8.out.new hN); have N9 := Lib.hid (NewT.trans _ _ _ N8.out hN); have U9 := Lib.hid (NewT.rd hN U8.out); clear hN; have dt : decide (T = T) = true := by simp)
      | (go_at_call 16; refine (Lasts_c _ _ r _ _ _ H9.out).eq.mono ?_; rintro _ wa ⟨rfl, hN⟩; have HA := Lib.hid (H9.out.new hN); have NA := Lib.hid (NewT.trans _ _ _ N9.out hN); have UA := Lib.hid (NewT.rd hN U9.out); clear hN)
      | (go_at_call 12; refine (Crash_all _ _ r T 9 _ (by have := HA.out; rw [HT.out]; exact this)).mono ?_; rintro _ wb ⟨rfl, vb, hD, hA⟩; have HB := Lib.hid hA; have NB := Lib.hid (hD.newT NA.out Q1.out); have UB := Lib.hid (hD.rd UA.out); clear hD hA)
      | (go_at_call 15; refine Calls.mono (DBytes_c _ _ r T _ _ HB.out) ?_; rintro _ wc ⟨vc, rfl, hN, hv⟩; have VC := Lib.hid (FreshB.rd hv); have NC := Lib.hid (NewT.trans _ _ _ NB.out hN); have UC := Lib.hid (NewT.rd hN UB.out); clear hN hv)
      | (go_at_call 22; refine (Bytes_cv _ _ T T _ VC.out (rd_any UC.out) (by have := bnd.out; have := K3.out; rw [HT.out]; omega) (by have := bnd.out; have := K3.out; rw [HT.out]; omega)).eq.mono ?_; rintro _ wd ⟨rfl, hN⟩; have ND := Lib.hid (NewT.trans _ _ _ NC.out hN); clear hN; have dt : decide (T = T) = true := by simp))
    go_ret
    exact ⟨rfl, ND.out⟩
  · have bnd2 := Lib.hid hlate
    clear hlate
    replace bnd : Hid (1 ≤ r ∧ r ≤ 65536 ∧ l1.length ≤ 300 ∧ l2.length ≤ 300 ∧ l1.length ≤ r ∧ r < l1.length + l2.length) := Lib.hid (by have := bnd.out; have := bnd2.out; omega)
    clear bnd2 hfit
    obtain ⟨S, hS⟩ := hid_ex (l1)
    have hb1 : l1.length ≤ S.length := by rw [← hS.out]; exact Nat.le_refl _
    obtain ⟨k, hk⟩ := hid_ex (crashN keep l1.length S.length)
    have k1 : l1.length ≤ k := by rw [← hk.out]; exact crashN_ge _ _ _
    have k2 : k ≤ S.length := by rw [← hk.out]; exact crashN_le _ _ _ hb1
    obtain ⟨T, hT⟩ := hid_ex (S.take k)
    have HT : Hid (T.length = k) := Lib.hid (by rw [← hT.out, List.length_take]; omega)
    have K3 : Hid (k ≤ 600) := Lib.hid (by have := bnd.out; have : S.length ≤ 600 := by rw [← hS.out]; omega
                                           omega)
    have i7 : ¬ (k : Int) < (l1.length : Int) := by omega
    have k3 : k = l1.length := by rw [← hk.out, ← hS.out, crashN_all]
    have K := Lib.hid (And.intro k1 k2)
    clear k1 k2 hb1
    obtain ⟨m, Hm⟩ := hid_ex S.length
    have i8 : ¬ (m : Int) < (k : Int) := by have := K.out.2; have := Hm.out; omega
    have I9 : Hid ((k : Int) = (l1.length : Int)) := Lib.hid (by rw [k3])
    clear k3
    have t1 : Hid True := Lib.hid trivial
    have t2 : Hid True := Lib.hid trivial
    have s1 : Hid True := Lib.hid trivial
    have x1 : Hid True := Lib.hid trivial
    have y1 : Hid True := Lib.hid trivial
    go_enter Try.func4, Try.ntmps4
    go_wp2_with (first
      | (go_at_call 8; refine (alive8_c w).eq.mono ?_; rintro _ w1 ⟨rfl, hN1⟩; have N1 : Hid (NewT w w1) := Lib.hid hN1; have Q1 := Lib.hid hN1.size; clear hN1)
      | (go_at_call 10; refine (New_c r (by have := bnd.out; omega) (by have := bnd.out; omega) w1).mono ?_; rintro _ w2 ⟨rfl, hN, hD⟩; have H2 := Lib.hid hD; have N2 := Lib.hid (NewT.trans _ _ _ N1.out hN); clear hN hD)
      | (go_at_call 13; clear t1; refine (Write_ok _ _ r [] 0 _ l1 _ H2.out (N2.out.rd R1.out) (by have := bnd.out; simp; omega)).mono ?_; rintro _ w3 ⟨rfl, v3, hD, hA⟩; have H3 : Hid (DiskAt w3 w1.heap.size v3 r l1 0) := Lib.hid hA; have N3 := Lib.hid (hD.newT N2.out Q1.out); clear hD hA)
      | (go_at_call 11; refine (Sync_c _ _ r l1 0 _ H3.out).mono ?_; rintro _ w4 ⟨rfl, v4, hD, hA⟩; have H4 := Lib.hid hA; have N4 := Lib.hid (hD.newT N3.out Q1.out); clear hD hA)
      | (go_at_call 13; refine (Write_full _ _ r l1 _ _ l2 _ H4.out (N4.out.rd R2.out) (by have := bnd.out; omega)).eq.mono ?_; rintro _ w5 ⟨rfl, hN⟩; have e5 := H4.out.new hN; have H5 : Hid (DiskAt w5 w1.heap.size v4 r S l1.length) := Lib.hid (by rw [← hS.out]; exact e5); clear e5; have N5 := Lib.hid (NewT.trans _ _ _ N4.out hN); clear hN)
      | (go_at_call 15; clear x1; refine Calls.mono (DBytes_c _ _ r S _ _ H5.out) ?_; rintro _ w6 ⟨v6, rfl, hN, hv⟩; have V6 := Lib.hid (H5.out.beside hv); obtain ⟨A6, c6, rfl⟩ := rdV_form V6.out; have cc6 : k ≤ c6 := Nat.le_trans K.out.2 (rd_cap V6.out); have hs := slice_to A6 S.length c6 k cc6; rw [Hm.out] at hs V6 ⊢; clear cc6; have H6 := Lib.hid (H5.out.new hN); have N6 := Lib.hid (NewT.trans _ _ _ N5.out hN); clear hN hv)
      | (go_at_call 12; clear s1; refine (Crash_c _ _ r S _ keep _ H6.out).mono ?_; rintro _ w7 ⟨rfl, v7, hD, hA⟩; rw [hk.out, hT.out] at hA; have H7 := Lib.hid hA; have N7 := Lib.hid (hD.newT N6.out Q1.out); have V7 := Lib.hid (hD.rd V6.out); clear hD hA)
      | (go_at_call 15; clear y1; refine Calls.mono (DBytes_c _ _ r T _ _ H7.out) ?_; rintro _ w8 ⟨v8, rfl, hN, hv⟩; have U8 := Lib.hid (H7.out.beside hv); obtain ⟨A8, c8, rfl⟩ := rdV_form U8.out; rw [HT.out] at U8 ⊢; have V8 := Lib.hid (NewT.rd hN V7.out); have H8 := Lib.hid (H7.out.new hN); have N8 := Lib.hid (NewT.trans _ _ _ N7.out hN); clear hN hv)
      | (go_at_call 22; clear t2; refine (Bytes_cv _ _ T T _ (rd_any U8.out) (by have := rd_begin (m := k) (rd_any V8.out) K.out.2; rw [hT.out] at this; exact this) (by have := bnd.out; have := K3.out; rw [HT.out]; omega) (by have := bnd.out; have := K3.out; rw [HT.out]; omega)).eq.mono ?_; rintro _ w9 ⟨rfl, hN⟩; have H9 := Lib.hid (H8.out.new hN); have N9 := Lib.hid (NewT.trans _ _ _ N8.out hN); have U9 := Lib.hid (NewT.rd hN U8.out); clear hN; have dt : decide (T = T) = true := by simp)
      | (go_at_call 16; refine (Lasts_c _ _ r _ _ _ H9.out).eq.mono ?_; rintro _ wa ⟨rfl, hN⟩; have i9 := I9.out; have HA := Lib.hid (H9.out.new hN); have NA := Lib.hid (NewT.trans _ _ _ N9.out hN); have UA := Lib.hid (NewT.rd hN U9.out); clear hN)
      | (go_at_call 12; refine (Crash_all _ _ r T 9 _ (by have := HA.out; rw [HT.out]; exact this)).mono ?_; rintro _ wb ⟨rfl, vb, hD, hA⟩; have HB := Lib.hid hA; have NB := Lib.hid (hD.newT NA.out Q1.out); have UB := Lib.hid (hD.rd UA.out); clear hD hA)
      | (go_at_call 15; refine Calls.mono (DBytes_c _ _ r T _ _ HB.out) ?_; rintro _ wc ⟨vc, rfl, hN, hv⟩; have VC := Lib.hid (FreshB.rd hv); have NC := Lib.hid (NewT.trans _ _ _ NB.out hN); have UC := Lib.hid (NewT.rd hN UB.out); clear hN hv)
      | (go_at_call 22; refine (Bytes_cv _ _ T T _ VC.out (rd_any UC.out) (by have := bnd.out; have := K3.out; rw [HT.out]; omega) (by have := bnd.out; have := K3.out; rw [HT.out]; omega)).eq.mono ?_; rintro _ wd ⟨rfl, hN⟩; have ND := Lib.hid (NewT.trans _ _ _ NC.out hN); clear hN; have dt : decide (T = T) = true := by simp))
    go_ret
    exact ⟨rfl, ND.out⟩
end Go.Proofs.Ytenmoljaeeeaaaa
/- The reference's disk: Crash, Cut, Write. -/
namespace Go.Proofs.Ytenmoljaeeeaaaa
open Go Go.RowKit
set_option maxRecDepth 8000
set_option linter.all false
theorem RefAt.c0 {w : World} {g : Nat} {M : List Nat} {vd vl : Value} {z : Nat} {D L : List UInt8} (h : RefAt w g M vd vl z D L) : w.cell? ⟨g, 0, none⟩ = some vd := h.row.cell (i := 0) (by omega)
theorem RefAt.c1 {w : World} {g : Nat} {M : List Nat} {vd vl : Value} {z : Nat} {D L : List UInt8} (h : RefAt w g M vd vl z D L) : w.cell? ⟨g, 1, none⟩ = some vl := h.row.cell (i := 1) (by omega)
theorem RefAt.c2 {w : World} {g : Nat} {M : List Nat} {vd vl : Value} {z : Nat} {D L : List UInt8} (h : RefAt w g M vd vl z D L) : w.cell? ⟨g, 2, none⟩ = some (.int .i64 (z : Int)) := h.row.cell (i := 2) (by omega)
theorem RefAt.new {w w' : World} {g : Nat} {M : List Nat} {vd vl : Value} {z : Nat} {D L : List UInt8} (h : RefAt w g M vd vl z D L) (hN : NewT w w') : RefAt w' g M vd vl z D L := ⟨hN.row h.row, hN.rd h.done, hN.rd h.late, h.fits, h.room⟩
/-- The bytes that don't last yet are others. -/
theorem RefAt.set1 {w : World} {g : Nat} {M : List Nat} {vd vl v : Value} {z : Nat} {D L K : List UInt8} (h : RefAt w g M vd vl z D L) (hv : RdV w (g :: M) v K) (hf : D.length + K.length ≤ 65536) : RefAt (w.setCell ⟨g, 1, none⟩ v) g M vd v z D K := by
  have hR := (RT.setCell (R := g) w 1 v).keep.more (L' := g :: M) (by simp)
  refine ⟨(h.row.set 1 _).congr fun i hi => ?_, h.done.keep hR, hv.keep hR, hf, h.room⟩
  have : i = 0 ∨ i = 1 ∨ i = 2 := by omega
  rcases this with rfl | rfl | rfl <;> simp [rdF]
theorem RefAt.set0 {w : World} {g : Nat} {M : List Nat} {vd vl v : Value} {z : Nat} {D L K : List UInt8} (h : RefAt w g M vd vl z D L) (hv : RdV w (g :: M) v K) (hf : K.length + L.length ≤ 65536) : RefAt (w.setCell ⟨g, 0, none⟩ v) g M v vl z K L := by
  have hR := (RT.setCell (R := g) w 0 v).keep.more (L' := g :: M) (by simp)
  refine ⟨(h.row.set 0 _).congr fun i hi => ?_, hv.keep hR, h.late.keep hR, hf, h.room⟩
  have : i = 0 ∨ i = 1 ∨ i = 2 := by omega
  rcases this with rfl | rfl | rfl <;> simp [rdF]
theorem take_toNat {L : List UInt8} {k : Int} (h : (L.length : Int) ≤ k) : L.take k.toNat = L := List.take_of_length_le (by omega)
set_option maxHeartbeats 1000000 in
theorem RCrash_c (g : Nat) (M : List Nat) (vd vl : Value) (z : Nat) (D L : List UInt8) (keep : Int) (w : World) (h : RefAt w g M vd vl z D L) (hM : ∀ k ∈ g :: M, k < w.heap.size) :
    Calls Try.prog 20 #[.pointer (some ⟨g, 0, none⟩), .int .i64 keep] w fun e w' => e = .returned (.tuple #[]) ∧ ∃ vd', RT g w w' ∧ RefAt w' g M vd' (.slice none 0 0) z (D ++ L.take keep.toNat) [] := by
  have c1 := h.c1
  have f1 := h.row.frozen 1
  have H := Lib.hid h
  have HM := Lib.hid hM
  obtain ⟨A, c, rfl, hc, _⟩ := h.late
  clear h hM
  by_cases h1 : keep < 0
  · by_cases h2 : (0 : Int) < (L.length : Int)
    · obtain ⟨q, hq⟩ : ∃ q : Nat, 0 = q := ⟨0, rfl⟩
      have hs := slice_to A L.length c q (by omega)
      rw [← hq] at hs
      have hs' : ∀ w : World, (Instr.slice 31 (.slice A L.length c) none (some (.int .i64 0)) none).run Try.prog w = .ok (.slice A 0 c) w := hs
      have HR := Lib.hid (RefAt.set1 (K := L.take 0) H.out (rd_begin H.out.late (Nat.zero_le _)) (by have := H.out.fits; simp; omega))
      clear hs hq
      go_enter Try.func20, Try.ntmps20
      go_wp2_with (go_at_call 19; refine (RSync_c g M vd _ z D _ _ HR.out (fun k hk => Nat.lt_of_lt_of_le (HM.out k hk) (RT.setCell w 1 _).size)).mono ?_; rintro _ w2 ⟨rfl, vd', hT, hA⟩)
      go_end0
      exact ⟨rfl, vd', RT.trans _ _ _ (RT.setCell w 1 _) hT, by rw [show keep.toNat = 0 by omega]; exact hA⟩
    · have h0 : L.length = 0 := by omega
      go_enter Try.func20, Try.ntmps20
      go_wp2_with (go_at_call 19; refine (RSync_c g M vd _ z D _ _ H.out HM.out).mono ?_; rintro _ w2 ⟨rfl, vd', hT, hA⟩)
      go_end0
      exact ⟨rfl, vd', hT, by rw [List.eq_nil_of_length_eq_zero h0] at hA ⊢; simpa using hA⟩
  · by_cases h2 : keep < (L.length : Int)
    · obtain ⟨k, rfl⟩ : ∃ k : Nat, keep = k := ⟨keep.toNat, by omega⟩
      have hs := slice_to A L.length c k (by omega)
      have HR := Lib.hid (RefAt.set1 (K := L.take k) H.out (rd_begin H.out.late (by omega)) (by have := H.out.fits; simp; omega))
      go_enter Try.func20, Try.ntmps20
      go_wp2_with (go_at_call 19; refine (RSync_c g M vd _ z D _ _ HR.out (fun k hk => Nat.lt_of_lt_of_le (HM.out k hk) (RT.setCell w 1 _).size)).mono ?_; rintro _ w2 ⟨rfl, vd', hT, hA⟩)
      go_end0
      exact ⟨rfl, vd', RT.trans _ _ _ (RT.setCell w 1 _) hT, by simpa using hA⟩
    · go_enter Try.func20, Try.ntmps20
      go_wp2_with (go_at_call 19; refine (RSync_c g M vd _ z D _ _ H.out HM.out).mono ?_; rintro _ w2 ⟨rfl, vd', hT, hA⟩)
      go_end0
      exact ⟨rfl, vd', hT, by rw [take_toNat (by omega)]; exact hA⟩
set_option maxHeartbeats 1000000 in
theorem RCut_bad (g : Nat) (M : List Nat) (vd vl : Value) (z : Nat) (D L : List UInt8) (n : Int) (w : World) (h : RefAt w g M vd vl z D L) (hn : n < 0 ∨ ((D ++ L).length : Int) < n) : Cv 21 #[.pointer (some ⟨g, 0, none⟩), .int .i64 n] w (.eq (.int .i64 1)) := by
  unfold Cv
  have H := Lib.hid h
  clear h
  by_cases h1 : n < 0
  · clear hn
    go_enter Try.func21, Try.ntmps21
    go_wp2_with (go_at_call 23; refine Calls.mono (RBytes_cv g M vd vl z D L w H.out) ?_; rintro _ w1 ⟨v1, rfl, hN, hv⟩; obtain ⟨A1, c1, rfl⟩ := rdV_form (FreshB.rd hv))
    go_ret
    exact ⟨_, rfl, hN, rfl⟩
  · have h2 : ((D ++ L).length : Int) < n := by omega
    clear hn
    obtain ⟨S, hS⟩ := hid_ex (D ++ L)
    rw [hS.out] at h2
    go_enter Try.func21, Try.ntmps21
    go_wp2_with (go_at_call 23; refine Calls.mono (RBytes_cv g M vd vl z D L w H.out) ?_; rw [hS.out]; rintro _ w1 ⟨v1, rfl, hN, hv⟩; obtain ⟨A1, c1, rfl⟩ := rdV_form (FreshB.rd hv))
    go_ret
    exact ⟨_, rfl, hN, rfl⟩
set_option maxHeartbeats 1000000 in
theorem RCut_ok (g : Nat) (M : List Nat) (vd vl : Value) (z : Nat) (D L : List UInt8) (n : Nat) (w : World) (h : RefAt w g M vd vl z D L) (hM : ∀ k ∈ g :: M, k < w.heap.size) (hn : n ≤ (D ++ L).length) :
    Calls Try.prog 21 #[.pointer (some ⟨g, 0, none⟩), .int .i64 (n : Int)] w fun e w' => e = .returned (.int .i64 0) ∧ ∃ vd', RT g w w' ∧ RefAt w' g M vd' (.slice none 0 0) z ((D ++ L).take n) [] := by
  have H := Lib.hid h
  have HM := Lib.hid hM
  have hfit : Hid ((D ++ L).length ≤ 65536) := Lib.hid (by have := h.fits; simpa using this)
  obtain ⟨S, hS⟩ := hid_ex (D ++ L)
  rw [hS.out] at hn hfit ⊢
  have Hn := Lib.hid hn
  have h1 : ¬ (n : Int) < 0 := by omega
  have h2 : ¬ (S.length : Int) < (n : Int) := by omega
  clear h hM hn
  go_enter Try.func21, Try.ntmps21
  go_wp2_with (go_at_call 23; refine Calls.mono (RBytes_cv g M vd vl z D L w H.out) ?_; rw [hS.out]; rintro _ w1 ⟨v1, rfl, hN, hv⟩; obtain ⟨A1, c1, rfl⟩ := rdV_form (FreshB.rd hv); have hb := FreshB.rdL (show FreshB w.heap.size w1 _ S from hv) HM.out; have cc := rd_cap hb; have hs := slice_to A1 S.length c1 n (Nat.le_trans Hn.out cc); have HB := Lib.hid (rd_begin hb Hn.out); have H1 := Lib.hid (H.out.new hN); have f0 := H1.out.row.frozen 0; have f1 := H1.out.row.frozen 1; have c0 := H1.out.c0; have c1' := H1.out.c1; have N1 : Hid (NewT w w1) := Lib.hid hN; clear hv hb cc hN)
  go_ret
  have hR := RT.setCell (R := g) w1 0 (Value.slice A1 n c1)
  have hR2 := RT.setCell (R := g) (w1.setCell ⟨g, 0, none⟩ (Value.slice A1 n c1)) 1 (Value.slice none 0 0)
  have hg := HM.out g (by simp)
  have q : (S.take n).length + L.length ≤ 131072 := by have := hfit.out; have := H.out.fits; simp; omega
  have hrow := ((H1.out.row.set 0 (Value.slice A1 n c1)).set 1 (Value.slice none 0 0))
  refine ⟨rfl, _, RT.trans _ _ _ (RT.new hg N1.out) (RT.trans _ _ _ hR hR2), hrow.congr fun i hi => ?_, (HB.out.keep ((hR.keep.trans hR2.keep).more (by simp))), rdV_nil _ _, by have := hfit.out; simp; omega, H.out.room⟩
  have : i = 0 ∨ i = 1 ∨ i = 2 := by omega
  rcases this with rfl | rfl | rfl <;> simp [rdF]
set_option maxHeartbeats 1000000 in
theorem RWrite_full (g : Nat) (M : List Nat) (vd vl u : Value) (z : Nat) (D L l : List UInt8) (w : World) (h : RefAt w g M vd vl z D L) (hu : RdV w [] u l) (hl : l.length ≤ 1000) (hz : z < D.length + L.length + l.length) : Cv 18 #[.pointer (some ⟨g, 0, none⟩), u] w (.eq (.int .i64 5)) := by
  unfold Cv
  have c0 := h.c0
  have c1 := h.c1
  have c2 := h.c2
  have hf := h.fits
  obtain ⟨A0, k0, rfl, _⟩ := h.done
  obtain ⟨A1, k1, rfl, _⟩ := h.late
  obtain ⟨A2, k2, rfl, _⟩ := hu
  clear h
  have e1 : IntKind.i64.wrap ((D.length : Int) + (L.length : Int)) = ((D.length + L.length : Nat) : Int) := IntWalk.i64_in _ (by omega)
  have e2 : IntKind.i64.wrap (((D.length + L.length : Nat) : Int) + (l.length : Int)) = ((D.length + L.length + l.length : Nat) : Int) := IntWalk.i64_in _ (by omega)
  have h3 : (z : Int) < ((D.length + L.length + l.length : Nat) : Int) := by omega
  generalize D.length + L.length + l.length = q at *
  generalize D.length + L.length = p at *
  clear hf hz hl
  go_enter Try.func18, Try.ntmps18
  go_wp2
  refine wp_region_still_lit (by kernel_rfl) (by kernel_rfl) ?_
  repeat (refine wpStill_step (fun K hK => ?_); go_simp; refine hK _ ?_; clear hK K)
  refine wpStill_nil ?_
  go_wp2
  go_ret
  exact ⟨_, rfl, NewT.drew _, rfl⟩
set_option maxHeartbeats 1000000 in
theorem RWrite_ok (g : Nat) (M : List Nat) (vd vl u : Value) (z : Nat) (D L l : List UInt8) (w : World) (h : RefAt w g M vd vl z D L) (hM : ∀ k ∈ g :: M, k < w.heap.size) (hu : RdV w [] u l) (hz : D.length + L.length + l.length ≤ z) :
    Calls Try.prog 18 #[.pointer (some ⟨g, 0, none⟩), u] w fun e w' => e = .returned (.int .i64 0) ∧ ∃ vl', RT g w w' ∧ RefAt w' g M vd vl' z D (L ++ l) := by
  have c0 := h.c0
  have c1 := h.c1
  have c2 := h.c2
  have hzr := h.room
  have HM := Lib.hid hM
  have HU := Lib.hid (hu.keep (KeepBut.drew w))
  have HD := Lib.hid (h.new (NewT.drew w))
  have bnd : Hid (D.length + L.length + l.length ≤ 65536) := Lib.hid (by omega)
  obtain ⟨A0, k0, rfl, _⟩ := h.done
  obtain ⟨A1, k1, rfl, _⟩ := h.late
  obtain ⟨A2, k2, rfl, _⟩ := hu
  clear h hM
  have e1 : IntKind.i64.wrap ((D.length : Int) + (L.length : Int)) = ((D.length + L.length : Nat) : Int) := IntWalk.i64_in _ (by omega)
  have e2 : IntKind.i64.wrap (((D.length + L.length : Nat) : Int) + (l.length : Int)) = ((D.length + L.length + l.length : Nat) : Int) := IntWalk.i64_in _ (by omega)
  have h3 : ¬ (z : Int) < ((D.length + L.length + l.length : Nat) : Int) := by omega
  obtain ⟨q, hq⟩ := hid_ex (D.length + L.length + l.length)
  obtain ⟨p, hp⟩ := hid_ex (D.length + L.length)
  rw [hq.out] at e2 h3
  rw [hp.out] at e1 e2
  clear hzr hz
  go_enter Try.func18, Try.ntmps18
  go_wp2
  refine wp_region_still_lit (by kernel_rfl) (by kernel_rfl) ?_
  repeat (refine wpStill_step (fun K hK => ?_); go_simp; refine hK _ ?_; clear hK K)
  refine wpStill_nil ?_
  clear e1 e2 c0 c1 c2
  change Exit.then _ _ Exit.normal _ w.drew
  have c1 := HD.out.c1
  have N0 : Hid (NewT w w.drew) := Lib.hid (NewT.drew w)
  have t1 : Hid True := Lib.hid trivial
  generalize w.drew = wd at *
  have HD1 := Lib.hid (HD.out.new (NewT.alloc wd (.cells #[] 5)))
  have HU1 := Lib.hid ((NewT.alloc wd (.cells #[] 5)).rd HU.out)
  have c1' := HD1.out.c1
  go_wp2_with (first
    | (at_builtin; clear t1
       have hlate := Lib.hid (rd_any HD1.out.late)
       obtain ⟨v3, w3, hrun, hO, hG, -⟩ := run_appB_two (ownB_empty wd) hlate.out (by have := bnd.out; simp; omega) (NewT.alloc wd _).size 31
       rw [List.nil_append] at hO
       refine wpList_plain rfl (fun K hK => ?_)
       refine opr_append rfl rfl rfl hrun (hK _ _ ?_)
       clear hK K hrun
       have hN3 : NewT wd w3 := NewT.of ((NewT.alloc wd (.cells #[] 5)).out.grown hG (NewT.alloc wd _).size (fun k e => ((ownB_empty wd).lt k e).1))
       have H3 := Lib.hid (HD.out.new hN3)
       have O3 := Lib.hid hO
       have N3 := Lib.hid hN3
       clear hO hG hN3)
    | (at_builtin
       obtain ⟨v4, w4, hrun, hO, hG, -⟩ := run_appB_two O3.out (N3.out.rd HU.out) (by have := bnd.out; omega) N3.out.out.size 31
       refine wpList_plain rfl (fun K hK => ?_)
       refine opr_append rfl rfl rfl hrun (hK _ _ ?_)
       clear hK K hrun
       have hN4 : NewT wd w4 := NewT.of (N3.out.out.grown hG N3.out.out.size (fun k e => (O3.out.lt k e).1))
       have H4 := Lib.hid (HD.out.new hN4)
       have O4 := Lib.hid hO
       have N4 := Lib.hid hN4
       have c1'' := H4.out.c1
       have f1 := H4.out.row.frozen 1
       have hone := hO.one
       obtain ⟨A4, k4, rfl, _⟩ := hO.cap
       clear hO hG hN4))
  go_ret
  have hg := HM.out g (by simp)
  have hfr := (OwnB.fresh O4.out).rdL (L := g :: M) (fun k hk => Nat.lt_of_lt_of_le (HM.out k hk) N0.out.out.size)
  refine ⟨rfl, _, RT.trans _ _ _ (RT.new hg (NewT.trans _ _ _ N0.out N4.out)) (RT.setCell _ 1 _), RefAt.set1 H4.out (by rw [← List.length_append]; exact hfr) (by have := bnd.out; simp; omega)⟩
end Go.Proofs.Ytenmoljaeeeaaaa
/- Two disks, the program's and the reference's, that go alike. -/
namespace Go.Proofs.Ytenmoljaeeeaaaa
open Go Go.RowKit
set_option maxRecDepth 8000
set_option linter.all false
theorem DStep.rd2 {g0 g : Nat} {v v' : Value} {w w' : World} (h : DStep g v w w' v') {u : Value} {l : List UInt8} (hr : RdV w (g0 :: g :: v.ownBlock.toList) u l) (hne : g0 ∉ g :: v.ownBlock.toList) (h0 : g0 < w.heap.size) : RdV w' (g0 :: g :: v'.ownBlock.toList) u l := by
  obtain ⟨A, cap, hv, h2, h3, h4⟩ := hr
  refine ⟨A, cap, hv, h2, h3, fun hl => ?_⟩
  obtain ⟨b, o, hA, hb, hc⟩ := h4 hl
  rw [List.mem_cons, not_or] at hb
  refine ⟨b, o, hA, ?_, fun i hi => h.keep.cell hb.2 (hc i hi)⟩
  rw [List.mem_cons, not_or]
  exact ⟨hb.1, own_apart (World.block_lt_of_cell? _ _ (hc 0 hl)) h.own hb.2⟩
/-- Two disks in memory: the program's (gd) has S, of which n last; the reference's (g) has D that last, and L. -/
def St (gd g room : Nat) (S : List UInt8) (n : Nat) (D L : List UInt8) (w : World) : Prop :=
  ∃ v vd vl, DiskAt w gd v room S n ∧ RefAt w g (gd :: v.ownBlock.toList) vd vl room D L ∧ g ∉ gd :: v.ownBlock.toList
theorem St.new {gd g room : Nat} {S : List UInt8} {n : Nat} {D L : List UInt8} {w w' : World} (h : St gd g room S n D L w) (hN : NewT w w') : St gd g room S n D L w' := by
  obtain ⟨v, vd, vl, h1, h2, h3⟩ := h
  exact ⟨v, vd, vl, h1.new hN, h2.new hN, h3⟩
theorem St.lt {gd g room : Nat} {S : List UInt8} {n : Nat} {D L : List UInt8} {w : World} (h : St gd g room S n D L w) : gd < w.heap.size ∧ g < w.heap.size := by
  obtain ⟨v, vd, vl, h1, h2, _⟩ := h
  exact ⟨h1.lt, h2.row.lt⟩
/-- A step of two disks that lie from block B on: a row x that is neither's stays. -/
structure KT (B x : Nat) (w w' : World) : Prop where
  below : Below B w w'
  size : w.heap.size ≤ w'.heap.size
  row : ∀ t n f, w.rowIs x t n f → w'.rowIs x t n f
theorem KT.trans {B x : Nat} (a b c : World) (h : KT B x a b) (k : KT B x b c) : KT B x a c := ⟨h.below.trans k.below, Nat.le_trans h.size k.size, fun t n f r => k.row t n f (h.row t n f r)⟩
theorem KT.refl {B x : Nat} (w : World) : KT B x w w := ⟨Below.refl _ w, Nat.le_refl _, fun _ _ _ r => r⟩
theorem KT.new {B x : Nat} {w w' : World} (hB : B ≤ w.heap.size) (h : NewT w w') : KT B x w w' := ⟨h.out.mono hB, h.out.size, fun _ _ _ r => h.row r⟩
theorem KT.drew {B x : Nat} (w : World) : KT B x w w.drew := ⟨(Below.refl _ w).drew, Nat.le_refl _, fun _ _ _ r => (NewT.drew w).row r⟩
theorem KT.of_d {B x gd : Nat} {v v' : Value} {w w' : World} (h : DStep gd v w w' v') (hB : B ≤ gd) (hx : x ∉ gd :: v.ownBlock.toList) : KT B x w w' := ⟨h.below.mono hB, h.below.size, fun _ _ _ r => h.row hx r⟩
theorem KT.of_r {B x g : Nat} {w w' : World} (h : RT g w w') (hB : B ≤ g) (hx : x ≠ g) : KT B x w w' := ⟨h.below.mono hB, h.size, fun _ _ _ r => h.row hx r⟩
/-- A row that is neither disk's. -/
def Beside (gd g x : Nat) (w : World) : Prop := x ≠ g ∧ ∀ v room S n, DiskAt w gd v room S n → x ∉ gd :: v.ownBlock.toList
section
variable {gd g room B x : Nat} {S D L : List UInt8} {n : Nat} {w : World}
theorem St.dstep {w' : World} {v v' vd vl : Value} {S' : List UInt8} {n' : Nat} (h2 : RefAt w g (gd :: v.ownBlock.toList) vd vl room D L) (h3 : g ∉ gd :: v.ownBlock.toList) (hD : DStep gd v w w' v') (hA : DiskAt w' gd v' room S' n') : St gd g room S' n' D L w' :=
  ⟨v', vd, vl, hA, ⟨hD.row h3 h2.row, hD.rd2 h2.done h3 h2.row.lt, hD.rd2 h2.late h3 h2.row.lt, h2.fits, h2.room⟩, hD.apart h2.row.lt h3⟩
theorem St.blocks {v vd vl : Value} (h1 : DiskAt w gd v room S n) (h2 : RefAt w g (gd :: v.ownBlock.toList) vd vl room D L) : ∀ k ∈ g :: gd :: v.ownBlock.toList, k < w.heap.size := fun k hk => by
  rcases List.mem_cons.1 hk with rfl | hk
  · exact h2.row.lt
  · rcases List.mem_cons.1 hk with rfl | hk
    · exact h1.lt
    · exact (h1.own.lt k (by simpa using hk)).2
theorem St.rstep {w' : World} {v vd' vl' : Value} {D' L' : List UInt8} (h1 : DiskAt w gd v room S n) (h3 : g ∉ gd :: v.ownBlock.toList) (hR : RT g w w') (hA : RefAt w' g (gd :: v.ownBlock.toList) vd' vl' room D' L') : St gd g room S n D' L' w' :=
  ⟨v, vd', vl', h1.keep hR.keep (by simp at h3 ⊢; omega) (fun k hk => by simp [hk] at h3 ⊢; omega), hA, h3⟩
end
/-- The row x lies beside both disks. -/
def StX (gd g x B room : Nat) (S : List UInt8) (n : Nat) (D L : List UInt8) (w : World) : Prop :=
  ∃ v vd vl, DiskAt w gd v room S n ∧ RefAt w g (gd :: v.ownBlock.toList) vd vl room D L ∧ g ∉ gd :: v.ownBlock.toList ∧ x ∉ gd :: v.ownBlock.toList ∧ x ≠ g ∧ B ≤ gd ∧ B ≤ g ∧ x < w.heap.size
theorem StX.st {gd g x B room : Nat} {S : List UInt8} {n : Nat} {D L : List UInt8} {w : World} (h : StX gd g x B room S n D L w) : St gd g room S n D L w := by
  obtain ⟨v, vd, vl, h1, h2, h3, _⟩ := h
  exact ⟨v, vd, vl, h1, h2, h3⟩
theorem StX.new {gd g x B room : Nat} {S : List UInt8} {n : Nat} {D L : List UInt8} {w w' : World} (h : StX gd g x B room S n D L w) (hN : NewT w w') : StX gd g x B room S n D L w' := by
  obtain ⟨v, vd, vl, h1, h2, h3, h4, h5, h6, h7, h8⟩ := h
  exact ⟨v, vd, vl, h1.new hN, h2.new hN, h3, h4, h5, h6, h7, Nat.lt_of_lt_of_le h8 hN.out.size⟩
/-- A row that is new lies beside both. -/
theorem St.beside {gd g B room : Nat} {S : List UInt8} {n : Nat} {D L : List UInt8} {w w' : World} (h : St gd g room S n D L w) (hB : B ≤ gd) (hB2 : B ≤ g) (hN : NewT w w') (hx : w.heap.size < w'.heap.size) : StX gd g w.heap.size B room S n D L w' := by
  obtain ⟨v, vd, vl, h1, h2, h3⟩ := h
  refine ⟨v, vd, vl, h1.new hN, h2.new hN, h3, fun hm => ?_, ?_, hB, hB2, hx⟩
  · have := St.blocks h1 h2 _ (List.mem_cons_of_mem _ hm); omega
  · have := h2.row.lt; omega
section
variable {gd g x B room : Nat} {S D L : List UInt8} {n : Nat} {w : World}
theorem StX.d {f : FuncId} {args : Array Value} {e0 : Value} {S' : List UInt8} {n' : Nat} (h : StX gd g x B room S n D L w)
    (hc : ∀ v, DiskAt w gd v room S n → Calls Try.prog f args w fun e w' => e = .returned e0 ∧ ∃ v', DStep gd v w w' v' ∧ DiskAt w' gd v' room S' n') :
    Calls Try.prog f args w fun e w' => e = .returned e0 ∧ KT B x w w' ∧ StX gd g x B room S' n' D L w' := by
  obtain ⟨v, vd, vl, h1, h2, h3, h4, h5, h6, h7, h8⟩ := h
  refine (hc v h1).mono ?_
  rintro e w' ⟨rfl, v', hD, hA⟩
  obtain ⟨vv, vd', vl', a1, a2, a3⟩ := St.dstep h2 h3 hD hA
  exact ⟨rfl, KT.of_d hD h6 h4, v', vd, vl, hA, ⟨hD.row h3 h2.row, hD.rd2 h2.done h3 h2.row.lt, hD.rd2 h2.late h3 h2.row.lt, h2.fits, h2.room⟩, hD.apart h2.row.lt h3, hD.apart h8 h4, h5, h6, h7, Nat.lt_of_lt_of_le h8 hD.below.size⟩
theorem StX.r {f : FuncId} {args : Array Value} {e0 : Value} {D' L' : List UInt8} (h : StX gd g x B room S n D L w)
    (hc : ∀ M vd vl, RefAt w g M vd vl room D L → (∀ k ∈ g :: M, k < w.heap.size) → Calls Try.prog f args w fun e w' => e = .returned e0 ∧ ∃ vd' vl', RT g w w' ∧ RefAt w' g M vd' vl' room D' L') :
    Calls Try.prog f args w fun e w' => e = .returned e0 ∧ KT B x w w' ∧ StX gd g x B room S n D' L' w' := by
  obtain ⟨v, vd, vl, h1, h2, h3, h4, h5, h6, h7, h8⟩ := h
  refine (hc _ vd vl h2 (St.blocks h1 h2)).mono ?_
  rintro e w' ⟨rfl, vd', vl', hR, hA⟩
  exact ⟨rfl, KT.of_r hR h7 h5, v, vd', vl', h1.keep hR.keep (by simp at h3 ⊢; omega) (fun k hk => by simp [hk] at h3 ⊢; omega), hA, h3, h4, h5, h6, h7, Nat.lt_of_lt_of_le h8 hR.size⟩
theorem StX.eq {f : FuncId} {args : Array Value} {e0 : Value} (h : StX gd g x B room S n D L w) (hc : Cv f args w (.eq e0)) (hB : B ≤ w.heap.size) :
    Calls Try.prog f args w fun e w' => e = .returned e0 ∧ KT B x w w' ∧ StX gd g x B room S n D L w' :=
  hc.eq.mono fun e w' ⟨he, hN⟩ => ⟨he, KT.new hB hN, h.new hN⟩
/-- Write: the error's number, and what there is then. -/
def wrE (room : Nat) (S l : List UInt8) : Int := if S.length + l.length ≤ room then 0 else 5
def wrL (room k : Nat) (L l : List UInt8) : List UInt8 := if k + l.length ≤ room then L ++ l else L
theorem dWrite (h : StX gd g x B room S n D L w) (u : Value) (l : List UInt8) (hu : RdV w [] u l) : Calls Try.prog 13 #[.pointer (some ⟨gd, 0, none⟩), u] w fun e w' => e = .returned (.int .i64 (wrE room S l)) ∧ KT B x w w' ∧ StX gd g x B room (wrL room S.length S l) n D L w' := by
  unfold wrE wrL
  by_cases hl : S.length + l.length ≤ room
  · rw [if_pos hl, if_pos hl]
    exact h.d fun v hv => Write_ok gd v room S n u l w hv hu hl
  · rw [if_neg hl, if_neg hl]
    obtain ⟨v, vd, vl, h1, _, _, _, _, h6, _⟩ := id h
    exact h.eq (Write_full gd v room S n u l w h1 hu (by omega)) (by have := h1.lt; omega)
theorem rWrite {S0 : List UInt8} (h : StX gd g x B room S n D L w) (u : Value) (l : List UInt8) (hu : RdV w [] u l) (hl : l.length ≤ 1000) (e : D ++ L = S0) : Calls Try.prog 18 #[.pointer (some ⟨g, 0, none⟩), u] w fun e w' => e = .returned (.int .i64 (wrE room S0 l)) ∧ KT B x w w' ∧ StX gd g x B room S n D (wrL room S0.length L l) w' := by
  unfold wrE wrL
  have eL : S0.length = D.length + L.length := by rw [← e]; simp
  by_cases hl2 : S0.length + l.length ≤ room
  · rw [if_pos hl2, if_pos hl2]
    exact h.r fun M vd vl hr hM => (RWrite_ok g M vd vl u room D L l w hr hM hu (by omega)).mono fun e w' ⟨he, vl', hh⟩ => ⟨he, vd, vl', hh⟩
  · rw [if_neg hl2, if_neg hl2]
    obtain ⟨v, vd, vl, h1, h2, _, _, _, h6, _⟩ := id h
    exact h.eq (RWrite_full g _ vd vl u room D L l w h2 hu hl (by omega)) (by have := h1.lt; omega)
theorem dSync (h : StX gd g x B room S n D L w) : Calls Try.prog 11 #[.pointer (some ⟨gd, 0, none⟩)] w fun e w' => e = .returned (.tuple #[]) ∧ KT B x w w' ∧ StX gd g x B room S S.length D L w' :=
  h.d fun v hv => Sync_c gd v room S n w hv
theorem rSync (h : StX gd g x B room S n D L w) : Calls Try.prog 19 #[.pointer (some ⟨g, 0, none⟩)] w fun e w' => e = .returned (.tuple #[]) ∧ KT B x w w' ∧ StX gd g x B room S n (D ++ L) [] w' :=
  h.r fun M vd vl hr hM => (RSync_c g M vd vl room D L w hr hM).mono fun e w' ⟨he, vd', hh⟩ => ⟨he, vd', _, hh⟩
theorem dCrash (h : StX gd g x B room S n D L w) (k : Int) : Calls Try.prog 12 #[.pointer (some ⟨gd, 0, none⟩), .int .i64 k] w fun e w' => e = .returned (.tuple #[]) ∧ KT B x w w' ∧ StX gd g x B room (S.take (crashN k n S.length)) (crashN k n S.length) D L w' :=
  h.d fun v hv => Crash_c gd v room S n k w hv
theorem rCrash (h : StX gd g x B room S n D L w) (k : Int) : Calls Try.prog 20 #[.pointer (some ⟨g, 0, none⟩), .int .i64 k] w fun e w' => e = .returned (.tuple #[]) ∧ KT B x w w' ∧ StX gd g x B room S n (D ++ L.take k.toNat) [] w' :=
  h.r fun M vd vl hr hM => (RCrash_c g M vd vl room D L k w hr hM).mono fun e w' ⟨he, vd', hh⟩ => ⟨he, vd', _, hh⟩
/-- Cut: the error's number, and what there is then. -/
def ctE (S : List UInt8) (k : Int) : Int := if k < 0 ∨ (S.length : Int) < k then 1 else 0
def ctL {α : Type} (S : List UInt8) (k : Int) (a b : α) : α := if k < 0 ∨ (S.length : Int) < k then a else b
theorem dCut (h : StX gd g x B room S n D L w) (k : Int) : Calls Try.prog 14 #[.pointer (some ⟨gd, 0, none⟩), .int .i64 k] w fun e w' => e = .returned (.int .i64 (ctE S k)) ∧ KT B x w w' ∧ StX gd g x B room (ctL S k S (S.take k.toNat)) (ctL S k n k.toNat) D L w' := by
  unfold ctE ctL
  by_cases hk : k < 0 ∨ (S.length : Int) < k
  · simp only [if_pos hk]
    obtain ⟨v, vd, vl, h1, _, _, _, _, h6, _⟩ := id h
    exact h.eq (Cut_bad gd v room S n k w h1 hk) (by have := h1.lt; omega)
  · simp only [if_neg hk]
    obtain ⟨q, rfl⟩ : ∃ q : Nat, k = q := ⟨k.toNat, by omega⟩
    exact h.d fun v hv => Cut_ok gd v room S n q w hv (by omega)
theorem rCut {S0 : List UInt8} (h : StX gd g x B room S n D L w) (k : Int) (e : D ++ L = S0) : Calls Try.prog 21 #[.pointer (some ⟨g, 0, none⟩), .int .i64 k] w fun e w' => e = .returned (.int .i64 (ctE S0 k)) ∧ KT B x w w' ∧ StX gd g x B room S n (ctL S0 k D (S0.take k.toNat)) (ctL S0 k L []) w' := by
  unfold ctE ctL
  subst e
  by_cases hk : k < 0 ∨ ((D ++ L).length : Int) < k
  · simp only [if_pos hk]
    obtain ⟨v, vd, vl, h1, h2, _, _, _, h6, _⟩ := id h
    exact h.eq (RCut_bad g _ vd vl room D L k w h2 hk) (by have := h1.lt; omega)
  · simp only [if_neg hk]
    obtain ⟨q, rfl⟩ : ∃ q : Nat, k = q := ⟨k.toNat, by omega⟩
    exact h.r fun M vd vl hr hM => (RCut_ok g M vd vl room D L q w hr hM (by omega)).mono fun e w' ⟨he, vd', hh⟩ => ⟨he, vd', _, hh⟩
end
end Go.Proofs.Ytenmoljaeeeaaaa
/- Numbers as bytes, on lists: a number's bytes, how bytes are read as a number, and that these two are one another's. No program is named here. -/
namespace Go.Proofs.Ytenmoljaeeeaaaa
open Go
set_option maxRecDepth 8000
set_option linter.all false

/-- How many bytes a number has. -/
def sz (n : Nat) : Nat := if n < 128 then 1 else if n < 16384 then 2 else if n < 2097152 then 3 else if n < 268435456 then 4 else 5
abbrev uB (n : Nat) : UInt8 := UInt8.ofNat n
/-- A number's bytes. -/
def numL (n : Nat) : List UInt8 :=
  if n < 128 then [uB n] else if n < 16384 then [uB (n / 128 + 128), uB (n % 128)] else if n < 2097152 then [uB (n / 16384 + 128), uB (n / 128 % 128 + 128), uB (n % 128)]
  else if n < 268435456 then [uB (n / 2097152 + 128), uB (n / 16384 % 128 + 128), uB (n / 128 % 128 + 128), uB (n % 128)]
  else [uB (n / 268435456 % 128 + 128), uB (n / 2097152 % 128 + 128), uB (n / 16384 % 128 + 128), uB (n / 128 % 128 + 128), uB (n % 128)]
theorem numL_length (n : Nat) : (numL n).length = sz n := by unfold numL sz; split <;> (try split) <;> (try split) <;> (try split) <;> rfl
theorem sz_pos (n : Nat) : 1 ≤ sz n := by unfold sz; split <;> (try split) <;> (try split) <;> (try split) <;> omega
theorem sz_le (n : Nat) : sz n ≤ 5 := by unfold sz; split <;> (try split) <;> (try split) <;> (try split) <;> omega
/-- The bytes of whatever number there is, none of what is none. -/
def numI (n : Int) : List UInt8 := if 0 ≤ n ∧ n ≤ 2147483647 then numL n.toNat else []
theorem numI_nat (n : Nat) (h : n ≤ 2147483647) : numI (n : Int) = numL n := by unfold numI; rw [if_pos (by omega), Int.toNat_natCast]
theorem numI_length (n : Int) : (numI n).length ≤ 5 := by
  unfold numI; split
  · rw [numL_length]; exact sz_le _
  · simp
/-- Bytes, from place i on, read as a number: it, how many bytes it has, the error. -/
def goN : List UInt8 → Nat → Nat → Nat × Nat × Nat
  | [], _, _ => (0, 0, 3)
  | c :: r, i, v => if (i = 0 ∧ c.toNat = 128) ∨ i = 5 then (0, 0, 2) else if 128 ≤ c.toNat then goN r (i + 1) (v * 128 + c.toNat % 128)
    else if 2147483647 < v * 128 + c.toNat % 128 then (0, 0, 2) else (v * 128 + c.toNat % 128, i + 1, 0)
theorem toNat_uB (n : Nat) : (uB n).toNat = n % 256 := UInt8.toNat_ofNat'
theorem goN_put (n : Nat) (hn : n ≤ 2147483647) (r : List UInt8) : goN (numL n ++ r) 0 0 = (n, sz n, 0) := by
  unfold numL sz
  by_cases h1 : n < 128
  · rw [if_pos h1, if_pos h1]
    simp only [List.cons_append, List.nil_append, goN, toNat_uB]
    rw [if_neg (by omega), if_neg (by omega), if_neg (by omega)]
    simp; omega
  rw [if_neg h1, if_neg h1]
  by_cases h2 : n < 16384
  · rw [if_pos h2, if_pos h2]
    simp only [List.cons_append, List.nil_append, goN, toNat_uB]
    rw [if_neg (by omega), if_pos (by omega), if_neg (by omega), if_neg (by omega), if_neg (by omega)]
    simp; omega
  rw [if_neg h2, if_neg h2]
  by_cases h3 : n < 2097152
  · rw [if_pos h3, if_pos h3]
    simp only [List.cons_append, List.nil_append, goN, toNat_uB]
    rw [if_neg (by omega), if_pos (by omega), if_neg (by omega), if_pos (by omega), if_neg (by omega), if_neg (by omega), if_neg (by omega)]
    simp; omega
  rw [if_neg h3, if_neg h3]
  by_cases h4 : n < 268435456
  · rw [if_pos h4, if_pos h4]
    simp only [List.cons_append, List.nil_append, goN, toNat_uB]
    rw [if_neg (by omega), if_pos (by omega), if_neg (by omega), if_pos (by omega), if_neg (by omega), if_pos (by omega), if_neg (by omega), if_neg (by omega), if_neg (by omega)]
    simp; omega
  rw [if_neg h4, if_neg h4]
  simp only [List.cons_append, List.nil_append, goN, toNat_uB]
  rw [if_neg (by omega), if_pos (by omega), if_neg (by omega), if_pos (by omega), if_neg (by omega), if_pos (by omega), if_neg (by omega), if_pos (by omega), if_neg (by omega), if_neg (by omega), if_neg (by omega)]
  simp; omega
/-- What an error says, and that there is none of another kind. -/
theorem goN_err : ∀ (l : List UInt8) (i v : Nat), (goN l i v).2.2 ≠ 0 → goN l i v = (0, 0, (goN l i v).2.2) ∧ ((goN l i v).2.2 = 2 ∨ (goN l i v).2.2 = 3)
  | [], _, _, _ => ⟨rfl, .inr rfl⟩
  | c :: r, i, v, h => by
    rw [goN] at h ⊢
    split
    · exact ⟨rfl, .inl rfl⟩
    · rename_i h1
      rw [if_neg h1] at h
      split
      · rename_i h2
        rw [if_pos h2] at h
        exact goN_err r _ _ h
      · rename_i h2
        rw [if_neg h2] at h
        split
        · exact ⟨rfl, .inl rfl⟩
        · rename_i h3
          rw [if_neg h3] at h
          exact absurd rfl h
theorem goN_bounds : ∀ (l : List UInt8) (i v : Nat), (goN l i v).2.2 = 0 → (goN l i v).1 ≤ 2147483647 ∧ i < (goN l i v).2.1 ∧ (goN l i v).2.1 ≤ i + l.length
  | [], _, _, h => by simp [goN] at h
  | c :: r, i, v, h => by
    rw [goN] at h ⊢
    split at h
    · simp at h
    · rename_i h1
      rw [if_neg h1]
      split at h
      · rename_i h2
        rw [if_pos h2]
        have := goN_bounds r (i + 1) _ h
        simp only [List.length_cons]
        omega
      · rename_i h2
        rw [if_neg h2]
        split at h
        · simp at h
        · rename_i h3
          rw [if_neg h3]
          simp only [List.length_cons]
          omega
theorem uB_back (c : UInt8) (n : Nat) (h : n = c.toNat) : uB n = c := by subst h; simp [uB]
/-- Each number has one form, and no beginning of it is a number. -/
theorem goN_one (b : List UInt8) (n k : Nat) (h : goN b 0 0 = (n, k, 0)) : numL n = b.take k ∧ ∀ i, i < k → goN (b.take i) 0 0 = (0, 0, 3) := by
  rcases b with _ | ⟨c0, b⟩
  · simp [goN] at h
  have t0 := c0.toNat_lt
  rw [goN] at h
  split at h
  · simp at h
  rename_i g0
  split at h
  rotate_left
  · rename_i h0
    split at h
    · simp at h
    rename_i m0
    simp only [Prod.mk.injEq] at h
    obtain ⟨rfl, rfl, _⟩ := h
    refine ⟨?_, fun i hi => ?_⟩
    · unfold numL
      rw [if_pos (by omega)]
      simp only [List.take_succ_cons, List.take_zero, List.cons.injEq, and_true]
      exact uB_back _ _ (by omega)
    · obtain rfl : i = 0 := by omega
      rfl
  rename_i h0
  rcases b with _ | ⟨c1, b⟩
  · simp [goN] at h
  have t1 := c1.toNat_lt
  rw [goN] at h
  split at h
  · simp at h
  rename_i g1
  split at h
  rotate_left
  · rename_i h1
    split at h
    · simp at h
    rename_i m1
    simp only [Prod.mk.injEq] at h
    obtain ⟨rfl, rfl, _⟩ := h
    refine ⟨?_, fun i hi => ?_⟩
    · unfold numL
      rw [if_neg (by omega), if_pos (by omega)]
      simp only [Nat.zero_add, Nat.reduceAdd, List.take_succ_cons, List.take_zero, List.cons.injEq, and_true]
      exact ⟨uB_back _ _ (by omega), uB_back _ _ (by omega)⟩
    · have : i = 0 ∨ i = 1 := by omega
      rcases this with rfl | rfl
      · rfl
      · simp only [List.take_succ_cons, List.take_zero, goN]
        rw [if_neg (by first | omega | (simp; omega)), if_pos h0]
  rename_i h1
  rcases b with _ | ⟨c2, b⟩
  · simp [goN] at h
  have t2 := c2.toNat_lt
  rw [goN] at h
  split at h
  · simp at h
  rename_i g2
  split at h
  rotate_left
  · rename_i h2
    split at h
    · simp at h
    rename_i m2
    simp only [Prod.mk.injEq] at h
    obtain ⟨rfl, rfl, _⟩ := h
    refine ⟨?_, fun i hi => ?_⟩
    · unfold numL
      rw [if_neg (by omega), if_neg (by omega), if_pos (by omega)]
      simp only [Nat.zero_add, Nat.reduceAdd, List.take_succ_cons, List.take_zero, List.cons.injEq, and_true]
      exact ⟨uB_back _ _ (by omega), uB_back _ _ (by omega), uB_back _ _ (by omega)⟩
    · have : i = 0 ∨ i = 1 ∨ i = 2 := by omega
      rcases this with rfl | rfl | rfl
      · rfl
      · simp only [List.take_succ_cons, List.take_zero, goN]
        rw [if_neg (by first | omega | (simp; omega)), if_pos h0]
      · simp only [List.take_succ_cons, List.take_zero, goN]
        rw [if_neg (by first | omega | (simp; omega)), if_pos h0, if_neg (by first | omega | (simp; omega)), if_pos h1]
  rename_i h2
  rcases b with _ | ⟨c3, b⟩
  · simp [goN] at h
  have t3 := c3.toNat_lt
  rw [goN] at h
  split at h
  · simp at h
  rename_i g3
  split at h
  rotate_left
  · rename_i h3
    split at h
    · simp at h
    rename_i m3
    simp only [Prod.mk.injEq] at h
    obtain ⟨rfl, rfl, _⟩ := h
    refine ⟨?_, fun i hi => ?_⟩
    · unfold numL
      rw [if_neg (by omega), if_neg (by omega), if_neg (by omega), if_pos (by omega)]
      simp only [Nat.zero_add, Nat.reduceAdd, List.take_succ_cons, List.take_zero, List.cons.injEq, and_true]
      exact ⟨uB_back _ _ (by omega), uB_back _ _ (by omega), uB_back _ _ (by omega), uB_back _ _ (by omega)⟩
    · have : i = 0 ∨ i = 1 ∨ i = 2 ∨ i = 3 := by omega
      rcases this with rfl | rfl | rfl | rfl
      · rfl
      · simp only [List.take_succ_cons, List.take_zero, goN]
        rw [if_neg (by first | omega | (simp; omega)), if_pos h0]
      · simp only [List.take_succ_cons, List.take_zero, goN]
        rw [if_neg (by first | omega | (simp; omega)), if_pos h0, if_neg (by first | omega | (simp; omega)), if_pos h1]
      · simp only [List.take_succ_cons, List.take_zero, goN]
        rw [if_neg (by first | omega | (simp; omega)), if_pos h0, if_neg (by first | omega | (simp; omega)), if_pos h1, if_neg (by first | omega | (simp; omega)), if_pos h2]
  rename_i h3
  rcases b with _ | ⟨c4, b⟩
  · simp [goN] at h
  have t4 := c4.toNat_lt
  rw [goN] at h
  split at h
  · simp at h
  rename_i g4
  split at h
  rotate_left
  · rename_i h4
    split at h
    · simp at h
    rename_i m4
    simp only [Prod.mk.injEq] at h
    obtain ⟨rfl, rfl, _⟩ := h
    refine ⟨?_, fun i hi => ?_⟩
    · unfold numL
      rw [if_neg (by omega), if_neg (by omega), if_neg (by omega), if_neg (by omega)]
      simp only [Nat.zero_add, Nat.reduceAdd, List.take_succ_cons, List.take_zero, List.cons.injEq, and_true]
      exact ⟨uB_back _ _ (by omega), uB_back _ _ (by omega), uB_back _ _ (by omega), uB_back _ _ (by omega), uB_back _ _ (by omega)⟩
    · have : i = 0 ∨ i = 1 ∨ i = 2 ∨ i = 3 ∨ i = 4 := by omega
      rcases this with rfl | rfl | rfl | rfl | rfl
      · rfl
      · simp only [List.take_succ_cons, List.take_zero, goN]
        rw [if_neg (by first | omega | (simp; omega)), if_pos h0]
      · simp only [List.take_succ_cons, List.take_zero, goN]
        rw [if_neg (by first | omega | (simp; omega)), if_pos h0, if_neg (by first | omega | (simp; omega)), if_pos h1]
      · simp only [List.take_succ_cons, List.take_zero, goN]
        rw [if_neg (by first | omega | (simp; omega)), if_pos h0, if_neg (by first | omega | (simp; omega)), if_pos h1, if_neg (by first | omega | (simp; omega)), if_pos h2]
      · simp only [List.take_succ_cons, List.take_zero, goN]
        rw [if_neg (by first | omega | (simp; omega)), if_pos h0, if_neg (by first | omega | (simp; omega)), if_pos h1, if_neg (by first | omega | (simp; omega)), if_pos h2, if_neg (by first | omega | (simp; omega)), if_pos h3]
  rename_i h4
  rcases b with _ | ⟨c5, b⟩
  · simp [goN] at h
  · rw [goN, if_pos (by omega)] at h
    simp at h
/-- The place i of a number's bytes. -/
def numB (n s i : Nat) : UInt8 := if i + 1 = s then uB (n / 2 ^ (7 * (s - 1 - i)) % 128) else uB (n / 2 ^ (7 * (s - 1 - i)) % 128 + 128)
theorem numL_row (n : Nat) (hn : n ≤ 2147483647) : numL n = (List.range (sz n)).map (numB n (sz n)) := by
  unfold numL sz
  by_cases h1 : n < 128
  · rw [if_pos h1, if_pos h1]; simp [numB, List.range_succ, show n % 128 = n by omega]
  rw [if_neg h1, if_neg h1]
  by_cases h2 : n < 16384
  · rw [if_pos h2, if_pos h2]; simp [numB, List.range_succ, show n / 128 % 128 = n / 128 by omega]
  rw [if_neg h2, if_neg h2]
  by_cases h3 : n < 2097152
  · rw [if_pos h3, if_pos h3]; simp [numB, List.range_succ, show n / 16384 % 128 = n / 16384 by omega]
  rw [if_neg h3, if_neg h3]
  by_cases h4 : n < 268435456
  · rw [if_pos h4, if_pos h4]; simp [numB, List.range_succ, show n / 2097152 % 128 = n / 2097152 by omega]
  rw [if_neg h4, if_neg h4]
  simp [numB, List.range_succ]
/-- A greater number by its head. -/
theorem numL_step (n : Nat) (hn : n ≤ 2147483647) (h : 128 ≤ n) : ∃ (init : List UInt8) (x : Nat), x < 128 ∧ numL (n / 128) = init ++ [uB x] ∧ numL n = init ++ [uB (x + 128), uB (n % 128)] := by
  unfold numL
  rw [if_neg (show ¬ n < 128 by omega)]
  by_cases h2 : n < 16384
  · rw [if_pos h2, if_pos (by omega)]
    exact ⟨[], n / 128, by omega, rfl, rfl⟩
  rw [if_neg h2, if_neg (show ¬ n / 128 < 128 by omega)]
  by_cases h3 : n < 2097152
  · rw [if_pos h3, if_pos (show n / 128 < 16384 by omega)]
    refine ⟨[uB (n / 128 / 128 + 128)], n / 128 % 128, by omega, rfl, ?_⟩
    rw [show n / 128 / 128 = n / 16384 by omega]; rfl
  rw [if_neg h3, if_neg (show ¬ n / 128 < 16384 by omega)]
  by_cases h4 : n < 268435456
  · rw [if_pos h4, if_pos (show n / 128 < 2097152 by omega)]
    refine ⟨[uB (n / 128 / 16384 + 128), uB (n / 128 / 128 % 128 + 128)], n / 128 % 128, by omega, rfl, ?_⟩
    rw [show n / 128 / 128 = n / 16384 by omega, show n / 128 / 16384 = n / 2097152 by omega]; rfl
  rw [if_neg h4, if_neg (show ¬ n / 128 < 2097152 by omega), if_pos (show n / 128 < 268435456 by omega)]
  refine ⟨[uB (n / 128 / 2097152 + 128), uB (n / 128 / 16384 % 128 + 128), uB (n / 128 / 128 % 128 + 128)], n / 128 % 128, by omega, rfl, ?_⟩
  rw [show n / 128 / 128 = n / 16384 by omega, show n / 128 / 16384 = n / 2097152 by omega, show n / 128 / 2097152 = n / 268435456 % 128 by omega]; rfl
end Go.Proofs.Ytenmoljaeeeaaaa
/- Records, on lists: which are right, their bytes, sealed and open; that sealed bytes tell right records apart, but for what redacting leaves out. No program is named here; the commitment is whatever function cm is. -/
namespace Go.Proofs.Ytenmoljaeeeaaaa
open Go
set_option maxRecDepth 8000
set_option linter.all false

/-- A record: its numbers, flags, hashes (their first 32 places), steps and payload. -/
structure Rc where
  kind : Int
  saga : Int
  seq : Int
  step : Int
  tr : Int
  back : Bool
  good : Bool
  nd : Int
  part : Int
  epoch : Int
  tag : Nat → UInt8
  steps : List (Int × Int)
  data : List UInt8
  salt : Nat → UInt8
  gone : Bool
  com : Nat → UInt8
/-- A hash as bytes. -/
def hL (d : Nat → UInt8) : List UInt8 := (List.range 32).map d
theorem hL_length (d : Nat → UInt8) : (hL d).length = 32 := by simp [hL]
def hZ (d : Nat → UInt8) : Bool := (List.range 32).all fun i => d i == 0
theorem hZ_hL (d : Nat → UInt8) (h : hZ d = true) : hL d = hL fun _ => 0 := by
  unfold hL
  exact List.map_congr_left fun i hi => by simpa using List.all_eq_true.1 h i hi
def inR (n lo hi : Int) : Bool := decide (lo ≤ n) && decide (n ≤ hi)
theorem inR_iff (n lo hi : Int) : inR n lo hi = true ↔ lo ≤ n ∧ n ≤ hi := by simp [inR]
def stepOk (s : Int × Int) : Bool := inR s.1 0 3 && inR s.2 1 3
/-- What a kind of record hasn't, of those that are no Begin. -/
def noBegin (x : Rc) : Bool := x.steps.isEmpty && x.data.isEmpty && hZ x.salt && !x.gone && hZ x.com
def noCall (x : Rc) : Bool := x.step == 0 && x.tr == 0 && !x.back
def noReceipt (x : Rc) : Bool := !x.good && hZ x.tag
def isCall (x : Rc) : Bool := inR x.seq 1 400 && inR x.step 0 5 && inR x.tr 1 9
/-- Is it right? -/
def rightB (x : Rc) : Bool :=
  if x.kind = 1 then inR x.saga 0 11 && x.seq == 0 && noCall x && noReceipt x && x.nd == 0 && x.part == 0 && x.epoch == 0 && inR x.steps.length 1 6 && x.steps.all stepOk && decide (x.data.length ≤ 60) && (if x.gone then x.data.isEmpty && hZ x.salt else hZ x.com)
  else if x.kind = 2 ∨ x.kind = 4 then inR x.saga 0 11 && isCall x && noReceipt x && x.nd == 0 && x.part == 0 && x.epoch == 0 && noBegin x
  else if x.kind = 3 then inR x.saga 0 11 && isCall x && x.nd == 0 && inR x.part 0 3 && inR x.epoch 0 400 && noBegin x
  else if x.kind = 5 then inR x.saga 0 11 && inR x.seq 1 400 && noCall x && noReceipt x && inR x.nd 2 4 && x.part == 0 && x.epoch == 0 && noBegin x
  else if x.kind = 6 then x.saga == 0 && x.seq == 0 && noCall x && noReceipt x && x.nd == 0 && inR x.part 0 3 && inR x.epoch 1 400 && noBegin x
  else false
section
variable (cm : (Nat → UInt8) → List UInt8 → Nat → UInt8)
/-- A Begin's commitment. -/
def comR (x : Rc) : Nat → UInt8 := if x.gone then x.com else cm x.salt x.data
def redact (x : Rc) : Rc := if x.kind = 1 then { x with gone := true, com := comR cm x, data := [], salt := fun _ => 0 } else x
def fB (b : Bool) : UInt8 := cond b 1 0
def stepsL (l : List (Int × Int)) : List UInt8 := l.flatMap fun s => numI s.1 ++ numI s.2
/-- What all calls' records begin with. -/
def callL (x : Rc) : List UInt8 := numI x.saga ++ (numI x.seq ++ (numI x.step ++ (numI x.tr ++ [fB x.back])))
def tailL (x : Rc) (com : List UInt8) : List UInt8 :=
  if x.kind = 1 then numI x.saga ++ (numI x.steps.length ++ (stepsL x.steps ++ com))
  else if x.kind = 2 ∨ x.kind = 4 then callL x
  else if x.kind = 3 then callL x ++ (fB x.good :: (numI x.part ++ (numI x.epoch ++ hL x.tag)))
  else if x.kind = 5 then numI x.saga ++ (numI x.seq ++ numI x.nd)
  else numI x.part ++ numI x.epoch
/-- Sealed bytes. -/
def sealedL (x : Rc) : List UInt8 := numI x.kind ++ tailL x (hL (comR cm x))
def payL (x : Rc) : List UInt8 := fB x.gone :: (if x.gone then hL x.com else hL x.salt ++ (numI x.data.length ++ x.data))
/-- Open bytes. -/
def openL (x : Rc) : List UInt8 := numI x.kind ++ tailL x (payL x)
/-- The same all through. -/
structure SameR (x y : Rc) : Prop where
  kind : x.kind = y.kind
  saga : x.saga = y.saga
  seq : x.seq = y.seq
  step : x.step = y.step
  tr : x.tr = y.tr
  back : x.back = y.back
  good : x.good = y.good
  nd : x.nd = y.nd
  part : x.part = y.part
  epoch : x.epoch = y.epoch
  tag : hL x.tag = hL y.tag
  steps : x.steps = y.steps
  data : x.data = y.data
  salt : hL x.salt = hL y.salt
  gone : x.gone = y.gone
  com : hL x.com = hL y.com
theorem num_cancel {m n : Int} {r s : List UInt8} (hm : 0 ≤ m ∧ m ≤ 2147483647) (hn : 0 ≤ n ∧ n ≤ 2147483647) (h : numI m ++ r = numI n ++ s) : m = n ∧ r = s := by
  obtain ⟨a, rfl⟩ := Int.eq_ofNat_of_zero_le hm.1
  obtain ⟨b, rfl⟩ := Int.eq_ofNat_of_zero_le hn.1
  rw [numI_nat a (by omega), numI_nat b (by omega)] at h
  have h1 := goN_put a (by omega) r
  rw [h, goN_put b (by omega) s] at h1
  simp only [Prod.mk.injEq] at h1
  obtain ⟨rfl, _⟩ := h1
  exact ⟨rfl, List.append_cancel_left h⟩
theorem fB_inj {a b : Bool} (h : fB a = fB b) : a = b := by cases a <;> cases b <;> first | rfl | (exact absurd h (by decide))
theorem steps_cancel : ∀ {l m : List (Int × Int)} {r s : List UInt8}, l.length = m.length → l.all stepOk = true → m.all stepOk = true → stepsL l ++ r = stepsL m ++ s → l = m ∧ r = s
  | [], [], r, s, _, _, _, h => ⟨rfl, h⟩
  | [], _ :: _, _, _, hl, _, _, _ => by simp at hl
  | _ :: _, [], _, _, hl, _, _, _ => by simp at hl
  | (a, b) :: l, (c, d) :: m, r, s, hl, h1, h2, h => by
    simp only [List.all_cons, Bool.and_eq_true, stepOk, inR_iff] at h1 h2
    simp only [stepsL, List.flatMap_cons, List.append_assoc] at h
    obtain ⟨e1, h⟩ := num_cancel (by omega) (by omega) h
    obtain ⟨e2, h⟩ := num_cancel (by omega) (by omega) h
    obtain ⟨e3, h⟩ := steps_cancel (by simpa using hl) h1.2 h2.2 h
    rw [e1, e2, e3]
    exact ⟨rfl, h⟩
theorem right_kind (x : Rc) (h : rightB x = true) : 1 ≤ x.kind ∧ x.kind ≤ 6 := by
  unfold rightB at h
  split at h
  · omega
  · split at h
    · omega
    · split at h
      · omega
      · split at h
        · omega
        · split at h
          · omega
          · cases h
theorem comR_redact (x : Rc) (h : x.kind = 1) : comR cm (redact cm x) = comR cm x := by
  unfold redact
  rw [if_pos h]
  show (if true = true then comR cm x else _) = _
  rw [if_pos rfl]
/-- What is redacted has the same sealed bytes. -/
theorem sealed_redact (x : Rc) : sealedL cm (redact cm x) = sealedL cm x := by
  by_cases h : x.kind = 1
  · unfold sealedL
    rw [comR_redact cm x h]
    unfold redact
    rw [if_pos h]
    rfl
  · unfold redact
    rw [if_neg h]
theorem redact_redact (x : Rc) : SameR (redact cm (redact cm x)) (redact cm x) := by
  by_cases h : x.kind = 1
  · have h2 : (redact cm x).kind = 1 := by unfold redact; rw [if_pos h]; exact h
    have e : redact cm (redact cm x) = { redact cm x with gone := true, com := comR cm (redact cm x), data := [], salt := fun _ => 0 } := by rw [redact, if_pos h2]
    rw [e, comR_redact cm x h]
    unfold redact
    rw [if_pos h]
    exact ⟨rfl, rfl, rfl, rfl, rfl, rfl, rfl, rfl, rfl, rfl, rfl, rfl, rfl, rfl, rfl, rfl⟩
  · have e : redact cm x = x := by unfold redact; rw [if_neg h]
    rw [e, e]
    exact ⟨rfl, rfl, rfl, rfl, rfl, rfl, rfl, rfl, rfl, rfl, rfl, rfl, rfl, rfl, rfl, rfl⟩
theorem right_redact (x : Rc) (h : rightB x = true) : rightB (redact cm x) = true := by
  unfold redact
  by_cases h1 : x.kind = 1
  · rw [if_pos h1]
    unfold rightB at h ⊢
    rw [if_pos h1] at h
    rw [if_pos h1]
    simp only [Bool.and_eq_true] at h ⊢
    obtain ⟨⟨h, _⟩, _⟩ := h
    refine ⟨⟨h, by simp⟩, ?_⟩
    simp [hZ]
  · rw [if_neg h1]; exact h
/-- Sealed bytes hang on the redacted record alone. -/
theorem sealed_same {x y : Rc} (h : SameR (redact cm x) (redact cm y)) : sealedL cm x = sealedL cm y := by
  rw [← sealed_redact cm x, ← sealed_redact cm y]
  have hk := h.kind
  have hc : x.kind = y.kind := by
    have a : ∀ z : Rc, (redact cm z).kind = z.kind := fun z => by unfold redact; split <;> rfl
    rw [a, a] at hk; exact hk
  have hcom : (redact cm x).kind = 1 → hL (comR cm (redact cm x)) = hL (comR cm (redact cm y)) := fun h1 => by
    have hx1 : x.kind = 1 := by
      have a : (redact cm x).kind = x.kind := by unfold redact; split <;> rfl
      rw [← a]; exact h1
    have a : ∀ z : Rc, z.kind = 1 → (redact cm z).com = comR cm (redact cm z) := fun z hz => by
      rw [comR_redact cm z hz]; unfold redact; rw [if_pos hz]
    rw [← a x hx1, ← a y (hc ▸ hx1)]
    exact h.com
  generalize redact cm x = u at *
  generalize redact cm y = v at *
  unfold sealedL tailL callL
  rw [h.kind, h.saga, h.seq, h.step, h.tr, h.back, h.good, h.nd, h.part, h.epoch, h.tag, h.steps]
  by_cases h1 : v.kind = 1
  · rw [if_pos h1, if_pos h1, hcom (h.kind ▸ h1)]
  · rw [if_neg h1, if_neg h1]
theorem open_same {x y : Rc} (h : SameR x y) : openL x = openL y := by
  unfold openL tailL callL payL
  rw [h.kind, h.saga, h.seq, h.step, h.tr, h.back, h.good, h.nd, h.part, h.epoch, h.tag, h.steps, h.gone, h.com, h.salt, h.data]
/-- Sealed bytes tell right records apart, but for what redacting leaves out. -/
theorem sealed_inj {x y : Rc} (hx : rightB x = true) (hy : rightB y = true) (h : sealedL cm x = sealedL cm y) : SameR (redact cm x) (redact cm y) := by
  have kx := right_kind x hx
  have ky := right_kind y hy
  unfold sealedL at h
  obtain ⟨ek, h⟩ := num_cancel (by omega) (by omega) h
  unfold tailL at h
  unfold rightB at hx hy
  unfold redact
  rw [← ek] at h hy ⊢
  by_cases k1 : x.kind = 1
  · rw [if_pos k1] at h hx hy
    rw [if_pos k1] at h
    rw [if_pos k1, if_pos k1]
    simp only [Bool.and_eq_true, inR_iff, noCall, noReceipt, beq_iff_eq, decide_eq_true_eq, Bool.not_eq_true'] at hx hy
    obtain ⟨⟨⟨⟨⟨⟨⟨⟨⟨⟨a1, a2⟩, ⟨a3, a4⟩, a5⟩, a6, a7⟩, a8⟩, a9⟩, a10⟩, a11⟩, a12⟩, a13⟩, a14⟩ := hx
    obtain ⟨⟨⟨⟨⟨⟨⟨⟨⟨⟨b1, b2⟩, ⟨b3, b4⟩, b5⟩, b6, b7⟩, b8⟩, b9⟩, b10⟩, b11⟩, b12⟩, b13⟩, b14⟩ := hy
    obtain ⟨e1, h⟩ := num_cancel (by omega) (by omega) h
    obtain ⟨e2, h⟩ := num_cancel (by omega) (by omega) h
    obtain ⟨e3, h⟩ := steps_cancel (by omega) a12 b12 h
    exact ⟨rfl, e1, a2.trans b2.symm, a3.trans b3.symm, a4.trans b4.symm, a5.trans b5.symm, a6.trans b6.symm, a8.trans b8.symm, a9.trans b9.symm, a10.trans b10.symm, (hZ_hL _ a7).trans (hZ_hL _ b7).symm, e3, rfl, rfl, rfl, h⟩
  rw [if_neg k1] at h hx hy
  rw [if_neg k1] at h
  rw [if_neg k1, if_neg k1]
  by_cases k2 : x.kind = 2 ∨ x.kind = 4
  · rw [if_pos k2] at h hx hy
    rw [if_pos k2] at h
    simp only [Bool.and_eq_true, inR_iff, isCall, noReceipt, noBegin, beq_iff_eq, Bool.not_eq_true', List.isEmpty_iff] at hx hy
    obtain ⟨⟨⟨⟨⟨⟨a1, ⟨a2, a3⟩, a4⟩, a5, a6⟩, a7⟩, a8⟩, a9⟩, ⟨⟨⟨a10, a11⟩, a12⟩, a13⟩, a14⟩ := hx
    obtain ⟨⟨⟨⟨⟨⟨b1, ⟨b2, b3⟩, b4⟩, b5, b6⟩, b7⟩, b8⟩, b9⟩, ⟨⟨⟨b10, b11⟩, b12⟩, b13⟩, b14⟩ := hy
    unfold callL at h
    obtain ⟨e1, h⟩ := num_cancel (by omega) (by omega) h
    obtain ⟨e2, h⟩ := num_cancel (by omega) (by omega) h
    obtain ⟨e3, h⟩ := num_cancel (by omega) (by omega) h
    obtain ⟨e4, h⟩ := num_cancel (by omega) (by omega) h
    exact ⟨ek, e1, e2, e3, e4, fB_inj (by simpa using h), a5.trans b5.symm, a7.trans b7.symm, a8.trans b8.symm, a9.trans b9.symm, (hZ_hL _ a6).trans (hZ_hL _ b6).symm, a10.trans b10.symm, a11.trans b11.symm, (hZ_hL _ a12).trans (hZ_hL _ b12).symm, a13.trans b13.symm, (hZ_hL _ a14).trans (hZ_hL _ b14).symm⟩
  rw [if_neg k2] at h hx hy
  rw [if_neg k2] at h
  by_cases k3 : x.kind = 3
  · rw [if_pos k3] at h hx hy
    rw [if_pos k3] at h
    simp only [Bool.and_eq_true, inR_iff, isCall, noBegin, beq_iff_eq, Bool.not_eq_true', List.isEmpty_iff] at hx hy
    obtain ⟨⟨⟨⟨⟨a1, ⟨a2, a3⟩, a4⟩, a7⟩, a8⟩, a9⟩, ⟨⟨⟨a10, a11⟩, a12⟩, a13⟩, a14⟩ := hx
    obtain ⟨⟨⟨⟨⟨b1, ⟨b2, b3⟩, b4⟩, b7⟩, b8⟩, b9⟩, ⟨⟨⟨b10, b11⟩, b12⟩, b13⟩, b14⟩ := hy
    unfold callL at h
    simp only [List.append_assoc] at h
    obtain ⟨e1, h⟩ := num_cancel (by omega) (by omega) h
    obtain ⟨e2, h⟩ := num_cancel (by omega) (by omega) h
    obtain ⟨e3, h⟩ := num_cancel (by omega) (by omega) h
    obtain ⟨e4, h⟩ := num_cancel (by omega) (by omega) h
    simp only [List.cons_append, List.nil_append, List.cons.injEq] at h
    obtain ⟨e5, e6, h⟩ := h
    obtain ⟨e7, h⟩ := num_cancel (by omega) (by omega) h
    obtain ⟨e8, h⟩ := num_cancel (by omega) (by omega) h
    exact ⟨ek, e1, e2, e3, e4, fB_inj e5, fB_inj e6, a7.trans b7.symm, e7, e8, h, a10.trans b10.symm, a11.trans b11.symm, (hZ_hL _ a12).trans (hZ_hL _ b12).symm, a13.trans b13.symm, (hZ_hL _ a14).trans (hZ_hL _ b14).symm⟩
  rw [if_neg k3] at h hx hy
  rw [if_neg k3] at h
  by_cases k5 : x.kind = 5
  · rw [if_pos k5] at h hx hy
    rw [if_pos k5] at h
    simp only [Bool.and_eq_true, inR_iff, noCall, noReceipt, noBegin, beq_iff_eq, Bool.not_eq_true', List.isEmpty_iff] at hx hy
    obtain ⟨⟨⟨⟨⟨⟨⟨a1, a2⟩, ⟨a3, a4⟩, a5⟩, a6, a7⟩, a8⟩, a9⟩, aA⟩, ⟨⟨⟨a10, a11⟩, a12⟩, a13⟩, a14⟩ := hx
    obtain ⟨⟨⟨⟨⟨⟨⟨b1, b2⟩, ⟨b3, b4⟩, b5⟩, b6, b7⟩, b8⟩, b9⟩, bA⟩, ⟨⟨⟨b10, b11⟩, b12⟩, b13⟩, b14⟩ := hy
    obtain ⟨e1, h⟩ := num_cancel (by omega) (by omega) h
    obtain ⟨e2, h⟩ := num_cancel (by omega) (by omega) h
    obtain ⟨e3, _⟩ := num_cancel (r := []) (s := []) (m := x.nd) (n := y.nd) (by omega) (by omega) (by simpa using h)
    exact ⟨ek, e1, e2, a3.trans b3.symm, a4.trans b4.symm, a5.trans b5.symm, a6.trans b6.symm, e3, a9.trans b9.symm, aA.trans bA.symm, (hZ_hL _ a7).trans (hZ_hL _ b7).symm, a10.trans b10.symm, a11.trans b11.symm, (hZ_hL _ a12).trans (hZ_hL _ b12).symm, a13.trans b13.symm, (hZ_hL _ a14).trans (hZ_hL _ b14).symm⟩
  rw [if_neg k5] at h hx hy
  rw [if_neg k5] at h
  have k6 : x.kind = 6 := by omega
  rw [if_pos k6] at hx hy
  simp only [Bool.and_eq_true, inR_iff, noCall, noReceipt, noBegin, beq_iff_eq, Bool.not_eq_true', List.isEmpty_iff] at hx hy
  obtain ⟨⟨⟨⟨⟨⟨⟨a1, a2⟩, ⟨a3, a4⟩, a5⟩, a6, a7⟩, a8⟩, a9⟩, aA⟩, ⟨⟨⟨a10, a11⟩, a12⟩, a13⟩, a14⟩ := hx
  obtain ⟨⟨⟨⟨⟨⟨⟨b1, b2⟩, ⟨b3, b4⟩, b5⟩, b6, b7⟩, b8⟩, b9⟩, bA⟩, ⟨⟨⟨b10, b11⟩, b12⟩, b13⟩, b14⟩ := hy
  obtain ⟨e1, h⟩ := num_cancel (by omega) (by omega) h
  obtain ⟨e3, _⟩ := num_cancel (r := []) (s := []) (m := x.epoch) (n := y.epoch) (by omega) (by omega) (by simpa using h)
  exact ⟨ek, a1.trans b1.symm, a2.trans b2.symm, a3.trans b3.symm, a4.trans b4.symm, a5.trans b5.symm, a6.trans b6.symm, a8.trans b8.symm, e1, e3, (hZ_hL _ a7).trans (hZ_hL _ b7).symm, a10.trans b10.symm, a11.trans b11.symm, (hZ_hL _ a12).trans (hZ_hL _ b12).symm, a13.trans b13.symm, (hZ_hL _ a14).trans (hZ_hL _ b14).symm⟩
theorem sealed_iff {x y : Rc} (hx : rightB x = true) (hy : rightB y = true) : sealedL cm x = sealedL cm y ↔ SameR (redact cm x) (redact cm y) := ⟨sealed_inj cm hx hy, sealed_same cm⟩
theorem numI_small (k : Int) (h : 0 ≤ k) (h2 : k < 128) : numI k = [uB k.toNat] := by
  unfold numI numL
  rw [if_pos (by omega), if_pos (by omega)]
theorem open_other (x : Rc) (h : x.kind ≠ 1) : openL x = sealedL cm x := by
  unfold openL sealedL tailL
  rw [if_neg h, if_neg h]
theorem open_length (x : Rc) (h : x.kind = 1) : (openL x).length = (sealedL cm x).length + (if x.gone then 1 else 1 + (numI x.data.length).length + x.data.length) := by
  unfold openL sealedL tailL payL
  rw [if_pos h, if_pos h]
  cases x.gone
  · simp [hL_length]; omega
  · simp [hL_length]; omega
theorem numI_pos (n : Nat) (h : n ≤ 2147483647) : 1 ≤ (numI (n : Int)).length := by rw [numI_nat n h, numL_length]; exact sz_pos n
end
end Go.Proofs.Ytenmoljaeeeaaaa
/- A record that came in, opened: a struct by value of 109 cells, read as a record on lists. No program is named here but by its facts on types. -/
namespace Go.Proofs.Ytenmoljaeeeaaaa
open Go Go.ChangeShapes Go.WideShapes Go.ChangeAt Go.WideMaps Go.WideElems Go.RowKit
set_option maxRecDepth 8000
set_option linter.all false

section
variable {H : Type} {enc : TypeId × Value → H} {P : Program} {w : World} {base : Nat} {spare : Nat → Bool} {held : Bool}
theorem open_fields {r : Reach} {b0 : Nat} {t : TypeId} {fs : Array Field} {v : Value} {d : DataW H} {p : List MemPlace} (hs : P.underlying t = some (.struct fs)) (hv : Value.okWide P w r b0 t v) (h : DataW.Trod enc P w base spare held t v d p) :
    ∃ (cs : Array Value) (n : Nat), v = .agg cs ∧ cs.size = P.cellsOf t ∧ ∀ (i : Nat) (f : Field), fs[i]? = some f → ∃ y, DataW.trod enc P w base spare held n f.type ((cs.toList.drop f.offset).take (P.cellsOf f.type)) = some y := by
  obtain ⟨cs, rfl, hsz⟩ := okWide_struct hs hv
  obtain ⟨fuel, hf⟩ := h
  obtain ⟨xs, n, _, _, _, hl, hx⟩ := DataW.trod_struct hs hf
  refine ⟨cs, n, rfl, hsz, fun i f hi => ?_⟩
  have hlt : i < xs.length := by rw [hl]; exact (Array.getElem?_eq_some_iff.1 hi).1
  exact ⟨xs[i], by rw [← List.getElem?_eq_getElem hlt]; exact hx i f hi⟩
theorem take_one {cs : Array Value} {o : Nat} {c : Value} (h : (cs.toList.drop o).take 1 = [c]) : cs[o]? = some c := by
  have := congrArg (·[0]?) h
  simpa using this
variable {n : Nat} {ty : TypeId} {o : Nat} {cs : Array Value}
theorem field_int {k : IntKind} (hT : P.underlying ty = some (.int k)) (hc : P.cellsOf ty = 1) (h : ∃ y, DataW.trod enc P w base spare held n ty ((cs.toList.drop o).take (P.cellsOf ty)) = some y) : ∃ z, cs[o]? = some (.int k z) ∧ (Lit.int k z).wf = true := by
  obtain ⟨y, h⟩ := h
  obtain ⟨z, hz, _, hw⟩ := DataW.trod_int hT h
  rw [hc] at hz
  exact ⟨z, take_one hz, hw⟩
theorem field_bool (hT : P.underlying ty = some .bool) (hc : P.cellsOf ty = 1) (h : ∃ y, DataW.trod enc P w base spare held n ty ((cs.toList.drop o).take (P.cellsOf ty)) = some y) : ∃ b, cs[o]? = some (.bool b) := by
  obtain ⟨y, h⟩ := h
  obtain ⟨b, hb, _⟩ := DataW.trod_bool hT h
  rw [hc] at hb
  exact ⟨b, take_one hb⟩
theorem field_hash {e : TypeId} {m : Nat} (hT : P.underlying ty = some (.array m e)) (he : P.underlying e = some (.int .u8)) (hc : P.cellsOf ty = m) (hce : P.cellsOf e = 1) (h : ∃ y, DataW.trod enc P w base spare held n ty ((cs.toList.drop o).take (P.cellsOf ty)) = some y) : ∃ d : Nat → UInt8, ∀ i, i < m → cs[o + i]? = some (.int .u8 (bN (d i))) := by
  obtain ⟨y, h⟩ := h
  obtain ⟨xs, n', _, _, hl, hxl, hel⟩ := DataW.trod_array hT h
  have hall : ∀ i, i < m → ∃ z, cs[o + i]? = some (.int .u8 z) ∧ (Lit.int .u8 z).wf = true := fun i hi => by
    have h1 := hel i hi
    rw [hce, Nat.mul_one, List.getElem?_eq_getElem (by omega)] at h1
    obtain ⟨z, hz, _, hw⟩ := DataW.trod_int he h1
    refine ⟨z, ?_, hw⟩
    have := congrArg (·[0]?) hz
    rw [hc] at this
    simpa [List.getElem?_take, List.getElem?_drop, hi] using this
  refine ⟨fun i => match cs[o + i]? with | some (.int _ z) => UInt8.ofNat z.toNat | _ => 0, fun i hi => ?_⟩
  obtain ⟨z, hz, hw⟩ := hall i hi
  have hb := bounds_u8 hw
  simp only [hz]
  unfold bN
  rw [UInt8.toNat_ofNat']
  congr 2
  omega
theorem field_bytes {e : TypeId} (hT : P.underlying ty = some (.slice e)) (he : P.underlying e = some (.int .u8)) (hc : P.cellsOf ty = 1) (hce : P.cellsOf e = 1) (h : ∃ y, DataW.trod enc P w base spare held n ty ((cs.toList.drop o).take (P.cellsOf ty)) = some y) : ∃ v l, cs[o]? = some v ∧ RdV w [] v l := by
  obtain ⟨y, h⟩ := h
  rw [hc] at h
  rcases open_ints hT he hce h with ⟨hcs, _⟩ | ⟨a, len, cap, zs, hcs, _, hl, hm, hz, _, hcell, hwz⟩
  · exact ⟨_, [], take_one hcs, none, 0, rfl, by simp, by unfold maxLen; omega, fun h0 => absurd h0 (by simp)⟩
  · have hlz : len ≤ zs.length := by rw [hz]; split <;> omega
    have hlen : ((zs.take len).map fun z => UInt8.ofNat z.toNat).length = len := by simp; omega
    refine ⟨_, (zs.take len).map fun z => UInt8.ofNat z.toNat, take_one hcs, some a, cap, by rw [hlen], by rw [hlen]; exact hl, hm, fun h0 => ?_⟩
    rw [hlen] at h0
    obtain ⟨b, off, rfl, hc⟩ := ints_at hcell (by omega)
    refine ⟨b, off, rfl, by simp, fun i hi => ?_⟩
    rw [hlen] at hi
    rw [hc i (by omega)]
    have hzi : zs[i]? = some zs[i] := List.getElem?_eq_getElem (by omega)
    have hb := bounds_u8 (hwz zs[i] (List.getElem_mem (by omega)))
    have e1 : bAt ((zs.take len).map fun z => UInt8.ofNat z.toNat) i = UInt8.ofNat zs[i].toNat := by simp [bAt, hi, hzi]
    rw [e1]
    unfold bN
    rw [UInt8.toNat_ofNat']
    simp [List.getD, hzi]
    omega
/-- A slice of pairs of numbers reads as l. -/
def RdP (W : World) (v : Value) (l : List (Int × Int)) : Prop :=
  ∃ A cap, v = .slice A l.length cap ∧ l.length ≤ cap ∧ cap ≤ maxLen ∧ (0 < l.length → ∃ b o, A = some ⟨b, o, none⟩ ∧ ∀ i, i < l.length → W.cell? ⟨b, o + 2 * i, none⟩ = some (.int .i64 (l.getD i (0, 0)).1) ∧ W.cell? ⟨b, o + 2 * i + 1, none⟩ = some (.int .i64 (l.getD i (0, 0)).2))
theorem NewT.pairs {w w' : World} (h : NewT w w') {v : Value} {l : List (Int × Int)} (hr : RdP w v l) : RdP w' v l := by
  obtain ⟨A, cap, hv, h1, h2, h3⟩ := hr
  refine ⟨A, cap, hv, h1, h2, fun h0 => ?_⟩
  obtain ⟨b, o, hA, hc⟩ := h3 h0
  refine ⟨b, o, hA, fun i hi => ⟨?_, ?_⟩⟩
  · exact (h.out.cell (p := ⟨b, o + 2 * i, none⟩) (World.block_lt_of_cell? _ _ (hc i hi).1)).trans (hc i hi).1
  · exact (h.out.cell (p := ⟨b, o + 2 * i + 1, none⟩) (World.block_lt_of_cell? _ _ (hc i hi).2)).trans (hc i hi).2
theorem field_pairs {e : TypeId} {f0 f1 : Field} (hT : P.underlying ty = some (.slice e)) (he : P.underlying e = some (.struct #[f0, f1])) (ce : P.cellsOf e = 2) (o0 : f0.offset = 0) (o1 : f1.offset = 1) (c0 : P.cellsOf f0.type = 1) (c1 : P.cellsOf f1.type = 1)
    (t0 : P.underlying f0.type = some (.int .i64)) (t1 : P.underlying f1.type = some (.int .i64)) (hc : P.cellsOf ty = 1) (h : ∃ y, DataW.trod enc P w base spare held n ty ((cs.toList.drop o).take (P.cellsOf ty)) = some y) : ∃ v l, cs[o]? = some v ∧ RdP w v l := by
  obtain ⟨y, h⟩ := h
  rw [hc] at h
  rcases Go.Deep.open_slice_pairs hT he ce o0 o1 c0 c1 h with ⟨hcs, _⟩ | ⟨a, len, cap, m, n', V0, V1, D0, D1, P0, P1, hcs, _, hl, hm, hmm, _, hx⟩
  · exact ⟨_, [], take_one hcs, none, 0, rfl, by simp, by unfold maxLen; omega, fun h0 => absurd h0 (by simp)⟩
  · have hlm : len ≤ m := by rw [hmm]; split <;> omega
    have hi : ∀ i, i < len → ∃ z0 z1, V0 i = .int .i64 z0 ∧ V1 i = .int .i64 z1 := fun i hi => by
      obtain ⟨_, _, h0, h1⟩ := hx i (by omega)
      obtain ⟨z0, e0, _⟩ := DataW.trod_int t0 h0
      obtain ⟨z1, e1, _⟩ := DataW.trod_int t1 h1
      exact ⟨z0, z1, by simpa using e0, by simpa using e1⟩
    let g : Nat → Int × Int := fun i => (match V0 i with | .int _ z => z | _ => 0, match V1 i with | .int _ z => z | _ => 0)
    have hlen : ((List.range len).map g).length = len := by simp
    refine ⟨_, (List.range len).map g, take_one hcs, some a, cap, by rw [hlen], by rw [hlen]; exact hl, hm, fun h0 => ?_⟩
    rw [hlen] at h0
    obtain ⟨b, off, spot⟩ := a
    have hspot : spot = none := by simpa [Addr.add] using World.cell?_spot (hx 0 (by omega)).1
    subst hspot
    refine ⟨b, off, rfl, fun i hil => ?_⟩
    rw [hlen] at hil
    obtain ⟨k0, k1, _, _⟩ := hx i (by omega)
    obtain ⟨z0, z1, e0, e1⟩ := hi i hil
    have hg : ((List.range len).map g).getD i (0, 0) = (z0, z1) := by simp [hil, g, e0, e1]
    rw [hg]
    rw [Go.WideShapes.add_plain, e0] at k0
    rw [Go.WideShapes.add_plain, e1] at k1
    refine ⟨by rw [Nat.mul_comm 2 i]; exact k0, by rw [Nat.mul_comm 2 i, Nat.add_assoc]; exact k1⟩
end
/-- The cells of a record. -/
def recF (x : Rc) (sv dv : Value) (i : Nat) : Value :=
  if i < 10 then (if i = 0 then .int .i64 x.kind else if i = 1 then .int .i64 x.saga else if i = 2 then .int .i64 x.seq else if i = 3 then .int .i64 x.step else if i = 4 then .int .i64 x.tr else if i = 5 then .bool x.back else if i = 6 then .bool x.good else if i = 7 then .int .i64 x.nd else if i = 8 then .int .i64 x.part else .int .i64 x.epoch)
  else if i < 42 then bF x.tag (i - 10) else if i = 42 then sv else if i = 43 then dv else if i < 76 then bF x.salt (i - 44) else if i = 76 then .bool x.gone else bF x.com (i - 77)
/-- A value that is a record. -/
def RecV (w : World) (v : Value) (x : Rc) : Prop := ∃ sv dv, v = .agg (rowA 109 (recF x sv dv)) ∧ RdP w sv x.steps ∧ RdV w [] dv x.data
theorem NewT.recV {w w' : World} (h : NewT w w') {v : Value} {x : Rc} (hr : RecV w v x) : RecV w' v x := by
  obtain ⟨sv, dv, h1, h2, h3⟩ := hr
  exact ⟨sv, dv, h1, h.pairs h2, h.rd h3⟩
/-- What a program's types must say of a record's 16 fields. -/
structure RecTy (P : Program) (t : TypeId) : Prop where
  fields : ∃ fs : Array Field, P.underlying t = some (.struct fs) ∧ P.cellsOf t = 109 ∧
    (∀ i, i ∈ [0, 1, 2, 3, 4, 7, 8, 9] → ∃ f, fs[i]? = some f ∧ f.offset = i ∧ P.underlying f.type = some (.int .i64) ∧ P.cellsOf f.type = 1) ∧
    (∀ i, i ∈ [(5, 5), (6, 6), (14, 76)] → ∃ f, fs[i.1]? = some f ∧ f.offset = i.2 ∧ P.underlying f.type = some .bool ∧ P.cellsOf f.type = 1) ∧
    (∀ i, i ∈ [(10, 10), (13, 44), (15, 77)] → ∃ f e, fs[i.1]? = some f ∧ f.offset = i.2 ∧ P.underlying f.type = some (.array 32 e) ∧ P.underlying e = some (.int .u8) ∧ P.cellsOf f.type = 32 ∧ P.cellsOf e = 1) ∧
    (∃ f e f0 f1, fs[11]? = some f ∧ f.offset = 42 ∧ P.underlying f.type = some (.slice e) ∧ P.underlying e = some (.struct #[f0, f1]) ∧ P.cellsOf e = 2 ∧ f0.offset = 0 ∧ f1.offset = 1 ∧ P.cellsOf f0.type = 1 ∧ P.cellsOf f1.type = 1 ∧ P.underlying f0.type = some (.int .i64) ∧ P.underlying f1.type = some (.int .i64) ∧ P.cellsOf f.type = 1) ∧
    (∃ f e, fs[12]? = some f ∧ f.offset = 43 ∧ P.underlying f.type = some (.slice e) ∧ P.underlying e = some (.int .u8) ∧ P.cellsOf f.type = 1 ∧ P.cellsOf e = 1)
set_option maxHeartbeats 1000000 in
theorem open_rec {H : Type} {enc : TypeId × Value → H} {P : Program} {w : World} {base : Nat} {spare : Nat → Bool} {held : Bool} {r : Reach} {b0 : Nat} {t : TypeId} {v : Value} {d : DataW H} {p : List MemPlace} (ht : RecTy P t) (hv : Value.okWide P w r b0 t v) (h : DataW.Trod enc P w base spare held t v d p) :
    ∃ x : Rc, RecV w v x ∧ ∀ z, z ∈ [x.kind, x.saga, x.seq, x.step, x.tr, x.nd, x.part, x.epoch] → (Lit.int .i64 z).wf = true := by
  obtain ⟨fs, hs, hct, hint, hbool, hhash, ⟨fS, eS, f0, f1, iS, oS, tS, teS, ceS, o0, o1, c0, c1, t0, t1, cS⟩, ⟨fD, eD, iD, oD, tD, teD, cD, ceD⟩⟩ := ht.fields
  obtain ⟨cs, n, rfl, hsz, hf⟩ := open_fields hs hv h
  rw [hct] at hsz
  have gi : ∀ i, i ∈ [0, 1, 2, 3, 4, 7, 8, 9] → ∃ z, cs[i]? = some (.int .i64 z) ∧ (Lit.int .i64 z).wf = true := fun i hi => by
    obtain ⟨f, h1, h2, h3, h4⟩ := hint i hi
    have := hf i f h1
    rw [h2] at this
    exact field_int h3 h4 this
  have gb : ∀ i, i ∈ [(5, 5), (6, 6), (14, 76)] → ∃ b, cs[i.2]? = some (.bool b) := fun i hi => by
    obtain ⟨f, h1, h2, h3, h4⟩ := hbool i hi
    have := hf i.1 f h1
    rw [h2] at this
    exact field_bool h3 h4 this
  have gh : ∀ i, i ∈ [(10, 10), (13, 44), (15, 77)] → ∃ d : Nat → UInt8, ∀ j, j < 32 → cs[i.2 + j]? = some (.int .u8 (bN (d j))) := fun i hi => by
    obtain ⟨f, e, h1, h2, h3, h4, h5, h6⟩ := hhash i hi
    have := hf i.1 f h1
    rw [h2] at this
    exact field_hash h3 h4 h5 h6 this
  have gS := hf 11 fS iS
  rw [oS] at gS
  obtain ⟨sv, ls, hS, rS⟩ := field_pairs tS teS ceS o0 o1 c0 c1 t0 t1 cS gS
  have gD := hf 12 fD iD
  rw [oD] at gD
  obtain ⟨dv, ld, hD, rD⟩ := field_bytes tD teD cD ceD gD
  obtain ⟨z0, k0, w0⟩ := gi 0 (by simp)
  obtain ⟨z1, k1, w1⟩ := gi 1 (by simp)
  obtain ⟨z2, k2, w2⟩ := gi 2 (by simp)
  obtain ⟨z3, k3, w3⟩ := gi 3 (by simp)
  obtain ⟨z4, k4, w4⟩ := gi 4 (by simp)
  obtain ⟨z7, k7, w7⟩ := gi 7 (by simp)
  obtain ⟨z8, k8, w8⟩ := gi 8 (by simp)
  obtain ⟨z9, k9, w9⟩ := gi 9 (by simp)
  obtain ⟨b5, k5⟩ := gb (5, 5) (by simp)
  obtain ⟨b6, k6⟩ := gb (6, 6) (by simp)
  obtain ⟨bg, kg⟩ := gb (14, 76) (by simp)
  obtain ⟨d1, kd1⟩ := gh (10, 10) (by simp)
  obtain ⟨d2, kd2⟩ := gh (13, 44) (by simp)
  obtain ⟨d3, kd3⟩ := gh (15, 77) (by simp)
  refine ⟨⟨z0, z1, z2, z3, z4, b5, b6, z7, z8, z9, d1, ls, ld, d2, bg, d3⟩, ⟨sv, dv, ?_, rS, rD⟩, fun z hz => ?_⟩
  · congr 1
    apply Array.ext_getElem?
    intro i
    by_cases hi : i < 109
    · rw [rowA_at _ _ _ hi]
      unfold recF
      by_cases h10 : i < 10
      · rw [if_pos h10]
        have : i = 0 ∨ i = 1 ∨ i = 2 ∨ i = 3 ∨ i = 4 ∨ i = 5 ∨ i = 6 ∨ i = 7 ∨ i = 8 ∨ i = 9 := by omega
        rcases this with rfl | rfl | rfl | rfl | rfl | rfl | rfl | rfl | rfl | rfl <;> simpa
      rw [if_neg h10]
      by_cases h42 : i < 42
      · rw [if_pos h42]
        have := kd1 (i - 10) (by omega)
        rw [show (10, 10).2 + (i - 10) = i by simp; omega] at this
        exact this
      rw [if_neg h42]
      by_cases e42 : i = 42
      · subst e42; rw [if_pos rfl]; exact hS
      rw [if_neg e42]
      by_cases e43 : i = 43
      · subst e43; rw [if_pos rfl]; exact hD
      rw [if_neg e43]
      by_cases h76 : i < 76
      · rw [if_pos h76]
        have := kd2 (i - 44) (by omega)
        rw [show (13, 44).2 + (i - 44) = i by simp; omega] at this
        exact this
      rw [if_neg h76]
      by_cases e76 : i = 76
      · subst e76; rw [if_pos rfl]; exact kg
      rw [if_neg e76]
      have := kd3 (i - 77) (by omega)
      rw [show (15, 77).2 + (i - 77) = i by simp; omega] at this
      exact this
    · rw [Array.getElem?_eq_none (by omega), Array.getElem?_eq_none (by rw [rowA_size]; omega)]
  · simp only [List.mem_cons, List.not_mem_nil, or_false] at hz
    rcases hz with rfl | rfl | rfl | rfl | rfl | rfl | rfl | rfl <;> assumption
end Go.Proofs.Ytenmoljaeeeaaaa
/- An argument that is a slice of structs of two numbers and bytes, opened (the acts of layers 8 and 9). No program is named here but by its facts on types. -/
namespace Go.Proofs.Ytenmoljaeeeaaaa
open Go Go.ChangeShapes Go.WideShapes Go.ChangeAt Go.WideMaps Go.WideElems Go.RowKit
set_option maxRecDepth 8000
set_option linter.all false
/-- What the program's types must say. -/
structure ActTy (P : Program) (t e b8 : TypeId) (f0 f1 f2 : Field) : Prop where
  sl : P.underlying t = some (.slice e)
  st : P.underlying e = some (.struct #[f0, f1, f2])
  ce : P.cellsOf e = 3
  i0 : P.underlying f0.type = some (.int .i64)
  i1 : P.underlying f1.type = some (.int .i64)
  s2 : P.underlying f2.type = some (.slice b8)
  u8 : P.underlying b8 = some (.int .u8)
  c0 : P.cellsOf f0.type = 1
  c1 : P.cellsOf f1.type = 1
  c2 : P.cellsOf f2.type = 1
  c8 : P.cellsOf b8 = 1
  o0 : f0.offset = 0
  o1 : f1.offset = 1
  o2 : f2.offset = 2
/-- A slice of acts: a kind, a number, bytes. -/
def ActsAt (w : World) (v : Value) (l : List (Int × Int × List UInt8)) : Prop :=
  ∃ A cap, v = .slice A l.length cap ∧ l.length ≤ cap ∧ cap ≤ maxLen ∧ (0 < l.length → ∃ b o, A = some ⟨b, o, none⟩ ∧ ∀ i x, l[i]? = some x →
    w.cell? ⟨b, o + i * 3, none⟩ = some (.int .i64 x.1) ∧ w.cell? ⟨b, o + i * 3 + 1, none⟩ = some (.int .i64 x.2.1) ∧ ∃ u, w.cell? ⟨b, o + i * 3 + 2, none⟩ = some u ∧ RdV w [] u x.2.2)
/-- Slices of acts that came in read as lists; their numbers are numbers of 64 bits. -/
theorem open_acts {H : Type} {enc : TypeId × Value → H} {P : Program} {w : World} {base : Nat} {spare : Nat → Bool} {held : Bool} {r : Reach} {b0 : Nat} {t e b8 : TypeId} {f0 f1 f2 : Field} {v : Value} {d : DataW H} {p : List MemPlace} (T : ActTy P t e b8 f0 f1 f2)
    (hv : Value.okWide P w r b0 t v) (h : DataW.Trod enc P w base spare held t v d p) : ∃ l : List (Int × Int × List UInt8), ActsAt w v l ∧ ∀ x ∈ l, (Lit.int .i64 x.1).wf = true ∧ (Lit.int .i64 x.2.1).wf = true := by
  obtain ⟨a0, len, cap, rfl⟩ := okWide_slice T.sl hv
  obtain ⟨fuel, hf⟩ := h
  rcases Go.Deep.open_slice T.sl hf with ⟨hcs, _⟩ | ⟨a, len', cap', m, n, D, Pl, hcs, _, hl, hm, hmm, _, hx⟩
  · simp [Value.cells] at hcs
    obtain ⟨rfl, rfl, rfl⟩ := hcs
    exact ⟨[], ⟨none, 0, rfl, by simp, by unfold maxLen; omega, fun h0 => absurd h0 (by simp)⟩, fun x hx => by simp at hx⟩
  · simp [Value.cells] at hcs
    obtain ⟨rfl, rfl, rfl⟩ := hcs
    have hlm : len ≤ m := by rw [hmm]; split <;> omega
    have each : ∀ i, i < len → ∃ x : Int × Int × List UInt8, (w.cell? (a.add (i * 3)) = some (.int .i64 x.1) ∧ w.cell? (a.add (i * 3 + 1)) = some (.int .i64 x.2.1) ∧ ∃ u, w.cell? (a.add (i * 3 + 2)) = some u ∧ RdV w [] u x.2.2) ∧ (Lit.int .i64 x.1).wf = true ∧ (Lit.int .i64 x.2.1).wf = true := fun i hi => by
      obtain ⟨cs', h1, h2⟩ := hx i (by omega)
      rw [T.ce] at h1
      obtain ⟨_, hlen, hcell⟩ := World.cells?_some h1
      obtain ⟨xs, k, _, _, _, hxl, hel⟩ := DataW.trod_struct T.st h2
      have fld : ∀ (j : Nat) (f : Field), #[f0, f1, f2][j]? = some f → ∃ y, DataW.trod enc P w base spare held k f.type ((cs'.toArray.toList.drop f.offset).take (P.cellsOf f.type)) = some y := fun j f hj => by
        have hlt : j < xs.length := by rw [hxl]; exact (Array.getElem?_eq_some_iff.1 hj).1
        exact ⟨xs[j], by rw [← List.getElem?_eq_getElem hlt]; simpa using hel j f hj⟩
      obtain ⟨z0, e0, w0⟩ := field_int T.i0 T.c0 (fld 0 f0 rfl)
      obtain ⟨z1, e1', w1⟩ := field_int T.i1 T.c1 (fld 1 f1 rfl)
      obtain ⟨u, l, e2', hr⟩ := field_bytes T.s2 T.u8 T.c2 T.c8 (fld 2 f2 rfl)
      rw [T.o0] at e0
      rw [T.o1] at e1'
      rw [T.o2] at e2'
      have c0 := hcell 0 (by omega)
      have c1 := hcell 1 (by omega)
      have c2 := hcell 2 (by omega)
      rw [Go.Deep.add_add] at c0 c1 c2
      refine ⟨(z0, z1, l), ⟨?_, ?_, u, ?_, hr⟩, w0, w1⟩
      · rw [Nat.add_zero] at c0; rw [c0]; simpa using e0
      · rw [c1]; simpa using e1'
      · rw [c2]; simpa using e2'
    obtain ⟨q, hq⟩ := Go.Deep.choose_lt each
    have hlen : ((List.range len).map q).length = len := by simp
    refine ⟨(List.range len).map q, ⟨some a, cap, by rw [hlen], by rw [hlen]; exact hl, hm, fun h0 => ?_⟩, fun x hx' => ?_⟩
    · rw [hlen] at h0
      obtain ⟨b, off, spot⟩ := a
      have hspot : spot = none := by simpa [Addr.add] using World.cell?_spot (hq 0 h0).1.1
      subst hspot
      refine ⟨b, off, rfl, fun i x hx' => ?_⟩
      have hi : i < len := by have := (List.getElem?_eq_some_iff.1 hx').1; simpa using this
      simp [hi] at hx'
      subst hx'
      obtain ⟨h1, h2, u, h3, h4⟩ := (hq i hi).1
      rw [Go.WideShapes.add_plain] at h1 h2 h3
      exact ⟨h1, by rw [Nat.add_assoc]; exact h2, u, by rw [Nat.add_assoc]; exact h3, h4⟩
    · obtain ⟨i, hi, rfl⟩ := List.mem_map.1 hx'
      exact (hq i (by simpa using hi)).2
end Go.Proofs.Ytenmoljaeeeaaaa
/- The law's question whether acts may be looked at. -/
namespace Go.Proofs.Ytenmoljaeeeaaaa
open Go Go.RowKit
set_option maxRecDepth 8000
set_option linter.all false
theorem actTy : ∃ f0 f1 f2, ActTy Try.prog 22 38 5 f0 f1 f2 := by
  refine ⟨_, _, _, Try.underlying22, Try.underlying38, ?_, Try.underlying3, Try.underlying3, Try.underlying31, Try.underlying5, ?_, ?_, ?_, ?_, rfl, rfl, rfl⟩
  all_goals kernel_rfl
theorem open_acts8 {H : Type} {enc : TypeId × Value → H} {w : World} {base : Nat} {spare : Nat → Bool} {held : Bool} {r : Reach} {b0 : Nat} {v : Value} {d : DataW H} {p : List MemPlace}
    (hv : Value.okWide Try.prog w r b0 22 v) (h : DataW.Trod enc Try.prog w base spare held 22 v d p) : ∃ l : List (Int × Int × List UInt8), ActsAt w v l ∧ ∀ x ∈ l, (Lit.int .i64 x.1).wf = true ∧ (Lit.int .i64 x.2.1).wf = true := by
  obtain ⟨_, _, _, aT⟩ := actTy
  exact open_acts aT hv h
def fewB (l : List (Int × Int × List UInt8)) : Bool := decide (l.length ≤ 60) && l.all fun x => decide (x.2.2.length ≤ 200)
theorem few_not {l : List (Int × Int × List UInt8)} {k : Nat} {kd n : Int} {B : List UInt8} (h : l[k]? = some (kd, n, B)) (hb : 200 < B.length) : fewB l = false := by
  unfold fewB
  rw [Bool.and_eq_false_iff]
  right
  rw [List.all_eq_false]
  exact ⟨_, List.mem_of_getElem? h, by simpa using hb⟩
theorem few_yes {l : List (Int × Int × List UInt8)} (h : l.length ≤ 60) (hb : ∀ x ∈ l, x.2.2.length ≤ 200) : fewB l = true := by
  unfold fewB
  rw [Bool.and_eq_true, List.all_eq_true]
  exact ⟨decide_eq_true h, fun x hx => decide_eq_true (hb x hx)⟩
set_option maxHeartbeats 1000000 in
theorem few_cv (v : Value) (l : List (Int × Int × List UInt8)) (w : World) (h : ActsAt w v l) : Cv 9 #[v] w (.eq (.bool (fewB l))) := by
  unfold Cv
  obtain ⟨A, c, rfl, h1, h2, h3⟩ := h
  have H3 := Lib.hid h3
  clear h3
  by_cases hl : 60 < (l.length : Int)
  · go_enter Try.func9, Try.ntmps9
    go_wp2
    go_ret
    exact ⟨_, rfl, NewT.refl _, by rw [show fewB l = false by unfold fewB; rw [decide_eq_false (by omega)]; rfl]; rfl⟩
  have hl60 : l.length ≤ 60 := by omega
  go_enter Try.func9, Try.ntmps9
  go_wp2
  go_loopw [3] (fun i wr => ∃ k : Nat, k ≤ l.length ∧ i = .int .i64 (k : Int) ∧ wr = w ∧ Hid (∀ x ∈ l.take k, x.2.2.length ≤ 200)) (fun i _ => l.length - (intOf i).toNat)
  case atStart => exact ⟨0, by omega, rfl, rfl, Lib.hid (by simp)⟩
  case round =>
    obtain ⟨k, hk, rfl, rfl, HT⟩ := hrel
    by_cases hlt : k < l.length
    · have it : (k : Int) < (l.length : Int) := by omega
      obtain ⟨b, o, rfl, hc⟩ := H3.out (by omega)
      obtain ⟨⟨kd, n, B⟩, hx⟩ : ∃ x, l[k]? = some x := ⟨_, List.getElem?_eq_getElem hlt⟩
      obtain ⟨-, -, u, hu, hr⟩ := hc k _ hx
      obtain ⟨A2, c2, rfl⟩ := rdV_form hr
      have HX := Lib.hid hx
      clear hc hr hx
      by_cases hb : 200 < (B.length : Int)
      · go_wp2
        go_ret
        exact ⟨_, rfl, NewT.refl _, by rw [show fewB l = false from few_not HX.out (by omega)]; rfl⟩
      · go_wp2
        go_roundw
        case rel => exact ⟨k + 1, by omega, by go_num, trivial, Lib.hid (by
          intro x hx
          rw [List.take_add_one, HX.out] at hx
          rcases List.mem_append.1 hx with hx | hx
          · exact HT.out x hx
          · simp at hx; subst hx; show B.length ≤ 200; omega)⟩
        case measure => simp [intOf]; omega
    · obtain rfl : k = l.length := by omega
      go_wp2
      go_ret
      exact ⟨_, rfl, NewT.refl _, by rw [show fewB l = true from few_yes hl60 (fun x hx => HT.out x (by rw [List.take_length]; exact hx))]; rfl⟩
end Go.Proofs.Ytenmoljaeeeaaaa
/- DiskOwn, walked. -/
namespace Go.Proofs.Ytenmoljaeeeaaaa
open Go Go.RowKit
set_option maxRecDepth 8000
set_option linter.all false
theorem FreshB.row1 {B : Nat} {w : World} {v : Value} {l : List UInt8} (h : FreshB B w v l) (h0 : 0 < l.length) : ∃ g c N f, v = .slice (some ⟨g, 0, none⟩) l.length c ∧ B ≤ g ∧ w.rowIs g 5 N f ∧ l.length ≤ N ∧ ∀ i, i < l.length → f i = .int .u8 (bN (bAt l i)) := by
  rcases h with ⟨_, rfl⟩ | ⟨g, c, N, f, h1, _, _, h4, h5⟩
  · simp at h0
  · exact ⟨g, c, N, f, h1, h4, h5⟩
set_option maxHeartbeats 1000000 in
theorem DiskOwn_walk (v1 : Value) (l1 : List UInt8) (at' : Nat) (hat : at' < 256) (w : World) (h1 : RdV w [] v1 l1) : Calls Try.prog 5 #[v1, .int .u8 (at' : Int)] w fun e w' => e = .returned (.bool true) ∧ Below w.heap.size w w' := by
  have R1 := Lib.hid h1
  obtain ⟨A1, c1, rfl, _⟩ := h1
  by_cases g1 : 300 < (l1.length : Int)
  · go_enter Try.func5, Try.ntmps5
    go_wp2_with (go_at_call 8; refine (alive8_c w).eq.mono ?_; rintro _ w1 ⟨rfl, hN1⟩)
    go_ret
    exact ⟨rfl, hN1⟩
  by_cases g2 : (l1.length : Int) = 0
  · go_enter Try.func5, Try.ntmps5
    go_wp2_with (go_at_call 8; refine (alive8_c w).eq.mono ?_; rintro _ w1 ⟨rfl, hN1⟩)
    go_ret
    exact ⟨rfl, hN1⟩
  have bnd : Hid (0 < l1.length ∧ l1.length ≤ 300 ∧ at' < 256) := Lib.hid (by omega)
  have g3 : ((l1.length : Int) == 0) = false := by simpa using g2
  clear g2
  obtain ⟨i0, hi, hz0, hz1, hz2⟩ := info_parts info5
  obtain ⟨k, hk⟩ := hid_ex (at' % l1.length)
  have hkm : (at' : Int) % (l1.length : Int) = (k : Int) := by rw [← hk.out]; rfl
  have hww : wrap64 (at' : Int) = (at' : Int) := by have := bnd.out; unfold wrap64; omega
  have hkt : (at' : Int).tmod (l1.length : Int) = (k : Int) := by rw [← hkm, Int.tmod_eq_emod_of_nonneg (by omega)]
  have hkl : Hid (k < l1.length) := Lib.hid (by rw [← hk.out]; exact Nat.mod_lt _ bnd.out.1)
  clear hat
  have t1 : Hid True := Lib.hid trivial
  have b1 : Hid True := Lib.hid trivial
  go_enter Try.func5, Try.ntmps5
  go_wp2_with (first
    | (go_at_call 8; refine (alive8_c w).eq.mono ?_; rintro _ w1 ⟨rfl, hN1⟩; have N1 : Hid (NewT w w1) := Lib.hid hN1; have Q1 := Lib.hid hN1.size; clear hN1)
    | (go_at_call 10; refine (New_c 1000 (by omega) (by omega) w1).mono ?_; rintro _ w2 ⟨rfl, hN, hD⟩; have H2 := Lib.hid hD; have N2 := Lib.hid (NewT.trans _ _ _ N1.out hN); clear hN hD)
    | (at_builtin
       obtain ⟨v3, w3, hrun, hO, hG, -⟩ := run_appB_two (ownB_empty w2) (NewT.rd (NewT.trans _ _ _ N2.out (NewT.alloc w2 _)) R1.out) (by have := bnd.out; simp; omega) (NewT.alloc w2 _).size 31
       refine wpList_plain rfl (fun K hK => ?_)
       refine opr_append rfl rfl rfl hrun (hK _ _ ?_)
       clear hK K hrun
       rw [List.nil_append] at hO
       have hN3 : NewT w2 w3 := NewT.of ((NewT.alloc w2 (.cells #[] 5)).out.grown hG (NewT.alloc w2 _).size (fun k e => ((ownB_empty w2).lt k e).1))
       obtain ⟨gb, cb, nb, fb, rfl, hgb, hrow, hnb, hfb⟩ := (OwnB.fresh hO).row1 bnd.out.1
       have H3 := Lib.hid (H2.out.new hN3)
       have N3 := Lib.hid (NewT.trans _ _ _ N2.out hN3)
       have B3 := Lib.hid (And.intro hrow (And.intro hnb hfb))
       have G3 : Hid (gb ∉ [w1.heap.size]) := Lib.hid (by have := H2.out.lt; simp; omega)
       have GB : Hid (w.heap.size ≤ gb) := Lib.hid (Nat.le_trans N2.out.out.size hgb)
       have hsr := (OwnB.rd hO)
       clear hO hG hN3 hrow hnb hfb)
    | (go_at_call 13; refine (Write_ok _ _ 1000 [] 0 _ l1 _ H3.out hsr (by have := bnd.out; simp; omega)).mono ?_; rintro _ w4 ⟨rfl, v4, hD, hA⟩; have H4 : Hid (DiskAt w4 w1.heap.size v4 1000 l1 0) := Lib.hid hA; have N4 := Lib.hid (hD.newT N3.out Q1.out); have B4 := Lib.hid (hD.row (by simpa [Value.ownBlock] using G3.out) B3.out.1); have G4 := Lib.hid (hD.apart B3.out.1.lt (by simpa [Value.ownBlock] using G3.out)); clear hD hA hsr
       have hcell := B4.out.cell (i := k) (by have := B3.out.2.1; have := hkl.out; omega)
       rw [B3.out.2.2 k hkl.out] at hcell
       have hfr := B4.out.frozen k
       have hkn := hkl.out)
    | (go_at_call 15; clear b1
       have hT5 := RT.setCell (R := gb) w4 k (Value.int .u8 ((bN (bAt l1 k) + 1) % 256))
       have H5 := Lib.hid (H4.out.keep hT5.keep (by have := G4.out; simp at this ⊢; omega) (fun j hj => by have := G4.out; simp [hj] at this ⊢; omega))
       have N5 := Lib.hid (NewT.of (N4.out.out.trans (hT5.below.mono GB.out)))
       clear hT5 hcell hfr
       refine Calls.mono (DBytes_c _ _ 1000 l1 _ _ H5.out) ?_; rintro _ w6 ⟨v6, rfl, hN, hv⟩
       obtain ⟨gc, cc, nc, fc, rfl, hgc, hrow, hnc, hfc⟩ := hv.row1 bnd.out.1
       have H6 := Lib.hid (H5.out.new hN); have N6 := Lib.hid (NewT.trans _ _ _ N5.out hN)
       have G6 : Hid (gc ≠ w1.heap.size ∧ ∀ j, v4.ownBlock = some j → j ≠ gc) := Lib.hid ⟨by have := H5.out.lt; omega, fun j hj => by have := (H5.out.own.lt j hj).2; omega⟩
       have GC : Hid (w.heap.size ≤ gc) := Lib.hid (Nat.le_trans N5.out.out.size hgc)
       have hcell := hrow.cell (i := k) (by omega)
       rw [hfc k hkl.out] at hcell
       have hfr := hrow.frozen k
       clear hN hv hgc hrow hnc hfc)
    | (go_at_call 15
       have hT7 := RT.setCell (R := gc) w6 k (Value.int .u8 ((bN (bAt l1 k) + 1) % 256))
       have H7 := Lib.hid (H6.out.keep hT7.keep (by have := G6.out.1; simp; omega) (fun j hj => by have := G6.out.2 j hj; simpa using this))
       have N7 := Lib.hid (NewT.of (N6.out.out.trans (hT7.below.mono GC.out)))
       clear hT7 hcell hfr
       refine Calls.mono (DBytes_c _ _ 1000 l1 _ _ H7.out) ?_; rintro _ w8 ⟨v8, rfl, hN, hv⟩
       have N8 := Lib.hid (NewT.trans _ _ _ N7.out hN); have V8 := Lib.hid (FreshB.rd hv); clear hN hv)
    | (go_at_call 22; refine (Bytes_cv _ _ l1 l1 _ V8.out (N8.out.rd R1.out) (by have := bnd.out; omega) (by have := bnd.out; omega)).eq.mono ?_; rintro _ w9 ⟨rfl, hN⟩; have N9 := Lib.hid (NewT.trans _ _ _ N8.out hN); clear hN; have dt : decide (l1 = l1) = true := by simp))
  go_ret
  exact ⟨rfl, N9.out⟩
end Go.Proofs.Ytenmoljaeeeaaaa
/- DiskRoom, walked. -/
namespace Go.Proofs.Ytenmoljaeeeaaaa
open Go Go.RowKit
set_option maxRecDepth 8000
set_option linter.all false
theorem parts_cell {w : World} {A : Option Addr} {n c : Nat} {ps : List (Value × List UInt8)} (h : PartsAt w [] (.slice A n c) ps) (h0 : 0 < ps.length) : ∃ b o, A = some ⟨b, o, none⟩ ∧ b < w.heap.size ∧ ∀ i x, ps[i]? = some x → w.cell? ⟨b, o + i, none⟩ = some x.1 := by
  obtain ⟨A', c', hv, _, _, h3, _⟩ := h
  cases hv
  obtain ⟨b, o, hA, _, hc⟩ := h3 h0
  exact ⟨b, o, hA, World.block_lt_of_cell? _ _ (hc 0 _ (List.getElem?_eq_getElem h0)), hc⟩
theorem parts_rd {w : World} {L : List Nat} {v : Value} {ps : List (Value × List UInt8)} (h : PartsAt w L v ps) {x : Value × List UInt8} (hx : x ∈ ps) : RdV w L x.1 x.2 := by
  obtain ⟨_, _, _, _, _, _, h4⟩ := h
  exact h4 x hx
theorem cell_new {w w' : World} {b i : Nat} {u : Value} (h : NewT w w') (hb : b < w.heap.size) (hc : w.cell? ⟨b, i, none⟩ = some u) : w'.cell? ⟨b, i, none⟩ = some u := (h.out.cell (p := ⟨b, i, none⟩) hb).trans hc
set_option maxRecDepth 20000 in
set_option maxHeartbeats 1000000 in
theorem DiskRoom_walk (room : Int) (v1 : Value) (ps : List (Value × List UInt8)) (w : World) (h1 : PartsAt w [] v1 ps) : Calls Try.prog 6 #[.int .i64 room, v1] w fun e w' => e = .returned (.bool true) ∧ Below w.heap.size w w' := by
  have R1 := Lib.hid h1
  obtain ⟨A1, c1, rfl, _⟩ := h1
  by_cases g1 : 30 < (ps.length : Int)
  · go_enter Try.func6, Try.ntmps6
    go_wp2_with (go_at_call 8; refine (alive8_c w).eq.mono ?_; rintro _ w1 ⟨rfl, hN1⟩)
    go_ret
    exact ⟨rfl, hN1⟩
  by_cases g3 : room < 1
  · go_enter Try.func6, Try.ntmps6
    go_wp2_with (go_at_call 8; refine (alive8_c w).eq.mono ?_; rintro _ w1 ⟨rfl, hN1⟩)
    go_ret
    exact ⟨rfl, hN1⟩
  by_cases g4 : 65536 < room
  · go_enter Try.func6, Try.ntmps6
    go_wp2_with (go_at_call 8; refine (alive8_c w).eq.mono ?_; rintro _ w1 ⟨rfl, hN1⟩)
    go_ret
    exact ⟨rfl, hN1⟩
  obtain ⟨r, rfl⟩ : ∃ r : Nat, room = r := ⟨room.toNat, by omega⟩
  have bnd : Hid (1 ≤ r ∧ r ≤ 65536) := Lib.hid (by omega)
  have hmax : ps.length ≤ 30 := by omega
  go_enter Try.func6, Try.ntmps6
  go_wp2_with (first
    | (go_at_call 8; refine (alive8_c w).eq.mono ?_; rintro _ w1 ⟨rfl, hN1⟩; have N1 : Hid (NewT w w1) := Lib.hid hN1; have Q1 := Lib.hid hN1.size; clear hN1)
    | (go_at_call 10; refine (New_c r (by have := bnd.out; omega) (by have := bnd.out; omega) w1).mono ?_; rintro _ w2 ⟨rfl, hN, hD⟩; have H2 := Lib.hid hD; have N2 := Lib.hid (NewT.trans _ _ _ N1.out hN); clear hN hD))
  go_loopw [6, 7] (fun n i wr => ∃ (k : Nat) (S : List UInt8) (v : Value), k ≤ ps.length ∧ n = .int .i64 (S.length : Int) ∧ i = .int .i64 (k : Int) ∧ Hid (DiskAt wr w1.heap.size v r S 0) ∧ Hid (NewT w wr)) (fun _ i _ => ps.length - (intOf i).toNat)
  case atStart => exact ⟨0, [], .slice none 0 0, by omega, rfl, rfl, H2, N2⟩
  case round =>
    obtain ⟨k, S, v, hk, rfl, rfl, HD, HN⟩ := hrel
    clear H2 N2
    by_cases hlt : k < ps.length
    · have it : (k : Int) < (ps.length : Int) := by omega
      obtain ⟨b, o, rfl, hb, hc⟩ := parts_cell R1.out (by omega)
      obtain ⟨x, hx⟩ : ∃ x, ps[k]? = some x := ⟨_, List.getElem?_eq_getElem hlt⟩
      obtain ⟨u, l⟩ := x
      have hxr : RdV w [] u l := parts_rd R1.out (List.mem_of_getElem? hx)
      have hc : w.cell? ⟨b, o + k, none⟩ = some u := hc k _ hx
      obtain ⟨A3, c3, rfl⟩ := rdV_form hxr
      have HX := Lib.hid hxr
      have HC := Lib.hid hc
      have hcell := cell_new HN.out hb hc
      clear hxr hc hx
      by_cases h3 : 300 < (l.length : Int)
      · go_wp2
        go_ret
        exact ⟨rfl, HN.out⟩
      have sfit := Lib.hid HD.out.fits
      by_cases hfit : S.length + l.length ≤ r
      · have fit := Lib.hid hfit
        clear hfit
        obtain ⟨T, hT⟩ := hid_ex (S ++ l)
        have HT : Hid (T.length = S.length + l.length) := Lib.hid (by rw [← hT.out]; simp)
        have hw : wrap64 ((S.length : Int) + (l.length : Int)) = (T.length : Int) := by have := HT.out; have := fit.out; have := bnd.out; unfold wrap64; omega
        have hle : (T.length : Int) ≤ (r : Int) := by have := HT.out; have := fit.out; omega
        obtain ⟨z, hz⟩ := hid_ex (r - T.length)
        have HWS : Hid (wrap64 ((r : Int) - (T.length : Int)) = (z : Int)) := Lib.hid (by have := bnd.out; have := hz.out; have := sfit.out; unfold wrap64; omega)
        go_wp2_with (first
          | (go_at_call 13; clear hcell; refine (Write_ok _ _ r S 0 _ l _ HD.out (HN.out.rd HX.out) (by have := fit.out; omega)).mono ?_; rintro _ w3 ⟨rfl, v3, hD, hA⟩; rw [hT.out] at hA; have H3 := Lib.hid hA; have N3 := Lib.hid (hD.newT HN.out Q1.out); have hcell := cell_new N3.out hb HC.out; clear hD hA)
          | (go_at_call 15; rw [hw]; clear hw hle HT HX HC hcell; refine Calls.mono (DBytes_c _ _ r T _ _ H3.out) ?_; rintro _ w4 ⟨v4, rfl, hN, hv⟩; have H4 := Lib.hid (H3.out.new hN); have N4 := Lib.hid (NewT.trans _ _ _ N3.out hN); obtain ⟨A4, c4, rfl⟩ := rdV_form (FreshB.rd hv); clear hN hv)
          | (go_at_call 17; have hws := HWS.out; refine (Room_c _ _ r T _ _ H4.out).eq.mono ?_; rintro _ w5 ⟨rfl, hN⟩; rw [hz.out]; have H5 := Lib.hid (H4.out.new hN); have N5 := Lib.hid (NewT.trans _ _ _ N4.out hN); clear hN))
        clear hws
        go_roundw
        case rel => exact ⟨k + 1, T, v3, by omega, rfl, by go_num, H5, N5⟩
        case measure => simp [intOf]; omega
      · have fit := Lib.hid hfit
        clear hfit
        have hw : wrap64 ((S.length : Int) + (l.length : Int)) = ((S.length + l.length : Nat) : Int) := by have := bnd.out; have := sfit.out; unfold wrap64; omega
        obtain ⟨q, hq⟩ := hid_ex (S.length + l.length)
        rw [hq.out] at hw
        have hle : ¬ (q : Int) ≤ (r : Int) := by have := hq.out; have := fit.out; omega
        obtain ⟨z, hz⟩ := hid_ex (r - S.length)
        have HWS : Hid (wrap64 ((r : Int) - (S.length : Int)) = (z : Int)) := Lib.hid (by have := bnd.out; have := hz.out; have := sfit.out; unfold wrap64; omega)
        go_wp2_with (first
          | (go_at_call 13; clear hcell; refine (Write_full _ _ r S 0 _ l _ HD.out (HN.out.rd HX.out) (by have := fit.out; omega)).eq.mono ?_; rintro _ w3 ⟨rfl, hN⟩; have H3 := Lib.hid (HD.out.new hN); have N3 := Lib.hid (NewT.trans _ _ _ HN.out hN); have hcell := cell_new N3.out hb HC.out; clear hN)
          | (go_at_call 15; clear hw hle HX HC hcell; refine Calls.mono (DBytes_c _ _ r S _ _ H3.out) ?_; rintro _ w4 ⟨v4, rfl, hN, hv⟩; have H4 := Lib.hid (H3.out.new hN); have N4 := Lib.hid (NewT.trans _ _ _ N3.out hN); obtain ⟨A4, c4, rfl⟩ := rdV_form (FreshB.rd hv); clear hN hv)
          | (go_at_call 17; have hws := HWS.out; refine (Room_c _ _ r S _ _ H4.out).eq.mono ?_; rintro _ w5 ⟨rfl, hN⟩; rw [hz.out]; have H5 := Lib.hid (H4.out.new hN); have N5 := Lib.hid (NewT.trans _ _ _ N4.out hN); clear hN))
        clear hws
        go_roundw
        case rel => exact ⟨k + 1, S, v, by omega, rfl, by go_num, H5, N5⟩
        case measure => simp [intOf]; omega
    · obtain rfl : k = ps.length := by omega
      go_wp2
      go_ret
      exact ⟨rfl, HN.out⟩
end Go.Proofs.Ytenmoljaeeeaaaa
/- A region that draws its order and makes two arrays: beside the conditions of single operations a relation on the frame that each step keeps. -/
namespace Go.Proofs.Ytenmoljaeeeaaaa
open Go Go.RowKit
set_option maxRecDepth 8000
set_option linter.all false

def relyStepJ (P : Program) (Q : Exit → Act → World → Prop) (T : World → World → Prop) (V : List (SV T)) (J : Act → World → Prop) (a0 : Act) (w0 : World) (o : Oper) (dp : List (Tmp × Option Nat)) (g : Option (Tmp × Bool)) (c : SV T) : Prop :=
  ∀ (a : Act) (w : World), T w0 w → relyFacts V a0 a w dp → J a w → ∀ K : Act → World → Prop, (∀ v w', T w w' → c.pred v w' → J (a.put o.dst v) w' → K (a.put o.dst v) w') →
    if relyGuard g a then o.wp P a w K Q else K (a.put o.dst undef) w
def relyAllJ (P : Program) (Q : Exit → Act → World → Prop) (T : World → World → Prop) (V : List (SV T)) (J : Act → World → Prop) (a0 : Act) (w0 : World) : List Oper → Deps → List (SV T) → Prop
  | [], _, _ => True
  | o :: r, (dp, g) :: D, c :: C => relyStepJ P Q T V J a0 w0 o dp g c ∧ relyAllJ P Q T V J a0 w0 r D C
  | _, _, _ => False
section
variable {P : Program} {ops : Array Oper} {Q : Exit → Act → World → Prop} {T : World → World → Prop} {V : List (SV T)} {J : Act → World → Prop} {a0 : Act} {w0 : World} {n : Nat} {D : Deps} {init tail : List Oper}
/-- A step that keeps the relation whatever its value is. -/
theorem relyStepJ_of {o : Oper} {dp : List (Tmp × Option Nat)} {g : Option (Tmp × Bool)} {c : SV T} (hj : ∀ a w v w', J a w → T w w' → J (a.put o.dst v) w') (h : relyStep P Q T V a0 w0 o dp g c) : relyStepJ P Q T V J a0 w0 o dp g c :=
  fun a w hT hF hJ K hK => h a w hT hF K fun v w' h1 h2 => hK v w' h1 h2 (hj a w v w' hJ h1)
theorem relyAllJ_at : ∀ (l : List Oper) (D : Deps) (C : List (SV T)) (k : Nat) (o : Oper) dp g, relyAllJ P Q T V J a0 w0 l D C → l[k]? = some o → D[k]? = some (dp, g) → relyStepJ P Q T V J a0 w0 o dp g (C.getD k SV.any)
  | [], _, _, _, _, _, _, _, h, _ => by simp at h
  | x :: r, [], _, _, _, _, _, h, _, _ => h.elim
  | x :: r, y :: D, [], _, _, _, _, h, _, _ => h.elim
  | x :: r, (dp, g) :: D, c :: C, 0, o, dp', g', h, ho, hD => by
    simp at ho hD
    obtain ⟨rfl, rfl⟩ := hD
    subst ho
    exact h.1
  | x :: r, (dp, g) :: D, c :: C, k + 1, o, dp', g', h, ho, hD => by
    have := relyAllJ_at r D C k o dp' g' h.2 (by simpa using ho) (by simpa using hD)
    simpa using this
theorem rely_next (hn : a0.tmps.size = n) (ht : ∀ a b c : World, T a b → T b c → T a c) {i : Nat} {o : Oper} {dp : List (Tmp × Option Nat)} {g : Option (Tmp × Bool)} {listed : Array Bool} {a : Act} {w : World}
    (ho : ops[i]? = some o) (h1 : relyOne ops n i o dp g = true) (h0 : listed.getD i true = false)
    (hall : ∀ e ∈ o.after, Region.binds .any e = true → listed.getD e.on false = true) (inv : RelyInv ops T V a0 w0 listed a w) :
    relyFacts V a0 a w dp ∧ Region.wanted o (yielded ops a.tmps) = relyGuard g a ∧ ∀ v w', T w w' → (V.getD i SV.any).pred v w' → RelyInv ops T V a0 w0 (listed.setIfInBounds i true) (a.put o.dst v) w' := by
  simp only [relyOne, Bool.and_eq_true] at h1
  obtain ⟨⟨⟨hdst, hafter⟩, hdp⟩, hg⟩ := h1
  have waits : ∀ j, Region.waitsFor .any ops i j = true → listed.getD j false = true := fun j hj => by
    obtain ⟨oi, hoi, e, he, hb, hon⟩ := Region.waitsFor_spec hj
    have : oi = o := Option.some.inj (hoi.symm.trans ho)
    subst this
    rw [← hon]
    exact hall e he hb
  have i0 : listed.getD i false = false := getD_both h0
  have hfacts : relyFacts V a0 a w dp := by
      induction dp with
    | nil => trivial
    | cons x r ih2 =>
      simp only [List.all_cons, Bool.and_eq_true] at hdp
      obtain ⟨hx, hr⟩ := hdp
      obtain ⟨d, j⟩ := x
      cases j with
      | some j =>
        simp only [Bool.and_eq_true, beq_iff_eq] at hx
        exact ⟨inv.new j d hx.1 (waits j hx.2), ih2 hr⟩
      | none =>
        refine ⟨inv.old d fun j hj => ?_, ih2 hr⟩
        have hjlt : j < ops.size := by
          unfold relyDst at hj
          cases hoj : ops[j]? with
          | none => simp [hoj] at hj
          | some oj => exact (Array.getElem?_eq_some_iff.1 hoj).1
        have h2 := List.all_eq_true.1 hx j (List.mem_range.2 hjlt)
        simp only [hj, bne_self_eq_false, Bool.false_or, Bool.or_eq_true, decide_eq_true_eq] at h2
        rcases h2 with rfl | h2
        · exact i0
        · cases hlj : listed.getD j false with
          | false => rfl
          | true =>
            obtain ⟨oj, hoj, e, he, hb, hon⟩ := Region.waitsFor_spec h2
            have := inv.closed j oj hoj hlj e he hb
            rw [hon, i0] at this
            cases this
  have hguard : Region.wanted o (yielded ops a.tmps) = relyGuard g a := by
    unfold Region.wanted
    cases hgo : o.guard with
    | none =>
      rw [hgo] at hg
      cases g with
      | none => rfl
      | some x => cases hg
    | some kb =>
      obtain ⟨k, b⟩ := kb
      rw [hgo] at hg
      cases g with
      | none => cases hg
      | some x =>
        obtain ⟨d, b'⟩ := x
        simp only [Bool.and_eq_true, beq_iff_eq, decide_eq_true_eq] at hg
        obtain ⟨⟨⟨rfl, hd⟩, _⟩, hlt⟩ := hg
        have hlt' : d < a.tmps.size := by rw [inv.slots, hn]; exact hlt
        have hd' : (ops[k]?).bind (·.dst) = some d := hd
        simp only [yielded, hd', Option.bind_some, relyGuard, Array.getD_eq_getD_getElem?, Array.getElem?_eq_getElem hlt', Option.getD_some]
        cases a.tmps[d] <;> simp
        all_goals (rename_i x; cases x <;> cases b <;> rfl)
  have next : ∀ v w', T w w' → (V.getD i SV.any).pred v w' → RelyInv ops T V a0 w0 (listed.setIfInBounds i true) (a.put o.dst v) w' := fun v w' hT hv => by
    have hilt : i < listed.size := by rw [inv.size]; exact (Array.getElem?_eq_some_iff.1 ho).1
    refine ⟨by simp [inv.size], fun j oj hj hlj e he hb => ?_, ht _ _ _ inv.now hT, by cases o.dst <;> simp [Act.put, inv.slots], by cases o.dst <;> simp [Act.put, inv.defers], fun j d hj hlj => ?_, fun d hno => ?_⟩
    · by_cases hij : i = j
      · subst hij
        have : oj = o := Option.some.inj (hj.symm.trans ho)
        subst this
        exact getD_set_true (hall e he hb)
      · rw [getD_set_ne false hij] at hlj
        exact getD_set_true (inv.closed j oj hj hlj e he hb)
    · by_cases hij : i = j
      · subst hij
        have hd : o.dst = some d := by simpa [relyDst, ho] using hj
        rw [hd] at hdst
        simp only [Bool.and_eq_true, decide_eq_true_eq] at hdst
        have hlt : d < a.tmps.size := by rw [inv.slots, hn]; exact hdst.1
        rw [hd]
        simpa [Act.put, hlt] using hv
      · rw [getD_set_ne false hij] at hlj
        have h3 := (V.getD j SV.any).stable _ _ _ (inv.new j d hj hlj) hT
        cases hod : o.dst with
        | none => exact h3
        | some d0 =>
          rw [hod] at hdst
          simp only [Bool.and_eq_true, decide_eq_true_eq] at hdst
          have hjlt : j < ops.size := by
            unfold relyDst at hj
            cases hoj : ops[j]? with
            | none => simp [hoj] at hj
            | some oj => exact (Array.getElem?_eq_some_iff.1 hoj).1
          have h4 := List.all_eq_true.1 hdst.2 j (List.mem_range.2 hjlt)
          simp only [Bool.or_eq_true, decide_eq_true_eq, bne_iff_ne, ne_eq] at h4
          have hne : d0 ≠ d := fun e => by
            subst e
            rcases h4 with h4 | h4
            · exact hij h4.symm
            · exact h4 hj
          simpa [Act.put, Array.getElem?_setIfInBounds_ne hne] using h3
    · have hni : o.dst ≠ some d := fun hd => by
        have := hno i (by simp [relyDst, ho, hd])
        simp [hilt] at this
      have hold := inv.old d fun j hj => by
        have hij : i ≠ j := fun e => by subst e; exact hni (by simpa [relyDst, ho] using hj)
        have := hno j hj
        rwa [getD_set_ne false hij] at this
      cases hod : o.dst with
      | none => exact hold
      | some d0 =>
        have hne : d0 ≠ d := fun e => hni (by rw [hod, e])
        simpa [Act.put, Array.getElem?_setIfInBounds_ne hne] using hold
  exact ⟨hfacts, hguard, next⟩
theorem wpAny_relyJ_tail (hsplit : ops.toList = init ++ tail) (hpos : 0 < tail.length) (hn : a0.tmps.size = n) (hB : relyB ops n 0 init D = true) (hsink : Region.sinkB .any ops init.length = true) (htb : tailB ops tail init.length = true) (ht : ∀ a b c : World, T a b → T b c → T a c)
    (hl : init.length ≤ V.length) (hA : relyAllJ P Q T V J a0 w0 init D V) (hE : ∀ w, T w0 w → relyEnd (fun _ a w => J a w → wpList P ops Q tail a w) T init V a0 w) :
    ∀ (fuel : Nat) (listed : Array Bool) (a : Act) (w : World), (unl ops listed).length = fuel → (∀ j, init.length ≤ j → j < ops.size → listed.getD j true = false) → RelyInv ops T V a0 w0 listed a w → J a w → wpAny P .any ops Q fuel listed a w := by
  obtain ⟨hsz, hpre, htl⟩ := split_at hsplit
  have hat : ∀ i o, init[i]? = some o → ∃ dp g, relyOne ops n i o dp g = true ∧ relyStepJ P Q T V J a0 w0 o dp g (V.getD i SV.any) := fun i o hi => by
    obtain ⟨dp, g, hD, h1⟩ := relyB_at init D 0 i o hB hi
    rw [Nat.zero_add] at h1
    exact ⟨dp, g, h1, relyAllJ_at _ _ _ i o dp g hA hi hD⟩
  -- once all of the first ones have come up
  have fin : ∀ (fuel : Nat) (listed : Array Bool) (a : Act) (w : World), (unl ops listed).length = fuel → (∀ j, init.length ≤ j → j < ops.size → listed.getD j true = false) → RelyInv ops T V a0 w0 listed a w → J a w → (∀ j, j < init.length → listed.getD j false = true) → wpAny P .any ops Q fuel listed a w := fun fuel listed a w hu hun inv hJ hdone => by
    have h1 : wpList P ops Q tail a w := rely_all (Q' := fun a w => J a w → wpList P ops Q tail a w) inv
      (fun k o hk => ⟨hpre k o hk, hdone k (List.getElem?_eq_some_iff.1 hk).1⟩) (fun j hj => by
        rcases Nat.lt_or_ge j init.length with h | h
        · exact h
        · rcases Nat.lt_or_ge j ops.size with h' | h'
          · rw [getD_both (hun j h h')] at hj; cases hj
          · have : listed.getD j false = false := by simp [Array.getElem?_eq_none (show listed.size ≤ j by rw [inv.size]; omega)]
            rw [this] at hj; cases hj) hl (hE w inv.now) hJ
    have hf : fuel = tail.length := by
      rw [← hu]
      unfold unl
      have e : (List.range ops.size).filter (fun i => !listed.getD i true) = List.range' init.length tail.length := by
        rw [List.range_eq_range', show ops.size = init.length + tail.length from hsz, ← List.range'_append_1, List.filter_append, List.filter_eq_nil_iff.2, List.filter_eq_self.2]
        · simp
        · intro i hi
          simp only [List.mem_range'_1] at hi
          rw [hun i (by omega) (by omega)]; rfl
        · intro i hi
          simp only [List.mem_range'_1] at hi
          have h2 := hdone i (by omega)
          have h3 : listed.getD i true = true := by
            have hlt : i < listed.size := by rw [inv.size]; omega
            simp [hlt] at h2 ⊢; exact h2
          rw [h3]; simp
      rw [e]; simp
    subst hf
    exact tail_seq hsplit htb tail.length 0 listed a w (by omega) inv.size (by simpa using hdone) (by simpa using hun) (by simpa using h1)
  intro fuel
  induction fuel with
  | zero =>
    intro listed a w hu hun inv hJ
    have : init.length ∈ unl ops listed := by
      unfold unl; rw [List.mem_filter]; exact ⟨List.mem_range.2 (by omega), by rw [hun _ (Nat.le_refl _) (by omega)]; rfl⟩
    rw [List.eq_nil_of_length_eq_zero hu] at this
    cases this
  | succ fuel ih =>
    intro listed a w hu hun inv hJ
    by_cases hdone : ∀ j, j < init.length → listed.getD j false = true
    · exact fin _ listed a w hu hun inv hJ hdone
    · -- none of the last ones may come up yet
      have hlow : ∀ i, i ∈ Region.ready .any ops listed → i < init.length := fun i hi => by
        rcases Nat.lt_or_ge i init.length with h | h
        · exact h
        · exfalso
          obtain ⟨h0, o, ho, hall⟩ := mem_ready.1 hi
          have hilt := (Array.getElem?_eq_some_iff.1 ho).1
          by_cases him : i = init.length
          · subst him
            apply hdone
            have hd : ∀ (d j : Nat), init.length - j = d → j < init.length → listed.getD j false = true := fun d => by
              induction d using Nat.strongRecOn with
              | _ d ihd =>
                intro j hd hj
                have h1 := List.all_eq_true.1 hsink j (List.mem_range.2 hj)
                obtain ⟨t, ht1, ht2⟩ := List.any_eq_true.1 h1
                simp only [Bool.and_eq_true, decide_eq_true_eq] at ht2
                obtain ⟨ot, hot, e, he, hb, hon⟩ := Region.waitsFor_spec ht2.2
                have htle : t ≤ init.length := by have := List.mem_range.1 ht1; omega
                rw [← hon]
                by_cases htm : t = init.length
                · subst htm
                  have : ot = o := Option.some.inj (hot.symm.trans ho)
                  subst this
                  exact hall e he hb
                · exact inv.closed t ot hot (ihd (init.length - t) (by omega) t rfl (by omega)) e he hb
            exact fun j hj => hd _ j rfl hj
          · have h := List.all_eq_true.1 htb (i - init.length) (List.mem_range.2 (by omega))
            simp only [Bool.and_eq_true, Bool.or_eq_true, decide_eq_true_eq] at h
            rw [show init.length + (i - init.length) = i by omega] at h
            rcases h.2 with h | h
            · omega
            · obtain ⟨oi, hoi', e, he, hbe, hon⟩ := Region.waitsFor_spec h
              have : oi = o := Option.some.inj (hoi'.symm.trans ho)
              subst this
              have h1 := hall e he hbe
              rw [hon, getD_both (hun (i - 1) (by omega) (by omega))] at h1
              cases h1
      refine ⟨fun hr => ?_, fun i hi => ?_⟩
      · exfalso
        apply hdone
        intro i
        induction i using Nat.strongRecOn with
        | _ i ih =>
          intro hi
          cases hli : listed.getD i false with
          | true => rfl
          | false =>
            exfalso
            have hmem : i ∈ Region.ready .any ops listed := by
              rw [mem_ready]
              refine ⟨getD_in (by rw [inv.size]; omega) hli, init[i], hpre i _ (List.getElem?_eq_getElem hi), fun e he hb => ?_⟩
              obtain ⟨dp, g, h1, _⟩ := hat i init[i] (List.getElem?_eq_getElem hi)
              simp only [relyOne, Bool.and_eq_true] at h1
              have h2 := (Array.all_eq_true_iff_forall_mem.1 h1.1.1.2) e he
              simp only [hb, Bool.not_true, Bool.false_or, decide_eq_true_eq] at h2
              exact ih e.on h2 (by omega)
            rw [hr] at hmem
            cases hmem
      · have hi' := hlow i hi
        obtain ⟨h0, o, ho, hall⟩ := mem_ready.1 hi
        have hio : init[i]? = some o := by
          have := hpre i init[i] (List.getElem?_eq_getElem hi')
          rw [ho] at this
          rw [List.getElem?_eq_getElem hi', Option.some.inj this]
        obtain ⟨dp, g, h1, hstep⟩ := hat i o hio
        obtain ⟨hfacts, hguard, next⟩ := rely_next hn ht ho h1 h0 hall inv
        have hs := hstep a w inv.now hfacts hJ (fun a' w' => wpAny P .any ops Q fuel (listed.setIfInBounds i true) a' w') (fun v w' hT hv hJ' => ih _ _ w' (by have := unl_set inv.size h0; omega) (fun j hj hj2 => by rw [getD_set_ne true (by omega)]; exact hun j hj hj2) (next v w' hT hv) hJ')
        unfold wpOp
        simp only [ho, hguard]
        split
        · rename_i hw; rw [if_pos hw] at hs; exact .inl hs
        · rename_i hw; rw [if_neg hw] at hs; exact hs
/-- **A region that draws its order, the last operations (from place m on) one behind the other.** -/
theorem wp_region_relyJ_tail {id : Nat} (T : World → World → Prop) (V : List (SV T)) (D : Deps) (n m : Nat) (hm : P.follows .mixedOrders = true) (hn : a0.tmps.size = n) (hlen : (ops.toList.take m).length = m) (hpos : 0 < (ops.toList.drop m).length) (hB : relyB ops n 0 (ops.toList.take m) D = true)
    (hsink : Region.sinkB .any ops m = true) (htb : tailB ops (ops.toList.drop m) m = true) (ht : ∀ a b c : World, T a b → T b c → T a c) (hd : T w0 w0.drew) (hJ0 : J a0 w0.drew) (hl : m ≤ V.length)
    (hA : relyAllJ P Q T V J a0 w0 (ops.toList.take m) D V) (hE : ∀ w, T w0 w → relyEnd (fun _ a w => J a w → wpList P ops Q (ops.toList.drop m) a w) T (ops.toList.take m) V a0 w) : (Code.region id ops true).wp P Q a0 w0 := by
  refine wp_region_any hm ?_
  refine wpAny_relyJ_tail (List.take_append_drop m ops.toList).symm hpos hn hB (by rw [hlen]; exact hsink) (by rw [hlen]; exact htb) ht (by rw [hlen]; exact hl) hA hE ops.size _ a0 w0.drew unl_start (fun j _ hj => by simp [hj]) (rely_start hd) hJ0
end
/-- Two slots hold pointers to different blocks, both there. -/
def TwoPtr (p q : Tmp) (a : Act) (w : World) : Prop :=
  (∀ g, a.tmps.getD p undef = .pointer (some ⟨g, 0, none⟩) → g < w.heap.size) ∧ (∀ g, a.tmps.getD q undef = .pointer (some ⟨g, 0, none⟩) → g < w.heap.size) ∧
    ∀ g g', a.tmps.getD p undef = .pointer (some ⟨g, 0, none⟩) → a.tmps.getD q undef = .pointer (some ⟨g', 0, none⟩) → g ≠ g'
theorem put_other {a : Act} {d : Option Tmp} {p : Tmp} (v : Value) (h : d ≠ some p) : (a.put d v).tmps.getD p undef = a.tmps.getD p undef := by
  cases d with
  | none => rfl
  | some d =>
    have hne : d ≠ p := fun e => h (by rw [e])
    simp [Act.put, Array.getElem?_setIfInBounds_ne hne]
theorem TwoPtr.keep {p q : Tmp} {a : Act} {w w' : World} {d : Option Tmp} {v : Value} (h : TwoPtr p q a w) (hp : d ≠ some p) (hq : d ≠ some q) (hT : NewT w w') : TwoPtr p q (a.put d v) w' := by
  unfold TwoPtr
  rw [put_other v hp, put_other v hq]
  exact ⟨fun g hg => Nat.lt_of_lt_of_le (h.1 g hg) hT.out.size, fun g hg => Nat.lt_of_lt_of_le (h.2.1 g hg) hT.out.size, h.2.2⟩
theorem put_same {a : Act} {p : Tmp} {g g' : Nat} (h : (a.put (some p) (.pointer (some ⟨g, 0, none⟩))).tmps.getD p undef = .pointer (some ⟨g', 0, none⟩)) : g' = g := by
  rcases Nat.lt_or_ge p a.tmps.size with hlt | hge
  · simp [Act.put, hlt] at h; exact h.symm
  · simp [Act.put, undef, Nat.not_lt.2 hge] at h
theorem TwoPtr.first {p q : Tmp} {a : Act} {w : World} {o : Obj} (h : TwoPtr p q a w) (hpq : p ≠ q) : TwoPtr p q (a.put (some p) (.pointer (some ⟨w.heap.size, 0, none⟩))) (w.alloc o) := by
  unfold TwoPtr
  rw [put_other (p := q) (d := some p) _ (by simpa using hpq)]
  refine ⟨fun g hg => by rw [put_same hg]; simp, fun g hg => by have := h.2.1 g hg; simp; omega, fun g g' hg hg' => ?_⟩
  have := h.2.1 g' hg'
  rw [put_same hg]; omega
theorem TwoPtr.second {p q : Tmp} {a : Act} {w : World} {o : Obj} (h : TwoPtr p q a w) (hpq : p ≠ q) : TwoPtr p q (a.put (some q) (.pointer (some ⟨w.heap.size, 0, none⟩))) (w.alloc o) := by
  unfold TwoPtr
  rw [put_other (p := p) (d := some q) _ (by simpa using Ne.symm hpq)]
  refine ⟨fun g hg => by have := h.1 g hg; simp; omega, fun g hg => by rw [put_same hg]; simp, fun g g' hg hg' => ?_⟩
  have := h.1 g hg
  rw [put_same hg']; omega
end Go.Proofs.Ytenmoljaeeeaaaa
