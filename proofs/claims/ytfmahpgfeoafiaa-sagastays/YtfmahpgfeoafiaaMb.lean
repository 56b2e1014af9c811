/- Fields of a struct by value and in memory: a cell, a row of cells. No program is named here. -/
import Derived.Test.YtfmahpgfeoafiaaMa
import Derived.Deep.Cut
import Derived.Lib.SliceRun
set_option linter.all false
namespace Go.Proofs.Ytfmahpgfeoafiaa
open Go Go.RowKit
set_option maxRecDepth 8000
set_option linter.all false

theorem rowA_extract (n : Nat) (g : Nat → Value) (o m : Nat) (h : o + m ≤ n) : (rowA n g).extract o (o + m) = rowA m fun j => g (o + j) := by
  apply Array.ext_getElem?
  intro i
  by_cases hi : i < m
  · rw [rowA_at _ _ _ hi, Array.getElem?_extract_of_lt (by rw [rowA_size]; omega), ← Array.getElem?_eq_getElem, rowA_at _ _ _ (by omega)]
  · rw [Array.getElem?_eq_none (by simp [rowA_size]; omega), Array.getElem?_eq_none (by rw [rowA_size]; omega)]
section
variable {P : Program} {t : TypeId} {fs : Array Field} {f : Field} {i n : Nat}
theorem run_isAgg_no {d : TypeDesc} {e : TypeId} (he : P.underlying e = some d) (hd : d.isRow = false) (w : World) : (isAgg e).run P w = .ok false w := by
  unfold isAgg
  rw [Sem.run_bind, run_underlying he w]
  cases d <;> simp_all
theorem run_field_cell {d : TypeDesc} (hu : P.underlying t = some (.struct fs)) (hf : fs[i]? = some f) (he : P.underlying f.type = some d) (hd : d.isRow = false) (g : Nat → Value) (ho : f.offset < n) (w : World) : (Instr.field t (.agg (rowA n g)) i).run P w = .ok (g f.offset) w := by
  have hat := rowA_at n g f.offset ho
  simp [Instr.field, run_underlying hu, hf, asAgg, part, run_isAgg_no he hd, hat]
theorem run_field_row {m : Nat} {e : TypeId} (hu : P.underlying t = some (.struct fs)) (hf : fs[i]? = some f) (he : P.underlying f.type = some (.array m e)) (hs : (P.info? f.type).map (·.size) = some m) (g : Nat → Value) (ho : f.offset + m ≤ n) (w : World) : (Instr.field t (.agg (rowA n g)) i).run P w = .ok (.agg (rowA m fun j => g (f.offset + j))) w := by
  have hsz : (sizeOf f.type).run P w = .ok m w := by
    cases hq : P.info? f.type with
    | none => simp [hq] at hs
    | some i => simp [hq] at hs; simp [sizeOf, typeInfo, hq, hs]
  have hagg : (isAgg f.type).run P w = .ok true w := by
    unfold isAgg
    rw [Sem.run_bind, run_underlying he w]
    rfl
  have hx := rowA_extract n g f.offset m ho
  simp [Instr.field, run_underlying hu, hf, asAgg, part, hagg, hsz, hx]
end
/-- A part of a row. -/
theorem rangeAt_part {w : World} {b : Nat} {t : TypeId} {n : Nat} {f : Nat → Value} (h : w.rowIs b t n f) (o m : Nat) (hm : o + m ≤ n) : w.rangeAt b o (rowA m fun j => f (o + j)).toList := fun j v hv => by
  rw [rowA_toList, List.getElem?_map] at hv
  cases hj : (List.range m)[j]? with
  | none => rw [hj] at hv; simp at hv
  | some k =>
    rw [hj] at hv
    obtain ⟨hlt, hk⟩ := List.getElem?_eq_some_iff.1 hj
    simp at hlt hk
    subst hk
    simp at hv
    subst hv
    exact h.cell (by omega)
end Go.Proofs.Ytfmahpgfeoafiaa
/- A region that draws its order, whose last operations come one behind the other: the rest is gone through once, in the text's order, and the last ones then as they stand. No program is named here. -/
namespace Go.Proofs.Ytfmahpgfeoafiaa
open Go
set_option maxRecDepth 8000
set_option linter.all false

section
variable {P : Program} {ops : Array Oper} {Q : Exit → Act → World → Prop} {T : World → World → Prop} {V : List (SV T)} {a0 : Act} {w0 : World} {n : Nat} {D : Deps} {init tail : List Oper}

theorem split_at (hsplit : ops.toList = init ++ tail) : ops.size = init.length + tail.length ∧ (∀ (k : Nat) (o : Oper), init[k]? = some o → ops[k]? = some o) ∧ ∀ k : Nat, ops[init.length + k]? = tail[k]? := by
  have e : ops = (init ++ tail).toArray := by rw [← hsplit]
  subst e
  refine ⟨by simp, fun k o hk => ?_, fun k => ?_⟩
  · have hlt := (List.getElem?_eq_some_iff.1 hk).1
    simp [List.getElem?_append_left hlt, hk]
  · simp [List.getElem?_append_right]
/-- The last ones look back alone, each waits for the one ahead. -/
def tailB (ops : Array Oper) (tail : List Oper) (m : Nat) : Bool :=
  (List.range tail.length).all fun t => (match tail[t]? with | some o => o.after.all (fun e => !Region.binds .any e || decide (e.on < m + t)) | none => true) && (decide (t = 0) || Region.waitsFor .any ops (m + t) (m + t - 1))

theorem tail_seq (hsplit : ops.toList = init ++ tail) (hB : tailB ops tail init.length = true) : ∀ (f k : Nat) (listed : Array Bool) (a : Act) (w : World), k + f = tail.length → listed.size = ops.size →
    (∀ j, j < init.length + k → listed.getD j false = true) → (∀ j, init.length + k ≤ j → j < ops.size → listed.getD j true = false) → wpList P ops Q (tail.drop k) a w → wpAny P .any ops Q f listed a w := by
  obtain ⟨hsz, _, htl⟩ := split_at hsplit
  have hb : ∀ t, t < tail.length → (∀ o, tail[t]? = some o → ∀ e ∈ o.after, Region.binds .any e = true → e.on < init.length + t) ∧ (t = 0 ∨ Region.waitsFor .any ops (init.length + t) (init.length + t - 1) = true) := fun t ht => by
    have h := List.all_eq_true.1 hB t (List.mem_range.2 ht)
    simp only [Bool.and_eq_true, Bool.or_eq_true, decide_eq_true_eq] at h
    refine ⟨fun o ho e he hbe => ?_, h.2⟩
    have h1 := h.1
    rw [ho] at h1
    have h2 := (Array.all_eq_true_iff_forall_mem.1 h1) e he
    simpa [hbe] using h2
  intro f
  induction f with
  | zero =>
    intro k listed a w hk hs hdone _ h
    obtain rfl : k = tail.length := by omega
    rw [List.drop_length] at h
    exact wpAny_done (ready_none fun i hi => hdone i (by omega)) h 0
  | succ f ih =>
    intro k listed a w hk hs hdone hun h
    have hkl : k < tail.length := by omega
    have ho : ops[init.length + k]? = some tail[k] := by rw [htl, List.getElem?_eq_getElem hkl]
    rw [List.drop_eq_getElem_cons hkl] at h
    have hmem : init.length + k ∈ Region.ready .any ops listed := by
      rw [mem_ready]
      exact ⟨hun _ (Nat.le_refl _) (by omega), tail[k], ho, fun e he hbe => hdone _ ((hb k hkl).1 _ (List.getElem?_eq_getElem hkl) e he hbe)⟩
    refine ⟨fun hr => (by rw [hr] at hmem; cases hmem), fun i hi => ?_⟩
    obtain ⟨h0, o, hoi, hall⟩ := mem_ready.1 hi
    have hilt := (Array.getElem?_eq_some_iff.1 hoi).1
    have hik : i = init.length + k := by
      rcases Nat.lt_trichotomy i (init.length + k) with hlt | rfl | hgt
      · have := hdone i hlt
        rw [getD_both h0] at this; cases this
      · rfl
      · exfalso
        have ht := (hb (i - init.length) (by omega)).2
        rw [show init.length + (i - init.length) = i by omega] at ht
        rcases ht with ht | ht
        · omega
        · obtain ⟨oi, hoi', e, he, hbe, hon⟩ := Region.waitsFor_spec ht
          have : oi = o := Option.some.inj (hoi'.symm.trans hoi)
          subst this
          have h1 := hall e he hbe
          rw [hon, getD_both (hun (i - 1) (by omega) (by omega))] at h1
          cases h1
    subst hik
    have next : ∀ a' w', wpList P ops Q (tail.drop (k + 1)) a' w' → wpAny P .any ops Q f (listed.setIfInBounds (init.length + k) true) a' w' := fun a' w' h' =>
      ih (k + 1) _ a' w' (by omega) (by simp [hs]) (fun j hj => by
        by_cases hjk : init.length + k = j
        · subst hjk; simp [show init.length + k < listed.size by omega]
        · exact getD_set_true (hdone j (by omega))) (fun j hj hj2 => by rw [getD_set_ne true (by omega)]; exact hun j (by omega) hj2) h'
    refine wpOp_mono next ?_
    unfold wpOp
    simp only [ho]
    simpa only [wpList] using h

theorem wpAny_rely_tail (hsplit : ops.toList = init ++ tail) (hpos : 0 < tail.length) (hn : a0.tmps.size = n) (hB : relyB ops n 0 init D = true) (hsink : Region.sinkB .any ops init.length = true) (htb : tailB ops tail init.length = true) (ht : ∀ a b c : World, T a b → T b c → T a c)
    (hl : init.length ≤ V.length) (hA : relyAll P Q T V a0 w0 init D V) (hE : ∀ w, T w0 w → relyEnd (fun _ a w => wpList P ops Q tail a w) T init V a0 w) :
    ∀ (fuel : Nat) (listed : Array Bool) (a : Act) (w : World), (unl ops listed).length = fuel → (∀ j, init.length ≤ j → j < ops.size → listed.getD j true = false) → RelyInv ops T V a0 w0 listed a w → wpAny P .any ops Q fuel listed a w := by
  obtain ⟨hsz, hpre, htl⟩ := split_at hsplit
  have hat : ∀ i o, init[i]? = some o → ∃ dp g, relyOne ops n i o dp g = true ∧ relyStep P Q T V a0 w0 o dp g (V.getD i SV.any) := fun i o hi => by
    obtain ⟨dp, g, hD, h1⟩ := relyB_at init D 0 i o hB hi
    rw [Nat.zero_add] at h1
    exact ⟨dp, g, h1, relyAll_at _ _ _ i o dp g hA hi hD⟩
  -- once all of the first ones have come up
  have fin : ∀ (fuel : Nat) (listed : Array Bool) (a : Act) (w : World), (unl ops listed).length = fuel → (∀ j, init.length ≤ j → j < ops.size → listed.getD j true = false) → RelyInv ops T V a0 w0 listed a w → (∀ j, j < init.length → listed.getD j false = true) → wpAny P .any ops Q fuel listed a w := fun fuel listed a w hu hun inv hdone => by
    have h1 : wpList P ops Q tail a w := rely_all (Q' := fun a w => wpList P ops Q tail a w) inv
      (fun k o hk => ⟨hpre k o hk, hdone k (List.getElem?_eq_some_iff.1 hk).1⟩) (fun j hj => by
        rcases Nat.lt_or_ge j init.length with h | h
        · exact h
        · rcases Nat.lt_or_ge j ops.size with h' | h'
          · rw [getD_both (hun j h h')] at hj; cases hj
          · have : listed.getD j false = false := by simp [Array.getElem?_eq_none (show listed.size ≤ j by rw [inv.size]; omega)]
            rw [this] at hj; cases hj) hl (hE w inv.now)
    have hf : fuel = tail.length := by
      rw [← hu]
      unfold unl
      have e : (List.range ops.size).filter (fun i => !listed.getD i true) = List.range' init.length tail.length := by
        rw [List.range_eq_range', show ops.size = init.length + tail.length from hsz, ← List.range'_append_1, List.filter_append, List.filter_eq_nil_iff.2, List.filter_eq_self.2]
        · simp
        · intro i hi
          simp only [List.mem_range'_1] at hi
          rw [hun i (by omega) (by omega)]; rfl
        · intro i hi
          simp only [List.mem_range'_1] at hi
          have h2 := hdone i (by omega)
          have h3 : listed.getD i true = true := by
            have hlt : i < listed.size := by rw [inv.size]; omega
            simp [hlt] at h2 ⊢; exact h2
          rw [h3]; simp
      rw [e]; simp
    subst hf
    exact tail_seq hsplit htb tail.length 0 listed a w (by omega) inv.size (by simpa using hdone) (by simpa using hun) (by simpa using h1)
  intro fuel
  induction fuel with
  | zero =>
    intro listed a w hu hun inv
    have : init.length ∈ unl ops listed := by
      unfold unl; rw [List.mem_filter]; exact ⟨List.mem_range.2 (by omega), by rw [hun _ (Nat.le_refl _) (by omega)]; rfl⟩
    rw [List.eq_nil_of_length_eq_zero hu] at this
    cases this
  | succ fuel ih =>
    intro listed a w hu hun inv
    by_cases hdone : ∀ j, j < init.length → listed.getD j false = true
    · exact fin _ listed a w hu hun inv hdone
    · -- none of the last ones may come up yet
      have hlow : ∀ i, i ∈ Region.ready .any ops listed → i < init.length := fun i hi => by
        rcases Nat.lt_or_ge i init.length with h | h
        · exact h
        · exfalso
          obtain ⟨h0, o, ho, hall⟩ := mem_ready.1 hi
          have hilt := (Array.getElem?_eq_some_iff.1 ho).1
          by_cases him : i = init.length
          · subst him
            apply hdone
            have hd : ∀ (d j : Nat), init.length - j = d → j < init.length → listed.getD j false = true := fun d => by
              induction d using Nat.strongRecOn with
              | _ d ihd =>
                intro j hd hj
                have h1 := List.all_eq_true.1 hsink j (List.mem_range.2 hj)
                obtain ⟨t, ht1, ht2⟩ := List.any_eq_true.1 h1
                simp only [Bool.and_eq_true, decide_eq_true_eq] at ht2
                obtain ⟨ot, hot, e, he, hb, hon⟩ := Region.waitsFor_spec ht2.2
                have htle : t ≤ init.length := by have := List.mem_range.1 ht1; omega
                rw [← hon]
                by_cases htm : t = init.length
                · subst htm
                  have : ot = o := Option.some.inj (hot.symm.trans ho)
                  subst this
                  exact hall e he hb
                · exact inv.closed t ot hot (ihd (init.length - t) (by omega) t rfl (by omega)) e he hb
            exact fun j hj => hd _ j rfl hj
          · have h := List.all_eq_true.1 htb (i - init.length) (List.mem_range.2 (by omega))
            simp only [Bool.and_eq_true, Bool.or_eq_true, decide_eq_true_eq] at h
            rw [show init.length + (i - init.length) = i by omega] at h
            rcases h.2 with h | h
            · omega
            · obtain ⟨oi, hoi', e, he, hbe, hon⟩ := Region.waitsFor_spec h
              have : oi = o := Option.some.inj (hoi'.symm.trans ho)
              subst this
              have h1 := hall e he hbe
              rw [hon, getD_both (hun (i - 1) (by omega) (by omega))] at h1
              cases h1
      refine ⟨fun hr => ?_, fun i hi => ?_⟩
      · exfalso
        apply hdone
        intro i
        induction i using Nat.strongRecOn with
        | _ i ih =>
          intro hi
          cases hli : listed.getD i false with
          | true => rfl
          | false =>
            exfalso
            have hmem : i ∈ Region.ready .any ops listed := by
              rw [mem_ready]
              refine ⟨getD_in (by rw [inv.size]; omega) hli, init[i], hpre i _ (List.getElem?_eq_getElem hi), fun e he hb => ?_⟩
              obtain ⟨dp, g, h1, _⟩ := hat i init[i] (List.getElem?_eq_getElem hi)
              simp only [relyOne, Bool.and_eq_true] at h1
              have h2 := (Array.all_eq_true_iff_forall_mem.1 h1.1.1.2) e he
              simp only [hb, Bool.not_true, Bool.false_or, decide_eq_true_eq] at h2
              exact ih e.on h2 (by omega)
            rw [hr] at hmem
            cases hmem
      · have hi' := hlow i hi
        obtain ⟨h0, o, ho, hall⟩ := mem_ready.1 hi
        have hio : init[i]? = some o := by
          have := hpre i init[i] (List.getElem?_eq_getElem hi')
          rw [ho] at this
          rw [List.getElem?_eq_getElem hi', Option.some.inj this]
        obtain ⟨dp, g, h1, hstep⟩ := hat i o hio
        refine wpOp_mono (fun a' w' inv' => ih _ a' w' (by have := unl_set inv.size h0; omega) (fun j hj hj2 => by rw [getD_set_ne true (by omega)]; exact hun j hj hj2) inv') (rely_op hn ht ho h1 hstep h0 hall inv)
/-- **A region that draws its order, the last operations (from place m on) one behind the other.** -/
theorem wp_region_rely_tail {id : Nat} (T : World → World → Prop) (V : List (SV T)) (D : Deps) (n m : Nat) (hm : P.follows .mixedOrders = true) (hn : a0.tmps.size = n) (hlen : (ops.toList.take m).length = m) (hpos : 0 < (ops.toList.drop m).length) (hB : relyB ops n 0 (ops.toList.take m) D = true)
    (hsink : Region.sinkB .any ops m = true) (htb : tailB ops (ops.toList.drop m) m = true) (ht : ∀ a b c : World, T a b → T b c → T a c) (hd : T w0 w0.drew) (hl : m ≤ V.length)
    (hA : relyAll P Q T V a0 w0 (ops.toList.take m) D V) (hE : ∀ w, T w0 w → relyEnd (fun _ a w => wpList P ops Q (ops.toList.drop m) a w) T (ops.toList.take m) V a0 w) : (Code.region id ops true).wp P Q a0 w0 := by
  refine wp_region_any hm ?_
  refine wpAny_rely_tail (List.take_append_drop m ops.toList).symm hpos hn hB (by rw [hlen]; exact hsink) (by rw [hlen]; exact htb) ht (by rw [hlen]; exact hl) hA hE ops.size _ a0 w0.drew unl_start (fun j _ hj => by simp [hj]) (rely_start hd)
end
end Go.Proofs.Ytfmahpgfeoafiaa
/- A region in the text's order, gone through once: each operation has a condition on its value that later steps keep; beside them a relation on the world that steps on with the operations; the last operations may be left as they stand. No program is named here. -/
namespace Go.Proofs.Ytfmahpgfeoafiaa
open Go
set_option maxRecDepth 8000
set_option linter.all false

def seqStep (P : Program) (Q : Exit → Act → World → Prop) (T : World → World → Prop) (V : List (SV T)) (J : Nat → World → Prop) (a0 : Act) (w0 : World) (i : Nat) (o : Oper) (dp : List (Tmp × Option Nat)) (g : Option (Tmp × Bool)) (c : SV T) : Prop :=
  ∀ (a : Act) (w : World), T w0 w → relyFacts V a0 a w dp → J i w → ∀ K : Act → World → Prop, (∀ v w', T w w' → J (i + 1) w' → c.pred v w' → K (a.put o.dst v) w') →
    if relyGuard g a then o.wp P a w K Q else K (a.put o.dst undef) w
def seqAll (P : Program) (Q : Exit → Act → World → Prop) (T : World → World → Prop) (V : List (SV T)) (J : Nat → World → Prop) (a0 : Act) (w0 : World) : Nat → List Oper → Deps → List (SV T) → Prop
  | _, [], _, _ => True
  | i, o :: r, (dp, g) :: D, c :: C => seqStep P Q T V J a0 w0 i o dp g c ∧ seqAll P Q T V J a0 w0 (i + 1) r D C
  | _, _, _, _ => False
def seqOne (ops : Array Oper) (n m : Nat) (i : Nat) (o : Oper) (dp : List (Tmp × Option Nat)) (g : Option (Tmp × Bool)) : Bool :=
  (match o.dst with | some d => decide (d < n) && (List.range m).all (fun j => decide (j = i) || relyDst ops j != some d) | none => true) &&
  (dp.all fun x => match x.2 with
    | some j => relyDst ops j == some x.1 && decide (j < i)
    | none => (List.range i).all fun j => relyDst ops j != some x.1) &&
  (match o.guard, g with
    | none, none => true
    | some (k, b), some (d, b') => b == b' && relyDst ops k == some d && decide (d < n)
    | _, _ => false)
def seqB (ops : Array Oper) (n m : Nat) : Nat → List Oper → Deps → Bool
  | _, [], _ => true
  | i, o :: r, (dp, g) :: D => seqOne ops n m i o dp g && seqB ops n m (i + 1) r D
  | _, _, _ => false
section
variable {P : Program} {ops : Array Oper} {Q : Exit → Act → World → Prop} {T : World → World → Prop} {V : List (SV T)} {J : Nat → World → Prop} {a0 : Act} {w0 : World} {n m : Nat} {D : Deps} {init tail : List Oper}
theorem seqB_at : ∀ (l : List Oper) (D : Deps) (i k : Nat) (o : Oper), seqB ops n m i l D = true → l[k]? = some o → ∃ dp g, D[k]? = some (dp, g) ∧ seqOne ops n m (i + k) o dp g = true
  | [], _, _, _, _, _, h => by simp at h
  | x :: r, [], _, _, _, h, _ => by simp [seqB] at h
  | x :: r, (dp, g) :: D, i, 0, o, h, ho => by
    simp only [seqB, Bool.and_eq_true] at h
    simp at ho
    subst ho
    exact ⟨dp, g, rfl, h.1⟩
  | x :: r, (dp, g) :: D, i, k + 1, o, h, ho => by
    simp only [seqB, Bool.and_eq_true] at h
    obtain ⟨dp', g', hD, h'⟩ := seqB_at r D (i + 1) k o h.2 (by simpa using ho)
    exact ⟨dp', g', by simpa using hD, by rw [show i + (k + 1) = i + 1 + k by omega]; exact h'⟩
theorem seqAll_at : ∀ (l : List Oper) (D : Deps) (C : List (SV T)) (i k : Nat) (o : Oper) dp g, seqAll P Q T V J a0 w0 i l D C → l[k]? = some o → D[k]? = some (dp, g) → seqStep P Q T V J a0 w0 (i + k) o dp g (C.getD k SV.any)
  | [], _, _, _, _, _, _, _, _, h, _ => by simp at h
  | x :: r, [], _, _, _, _, _, _, h, _, _ => h.elim
  | x :: r, y :: D, [], _, _, _, _, _, h, _, _ => h.elim
  | x :: r, (dp, g) :: D, c :: C, i, 0, o, dp', g', h, ho, hD => by
    simp at ho hD
    obtain ⟨rfl, rfl⟩ := hD
    subst ho
    exact h.1
  | x :: r, (dp, g) :: D, c :: C, i, k + 1, o, dp', g', h, ho, hD => by
    have := seqAll_at r D C (i + 1) k o dp' g' h.2 (by simpa using ho) (by simpa using hD)
    rw [show i + (k + 1) = i + 1 + k by omega]
    simpa using this
structure SeqInv (ops : Array Oper) (T : World → World → Prop) (V : List (SV T)) (J : Nat → World → Prop) (a0 : Act) (w0 : World) (k : Nat) (a : Act) (w : World) : Prop where
  now : T w0 w
  at_ : J k w
  slots : a.tmps.size = a0.tmps.size
  defers : a.defers = a0.defers
  new : ∀ j d, j < k → relyDst ops j = some d → (V.getD j SV.any).pred (a.tmps.getD d undef) w
  old : ∀ d, (∀ j, j < k → relyDst ops j ≠ some d) → a.tmps.getD d undef = a0.tmps.getD d undef
theorem seq_op (hn : a0.tmps.size = n) (ht : ∀ a b c : World, T a b → T b c → T a c) {i : Nat} {o : Oper} {dp : List (Tmp × Option Nat)} {g : Option (Tmp × Bool)} {a : Act} {w : World}
    (him : i < m) (ho : ops[i]? = some o) (h1 : seqOne ops n m i o dp g = true) (hstep : seqStep P Q T V J a0 w0 i o dp g (V.getD i SV.any)) (inv : SeqInv ops T V J a0 w0 i a w) :
    wpOp P ops Q i (fun a' w' => SeqInv ops T V J a0 w0 (i + 1) a' w') a w := by
  simp only [seqOne, Bool.and_eq_true] at h1
  obtain ⟨⟨hdst, hdp⟩, hg⟩ := h1
  have hfacts : relyFacts V a0 a w dp := by
    clear hstep
    induction dp with
    | nil => trivial
    | cons x r ih2 =>
      simp only [List.all_cons, Bool.and_eq_true] at hdp
      obtain ⟨hx, hr⟩ := hdp
      obtain ⟨d, j⟩ := x
      cases j with
      | some j =>
        simp only [Bool.and_eq_true, beq_iff_eq, decide_eq_true_eq] at hx
        exact ⟨inv.new j d hx.2 hx.1, ih2 hr⟩
      | none =>
        refine ⟨inv.old d fun j hj => ?_, ih2 hr⟩
        simpa using List.all_eq_true.1 hx j (List.mem_range.2 hj)
  have hguard : Region.wanted o (yielded ops a.tmps) = relyGuard g a := by
    unfold Region.wanted
    cases hgo : o.guard with
    | none =>
      rw [hgo] at hg
      cases g with
      | none => rfl
      | some x => cases hg
    | some kb =>
      obtain ⟨k, b⟩ := kb
      rw [hgo] at hg
      cases g with
      | none => cases hg
      | some x =>
        obtain ⟨d, b'⟩ := x
        simp only [Bool.and_eq_true, beq_iff_eq, decide_eq_true_eq] at hg
        obtain ⟨⟨rfl, hd⟩, hlt⟩ := hg
        have hlt' : d < a.tmps.size := by rw [inv.slots, hn]; exact hlt
        have hd' : (ops[k]?).bind (·.dst) = some d := hd
        simp only [yielded, hd', Option.bind_some, relyGuard, Array.getD_eq_getD_getElem?, Array.getElem?_eq_getElem hlt', Option.getD_some]
        cases a.tmps[d] <;> simp
        all_goals (rename_i x; cases x <;> cases b <;> rfl)
  have next : ∀ v w', T w w' → J (i + 1) w' → (V.getD i SV.any).pred v w' → SeqInv ops T V J a0 w0 (i + 1) (a.put o.dst v) w' := fun v w' hT hJ hv => by
    refine ⟨ht _ _ _ inv.now hT, hJ, by cases o.dst <;> simp [Act.put, inv.slots], by cases o.dst <;> simp [Act.put, inv.defers], fun j d hji hj => ?_, fun d hno => ?_⟩
    · by_cases hij : i = j
      · subst hij
        have hd : o.dst = some d := by simpa [relyDst, ho] using hj
        rw [hd] at hdst
        simp only [Bool.and_eq_true, decide_eq_true_eq] at hdst
        have hlt : d < a.tmps.size := by rw [inv.slots, hn]; exact hdst.1
        rw [hd]
        simpa [Act.put, hlt] using hv
      · have h3 := (V.getD j SV.any).stable _ _ _ (inv.new j d (by omega) hj) hT
        cases hod : o.dst with
        | none => exact h3
        | some d0 =>
          rw [hod] at hdst
          simp only [Bool.and_eq_true, decide_eq_true_eq] at hdst
          have h4 := List.all_eq_true.1 hdst.2 j (List.mem_range.2 (by omega))
          simp only [Bool.or_eq_true, decide_eq_true_eq, bne_iff_ne, ne_eq] at h4
          have hne : d0 ≠ d := fun e => by
            subst e
            rcases h4 with h4 | h4
            · exact hij h4.symm
            · exact h4 hj
          simpa [Act.put, Array.getElem?_setIfInBounds_ne hne] using h3
    · have hni : o.dst ≠ some d := fun hd => hno i (by omega) (by simp [relyDst, ho, hd])
      have hold := inv.old d fun j hj => hno j (by omega)
      cases hod : o.dst with
      | none => exact hold
      | some d0 =>
        have hne : d0 ≠ d := fun e => hni (by rw [hod, e])
        simpa [Act.put, Array.getElem?_setIfInBounds_ne hne] using hold
  have hs := hstep a w inv.now hfacts inv.at_ _ next
  unfold wpOp
  simp only [ho, hguard]
  split
  · rename_i hw; rw [if_pos hw] at hs; exact .inl hs
  · rename_i hw; rw [if_neg hw] at hs; exact hs
theorem wpOps_tail : ∀ (t : List Oper) (k : Nat) (a : Act) (w : World), (∀ i : Nat, ops[k + i]? = t[i]?) → wpList P ops Q t a w → wpOps P ops Q (List.range' k t.length) a w
  | [], k, a, w, _, h => by simpa [wpOps, wpList] using h
  | o :: t, k, a, w, hk, h => by
    have hi : ops[k]? = some o := by simpa using hk 0
    rw [List.length_cons, List.range'_succ, wpOps_cons]
    refine wpOp_mono (fun a' w' h' => wpOps_tail t (k + 1) a' w' (fun i => by have := hk (i + 1); rw [show k + 1 + i = k + (i + 1) by omega]; simpa using this) h') ?_
    unfold wpOp
    simp only [hi]
    simpa only [wpList] using h
theorem wpOps_seq (hsplit : ops.toList = init ++ tail) (hn : a0.tmps.size = n) (hB : seqB ops n init.length 0 init D = true) (ht : ∀ a b c : World, T a b → T b c → T a c)
    (hl : init.length ≤ V.length) (hA : seqAll P Q T V J a0 w0 0 init D V) (hE : ∀ w, T w0 w → J init.length w → relyEnd (fun _ a w => wpList P ops Q tail a w) T init V a0 w) :
    ∀ (f k : Nat) (a : Act) (w : World), k + f = init.length → SeqInv ops T V J a0 w0 k a w → wpOps P ops Q (List.range' k (f + tail.length)) a w := by
  obtain ⟨hsz, hpre, htl⟩ := split_at hsplit
  intro f
  induction f with
  | zero =>
    intro k a w hk inv
    obtain rfl : k = init.length := by omega
    rw [Nat.zero_add]
    refine wpOps_tail tail init.length a w htl ?_
    refine relyEnd_of (Q := fun _ a w => wpList P ops Q tail a w) init V a0 inv.slots.symm inv.defers.symm hl (fun d hnd => ?_) (fun k o d hk hd => ?_) (hE w inv.now inv.at_)
    · refine (inv.old d fun j hj hjd => ?_).symm
      have hj2 := hpre j init[j] (List.getElem?_eq_getElem hj)
      simp [relyDst, hj2] at hjd
      exact hnd init[j] (List.getElem_mem hj) hjd
    · exact inv.new k d (List.getElem?_eq_some_iff.1 hk).1 (by simp [relyDst, hpre k o hk, hd])
  | succ f ih =>
    intro k a w hk inv
    rw [show f + 1 + tail.length = (f + tail.length) + 1 by omega, List.range'_succ, wpOps_cons]
    have hklt : k < init.length := by omega
    have hio : init[k]? = some init[k] := List.getElem?_eq_getElem hklt
    obtain ⟨dp, g, hD, h1⟩ := seqB_at init D 0 k _ hB hio
    have hstep := seqAll_at _ _ _ 0 k _ dp g hA hio hD
    rw [Nat.zero_add] at h1 hstep
    exact wpOp_mono (fun a' w' inv' => ih (k + 1) a' w' (by omega) inv') (seq_op hn ht hklt (hpre k _ hio) h1 hstep inv)
/-- **A region in the text's order; the operations from place m on are left as they stand.** -/
theorem wp_region_steps {id : Nat} (T : World → World → Prop) (J : Nat → World → Prop) (V : List (SV T)) (D : Deps) (n m : Nat) (hn : a0.tmps.size = n) (hlen : (ops.toList.take m).length = m) (hB : seqB ops n m 0 (ops.toList.take m) D = true)
    (ht : ∀ a b c : World, T a b → T b c → T a c) (hd : T w0 w0) (hJ : J 0 w0) (hl : m ≤ V.length)
    (hA : seqAll P Q T V J a0 w0 0 (ops.toList.take m) D V) (hE : ∀ w, T w0 w → J m w → relyEnd (fun _ a w => wpList P ops Q (ops.toList.drop m) a w) T (ops.toList.take m) V a0 w) : (Code.region id ops false).wp P Q a0 w0 := by
  refine wp_region ?_
  have hs := split_at (List.take_append_drop m ops.toList).symm
  rw [List.range_eq_range', hs.1]
  exact wpOps_seq (List.take_append_drop m ops.toList).symm hn (by rw [hlen]; exact hB) ht (by rw [hlen]; exact hl) hA (by rw [hlen]; exact hE) _ 0 a0 w0 (by omega) ⟨hd, hJ, rfl, rfl, fun j d hj => absurd hj (by omega), fun _ _ => rfl⟩
/-- Without a relation beside. -/
theorem seqAll_of : ∀ (i : Nat) (l : List Oper) (D : Deps) (C : List (SV T)), relyAll P Q T V a0 w0 l D C → seqAll P Q T V (fun _ _ => True) a0 w0 i l D C
  | _, [], _, _, _ => trivial
  | i, _ :: r, (_, _) :: D, _ :: C, h => ⟨fun a w hT hF _ K hK => h.1 a w hT hF K fun v w' h1 h2 => hK v w' h1 trivial h2, seqAll_of (i + 1) r D C h.2⟩
  | _, _ :: _, [], _, h => h.elim
  | _, _ :: _, _ :: _, [], h => h.elim
theorem wp_region_steps0 {id : Nat} (T : World → World → Prop) (V : List (SV T)) (D : Deps) (n m : Nat) (hn : a0.tmps.size = n) (hlen : (ops.toList.take m).length = m) (hB : seqB ops n m 0 (ops.toList.take m) D = true)
    (ht : ∀ a b c : World, T a b → T b c → T a c) (hd : T w0 w0) (hl : m ≤ V.length)
    (hA : relyAll P Q T V a0 w0 (ops.toList.take m) D V) (hE : ∀ w, T w0 w → relyEnd (fun _ a w => wpList P ops Q (ops.toList.drop m) a w) T (ops.toList.take m) V a0 w) : (Code.region id ops false).wp P Q a0 w0 :=
  wp_region_steps T (fun _ _ => True) V D n m hn hlen hB ht hd trivial hl (seqAll_of 0 _ _ _ hA) fun w hT _ => hE w hT
theorem wpList_end {a : Act} {w : World} {l : List Oper} (hl : l = []) (h : Q .normal a w) : wpList P ops Q l a w := by subst hl; exact h
end
end Go.Proofs.Ytfmahpgfeoafiaa
/- A step that writes one block; stores into a row, a lemma each. No program is named here. -/
namespace Go.Proofs.Ytfmahpgfeoafiaa
open Go Go.RowKit
set_option maxRecDepth 8000
set_option linter.all false

/-- A step that writes block R, and new memory, alone. -/
structure RT (R : Nat) (w w' : World) : Prop where
  below : Below R w w'
  keep : KeepBut [R] w w'
theorem RT.refl (R : Nat) (w : World) : RT R w w := ⟨Below.refl _ _, KeepBut.refl _ _⟩
theorem RT.trans {R : Nat} (a b c : World) (h : RT R a b) (k : RT R b c) : RT R a c := ⟨h.below.trans k.below, h.keep.trans k.keep⟩
theorem RT.new {R : Nat} {w w' : World} (hR : R < w.heap.size) (h : NewT w w') : RT R w w' := ⟨h.out.mono (by omega), KeepBut.below h⟩
theorem RT.drew (R : Nat) (w : World) : RT R w w.drew := ⟨(Below.refl _ _).drew, KeepBut.drew _⟩
theorem RT.setCell {R : Nat} (w : World) (o : Nat) (v : Value) : RT R w (w.setCell ⟨R, o, none⟩ v) := ⟨(Below.refl R w).setCell (p := ⟨R, o, none⟩) (Nat.le_refl R) v, KeepBut.setCell (by simp) v⟩
theorem RT.rd {R : Nat} {w w' : World} (h : RT R w w') {v : Value} {l : List UInt8} (hr : RdV w [R] v l) : RdV w' [R] v l := hr.keep h.keep
theorem RT.row {R : Nat} {w w' : World} (h : RT R w w') {b n : Nat} {t : TypeId} {f : Nat → Value} (hb : b ≠ R) (hr : w.rowIs b t n f) : w'.rowIs b t n f := h.keep.row (by simpa using hb) hr
theorem RT.size {R : Nat} {w w' : World} (h : RT R w w') : w.heap.size ≤ w'.heap.size := h.below.size
/-- A block that is new is written. -/
theorem NewT.rt {w w1 w2 : World} {b : Nat} (h : NewT w w1) (hR : RT b w1 w2) (hb : w.heap.size ≤ b) : NewT w w2 := NewT.of (h.out.trans (hR.below.mono hb))
section
variable {P : Program} {ops : Array Oper} {rest : List Oper} {a : Act} {w : World} {Q : Exit → Act → World → Prop}
theorem wpList_new {o1 o2 : Oper} {t : TypeId} {n d0 : Nat} {y : Operand} {f f0 : Nat → Value} (hg1 : o1.guard = none) (hg2 : o2.guard = none) (h1 : o1.op = .alloc t) (hd : o1.dst = some d0) (h2 : o2.op = .store t (.tmp d0) y) (hd2 : o2.dst = none) (hlt : d0 < a.tmps.size)
    (hal : ∀ w : World, (Instr.alloc t true (.tuple #[])).run P w = .ok (.pointer (some ⟨w.heap.size, 0, none⟩)) (w.alloc (.cells (rowA n f0) t))) (hi : (P.info? t).map (·.size) = some n) (hone : ∀ i, (f i).oneCell' = true)
    (hy : (a.put (some d0) (.pointer (some ⟨w.heap.size, 0, none⟩))).eval y = .agg (rowA n f)) (h : ∀ w', NewT w w' → w'.rowIs w.heap.size t n f → wpList P ops Q rest (a.put (some d0) (.pointer (some ⟨w.heap.size, 0, none⟩))) w') : wpList P ops Q (o1 :: o2 :: rest) a w := by
  refine wpList_plain hg1 fun K hK => ?_
  obtain ⟨dst, op, type, pos, after, guard⟩ := o1
  simp only at h1 hd
  subst h1 hd
  refine opr_val (s := Instr.alloc t true (.tuple #[])) rfl (hal w) (hK _ _ ?_)
  have hr := rowIs_box w t n f0
  refine wpList_store_mid hg2 t (.tmp d0) y h2 w.heap.size 0 (rowA n f) (by rw [eval_tmp]; simp [Act.put, hlt]) hy (by rw [rowA_size]; exact there_row hr) (by rw [rowA_size]; exact hi) (rowA_one _ _ hone) ?_
  rw [hd2]
  exact h _ (below_setCells _ (Nat.le_refl _) _ _ _ (NewT.alloc _ _).out) (rowIs_setAll hr f)
/-- A part of a row that is the call's own is written. -/
theorem wpList_put {o : Oper} {t t' : TypeId} {x y : Operand} {g o0 n m : Nat} {f f0 F : Nat → Value} (hg : o.guard = none) (ho : o.op = .store t x y) (hd : o.dst = none) (hx : a.eval x = .pointer (some ⟨g, o0, none⟩)) (hy : a.eval y = .agg (rowA m f)) (hr : w.rowIs g t' n f0) (hm : o0 + m ≤ n) (hi : (P.info? t).map (·.size) = some m) (hone : ∀ i, (f i).oneCell' = true)
    (hF : ∀ i, i < n → F i = if o0 ≤ i ∧ i < o0 + m then f (i - o0) else f0 i) (h : ∀ w', (∀ B, B ≤ g → Below B w w') → w'.rowIs g t' n F → wpList P ops Q rest a w') : wpList P ops Q (o :: rest) a w := by
  refine wpList_store_mid hg t x y ho g o0 (rowA m f) hx hy (by rw [rowA_size]; exact fun j hj => ⟨by simp [hr.cell (i := o0 + j) (by omega)], by simpa using hr.frozen (o0 + j)⟩) (by rw [rowA_size]; exact hi) (rowA_one _ _ hone) ?_
  rw [hd]
  refine h _ (fun B hB => below_setCells g hB _ _ _ (Below.refl _ _)) ((rowIs_setCells_at hr (rowA m f).toList o0).congr fun i hi => ?_)
  rw [hF i hi, rowA_toList]
  simp only [List.length_map, List.length_range]
  by_cases h : o0 ≤ i ∧ i < o0 + m
  · rw [if_pos h, if_pos h]
    simp [show i - o0 < m by omega]
  · rw [if_neg h, if_neg h]
theorem wpList_put1 {o : Oper} {t t' : TypeId} {x y : Operand} {g o0 n : Nat} {v : Value} {f0 F : Nat → Value} (hg : o.guard = none) (ho : o.op = .store t x y) (hd : o.dst = none) (hx : a.eval x = .pointer (some ⟨g, o0, none⟩)) (hy : a.eval y = v) (hr : w.rowIs g t' n f0) (hm : o0 < n) (hi : (P.info? t).map (·.size) = some 1) (hone : v.oneCell' = true)
    (hF : ∀ i, i < n → F i = if i = o0 then v else f0 i) (h : ∀ w', (∀ B, B ≤ g → Below B w w') → w'.rowIs g t' n F → wpList P ops Q rest a w') : wpList P ops Q (o :: rest) a w := by
  refine wpList_plain hg fun K hK => ?_
  obtain ⟨dst, op, type, pos, after, guard⟩ := o
  simp only at ho hd
  subst ho hd
  have hsz : (sizeOf t).run P w = .ok 1 w := by
    cases hq : P.info? t with
    | none => simp [hq] at hi
    | some i => simp [hq] at hi; simp [sizeOf, typeInfo, hq, hi]
  have hc := hr.cell hm
  have hf := hr.frozen o0
  have hcs : v.cells = #[v] := by cases v <;> first | rfl | simp [Value.oneCell'] at hone
  refine opr_unit (s := Instr.storeAt t (a.eval x) (a.eval y)) (w' := w.setCell ⟨g, o0, none⟩ v) rfl ?_ (hK _ _ ?_)
  · rw [hx, hy]
    simp [Instr.storeAt, Instr.sureAddr, storeVar, hsz, hcs, storeCells, run_store _ _ _ _ _ hone, hc, hf, Addr.add_zero']
  · exact h _ (fun B hB => (Below.refl B w).setCell (p := ⟨g, o0, none⟩) hB v) ((hr.set o0 v).congr fun i hi => by rw [hF i hi])
/-- A record or a row that a call hands back. -/
theorem results_agg {fn : Func} {p : Tmp} {ty t : TypeId} {d : TypeDesc} {n b : Nat} {f : Nat → Value} (hf : fn.results = #[.cell p ty]) (tmps : Array Value) (hp : tmps.getD p undef = .pointer (some ⟨b, 0, none⟩))
    (h : w.rowIs b t n f) (hu : P.underlying ty = some d) (hd : d.isRow = true) (hi : (P.info? ty).map (·.size) = some n) : (results fn tmps).run P w = .ok (.agg (rowA n f)) w := by
  have := run_loadVar_mid (P := P) w b 0 ty (rowA n f).toList d (rangeAt_row h) hu hd (by rw [hi, rowA_toList]; simp)
  have hp' : tmps[p]?.getD undef = .pointer (some ⟨b, 0, none⟩) := by simpa using hp
  simp [results, hf, hp', asAddr, this]
end
section
variable {P : Program} {a : Act} {w : World} {o : Oper} {K : Act → World → Prop} {Q : Exit → Act → World → Prop}
theorem opr_put1 {t t' : TypeId} {x y : Operand} {g o0 n : Nat} {v : Value} {f0 F : Nat → Value} (ho : o.op = .store t x y) (hx : a.eval x = .pointer (some ⟨g, o0, none⟩)) (hy : a.eval y = v) (hr : w.rowIs g t' n f0) (hm : o0 < n) (hi : (P.info? t).map (·.size) = some 1) (hone : v.oneCell' = true)
    (hF : ∀ i, i < n → F i = if i = o0 then v else f0 i) (h : ∀ w', RT g w w' → w'.rowIs g t' n F → K (a.put o.dst undef) w') : o.wp P a w K Q := by
  obtain ⟨dst, op, type, pos, after, guard⟩ := o
  simp only at ho
  subst ho
  have hsz : (sizeOf t).run P w = .ok 1 w := by
    cases hq : P.info? t with
    | none => simp [hq] at hi
    | some i => simp [hq] at hi; simp [sizeOf, typeInfo, hq, hi]
  have hc := hr.cell hm
  have hf := hr.frozen o0
  have hcs : v.cells = #[v] := by cases v <;> first | rfl | simp [Value.oneCell'] at hone
  refine opr_unit (s := Instr.storeAt t (a.eval x) (a.eval y)) (w' := w.setCell ⟨g, o0, none⟩ v) rfl ?_ (h _ (RT.setCell w o0 v) ((hr.set o0 v).congr fun i hi => by rw [hF i hi]))
  rw [hx, hy]
  simp [Instr.storeAt, Instr.sureAddr, storeVar, hsz, hcs, storeCells, run_store _ _ _ _ _ hone, hc, hf, Addr.add_zero']
theorem RT.setCells {R : Nat} (vs : List Value) (o : Nat) (w : World) : RT R w (w.setCells R o vs) := by
  induction vs generalizing o w with
  | nil => exact RT.refl _ _
  | cons v r ih => rw [World.setCells]; exact RT.trans _ _ _ (RT.setCell w o v) (ih (o + 1) _)
theorem opr_putm {t t' : TypeId} {x y : Operand} {g o0 n m : Nat} {f f0 F : Nat → Value} (ho : o.op = .store t x y) (hx : a.eval x = .pointer (some ⟨g, o0, none⟩)) (hy : a.eval y = .agg (rowA m f)) (hr : w.rowIs g t' n f0) (hm : o0 + m ≤ n) (hi : (P.info? t).map (·.size) = some m) (hone : ∀ i, (f i).oneCell' = true)
    (hF : ∀ i, i < n → F i = if o0 ≤ i ∧ i < o0 + m then f (i - o0) else f0 i) (h : ∀ w', RT g w w' → w'.rowIs g t' n F → K (a.put o.dst undef) w') : o.wp P a w K Q := by
  refine wp_store_mid t x y ho g o0 (rowA m f) hx hy (by rw [rowA_size]; exact fun j hj => ⟨by simp [hr.cell (i := o0 + j) (by omega)], by simpa using hr.frozen (o0 + j)⟩) (by rw [rowA_size]; exact hi) (rowA_one _ _ hone) ?_
  refine h _ (RT.setCells _ _ _) ((rowIs_setCells_at hr (rowA m f).toList o0).congr fun i hi => ?_)
  rw [hF i hi, rowA_toList]
  simp only [List.length_map, List.length_range]
  by_cases h : o0 ≤ i ∧ i < o0 + m
  · rw [if_pos h, if_pos h]
    simp [show i - o0 < m by omega]
  · rw [if_neg h, if_neg h]
end
end Go.Proofs.Ytfmahpgfeoafiaa
/- What the guards of a region make conditional, and single operations, a lemma each: fields, loads, numbers compared. -/
namespace Go.Proofs.Ytfmahpgfeoafiaa
open Go Go.RowKit
set_option maxRecDepth 8000
set_option linter.all false

theorem evs0 {a : Act} : (#[] : Array Operand).map a.eval = #[] := by simp
theorem evs1 {a : Act} {x : Operand} {v : Value} (h : a.eval x = v) : #[x].map a.eval = #[v] := by simp only [List.map_toArray, List.map_cons, List.map_nil, h]
theorem evs2 {a : Act} {x y : Operand} {v u : Value} (h : a.eval x = v) (k : a.eval y = u) : #[x, y].map a.eval = #[v, u] := by simp only [List.map_toArray, List.map_cons, List.map_nil, h, k]
theorem evs3 {a : Act} {x y z : Operand} {v u t : Value} (h : a.eval x = v) (k : a.eval y = u) (l : a.eval z = t) : #[x, y, z].map a.eval = #[v, u, t] := by simp only [List.map_toArray, List.map_cons, List.map_nil, h, k, l]
theorem evs4 {a : Act} {x y z p : Operand} {v u t s : Value} (h : a.eval x = v) (k : a.eval y = u) (l : a.eval z = t) (m : a.eval p = s) : #[x, y, z, p].map a.eval = #[v, u, t, s] := by simp only [List.map_toArray, List.map_cons, List.map_nil, h, k, l, m]
theorem evs5 {a : Act} {x y z p q : Operand} {v u t s r : Value} (h : a.eval x = v) (k : a.eval y = u) (l : a.eval z = t) (m : a.eval p = s) (n : a.eval q = r) : #[x, y, z, p, q].map a.eval = #[v, u, t, s, r] := by simp only [List.map_toArray, List.map_cons, List.map_nil, h, k, l, m, n]
section
variable {P : Program} {a : Act} {w : World} {o : Oper} {K : Act → World → Prop} {Q : Exit → Act → World → Prop}
/-- A condition that stands where b is so. -/
def svIf {T : World → World → Prop} (b : Bool) (c : SV T) : SV T := ⟨fun v w => b = true → c.pred v w, fun v w w' h hT hb => c.stable v w w' (h hb) hT⟩
/-- A guard's own value, where it may be left out. -/
def gV (b c : Bool) : Value := bif b then .bool c else undef
theorem rely_on {g : Option (Tmp × Bool)} {E : Bool} (hg : relyGuard g a = E) (h1 : E = true → o.wp P a w K Q) (h0 : E = false → K (a.put o.dst undef) w) : if relyGuard g a then o.wp P a w K Q else K (a.put o.dst undef) w := by
  rw [hg]; cases E
  · exact h0 rfl
  · exact h1 rfl
/-- What is done under a guard that isn't known. -/
theorem rely_if {T : World → World → Prop} {g : Option (Tmp × Bool)} {E : Bool} {c : SV T} (hg : relyGuard g a = E) (hr : T w w) (hK : ∀ v w', T w w' → (svIf E c).pred v w' → K (a.put o.dst v) w') (h : E = true → (∀ v w', T w w' → c.pred v w' → K (a.put o.dst v) w') → o.wp P a w K Q) : if relyGuard g a then o.wp P a w K Q else K (a.put o.dst undef) w :=
  rely_on hg (fun hE => h hE fun v w' h1 h2 => hK v w' h1 fun _ => h2) fun hE => hK _ _ hr fun h1 => by rw [hE] at h1; cases h1
theorem rely_ifg {T : World → World → Prop} {g : Option (Tmp × Bool)} {E b : Bool} (hg : relyGuard g a = E) (hr : T w w) (hK : ∀ v w', T w w' → (SV.eq (T := T) (gV E b)).pred v w' → K (a.put o.dst v) w') (h : E = true → (∀ v w', T w w' → v = .bool b → K (a.put o.dst v) w') → o.wp P a w K Q) : if relyGuard g a then o.wp P a w K Q else K (a.put o.dst undef) w :=
  rely_on hg (fun hE => h hE fun v w' h1 h2 => hK v w' h1 (by rw [h2, hE]; rfl)) fun hE => hK _ _ hr (by rw [hE]; rfl)
theorem pn_and1 {b e q : Bool} {v : Value} (hq : (b && e) = q) (h : v = .bool e) (hb : b = true) : v = .bool q := by rw [h, ← hq, hb]; rfl
theorem pn_and0 {b e q : Bool} (hq : (b && e) = q) (hb : b = false) : Value.bool false = .bool q := by rw [← hq, hb]; rfl
theorem pn_or1 {b e q : Bool} (hq : (b || e) = q) (hb : b = true) : Value.bool true = .bool q := by rw [← hq, hb]; rfl
theorem pn_or0 {b e q : Bool} {v : Value} (hq : (b || e) = q) (h : v = .bool e) (hb : b = false) : v = .bool q := by rw [h, ← hq, hb]; rfl
theorem rely_gt {d : Tmp} {b : Bool} (h : a.tmps.getD d undef = .bool b) : relyGuard (some (d, true)) a = b := by simp only [relyGuard, h]; cases b <;> rfl
theorem rely_gf {d : Tmp} {b : Bool} (h : a.tmps.getD d undef = .bool b) : relyGuard (some (d, false)) a = !b := by simp only [relyGuard, h]; cases b <;> rfl
theorem rely_ggt {d : Tmp} {p b : Bool} (h : a.tmps.getD d undef = gV p b) : relyGuard (some (d, true)) a = (p && b) := by simp only [relyGuard, h, gV]; cases p <;> cases b <;> rfl
theorem rely_ggf {d : Tmp} {p b : Bool} (h : a.tmps.getD d undef = gV p b) : relyGuard (some (d, false)) a = (p && !b) := by simp only [relyGuard, h, gV]; cases p <;> cases b <;> rfl
theorem gV_on {p b : Bool} (h : p = true) : gV p b = .bool b := by rw [h]; rfl
theorem gV_off {p b : Bool} (h : p = false) : undef = gV p b := by rw [h]; rfl
theorem svIf_off {T : World → World → Prop} {b : Bool} {c : SV T} {v : Value} {w : World} (h : b = false) : (svIf b c).pred v w := fun h1 => by rw [h] at h1; cases h1
theorem bleft {a b : Bool} (h : (a && b) = true) : a = true := by cases a <;> simp_all
theorem opr_pick_b {c x y : Operand} {b : Bool} (ho : o.op = .pick c x y) (hc : a.eval c = .bool b) (h1 : b = true → K (a.put o.dst (a.eval x)) w) (h0 : b = false → K (a.put o.dst (a.eval y)) w) : o.wp P a w K Q := by
  cases b
  · exact opr_pick_false ho hc (h0 rfl)
  · exact opr_pick_true ho hc (h1 rfl)
theorem opr_pick_or {c y : Operand} {b e : Bool} (ho : o.op = .pick c (.const (.bool true)) y) (hc : a.eval c = .bool b) (hy : b = false → a.eval y = .bool e) (h : K (a.put o.dst (.bool (b || e))) w) : o.wp P a w K Q :=
  opr_pick_b ho hc (fun hb => by subst hb; exact h) (fun hb => by subst hb; rw [hy rfl]; exact h)
theorem opr_pick_and {c x : Operand} {b e : Bool} (ho : o.op = .pick c x (.const (.bool false))) (hc : a.eval c = .bool b) (hx : b = true → a.eval x = .bool e) (h : K (a.put o.dst (.bool (b && e))) w) : o.wp P a w K Q :=
  opr_pick_b ho hc (fun hb => by subst hb; rw [hx rfl]; exact h) (fun hb => by subst hb; exact h)
theorem pk_and1 {b e : Bool} {v : Value} (h : v = .bool e) (hb : b = true) : v = .bool (b && e) := by rw [h, hb]; rfl
theorem pk_and0 {b e : Bool} (hb : b = false) : Value.bool false = .bool (b && e) := by rw [hb]; rfl
theorem pk_or1 {b e : Bool} (hb : b = true) : Value.bool true = .bool (b || e) := by rw [hb]; rfl
theorem pk_or0 {b e : Bool} {v : Value} (h : v = .bool e) (hb : b = false) : v = .bool (b || e) := by rw [h, hb]; rfl
theorem bnot {b : Bool} (h : b = false) : (!b) = true := by rw [h]; rfl
theorem band {a b : Bool} (h : a = true) (k : b = true) : (a && b) = true := by rw [h, k]; rfl
theorem opr_not {t : TypeId} {x : Operand} {b : Bool} (ho : o.op = .unOp .not t x) (hx : a.eval x = .bool b) (h : K (a.put o.dst (.bool !b)) w) : o.wp P a w K Q := by
  obtain ⟨dst, op, type, pos, after, guard⟩ := o
  simp only at ho
  subst ho
  refine opr_val (s := Op.unary .not (a.eval x)) rfl ?_ h
  rw [hx]; simp [go_sem]
/-- A field's place. -/
theorem opr_fld {t : TypeId} {x : Operand} {k g o0 off m : Nat} {fs : Array Field} {f : Field} (hu : P.underlying t = some (.struct fs)) (hk : fs[k]? = some f) (hs : (P.info? f.type).map (·.size) = some (m + 1)) (ho : o.op = .fieldAddr t x k) (hx : a.eval x = .pointer (some ⟨g, o0, none⟩)) (hoff : o0 + f.offset = off) (h : K (a.put o.dst (.pointer (some ⟨g, off, none⟩))) w) : o.wp P a w K Q := by
  subst hoff
  obtain ⟨dst, op, type, pos, after, guard⟩ := o
  simp only at ho
  subst ho
  refine opr_val (s := Instr.fieldAt t (a.eval x) k) rfl ?_ h
  have hsz : (sizeOf f.type).run P w = .ok (m + 1) w := by
    cases hq : P.info? f.type with
    | none => simp [hq] at hs
    | some i => simp [hq] at hs; simp [sizeOf, typeInfo, hq, hs]
  rw [hx]
  simp [Instr.fieldAt, run_underlying hu, hk, Instr.sureAddr, fieldPlace, hsz, Addr.add_mid]
/-- A cell is loaded. -/
theorem opr_ld1 {t : TypeId} {x : Operand} {g o0 : Nat} {d : TypeDesc} {v : Value} (hu : P.underlying t = some d) (hd : d.isRow = false) (ho : o.op = .load t x) (hx : a.eval x = .pointer (some ⟨g, o0, none⟩)) (hc : w.cell? ⟨g, o0, none⟩ = some v) (h : K (a.put o.dst v) w) : o.wp P a w K Q := by
  obtain ⟨dst, op, type, pos, after, guard⟩ := o
  simp only at ho
  subst ho
  refine opr_val (s := Instr.loadAt t (a.eval x)) rfl ?_ h
  have hagg : (isAgg t).run P w = .ok false w := by
    unfold isAgg
    rw [Sem.run_bind, run_underlying hu w]
    cases d <;> simp_all
  rw [hx]
  simp [Instr.loadAt, Instr.sureAddr, loadVar, hagg, hc]
/-- A part of a row is loaded. -/
theorem opr_ldm {t t' : TypeId} {x : Operand} {g o0 n m : Nat} {d : TypeDesc} {f : Nat → Value} (hu : P.underlying t = some d) (hd : d.isRow = true) (hi : (P.info? t).map (·.size) = some m) (ho : o.op = .load t x) (hx : a.eval x = .pointer (some ⟨g, o0, none⟩)) (hr : w.rowIs g t' n f) (hm : o0 + m ≤ n) (h : K (a.put o.dst (.agg (rowA m fun j => f (o0 + j)))) w) : o.wp P a w K Q := by
  obtain ⟨dst, op, type, pos, after, guard⟩ := o
  simp only at ho
  subst ho
  refine opr_val (s := Instr.loadAt t (a.eval x)) rfl ?_ h
  rw [hx]
  have := run_loadAt_mid (P := P) w g o0 t _ d (rangeAt_part hr o0 m hm) hu hd (by rw [rowA_toList]; simpa using hi)
  simpa using this
end
section
variable {a : Act} {w : World} {o : Oper} {K : Act → World → Prop} {Q : Exit → Act → World → Prop} {x : Operand} {g : Nat}
theorem info_int : (Try.prog.info? 3).map (·.size) = some (0 + 1) := by kernel_rfl
theorem info_bool : (Try.prog.info? 4).map (·.size) = some (0 + 1) := by kernel_rfl
theorem info_hash1 : (Try.prog.info? 39).map (·.size) = some (31 + 1) := by kernel_rfl
theorem info_sb1 : (Try.prog.info? 29).map (·.size) = some (0 + 1) := by kernel_rfl
variable {F : Nat → Value} {t' : TypeId} {n : Nat} {o0 : Nat} {v : Value}
theorem opr_ldI (hr : w.rowIs g t' n F) (hn : o0 < n) (hv : F o0 = v) (ho : o.op = .load 3 x) (hx : a.eval x = .pointer (some ⟨g, o0, none⟩)) (h : K (a.put o.dst v) w) : o.wp Try.prog a w K Q :=
  opr_ld1 Try.underlying3 rfl ho hx (by rw [hr.cell hn, hv]) h
theorem opr_ldQ (hr : w.rowIs g t' n F) (hn : o0 < n) (hv : F o0 = v) (ho : o.op = .load 4 x) (hx : a.eval x = .pointer (some ⟨g, o0, none⟩)) (h : K (a.put o.dst v) w) : o.wp Try.prog a w K Q :=
  opr_ld1 Try.underlying4 rfl ho hx (by rw [hr.cell hn, hv]) h
theorem opr_ldB (hr : w.rowIs g t' n F) (hn : o0 < n) (hv : F o0 = v) (ho : o.op = .load 29 x) (hx : a.eval x = .pointer (some ⟨g, o0, none⟩)) (h : K (a.put o.dst v) w) : o.wp Try.prog a w K Q :=
  opr_ld1 Try.underlying29 rfl ho hx (by rw [hr.cell hn, hv]) h
theorem opr_ldH {d : Nat → UInt8} (hr : w.rowIs g t' n F) (hn : o0 + 32 ≤ n) (hv : ∀ j, j < 32 → F (o0 + j) = bF d j) (ho : o.op = .load 39 x) (hx : a.eval x = .pointer (some ⟨g, o0, none⟩)) (h : K (a.put o.dst (.agg (rowA 32 (bF d)))) w) : o.wp Try.prog a w K Q :=
  opr_ldm Try.underlying39 rfl info31 ho hx hr hn (by rw [rowA_congr hv]; exact h)
/-- Numbers are compared. -/
theorem opr_cmp {op : BinOp} {t t2 : TypeId} {x y : Operand} {m n : Int} {b : Bool} (hop : op = .eql ∧ (m == n) = b ∨ op = .neq ∧ (m != n) = b ∨ op = .leq ∧ decide (m ≤ n) = b ∨ op = .lss ∧ decide (m < n) = b ∨ op = .gtr ∧ decide (n < m) = b ∨ op = .geq ∧ decide (n ≤ m) = b) (_ht : Try.prog.underlying t = some (.int .i64)) (ho : o.op = .binOp op t x y t2) (hx : a.eval x = .int .i64 m) (hy : a.eval y = .int .i64 n) (h : K (a.put o.dst (.bool b)) w) : o.wp Try.prog a w K Q := by
  obtain ⟨dst, op', type, pos, after, guard⟩ := o
  simp only at ho
  subst ho
  refine opr_val (s := do eqGuard op t x y (a.eval x) (a.eval y); binOp op t (a.eval x) (a.eval y)) rfl ?_ h
  rw [hx, hy]
  rcases hop with ⟨rfl, rfl⟩ | ⟨rfl, rfl⟩ | ⟨rfl, rfl⟩ | ⟨rfl, rfl⟩ | ⟨rfl, rfl⟩ | ⟨rfl, rfl⟩ <;> simp [go_sem]
end
section
variable {a : Act} {w : World} {o : Oper} {K : Act → World → Prop} {Q : Exit → Act → World → Prop} {x y : Operand} {g : Nat}
theorem opr_eqlQ {p q b : Bool} {t2 : TypeId} (hb : (p == q) = b) (ho : o.op = .binOp .eql 4 x y t2) (hx : a.eval x = .bool p) (hy : a.eval y = .bool q) (h : K (a.put o.dst (.bool b)) w) : o.wp Try.prog a w K Q := by
  obtain ⟨dst, op', type, pos, after, guard⟩ := o
  simp only at ho
  subst ho hb
  refine opr_val (s := do eqGuard .eql 4 x y (a.eval x) (a.eval y); binOp .eql 4 (a.eval x) (a.eval y)) rfl ?_ h
  rw [hx, hy]
  simp [go_sem]
/-- 'h[:]' of a hash that lies in a row. -/
theorem opr_sliceH {o0 : Nat} (ho : o.op = .slice 39 x none none none) (hx : a.eval x = .pointer (some ⟨g, o0, none⟩)) (h : K (a.put o.dst (.slice (some ⟨g, o0, none⟩) 32 32)) w) : o.wp Try.prog a w K Q := by
  obtain ⟨dst, op, type, pos, after, guard⟩ := o
  simp only at ho
  subst ho
  refine opr_val (s := Instr.sliceAt 39 (a.eval x) none none none) rfl ?_ h
  rw [hx]
  have hsz : (sizeOf 5).run Try.prog w = .ok 1 w := by
    have hs := info5s
    cases hq : Try.prog.info? 5 with
    | none => simp [hq] at hs
    | some i => simp [hq] at hs; simp [sizeOf, typeInfo, hq, hs]
  simp [Instr.sliceAt, run_underlying Try.underlying39, Instr.sureAddr, Instr.sliceBounds, hsz, Addr.add_zero']
theorem rd_rowH {t' n o0 : Nat} {F : Nat → Value} {d : Nat → UInt8} (hr : w.rowIs g t' n F) (hn : o0 + 32 ≤ n) (hv : ∀ j, j < 32 → F (o0 + j) = bF d j) : RdV w [] (.slice (some ⟨g, o0, none⟩) 32 32) (digL d) := by
  refine ⟨some ⟨g, o0, none⟩, 32, by rw [digL_length], by rw [digL_length]; exact Nat.le_refl _, by unfold maxLen; omega, fun _ => ⟨g, o0, rfl, by simp, fun i hi => ?_⟩⟩
  rw [digL_length] at hi
  rw [hr.cell (by omega), hv i hi, bF_at]
  simp [bAt, digL, hi]
end
end Go.Proofs.Ytfmahpgfeoafiaa
/- Package rec's base: a record that lies in memory, its fields, and what the guards of a region make conditional. -/
namespace Go.Proofs.Ytfmahpgfeoafiaa
open Go Go.RowKit
set_option maxRecDepth 8000
set_option linter.all false

/-- A record in memory: block g holds x. -/
def recOff (k : Nat) : Nat := if k < 12 then (if k = 11 then 42 else k) else if k = 12 then 43 else if k = 13 then 44 else if k = 14 then 76 else 77
theorem info_rec : (Try.prog.info? 41).map (·.size) = some 109 := by kernel_rfl
theorem recTy : RecTy Try.prog 41 := by
  refine ⟨_, Try.underlying41, by kernel_rfl, ?_, ?_, ?_, ?_, ?_⟩
  · intro i hi
    simp only [List.mem_cons, List.not_mem_nil, or_false] at hi
    rcases hi with rfl | rfl | rfl | rfl | rfl | rfl | rfl | rfl <;> exact ⟨_, rfl, rfl, Try.underlying3, by kernel_rfl⟩
  · intro i hi
    simp only [List.mem_cons, List.not_mem_nil, or_false] at hi
    rcases hi with rfl | rfl | rfl <;> exact ⟨_, rfl, rfl, Try.underlying4, by kernel_rfl⟩
  · intro i hi
    simp only [List.mem_cons, List.not_mem_nil, or_false] at hi
    rcases hi with rfl | rfl | rfl <;> exact ⟨_, _, rfl, rfl, Try.underlying39, Try.underlying5, by kernel_rfl, by kernel_rfl⟩
  · exact ⟨_, _, _, _, rfl, rfl, Try.underlying22, Try.underlying34, by kernel_rfl, rfl, rfl, by kernel_rfl, by kernel_rfl, Try.underlying3, Try.underlying3, by kernel_rfl⟩
  · exact ⟨_, _, rfl, rfl, Try.underlying29, Try.underlying5, by kernel_rfl, by kernel_rfl⟩
section
variable {a : Act} {w : World} {o : Oper} {K : Act → World → Prop} {Q : Exit → Act → World → Prop} {x : Operand} {g : Nat}
theorem info_steps1 : (Try.prog.info? 22).map (·.size) = some (0 + 1) := by kernel_rfl
/-- The place of a record's field. -/
theorem opr_fldR {k : Nat} (hk : k < 16) (ho : o.op = .fieldAddr 41 x k) (hx : a.eval x = .pointer (some ⟨g, 0, none⟩)) (h : K (a.put o.dst (.pointer (some ⟨g, recOff k, none⟩))) w) : o.wp Try.prog a w K Q := by
  have hk' : k = 0 ∨ k = 1 ∨ k = 2 ∨ k = 3 ∨ k = 4 ∨ k = 5 ∨ k = 6 ∨ k = 7 ∨ k = 8 ∨ k = 9 ∨ k = 10 ∨ k = 11 ∨ k = 12 ∨ k = 13 ∨ k = 14 ∨ k = 15 := by omega
  rcases hk' with rfl | rfl | rfl | rfl | rfl | rfl | rfl | rfl | rfl | rfl | rfl | rfl | rfl | rfl | rfl | rfl
  all_goals
    first
      | exact opr_fld Try.underlying41 rfl info_int ho hx (by rfl) h
      | exact opr_fld Try.underlying41 rfl info_bool ho hx (by rfl) h
      | exact opr_fld Try.underlying41 rfl info_hash1 ho hx (by rfl) h
      | exact opr_fld Try.underlying41 rfl info_steps1 ho hx (by rfl) h
      | exact opr_fld Try.underlying41 rfl info_sb1 ho hx (by rfl) h
theorem opr_fldS {k o0 : Nat} (hk : k < 2) (ho : o.op = .fieldAddr 34 x k) (hx : a.eval x = .pointer (some ⟨g, o0, none⟩)) (h : K (a.put o.dst (.pointer (some ⟨g, o0 + k, none⟩))) w) : o.wp Try.prog a w K Q := by
  have hk' : k = 0 ∨ k = 1 := by omega
  rcases hk' with rfl | rfl
  all_goals exact opr_fld Try.underlying34 rfl info_int ho hx (by rfl) h
variable {F : Nat → Value} {t' : TypeId} {n : Nat} {o0 : Nat} {v : Value}
theorem opr_ldS (hr : w.rowIs g t' n F) (hn : o0 < n) (hv : F o0 = v) (ho : o.op = .load 22 x) (hx : a.eval x = .pointer (some ⟨g, o0, none⟩)) (h : K (a.put o.dst v) w) : o.wp Try.prog a w K Q :=
  opr_ld1 Try.underlying22 rfl ho hx (by rw [hr.cell hn, hv]) h
theorem opr_ldR (hr : w.rowIs g t' 109 F) (ho : o.op = .load 41 x) (hx : a.eval x = .pointer (some ⟨g, 0, none⟩)) (h : K (a.put o.dst (.agg (rowA 109 F))) w) : o.wp Try.prog a w K Q :=
  opr_ldm Try.underlying41 rfl info_rec ho hx hr (by omega) (by rw [rowA_congr (g := F) fun i _ => by rw [Nat.zero_add]]; exact h)
end
section
variable {a : Act} {w : World} {o : Oper} {K : Act → World → Prop} {Q : Exit → Act → World → Prop} {x y : Operand} {g : Nat}
theorem opr_len_pairs {l : List (Int × Int)} (ho : o.op = .call { callee := .builtin .len, args := #[x], argTypes := #[22] }) (hx : RdP w (a.eval x) l) (h : K (a.put o.dst (.int .i64 (l.length : Int))) w) : o.wp Try.prog a w K Q := by
  obtain ⟨A, c, hv, _⟩ := hx
  exact opr_len ho Try.underlying22 hv h
end
end Go.Proofs.Ytfmahpgfeoafiaa
/- slices.Clone of bytes; no bytes; bytes in a row that is new. -/
namespace Go.Proofs.Ytfmahpgfeoafiaa
open Go Go.RowKit
set_option maxRecDepth 8000
set_option linter.all false
theorem rdV_nil (W : World) (L : List Nat) : RdV W L (.slice none 0 0) [] := ⟨none, 0, rfl, Nat.le_refl _, by unfold maxLen; omega, fun h => absurd h (by simp)⟩
theorem rdN_own {W w : World} {v : Value} {n : Nat} {l : List UInt8} (h : w.ownsRow W.heap.size 5 1 v n (l.map fun b => .int .u8 (bN b))) (hl : l.length = n) : (svRdN W l).pred v w :=
  fun _ hL => rdV_own h hl hL
theorem svRdN_rd {W w : World} {v : Value} {l : List UInt8} (h : (svRdN W l).pred v w) (L : List Nat) (hL : ∀ k ∈ L, k < W.heap.size) : RdV w L v l := h L hL
end Go.Proofs.Ytfmahpgfeoafiaa
/- A number's bytes are put: wire.Num. -/
namespace Go.Proofs.Ytfmahpgfeoafiaa
open Go Go.RowKit
set_option maxRecDepth 8000
set_option linter.all false

theorem or128 (x : Int) : bits .or .u8 (IntKind.u8.wrap x) 128 = bN (uB ((x % 128).toNat + 128)) := by
  have h : ∀ k : Fin 256, bits .or .u8 (k.val : Int) 128 = ((k.val % 128 + 128 : Nat) : Int) := by decide +kernel
  rw [wrap_u8, bN, toNat_uB]
  have := h ⟨(x % 256).toNat, by omega⟩
  simp only at this
  rw [show (((x % 256).toNat : Nat) : Int) = x % 256 by omega] at this
  rw [this]; omega
theorem and127 (y : Nat) : bits .and .u8 (bN (uB (y % 128 + 128))) 127 = bN (uB (y % 128)) := by
  have h : ∀ k : Fin 256, bits .and .u8 (k.val : Int) 127 = ((k.val % 128 : Nat) : Int) := by decide +kernel
  rw [bN, bN, toNat_uB, toNat_uB]
  have := h ⟨(y % 128 + 128) % 256, by omega⟩
  simp only at this
  rw [this]; omega
/-- The place i, ahead of the last one's mask. -/
def numC (n s i : Nat) : UInt8 := uB (n / 2 ^ (7 * (s - 1 - i)) % 128 + 128)
theorem numC_eq (n s i : Nat) : bits .or .u8 ((n : Int) / 2 ^ (7 * (s - 1 - i)) % 256) 128 = bN (numC n s i) := by
  rw [← wrap_u8, or128, numC]
  have h2 : ((2 : Int) ^ (7 * (s - 1 - i))) = ((2 ^ (7 * (s - 1 - i)) : Nat) : Int) := by simp
  rw [h2, ← Int.natCast_ediv]
  congr 2
theorem sz_test (n k : Nat) (hn : n ≤ 2147483647) (hk : 1 ≤ k) (hk2 : k ≤ sz n) : (0 < (n : Int) / 2 ^ (7 * k)) ↔ k < sz n := by
  have h5 := sz_le n
  have hh : k = 1 ∨ k = 2 ∨ k = 3 ∨ k = 4 ∨ k = 5 := by omega
  unfold sz at *
  rcases hh with rfl | rfl | rfl | rfl | rfl
  all_goals
    simp only [Nat.reduceMul, Int.reducePow]
    split <;> (try split) <;> (try split) <;> (try split) <;> omega
end Go.Proofs.Ytfmahpgfeoafiaa
/- A reader: a block of two cells, what is left and the error; what its small calls answer. -/
namespace Go.Proofs.Ytfmahpgfeoafiaa
open Go Go.RowKit
set_option maxRecDepth 8000
set_option linter.all false

/-- It reads as l, in a block ahead of R. -/
def Rest (w : World) (R : Nat) (v : Value) (l : List UInt8) : Prop := ∀ L, (∀ k ∈ L, R ≤ k) → RdV w L v l
theorem Rest.rd {w : World} {R : Nat} {v : Value} {l : List UInt8} (h : Rest w R v l) : RdV w [R] v l := h [R] (by simp)
theorem Rest.new {w w' : World} {R : Nat} {v : Value} {l : List UInt8} (h : Rest w R v l) (hN : NewT w w') : Rest w' R v l := fun L hL => hN.rd (h L hL)
theorem Rest.keep {w w' : World} {R : Nat} {v : Value} {l : List UInt8} (h : Rest w R v l) {G : List Nat} (hG : ∀ k ∈ G, R ≤ k) (hK : KeepBut G w w') : Rest w' R v l := fun L hL => by
  have h1 := h (G ++ L) (fun k hk => by rcases List.mem_append.1 hk with hk | hk; exact hG k hk; exact hL k hk)
  obtain ⟨A, cap, hv, h1, h2, h3⟩ := h1.keep (hK.more fun k hk => List.mem_append.2 (.inl hk))
  refine ⟨A, cap, hv, h1, h2, fun h0 => ?_⟩
  obtain ⟨b, o, hA, hb, hc⟩ := h3 h0
  exact ⟨b, o, hA, fun hm => hb (List.mem_append.2 (.inr hm)), hc⟩
theorem NewT.of_eq {w w' : World} (h : w = w') : NewT w w' := h ▸ NewT.refl w
end Go.Proofs.Ytfmahpgfeoafiaa
/- What puts: Flag, All, Bytes, Hash; Clone; a new reader. -/
namespace Go.Proofs.Ytfmahpgfeoafiaa
open Go Go.RowKit
set_option maxRecDepth 8000
set_option linter.all false

theorem flat_take_succ (ps : List (Value × List UInt8)) (k : Nat) (x : Value × List UInt8) (h : ps[k]? = some x) : flat (ps.take (k + 1)) = flat (ps.take k) ++ x.2 := by
  rw [List.take_add_one, h]; exact flat_snoc _ _
theorem flat_take_le (ps : List (Value × List UInt8)) (k : Nat) : (flat (ps.take k)).length ≤ (flat ps).length := by
  have e : flat ps = flat (ps.take k) ++ flat (ps.drop k) := by
    unfold flat; rw [← List.flatten_append, ← List.map_append, List.take_append_drop]
  rw [e]; simp
end Go.Proofs.Ytfmahpgfeoafiaa
/- Clone; Bytes, Hash; a new reader. -/
namespace Go.Proofs.Ytfmahpgfeoafiaa
open Go Go.RowKit
set_option maxRecDepth 8000
set_option linter.all false

end Go.Proofs.Ytfmahpgfeoafiaa
/- Bytes are read as a number: wire.number. -/
namespace Go.Proofs.Ytfmahpgfeoafiaa
open Go Go.RowKit
set_option maxRecDepth 8000
set_option linter.all false

theorem and127b (c : UInt8) : bits .and .u8 (bN c) 127 = ((c.toNat % 128 : Nat) : Int) := by
  have h : ∀ k : Fin 256, bits .and .u8 (k.val : Int) 127 = ((k.val % 128 : Nat) : Int) := by decide +kernel
  have := h ⟨c.toNat, c.toNat_lt⟩
  exact this
theorem and128b (c : UInt8) : bits .and .u8 (bN c) 128 = if 128 ≤ c.toNat then 128 else 0 := by
  have h : ∀ k : Fin 256, bits .and .u8 (k.val : Int) 128 = if 128 ≤ k.val then 128 else 0 := by decide +kernel
  have := h ⟨c.toNat, c.toNat_lt⟩
  exact this
theorem or7 (v m : Nat) (hm : m < 128) (hv : v < 1125899906842624) : bits .or .u64 ((v : Int) * 128) (m : Int) = ((v * 128 + m : Nat) : Int) := by
  show IntKind.u64.wrap (((BitVec.ofInt 64 ((v : Int) * 128) ||| BitVec.ofInt 64 (m : Int)).toNat : Nat) : Int) = _
  have e1 : BitVec.ofInt 64 ((v : Int) * 128) = BitVec.ofNat 64 (v * 128) := by
    rw [show (v : Int) * 128 = ((v * 128 : Nat) : Int) by omega, BitVec.ofInt_natCast]
  rw [e1, BitVec.ofInt_natCast, BitVec.toNat_or, BitVec.toNat_ofNat, BitVec.toNat_ofNat, Nat.mod_eq_of_lt (by omega), Nat.mod_eq_of_lt (by omega)]
  have := Nat.shiftLeft_add_eq_or_of_lt (b := m) (i := 7) (by omega) v
  rw [Nat.shiftLeft_eq] at this
  rw [show v * 128 = v * 2 ^ 7 by omega, ← this]
  simp [IntKind.wrap, IntKind.bits, IntKind.signed]
  omega
theorem drop_bAt (l : List UInt8) (k : Nat) (h : k < l.length) : l.drop k = bAt l k :: l.drop (k + 1) := by
  rw [List.drop_eq_getElem_cons h]; simp [bAt, h]
/-- What is read, as values. -/
def numV (r : Nat × Nat × Nat) : Value := .tuple #[.int .i64 (r.1 : Int), .int .i64 (r.2.1 : Int), .int .i64 (r.2.2 : Int)]
end Go.Proofs.Ytfmahpgfeoafiaa
/- A reader reads a number: take[int], Num. -/
namespace Go.Proofs.Ytfmahpgfeoafiaa
open Go Go.RowKit
set_option maxRecDepth 8000
set_option linter.all false

/-- What stands behind the first k bytes. -/
theorem rd_from {w : World} {L : List Nat} {b o n cap k : Nat} {l : List UInt8} (h : RdV w L (.slice (some ⟨b, o, none⟩) n cap) l) (hk : k ≤ n) :
    RdV w L (.slice (some (if cap = k then ⟨b, o, none⟩ else (⟨b, o, none⟩ : Addr).add k)) (n - k) (cap - k)) (l.drop k) := by
  obtain ⟨A, c, hv, h1, h2, h3⟩ := h
  cases hv
  refine ⟨some (if cap = k then ⟨b, o, none⟩ else (⟨b, o, none⟩ : Addr).add k), cap - k, by simp, by simp; omega, by omega, fun h0 => ?_⟩
  simp at h0
  obtain ⟨b', o', hA, hb, hc⟩ := h3 (by omega)
  cases hA
  refine ⟨b, o + k, by rw [if_neg (by omega), Addr.add_mid], hb, fun i hi => ?_⟩
  simp at hi
  rw [Nat.add_assoc, hc (k + i) (by omega)]
  simp [bAt]
/-- What a number that is asked for turns a reader that isn't bad to. -/
def outN (l : List UInt8) : Nat × List UInt8 × Nat := if (goN l 0 0).2.2 = 0 then ((goN l 0 0).1, l.drop (goN l 0 0).2.1, 0) else (0, [], (goN l 0 0).2.2)
end Go.Proofs.Ytfmahpgfeoafiaa
/- A reader reads a flag: take[bool], Flag. -/
namespace Go.Proofs.Ytfmahpgfeoafiaa
open Go Go.RowKit
set_option maxRecDepth 8000
set_option linter.all false

/-- Bytes read as a flag: it, how many bytes it has, the error. -/
def goF : List UInt8 → Bool × Nat × Nat
  | [] => (false, 0, 3)
  | c :: _ => if 1 < c.toNat then (false, 0, 2) else (c.toNat == 1, 1, 0)
theorem goF_bounds (l : List UInt8) : (goF l).2.2 = 0 → (goF l).2.1 = 1 ∧ 1 ≤ l.length := by
  cases l with
  | nil => simp [goF]
  | cons c r => rw [goF]; split <;> simp
theorem goF_err (l : List UInt8) : (goF l).2.2 ≠ 0 → goF l = (false, 0, (goF l).2.2) ∧ ((goF l).2.2 = 2 ∨ (goF l).2.2 = 3) := by
  cases l with
  | nil => simp [goF]
  | cons c r => rw [goF]; split <;> simp
def flagV (r : Bool × Nat × Nat) : Value := .tuple #[.bool r.1, .int .i64 (r.2.1 : Int), .int .i64 (r.2.2 : Int)]
/-- What a flag that is asked for turns a reader that isn't bad to. -/
def outQ (l : List UInt8) : Bool × List UInt8 × Nat := if (goF l).2.2 = 0 then ((goF l).1, l.drop (goF l).2.1, 0) else (false, [], (goF l).2.2)
end Go.Proofs.Ytfmahpgfeoafiaa
/- A reader reads bytes: take[[]byte], Bytes. -/
namespace Go.Proofs.Ytfmahpgfeoafiaa
open Go Go.RowKit
set_option maxRecDepth 8000
set_option linter.all false

/-- Bytes read as bytes of a limit: these, how many bytes they have with their number, the error. -/
def goB (l : List UInt8) (most : Int) : List UInt8 × Nat × Nat :=
  if (goN l 0 0).2.2 ≠ 0 then ([], 0, (goN l 0 0).2.2) else if most < ((goN l 0 0).1 : Int) then ([], 0, 4) else if l.length < (goN l 0 0).2.1 + (goN l 0 0).1 then ([], 0, 3)
  else ((l.drop (goN l 0 0).2.1).take (goN l 0 0).1, (goN l 0 0).2.1 + (goN l 0 0).1, 0)
theorem goB_bounds (l : List UInt8) (most : Int) : (goB l most).2.2 = 0 → 0 < (goB l most).2.1 ∧ (goB l most).2.1 ≤ l.length := by
  unfold goB
  split
  · simp; omega
  · rename_i h
    have := goN_bounds l 0 0 (by simpa using h)
    split
    · simp
    · split
      · simp
      · simp; omega
theorem goB_err (l : List UInt8) (most : Int) : (goB l most).2.2 ≠ 0 → goB l most = ([], 0, (goB l most).2.2) := by
  unfold goB
  split
  · simp
  · split
    · simp
    · split <;> simp
theorem slice_mid (b o n cap k m : Nat) (h : k + m ≤ cap) (w : World) : (Instr.slice 29 (.slice (some ⟨b, o, none⟩) n cap) (some (.int .i64 (k : Int))) (some (.int .i64 ((k : Int) + (m : Int)))) none).run Try.prog w = .ok (.slice (some (if cap = k then ⟨b, o, none⟩ else (⟨b, o, none⟩ : Addr).add k)) m (cap - k)) w := by
  have hsz : (sizeOf 5).run Try.prog w = .ok 1 w := by
    obtain ⟨i0, hi, _, hz1, _⟩ := info_parts info5
    simp [sizeOf, typeInfo, hi, hz1]
  have h3 : (0 : Int) ≤ (k : Int) + (m : Int) ∧ (k : Int) + (m : Int) ≤ (cap : Int) := by omega
  have h4 : k ≤ ((k : Int) + (m : Int)).toNat := by omega
  have h6 : ((k : Int) + (m : Int)).toNat - k = m := by omega
  by_cases h5 : cap = k
  · simp [Instr.slice, run_underlying Try.underlying29, Instr.sliceBounds, Instr.sliceBound, asIntOf, hsz, h3, h4, h5, h6, Addr.add_zero']
    omega
  · simp [Instr.slice, run_underlying Try.underlying29, Instr.sliceBounds, Instr.sliceBound, asIntOf, hsz, h3, h4, h5, h6]
/-- The m bytes behind the first k. -/
theorem rd_mid {w : World} {L : List Nat} {b o n cap k m : Nat} {l : List UInt8} (h : RdV w L (.slice (some ⟨b, o, none⟩) n cap) l) (hk : k + m ≤ n) :
    RdV w L (.slice (some (if cap = k then ⟨b, o, none⟩ else (⟨b, o, none⟩ : Addr).add k)) m (cap - k)) ((l.drop k).take m) := by
  obtain ⟨A, c, hv, h1, h2, h3⟩ := h
  cases hv
  have hlen : ((l.drop k).take m).length = m := by simp; omega
  refine ⟨some (if cap = k then ⟨b, o, none⟩ else (⟨b, o, none⟩ : Addr).add k), cap - k, by rw [hlen], by rw [hlen]; omega, by omega, fun h0 => ?_⟩
  rw [hlen] at h0
  obtain ⟨b', o', hA, hb, hc⟩ := h3 (by omega)
  cases hA
  refine ⟨b, o + k, by rw [if_neg (by omega), Addr.add_mid], hb, fun i hi => ?_⟩
  rw [hlen] at hi
  rw [Nat.add_assoc, hc (k + i) (by omega)]
  simp [bAt, List.getElem?_take, hi]
theorem svRdN_step {W w w' : World} {R : Nat} {u : Value} {t : List UInt8} (h : (svRdN W t).pred u w) (hT : RT R w w') (hR : R < W.heap.size) : (svRdN W t).pred u w' := fun L hL => by
  have h1 : RdV w (R :: L) u t := h (R :: L) (fun k hk => by rcases List.mem_cons.1 hk with rfl | hk; exact hR; exact hL k hk)
  exact (h1.keep (hT.keep.more fun k hk => by simp at hk; simp [hk])).less fun k hk => by simp [hk]
theorem svRdN_base {W w w' : World} {u : Value} {t : List UInt8} (h : (svRdN W t).pred u w') (hB : w.heap.size ≤ W.heap.size) : (svRdN w t).pred u w' := fun L hL => h L fun k hk => by have := hL k hk; omega
/-- What bytes that are asked for turn a reader that isn't bad to. -/
def outB (l : List UInt8) (most : Int) : List UInt8 × List UInt8 × Nat := if (goB l most).2.2 = 0 then ((goB l most).1, l.drop (goB l most).2.1, 0) else ([], [], (goB l most).2.2)
end Go.Proofs.Ytfmahpgfeoafiaa
/- A reader reads a hash: take[api.Hash], Hash. -/
namespace Go.Proofs.Ytfmahpgfeoafiaa
open Go Go.RowKit
set_option maxRecDepth 8000
set_option linter.all false

/-- Bytes read as a hash: it, how many bytes it has, the error. -/
def goH (l : List UInt8) : (Nat → UInt8) × Nat × Nat := if l.length < 32 then (fun _ => 0, 0, 3) else (bAt l, 32, 0)
theorem results_row3 {P : Program} {w : World} {b : Nat} {t : TypeId} {n : Nat} {f : Nat → Value} {e : TypeId} {m : Nat} {fn : Func} {p u v : Tmp} {ty : TypeId} (hf : fn.results = #[.cell p ty, .tmp u, .tmp v]) (tmps : Array Value) (hp : tmps.getD p undef = .pointer (some ⟨b, 0, none⟩))
    (h : w.rowIs b t n f) (hu : P.underlying ty = some (.array m e)) (hi : (P.info? ty).map (·.size) = some n) : (results fn tmps).run P w = .ok (.tuple #[.agg (rowA n f), tmps.getD u undef, tmps.getD v undef]) w := by
  have := load_row (P := P) h hu hi
  have hp' : tmps[p]?.getD undef = .pointer (some ⟨b, 0, none⟩) := by simpa using hp
  simp [results, hf, hp', asAddr, this]
theorem rdV_none {W W' : World} {L L' : List Nat} {v : Value} (h : RdV W L v []) : RdV W' L' v [] := by
  obtain ⟨A, c, hv, h1, h2, _⟩ := h
  exact ⟨A, c, hv, h1, h2, fun h => absurd h (by simp)⟩
/-- A whole array is stored into a row. -/
theorem wpList_store_row {P : Program} {ops : Array Oper} {rest : List Oper} {op : Oper} {a : Act} {w : World} {Q : Exit → Act → World → Prop} (hgd : op.guard = none) (ty : TypeId) (x y : Operand) (ho : op.op = .store ty x y)
    (g n : Nat) (D : Nat → UInt8) (hx : a.eval x = .pointer (some ⟨g, 0, none⟩)) (hy : a.eval y = .agg (rowA n (bF D))) {t' : TypeId} {f0 : Nat → Value} (hr : w.rowIs g t' n f0) (hi : (P.info? ty).map (·.size) = some n)
    (h : ∀ w', KeepBut [g] w w' → (∀ B, B ≤ g → Below B w w') → w'.rowIs g t' n (bF D) → wpList P ops Q rest (a.put op.dst undef) w') : wpList P ops Q (op :: rest) a w :=
  wpList_store_mid hgd ty x y ho g 0 (rowA n (bF D)) hx hy (by rw [rowA_size]; exact there_row hr) (by rw [rowA_size]; exact hi) (rowA_one _ _ fun _ => rfl)
    (h _ (KeepBut.setCells (by simp) _ _ _) (fun B hB => below_setCells g hB _ _ _ (Below.refl _ _)) (rowIs_setAll hr (bF D)))
/-- What a hash that is asked for turns a reader that isn't bad to. -/
def outH (l : List UInt8) : (Nat → UInt8) × List UInt8 × Nat := if l.length < 32 then (fun _ => 0, [], 3) else (bAt l, l.drop 32, 0)
/-- Blocks that came behind W are written, and R: to whoever looks from W on, a step that writes R alone. -/
theorem RT.late {R g : Nat} {W w w' : World} (h : RT R W w) (hg : W.heap.size ≤ g) (hR : R < W.heap.size) (hK : KeepBut [g] w w') (hB : ∀ B, B ≤ g → Below B w w') : RT R W w' :=
  ⟨h.below.trans (hB R (by omega)), Nat.le_trans h.keep.1 hK.1, fun k o hk ho hc => hK.2 k o (by have := (Array.getElem?_eq_some_iff.1 ho).1; simp; omega) (h.keep.2 k o hk ho hc) hc⟩
end Go.Proofs.Ytfmahpgfeoafiaa
/- Layer 3, words that later layers share: bytes as strings; slices of slices; what is read of what was put; a reader in a region. -/
namespace Go.Proofs.Ytfmahpgfeoafiaa
open Go Go.RowKit
set_option maxRecDepth 8000
set_option linter.all false
theorem rdV_form' {W : World} {L : List Nat} {v : Value} {l : List UInt8} (h : RdV W L v l) : ∃ A n cap, v = .slice A n cap ∧ Hid (l.length = n) := by
  obtain ⟨A, cap, hv, _⟩ := h; exact ⟨A, l.length, cap, hv, Lib.hid rfl⟩
/-- A slice of bytes becomes a string. -/
theorem conv_rd {w : World} {L : List Nat} {v : Value} {l : List UInt8} (h : RdV w L v l) : (convert 29 9 v).run Try.prog w = .ok (.string ⟨l.toArray⟩) w := by
  obtain ⟨A, cap, rfl, h1, h2, h3⟩ := h
  by_cases h0 : 0 < l.length
  · obtain ⟨b, o, rfl, _, hc⟩ := h3 h0
    have := run_convert_bytes_arg (P := Try.prog) w 29 5 Try.underlying29 Try.underlying5 b o l.length cap (l.map bN) (by simp) (fun i hi => by
      rw [hc i hi]
      simp [bAt, hi]) 9 Try.underlying9
    rw [this]
    have e : strOfNums (l.map bN) = ⟨l.toArray⟩ := by
      unfold strOfNums
      congr 2
      rw [List.map_map]
      conv => rhs; rw [← List.map_id l]
      exact List.map_congr_left fun b _ => by simp [bN]
    rw [e]
  · have : l = [] := List.eq_nil_of_length_eq_zero (by omega)
    subst this
    simp only [List.length_nil]
    simp [convert, run_underlying Try.underlying29, run_underlying Try.underlying9, run_underlying Try.underlying5, Conv.bytesToString]
    cases A <;> simp [go_sem] <;> rfl
theorem parts4 {W : World} {v1 v2 v3 v4 : Value} {l1 l2 l3 l4 : List UInt8} (h1 : RdV W [] v1 l1) (h2 : RdV W [] v2 l2) (h3 : RdV W [] v3 l3) (h4 : RdV W [] v4 l4) : Parts (W.alloc (.cells #[v1, v2, v3, v4] 29)) (.slice (some ⟨W.heap.size, 0, none⟩) 4 4) [l1, l2, l3, l4] :=
  ⟨[(v1, l1), (v2, l2), (v3, l3), (v4, l4)], parts_new [(v1, l1), (v2, l2), (v3, l3), (v4, l4)] 29 (by simp) (by simp) (by simp; exact ⟨h1, h2, h3, h4⟩), rfl⟩
theorem parts5 {W : World} {v1 v2 v3 v4 v5 : Value} {l1 l2 l3 l4 l5 : List UInt8} (h1 : RdV W [] v1 l1) (h2 : RdV W [] v2 l2) (h3 : RdV W [] v3 l3) (h4 : RdV W [] v4 l4) (h5 : RdV W [] v5 l5) : Parts (W.alloc (.cells #[v1, v2, v3, v4, v5] 29)) (.slice (some ⟨W.heap.size, 0, none⟩) 5 5) [l1, l2, l3, l4, l5] :=
  ⟨[(v1, l1), (v2, l2), (v3, l3), (v4, l4), (v5, l5)], parts_new [(v1, l1), (v2, l2), (v3, l3), (v4, l4), (v5, l5)] 29 (by simp) (by simp) (by simp; exact ⟨h1, h2, h3, h4, h5⟩), rfl⟩
/-- The first m bytes. -/
theorem rd_to {w : World} {L : List Nat} {A : Option Addr} {n cap m : Nat} {l : List UInt8} (h : RdV w L (.slice A n cap) l) (hm : m ≤ n) : RdV w L (.slice A m cap) (l.take m) := by
  obtain ⟨A', c, hv, h1, h2, h3⟩ := h
  cases hv
  have hlen : (l.take m).length = m := by simp; omega
  refine ⟨A, cap, by rw [hlen], by rw [hlen]; omega, h2, fun h0 => ?_⟩
  rw [hlen] at h0
  obtain ⟨b, o, hA, hb, hc⟩ := h3 (by omega)
  refine ⟨b, o, hA, hb, fun i hi => ?_⟩
  rw [hlen] at hi
  rw [hc i (by omega)]
  simp [bAt, hi]
theorem opr_slice_upto {a : Act} {w : World} {o : Oper} {K : Act → World → Prop} {Q : Exit → Act → World → Prop} {x y : Operand} {A : Option Addr} {n cap m : Nat} (ho : o.op = .slice 29 x none (some y) none) (hx : a.eval x = .slice A n cap) (hy : a.eval y = .int .i64 (m : Int)) (hm : m ≤ cap) (h : K (a.put o.dst (.slice A m cap)) w) : o.wp Try.prog a w K Q := by
  obtain ⟨dst, op, type, pos, after, guard⟩ := o
  simp only at ho
  subst ho
  refine opr_val (s := Instr.sliceAt 29 (a.eval x) none (some (a.eval y)) none) rfl ?_ h
  rw [hx, hy]
  have := slice_to A n cap m hm w
  simpa [Instr.sliceAt, run_underlying Try.underlying29] using this
theorem ownsRow_newT {w w' : World} {base : Nat} {e : TypeId} {v : Value} {n : Nat} {xs : List Value} (h : w.ownsRow base e 1 v n xs) (hN : NewT w w') : w'.ownsRow base e 1 v n xs := by
  obtain ⟨h1, h2⟩ := h
  refine ⟨h1, ?_⟩
  rcases h2 with h | ⟨g, cap, cur, hv, hb, hh, r⟩
  · exact .inl h
  · exact .inr ⟨g, cap, cur, hv, hb, (hN.out.block g (Array.getElem?_eq_some_iff.1 hh).1).trans hh, r⟩
theorem outN_put (x : Nat) (hx : x ≤ 2147483647) (r : List UInt8) : outN (numL x ++ r) = (x, r, 0) := by
  unfold outN
  rw [goN_put x hx r]
  simp only [if_true]
  rw [← numL_length x]; simp
/-- It reads as l, whatever a reader R does. -/
def svRdR (R : Nat) (l : List UInt8) : SV (RT R) := ⟨fun v w => RdV w [R] v l, fun _ _ _ h hT => hT.rd h⟩
theorem rd_is {w : World} {L : List Nat} {v : Value} {l : List UInt8} (h : RdV w L v l) : ∃ A n c, v = .slice A n c := by obtain ⟨A, c, hv, _⟩ := h; exact ⟨A, _, c, hv⟩
theorem opr_eql_bool {a : Act} {w : World} {o : Oper} {K : Act → World → Prop} {Q : Exit → Act → World → Prop} {x y : Operand} {t' : TypeId} {q : Bool} (ho : o.op = .binOp .eql 4 x y t') (hx : a.eval x = .bool q) (hy : a.eval y = .bool q) (h : K (a.put o.dst (.bool true)) w) : o.wp Try.prog a w K Q := by
  obtain ⟨dst, op, type, pos, after, guard⟩ := o
  simp only at ho
  subst ho
  refine opr_val (s := do eqGuard .eql 4 x y (a.eval x) (a.eval y); binOp .eql 4 (a.eval x) (a.eval y)) rfl ?_ h
  rw [hx, hy]
  cases q <;> simp [go_sem]
theorem outQ_put (q : Bool) (r : List UInt8) : outQ (cond q 1 0 :: r) = (q, r, 0) := by cases q <;> rfl
theorem outB_put (l r : List UInt8) (hl : l.length ≤ 1000000) : outB (numL l.length ++ l ++ r) (l.length : Int) = (l, r, 0) := by
  have hg := goN_put l.length (by omega) (l ++ r)
  rw [← List.append_assoc] at hg
  have hd : (numL l.length ++ l ++ r).drop (sz l.length) = l ++ r := by
    rw [List.append_assoc, ← numL_length l.length]; simp
  have hB : goB (numL l.length ++ l ++ r) (l.length : Int) = (l, sz l.length + l.length, 0) := by
    unfold goB
    rw [hg]
    simp only
    rw [if_neg (by simp), if_neg (by omega), if_neg (by simp [numL_length]), hd]
    simp
  unfold outB
  rw [hB]
  simp only [if_true]
  rw [← List.drop_drop, hd]
  simp
theorem outH_put (d : Nat → UInt8) (r : List UInt8) : (outH (digL d ++ r)).2 = (r, 0) ∧ rowA 32 (bF (outH (digL d ++ r)).1) = rowA 32 (bF d) := by
  have hl : ¬ (digL d ++ r).length < 32 := by simp [digL_length]
  unfold outH
  rw [if_neg hl]
  refine ⟨?_, rowA_congr fun i hi => ?_⟩
  · have := digL_length d
    simp [← this]
  · rw [bF_at, bF_at]
    congr 2
    have h1 : i < (digL d).length := by rw [digL_length]; exact hi
    show (digL d ++ r).getD i 0 = d i
    rw [List.getD_eq_getElem?_getD, List.getElem?_append_left h1]
    simp [digL, hi]
/-- The last place of a row of the call's own is written. -/
theorem ownsRow_last {w : World} {base g n cap : Nat} {e : TypeId} {xs : List Value} {u : Value} (h : w.ownsRow base e 1 (.slice (some ⟨g, 0, none⟩) (n + 1) cap) (n + 1) (xs ++ [u])) (u' : Value) :
    (w.setCell ⟨g, n, none⟩ u').ownsRow base e 1 (.slice (some ⟨g, 0, none⟩) (n + 1) cap) (n + 1) (xs ++ [u']) := by
  obtain ⟨h1, h2⟩ := h
  have hx : xs.length = n := by simpa using h1
  rcases h2 with ⟨h, _⟩ | ⟨g', cap', cur, hv, hb, hh, hnc, hm, hs, ht⟩
  · cases h
  · cases hv
    refine ⟨by simpa using hx, .inr ⟨g, cap, cur.setIfInBounds n u', rfl, hb, by simp [World.setCell, Array.getElem?_modify, hh], hnc, hm, by simpa using hs, ?_⟩⟩
    have e1 : cur.toList.take n = xs := by
      have := congrArg (List.take n) ht
      rw [List.take_take, Nat.min_eq_left (by omega)] at this
      rw [this, List.take_append_of_le_length (by omega)]
      exact List.take_of_length_le (by omega)
    have hlt : n < cur.toList.length := by simp; omega
    rw [Nat.mul_one, Array.toList_setIfInBounds, List.take_add_one, List.take_set_of_le (Nat.le_refl _), e1]
    simp [show n < cur.size by omega]
theorem frozen_own {w : World} {base g n cap : Nat} {e : TypeId} {xs : List Value} (h : w.ownsRow base e 1 (.slice (some ⟨g, 0, none⟩) n cap) n xs) (i : Nat) : w.frozen? ⟨g, i, none⟩ = false := by
  obtain ⟨_, h2⟩ := h
  rcases h2 with ⟨h, _⟩ | ⟨g', cap', cur, hv, _, hh, _⟩
  · cases h
  · cases hv; simp [World.frozen?, hh]
theorem bN_uB (n : Nat) (h : n < 256) : bN (uB n) = (n : Int) := by rw [bN, toNat_uB]; omega
end Go.Proofs.Ytfmahpgfeoafiaa
/- Steps by value, new records and steps in memory, what a call hands back in a cell. -/
namespace Go.Proofs.Ytfmahpgfeoafiaa
open Go Go.RowKit
set_option maxRecDepth 8000
set_option linter.all false

/-- The cells of a step. -/
def stepF (s : Int × Int) (i : Nat) : Value := if i = 0 then .int .i64 s.1 else .int .i64 s.2
theorem info_step : (Try.prog.info? 34).map (·.size) = some 2 := by kernel_rfl
theorem run_alloc_rec (w : World) : (Instr.alloc 41 true (.tuple #[])).run Try.prog w = .ok (.pointer (some ⟨w.heap.size, 0, none⟩)) (w.alloc (.cells (rowA 109 (recF zR (.slice none 0 0) (.slice none 0 0))) 41)) := by kernel_rfl
theorem run_alloc_step (w : World) : (Instr.alloc 34 true (.tuple #[])).run Try.prog w = .ok (.pointer (some ⟨w.heap.size, 0, none⟩)) (w.alloc (.cells (rowA 2 (stepF (0, 0))) 34)) := by kernel_rfl
theorem recF_one (x : Rc) (sv dv : Value) (hs : sv.oneCell' = true) (hd : dv.oneCell' = true) (i : Nat) : (recF x sv dv i).oneCell' = true := by
  unfold recF bF
  repeat' split
  all_goals first | rfl | assumption
theorem stepF_one (s : Int × Int) (i : Nat) : (stepF s i).oneCell' = true := by unfold stepF; split <;> rfl
theorem oneP {w : World} {v : Value} {l : List (Int × Int)} (h : RdP w v l) : v.oneCell' = true := by obtain ⟨A, c, rfl, _⟩ := h; rfl
theorem oneR {w : World} {L : List Nat} {v : Value} {l : List UInt8} (h : RdV w L v l) : v.oneCell' = true := by obtain ⟨A, c, rfl, _⟩ := h; rfl
section
variable {a : Act} {w : World} {o : Oper} {K : Act → World → Prop} {Q : Exit → Act → World → Prop} {x y : Operand} {g : Nat}
theorem opr_idxS {b o0 n c k : Nat} (hk : k < n) (ho : o.op = .indexAddr 22 x y) (hx : a.eval x = .slice (some ⟨b, o0, none⟩) n c) (hy : a.eval y = .int .i64 (k : Int)) (h : K (a.put o.dst (.pointer (some ⟨b, o0 + 2 * k, none⟩))) w) : o.wp Try.prog a w K Q := by
  obtain ⟨dst, op, type, pos, after, guard⟩ := o
  simp only at ho
  subst ho
  refine opr_val (s := Instr.indexAt 22 (a.eval x) (a.eval y)) rfl ?_ h
  rw [hx, hy]
  have hsz : (sizeOf 34).run Try.prog w = .ok 2 w := by
    have hs := info_step
    cases hq : Try.prog.info? 34 with
    | none => simp [hq] at hs
    | some i => simp [hq] at hs; simp [sizeOf, typeInfo, hq, hs]
  simp [Instr.indexAt, asIntOf, run_underlying Try.underlying22, hk, Addr.add_mid, Nat.mul_comm]
theorem opr_ld2 {o0 : Nat} {s : Int × Int} (h0 : w.cell? ⟨g, o0, none⟩ = some (.int .i64 s.1)) (h1 : w.cell? ⟨g, o0 + 1, none⟩ = some (.int .i64 s.2)) (ho : o.op = .load 34 x) (hx : a.eval x = .pointer (some ⟨g, o0, none⟩)) (h : K (a.put o.dst (.agg (rowA 2 (stepF s)))) w) : o.wp Try.prog a w K Q := by
  refine wp_load_mid 34 x ho g o0 hx [.int .i64 s.1, .int .i64 s.2] _ (fun j v hv => ?_) Try.underlying34 rfl info_step h
  match j, hv with
  | 0, hv => simp at hv; subst hv; exact h0
  | 1, hv => simp at hv; subst hv; exact h1
theorem opr_ldSt {t' : TypeId} {s : Int × Int} (hr : w.rowIs g t' 2 (stepF s)) (ho : o.op = .load 34 x) (hx : a.eval x = .pointer (some ⟨g, 0, none⟩)) (h : K (a.put o.dst (.agg (rowA 2 (stepF s)))) w) : o.wp Try.prog a w K Q :=
  opr_ldm Try.underlying34 rfl info_step ho hx hr (by omega) (by rw [rowA_congr (g := stepF s) fun i _ => by rw [Nat.zero_add]]; exact h)
theorem eqType_step : Try.prog.eqGuardType Try.prog.depth 34 = false := by kernel_rfl
theorem equalIn_step (w : World) (s t : Int × Int) : (Op.equalIn 10000 34 (.agg (rowA 2 (stepF s))) (.agg (rowA 2 (stepF t)))).run Try.prog w = .ok (decide (s = t)) w := by
  rw [show rowA 2 (stepF s) = #[.int .i64 s.1, .int .i64 s.2] from rfl, show rowA 2 (stepF t) = #[.int .i64 t.1, .int .i64 t.2] from rfl]
  obtain ⟨s1, s2⟩ := s
  obtain ⟨t1, t2⟩ := t
  rw [run_equalIn_agg w 9999 34 _ _ (by kernel_rfl) (by kernel_rfl)]
  by_cases h1 : s1 = t1
  · by_cases h2 : s2 = t2
    · subst h1 h2; simp [go_sem]
    · subst h1; simp [go_sem, h2]
  · simp [go_sem, h1]
theorem opr_neqS {t2 : TypeId} {s t : Int × Int} {b : Bool} (hb : (!decide (s = t)) = b) (ho : o.op = .binOp .neq 34 x y t2) (hx : a.eval x = .agg (rowA 2 (stepF s))) (hy : a.eval y = .agg (rowA 2 (stepF t))) (h : K (a.put o.dst (.bool b)) w) : o.wp Try.prog a w K Q := by
  obtain ⟨dst, op', type, pos, after, guard⟩ := o
  simp only at ho
  subst ho hb
  refine opr_val (s := do eqGuard .neq 34 x y (a.eval x) (a.eval y); binOp .neq 34 (a.eval x) (a.eval y)) rfl ?_ h
  rw [hx, hy, Sem.run_bind, run_eqGuard_agg _ _ _ _ _ _ _ eqType_step]
  simp only [Result.andThen_ok]
  rw [run_neq_struct, equalIn_step]; rfl
end
/-- A pointer into a record that a region made. -/
def svPtr (F : Nat → Value) (off : Nat) : SV NewT := ⟨fun v w => ∃ g, v = .pointer (some ⟨g, off, none⟩) ∧ w.rowIs g 41 109 F, fun _ _ _ ⟨g, h1, h2⟩ hT => ⟨g, h1, hT.row h2⟩⟩
section
variable {a : Act} {w : World} {o : Oper} {K : Act → World → Prop} {Q : Exit → Act → World → Prop} {x : Operand} {F : Nat → Value} {off : Nat} {v : Value}
theorem opr_boxR (_hone : ∀ i, (F i).oneCell' = true) (ho : o.op = .box 41 x) (hx : a.eval x = .agg (rowA 109 F)) (h : ∀ v w', NewT w w' → (svPtr F 0).pred v w' → K (a.put o.dst v) w') : o.wp Try.prog a w K Q := by
  obtain ⟨dst, op, type, pos, after, guard⟩ := o
  simp only at ho
  subst ho
  refine opr_val (s := Instr.box 41 (a.eval x)) (w' := w.alloc (.cells (rowA 109 F) 41)) rfl ?_ (h _ _ (NewT.alloc _ _) ⟨w.heap.size, rfl, rowIs_box w _ 109 F⟩)
  rw [hx]
  simp [go_sem]
theorem opr_fldP {k : Nat} (hk : k < 16) (ho : o.op = .fieldAddr 41 x k) (hx : (svPtr F 0).pred (a.eval x) w) (h : ∀ v, (svPtr F (recOff k)).pred v w → K (a.put o.dst v) w) : o.wp Try.prog a w K Q := by
  obtain ⟨g, hg, hr⟩ := hx
  exact opr_fldR hk ho hg (h _ ⟨g, rfl, hr⟩)
theorem opr_ldIP (hx : (svPtr F off).pred (a.eval x) w) (hn : off < 109) (hv : F off = v) (ho : o.op = .load 3 x) (h : K (a.put o.dst v) w) : o.wp Try.prog a w K Q := by
  obtain ⟨g, hg, hr⟩ := hx
  exact opr_ldI hr hn hv ho hg h
theorem opr_ldQP (hx : (svPtr F off).pred (a.eval x) w) (hn : off < 109) (hv : F off = v) (ho : o.op = .load 4 x) (h : K (a.put o.dst v) w) : o.wp Try.prog a w K Q := by
  obtain ⟨g, hg, hr⟩ := hx
  exact opr_ldQ hr hn hv ho hg h
theorem opr_ldSP (hx : (svPtr F off).pred (a.eval x) w) (hn : off < 109) (hv : F off = v) (ho : o.op = .load 22 x) (h : K (a.put o.dst v) w) : o.wp Try.prog a w K Q := by
  obtain ⟨g, hg, hr⟩ := hx
  exact opr_ldS hr hn hv ho hg h
theorem opr_ldBP (hx : (svPtr F off).pred (a.eval x) w) (hn : off < 109) (hv : F off = v) (ho : o.op = .load 29 x) (h : K (a.put o.dst v) w) : o.wp Try.prog a w K Q := by
  obtain ⟨g, hg, hr⟩ := hx
  exact opr_ldB hr hn hv ho hg h
theorem opr_ldHP {d : Nat → UInt8} (hx : (svPtr F off).pred (a.eval x) w) (hn : off + 32 ≤ 109) (hv : ∀ j, j < 32 → F (off + j) = bF d j) (ho : o.op = .load 39 x) (h : K (a.put o.dst (.agg (rowA 32 (bF d)))) w) : o.wp Try.prog a w K Q := by
  obtain ⟨g, hg, hr⟩ := hx
  exact opr_ldH hr hn hv ho hg h
end
section
variable (x : Rc) (sv dv : Value) (i : Nat)
theorem rs_kind (n : Int) : recF { x with kind := n } sv dv i = if i = 0 then .int .i64 n else recF x sv dv i := by
  unfold recF; by_cases h : i = 0
  · subst h; rfl
  · simp only [h, if_false]
theorem rs_saga (n : Int) : recF { x with saga := n } sv dv i = if i = 1 then .int .i64 n else recF x sv dv i := by
  unfold recF; by_cases h : i = 1
  · subst h; rfl
  · simp only [h, if_false]
theorem rs_seq (n : Int) : recF { x with seq := n } sv dv i = if i = 2 then .int .i64 n else recF x sv dv i := by
  unfold recF; by_cases h : i = 2
  · subst h; rfl
  · simp only [h, if_false]
theorem rs_step (n : Int) : recF { x with step := n } sv dv i = if i = 3 then .int .i64 n else recF x sv dv i := by
  unfold recF; by_cases h : i = 3
  · subst h; rfl
  · simp only [h, if_false]
theorem rs_tr (n : Int) : recF { x with tr := n } sv dv i = if i = 4 then .int .i64 n else recF x sv dv i := by
  unfold recF; by_cases h : i = 4
  · subst h; rfl
  · simp only [h, if_false]
theorem rs_nd (n : Int) : recF { x with nd := n } sv dv i = if i = 7 then .int .i64 n else recF x sv dv i := by
  unfold recF; by_cases h : i = 7
  · subst h; rfl
  · simp only [h, if_false]
theorem rs_part (n : Int) : recF { x with part := n } sv dv i = if i = 8 then .int .i64 n else recF x sv dv i := by
  unfold recF; by_cases h : i = 8
  · subst h; rfl
  · simp only [h, if_false]
theorem rs_epoch (n : Int) : recF { x with epoch := n } sv dv i = if i = 9 then .int .i64 n else recF x sv dv i := by
  by_cases h : i = 9
  · subst h; rfl
  · rw [if_neg h]
    by_cases h10 : i < 10
    · have : i = 0 ∨ i = 1 ∨ i = 2 ∨ i = 3 ∨ i = 4 ∨ i = 5 ∨ i = 6 ∨ i = 7 ∨ i = 8 := by omega
      rcases this with rfl | rfl | rfl | rfl | rfl | rfl | rfl | rfl | rfl <;> rfl
    · unfold recF; simp only [h10, if_false]
theorem rs_back (n : Bool) : recF { x with back := n } sv dv i = if i = 5 then .bool n else recF x sv dv i := by
  unfold recF; by_cases h : i = 5
  · subst h; rfl
  · simp only [h, if_false]
theorem rs_good (n : Bool) : recF { x with good := n } sv dv i = if i = 6 then .bool n else recF x sv dv i := by
  unfold recF; by_cases h : i = 6
  · subst h; rfl
  · simp only [h, if_false]
theorem rs_gone (n : Bool) : recF { x with gone := n } sv dv i = if i = 76 then .bool n else recF x sv dv i := by
  unfold recF; by_cases h : i = 76
  · subst h; rfl
  · simp only [h, if_false]
theorem rs_steps (v : Value) : recF x v dv i = if i = 42 then v else recF x sv dv i := by
  unfold recF; by_cases h : i = 42
  · subst h; rfl
  · simp only [h, if_false]
theorem rs_data (v : Value) : recF x sv v i = if i = 43 then v else recF x sv dv i := by
  unfold recF; by_cases h : i = 43
  · subst h; rfl
  · simp only [h, if_false]
theorem rs_tag (d : Nat → UInt8) (hi : i < 109) : recF { x with tag := d } sv dv i = if 10 ≤ i ∧ i < 10 + 32 then bF d (i - 10) else recF x sv dv i := by
  by_cases h : 10 ≤ i ∧ i < 10 + 32
  · rw [if_pos h]; obtain ⟨j, rfl⟩ := Nat.exists_eq_add_of_le h.1; rw [recF_tag _ _ _ _ (by omega), Nat.add_sub_cancel_left]
  · rw [if_neg h]; unfold recF; by_cases h1 : i < 10
    · simp only [h1, if_true]
    · have h2 : ¬ i < 42 := by omega
      simp only [h1, h2, if_false]
theorem rs_salt (d : Nat → UInt8) (hi : i < 109) : recF { x with salt := d } sv dv i = if 44 ≤ i ∧ i < 44 + 32 then bF d (i - 44) else recF x sv dv i := by
  by_cases h : 44 ≤ i ∧ i < 44 + 32
  · rw [if_pos h]; obtain ⟨j, rfl⟩ := Nat.exists_eq_add_of_le h.1; rw [recF_salt _ _ _ _ (by omega), Nat.add_sub_cancel_left]
  · rw [if_neg h]; unfold recF; by_cases h1 : i < 10
    · simp only [h1, if_true]
    · by_cases h2 : i < 42
      · simp only [h1, h2, if_true, if_false]
      · by_cases h3 : i = 42
        · subst h3; rfl
        · by_cases h4 : i = 43
          · subst h4; rfl
          · have h5 : ¬ i < 76 := by omega
            simp only [h1, h2, h3, h4, h5, if_false]
theorem rs_com (d : Nat → UInt8) (hi : i < 109) : recF { x with com := d } sv dv i = if 77 ≤ i ∧ i < 77 + 32 then bF d (i - 77) else recF x sv dv i := by
  by_cases h : 77 ≤ i ∧ i < 77 + 32
  · rw [if_pos h]; obtain ⟨j, rfl⟩ := Nat.exists_eq_add_of_le h.1; rw [recF_com _ _ _ _ (by omega), Nat.add_sub_cancel_left]
  · rw [if_neg h]; unfold recF; by_cases h1 : i < 10
    · simp only [h1, if_true]
    · by_cases h2 : i < 42
      · simp only [h1, h2, if_true, if_false]
      · by_cases h3 : i = 42
        · subst h3; rfl
        · by_cases h4 : i = 43
          · subst h4; rfl
          · by_cases h5 : i < 76
            · simp only [h1, h2, h3, h4, h5, if_true, if_false]
            · have h6 : i = 76 := by omega
              subst h6; rfl
end
theorem rdP_nil (w : World) : RdP w (.slice none 0 0) [] := ⟨none, 0, rfl, Nat.le_refl _, by unfold maxLen; omega, fun h => absurd h (by simp)⟩
theorem info_i1 : (Try.prog.info? 3).map (·.size) = some 1 := by kernel_rfl
theorem info_b1 : (Try.prog.info? 4).map (·.size) = some 1 := by kernel_rfl
theorem info_s1 : (Try.prog.info? 22).map (·.size) = some 1 := by kernel_rfl
theorem info_d1 : (Try.prog.info? 29).map (·.size) = some 1 := by kernel_rfl
theorem build_kind (k : Int) (w : World) : (Instr.build 41 #[(0, .int .i64 k)]).run Try.prog w = .ok (.agg (rowA 109 (recF { zR with kind := k } (.slice none 0 0) (.slice none 0 0)))) w := by kernel_rfl
theorem opr_build {a : Act} {w : World} {o : Oper} {K : Act → World → Prop} {Q : Exit → Act → World → Prop} {t : TypeId} {parts : Array (Nat × Operand)} {pv : Array (Nat × Value)} {v : Value} (ho : o.op = .build t parts) (hp : parts.map (fun (i, x) => (i, a.eval x)) = pv) (hr : (Instr.build t pv).run Try.prog w = .ok v w) (h : K (a.put o.dst v) w) : o.wp Try.prog a w K Q := by
  obtain ⟨dst, op, type, pos, after, guard⟩ := o
  simp only at ho
  subst ho hp
  exact opr_val (s := Instr.build t (parts.map fun (i, x) => (i, a.eval x))) rfl hr h
end Go.Proofs.Ytfmahpgfeoafiaa
/- Single operations: a pointer that isn't nil, sums, differences, products. -/
namespace Go.Proofs.Ytfmahpgfeoafiaa
open Go Go.RowKit
set_option maxRecDepth 8000
set_option linter.all false
section
variable {P : Program} {a : Act} {w : World} {o : Oper} {K : Act → World → Prop} {Q : Exit → Act → World → Prop} {x y : Operand}
theorem opr_nilc {A : Addr} (ho : o.op = .nilCheck x) (hx : a.eval x = .pointer (some A)) (h : K (a.put o.dst (.pointer (some A))) w) : o.wp P a w K Q := by
  obtain ⟨dst, op, type, pos, after, guard⟩ := o
  simp only at ho
  subst ho
  simpa [Oper.wp, execOp, hx, Oper.upon, Sem.run_pure] using h
theorem opr_add {t t2 : TypeId} {m n r : Int} (ht : P.underlying t = some (.int .i64)) (hr : wrap64 (m + n) = r) (ho : o.op = .binOp .add t x y t2) (hx : a.eval x = .int .i64 m) (hy : a.eval y = .int .i64 n) (h : K (a.put o.dst (.int .i64 r)) w) : o.wp P a w K Q := by
  obtain ⟨dst, op, type, pos, after, guard⟩ := o
  simp only at ho
  subst ho hr
  refine opr_val (s := do eqGuard .add t x y (a.eval x) (a.eval y); binOp .add t (a.eval x) (a.eval y)) rfl ?_ h
  rw [hx, hy]; simp [go_sem]; rw [IntKind.wrap_i64, wrap64]
theorem opr_sub {t t2 : TypeId} {m n r : Int} (ht : P.underlying t = some (.int .i64)) (hr : wrap64 (m - n) = r) (ho : o.op = .binOp .sub t x y t2) (hx : a.eval x = .int .i64 m) (hy : a.eval y = .int .i64 n) (h : K (a.put o.dst (.int .i64 r)) w) : o.wp P a w K Q := by
  obtain ⟨dst, op, type, pos, after, guard⟩ := o
  simp only at ho
  subst ho hr
  refine opr_val (s := do eqGuard .sub t x y (a.eval x) (a.eval y); binOp .sub t (a.eval x) (a.eval y)) rfl ?_ h
  rw [hx, hy]; simp [go_sem]; rw [IntKind.wrap_i64, wrap64]
theorem opr_mul {t t2 : TypeId} {m n r : Int} (ht : P.underlying t = some (.int .i64)) (hr : wrap64 (m * n) = r) (ho : o.op = .binOp .mul t x y t2) (hx : a.eval x = .int .i64 m) (hy : a.eval y = .int .i64 n) (h : K (a.put o.dst (.int .i64 r)) w) : o.wp P a w K Q := by
  obtain ⟨dst, op, type, pos, after, guard⟩ := o
  simp only at ho
  subst ho hr
  refine opr_val (s := do eqGuard .mul t x y (a.eval x) (a.eval y); binOp .mul t (a.eval x) (a.eval y)) rfl ?_ h
  rw [hx, hy]; simp [go_sem]; rw [IntKind.wrap_i64, wrap64]
end
end Go.Proofs.Ytfmahpgfeoafiaa
/- Boxes of one value; what calls hand back together: rows, flags. -/
namespace Go.Proofs.Ytfmahpgfeoafiaa
open Go Go.RowKit
set_option maxRecDepth 8000
set_option linter.all false
theorem rowIs_one (w : World) (t : TypeId) (v : Value) : (w.alloc (.cells #[v] t)).rowIs w.heap.size t 1 (fun _ => v) := rowIs_box w t 1 (fun _ => v)
section
variable {P : Program} {w : World} {fn : Func} {tmps : Array Value}
theorem run_ldV_row {b n : Nat} {t ty : TypeId} {d : TypeDesc} {f : Nat → Value} (h : w.rowIs b t n f) (hu : P.underlying ty = some d) (hd : d.isRow = true) (hi : (P.info? ty).map (·.size) = some n) : (loadVar ty ⟨b, 0, none⟩).run P w = .ok (.agg (rowA n f)) w := by
  simpa using run_loadVar_mid (P := P) w b 0 ty (rowA n f).toList d (rangeAt_row h) hu hd (by rw [hi, rowA_toList]; simp)
theorem run_ldV_one {b : Nat} {t ty : TypeId} {v : Value} {d : TypeDesc} (h : w.rowIs b t 1 (fun _ => v)) (hu : P.underlying ty = some d) (hd : d.isRow = false) : (loadVar ty ⟨b, 0, none⟩).run P w = .ok v w := by
  have ha : (isAgg ty).run P w = .ok false w := by
    unfold isAgg
    rw [Sem.run_bind, run_underlying hu w]
    cases d <;> first | rfl | cases hd
  have hc := h.cell (i := 0) (by omega)
  simp only [loadVar, Sem.run_bind, ha, Result.andThen_ok, Bool.false_eq_true, if_false]
  simp [run_load, hc]
/-- A row, and what lies in a variable. -/
theorem results_rv {p q : Tmp} {tp tq t t' : TypeId} {d d' : TypeDesc} {n b b' : Nat} {f : Nat → Value} {v : Value} (hf : fn.results = #[.cell p tp, .cell q tq]) (hp : tmps.getD p undef = .pointer (some ⟨b, 0, none⟩)) (hq : tmps.getD q undef = .pointer (some ⟨b', 0, none⟩))
    (h : w.rowIs b t n f) (h' : w.rowIs b' t' 1 (fun _ => v)) (hu : P.underlying tp = some d) (hd : d.isRow = true) (hi : (P.info? tp).map (·.size) = some n) (hu' : P.underlying tq = some d') (hd' : d'.isRow = false) : (results fn tmps).run P w = .ok (.tuple #[.agg (rowA n f), v]) w := by
  have e1 := run_ldV_row (P := P) h hu hd hi
  have e2 := run_ldV_one (P := P) h' hu' hd'
  have hp' : tmps[p]?.getD undef = .pointer (some ⟨b, 0, none⟩) := by simpa using hp
  have hq' : tmps[q]?.getD undef = .pointer (some ⟨b', 0, none⟩) := by simpa using hq
  simp [results, hf, hp', hq', asAddr, e1, e2]
/-- A row, and a value of the frame. -/
theorem results_rt {p u : Tmp} {tp t : TypeId} {d : TypeDesc} {n b : Nat} {f : Nat → Value} {v : Value} (hf : fn.results = #[.cell p tp, .tmp u]) (hp : tmps.getD p undef = .pointer (some ⟨b, 0, none⟩)) (hv : tmps.getD u undef = v)
    (h : w.rowIs b t n f) (hu : P.underlying tp = some d) (hd : d.isRow = true) (hi : (P.info? tp).map (·.size) = some n) : (results fn tmps).run P w = .ok (.tuple #[.agg (rowA n f), v]) w := by
  have e1 := run_ldV_row (P := P) h hu hd hi
  have hp' : tmps[p]?.getD undef = .pointer (some ⟨b, 0, none⟩) := by simpa using hp
  have hv' : tmps[u]?.getD undef = v := by simpa using hv
  simp [results, hf, hp', hv', asAddr, e1]
/-- Two rows, and a value of the frame. -/
theorem results_rrt {p q u : Tmp} {tp t t' : TypeId} {d : TypeDesc} {n b b' : Nat} {f f' : Nat → Value} {v : Value} (hf : fn.results = #[.cell p tp, .cell q tp, .tmp u]) (hp : tmps.getD p undef = .pointer (some ⟨b, 0, none⟩)) (hq : tmps.getD q undef = .pointer (some ⟨b', 0, none⟩)) (hv : tmps.getD u undef = v)
    (h : w.rowIs b t n f) (h' : w.rowIs b' t' n f') (hu : P.underlying tp = some d) (hd : d.isRow = true) (hi : (P.info? tp).map (·.size) = some n) : (results fn tmps).run P w = .ok (.tuple #[.agg (rowA n f), .agg (rowA n f'), v]) w := by
  have e1 := run_ldV_row (P := P) h hu hd hi
  have e2 := run_ldV_row (P := P) h' hu hd hi
  have hp' : tmps[p]?.getD undef = .pointer (some ⟨b, 0, none⟩) := by simpa using hp
  have hq' : tmps[q]?.getD undef = .pointer (some ⟨b', 0, none⟩) := by simpa using hq
  have hv' : tmps[u]?.getD undef = v := by simpa using hv
  simp [results, hf, hp', hq', hv', asAddr, e1, e2]
variable {a : Act} {o : Oper} {K : Act → World → Prop} {Q : Exit → Act → World → Prop}
/-- A closure is made. -/
theorem opr_mkf {fid : Nat} {xs : Array Operand} {cap : Array Value} (ho : o.op = .makeFunc (.func fid) #[] xs) (hx : xs.map a.eval = cap) (h : K (a.put o.dst (.func (.func fid) #[] cap)) w) : o.wp P a w K Q := by
  obtain ⟨dst, op, type, pos, after, guard⟩ := o
  simp only at ho
  subst ho
  subst hx
  exact opr_val (s := Instr.makeFunc (.func fid) #[] (xs.map a.eval)) (by simp [execOp]) rfl h
/-- One of the values that a call hands back together. -/
theorem opr_ext {k : Nat} {x : Operand} {vs : Array Value} {v : Value} (ho : o.op = .extract x k) (hx : a.eval x = .tuple vs) (hv : vs[k]? = some v) (h : K (a.put o.dst v) w) : o.wp P a w K Q := by
  obtain ⟨dst, op, type, pos, after, guard⟩ := o
  simp only at ho
  subst ho
  exact opr_val (s := Instr.extract (a.eval x) k) (by simp [execOp]) (by rw [hx]; simp [Instr.extract, hv]) h
end
end Go.Proofs.Ytfmahpgfeoafiaa
/- Package saga's base: sagas in memory as rows, their fields, loads and stores; sets of steps as numbers; what a saga is behind a record, on plain numbers. -/
namespace Go.Proofs.Ytfmahpgfeoafiaa
open Go Go.RowKit
set_option maxRecDepth 8000
set_option linter.all false
/-- A saga's numbers. -/
structure Sg where
  ph : Int
  at_ : Int
  tr : Int
  wt : Bool
  bk : Bool
  dn : Int
  un : Int
  so : Int
  sq : Int
def sgF (sv : Value) (g : Sg) : Nat → Value := saF sv g.ph g.at_ g.tr g.wt g.bk g.dn g.un g.so g.sq
def zG : Sg := ⟨0, 0, 0, false, false, 0, 0, 0, 0⟩
/-- How a saga stands, as its numbers. -/
def ofSt (s : St) (sq : Int) : Sg := ⟨s.ph, s.a, s.t, s.w, s.w && s.ph == 1, doneN s, undN s, someN s, sq⟩
theorem sgF_st (sv : Value) (s : St) (sq : Int) : stF sv s sq = sgF sv (ofSt s sq) := rfl
theorem sgF_one (sv : Value) (g : Sg) (hs : sv.oneCell' = true) (i : Nat) : (sgF sv g i).oneCell' = true := saF_one _ _ _ _ _ _ _ _ _ _ hs i
section
variable (sv : Value) (g : Sg) (i : Nat) (hi : i < 10)
include hi
theorem gs_ph (z : Int) : sgF sv { g with ph := z } i = if i = 1 then .int .i64 z else sgF sv g i := ss_ph sv _ _ _ _ _ _ _ _ _ z i hi
theorem gs_at (z : Int) : sgF sv { g with at_ := z } i = if i = 2 then .int .i64 z else sgF sv g i := ss_at sv _ _ _ _ _ _ _ _ _ z i hi
theorem gs_tr (z : Int) : sgF sv { g with tr := z } i = if i = 3 then .int .i64 z else sgF sv g i := ss_tr sv _ _ _ _ _ _ _ _ _ z i hi
theorem gs_wt (z : Bool) : sgF sv { g with wt := z } i = if i = 4 then .bool z else sgF sv g i := ss_wt sv _ _ _ _ _ _ _ _ _ z i hi
theorem gs_bk (z : Bool) : sgF sv { g with bk := z } i = if i = 5 then .bool z else sgF sv g i := ss_bk sv _ _ _ _ _ _ _ _ _ z i hi
theorem gs_dn (z : Int) : sgF sv { g with dn := z } i = if i = 6 then .int .i64 z else sgF sv g i := ss_dn sv _ _ _ _ _ _ _ _ _ z i hi
theorem gs_un (z : Int) : sgF sv { g with un := z } i = if i = 7 then .int .i64 z else sgF sv g i := ss_un sv _ _ _ _ _ _ _ _ _ z i hi
theorem gs_so (z : Int) : sgF sv { g with so := z } i = if i = 8 then .int .i64 z else sgF sv g i := ss_so sv _ _ _ _ _ _ _ _ _ z i hi
theorem gs_sq (z : Int) : sgF sv { g with sq := z } i = if i = 9 then .int .i64 z else sgF sv g i := ss_sq sv _ _ _ _ _ _ _ _ _ z i hi
end
theorem put_allN (n : Nat) (F G : Nat → Value) : ∀ i, i < n → F i = if 0 ≤ i ∧ i < 0 + n then F (i - 0) else G i := fun i hi => by
  rw [if_pos (by omega), Nat.sub_zero]
/-- Sets of steps as the program reckons with them. -/
def orI (m n : Int) : Int := bits .or .i64 m n
def andI (m n : Int) : Int := bits .and .i64 m n
def notI (m n : Int) : Int := bits .andNot .i64 m n
def bitI (k : Int) : Int := 2 ^ k.toNat
theorem info_saga : (Try.prog.info? 27).map (·.size) = some 10 := by kernel_rfl
theorem run_alloc_saga (w : World) : (Instr.alloc 27 true (.tuple #[])).run Try.prog w = .ok (.pointer (some ⟨w.heap.size, 0, none⟩)) (w.alloc (.cells (rowA 10 (sgF (.slice none 0 0) zG)) 27)) := by kernel_rfl
theorem build_saga0 (w : World) : (Instr.build 27 #[]).run Try.prog w = .ok (.agg (rowA 10 (sgF (.slice none 0 0) zG))) w := by kernel_rfl
theorem build_saga (A : Option Addr) (n c : Nat) (w : World) : (Instr.build 27 #[(0, .slice A n c), (1, .int .i64 0), (9, .int .i64 1)]).run Try.prog w = .ok (.agg (rowA 10 (sgF (.slice A n c) (ofSt st0 1)))) w := by kernel_rfl
theorem build_sagaS (A : Option Addr) (n c : Nat) (w : World) : (Instr.build 27 #[(0, .slice A n c), (9, .int .i64 1)]).run Try.prog w = .ok (.agg (rowA 10 (sgF (.slice A n c) (ofSt st0 1)))) w := by kernel_rfl
theorem run_zero_rec (w : World) : (zeroValue 41).run Try.prog w = .ok (.agg (rowA 109 (recF zR (.slice none 0 0) (.slice none 0 0)))) w := by kernel_rfl
theorem build_rec0 (w : World) : (Instr.build 41 #[]).run Try.prog w = .ok (.agg (rowA 109 (recF zR (.slice none 0 0) (.slice none 0 0)))) w := by kernel_rfl
theorem build_closed (e : Int) (w : World) : (Instr.build 41 #[(0, .int .i64 5), (7, .int .i64 e)]).run Try.prog w = .ok (.agg (rowA 109 (recF { zR with kind := 5, nd := e } (.slice none 0 0) (.slice none 0 0)))) w := by kernel_rfl
theorem build_intent (k t : Int) (b : Bool) (w : World) : (Instr.build 41 #[(0, .int .i64 2), (3, .int .i64 k), (4, .int .i64 t), (5, .bool b)]).run Try.prog w = .ok (.agg (rowA 109 (recF { zR with kind := 2, step := k, tr := t, back := b } (.slice none 0 0) (.slice none 0 0)))) w := by kernel_rfl
theorem build_receipt (k t : Int) (b q : Bool) (w : World) : (Instr.build 41 #[(0, .int .i64 3), (3, .int .i64 k), (4, .int .i64 t), (5, .bool b), (6, .bool q)]).run Try.prog w = .ok (.agg (rowA 109 (recF { zR with kind := 3, step := k, tr := t, back := b, good := q } (.slice none 0 0) (.slice none 0 0)))) w := by kernel_rfl
theorem build_receipt2 (s t : Int) (w : World) : (Instr.build 41 #[(0, .int .i64 3), (2, .int .i64 s), (4, .int .i64 t)]).run Try.prog w = .ok (.agg (rowA 109 (recF { zR with kind := 3, seq := s, tr := t } (.slice none 0 0) (.slice none 0 0)))) w := by kernel_rfl
section
variable {a : Act} {w : World} {o : Oper} {K : Act → World → Prop} {Q : Exit → Act → World → Prop} {x y : Operand} {g : Nat} {t' : TypeId} {F : Nat → Value}
theorem opr_fldU0 (ho : o.op = .fieldAddr 27 x 0) (hx : a.eval x = .pointer (some ⟨g, 0, none⟩)) (h : K (a.put o.dst (.pointer (some ⟨g, 0, none⟩))) w) : o.wp Try.prog a w K Q := opr_fld Try.underlying27 rfl info_steps1 ho hx (by rfl) h
theorem opr_fldU1 (ho : o.op = .fieldAddr 27 x 1) (hx : a.eval x = .pointer (some ⟨g, 0, none⟩)) (h : K (a.put o.dst (.pointer (some ⟨g, 1, none⟩))) w) : o.wp Try.prog a w K Q := opr_fld Try.underlying27 rfl info_int ho hx (by rfl) h
theorem opr_fldU2 (ho : o.op = .fieldAddr 27 x 2) (hx : a.eval x = .pointer (some ⟨g, 0, none⟩)) (h : K (a.put o.dst (.pointer (some ⟨g, 2, none⟩))) w) : o.wp Try.prog a w K Q := opr_fld Try.underlying27 rfl info_int ho hx (by rfl) h
theorem opr_fldU3 (ho : o.op = .fieldAddr 27 x 3) (hx : a.eval x = .pointer (some ⟨g, 0, none⟩)) (h : K (a.put o.dst (.pointer (some ⟨g, 3, none⟩))) w) : o.wp Try.prog a w K Q := opr_fld Try.underlying27 rfl info_int ho hx (by rfl) h
theorem opr_fldU4 (ho : o.op = .fieldAddr 27 x 4) (hx : a.eval x = .pointer (some ⟨g, 0, none⟩)) (h : K (a.put o.dst (.pointer (some ⟨g, 4, none⟩))) w) : o.wp Try.prog a w K Q := opr_fld Try.underlying27 rfl info_bool ho hx (by rfl) h
theorem opr_fldU5 (ho : o.op = .fieldAddr 27 x 5) (hx : a.eval x = .pointer (some ⟨g, 0, none⟩)) (h : K (a.put o.dst (.pointer (some ⟨g, 5, none⟩))) w) : o.wp Try.prog a w K Q := opr_fld Try.underlying27 rfl info_bool ho hx (by rfl) h
theorem opr_fldU6 (ho : o.op = .fieldAddr 27 x 6) (hx : a.eval x = .pointer (some ⟨g, 0, none⟩)) (h : K (a.put o.dst (.pointer (some ⟨g, 6, none⟩))) w) : o.wp Try.prog a w K Q := opr_fld Try.underlying27 rfl info_int ho hx (by rfl) h
theorem opr_fldU7 (ho : o.op = .fieldAddr 27 x 7) (hx : a.eval x = .pointer (some ⟨g, 0, none⟩)) (h : K (a.put o.dst (.pointer (some ⟨g, 7, none⟩))) w) : o.wp Try.prog a w K Q := opr_fld Try.underlying27 rfl info_int ho hx (by rfl) h
theorem opr_fldU8 (ho : o.op = .fieldAddr 27 x 8) (hx : a.eval x = .pointer (some ⟨g, 0, none⟩)) (h : K (a.put o.dst (.pointer (some ⟨g, 8, none⟩))) w) : o.wp Try.prog a w K Q := opr_fld Try.underlying27 rfl info_int ho hx (by rfl) h
theorem opr_fldU9 (ho : o.op = .fieldAddr 27 x 9) (hx : a.eval x = .pointer (some ⟨g, 0, none⟩)) (h : K (a.put o.dst (.pointer (some ⟨g, 9, none⟩))) w) : o.wp Try.prog a w K Q := opr_fld Try.underlying27 rfl info_int ho hx (by rfl) h
theorem opr_ldU (hr : w.rowIs g t' 10 F) (ho : o.op = .load 27 x) (hx : a.eval x = .pointer (some ⟨g, 0, none⟩)) (h : K (a.put o.dst (.agg (rowA 10 F))) w) : o.wp Try.prog a w K Q :=
  opr_ldm Try.underlying27 rfl info_saga ho hx hr (by omega) (by rw [rowA_congr (g := F) fun i _ => by rw [Nat.zero_add]]; exact h)
theorem opr_orI {P : Program} {t t2 : TypeId} {m n : Int} (ho : o.op = .binOp .or t x y t2) (hx : a.eval x = .int .i64 m) (hy : a.eval y = .int .i64 n) (h : K (a.put o.dst (.int .i64 (orI m n))) w) : o.wp P a w K Q := by
  obtain ⟨dst, op, type, pos, after, guard⟩ := o
  simp only at ho
  subst ho
  refine opr_val (s := do eqGuard .or t x y (a.eval x) (a.eval y); binOp .or t (a.eval x) (a.eval y)) rfl ?_ h
  rw [hx, hy]; simp [go_sem]; rfl
theorem opr_andI {P : Program} {t t2 : TypeId} {m n : Int} (ho : o.op = .binOp .and t x y t2) (hx : a.eval x = .int .i64 m) (hy : a.eval y = .int .i64 n) (h : K (a.put o.dst (.int .i64 (andI m n))) w) : o.wp P a w K Q := by
  obtain ⟨dst, op, type, pos, after, guard⟩ := o
  simp only at ho
  subst ho
  refine opr_val (s := do eqGuard .and t x y (a.eval x) (a.eval y); binOp .and t (a.eval x) (a.eval y)) rfl ?_ h
  rw [hx, hy]; simp [go_sem]; rfl
theorem opr_notI {P : Program} {t t2 : TypeId} {m n : Int} (ho : o.op = .binOp .andNot t x y t2) (hx : a.eval x = .int .i64 m) (hy : a.eval y = .int .i64 n) (h : K (a.put o.dst (.int .i64 (notI m n))) w) : o.wp P a w K Q := by
  obtain ⟨dst, op, type, pos, after, guard⟩ := o
  simp only at ho
  subst ho
  refine opr_val (s := do eqGuard .andNot t x y (a.eval x) (a.eval y); binOp .andNot t (a.eval x) (a.eval y)) rfl ?_ h
  rw [hx, hy]; simp [go_sem]; rfl
/-- A place where a step lies, where a number lies. -/
def svStp (d : Int × Int) : SV NewT := ⟨fun v w => ∃ b o, v = .pointer (some ⟨b, o, none⟩) ∧ w.cell? ⟨b, o, none⟩ = some (.int .i64 d.1) ∧ w.cell? ⟨b, o + 1, none⟩ = some (.int .i64 d.2),
  fun _ _ _ ⟨b, o, h1, h2, h3⟩ hT => ⟨b, o, h1, (hT.out.cell (World.block_lt_of_cell? _ _ h2)).trans h2, (hT.out.cell (World.block_lt_of_cell? _ _ h3)).trans h3⟩⟩
def svIp (z : Int) : SV NewT := ⟨fun v w => ∃ b o, v = .pointer (some ⟨b, o, none⟩) ∧ w.cell? ⟨b, o, none⟩ = some (.int .i64 z),
  fun _ _ _ ⟨b, o, h1, h2⟩ hT => ⟨b, o, h1, (hT.out.cell (World.block_lt_of_cell? _ _ h2)).trans h2⟩⟩
theorem opr_idxSt {k : Nat} {z : Int} {l : List (Int × Int)} {d : Int × Int} (hd : k < l.length ∧ l.getD k (0, 0) = d) (hz : (k : Int) = z) (ho : o.op = .indexAddr 22 x y) (hx : RdP w (a.eval x) l) (hy : a.eval y = .int .i64 z) (h : ∀ v, (svStp d).pred v w → K (a.put o.dst v) w) : o.wp Try.prog a w K Q := by
  obtain ⟨A, c, hv, _, _, h3⟩ := hx
  obtain ⟨b, o1, rfl, hc⟩ := h3 (by omega)
  have hk := hc k hd.1
  rw [hd.2] at hk
  refine opr_idxS hd.1 ho hv (by rw [hy, hz]) (h _ ⟨b, o1 + 2 * k, rfl, hk⟩)
theorem opr_fldSt0 {d : Int × Int} (ho : o.op = .fieldAddr 34 x 0) (hx : (svStp d).pred (a.eval x) w) (h : ∀ v, (svIp d.1).pred v w → K (a.put o.dst v) w) : o.wp Try.prog a w K Q := by
  obtain ⟨b, o1, hv, h1, _⟩ := hx
  exact opr_fldS (k := 0) (by omega) ho hv (h _ ⟨b, o1 + 0, rfl, h1⟩)
theorem opr_fldSt1 {d : Int × Int} (ho : o.op = .fieldAddr 34 x 1) (hx : (svStp d).pred (a.eval x) w) (h : ∀ v, (svIp d.2).pred v w → K (a.put o.dst v) w) : o.wp Try.prog a w K Q := by
  obtain ⟨b, o1, hv, _, h1⟩ := hx
  exact opr_fldS (k := 1) (by omega) ho hv (h _ ⟨b, o1 + 1, rfl, h1⟩)
theorem opr_ldIp {z : Int} (ho : o.op = .load 3 x) (hx : (svIp z).pred (a.eval x) w) (h : K (a.put o.dst (.int .i64 z)) w) : o.wp Try.prog a w K Q := by
  obtain ⟨b, o1, hv, h1⟩ := hx
  exact opr_ld1 Try.underlying3 rfl ho hv h1 h
theorem opr_ldStp {d : Int × Int} (ho : o.op = .load 34 x) (hx : (svStp d).pred (a.eval x) w) (h : K (a.put o.dst (.agg (rowA 2 (stepF d)))) w) : o.wp Try.prog a w K Q := by
  obtain ⟨b, o1, hv, h1, h2⟩ := hx
  exact opr_ld2 h1 h2 ho hv h
end
end Go.Proofs.Ytfmahpgfeoafiaa
/- What is due of a saga, whether a record goes, and the saga behind it: on plain numbers, as the program reckons. No program is named here. -/
namespace Go.Proofs.Ytfmahpgfeoafiaa
open Go Go.RowKit
set_option maxRecDepth 8000
set_option linter.all false
def kdL (l : List (Int × Int)) (i : Nat) : Int := (l.getD i (0, 0)).2
/-- The last one, if any is. -/
def lastT (f : Nat → Bool) : Nat → Option Nat
  | 0 => none
  | n + 1 => if f n = true then some n else lastT f n
def opnI (g : Sg) : Int := notI (orI g.dn g.so) g.un
def isTg (l : List (Int × Int)) (op : Int) (i : Nat) : Bool := (kdL l i == 1) && (andI op (bitI i) != 0)
def tgtO (l : List (Int × Int)) (g : Sg) : Option Nat := lastT (isTg l (opnI g)) l.length
def oI : Option Nat → Int
  | some i => i
  | none => 0
def nextI (l : List (Int × Int)) (g : Sg) : Int := if g.ph = 1 then oI (tgtO l g) else if inR g.at_ 0 ((l.length : Int) - 1) = true then g.at_ else 0
def nextB (l : List (Int × Int)) (g : Sg) : Bool := if g.ph = 1 then (tgtO l g).isSome else inR g.at_ 0 ((l.length : Int) - 1)
def overB (p : Int) : Bool := (p == 2 || p == 3) || p == 4
def clR (e : Int) : Rc := { zR with kind := 5, nd := e }
def inG (lim : Int) (g : Sg) : Bool := !((!inR lim 1 9 || g.wt) || overB g.ph)
def dueX (l : List (Int × Int)) (lim : Int) (g : Sg) : Rc :=
  if inG lim g = true then
    (if nextB l g = true then (if g.tr < lim then { zR with kind := 2, step := nextI l g, tr := g.tr + 1, back := g.ph == 1 } else clR 4)
     else if g.ph = 1 then clR 3 else clR 2)
  else zR
def isDueB (l : List (Int × Int)) (lim : Int) (g : Sg) (x : Rc) : Bool :=
  ((((inG lim g && x.kind == (dueX l lim g).kind) && x.step == (dueX l lim g).step) && x.tr == (dueX l lim g).tr) && x.back == (dueX l lim g).back) && x.nd == (dueX l lim g).nd
def isOutB (l : List (Int × Int)) (g : Sg) (x : Rc) : Bool := (((g.wt && nextB l g) && x.step == nextI l g) && x.tr == g.tr) && x.back == g.bk
def fitsB (l : List (Int × Int)) (lim : Int) (g : Sg) (x : Rc) : Bool :=
  if x.kind = 2 ∨ x.kind = 5 then isDueB l lim g x else if x.kind = 3 ∨ x.kind = 4 then isOutB l g x else false
def turnG (g : Sg) : Sg := { g with ph := 1, tr := 0 }
def wellG (g : Sg) (b : Bool) (k : Int) : Sg := if b = true then { g with tr := 0, un := orI g.un (bitI k) } else { g with tr := 0, dn := orI g.dn (bitI k), so := notI g.so (bitI k), at_ := g.at_ + 1 }
def refG (l : List (Int × Int)) (g : Sg) (k : Int) : Sg := if kdL l k.toNat = 3 then g else turnG { g with so := notI g.so (bitI k) }
def lapG (l : List (Int × Int)) (lim : Int) (g : Sg) (b : Bool) (k : Int) : Sg :=
  if b = true then g else if kdL l k.toNat = 1 ∧ g.tr = lim then turnG { g with so := orI g.so (bitI k) } else { g with so := orI g.so (bitI k) }
def begG (g : Sg) (x : Rc) : Sg := { g with sq := g.sq + 1, wt := x.kind == 2, bk := x.kind == 2 && x.back }
def behG (l : List (Int × Int)) (lim : Int) (g : Sg) (x : Rc) : Sg :=
  if x.kind = 2 then { begG g x with tr := x.tr } else if x.kind = 5 then { begG g x with ph := x.nd }
  else if x.kind = 3 then (if x.good = true then wellG (begG g x) x.back x.step else if x.back = false then refG l (begG g x) x.step else lapG l lim (begG g x) x.back x.step)
  else if x.kind = 4 then lapG l lim (begG g x) x.back x.step else begG g x
def goesB (l : List (Int × Int)) (lim : Int) (g : Sg) (x : Rc) : Bool := !((!inR lim 1 9 || x.seq != g.sq) || !fitsB l lim g x)
def wentG (l : List (Int × Int)) (lim : Int) (g : Sg) (x : Rc) : Sg := if goesB l lim g x = true then behG l lim g x else g
/-- Numbers that are small enough. -/
structure OkG (l : List (Int × Int)) (g : Sg) : Prop where
  len : 1 ≤ l.length ∧ l.length ≤ 6
  at_ : 0 ≤ g.at_ ∧ g.at_ ≤ 6
  tr : 0 ≤ g.tr ∧ g.tr ≤ 9
  sq : 0 ≤ g.sq ∧ g.sq ≤ 1000000
end Go.Proofs.Ytfmahpgfeoafiaa
/- Whether steps may be a saga's: on lists, step by step, as the program asks and as the document has it; new sagas; sets of steps asked by halving. No program is named here. -/
namespace Go.Proofs.Ytfmahpgfeoafiaa
open Go Go.RowKit
set_option maxRecDepth 8000
set_option linter.all false
def ptL (l : List (Int × Int)) (i : Nat) : Int := (l.getD i (0, 0)).1
/-- May a step stand there? -/
def stepMay (l : List (Int × Int)) (i : Nat) : Bool := decide ((0 ≤ ptL l i ∧ ptL l i ≤ 3) ∧ (1 ≤ kdL l i ∧ kdL l i ≤ 3) ∧ (0 < i → kdL l (i - 1) ≤ kdL l i ∧ ¬ (kdL l i = 2 ∧ kdL l (i - 1) = 2)))
def upMay (l : List (Int × Int)) (k : Nat) : Bool := (List.range k).all (stepMay l)
def mayL (l : List (Int × Int)) : Bool := inR (l.length : Int) 1 6 && upMay l l.length
theorem upMay_iff (l : List (Int × Int)) (k : Nat) : upMay l k = true ↔ ∀ i, i < k → stepMay l i = true := by simp [upMay]
theorem upMay_succ (l : List (Int × Int)) (k : Nat) : upMay l (k + 1) = (upMay l k && stepMay l k) := by simp [upMay, List.range_succ]
theorem upMay_no {l : List (Int × Int)} {k n : Nat} (hk : k < n) (h : stepMay l k = false) : upMay l n = false := by
  cases hu : upMay l n with
  | false => rfl
  | true => rw [(upMay_iff l n).1 hu k hk] at h; cases h
def leastN (l : List (Int × Int)) (k : Nat) : Int := if k = 0 then 1 else if kdL l (k - 1) = 2 then 3 else kdL l (k - 1)
theorem step_prog {l : List (Int × Int)} {k : Nat} (h : upMay l k = true) : (!inR (ptL l k) 0 3 || !inR (kdL l k) (leastN l k) 3) = !stepMay l k := by
  have hp : 0 < k → 1 ≤ kdL l (k - 1) ∧ kdL l (k - 1) ≤ 3 := fun hk => by
    have := (upMay_iff l k).1 h (k - 1) (by omega)
    unfold stepMay at this
    have := of_decide_eq_true this
    exact this.2.1
  cases hs : stepMay l k with
  | true =>
    unfold stepMay at hs
    have hs := of_decide_eq_true hs
    have e1 : inR (ptL l k) 0 3 = true := (inR_iff _ _ _).2 hs.1
    have e2 : inR (kdL l k) (leastN l k) 3 = true := (inR_iff _ _ _).2 (by
      refine ⟨?_, hs.2.1.2⟩
      unfold leastN
      split
      · exact hs.2.1.1
      · have := hs.2.2 (by omega)
        have := hp (by omega)
        split <;> omega)
    rw [e1, e2]; rfl
  | false =>
    cases e1 : inR (ptL l k) 0 3 with
    | false => rfl
    | true =>
      cases e2 : inR (kdL l k) (leastN l k) 3 with
      | false => rfl
      | true =>
        exfalso
        have h1 := (inR_iff _ _ _).1 e1
        have h2 := (inR_iff _ _ _).1 e2
        unfold stepMay at hs
        refine of_decide_eq_false hs ⟨h1, ?_, fun hk => ?_⟩
        · unfold leastN at h2
          split at h2
          · exact h2
          · have := hp (by omega)
            split at h2 <;> omega
        · have := hp hk
          unfold leastN at h2
          rw [if_neg (by omega)] at h2
          split at h2 <;> omega
theorem least_next (l : List (Int × Int)) (k : Nat) : leastN l (k + 1) = if kdL l k = 2 then 3 else kdL l k := by
  unfold leastN
  rw [if_neg (by omega), Nat.add_sub_cancel]
theorem may_len {l : List (Int × Int)} (h : mayL l = true) : 1 ≤ l.length ∧ l.length ≤ 6 := by
  unfold mayL at h
  rw [Bool.and_eq_true] at h
  have := (inR_iff _ _ _).1 h.1
  omega
theorem may_step {l : List (Int × Int)} (h : mayL l = true) {i : Nat} (hi : i < l.length) : (0 ≤ ptL l i ∧ ptL l i ≤ 3) ∧ (1 ≤ kdL l i ∧ kdL l i ≤ 3) ∧ (0 < i → kdL l (i - 1) ≤ kdL l i ∧ ¬ (kdL l i = 2 ∧ kdL l (i - 1) = 2)) := by
  unfold mayL at h
  rw [Bool.and_eq_true] at h
  have := (upMay_iff l l.length).1 h.2 i hi
  unfold stepMay at this
  exact of_decide_eq_true this
/-- The kinds of steps that may be. -/
theorem may_kinds {l : List (Int × Int)} (h : mayL l = true) : MayK (l.map (·.2)) := by
  have hl := may_len h
  have e : ∀ i, (l.map (·.2)).getD i 0 = kdL l i := fun i => by
    unfold kdL
    simp only [List.getD, List.getElem?_map]
    cases l[i]? <;> rfl
  refine ⟨by simpa using hl.1, by simpa using hl.2, fun i hi => ?_, fun i hi => ?_⟩
  · rw [e]; exact (may_step h (by simpa using hi)).2.1
  · rw [e, e]
    have := (may_step h (i := i + 1) (by simpa using hi)).2.2 (by omega)
    rw [Nat.add_sub_cancel] at this
    exact ⟨this.1, fun ⟨a, b⟩ => this.2 ⟨b, a⟩⟩
theorem kd_map (l : List (Int × Int)) (i : Nat) : kd (l.map (·.2)) i = kdL l i := by
  unfold kd kdL
  simp only [List.getD, List.getElem?_map]
  cases l[i]? <;> rfl
def newG (l : List (Int × Int)) : Sg := if mayL l = true then ofSt st0 1 else zG
def newL (l : List (Int × Int)) : List (Int × Int) := if mayL l = true then l else []
/-- A value that is a saga, its steps in a block from B on. -/
def SgV (w : World) (v : Value) (l : List (Int × Int)) (g : Sg) : Prop := ∃ sv, v = .agg (rowA 10 (sgF sv g)) ∧ RdP w sv l
theorem NewT.sgV {w w' : World} (h : NewT w w') {v : Value} {l : List (Int × Int)} {g : Sg} (hr : SgV w v l g) : SgV w' v l g := by
  obtain ⟨sv, h1, h2⟩ := hr
  exact ⟨sv, h1, h.pairs h2⟩
def svSg (l : List (Int × Int)) (g : Sg) : SV NewT := ⟨fun v w => SgV w v l g, fun _ _ _ h hT => hT.sgV h⟩
end Go.Proofs.Ytfmahpgfeoafiaa
/- Package saga: ranges, bits, ends, whether one is over, what is missing, one that turns back. -/
namespace Go.Proofs.Ytfmahpgfeoafiaa
open Go Go.RowKit
set_option maxRecDepth 8000
set_option linter.all false
attribute [local go_sem] run_zero_rec
set_option maxHeartbeats 1000000 in
theorem gWithin_cv (n lo hi : Int) (w : World) : Cv 20 #[.int .i64 n, .int .i64 lo, .int .i64 hi] w (.eq (.bool (inR n lo hi))) := by
  unfold Cv
  go_enter Try.func20, Try.ntmps20
  go_upto_region 1 with fail
  obtain ⟨q1_1, Q1_1⟩ : ∃ bq_, ((decide (lo ≤ n)) && (decide (n ≤ hi))) = bq_ := ⟨_, rfl⟩
  refine wp_region_steps0 NewT [SV.eq (.int .i64 (lo)), SV.eq (.int .i64 (n)), SV.eq (.bool (decide (lo ≤ n))), SV.eq (.bool (decide (lo ≤ n))), svIf (decide (lo ≤ n)) (SV.eq (.int .i64 (n))), svIf (decide (lo ≤ n)) (SV.eq (.int .i64 (hi))), svIf (decide (lo ≤ n)) (SV.eq (.bool (decide (n ≤ hi)))), SV.eq (.bool (q1_1)), SV.eq (.bool (q1_1))] [([(1, none)], none), ([(0, none)], none), ([(7, some 0), (8, some 1)], none), ([(9, some 2)], none), ([(0, none), (10, some 3)], some (10, true)), ([(2, none), (10, some 3)], some (10, true)), ([(11, some 4), (12, some 5), (10, some 3)], some (10, true)), ([(10, some 3), (13, some 6)], none), ([(14, some 7)], none)] 15 9 rfl rfl (by kernel_rfl) NewT.trans (NewT.refl _) (Nat.le_of_ble_eq_true rfl) ⟨?_, ?_, ?_, ?_, ?_, ?_, ?_, ?_, ?_, trivial⟩ ?_
  · exact fun a wx hT hF K hK => rely_wp rfl (opr_move (.inl rfl) (hK _ _ (NewT.refl _) hF.1))
  · exact fun a wx hT hF K hK => rely_wp rfl (opr_move (.inl rfl) (hK _ _ (NewT.refl _) hF.1))
  · exact fun a wx hT hF K hK => rely_wp rfl (opr_cmp (b := decide (lo ≤ n)) (.inr (.inr (.inl ⟨rfl, rfl⟩))) Try.underlying3 rfl hF.1 hF.2.1 (hK _ _ (NewT.refl _) rfl))
  · exact fun a wx hT hF K hK => rely_wp rfl (opr_move (.inl rfl) (hK _ _ (NewT.refl _) hF.1))
  · exact fun a wx hT hF K hK => rely_if (rely_gt hF.2.1) (NewT.refl _) hK fun hE hK => opr_move (.inl rfl) (hK _ _ (NewT.refl _) hF.1)
  · exact fun a wx hT hF K hK => rely_if (rely_gt hF.2.1) (NewT.refl _) hK fun hE hK => opr_move (.inl rfl) (hK _ _ (NewT.refl _) hF.1)
  · exact fun a wx hT hF K hK => rely_if (rely_gt hF.2.2.1) (NewT.refl _) hK fun hE hK => opr_cmp (b := decide (n ≤ hi)) (.inr (.inr (.inl ⟨rfl, rfl⟩))) Try.underlying3 rfl (hF.1 hE) (hF.2.1 hE) (hK _ _ (NewT.refl _) rfl)
  · exact fun a wx hT hF K hK => rely_wp rfl (opr_pick_b rfl hF.1 (fun hb => hK _ _ (NewT.refl _) (pn_and1 Q1_1 (hF.2.1 hb) hb)) (fun hb => hK _ _ (NewT.refl _) (pn_and0 Q1_1 hb)))
  · exact fun a wx hT hF K hK => rely_wp rfl (opr_move (.inr rfl) (hK _ _ (NewT.refl _) hF.1))
  · intro wx hT
    iterate 4 (intro u h; obtain rfl := Eq.symm (h (by simp)); clear h)
    iterate 3 (intro _ _)
    iterate 2 (intro u h; obtain rfl := Eq.symm (h (by simp)); clear h)
    subst Q1_1
    refine relyEnd_nil rfl ?_
    refine wpList_end rfl ?_
    simp only [Act.put, List.setIfInBounds_toArray, List.set_cons_zero, List.set_cons_succ]
    go_simp
    go_wp2
    go_ret
    exact ⟨_, rfl, hT, rfl⟩
set_option maxHeartbeats 1000000 in
theorem gLimit_cv (n : Int) (w : World) : Cv 24 #[.int .i64 n] w (.eq (.bool (inR n 1 9))) := by
  unfold Cv
  go_enter Try.func24, Try.ntmps24
  go_upto_region 1 with fail
  refine wp_region_steps0 NewT [SV.eq (.int .i64 (n)), SV.eq (.bool (inR n 1 9)), SV.eq (.bool (inR n 1 9))] [([(0, none)], none), ([(3, some 0)], none), ([(4, some 1)], none)] 5 3 rfl rfl (by kernel_rfl) NewT.trans (NewT.refl _) (Nat.le_of_ble_eq_true rfl) ⟨?_, ?_, ?_, trivial⟩ ?_
  · exact fun a wx hT hF K hK => rely_wp rfl (opr_move (.inl rfl) (hK _ _ (NewT.refl _) hF.1))
  · exact fun a wx hT hF K hK => rely_wp rfl (opr_cv (gWithin_cv n 1 9 wx) rfl Try.func20 (by kernel_rfl) (by kernel_rfl) (evs3 hF.1 rfl rfl) hK)
  · exact fun a wx hT hF K hK => rely_wp rfl (opr_move (.inr rfl) (hK _ _ (NewT.refl _) hF.1))
  · intro wx hT
    iterate 3 (intro u h; obtain rfl := Eq.symm (h (by simp)); clear h)
    refine relyEnd_nil rfl ?_
    refine wpList_end rfl ?_
    simp only [Act.put, List.setIfInBounds_toArray, List.set_cons_zero, List.set_cons_succ]
    go_simp
    go_wp2
    go_ret
    exact ⟨_, rfl, hT, rfl⟩
set_option maxHeartbeats 1000000 in
theorem gBit_cv (k : Int) (w : World) (hk : 0 ≤ k ∧ k < 6) : Cv 35 #[.int .i64 k] w (.eq (.int .i64 (bitI k))) := by
  unfold Cv
  have h : k = 0 ∨ k = 1 ∨ k = 2 ∨ k = 3 ∨ k = 4 ∨ k = 5 := by omega
  clear hk
  rcases h with rfl | rfl | rfl | rfl | rfl | rfl
  all_goals
    go_enter Try.func35, Try.ntmps35
    go_wp2
    go_ret
    exact ⟨_, rfl, NewT.refl _, rfl⟩
set_option maxHeartbeats 1000000 in
theorem gClosed_cv (n : Int) (w : World) : Cv 28 #[.int .i64 n] w (.eq (.agg (rowA 109 (recF (clR n) (.slice none 0 0) (.slice none 0 0))))) := by
  unfold Cv
  go_enter Try.func28, Try.ntmps28
  go_upto_region 1 with fail
  have r_g1 := rowIs_box w 41 109 (recF zR (.slice none 0 0) (.slice none 0 0))
  have hN : NewT w (w.alloc (.cells (rowA 109 (recF zR (.slice none 0 0) (.slice none 0 0))) 41)) := NewT.alloc _ _
  change Code.wp _ _ _ _ (w.alloc (.cells (rowA 109 (recF zR (.slice none 0 0) (.slice none 0 0))) 41))
  generalize (w.alloc (.cells (rowA 109 (recF zR (.slice none 0 0) (.slice none 0 0))) 41)) = W0 at r_g1 hN ⊢
  obtain ⟨g1, h_g1⟩ : ∃ g_, w.heap.size = g_ := ⟨_, rfl⟩
  have HG : Hid (w.heap.size ≤ g1) := Lib.hid (by omega)
  rw [h_g1] at r_g1
  simp only [h_g1]
  have Rg1 := Lib.hid r_g1
  have HM := Lib.hid hN
  clear r_g1 hN h_g1
  go_upto_region 1 with fail
  refine wp_region_steps0 NewT [SV.eq (.int .i64 (n)), SV.eq ((.agg (rowA 109 (recF (clR n) (.slice none 0 0) (.slice none 0 0)))))] [([(0, none)], none), ([(3, some 0)], none)] 5 2 rfl rfl (by kernel_rfl) NewT.trans (NewT.refl _) (Nat.le_of_ble_eq_true rfl) ⟨?_, ?_, trivial⟩ ?_
  · exact fun a wx hT hF K hK => rely_wp rfl (opr_move (.inl rfl) (hK _ _ (NewT.refl _) hF.1))
  · intro a wx hT hF K hK
    obtain ⟨f3, _⟩ := hF
    have f3 : a.tmps.getD 3 undef = .int .i64 (n) := f3
    refine rely_wp rfl ?_
    exact opr_build (pv := #[(0, .int .i64 5), (7, .int .i64 n)]) rfl (by simp only [List.map_toArray, List.map_cons, List.map_nil, eval_tmp, eval_const, f3]) (build_closed n wx) (hK _ _ (NewT.refl _) rfl)
  · intro w1 k1
    iterate 2 (intro u h; obtain rfl := Eq.symm (h (by simp)); clear h)
    refine relyEnd_nil rfl ?_
    simp only [Act.put, List.setIfInBounds_toArray, List.set_cons_zero, List.set_cons_succ]
    refine wpList_plain rfl (fun K hK => ?_)
    refine opr_putm (g := g1) (o0 := 0) (m := 109) (f := recF (clR n) (.slice none 0 0) (.slice none 0 0)) (F := recF (clR n) (.slice none 0 0) (.slice none 0 0)) rfl rfl rfl (k1.row Rg1.out) (by decide) info_rec (recF_one _ _ _ rfl rfl) (put_allN _ _ _) ?_
    intro W1 hR1 rr1
    refine hK _ _ ?_
    clear hK K
    refine wpList_end rfl ?_
    simp only [Act.put, List.setIfInBounds_toArray, List.set_cons_zero, List.set_cons_succ]
    go_simp
    replace Rg1 := Lib.hid rr1
    replace HM := Lib.hid (NewT.rt (NewT.trans _ _ _ HM.out k1) hR1 (by have h_0 := HG.out; omega))
    clear k1 hR1 rr1
    go_wp2
    exact bodyPost_ret (results_agg rfl _ rfl Rg1.out Try.underlying41 rfl info_rec) rfl ⟨_, rfl, HM.out, rfl⟩
set_option maxHeartbeats 1000000 in
theorem Over_cv (sv : Value) (g : Sg) (w : World) : Cv 19 #[.agg (rowA 10 (sgF sv g))] w (.eq (.bool (overB g.ph))) := by
  unfold Cv
  go_enter Try.func19, Try.ntmps19
  go_upto_region 1 with fail
  have r_g1 := rowIs_box w 27 10 (sgF sv g)
  have hN : NewT w (w.alloc (.cells (rowA 10 (sgF sv g)) 27)) := NewT.alloc _ _
  change Code.wp _ _ _ _ (w.alloc (.cells (rowA 10 (sgF sv g)) 27))
  generalize (w.alloc (.cells (rowA 10 (sgF sv g)) 27)) = W0 at r_g1 hN ⊢
  obtain ⟨g1, h_g1⟩ : ∃ g_, w.heap.size = g_ := ⟨_, rfl⟩
  have HG : Hid (w.heap.size ≤ g1) := Lib.hid (by omega)
  rw [h_g1] at r_g1
  simp only [h_g1]
  have Rg1 := Lib.hid r_g1
  have HM := Lib.hid hN
  clear r_g1 hN h_g1
  have c1 : W0.cell? ⟨g1, 1, none⟩ = some (.int .i64 g.ph) := Rg1.out.cell (i := 1) (by omega)
  cases h2 : (g.ph == 2)
  · cases h3 : (g.ph == 3)
    · cases h4 : (g.ph == 4)
      · go_wp2
        go_ret
        exact ⟨_, rfl, HM.out, by show _ = Value.bool _; unfold overB; simp only [h2, h3, h4]; rfl⟩
      · go_wp2
        go_ret
        exact ⟨_, rfl, HM.out, by show _ = Value.bool _; unfold overB; simp only [h2, h3, h4]; rfl⟩
    · go_wp2
      go_ret
      exact ⟨_, rfl, HM.out, by show _ = Value.bool _; unfold overB; simp only [h2, h3]; rfl⟩
  · go_wp2
    go_ret
    exact ⟨_, rfl, HM.out, by show _ = Value.bool _; unfold overB; simp only [h2]; rfl⟩
def missG (g : Sg) : Int := if (g.ph == 2) = true then 0 else notI g.dn g.un
set_option maxHeartbeats 1000000 in
theorem Missing_cv (sv : Value) (g : Sg) (w : World) : Cv 16 #[.agg (rowA 10 (sgF sv g))] w (.eq (.int .i64 (missG g))) := by
  unfold Cv
  go_enter Try.func16, Try.ntmps16
  go_upto_region 1 with fail
  have r_g1 := rowIs_box w 27 10 (sgF sv g)
  have hN : NewT w (w.alloc (.cells (rowA 10 (sgF sv g)) 27)) := NewT.alloc _ _
  change Code.wp _ _ _ _ (w.alloc (.cells (rowA 10 (sgF sv g)) 27))
  generalize (w.alloc (.cells (rowA 10 (sgF sv g)) 27)) = W0 at r_g1 hN ⊢
  obtain ⟨g1, h_g1⟩ : ∃ g_, w.heap.size = g_ := ⟨_, rfl⟩
  have HG : Hid (w.heap.size ≤ g1) := Lib.hid (by omega)
  rw [h_g1] at r_g1
  simp only [h_g1]
  have Rg1 := Lib.hid r_g1
  have HM := Lib.hid hN
  clear r_g1 hN h_g1
  cases h2 : (g.ph == 2)
  · skip
    have c1 : W0.cell? ⟨g1, 1, none⟩ = some (.int .i64 g.ph) := Rg1.out.cell (i := 1) (by omega)
    go_upto_region 3 with fail
    clear c1
    refine wp_region_steps0 NewT [SV.eq (.pointer (some ⟨g1, 6, none⟩)), SV.eq (.int .i64 (g.dn)), SV.eq (.pointer (some ⟨g1, 7, none⟩)), SV.eq (.int .i64 (g.un)), SV.eq (.int .i64 (notI g.dn g.un)), SV.eq (.int .i64 (notI g.dn g.un))] [([(1, none)], none), ([(6, some 0)], none), ([(1, none)], none), ([(8, some 2)], none), ([(7, some 1), (9, some 3)], none), ([(10, some 4)], none)] 11 6 rfl rfl (by kernel_rfl) NewT.trans (NewT.refl _) (Nat.le_of_ble_eq_true rfl) ⟨?_, ?_, ?_, ?_, ?_, ?_, trivial⟩ ?_
    · exact fun a wx hT hF K hK => rely_wp rfl (opr_fldU6 rfl hF.1 (hK _ _ (NewT.refl _) rfl))
    · exact fun a wx hT hF K hK => rely_wp rfl (opr_ldI (hT.row Rg1.out) (by decide) rfl rfl hF.1 (hK _ _ (NewT.refl _) rfl))
    · exact fun a wx hT hF K hK => rely_wp rfl (opr_fldU7 rfl hF.1 (hK _ _ (NewT.refl _) rfl))
    · exact fun a wx hT hF K hK => rely_wp rfl (opr_ldI (hT.row Rg1.out) (by decide) rfl rfl hF.1 (hK _ _ (NewT.refl _) rfl))
    · exact fun a wx hT hF K hK => rely_wp rfl (opr_notI rfl hF.1 hF.2.1 (hK _ _ (NewT.refl _) rfl))
    · exact fun a wx hT hF K hK => rely_wp rfl (opr_move (.inr rfl) (hK _ _ (NewT.refl _) hF.1))
    · intro w1 k1
      iterate 6 (intro u h; obtain rfl := Eq.symm (h (by simp)); clear h)
      refine relyEnd_nil rfl ?_
      refine wpList_end rfl ?_
      simp only [Act.put, List.setIfInBounds_toArray, List.set_cons_zero, List.set_cons_succ]
      go_simp
      replace Rg1 := Lib.hid (k1.row Rg1.out)
      replace HM := Lib.hid (NewT.trans _ _ _ HM.out k1)
      clear k1
      go_wp2
      go_ret
      exact ⟨_, rfl, HM.out, by show _ = Value.int _ _; unfold missG; rw [h2]; rfl⟩
  · skip
    have c1 : W0.cell? ⟨g1, 1, none⟩ = some (.int .i64 g.ph) := Rg1.out.cell (i := 1) (by omega)
    go_wp2
    go_ret
    exact ⟨_, rfl, HM.out, by show _ = Value.int _ _; unfold missG; rw [h2]; rfl⟩
set_option maxHeartbeats 1000000 in
theorem turned_cv (sv : Value) (g : Sg) (w : World) (hs : sv.oneCell' = true) : Cv 36 #[.agg (rowA 10 (sgF sv g))] w (.eq (.agg (rowA 10 (sgF sv (turnG g))))) := by
  unfold Cv
  go_enter Try.func36, Try.ntmps36
  go_upto_region 1 with fail
  have r_g1 := (rowIs_box w 27 10 (sgF sv g)).alloc (.cells (rowA 10 (sgF (.slice none 0 0) zG)) 27)
  have r_g2 := rowIs_box (w.alloc (.cells (rowA 10 (sgF sv g)) 27)) 27 10 (sgF (.slice none 0 0) zG)
  rw [World.size_alloc] at r_g2
  have hN : NewT w ((w.alloc (.cells (rowA 10 (sgF sv g)) 27)).alloc (.cells (rowA 10 (sgF (.slice none 0 0) zG)) 27)) := (NewT.trans _ _ _ (NewT.alloc _ _) (NewT.alloc _ _))
  change Code.wp _ _ _ _ ((w.alloc (.cells (rowA 10 (sgF sv g)) 27)).alloc (.cells (rowA 10 (sgF (.slice none 0 0) zG)) 27))
  generalize ((w.alloc (.cells (rowA 10 (sgF sv g)) 27)).alloc (.cells (rowA 10 (sgF (.slice none 0 0) zG)) 27)) = W0 at r_g1 r_g2 hN ⊢
  obtain ⟨g1, h_g1⟩ : ∃ g_, w.heap.size = g_ := ⟨_, rfl⟩
  obtain ⟨g2, h_g2⟩ : ∃ g_, w.heap.size + 1 = g_ := ⟨_, rfl⟩
  have HG : Hid (w.heap.size ≤ g1 ∧ g1 < g2) := Lib.hid (by omega)
  rw [h_g1] at r_g1
  rw [h_g2] at r_g2
  try rw [h_g2]
  simp only [h_g1]
  have Rg1 := Lib.hid r_g1
  have Rg2 := Lib.hid r_g2
  have HM := Lib.hid hN
  clear r_g1 r_g2 hN h_g1 h_g2
  refine wp_region_lit ?_
  refine wpList_plain rfl (fun K hK => ?_)
  refine opr_fldU1 rfl rfl (hK _ _ ?_)
  clear hK K
  simp only [Act.put, List.setIfInBounds_toArray, List.set_cons_zero, List.set_cons_succ]
  refine wpList_plain rfl (fun K hK => ?_)
  refine opr_put1 (g := g1) (o0 := 1) (v := .int .i64 1) (F := sgF sv { g with ph := 1 }) rfl rfl rfl Rg1.out (by decide) info_i1 rfl (fun i hi => gs_ph sv g i hi 1) ?_
  intro Wa hRa ra
  refine hK _ _ ?_
  clear hK K
  simp only [Act.put, List.setIfInBounds_toArray, List.set_cons_zero, List.set_cons_succ]
  refine wpList_plain rfl (fun K hK => ?_)
  refine opr_fldU3 rfl rfl (hK _ _ ?_)
  clear hK K
  simp only [Act.put, List.setIfInBounds_toArray, List.set_cons_zero, List.set_cons_succ]
  refine wpList_plain rfl (fun K hK => ?_)
  refine opr_put1 (g := g1) (o0 := 3) (v := .int .i64 0) (F := sgF sv (turnG g)) rfl rfl rfl ra (by decide) info_i1 rfl (fun i hi => gs_tr sv { g with ph := 1 } i hi 0) ?_
  intro Wb hRb rb
  refine hK _ _ ?_
  clear hK K
  refine wpList_end rfl ?_
  simp only [Act.put, List.setIfInBounds_toArray, List.set_cons_zero, List.set_cons_succ]
  go_simp
  have hR := RT.trans _ _ _ hRa hRb
  replace Rg1 := Lib.hid rb
  replace Rg2 := Lib.hid (hR.row (by have h_0 := HG.out; omega) Rg2.out)
  replace HM := Lib.hid (HM.out.rt hR (by have h_0 := HG.out; omega))
  clear hRa hRb ra rb hR
  go_upto_region 2 with fail
  refine wp_region_steps0 NewT [SV.eq (.agg (rowA 10 (sgF sv ((turnG g)))))] [([(1, none)], none)] 6 1 rfl rfl (by kernel_rfl) NewT.trans (NewT.refl _) (Nat.le_of_ble_eq_true rfl) ⟨?_, trivial⟩ ?_
  · exact fun a wx hT hF K hK => rely_wp rfl (opr_ldU (hT.row Rg1.out) rfl hF.1 (hK _ _ (NewT.refl _) rfl))
  · intro w1 k1
    intro u h; obtain rfl := Eq.symm (h (by simp)); clear h
    refine relyEnd_nil rfl ?_
    simp only [Act.put, List.setIfInBounds_toArray, List.set_cons_zero, List.set_cons_succ]
    refine wpList_plain rfl (fun K hK => ?_)
    refine opr_putm (g := g2) (o0 := 0) (m := 10) (f := sgF sv (turnG g)) (F := sgF sv (turnG g)) rfl rfl rfl (k1.row Rg2.out) (by decide) info_saga (sgF_one _ _ hs) (put_allN _ _ _) ?_
    intro W1 hR1 rr1
    refine hK _ _ ?_
    clear hK K
    refine wpList_end rfl ?_
    simp only [Act.put, List.setIfInBounds_toArray, List.set_cons_zero, List.set_cons_succ]
    go_simp
    replace Rg2 := Lib.hid rr1
    replace Rg1 := Lib.hid (hR1.row (by have h_0 := HG.out; omega) (k1.row Rg1.out))
    replace HM := Lib.hid (NewT.rt (NewT.trans _ _ _ HM.out k1) hR1 (by have h_0 := HG.out; omega))
    clear k1 hR1 rr1
    go_wp2
    exact bodyPost_ret (results_agg rfl _ rfl Rg2.out Try.underlying27 rfl info_saga) rfl ⟨_, rfl, HM.out, rfl⟩
end Go.Proofs.Ytfmahpgfeoafiaa
/- Package saga: the saga behind a Receipt, behind a Lapse. -/
namespace Go.Proofs.Ytfmahpgfeoafiaa
open Go Go.RowKit
set_option maxRecDepth 8000
set_option linter.all false
set_option maxHeartbeats 4000000 in
theorem wentWell_cv (sv : Value) (l : List (Int × Int)) (g : Sg) (x : Rc) (v : Value) (w : World) (hs : RdP w sv l) (hx : RecV w v x) (hk : 0 ≤ x.step ∧ x.step < 6) (ha : 0 ≤ g.at_ ∧ g.at_ ≤ 6) : Cv 31 #[.agg (rowA 10 (sgF sv g)), v] w (.eq (.agg (rowA 10 (sgF sv (wellG g x.back x.step))))) := by
  obtain ⟨su, dv, rfl, hsx, hdx⟩ := hx
  have HX : Hid (RecV w (.agg (rowA 109 (recF x su dv))) x) := Lib.hid ⟨su, dv, rfl, hsx, hdx⟩
  have HSX := Lib.hid hsx
  have HD := Lib.hid hdx
  clear hsx hdx
  unfold Cv
  have HS := Lib.hid hs
  have HK6 := Lib.hid hk
  have HAT := Lib.hid ha
  clear hs hk ha
  go_enter Try.func31, Try.ntmps31
  go_upto_region 1 with fail
  have r_g1 := ((rowIs_box w 27 10 (sgF sv g)).alloc (.cells (rowA 109 (recF x su dv)) 41)).alloc (.cells (rowA 10 (sgF (.slice none 0 0) zG)) 27)
  have r_g2 := (rowIs_box (w.alloc (.cells (rowA 10 (sgF sv g)) 27)) 41 109 (recF x su dv)).alloc (.cells (rowA 10 (sgF (.slice none 0 0) zG)) 27)
  rw [World.size_alloc] at r_g2
  have r_g3 := rowIs_box ((w.alloc (.cells (rowA 10 (sgF sv g)) 27)).alloc (.cells (rowA 109 (recF x su dv)) 41)) 27 10 (sgF (.slice none 0 0) zG)
  rw [World.size_alloc, World.size_alloc] at r_g3
  have hN : NewT w (((w.alloc (.cells (rowA 10 (sgF sv g)) 27)).alloc (.cells (rowA 109 (recF x su dv)) 41)).alloc (.cells (rowA 10 (sgF (.slice none 0 0) zG)) 27)) := (NewT.trans _ _ _ ((NewT.trans _ _ _ (NewT.alloc _ _) (NewT.alloc _ _))) (NewT.alloc _ _))
  change Code.wp _ _ _ _ (((w.alloc (.cells (rowA 10 (sgF sv g)) 27)).alloc (.cells (rowA 109 (recF x su dv)) 41)).alloc (.cells (rowA 10 (sgF (.slice none 0 0) zG)) 27))
  generalize (((w.alloc (.cells (rowA 10 (sgF sv g)) 27)).alloc (.cells (rowA 109 (recF x su dv)) 41)).alloc (.cells (rowA 10 (sgF (.slice none 0 0) zG)) 27)) = W0 at r_g1 r_g2 r_g3 hN ⊢
  obtain ⟨g1, h_g1⟩ : ∃ g_, w.heap.size = g_ := ⟨_, rfl⟩
  obtain ⟨g2, h_g2⟩ : ∃ g_, w.heap.size + 1 = g_ := ⟨_, rfl⟩
  obtain ⟨g3, h_g3⟩ : ∃ g_, w.heap.size + 1 + 1 = g_ := ⟨_, rfl⟩
  have HG : Hid (w.heap.size ≤ g1 ∧ g1 < g2 ∧ g2 < g3) := Lib.hid (by omega)
  rw [h_g1] at r_g1
  rw [h_g2] at r_g2
  rw [h_g3] at r_g3
  try rw [h_g3]
  try rw [h_g2]
  simp only [h_g1]
  have Rg1 := Lib.hid r_g1
  have Rg2 := Lib.hid r_g2
  have Rg3 := Lib.hid r_g3
  have HM := Lib.hid hN
  clear r_g1 r_g2 r_g3 hN h_g1 h_g2 h_g3
  go_upto_region 1 with fail
  refine wp_region_steps0 NewT [SV.eq (.pointer (some ⟨g1, 3, none⟩))] [([(2, none)], none)] 35 1 rfl rfl (by kernel_rfl) NewT.trans (NewT.refl _) (Nat.le_of_ble_eq_true rfl) ⟨?_, trivial⟩ ?_
  · exact fun a wx hT hF K hK => rely_wp rfl (opr_fldU3 rfl hF.1 (hK _ _ (NewT.refl _) rfl))
  · intro w1 k1
    intro u h; obtain rfl := Eq.symm (h (by simp)); clear h
    refine relyEnd_nil rfl ?_
    simp only [Act.put, List.setIfInBounds_toArray, List.set_cons_zero, List.set_cons_succ]
    refine wpList_plain rfl (fun K hK => ?_)
    refine opr_put1 (g := g1) (o0 := 3) (v := .int .i64 0) (F := sgF sv ({ g with tr := 0 })) rfl rfl rfl (k1.row Rg1.out) (by decide) info_i1 rfl (fun i hi => gs_tr sv g i hi 0) ?_
    intro W1 hR1 rr1
    refine hK _ _ ?_
    clear hK K
    refine wpList_end rfl ?_
    simp only [Act.put, List.setIfInBounds_toArray, List.set_cons_zero, List.set_cons_succ]
    go_simp
    replace Rg1 := Lib.hid rr1
    replace Rg2 := Lib.hid (hR1.row (by have h_0 := HG.out; omega) (k1.row Rg2.out))
    replace Rg3 := Lib.hid (hR1.row (by have h_0 := HG.out; omega) (k1.row Rg3.out))
    replace HM := Lib.hid (NewT.rt (NewT.trans _ _ _ HM.out k1) hR1 (by have h_0 := HG.out; omega))
    clear k1 hR1 rr1
    go_upto_region 2 with fail
    refine wp_region_steps0 NewT [SV.eq (.pointer (some ⟨g2, 5, none⟩)), SV.eq (.bool (x.back))] [([(3, none)], none), ([(6, some 0)], none)] 35 2 rfl rfl (by kernel_rfl) NewT.trans (NewT.refl _) (Nat.le_of_ble_eq_true rfl) ⟨?_, ?_, trivial⟩ ?_
    · exact fun a wx hT hF K hK => rely_wp rfl (opr_fldR (by decide) rfl hF.1 (hK _ _ (NewT.refl _) rfl))
    · exact fun a wx hT hF K hK => rely_wp rfl (opr_ldQ (hT.row Rg2.out) (by decide) rfl rfl hF.1 (hK _ _ (NewT.refl _) rfl))
    · intro w2 k2
      iterate 2 (intro u h; obtain rfl := Eq.symm (h (by simp)); clear h)
      refine relyEnd_nil rfl ?_
      refine wpList_end rfl ?_
      simp only [Act.put, List.setIfInBounds_toArray, List.set_cons_zero, List.set_cons_succ]
      go_simp
      replace Rg1 := Lib.hid (k2.row Rg1.out)
      replace Rg2 := Lib.hid (k2.row Rg2.out)
      replace Rg3 := Lib.hid (k2.row Rg3.out)
      replace HM := Lib.hid (NewT.trans _ _ _ HM.out k2)
      clear k2
      cases hb : x.back
      · have HE : Hid (wellG g x.back x.step = { g with tr := 0, dn := orI g.dn (bitI x.step), so := notI g.so (bitI x.step), at_ := g.at_ + 1 }) := Lib.hid (by unfold wellG; rw [hb]; rfl)
        clear hb
        go_upto_region 5 with fail
        refine wp_region_rely (NewT) [SV.eq (.pointer (some ⟨g1, 6, none⟩)), SV.eq (.int .i64 (g.dn)), SV.eq (.pointer (some ⟨g2, 3, none⟩)), SV.eq (.int .i64 (x.step)), SV.eq (.int .i64 (bitI x.step)), SV.eq (.int .i64 (orI g.dn (bitI x.step))), SV.eq (.pointer (some ⟨g1, 6, none⟩))] [([(2, none)], none), ([(16, some 0)], none), ([(3, none)], none), ([(18, some 2)], none), ([(19, some 3)], none), ([(17, some 1), (20, some 4)], none), ([(2, none)], none)] 35 rfl (by kernel_rfl) rfl (by kernel_rfl) (by kernel_rfl) rfl NewT.trans (NewT.drew _) (Nat.le_of_ble_eq_true rfl) ⟨?_, ?_, ?_, ?_, ?_, ?_, ?_, trivial⟩ ?_
        · exact fun a wx hT hF K hK => rely_wp rfl (opr_fldU6 rfl hF.1 (hK _ _ (NewT.refl _) rfl))
        · exact fun a wx hT hF K hK => rely_wp rfl (opr_ldI (hT.row Rg1.out) (by decide) rfl rfl hF.1 (hK _ _ (NewT.refl _) rfl))
        · exact fun a wx hT hF K hK => rely_wp rfl (opr_fldR (by decide) rfl hF.1 (hK _ _ (NewT.refl _) rfl))
        · exact fun a wx hT hF K hK => rely_wp rfl (opr_ldI (hT.row Rg2.out) (by decide) rfl rfl hF.1 (hK _ _ (NewT.refl _) rfl))
        · exact fun a wx hT hF K hK => rely_wp rfl (opr_cv (gBit_cv x.step wx (HK6.out)) rfl Try.func35 (by kernel_rfl) (by kernel_rfl) (evs1 hF.1) hK)
        · exact fun a wx hT hF K hK => rely_wp rfl (opr_orI rfl hF.1 hF.2.1 (hK _ _ (NewT.refl _) rfl))
        · exact fun a wx hT hF K hK => rely_wp rfl (opr_fldU6 rfl hF.1 (hK _ _ (NewT.refl _) rfl))
        · intro w3 k3
          iterate 7 (intro u h; obtain rfl := Eq.symm (h (by simp)); clear h)
          refine relyEnd_nil rfl ?_
          simp only [Act.put, List.setIfInBounds_toArray, List.set_cons_zero, List.set_cons_succ]
          refine opr_put1 (g := g1) (o0 := 6) (v := .int .i64 (orI g.dn (bitI x.step))) (F := sgF sv ({ g with tr := 0, dn := orI g.dn (bitI x.step) })) rfl rfl rfl (k3.row Rg1.out) (by decide) info_i1 rfl (fun i hi => gs_dn sv { g with tr := 0 } i hi _) ?_
          intro W3 hR3 rr3
          go_simp
          replace Rg1 := Lib.hid rr3
          replace Rg2 := Lib.hid (hR3.row (by have h_0 := HG.out; omega) (k3.row Rg2.out))
          replace Rg3 := Lib.hid (hR3.row (by have h_0 := HG.out; omega) (k3.row Rg3.out))
          replace HM := Lib.hid (NewT.rt (NewT.trans _ _ _ HM.out k3) hR3 (by have h_0 := HG.out; omega))
          clear k3 hR3 rr3
          go_upto_region 6 with fail
          refine wp_region_rely (NewT) [SV.eq (.pointer (some ⟨g1, 8, none⟩)), SV.eq (.int .i64 (g.so)), SV.eq (.pointer (some ⟨g2, 3, none⟩)), SV.eq (.int .i64 (x.step)), SV.eq (.int .i64 (bitI x.step)), SV.eq (.int .i64 (notI g.so (bitI x.step))), SV.eq (.pointer (some ⟨g1, 8, none⟩))] [([(2, none)], none), ([(23, some 0)], none), ([(3, none)], none), ([(25, some 2)], none), ([(26, some 3)], none), ([(24, some 1), (27, some 4)], none), ([(2, none)], none)] 35 rfl (by kernel_rfl) rfl (by kernel_rfl) (by kernel_rfl) rfl NewT.trans (NewT.drew _) (Nat.le_of_ble_eq_true rfl) ⟨?_, ?_, ?_, ?_, ?_, ?_, ?_, trivial⟩ ?_
          · exact fun a wx hT hF K hK => rely_wp rfl (opr_fldU8 rfl hF.1 (hK _ _ (NewT.refl _) rfl))
          · exact fun a wx hT hF K hK => rely_wp rfl (opr_ldI (hT.row Rg1.out) (by decide) rfl rfl hF.1 (hK _ _ (NewT.refl _) rfl))
          · exact fun a wx hT hF K hK => rely_wp rfl (opr_fldR (by decide) rfl hF.1 (hK _ _ (NewT.refl _) rfl))
          · exact fun a wx hT hF K hK => rely_wp rfl (opr_ldI (hT.row Rg2.out) (by decide) rfl rfl hF.1 (hK _ _ (NewT.refl _) rfl))
          · exact fun a wx hT hF K hK => rely_wp rfl (opr_cv (gBit_cv x.step wx (HK6.out)) rfl Try.func35 (by kernel_rfl) (by kernel_rfl) (evs1 hF.1) hK)
          · exact fun a wx hT hF K hK => rely_wp rfl (opr_notI rfl hF.1 hF.2.1 (hK _ _ (NewT.refl _) rfl))
          · exact fun a wx hT hF K hK => rely_wp rfl (opr_fldU8 rfl hF.1 (hK _ _ (NewT.refl _) rfl))
          · intro w4 k4
            iterate 7 (intro u h; obtain rfl := Eq.symm (h (by simp)); clear h)
            refine relyEnd_nil rfl ?_
            simp only [Act.put, List.setIfInBounds_toArray, List.set_cons_zero, List.set_cons_succ]
            refine opr_put1 (g := g1) (o0 := 8) (v := .int .i64 (notI g.so (bitI x.step))) (F := sgF sv ({ g with tr := 0, dn := orI g.dn (bitI x.step), so := notI g.so (bitI x.step) })) rfl rfl rfl (k4.row Rg1.out) (by decide) info_i1 rfl (fun i hi => gs_so sv { g with tr := 0, dn := orI g.dn (bitI x.step) } i hi _) ?_
            intro W4 hR4 rr4
            go_simp
            replace Rg1 := Lib.hid rr4
            replace Rg2 := Lib.hid (hR4.row (by have h_0 := HG.out; omega) (k4.row Rg2.out))
            replace Rg3 := Lib.hid (hR4.row (by have h_0 := HG.out; omega) (k4.row Rg3.out))
            replace HM := Lib.hid (NewT.rt (NewT.trans _ _ _ HM.out k4) hR4 (by have h_0 := HG.out; omega))
            clear k4 hR4 rr4
            go_upto_region 7 with fail
            refine wp_region_steps0 NewT [SV.eq (.pointer (some ⟨g1, 2, none⟩)), SV.eq (.int .i64 (g.at_)), SV.eq (.int .i64 (g.at_ + 1)), SV.eq (.pointer (some ⟨g1, 2, none⟩))] [([(2, none)], none), ([(30, some 0)], none), ([(31, some 1)], none), ([(2, none)], none)] 35 4 rfl rfl (by kernel_rfl) NewT.trans (NewT.refl _) (Nat.le_of_ble_eq_true rfl) ⟨?_, ?_, ?_, ?_, trivial⟩ ?_
            · exact fun a wx hT hF K hK => rely_wp rfl (opr_fldU2 rfl hF.1 (hK _ _ (NewT.refl _) rfl))
            · exact fun a wx hT hF K hK => rely_wp rfl (opr_ldI (hT.row Rg1.out) (by decide) rfl rfl hF.1 (hK _ _ (NewT.refl _) rfl))
            · exact fun a wx hT hF K hK => rely_wp rfl (opr_add (r := g.at_ + 1) Try.underlying3 (by have := HAT.out; show wrap64 (g.at_ + 1) = _; unfold wrap64; omega) rfl hF.1 rfl (hK _ _ (NewT.refl _) rfl))
            · exact fun a wx hT hF K hK => rely_wp rfl (opr_fldU2 rfl hF.1 (hK _ _ (NewT.refl _) rfl))
            · intro w5 k5
              iterate 4 (intro u h; obtain rfl := Eq.symm (h (by simp)); clear h)
              refine relyEnd_nil rfl ?_
              simp only [Act.put, List.setIfInBounds_toArray, List.set_cons_zero, List.set_cons_succ]
              refine wpList_plain rfl (fun K hK => ?_)
              refine opr_put1 (g := g1) (o0 := 2) (v := .int .i64 (g.at_ + 1)) (F := sgF sv ({ g with tr := 0, dn := orI g.dn (bitI x.step), so := notI g.so (bitI x.step), at_ := g.at_ + 1 })) rfl rfl rfl (k5.row Rg1.out) (by decide) info_i1 rfl (fun i hi => gs_at sv { g with tr := 0, dn := orI g.dn (bitI x.step), so := notI g.so (bitI x.step) } i hi _) ?_
              intro W5 hR5 rr5
              refine hK _ _ ?_
              clear hK K
              refine wpList_end rfl ?_
              simp only [Act.put, List.setIfInBounds_toArray, List.set_cons_zero, List.set_cons_succ]
              go_simp
              replace Rg1 := Lib.hid rr5
              replace Rg2 := Lib.hid (hR5.row (by have h_0 := HG.out; omega) (k5.row Rg2.out))
              replace Rg3 := Lib.hid (hR5.row (by have h_0 := HG.out; omega) (k5.row Rg3.out))
              replace HM := Lib.hid (NewT.rt (NewT.trans _ _ _ HM.out k5) hR5 (by have h_0 := HG.out; omega))
              clear k5 hR5 rr5
              go_upto_region 8 with fail
              refine wp_region_steps0 NewT [SV.eq (.agg (rowA 10 (sgF sv ({ g with tr := 0, dn := orI g.dn (bitI x.step), so := notI g.so (bitI x.step), at_ := g.at_ + 1 }))))] [([(2, none)], none)] 35 1 rfl rfl (by kernel_rfl) NewT.trans (NewT.refl _) (Nat.le_of_ble_eq_true rfl) ⟨?_, trivial⟩ ?_
              · exact fun a wx hT hF K hK => rely_wp rfl (opr_ldU (hT.row Rg1.out) rfl hF.1 (hK _ _ (NewT.refl _) rfl))
              · intro w6 k6
                intro u h; obtain rfl := Eq.symm (h (by simp)); clear h
                refine relyEnd_nil rfl ?_
                simp only [Act.put, List.setIfInBounds_toArray, List.set_cons_zero, List.set_cons_succ]
                refine wpList_plain rfl (fun K hK => ?_)
                refine opr_putm (g := g3) (o0 := 0) (m := 10) (f := sgF sv ({ g with tr := 0, dn := orI g.dn (bitI x.step), so := notI g.so (bitI x.step), at_ := g.at_ + 1 })) (F := sgF sv ({ g with tr := 0, dn := orI g.dn (bitI x.step), so := notI g.so (bitI x.step), at_ := g.at_ + 1 })) rfl rfl rfl (k6.row Rg3.out) (by decide) info_saga (sgF_one _ _ (oneP HS.out)) (put_allN _ _ _) ?_
                intro W6 hR6 rr6
                refine hK _ _ ?_
                clear hK K
                refine wpList_end rfl ?_
                simp only [Act.put, List.setIfInBounds_toArray, List.set_cons_zero, List.set_cons_succ]
                go_simp
                replace Rg3 := Lib.hid rr6
                replace Rg1 := Lib.hid (hR6.row (by have h_0 := HG.out; omega) (k6.row Rg1.out))
                replace Rg2 := Lib.hid (hR6.row (by have h_0 := HG.out; omega) (k6.row Rg2.out))
                replace HM := Lib.hid (NewT.rt (NewT.trans _ _ _ HM.out k6) hR6 (by have h_0 := HG.out; omega))
                clear k6 hR6 rr6
                go_wp2
                exact bodyPost_ret (results_agg rfl _ rfl Rg3.out Try.underlying27 rfl info_saga) rfl ⟨_, rfl, HM.out, by show _ = Value.agg _; rw [HE.out]⟩
      · have HE : Hid (wellG g x.back x.step = { g with tr := 0, un := orI g.un (bitI x.step) }) := Lib.hid (by unfold wellG; rw [hb]; rfl)
        clear hb
        go_upto_region 3 with fail
        refine wp_region_rely (NewT) [SV.eq (.pointer (some ⟨g1, 7, none⟩)), SV.eq (.int .i64 (g.un)), SV.eq (.pointer (some ⟨g2, 3, none⟩)), SV.eq (.int .i64 (x.step)), SV.eq (.int .i64 (bitI x.step)), SV.eq (.int .i64 (orI g.un (bitI x.step))), SV.eq (.pointer (some ⟨g1, 7, none⟩))] [([(2, none)], none), ([(8, some 0)], none), ([(3, none)], none), ([(10, some 2)], none), ([(11, some 3)], none), ([(9, some 1), (12, some 4)], none), ([(2, none)], none)] 35 rfl (by kernel_rfl) rfl (by kernel_rfl) (by kernel_rfl) rfl NewT.trans (NewT.drew _) (Nat.le_of_ble_eq_true rfl) ⟨?_, ?_, ?_, ?_, ?_, ?_, ?_, trivial⟩ ?_
        · exact fun a wx hT hF K hK => rely_wp rfl (opr_fldU7 rfl hF.1 (hK _ _ (NewT.refl _) rfl))
        · exact fun a wx hT hF K hK => rely_wp rfl (opr_ldI (hT.row Rg1.out) (by decide) rfl rfl hF.1 (hK _ _ (NewT.refl _) rfl))
        · exact fun a wx hT hF K hK => rely_wp rfl (opr_fldR (by decide) rfl hF.1 (hK _ _ (NewT.refl _) rfl))
        · exact fun a wx hT hF K hK => rely_wp rfl (opr_ldI (hT.row Rg2.out) (by decide) rfl rfl hF.1 (hK _ _ (NewT.refl _) rfl))
        · exact fun a wx hT hF K hK => rely_wp rfl (opr_cv (gBit_cv x.step wx (HK6.out)) rfl Try.func35 (by kernel_rfl) (by kernel_rfl) (evs1 hF.1) hK)
        · exact fun a wx hT hF K hK => rely_wp rfl (opr_orI rfl hF.1 hF.2.1 (hK _ _ (NewT.refl _) rfl))
        · exact fun a wx hT hF K hK => rely_wp rfl (opr_fldU7 rfl hF.1 (hK _ _ (NewT.refl _) rfl))
        · intro w7 k7
          iterate 7 (intro u h; obtain rfl := Eq.symm (h (by simp)); clear h)
          refine relyEnd_nil rfl ?_
          simp only [Act.put, List.setIfInBounds_toArray, List.set_cons_zero, List.set_cons_succ]
          refine opr_put1 (g := g1) (o0 := 7) (v := .int .i64 (orI g.un (bitI x.step))) (F := sgF sv ({ g with tr := 0, un := orI g.un (bitI x.step) })) rfl rfl rfl (k7.row Rg1.out) (by decide) info_i1 rfl (fun i hi => gs_un sv { g with tr := 0 } i hi _) ?_
          intro W7 hR7 rr7
          go_simp
          replace Rg1 := Lib.hid rr7
          replace Rg2 := Lib.hid (hR7.row (by have h_0 := HG.out; omega) (k7.row Rg2.out))
          replace Rg3 := Lib.hid (hR7.row (by have h_0 := HG.out; omega) (k7.row Rg3.out))
          replace HM := Lib.hid (NewT.rt (NewT.trans _ _ _ HM.out k7) hR7 (by have h_0 := HG.out; omega))
          clear k7 hR7 rr7
          go_upto_region 4 with fail
          refine wp_region_steps0 NewT [SV.eq (.agg (rowA 10 (sgF sv ({ g with tr := 0, un := orI g.un (bitI x.step) }))))] [([(2, none)], none)] 35 1 rfl rfl (by kernel_rfl) NewT.trans (NewT.refl _) (Nat.le_of_ble_eq_true rfl) ⟨?_, trivial⟩ ?_
          · exact fun a wx hT hF K hK => rely_wp rfl (opr_ldU (hT.row Rg1.out) rfl hF.1 (hK _ _ (NewT.refl _) rfl))
          · intro w8 k8
            intro u h; obtain rfl := Eq.symm (h (by simp)); clear h
            refine relyEnd_nil rfl ?_
            simp only [Act.put, List.setIfInBounds_toArray, List.set_cons_zero, List.set_cons_succ]
            refine wpList_plain rfl (fun K hK => ?_)
            refine opr_putm (g := g3) (o0 := 0) (m := 10) (f := sgF sv ({ g with tr := 0, un := orI g.un (bitI x.step) })) (F := sgF sv ({ g with tr := 0, un := orI g.un (bitI x.step) })) rfl rfl rfl (k8.row Rg3.out) (by decide) info_saga (sgF_one _ _ (oneP HS.out)) (put_allN _ _ _) ?_
            intro W8 hR8 rr8
            refine hK _ _ ?_
            clear hK K
            refine wpList_end rfl ?_
            simp only [Act.put, List.setIfInBounds_toArray, List.set_cons_zero, List.set_cons_succ]
            go_simp
            replace Rg3 := Lib.hid rr8
            replace Rg1 := Lib.hid (hR8.row (by have h_0 := HG.out; omega) (k8.row Rg1.out))
            replace Rg2 := Lib.hid (hR8.row (by have h_0 := HG.out; omega) (k8.row Rg2.out))
            replace HM := Lib.hid (NewT.rt (NewT.trans _ _ _ HM.out k8) hR8 (by have h_0 := HG.out; omega))
            clear k8 hR8 rr8
            go_wp2
            exact bodyPost_ret (results_agg rfl _ rfl Rg3.out Try.underlying27 rfl info_saga) rfl ⟨_, rfl, HM.out, by show _ = Value.agg _; rw [HE.out]⟩
set_option maxHeartbeats 4000000 in
theorem refused_n (sv : Value) (l : List (Int × Int)) (g : Sg) (k : Nat) (w : World) (hs : RdP w sv l) (hl : l.length ≤ 6) (hk : k < l.length) : Cv 32 #[.agg (rowA 10 (sgF sv g)), .int .i64 (k : Int)] w (.eq (.agg (rowA 10 (sgF sv (refG l g k))))) := by
  unfold Cv
  have HS := Lib.hid hs
  have HST := Lib.hid hk
  have HK6 : Hid (0 ≤ (k : Int) ∧ (k : Int) < 6) := Lib.hid (by omega)
  obtain ⟨d, HDD⟩ := hid_ex (l.getD k (0, 0))
  clear hs hl hk
  go_enter Try.func32, Try.ntmps32
  go_upto_region 1 with fail
  have r_g1 := (rowIs_box w 27 10 (sgF sv g)).alloc (.cells (rowA 10 (sgF (.slice none 0 0) zG)) 27)
  have r_g3 := rowIs_box (w.alloc (.cells (rowA 10 (sgF sv g)) 27)) 27 10 (sgF (.slice none 0 0) zG)
  rw [World.size_alloc] at r_g3
  have hN : NewT w ((w.alloc (.cells (rowA 10 (sgF sv g)) 27)).alloc (.cells (rowA 10 (sgF (.slice none 0 0) zG)) 27)) := (NewT.trans _ _ _ (NewT.alloc _ _) (NewT.alloc _ _))
  change Code.wp _ _ _ _ ((w.alloc (.cells (rowA 10 (sgF sv g)) 27)).alloc (.cells (rowA 10 (sgF (.slice none 0 0) zG)) 27))
  generalize ((w.alloc (.cells (rowA 10 (sgF sv g)) 27)).alloc (.cells (rowA 10 (sgF (.slice none 0 0) zG)) 27)) = W0 at r_g1 r_g3 hN ⊢
  obtain ⟨g1, h_g1⟩ : ∃ g_, w.heap.size = g_ := ⟨_, rfl⟩
  obtain ⟨g3, h_g3⟩ : ∃ g_, w.heap.size + 1 = g_ := ⟨_, rfl⟩
  have HG : Hid (w.heap.size ≤ g1 ∧ g1 < g3) := Lib.hid (by omega)
  rw [h_g1] at r_g1
  rw [h_g3] at r_g3
  try rw [h_g3]
  simp only [h_g1]
  have Rg1 := Lib.hid r_g1
  have Rg3 := Lib.hid r_g3
  have HM := Lib.hid hN
  clear r_g1 r_g3 hN h_g1 h_g3
  go_upto_region 1 with fail
  refine wp_region_steps0 NewT [SV.eq (.pointer (some ⟨g1, 0, none⟩)), SV.eq (sv), SV.eq (.int .i64 ((k : Int))), svStp (d), svIp (d).2, SV.eq (.int .i64 ((d).2)), SV.eq (.bool (((d).2) == 3))] [([(2, none)], none), ([(5, some 0)], none), ([(1, none)], none), ([(6, some 1), (7, some 2)], none), ([(8, some 3)], none), ([(9, some 4)], none), ([(10, some 5)], none)] 21 7 rfl rfl (by kernel_rfl) NewT.trans (NewT.refl _) (Nat.le_of_ble_eq_true rfl) ⟨?_, ?_, ?_, ?_, ?_, ?_, ?_, trivial⟩ ?_
  · exact fun a wx hT hF K hK => rely_wp rfl (opr_fldU0 rfl hF.1 (hK _ _ (NewT.refl _) rfl))
  · exact fun a wx hT hF K hK => rely_wp rfl (opr_ldS (hT.row Rg1.out) (by decide) rfl rfl hF.1 (hK _ _ (NewT.refl _) rfl))
  · exact fun a wx hT hF K hK => rely_wp rfl (opr_move (.inl rfl) (hK _ _ (NewT.refl _) hF.1))
  · intro a wx hT hF K hK
    obtain ⟨f6, f7, _⟩ := hF
    have f6 : a.tmps.getD 6 undef = sv := f6
    have f7 : a.tmps.getD 7 undef = .int .i64 ((k : Int)) := f7
    refine rely_wp rfl ?_
    exact opr_idxSt (k := k) (d := d) (⟨HST.out, HDD.out⟩) (rfl) rfl (by rw [eval_tmp, f6]; exact ((NewT.trans _ _ _ HM.out hT).pairs HS.out)) f7 (fun v hv => hK v _ (NewT.refl _) hv)
  · exact fun a wx hT hF K hK => rely_wp rfl (opr_fldSt1 rfl hF.1 (fun u hu => hK u _ (NewT.refl _) hu))
  · exact fun a wx hT hF K hK => rely_wp rfl (opr_ldIp rfl hF.1 (hK _ _ (NewT.refl _) rfl))
  · exact fun a wx hT hF K hK => rely_wp rfl (opr_cmp (b := ((d).2) == 3) (.inl ⟨rfl, rfl⟩) Try.underlying3 rfl hF.1 rfl (hK _ _ (NewT.refl _) rfl))
  · intro w1 k1
    iterate 3 (intro u h; obtain rfl := Eq.symm (h (by simp)); clear h)
    iterate 2 (intro _ _)
    iterate 2 (intro u h; obtain rfl := Eq.symm (h (by simp)); clear h)
    refine relyEnd_nil rfl ?_
    refine wpList_end rfl ?_
    simp only [Act.put, List.setIfInBounds_toArray, List.set_cons_zero, List.set_cons_succ]
    go_simp
    replace Rg1 := Lib.hid (k1.row Rg1.out)
    replace Rg3 := Lib.hid (k1.row Rg3.out)
    replace HM := Lib.hid (NewT.trans _ _ _ HM.out k1)
    clear k1
    cases hb : (d.2 == 3)
    · have HE : Hid (refG l g (k : Int) = turnG { g with so := notI g.so (bitI k) }) := Lib.hid (by unfold refG kdL; rw [Int.toNat_natCast, HDD.out, if_neg (by simpa using hb)])
      clear hb
      go_upto_region 3 with fail
      refine wp_region_rely (NewT) [SV.eq (.pointer (some ⟨g1, 8, none⟩)), SV.eq (.int .i64 (g.so)), SV.eq (.int .i64 ((k : Int))), SV.eq (.int .i64 (bitI ((k : Int)))), SV.eq (.int .i64 (notI g.so (bitI ((k : Int))))), SV.eq (.pointer (some ⟨g1, 8, none⟩))] [([(2, none)], none), ([(13, some 0)], none), ([(1, none)], none), ([(15, some 2)], none), ([(14, some 1), (16, some 3)], none), ([(2, none)], none)] 21 rfl (by kernel_rfl) rfl (by kernel_rfl) (by kernel_rfl) rfl NewT.trans (NewT.drew _) (Nat.le_of_ble_eq_true rfl) ⟨?_, ?_, ?_, ?_, ?_, ?_, trivial⟩ ?_
      · exact fun a wx hT hF K hK => rely_wp rfl (opr_fldU8 rfl hF.1 (hK _ _ (NewT.refl _) rfl))
      · exact fun a wx hT hF K hK => rely_wp rfl (opr_ldI (hT.row Rg1.out) (by decide) rfl rfl hF.1 (hK _ _ (NewT.refl _) rfl))
      · exact fun a wx hT hF K hK => rely_wp rfl (opr_move (.inl rfl) (hK _ _ (NewT.refl _) hF.1))
      · exact fun a wx hT hF K hK => rely_wp rfl (opr_cv (gBit_cv ((k : Int)) wx (HK6.out)) rfl Try.func35 (by kernel_rfl) (by kernel_rfl) (evs1 hF.1) hK)
      · exact fun a wx hT hF K hK => rely_wp rfl (opr_notI rfl hF.1 hF.2.1 (hK _ _ (NewT.refl _) rfl))
      · exact fun a wx hT hF K hK => rely_wp rfl (opr_fldU8 rfl hF.1 (hK _ _ (NewT.refl _) rfl))
      · intro w2 k2
        iterate 6 (intro u h; obtain rfl := Eq.symm (h (by simp)); clear h)
        refine relyEnd_nil rfl ?_
        simp only [Act.put, List.setIfInBounds_toArray, List.set_cons_zero, List.set_cons_succ]
        refine opr_put1 (g := g1) (o0 := 8) (v := .int .i64 (notI g.so (bitI k))) (F := sgF sv ({ g with so := notI g.so (bitI k) })) rfl rfl rfl (k2.row Rg1.out) (by decide) info_i1 rfl (fun i hi => gs_so sv g i hi _) ?_
        intro W2 hR2 rr2
        go_simp
        replace Rg1 := Lib.hid rr2
        replace Rg3 := Lib.hid (hR2.row (by have h_0 := HG.out; omega) (k2.row Rg3.out))
        replace HM := Lib.hid (NewT.rt (NewT.trans _ _ _ HM.out k2) hR2 (by have h_0 := HG.out; omega))
        clear k2 hR2 rr2
        go_upto_region 4 with fail
        refine wp_region_steps0 NewT [SV.eq (.agg (rowA 10 (sgF sv ({ g with so := notI g.so (bitI k) })))), SV.eq ((.agg (rowA 10 (sgF sv (turnG ({ g with so := notI g.so (bitI k) }))))))] [([(2, none)], none), ([(19, some 0)], none)] 21 2 rfl rfl (by kernel_rfl) NewT.trans (NewT.refl _) (Nat.le_of_ble_eq_true rfl) ⟨?_, ?_, trivial⟩ ?_
        · exact fun a wx hT hF K hK => rely_wp rfl (opr_ldU (hT.row Rg1.out) rfl hF.1 (hK _ _ (NewT.refl _) rfl))
        · exact fun a wx hT hF K hK => rely_wp rfl (opr_cv (turned_cv sv ({ g with so := notI g.so (bitI k) }) wx (oneP HS.out)) rfl Try.func36 (by kernel_rfl) (by kernel_rfl) (evs1 hF.1) hK)
        · intro w3 k3
          iterate 2 (intro u h; obtain rfl := Eq.symm (h (by simp)); clear h)
          refine relyEnd_nil rfl ?_
          simp only [Act.put, List.setIfInBounds_toArray, List.set_cons_zero, List.set_cons_succ]
          refine wpList_plain rfl (fun K hK => ?_)
          refine opr_putm (g := g3) (o0 := 0) (m := 10) (f := sgF sv (turnG { g with so := notI g.so (bitI k) })) (F := sgF sv (turnG { g with so := notI g.so (bitI k) })) rfl rfl rfl (k3.row Rg3.out) (by decide) info_saga (sgF_one _ _ (oneP HS.out)) (put_allN _ _ _) ?_
          intro W3 hR3 rr3
          refine hK _ _ ?_
          clear hK K
          refine wpList_end rfl ?_
          simp only [Act.put, List.setIfInBounds_toArray, List.set_cons_zero, List.set_cons_succ]
          go_simp
          replace Rg3 := Lib.hid rr3
          replace Rg1 := Lib.hid (hR3.row (by have h_0 := HG.out; omega) (k3.row Rg1.out))
          replace HM := Lib.hid (NewT.rt (NewT.trans _ _ _ HM.out k3) hR3 (by have h_0 := HG.out; omega))
          clear k3 hR3 rr3
          go_wp2
          exact bodyPost_ret (results_agg rfl _ rfl Rg3.out Try.underlying27 rfl info_saga) rfl ⟨_, rfl, HM.out, by show _ = Value.agg _; rw [HE.out]⟩
    · have HE : Hid (refG l g (k : Int) = g) := Lib.hid (by unfold refG kdL; rw [Int.toNat_natCast, HDD.out, if_pos (by simpa using hb)])
      clear hb
      go_upto_region 2 with fail
      refine wp_region_steps0 NewT [SV.eq (.agg (rowA 10 (sgF sv g)))] [([(2, none)], none)] 21 1 rfl rfl (by kernel_rfl) NewT.trans (NewT.refl _) (Nat.le_of_ble_eq_true rfl) ⟨?_, trivial⟩ ?_
      · exact fun a wx hT hF K hK => rely_wp rfl (opr_ldU (hT.row Rg1.out) rfl hF.1 (hK _ _ (NewT.refl _) rfl))
      · intro w4 k4
        intro u h; obtain rfl := Eq.symm (h (by simp)); clear h
        refine relyEnd_nil rfl ?_
        simp only [Act.put, List.setIfInBounds_toArray, List.set_cons_zero, List.set_cons_succ]
        refine wpList_plain rfl (fun K hK => ?_)
        refine opr_putm (g := g3) (o0 := 0) (m := 10) (f := sgF sv (g)) (F := sgF sv (g)) rfl rfl rfl (k4.row Rg3.out) (by decide) info_saga (sgF_one _ _ (oneP HS.out)) (put_allN _ _ _) ?_
        intro W4 hR4 rr4
        refine hK _ _ ?_
        clear hK K
        refine wpList_end rfl ?_
        simp only [Act.put, List.setIfInBounds_toArray, List.set_cons_zero, List.set_cons_succ]
        go_simp
        replace Rg3 := Lib.hid rr4
        replace Rg1 := Lib.hid (hR4.row (by have h_0 := HG.out; omega) (k4.row Rg1.out))
        replace HM := Lib.hid (NewT.rt (NewT.trans _ _ _ HM.out k4) hR4 (by have h_0 := HG.out; omega))
        clear k4 hR4 rr4
        go_wp2
        exact bodyPost_ret (results_agg rfl _ rfl Rg3.out Try.underlying27 rfl info_saga) rfl ⟨_, rfl, HM.out, by show _ = Value.agg _; rw [HE.out]⟩
theorem refused_cv (sv : Value) (l : List (Int × Int)) (g : Sg) (k : Int) (w : World) (hs : RdP w sv l) (hl : l.length ≤ 6) (hk : 0 ≤ k ∧ k < l.length) : Cv 32 #[.agg (rowA 10 (sgF sv g)), .int .i64 k] w (.eq (.agg (rowA 10 (sgF sv (refG l g k))))) := by
  obtain ⟨n, rfl⟩ : ∃ n : Nat, k = n := ⟨k.toNat, by omega⟩
  exact refused_n sv l g n w hs hl (by omega)
set_option maxHeartbeats 4000000 in
theorem lapsed_cv (sv : Value) (l : List (Int × Int)) (g : Sg) (x : Rc) (v : Value) (lim : Int) (w : World) (hs : RdP w sv l) (hx : RecV w v x) (hl : l.length ≤ 6) (hk : 0 ≤ x.step ∧ x.step < l.length) : Cv 33 #[.agg (rowA 10 (sgF sv g)), v, .int .i64 lim] w (.eq (.agg (rowA 10 (sgF sv (lapG l lim g x.back x.step))))) := by
  obtain ⟨su, dv, rfl, hsx, hdx⟩ := hx
  have HX : Hid (RecV w (.agg (rowA 109 (recF x su dv))) x) := Lib.hid ⟨su, dv, rfl, hsx, hdx⟩
  have HSX := Lib.hid hsx
  have HD := Lib.hid hdx
  clear hsx hdx
  unfold Cv
  have HS := Lib.hid hs
  have HK6 : Hid (0 ≤ x.step ∧ x.step < 6) := Lib.hid (by omega)
  obtain ⟨k, hkx⟩ : ∃ k : Nat, (k : Int) = x.step := ⟨x.step.toNat, by omega⟩
  have HKX := Lib.hid hkx
  obtain ⟨d, HDD⟩ := hid_ex (l.getD k (0, 0))
  have HKL : Hid (k < l.length) := Lib.hid (by omega)
  clear hs hk hl hkx
  go_enter Try.func33, Try.ntmps33
  go_upto_region 1 with fail
  have r_g1 := ((rowIs_box w 27 10 (sgF sv g)).alloc (.cells (rowA 109 (recF x su dv)) 41)).alloc (.cells (rowA 10 (sgF (.slice none 0 0) zG)) 27)
  have r_g2 := (rowIs_box (w.alloc (.cells (rowA 10 (sgF sv g)) 27)) 41 109 (recF x su dv)).alloc (.cells (rowA 10 (sgF (.slice none 0 0) zG)) 27)
  rw [World.size_alloc] at r_g2
  have r_g3 := rowIs_box ((w.alloc (.cells (rowA 10 (sgF sv g)) 27)).alloc (.cells (rowA 109 (recF x su dv)) 41)) 27 10 (sgF (.slice none 0 0) zG)
  rw [World.size_alloc, World.size_alloc] at r_g3
  have hN : NewT w (((w.alloc (.cells (rowA 10 (sgF sv g)) 27)).alloc (.cells (rowA 109 (recF x su dv)) 41)).alloc (.cells (rowA 10 (sgF (.slice none 0 0) zG)) 27)) := (NewT.trans _ _ _ ((NewT.trans _ _ _ (NewT.alloc _ _) (NewT.alloc _ _))) (NewT.alloc _ _))
  change Code.wp _ _ _ _ (((w.alloc (.cells (rowA 10 (sgF sv g)) 27)).alloc (.cells (rowA 109 (recF x su dv)) 41)).alloc (.cells (rowA 10 (sgF (.slice none 0 0) zG)) 27))
  generalize (((w.alloc (.cells (rowA 10 (sgF sv g)) 27)).alloc (.cells (rowA 109 (recF x su dv)) 41)).alloc (.cells (rowA 10 (sgF (.slice none 0 0) zG)) 27)) = W0 at r_g1 r_g2 r_g3 hN ⊢
  obtain ⟨g1, h_g1⟩ : ∃ g_, w.heap.size = g_ := ⟨_, rfl⟩
  obtain ⟨g2, h_g2⟩ : ∃ g_, w.heap.size + 1 = g_ := ⟨_, rfl⟩
  obtain ⟨g3, h_g3⟩ : ∃ g_, w.heap.size + 1 + 1 = g_ := ⟨_, rfl⟩
  have HG : Hid (w.heap.size ≤ g1 ∧ g1 < g2 ∧ g2 < g3) := Lib.hid (by omega)
  rw [h_g1] at r_g1
  rw [h_g2] at r_g2
  rw [h_g3] at r_g3
  try rw [h_g3]
  try rw [h_g2]
  simp only [h_g1]
  have Rg1 := Lib.hid r_g1
  have Rg2 := Lib.hid r_g2
  have Rg3 := Lib.hid r_g3
  have HM := Lib.hid hN
  clear r_g1 r_g2 r_g3 hN h_g1 h_g2 h_g3
  go_upto_region 1 with fail
  refine wp_region_steps0 NewT [SV.eq (.pointer (some ⟨g2, 5, none⟩)), SV.eq (.bool (x.back))] [([(4, none)], none), ([(7, some 0)], none)] 34 2 rfl rfl (by kernel_rfl) NewT.trans (NewT.refl _) (Nat.le_of_ble_eq_true rfl) ⟨?_, ?_, trivial⟩ ?_
  · exact fun a wx hT hF K hK => rely_wp rfl (opr_fldR (by decide) rfl hF.1 (hK _ _ (NewT.refl _) rfl))
  · exact fun a wx hT hF K hK => rely_wp rfl (opr_ldQ (hT.row Rg2.out) (by decide) rfl rfl hF.1 (hK _ _ (NewT.refl _) rfl))
  · intro w1 k1
    iterate 2 (intro u h; obtain rfl := Eq.symm (h (by simp)); clear h)
    refine relyEnd_nil rfl ?_
    refine wpList_end rfl ?_
    simp only [Act.put, List.setIfInBounds_toArray, List.set_cons_zero, List.set_cons_succ]
    go_simp
    replace Rg1 := Lib.hid (k1.row Rg1.out)
    replace Rg2 := Lib.hid (k1.row Rg2.out)
    replace Rg3 := Lib.hid (k1.row Rg3.out)
    replace HM := Lib.hid (NewT.trans _ _ _ HM.out k1)
    clear k1
    cases hb : x.back
    · skip
      go_upto_region 3 with fail
      refine wp_region_rely (NewT) [SV.eq (.pointer (some ⟨g1, 8, none⟩)), SV.eq (.int .i64 (g.so)), SV.eq (.pointer (some ⟨g2, 3, none⟩)), SV.eq (.int .i64 (x.step)), SV.eq (.int .i64 (bitI x.step)), SV.eq (.int .i64 (orI g.so (bitI x.step))), SV.eq (.pointer (some ⟨g1, 8, none⟩))] [([(3, none)], none), ([(10, some 0)], none), ([(4, none)], none), ([(12, some 2)], none), ([(13, some 3)], none), ([(11, some 1), (14, some 4)], none), ([(3, none)], none)] 34 rfl (by kernel_rfl) rfl (by kernel_rfl) (by kernel_rfl) rfl NewT.trans (NewT.drew _) (Nat.le_of_ble_eq_true rfl) ⟨?_, ?_, ?_, ?_, ?_, ?_, ?_, trivial⟩ ?_
      · exact fun a wx hT hF K hK => rely_wp rfl (opr_fldU8 rfl hF.1 (hK _ _ (NewT.refl _) rfl))
      · exact fun a wx hT hF K hK => rely_wp rfl (opr_ldI (hT.row Rg1.out) (by decide) rfl rfl hF.1 (hK _ _ (NewT.refl _) rfl))
      · exact fun a wx hT hF K hK => rely_wp rfl (opr_fldR (by decide) rfl hF.1 (hK _ _ (NewT.refl _) rfl))
      · exact fun a wx hT hF K hK => rely_wp rfl (opr_ldI (hT.row Rg2.out) (by decide) rfl rfl hF.1 (hK _ _ (NewT.refl _) rfl))
      · exact fun a wx hT hF K hK => rely_wp rfl (opr_cv (gBit_cv x.step wx (HK6.out)) rfl Try.func35 (by kernel_rfl) (by kernel_rfl) (evs1 hF.1) hK)
      · exact fun a wx hT hF K hK => rely_wp rfl (opr_orI rfl hF.1 hF.2.1 (hK _ _ (NewT.refl _) rfl))
      · exact fun a wx hT hF K hK => rely_wp rfl (opr_fldU8 rfl hF.1 (hK _ _ (NewT.refl _) rfl))
      · intro w2 k2
        iterate 7 (intro u h; obtain rfl := Eq.symm (h (by simp)); clear h)
        refine relyEnd_nil rfl ?_
        simp only [Act.put, List.setIfInBounds_toArray, List.set_cons_zero, List.set_cons_succ]
        refine opr_put1 (g := g1) (o0 := 8) (v := .int .i64 (orI g.so (bitI x.step))) (F := sgF sv ({ g with so := orI g.so (bitI x.step) })) rfl rfl rfl (k2.row Rg1.out) (by decide) info_i1 rfl (fun i hi => gs_so sv g i hi _) ?_
        intro W2 hR2 rr2
        go_simp
        replace Rg1 := Lib.hid rr2
        replace Rg2 := Lib.hid (hR2.row (by have h_0 := HG.out; omega) (k2.row Rg2.out))
        replace Rg3 := Lib.hid (hR2.row (by have h_0 := HG.out; omega) (k2.row Rg3.out))
        replace HM := Lib.hid (NewT.rt (NewT.trans _ _ _ HM.out k2) hR2 (by have h_0 := HG.out; omega))
        clear k2 hR2 rr2
        go_upto_region 4 with fail
        refine wp_region_steps0 NewT [SV.eq (.pointer (some ⟨g1, 0, none⟩)), SV.eq (sv), SV.eq (.pointer (some ⟨g2, 3, none⟩)), SV.eq (.int .i64 (x.step)), svStp (d), svIp (d).2, SV.eq (.int .i64 ((d).2)), SV.eq (.bool (((d).2) == 1)), SV.eq (.bool (((d).2) == 1)), svIf (((d).2) == 1) (SV.eq (.pointer (some ⟨g1, 3, none⟩))), svIf (((d).2) == 1) (SV.eq (.int .i64 (g.tr))), svIf (((d).2) == 1) (SV.eq (.int .i64 (lim))), svIf (((d).2) == 1) (SV.eq (.bool (g.tr == lim))), SV.eq (.bool ((((d).2) == 1) && (g.tr == lim)))] [([(3, none)], none), ([(17, some 0)], none), ([(4, none)], none), ([(19, some 2)], none), ([(18, some 1), (20, some 3)], none), ([(21, some 4)], none), ([(22, some 5)], none), ([(23, some 6)], none), ([(24, some 7)], none), ([(3, none), (25, some 8)], some (25, true)), ([(26, some 9), (25, some 8)], some (25, true)), ([(2, none), (25, some 8)], some (25, true)), ([(27, some 10), (28, some 11), (25, some 8)], some (25, true)), ([(25, some 8), (29, some 12)], none)] 34 14 rfl rfl (by kernel_rfl) NewT.trans (NewT.refl _) (Nat.le_of_ble_eq_true rfl) ⟨?_, ?_, ?_, ?_, ?_, ?_, ?_, ?_, ?_, ?_, ?_, ?_, ?_, ?_, trivial⟩ ?_
        · exact fun a wx hT hF K hK => rely_wp rfl (opr_fldU0 rfl hF.1 (hK _ _ (NewT.refl _) rfl))
        · exact fun a wx hT hF K hK => rely_wp rfl (opr_ldS (hT.row Rg1.out) (by decide) rfl rfl hF.1 (hK _ _ (NewT.refl _) rfl))
        · exact fun a wx hT hF K hK => rely_wp rfl (opr_fldR (by decide) rfl hF.1 (hK _ _ (NewT.refl _) rfl))
        · exact fun a wx hT hF K hK => rely_wp rfl (opr_ldI (hT.row Rg2.out) (by decide) rfl rfl hF.1 (hK _ _ (NewT.refl _) rfl))
        · intro a wx hT hF K hK
          obtain ⟨f18, f20, _⟩ := hF
          have f18 : a.tmps.getD 18 undef = sv := f18
          have f20 : a.tmps.getD 20 undef = .int .i64 (x.step) := f20
          refine rely_wp rfl ?_
          exact opr_idxSt (k := k) (d := d) (⟨HKL.out, HDD.out⟩) (HKX.out) rfl (by rw [eval_tmp, f18]; exact ((NewT.trans _ _ _ HM.out hT).pairs HS.out)) f20 (fun v hv => hK v _ (NewT.refl _) hv)
        · exact fun a wx hT hF K hK => rely_wp rfl (opr_fldSt1 rfl hF.1 (fun u hu => hK u _ (NewT.refl _) hu))
        · exact fun a wx hT hF K hK => rely_wp rfl (opr_ldIp rfl hF.1 (hK _ _ (NewT.refl _) rfl))
        · exact fun a wx hT hF K hK => rely_wp rfl (opr_cmp (b := ((d).2) == 1) (.inl ⟨rfl, rfl⟩) Try.underlying3 rfl hF.1 rfl (hK _ _ (NewT.refl _) rfl))
        · exact fun a wx hT hF K hK => rely_wp rfl (opr_move (.inl rfl) (hK _ _ (NewT.refl _) hF.1))
        · exact fun a wx hT hF K hK => rely_if (rely_gt hF.2.1) (NewT.refl _) hK fun hE hK => opr_fldU3 rfl hF.1 (hK _ _ (NewT.refl _) rfl)
        · exact fun a wx hT hF K hK => rely_if (rely_gt hF.2.1) (NewT.refl _) hK fun hE hK => opr_ldI (hT.row Rg1.out) (by decide) rfl rfl (hF.1 hE) (hK _ _ (NewT.refl _) rfl)
        · exact fun a wx hT hF K hK => rely_if (rely_gt hF.2.1) (NewT.refl _) hK fun hE hK => opr_move (.inl rfl) (hK _ _ (NewT.refl _) hF.1)
        · exact fun a wx hT hF K hK => rely_if (rely_gt hF.2.2.1) (NewT.refl _) hK fun hE hK => opr_cmp (b := g.tr == lim) (.inl ⟨rfl, rfl⟩) Try.underlying3 rfl (hF.1 hE) (hF.2.1 hE) (hK _ _ (NewT.refl _) rfl)
        · exact fun a wx hT hF K hK => rely_wp rfl (opr_pick_b rfl hF.1 (fun hb => hK _ _ (NewT.refl _) (pk_and1 (hF.2.1 hb) hb)) (fun hb => hK _ _ (NewT.refl _) (pk_and0 hb)))
        · intro w3 k3
          iterate 4 (intro u h; obtain rfl := Eq.symm (h (by simp)); clear h)
          iterate 2 (intro _ _)
          iterate 3 (intro u h; obtain rfl := Eq.symm (h (by simp)); clear h)
          iterate 4 (intro _ _)
          intro u h; obtain rfl := Eq.symm (h (by simp)); clear h
          refine relyEnd_nil rfl ?_
          refine wpList_end rfl ?_
          simp only [Act.put, List.setIfInBounds_toArray, List.set_cons_zero, List.set_cons_succ]
          go_simp
          replace Rg1 := Lib.hid (k3.row Rg1.out)
          replace Rg2 := Lib.hid (k3.row Rg2.out)
          replace Rg3 := Lib.hid (k3.row Rg3.out)
          replace HM := Lib.hid (NewT.trans _ _ _ HM.out k3)
          clear k3
          cases hq : ((((d).2) == 1) && (g.tr == lim))
          · have HE : Hid (lapG l lim g x.back x.step = { g with so := orI g.so (bitI x.step) }) := Lib.hid (by
              unfold lapG kdL
              rw [hb, if_neg (by simp), ← HKX.out, Int.toNat_natCast, HDD.out, if_neg (fun h => by
                rw [Bool.and_eq_false_iff] at hq
                rcases hq with hq | hq
                · simp [h.1] at hq
                · simp [h.2] at hq)])
            clear hb hq
            go_upto_region 6 with fail
            refine wp_region_steps0 NewT [SV.eq (.agg (rowA 10 (sgF sv ({ g with so := orI g.so (bitI x.step) }))))] [([(3, none)], none)] 34 1 rfl rfl (by kernel_rfl) NewT.trans (NewT.refl _) (Nat.le_of_ble_eq_true rfl) ⟨?_, trivial⟩ ?_
            · exact fun a wx hT hF K hK => rely_wp rfl (opr_ldU (hT.row Rg1.out) rfl hF.1 (hK _ _ (NewT.refl _) rfl))
            · intro w4 k4
              intro u h; obtain rfl := Eq.symm (h (by simp)); clear h
              refine relyEnd_nil rfl ?_
              simp only [Act.put, List.setIfInBounds_toArray, List.set_cons_zero, List.set_cons_succ]
              refine wpList_plain rfl (fun K hK => ?_)
              refine opr_putm (g := g3) (o0 := 0) (m := 10) (f := sgF sv ({ g with so := orI g.so (bitI x.step) })) (F := sgF sv ({ g with so := orI g.so (bitI x.step) })) rfl rfl rfl (k4.row Rg3.out) (by decide) info_saga (sgF_one _ _ (oneP HS.out)) (put_allN _ _ _) ?_
              intro W4 hR4 rr4
              refine hK _ _ ?_
              clear hK K
              refine wpList_end rfl ?_
              simp only [Act.put, List.setIfInBounds_toArray, List.set_cons_zero, List.set_cons_succ]
              go_simp
              replace Rg3 := Lib.hid rr4
              replace Rg1 := Lib.hid (hR4.row (by have h_0 := HG.out; omega) (k4.row Rg1.out))
              replace Rg2 := Lib.hid (hR4.row (by have h_0 := HG.out; omega) (k4.row Rg2.out))
              replace HM := Lib.hid (NewT.rt (NewT.trans _ _ _ HM.out k4) hR4 (by have h_0 := HG.out; omega))
              clear k4 hR4 rr4
              go_wp2
              exact bodyPost_ret (results_agg rfl _ rfl Rg3.out Try.underlying27 rfl info_saga) rfl ⟨_, rfl, HM.out, by show _ = Value.agg _; rw [HE.out]⟩
          · have HE : Hid (lapG l lim g x.back x.step = turnG { g with so := orI g.so (bitI x.step) }) := Lib.hid (by
              unfold lapG kdL
              rw [Bool.and_eq_true] at hq
              rw [hb, if_neg (by simp), ← HKX.out, Int.toNat_natCast, HDD.out, if_pos ⟨by simpa using hq.1, by simpa using hq.2⟩])
            clear hb hq
            go_upto_region 5 with fail
            refine wp_region_steps0 NewT [SV.eq (.agg (rowA 10 (sgF sv ({ g with so := orI g.so (bitI x.step) })))), SV.eq ((.agg (rowA 10 (sgF sv (turnG ({ g with so := orI g.so (bitI x.step) }))))))] [([(3, none)], none), ([(31, some 0)], none)] 34 2 rfl rfl (by kernel_rfl) NewT.trans (NewT.refl _) (Nat.le_of_ble_eq_true rfl) ⟨?_, ?_, trivial⟩ ?_
            · exact fun a wx hT hF K hK => rely_wp rfl (opr_ldU (hT.row Rg1.out) rfl hF.1 (hK _ _ (NewT.refl _) rfl))
            · exact fun a wx hT hF K hK => rely_wp rfl (opr_cv (turned_cv sv ({ g with so := orI g.so (bitI x.step) }) wx (oneP HS.out)) rfl Try.func36 (by kernel_rfl) (by kernel_rfl) (evs1 hF.1) hK)
            · intro w5 k5
              iterate 2 (intro u h; obtain rfl := Eq.symm (h (by simp)); clear h)
              refine relyEnd_nil rfl ?_
              simp only [Act.put, List.setIfInBounds_toArray, List.set_cons_zero, List.set_cons_succ]
              refine wpList_plain rfl (fun K hK => ?_)
              refine opr_putm (g := g3) (o0 := 0) (m := 10) (f := sgF sv (turnG { g with so := orI g.so (bitI x.step) })) (F := sgF sv (turnG { g with so := orI g.so (bitI x.step) })) rfl rfl rfl (k5.row Rg3.out) (by decide) info_saga (sgF_one _ _ (oneP HS.out)) (put_allN _ _ _) ?_
              intro W5 hR5 rr5
              refine hK _ _ ?_
              clear hK K
              refine wpList_end rfl ?_
              simp only [Act.put, List.setIfInBounds_toArray, List.set_cons_zero, List.set_cons_succ]
              go_simp
              replace Rg3 := Lib.hid rr5
              replace Rg1 := Lib.hid (hR5.row (by have h_0 := HG.out; omega) (k5.row Rg1.out))
              replace Rg2 := Lib.hid (hR5.row (by have h_0 := HG.out; omega) (k5.row Rg2.out))
              replace HM := Lib.hid (NewT.rt (NewT.trans _ _ _ HM.out k5) hR5 (by have h_0 := HG.out; omega))
              clear k5 hR5 rr5
              go_wp2
              exact bodyPost_ret (results_agg rfl _ rfl Rg3.out Try.underlying27 rfl info_saga) rfl ⟨_, rfl, HM.out, by show _ = Value.agg _; rw [HE.out]⟩
    · have HE : Hid (lapG l lim g x.back x.step = g) := Lib.hid (by unfold lapG; rw [hb, if_pos rfl])
      clear hb
      go_upto_region 2 with fail
      refine wp_region_steps0 NewT [SV.eq (.agg (rowA 10 (sgF sv g)))] [([(3, none)], none)] 34 1 rfl rfl (by kernel_rfl) NewT.trans (NewT.refl _) (Nat.le_of_ble_eq_true rfl) ⟨?_, trivial⟩ ?_
      · exact fun a wx hT hF K hK => rely_wp rfl (opr_ldU (hT.row Rg1.out) rfl hF.1 (hK _ _ (NewT.refl _) rfl))
      · intro w6 k6
        intro u h; obtain rfl := Eq.symm (h (by simp)); clear h
        refine relyEnd_nil rfl ?_
        simp only [Act.put, List.setIfInBounds_toArray, List.set_cons_zero, List.set_cons_succ]
        refine wpList_plain rfl (fun K hK => ?_)
        refine opr_putm (g := g3) (o0 := 0) (m := 10) (f := sgF sv (g)) (F := sgF sv (g)) rfl rfl rfl (k6.row Rg3.out) (by decide) info_saga (sgF_one _ _ (oneP HS.out)) (put_allN _ _ _) ?_
        intro W6 hR6 rr6
        refine hK _ _ ?_
        clear hK K
        refine wpList_end rfl ?_
        simp only [Act.put, List.setIfInBounds_toArray, List.set_cons_zero, List.set_cons_succ]
        go_simp
        replace Rg3 := Lib.hid rr6
        replace Rg1 := Lib.hid (hR6.row (by have h_0 := HG.out; omega) (k6.row Rg1.out))
        replace Rg2 := Lib.hid (hR6.row (by have h_0 := HG.out; omega) (k6.row Rg2.out))
        replace HM := Lib.hid (NewT.rt (NewT.trans _ _ _ HM.out k6) hR6 (by have h_0 := HG.out; omega))
        clear k6 hR6 rr6
        go_wp2
        exact bodyPost_ret (results_agg rfl _ rfl Rg3.out Try.underlying27 rfl info_saga) rfl ⟨_, rfl, HM.out, by show _ = Value.agg _; rw [HE.out]⟩
end Go.Proofs.Ytfmahpgfeoafiaa
