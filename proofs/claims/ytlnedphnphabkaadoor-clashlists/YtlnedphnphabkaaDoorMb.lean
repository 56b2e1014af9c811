/- The two tables, out of the rows' own condition; the row's last step where the world has new blocks alone; the shapes of the arguments. -/
import Derived.Test.YtlnedphnphabkaaDoorRows
import Derived.Test.YtlnedphnphabkaaDoorMa
import Derived.ProofKit
import Derived.LaidMore
import Derived.OpenShut
import Derived.Stop.Joined
import Derived.Lib.LaidTab
import Derived.Stop.LaidErr
import Derived.Deep.Slices
import Derived.Deep.Matrix
import Derived.SizedLaws
set_option linter.all false
namespace Go.Proofs.YtlnedphnphabkaaDoor
open Go.ChangeShapes Go.WideShapes Go.ChangeAt Go.WideMaps Go.WideElems Go.RowKit
set_option maxRecDepth 8000
set_option linter.all false

theorem gK : Tryd.prog.globalNamed "inspeximus/api.K" = some 1 := by kernel_rfl
theorem gF : Tryd.prog.globalNamed "inspeximus/api.First" = some 0 := by kernel_rfl
theorem tK : (Tryd.prog.globals[1]?).map (·.type) = some 91 := by kernel_rfl
theorem tF : (Tryd.prog.globals[0]?).map (·.type) = some 71 := by kernel_rfl
def laid2 : List (String × DataW Unit) := [("inspeximus/api.K", Rows.laid_inspeximus_api_K), ("inspeximus/api.First", Rows.laid_inspeximus_api_First)]
def kInts : List Int := kTab.map fun (n : Nat) => (n : Int)
def fInts : List Int := fTab.map fun (n : Nat) => (n : Int)
theorem laidK : (Rows.laid_inspeximus_api_K : DataW Unit) = Lib.tabData .u32 kInts := rfl
theorem laidF : (Rows.laid_inspeximus_api_First : DataW Unit) = Lib.tabData .u32 fInts := rfl
theorem tables_of_laid {W : World} (h : laidMetH Tryd.prog laid2 W) : Tables W := by
  rw [MakeChecks.laidMetH_plain _ _ _ (by kernel_rfl)] at h
  have hK : Lib.TabIs Tryd.prog W "inspeximus/api.K" .u32 kInts := Lib.tabIs_of_head gK tK Tryd.underlying91 Tryd.underlying70 (by kernel_rfl) (by kernel_rfl) h
  have hF : Lib.TabIs Tryd.prog W "inspeximus/api.First" .u32 fInts := Lib.tabIs_of_head gF tF Tryd.underlying71 Tryd.underlying70 (by kernel_rfl) (by kernel_rfl) (laidMet.tail h)
  have hs : 1 < W.heap.size := World.block_lt_of_cell? _ _ (hK.cell gK 0 (by decide))
  refine ⟨hs, fun i hi => ?_, fun i hi => ?_⟩
  · rw [hK.cell gK i (by simpa [kInts, kTab] using hi)]
    have h : ∀ i : Fin 64, kInts.getD i.val 0 = uN (Kc i.val) := by decide +kernel
    rw [h ⟨i, hi⟩]
  · rw [hF.cell gF i (by simpa [fInts, fTab] using hi)]
    have h : ∀ i : Fin 8, fInts.getD i.val 0 = uN (Fc i.val) := by decide +kernel
    rw [h ⟨i, hi⟩]
/-- The door's own heap meets the condition. -/
theorem door_met (os : Os) (args : Array Value) : laidMetH Tryd.prog laid2 ((World.doorLaid Tryd.prog 400 os).forCall (fun _ _ => 0) ⟨#[], args, []⟩).memory :=
  laidMetH_of_parts3 (fuel := 8) (laidMet_of_run' 8 (by kernel_rfl) (by kernel_rfl)) (by kernel_rfl) (by kernel_rfl)
end Go.Proofs.YtlnedphnphabkaaDoor
/- (all of it lies in EP now) -/
/- The laws' arguments, opened: arrays of numbers by value, slices of bytes. -/
namespace Go.Proofs.YtlnedphnphabkaaDoor
open Go.ChangeShapes Go.WideShapes Go.ChangeAt Go.WideMaps Go.WideElems Go.RowKit
set_option maxRecDepth 8000
set_option linter.all false

theorem open_words {f : Nat → Int} {n : Nat} (h : ∀ i, i < n → (Lit.int .u32 (f i)).wf = true) : ∃ d : Nat → BitVec 32, rowA n (fun i => Value.int .u32 (f i)) = rowA n (uF d) := by
  refine ⟨fun i => BitVec.ofNat 32 (f i).toNat, rowA_congr fun i hi => ?_⟩
  have := bounds_u32 (h i hi)
  unfold uF uN
  rw [BitVec.toNat_ofNat]
  congr 1
  omega
end Go.Proofs.YtlnedphnphabkaaDoor
/- Fields of a struct by value and in memory: a cell, a row of cells. No program is named here. -/
namespace Go.Proofs.YtlnedphnphabkaaDoor
open Go Go.RowKit
set_option maxRecDepth 8000
set_option linter.all false

theorem rowA_extract (n : Nat) (g : Nat → Value) (o m : Nat) (h : o + m ≤ n) : (rowA n g).extract o (o + m) = rowA m fun j => g (o + j) := by
  apply Array.ext_getElem?
  intro i
  by_cases hi : i < m
  · rw [rowA_at _ _ _ hi, Array.getElem?_extract_of_lt (by rw [rowA_size]; omega), ← Array.getElem?_eq_getElem, rowA_at _ _ _ (by omega)]
  · rw [Array.getElem?_eq_none (by simp [rowA_size]; omega), Array.getElem?_eq_none (by rw [rowA_size]; omega)]
section
variable {P : Program} {t : TypeId} {fs : Array Field} {f : Field} {i n : Nat}
theorem run_isAgg_no {d : TypeDesc} {e : TypeId} (he : P.underlying e = some d) (hd : d.isRow = false) (w : World) : (isAgg e).run P w = .ok false w := by
  unfold isAgg
  rw [Sem.run_bind, run_underlying he w]
  cases d <;> simp_all
theorem run_field_cell {d : TypeDesc} (hu : P.underlying t = some (.struct fs)) (hf : fs[i]? = some f) (he : P.underlying f.type = some d) (hd : d.isRow = false) (g : Nat → Value) (ho : f.offset < n) (w : World) : (Instr.field t (.agg (rowA n g)) i).run P w = .ok (g f.offset) w := by
  have hat := rowA_at n g f.offset ho
  simp [Instr.field, run_underlying hu, hf, asAgg, part, run_isAgg_no he hd, hat]
theorem run_field_row {m : Nat} {e : TypeId} (hu : P.underlying t = some (.struct fs)) (hf : fs[i]? = some f) (he : P.underlying f.type = some (.array m e)) (hs : (P.info? f.type).map (·.size) = some m) (g : Nat → Value) (ho : f.offset + m ≤ n) (w : World) : (Instr.field t (.agg (rowA n g)) i).run P w = .ok (.agg (rowA m fun j => g (f.offset + j))) w := by
  have hsz : (sizeOf f.type).run P w = .ok m w := by
    cases hq : P.info? f.type with
    | none => simp [hq] at hs
    | some i => simp [hq] at hs; simp [sizeOf, typeInfo, hq, hs]
  have hagg : (isAgg f.type).run P w = .ok true w := by
    unfold isAgg
    rw [Sem.run_bind, run_underlying he w]
    rfl
  have hx := rowA_extract n g f.offset m ho
  simp [Instr.field, run_underlying hu, hf, asAgg, part, hagg, hsz, hx]
end
/-- A part of a row. -/
theorem rangeAt_part {w : World} {b : Nat} {t : TypeId} {n : Nat} {f : Nat → Value} (h : w.rowIs b t n f) (o m : Nat) (hm : o + m ≤ n) : w.rangeAt b o (rowA m fun j => f (o + j)).toList := fun j v hv => by
  rw [rowA_toList, List.getElem?_map] at hv
  cases hj : (List.range m)[j]? with
  | none => rw [hj] at hv; simp at hv
  | some k =>
    rw [hj] at hv
    obtain ⟨hlt, hk⟩ := List.getElem?_eq_some_iff.1 hj
    simp at hlt hk
    subst hk
    simp at hv
    subst hv
    exact h.cell (by omega)
end Go.Proofs.YtlnedphnphabkaaDoor
/- A region that draws its order, whose last operations come one behind the other: the rest is gone through once, in the text's order, and the last ones then as they stand. No program is named here. -/
namespace Go.Proofs.YtlnedphnphabkaaDoor
open Go
set_option maxRecDepth 8000
set_option linter.all false

section
variable {P : Program} {ops : Array Oper} {Q : Exit → Act → World → Prop} {T : World → World → Prop} {V : List (SV T)} {a0 : Act} {w0 : World} {n : Nat} {D : Deps} {init tail : List Oper}

theorem split_at (hsplit : ops.toList = init ++ tail) : ops.size = init.length + tail.length ∧ (∀ (k : Nat) (o : Oper), init[k]? = some o → ops[k]? = some o) ∧ ∀ k : Nat, ops[init.length + k]? = tail[k]? := by
  have e : ops = (init ++ tail).toArray := by rw [← hsplit]
  subst e
  refine ⟨by simp, fun k o hk => ?_, fun k => ?_⟩
  · have hlt := (List.getElem?_eq_some_iff.1 hk).1
    simp [List.getElem?_append_left hlt, hk]
  · simp [List.getElem?_append_right]
/-- The last ones look back alone, each waits for the one ahead. -/
def tailB (ops : Array Oper) (tail : List Oper) (m : Nat) : Bool :=
  (List.range tail.length).all fun t => (match tail[t]? with | some o => o.after.all (fun e => !Region.binds .any e || decide (e.on < m + t)) | none => true) && (decide (t = 0) || Region.waitsFor .any ops (m + t) (m + t - 1))

theorem tail_seq (hsplit : ops.toList = init ++ tail) (hB : tailB ops tail init.length = true) : ∀ (f k : Nat) (listed : Array Bool) (a : Act) (w : World), k + f = tail.length → listed.size = ops.size →
    (∀ j, j < init.length + k → listed.getD j false = true) → (∀ j, init.length + k ≤ j → j < ops.size → listed.getD j true = false) → wpList P ops Q (tail.drop k) a w → wpAny P .any ops Q f listed a w := by
  obtain ⟨hsz, _, htl⟩ := split_at hsplit
  have hb : ∀ t, t < tail.length → (∀ o, tail[t]? = some o → ∀ e ∈ o.after, Region.binds .any e = true → e.on < init.length + t) ∧ (t = 0 ∨ Region.waitsFor .any ops (init.length + t) (init.length + t - 1) = true) := fun t ht => by
    have h := List.all_eq_true.1 hB t (List.mem_range.2 ht)
    simp only [Bool.and_eq_true, Bool.or_eq_true, decide_eq_true_eq] at h
    refine ⟨fun o ho e he hbe => ?_, h.2⟩
    have h1 := h.1
    rw [ho] at h1
    have h2 := (Array.all_eq_true_iff_forall_mem.1 h1) e he
    simpa [hbe] using h2
  intro f
  induction f with
  | zero =>
    intro k listed a w hk hs hdone _ h
    obtain rfl : k = tail.length := by omega
    rw [List.drop_length] at h
    exact wpAny_done (ready_none fun i hi => hdone i (by omega)) h 0
  | succ f ih =>
    intro k listed a w hk hs hdone hun h
    have hkl : k < tail.length := by omega
    have ho : ops[init.length + k]? = some tail[k] := by rw [htl, List.getElem?_eq_getElem hkl]
    rw [List.drop_eq_getElem_cons hkl] at h
    have hmem : init.length + k ∈ Region.ready .any ops listed := by
      rw [mem_ready]
      exact ⟨hun _ (Nat.le_refl _) (by omega), tail[k], ho, fun e he hbe => hdone _ ((hb k hkl).1 _ (List.getElem?_eq_getElem hkl) e he hbe)⟩
    refine ⟨fun hr => (by rw [hr] at hmem; cases hmem), fun i hi => ?_⟩
    obtain ⟨h0, o, hoi, hall⟩ := mem_ready.1 hi
    have hilt := (Array.getElem?_eq_some_iff.1 hoi).1
    have hik : i = init.length + k := by
      rcases Nat.lt_trichotomy i (init.length + k) with hlt | rfl | hgt
      · have := hdone i hlt
        rw [getD_both h0] at this; cases this
      · rfl
      · exfalso
        have ht := (hb (i - init.length) (by omega)).2
        rw [show init.length + (i - init.length) = i by omega] at ht
        rcases ht with ht | ht
        · omega
        · obtain ⟨oi, hoi', e, he, hbe, hon⟩ := Region.waitsFor_spec ht
          have : oi = o := Option.some.inj (hoi'.symm.trans hoi)
          subst this
          have h1 := hall e he hbe
          rw [hon, getD_both (hun (i - 1) (by omega) (by omega))] at h1
          cases h1
    subst hik
    have next : ∀ a' w', wpList P ops Q (tail.drop (k + 1)) a' w' → wpAny P .any ops Q f (listed.setIfInBounds (init.length + k) true) a' w' := fun a' w' h' =>
      ih (k + 1) _ a' w' (by omega) (by simp [hs]) (fun j hj => by
        by_cases hjk : init.length + k = j
        · subst hjk; simp [show init.length + k < listed.size by omega]
        · exact getD_set_true (hdone j (by omega))) (fun j hj hj2 => by rw [getD_set_ne true (by omega)]; exact hun j (by omega) hj2) h'
    refine wpOp_mono next ?_
    unfold wpOp
    simp only [ho]
    simpa only [wpList] using h

theorem wpAny_rely_tail (hsplit : ops.toList = init ++ tail) (hpos : 0 < tail.length) (hn : a0.tmps.size = n) (hB : relyB ops n 0 init D = true) (hsink : Region.sinkB .any ops init.length = true) (htb : tailB ops tail init.length = true) (ht : ∀ a b c : World, T a b → T b c → T a c)
    (hl : init.length ≤ V.length) (hA : relyAll P Q T V a0 w0 init D V) (hE : ∀ w, T w0 w → relyEnd (fun _ a w => wpList P ops Q tail a w) T init V a0 w) :
    ∀ (fuel : Nat) (listed : Array Bool) (a : Act) (w : World), (unl ops listed).length = fuel → (∀ j, init.length ≤ j → j < ops.size → listed.getD j true = false) → RelyInv ops T V a0 w0 listed a w → wpAny P .any ops Q fuel listed a w := by
  obtain ⟨hsz, hpre, htl⟩ := split_at hsplit
  have hat : ∀ i o, init[i]? = some o → ∃ dp g, relyOne ops n i o dp g = true ∧ relyStep P Q T V a0 w0 o dp g (V.getD i SV.any) := fun i o hi => by
    obtain ⟨dp, g, hD, h1⟩ := relyB_at init D 0 i o hB hi
    rw [Nat.zero_add] at h1
    exact ⟨dp, g, h1, relyAll_at _ _ _ i o dp g hA hi hD⟩
  -- once all of the first ones have come up
  have fin : ∀ (fuel : Nat) (listed : Array Bool) (a : Act) (w : World), (unl ops listed).length = fuel → (∀ j, init.length ≤ j → j < ops.size → listed.getD j true = false) → RelyInv ops T V a0 w0 listed a w → (∀ j, j < init.length → listed.getD j false = true) → wpAny P .any ops Q fuel listed a w := fun fuel listed a w hu hun inv hdone => by
    have h1 : wpList P ops Q tail a w := rely_all (Q' := fun a w => wpList P ops Q tail a w) inv
      (fun k o hk => ⟨hpre k o hk, hdone k (List.getElem?_eq_some_iff.1 hk).1⟩) (fun j hj => by
        rcases Nat.lt_or_ge j init.length with h | h
        · exact h
        · rcases Nat.lt_or_ge j ops.size with h' | h'
          · rw [getD_both (hun j h h')] at hj; cases hj
          · have : listed.getD j false = false := by simp [Array.getElem?_eq_none (show listed.size ≤ j by rw [inv.size]; omega)]
            rw [this] at hj; cases hj) hl (hE w inv.now)
    have hf : fuel = tail.length := by
      rw [← hu]
      unfold unl
      have e : (List.range ops.size).filter (fun i => !listed.getD i true) = List.range' init.length tail.length := by
        rw [List.range_eq_range', show ops.size = init.length + tail.length from hsz, ← List.range'_append_1, List.filter_append, List.filter_eq_nil_iff.2, List.filter_eq_self.2]
        · simp
        · intro i hi
          simp only [List.mem_range'_1] at hi
          rw [hun i (by omega) (by omega)]; rfl
        · intro i hi
          simp only [List.mem_range'_1] at hi
          have h2 := hdone i (by omega)
          have h3 : listed.getD i true = true := by
            have hlt : i < listed.size := by rw [inv.size]; omega
            simp [hlt] at h2 ⊢; exact h2
          rw [h3]; simp
      rw [e]; simp
    subst hf
    exact tail_seq hsplit htb tail.length 0 listed a w (by omega) inv.size (by simpa using hdone) (by simpa using hun) (by simpa using h1)
  intro fuel
  induction fuel with
  | zero =>
    intro listed a w hu hun inv
    have : init.length ∈ unl ops listed := by
      unfold unl; rw [List.mem_filter]; exact ⟨List.mem_range.2 (by omega), by rw [hun _ (Nat.le_refl _) (by omega)]; rfl⟩
    rw [List.eq_nil_of_length_eq_zero hu] at this
    cases this
  | succ fuel ih =>
    intro listed a w hu hun inv
    by_cases hdone : ∀ j, j < init.length → listed.getD j false = true
    · exact fin _ listed a w hu hun inv hdone
    · -- none of the last ones may come up yet
      have hlow : ∀ i, i ∈ Region.ready .any ops listed → i < init.length := fun i hi => by
        rcases Nat.lt_or_ge i init.length with h | h
        · exact h
        · exfalso
          obtain ⟨h0, o, ho, hall⟩ := mem_ready.1 hi
          have hilt := (Array.getElem?_eq_some_iff.1 ho).1
          by_cases him : i = init.length
          · subst him
            apply hdone
            have hd : ∀ (d j : Nat), init.length - j = d → j < init.length → listed.getD j false = true := fun d => by
              induction d using Nat.strongRecOn with
              | _ d ihd =>
                intro j hd hj
                have h1 := List.all_eq_true.1 hsink j (List.mem_range.2 hj)
                obtain ⟨t, ht1, ht2⟩ := List.any_eq_true.1 h1
                simp only [Bool.and_eq_true, decide_eq_true_eq] at ht2
                obtain ⟨ot, hot, e, he, hb, hon⟩ := Region.waitsFor_spec ht2.2
                have htle : t ≤ init.length := by have := List.mem_range.1 ht1; omega
                rw [← hon]
                by_cases htm : t = init.length
                · subst htm
                  have : ot = o := Option.some.inj (hot.symm.trans ho)
                  subst this
                  exact hall e he hb
                · exact inv.closed t ot hot (ihd (init.length - t) (by omega) t rfl (by omega)) e he hb
            exact fun j hj => hd _ j rfl hj
          · have h := List.all_eq_true.1 htb (i - init.length) (List.mem_range.2 (by omega))
            simp only [Bool.and_eq_true, Bool.or_eq_true, decide_eq_true_eq] at h
            rw [show init.length + (i - init.length) = i by omega] at h
            rcases h.2 with h | h
            · omega
            · obtain ⟨oi, hoi', e, he, hbe, hon⟩ := Region.waitsFor_spec h
              have : oi = o := Option.some.inj (hoi'.symm.trans ho)
              subst this
              have h1 := hall e he hbe
              rw [hon, getD_both (hun (i - 1) (by omega) (by omega))] at h1
              cases h1
      refine ⟨fun hr => ?_, fun i hi => ?_⟩
      · exfalso
        apply hdone
        intro i
        induction i using Nat.strongRecOn with
        | _ i ih =>
          intro hi
          cases hli : listed.getD i false with
          | true => rfl
          | false =>
            exfalso
            have hmem : i ∈ Region.ready .any ops listed := by
              rw [mem_ready]
              refine ⟨getD_in (by rw [inv.size]; omega) hli, init[i], hpre i _ (List.getElem?_eq_getElem hi), fun e he hb => ?_⟩
              obtain ⟨dp, g, h1, _⟩ := hat i init[i] (List.getElem?_eq_getElem hi)
              simp only [relyOne, Bool.and_eq_true] at h1
              have h2 := (Array.all_eq_true_iff_forall_mem.1 h1.1.1.2) e he
              simp only [hb, Bool.not_true, Bool.false_or, decide_eq_true_eq] at h2
              exact ih e.on h2 (by omega)
            rw [hr] at hmem
            cases hmem
      · have hi' := hlow i hi
        obtain ⟨h0, o, ho, hall⟩ := mem_ready.1 hi
        have hio : init[i]? = some o := by
          have := hpre i init[i] (List.getElem?_eq_getElem hi')
          rw [ho] at this
          rw [List.getElem?_eq_getElem hi', Option.some.inj this]
        obtain ⟨dp, g, h1, hstep⟩ := hat i o hio
        refine wpOp_mono (fun a' w' inv' => ih _ a' w' (by have := unl_set inv.size h0; omega) (fun j hj hj2 => by rw [getD_set_ne true (by omega)]; exact hun j hj hj2) inv') (rely_op hn ht ho h1 hstep h0 hall inv)
/-- **A region that draws its order, the last operations (from place m on) one behind the other.** -/
theorem wp_region_rely_tail {id : Nat} (T : World → World → Prop) (V : List (SV T)) (D : Deps) (n m : Nat) (hm : P.follows .mixedOrders = true) (hn : a0.tmps.size = n) (hlen : (ops.toList.take m).length = m) (hpos : 0 < (ops.toList.drop m).length) (hB : relyB ops n 0 (ops.toList.take m) D = true)
    (hsink : Region.sinkB .any ops m = true) (htb : tailB ops (ops.toList.drop m) m = true) (ht : ∀ a b c : World, T a b → T b c → T a c) (hd : T w0 w0.drew) (hl : m ≤ V.length)
    (hA : relyAll P Q T V a0 w0 (ops.toList.take m) D V) (hE : ∀ w, T w0 w → relyEnd (fun _ a w => wpList P ops Q (ops.toList.drop m) a w) T (ops.toList.take m) V a0 w) : (Code.region id ops true).wp P Q a0 w0 := by
  refine wp_region_any hm ?_
  refine wpAny_rely_tail (List.take_append_drop m ops.toList).symm hpos hn hB (by rw [hlen]; exact hsink) (by rw [hlen]; exact htb) ht (by rw [hlen]; exact hl) hA hE ops.size _ a0 w0.drew unl_start (fun j _ hj => by simp [hj]) (rely_start hd)
end
end Go.Proofs.YtlnedphnphabkaaDoor
/- A region in the text's order, gone through once: each operation has a condition on its value that later steps keep; beside them a relation on the world that steps on with the operations; the last operations may be left as they stand. No program is named here. -/
namespace Go.Proofs.YtlnedphnphabkaaDoor
open Go
set_option maxRecDepth 8000
set_option linter.all false

def seqStep (P : Program) (Q : Exit → Act → World → Prop) (T : World → World → Prop) (V : List (SV T)) (J : Nat → World → Prop) (a0 : Act) (w0 : World) (i : Nat) (o : Oper) (dp : List (Tmp × Option Nat)) (g : Option (Tmp × Bool)) (c : SV T) : Prop :=
  ∀ (a : Act) (w : World), T w0 w → relyFacts V a0 a w dp → J i w → ∀ K : Act → World → Prop, (∀ v w', T w w' → J (i + 1) w' → c.pred v w' → K (a.put o.dst v) w') →
    if relyGuard g a then o.wp P a w K Q else K (a.put o.dst undef) w
def seqAll (P : Program) (Q : Exit → Act → World → Prop) (T : World → World → Prop) (V : List (SV T)) (J : Nat → World → Prop) (a0 : Act) (w0 : World) : Nat → List Oper → Deps → List (SV T) → Prop
  | _, [], _, _ => True
  | i, o :: r, (dp, g) :: D, c :: C => seqStep P Q T V J a0 w0 i o dp g c ∧ seqAll P Q T V J a0 w0 (i + 1) r D C
  | _, _, _, _ => False
def seqOne (ops : Array Oper) (n m : Nat) (i : Nat) (o : Oper) (dp : List (Tmp × Option Nat)) (g : Option (Tmp × Bool)) : Bool :=
  (match o.dst with | some d => decide (d < n) && (List.range m).all (fun j => decide (j = i) || relyDst ops j != some d) | none => true) &&
  (dp.all fun x => match x.2 with
    | some j => relyDst ops j == some x.1 && decide (j < i)
    | none => (List.range i).all fun j => relyDst ops j != some x.1) &&
  (match o.guard, g with
    | none, none => true
    | some (k, b), some (d, b') => b == b' && relyDst ops k == some d && decide (d < n)
    | _, _ => false)
def seqB (ops : Array Oper) (n m : Nat) : Nat → List Oper → Deps → Bool
  | _, [], _ => true
  | i, o :: r, (dp, g) :: D => seqOne ops n m i o dp g && seqB ops n m (i + 1) r D
  | _, _, _ => false
section
variable {P : Program} {ops : Array Oper} {Q : Exit → Act → World → Prop} {T : World → World → Prop} {V : List (SV T)} {J : Nat → World → Prop} {a0 : Act} {w0 : World} {n m : Nat} {D : Deps} {init tail : List Oper}
theorem seqB_at : ∀ (l : List Oper) (D : Deps) (i k : Nat) (o : Oper), seqB ops n m i l D = true → l[k]? = some o → ∃ dp g, D[k]? = some (dp, g) ∧ seqOne ops n m (i + k) o dp g = true
  | [], _, _, _, _, _, h => by simp at h
  | x :: r, [], _, _, _, h, _ => by simp [seqB] at h
  | x :: r, (dp, g) :: D, i, 0, o, h, ho => by
    simp only [seqB, Bool.and_eq_true] at h
    simp at ho
    subst ho
    exact ⟨dp, g, rfl, h.1⟩
  | x :: r, (dp, g) :: D, i, k + 1, o, h, ho => by
    simp only [seqB, Bool.and_eq_true] at h
    obtain ⟨dp', g', hD, h'⟩ := seqB_at r D (i + 1) k o h.2 (by simpa using ho)
    exact ⟨dp', g', by simpa using hD, by rw [show i + (k + 1) = i + 1 + k by omega]; exact h'⟩
theorem seqAll_at : ∀ (l : List Oper) (D : Deps) (C : List (SV T)) (i k : Nat) (o : Oper) dp g, seqAll P Q T V J a0 w0 i l D C → l[k]? = some o → D[k]? = some (dp, g) → seqStep P Q T V J a0 w0 (i + k) o dp g (C.getD k SV.any)
  | [], _, _, _, _, _, _, _, _, h, _ => by simp at h
  | x :: r, [], _, _, _, _, _, _, h, _, _ => h.elim
  | x :: r, y :: D, [], _, _, _, _, _, h, _, _ => h.elim
  | x :: r, (dp, g) :: D, c :: C, i, 0, o, dp', g', h, ho, hD => by
    simp at ho hD
    obtain ⟨rfl, rfl⟩ := hD
    subst ho
    exact h.1
  | x :: r, (dp, g) :: D, c :: C, i, k + 1, o, dp', g', h, ho, hD => by
    have := seqAll_at r D C (i + 1) k o dp' g' h.2 (by simpa using ho) (by simpa using hD)
    rw [show i + (k + 1) = i + 1 + k by omega]
    simpa using this
structure SeqInv (ops : Array Oper) (T : World → World → Prop) (V : List (SV T)) (J : Nat → World → Prop) (a0 : Act) (w0 : World) (k : Nat) (a : Act) (w : World) : Prop where
  now : T w0 w
  at_ : J k w
  slots : a.tmps.size = a0.tmps.size
  defers : a.defers = a0.defers
  new : ∀ j d, j < k → relyDst ops j = some d → (V.getD j SV.any).pred (a.tmps.getD d undef) w
  old : ∀ d, (∀ j, j < k → relyDst ops j ≠ some d) → a.tmps.getD d undef = a0.tmps.getD d undef
theorem seq_op (hn : a0.tmps.size = n) (ht : ∀ a b c : World, T a b → T b c → T a c) {i : Nat} {o : Oper} {dp : List (Tmp × Option Nat)} {g : Option (Tmp × Bool)} {a : Act} {w : World}
    (him : i < m) (ho : ops[i]? = some o) (h1 : seqOne ops n m i o dp g = true) (hstep : seqStep P Q T V J a0 w0 i o dp g (V.getD i SV.any)) (inv : SeqInv ops T V J a0 w0 i a w) :
    wpOp P ops Q i (fun a' w' => SeqInv ops T V J a0 w0 (i + 1) a' w') a w := by
  simp only [seqOne, Bool.and_eq_true] at h1
  obtain ⟨⟨hdst, hdp⟩, hg⟩ := h1
  have hfacts : relyFacts V a0 a w dp := by
    clear hstep
    induction dp with
    | nil => trivial
    | cons x r ih2 =>
      simp only [List.all_cons, Bool.and_eq_true] at hdp
      obtain ⟨hx, hr⟩ := hdp
      obtain ⟨d, j⟩ := x
      cases j with
      | some j =>
        simp only [Bool.and_eq_true, beq_iff_eq, decide_eq_true_eq] at hx
        exact ⟨inv.new j d hx.2 hx.1, ih2 hr⟩
      | none =>
        refine ⟨inv.old d fun j hj => ?_, ih2 hr⟩
        simpa using List.all_eq_true.1 hx j (List.mem_range.2 hj)
  have hguard : Region.wanted o (yielded ops a.tmps) = relyGuard g a := by
    unfold Region.wanted
    cases hgo : o.guard with
    | none =>
      rw [hgo] at hg
      cases g with
      | none => rfl
      | some x => cases hg
    | some kb =>
      obtain ⟨k, b⟩ := kb
      rw [hgo] at hg
      cases g with
      | none => cases hg
      | some x =>
        obtain ⟨d, b'⟩ := x
        simp only [Bool.and_eq_true, beq_iff_eq, decide_eq_true_eq] at hg
        obtain ⟨⟨rfl, hd⟩, hlt⟩ := hg
        have hlt' : d < a.tmps.size := by rw [inv.slots, hn]; exact hlt
        have hd' : (ops[k]?).bind (·.dst) = some d := hd
        simp only [yielded, hd', Option.bind_some, relyGuard, Array.getD_eq_getD_getElem?, Array.getElem?_eq_getElem hlt', Option.getD_some]
        cases a.tmps[d] <;> simp
        all_goals (rename_i x; cases x <;> cases b <;> rfl)
  have next : ∀ v w', T w w' → J (i + 1) w' → (V.getD i SV.any).pred v w' → SeqInv ops T V J a0 w0 (i + 1) (a.put o.dst v) w' := fun v w' hT hJ hv => by
    refine ⟨ht _ _ _ inv.now hT, hJ, by cases o.dst <;> simp [Act.put, inv.slots], by cases o.dst <;> simp [Act.put, inv.defers], fun j d hji hj => ?_, fun d hno => ?_⟩
    · by_cases hij : i = j
      · subst hij
        have hd : o.dst = some d := by simpa [relyDst, ho] using hj
        rw [hd] at hdst
        simp only [Bool.and_eq_true, decide_eq_true_eq] at hdst
        have hlt : d < a.tmps.size := by rw [inv.slots, hn]; exact hdst.1
        rw [hd]
        simpa [Act.put, hlt] using hv
      · have h3 := (V.getD j SV.any).stable _ _ _ (inv.new j d (by omega) hj) hT
        cases hod : o.dst with
        | none => exact h3
        | some d0 =>
          rw [hod] at hdst
          simp only [Bool.and_eq_true, decide_eq_true_eq] at hdst
          have h4 := List.all_eq_true.1 hdst.2 j (List.mem_range.2 (by omega))
          simp only [Bool.or_eq_true, decide_eq_true_eq, bne_iff_ne, ne_eq] at h4
          have hne : d0 ≠ d := fun e => by
            subst e
            rcases h4 with h4 | h4
            · exact hij h4.symm
            · exact h4 hj
          simpa [Act.put, Array.getElem?_setIfInBounds_ne hne] using h3
    · have hni : o.dst ≠ some d := fun hd => hno i (by omega) (by simp [relyDst, ho, hd])
      have hold := inv.old d fun j hj => hno j (by omega)
      cases hod : o.dst with
      | none => exact hold
      | some d0 =>
        have hne : d0 ≠ d := fun e => hni (by rw [hod, e])
        simpa [Act.put, Array.getElem?_setIfInBounds_ne hne] using hold
  have hs := hstep a w inv.now hfacts inv.at_ _ next
  unfold wpOp
  simp only [ho, hguard]
  split
  · rename_i hw; rw [if_pos hw] at hs; exact .inl hs
  · rename_i hw; rw [if_neg hw] at hs; exact hs
theorem wpOps_tail : ∀ (t : List Oper) (k : Nat) (a : Act) (w : World), (∀ i : Nat, ops[k + i]? = t[i]?) → wpList P ops Q t a w → wpOps P ops Q (List.range' k t.length) a w
  | [], k, a, w, _, h => by simpa [wpOps, wpList] using h
  | o :: t, k, a, w, hk, h => by
    have hi : ops[k]? = some o := by simpa using hk 0
    rw [List.length_cons, List.range'_succ, wpOps_cons]
    refine wpOp_mono (fun a' w' h' => wpOps_tail t (k + 1) a' w' (fun i => by have := hk (i + 1); rw [show k + 1 + i = k + (i + 1) by omega]; simpa using this) h') ?_
    unfold wpOp
    simp only [hi]
    simpa only [wpList] using h
theorem wpOps_seq (hsplit : ops.toList = init ++ tail) (hn : a0.tmps.size = n) (hB : seqB ops n init.length 0 init D = true) (ht : ∀ a b c : World, T a b → T b c → T a c)
    (hl : init.length ≤ V.length) (hA : seqAll P Q T V J a0 w0 0 init D V) (hE : ∀ w, T w0 w → J init.length w → relyEnd (fun _ a w => wpList P ops Q tail a w) T init V a0 w) :
    ∀ (f k : Nat) (a : Act) (w : World), k + f = init.length → SeqInv ops T V J a0 w0 k a w → wpOps P ops Q (List.range' k (f + tail.length)) a w := by
  obtain ⟨hsz, hpre, htl⟩ := split_at hsplit
  intro f
  induction f with
  | zero =>
    intro k a w hk inv
    obtain rfl : k = init.length := by omega
    rw [Nat.zero_add]
    refine wpOps_tail tail init.length a w htl ?_
    refine relyEnd_of (Q := fun _ a w => wpList P ops Q tail a w) init V a0 inv.slots.symm inv.defers.symm hl (fun d hnd => ?_) (fun k o d hk hd => ?_) (hE w inv.now inv.at_)
    · refine (inv.old d fun j hj hjd => ?_).symm
      have hj2 := hpre j init[j] (List.getElem?_eq_getElem hj)
      simp [relyDst, hj2] at hjd
      exact hnd init[j] (List.getElem_mem hj) hjd
    · exact inv.new k d (List.getElem?_eq_some_iff.1 hk).1 (by simp [relyDst, hpre k o hk, hd])
  | succ f ih =>
    intro k a w hk inv
    rw [show f + 1 + tail.length = (f + tail.length) + 1 by omega, List.range'_succ, wpOps_cons]
    have hklt : k < init.length := by omega
    have hio : init[k]? = some init[k] := List.getElem?_eq_getElem hklt
    obtain ⟨dp, g, hD, h1⟩ := seqB_at init D 0 k _ hB hio
    have hstep := seqAll_at _ _ _ 0 k _ dp g hA hio hD
    rw [Nat.zero_add] at h1 hstep
    exact wpOp_mono (fun a' w' inv' => ih (k + 1) a' w' (by omega) inv') (seq_op hn ht hklt (hpre k _ hio) h1 hstep inv)
/-- **A region in the text's order; the operations from place m on are left as they stand.** -/
theorem wp_region_steps {id : Nat} (T : World → World → Prop) (J : Nat → World → Prop) (V : List (SV T)) (D : Deps) (n m : Nat) (hn : a0.tmps.size = n) (hlen : (ops.toList.take m).length = m) (hB : seqB ops n m 0 (ops.toList.take m) D = true)
    (ht : ∀ a b c : World, T a b → T b c → T a c) (hd : T w0 w0) (hJ : J 0 w0) (hl : m ≤ V.length)
    (hA : seqAll P Q T V J a0 w0 0 (ops.toList.take m) D V) (hE : ∀ w, T w0 w → J m w → relyEnd (fun _ a w => wpList P ops Q (ops.toList.drop m) a w) T (ops.toList.take m) V a0 w) : (Code.region id ops false).wp P Q a0 w0 := by
  refine wp_region ?_
  have hs := split_at (List.take_append_drop m ops.toList).symm
  rw [List.range_eq_range', hs.1]
  exact wpOps_seq (List.take_append_drop m ops.toList).symm hn (by rw [hlen]; exact hB) ht (by rw [hlen]; exact hl) hA (by rw [hlen]; exact hE) _ 0 a0 w0 (by omega) ⟨hd, hJ, rfl, rfl, fun j d hj => absurd hj (by omega), fun _ _ => rfl⟩
/-- Without a relation beside. -/
theorem seqAll_of : ∀ (i : Nat) (l : List Oper) (D : Deps) (C : List (SV T)), relyAll P Q T V a0 w0 l D C → seqAll P Q T V (fun _ _ => True) a0 w0 i l D C
  | _, [], _, _, _ => trivial
  | i, _ :: r, (_, _) :: D, _ :: C, h => ⟨fun a w hT hF _ K hK => h.1 a w hT hF K fun v w' h1 h2 => hK v w' h1 trivial h2, seqAll_of (i + 1) r D C h.2⟩
  | _, _ :: _, [], _, h => h.elim
  | _, _ :: _, _ :: _, [], h => h.elim
theorem wp_region_steps0 {id : Nat} (T : World → World → Prop) (V : List (SV T)) (D : Deps) (n m : Nat) (hn : a0.tmps.size = n) (hlen : (ops.toList.take m).length = m) (hB : seqB ops n m 0 (ops.toList.take m) D = true)
    (ht : ∀ a b c : World, T a b → T b c → T a c) (hd : T w0 w0) (hl : m ≤ V.length)
    (hA : relyAll P Q T V a0 w0 (ops.toList.take m) D V) (hE : ∀ w, T w0 w → relyEnd (fun _ a w => wpList P ops Q (ops.toList.drop m) a w) T (ops.toList.take m) V a0 w) : (Code.region id ops false).wp P Q a0 w0 :=
  wp_region_steps T (fun _ _ => True) V D n m hn hlen hB ht hd trivial hl (seqAll_of 0 _ _ _ hA) fun w hT _ => hE w hT
theorem wpList_end {a : Act} {w : World} {l : List Oper} (hl : l = []) (h : Q .normal a w) : wpList P ops Q l a w := by subst hl; exact h
end
end Go.Proofs.YtlnedphnphabkaaDoor
/- A step that writes one block; stores into a row, a lemma each. No program is named here. -/
namespace Go.Proofs.YtlnedphnphabkaaDoor
open Go Go.RowKit
set_option maxRecDepth 8000
set_option linter.all false

/-- A step that writes block R, and new memory, alone. -/
structure RT (R : Nat) (w w' : World) : Prop where
  below : Below R w w'
  keep : KeepBut [R] w w'
theorem RT.refl (R : Nat) (w : World) : RT R w w := ⟨Below.refl _ _, KeepBut.refl _ _⟩
theorem RT.trans {R : Nat} (a b c : World) (h : RT R a b) (k : RT R b c) : RT R a c := ⟨h.below.trans k.below, h.keep.trans k.keep⟩
theorem RT.new {R : Nat} {w w' : World} (hR : R < w.heap.size) (h : NewT w w') : RT R w w' := ⟨h.out.mono (by omega), KeepBut.below h⟩
theorem RT.drew (R : Nat) (w : World) : RT R w w.drew := ⟨(Below.refl _ _).drew, KeepBut.drew _⟩
theorem RT.setCell {R : Nat} (w : World) (o : Nat) (v : Value) : RT R w (w.setCell ⟨R, o, none⟩ v) := ⟨(Below.refl R w).setCell (p := ⟨R, o, none⟩) (Nat.le_refl R) v, KeepBut.setCell (by simp) v⟩
theorem RT.rd {R : Nat} {w w' : World} (h : RT R w w') {v : Value} {l : List UInt8} (hr : RdV w [R] v l) : RdV w' [R] v l := hr.keep h.keep
theorem RT.row {R : Nat} {w w' : World} (h : RT R w w') {b n : Nat} {t : TypeId} {f : Nat → Value} (hb : b ≠ R) (hr : w.rowIs b t n f) : w'.rowIs b t n f := h.keep.row (by simpa using hb) hr
theorem RT.size {R : Nat} {w w' : World} (h : RT R w w') : w.heap.size ≤ w'.heap.size := h.below.size
section
variable {P : Program} {ops : Array Oper} {rest : List Oper} {a : Act} {w : World} {Q : Exit → Act → World → Prop}
theorem wpList_new {o1 o2 : Oper} {t : TypeId} {n d0 : Nat} {y : Operand} {f f0 : Nat → Value} (hg1 : o1.guard = none) (hg2 : o2.guard = none) (h1 : o1.op = .alloc t) (hd : o1.dst = some d0) (h2 : o2.op = .store t (.tmp d0) y) (hd2 : o2.dst = none) (hlt : d0 < a.tmps.size)
    (hal : ∀ w : World, (Instr.alloc t true (.tuple #[])).run P w = .ok (.pointer (some ⟨w.heap.size, 0, none⟩)) (w.alloc (.cells (rowA n f0) t))) (hi : (P.info? t).map (·.size) = some n) (hone : ∀ i, (f i).oneCell' = true)
    (hy : (a.put (some d0) (.pointer (some ⟨w.heap.size, 0, none⟩))).eval y = .agg (rowA n f)) (h : ∀ w', NewT w w' → w'.rowIs w.heap.size t n f → wpList P ops Q rest (a.put (some d0) (.pointer (some ⟨w.heap.size, 0, none⟩))) w') : wpList P ops Q (o1 :: o2 :: rest) a w := by
  refine wpList_plain hg1 fun K hK => ?_
  obtain ⟨dst, op, type, pos, after, guard⟩ := o1
  simp only at h1 hd
  subst h1 hd
  refine opr_val (s := Instr.alloc t true (.tuple #[])) rfl (hal w) (hK _ _ ?_)
  have hr := rowIs_box w t n f0
  refine wpList_store_mid hg2 t (.tmp d0) y h2 w.heap.size 0 (rowA n f) (by rw [eval_tmp]; simp [Act.put, hlt]) hy (by rw [rowA_size]; exact there_row hr) (by rw [rowA_size]; exact hi) (rowA_one _ _ hone) ?_
  rw [hd2]
  exact h _ (below_setCells _ (Nat.le_refl _) _ _ _ (NewT.alloc _ _).out) (rowIs_setAll hr f)
/-- A part of a row that is the call's own is written. -/
theorem wpList_put {o : Oper} {t t' : TypeId} {x y : Operand} {g o0 n m : Nat} {f f0 F : Nat → Value} (hg : o.guard = none) (ho : o.op = .store t x y) (hd : o.dst = none) (hx : a.eval x = .pointer (some ⟨g, o0, none⟩)) (hy : a.eval y = .agg (rowA m f)) (hr : w.rowIs g t' n f0) (hm : o0 + m ≤ n) (hi : (P.info? t).map (·.size) = some m) (hone : ∀ i, (f i).oneCell' = true)
    (hF : ∀ i, i < n → F i = if o0 ≤ i ∧ i < o0 + m then f (i - o0) else f0 i) (h : ∀ w', (∀ B, B ≤ g → Below B w w') → w'.rowIs g t' n F → wpList P ops Q rest a w') : wpList P ops Q (o :: rest) a w := by
  refine wpList_store_mid hg t x y ho g o0 (rowA m f) hx hy (by rw [rowA_size]; exact fun j hj => ⟨by simp [hr.cell (i := o0 + j) (by omega)], by simpa using hr.frozen (o0 + j)⟩) (by rw [rowA_size]; exact hi) (rowA_one _ _ hone) ?_
  rw [hd]
  refine h _ (fun B hB => below_setCells g hB _ _ _ (Below.refl _ _)) ((rowIs_setCells_at hr (rowA m f).toList o0).congr fun i hi => ?_)
  rw [hF i hi, rowA_toList]
  simp only [List.length_map, List.length_range]
  by_cases h : o0 ≤ i ∧ i < o0 + m
  · rw [if_pos h, if_pos h]
    simp [show i - o0 < m by omega]
  · rw [if_neg h, if_neg h]
theorem wpList_put1 {o : Oper} {t t' : TypeId} {x y : Operand} {g o0 n : Nat} {v : Value} {f0 F : Nat → Value} (hg : o.guard = none) (ho : o.op = .store t x y) (hd : o.dst = none) (hx : a.eval x = .pointer (some ⟨g, o0, none⟩)) (hy : a.eval y = v) (hr : w.rowIs g t' n f0) (hm : o0 < n) (hi : (P.info? t).map (·.size) = some 1) (hone : v.oneCell' = true)
    (hF : ∀ i, i < n → F i = if i = o0 then v else f0 i) (h : ∀ w', (∀ B, B ≤ g → Below B w w') → w'.rowIs g t' n F → wpList P ops Q rest a w') : wpList P ops Q (o :: rest) a w := by
  refine wpList_plain hg fun K hK => ?_
  obtain ⟨dst, op, type, pos, after, guard⟩ := o
  simp only at ho hd
  subst ho hd
  have hsz : (sizeOf t).run P w = .ok 1 w := by
    cases hq : P.info? t with
    | none => simp [hq] at hi
    | some i => simp [hq] at hi; simp [sizeOf, typeInfo, hq, hi]
  have hc := hr.cell hm
  have hf := hr.frozen o0
  have hcs : v.cells = #[v] := by cases v <;> first | rfl | simp [Value.oneCell'] at hone
  refine opr_unit (s := Instr.storeAt t (a.eval x) (a.eval y)) (w' := w.setCell ⟨g, o0, none⟩ v) rfl ?_ (hK _ _ ?_)
  · rw [hx, hy]
    simp [Instr.storeAt, Instr.sureAddr, storeVar, hsz, hcs, storeCells, run_store _ _ _ _ _ hone, hc, hf, Addr.add_zero']
  · exact h _ (fun B hB => (Below.refl B w).setCell (p := ⟨g, o0, none⟩) hB v) ((hr.set o0 v).congr fun i hi => by rw [hF i hi])
/-- A record or a row that a call hands back. -/
theorem results_agg {fn : Func} {p : Tmp} {ty t : TypeId} {d : TypeDesc} {n b : Nat} {f : Nat → Value} (hf : fn.results = #[.cell p ty]) (tmps : Array Value) (hp : tmps.getD p undef = .pointer (some ⟨b, 0, none⟩))
    (h : w.rowIs b t n f) (hu : P.underlying ty = some d) (hd : d.isRow = true) (hi : (P.info? ty).map (·.size) = some n) : (results fn tmps).run P w = .ok (.agg (rowA n f)) w := by
  have := run_loadVar_mid (P := P) w b 0 ty (rowA n f).toList d (rangeAt_row h) hu hd (by rw [hi, rowA_toList]; simp)
  have hp' : tmps[p]?.getD undef = .pointer (some ⟨b, 0, none⟩) := by simpa using hp
  simp [results, hf, hp', asAddr, this]
end
section
variable {P : Program} {a : Act} {w : World} {o : Oper} {K : Act → World → Prop} {Q : Exit → Act → World → Prop}
theorem opr_put1 {t t' : TypeId} {x y : Operand} {g o0 n : Nat} {v : Value} {f0 F : Nat → Value} (ho : o.op = .store t x y) (hx : a.eval x = .pointer (some ⟨g, o0, none⟩)) (hy : a.eval y = v) (hr : w.rowIs g t' n f0) (hm : o0 < n) (hi : (P.info? t).map (·.size) = some 1) (hone : v.oneCell' = true)
    (hF : ∀ i, i < n → F i = if i = o0 then v else f0 i) (h : ∀ w', RT g w w' → w'.rowIs g t' n F → K (a.put o.dst undef) w') : o.wp P a w K Q := by
  obtain ⟨dst, op, type, pos, after, guard⟩ := o
  simp only at ho
  subst ho
  have hsz : (sizeOf t).run P w = .ok 1 w := by
    cases hq : P.info? t with
    | none => simp [hq] at hi
    | some i => simp [hq] at hi; simp [sizeOf, typeInfo, hq, hi]
  have hc := hr.cell hm
  have hf := hr.frozen o0
  have hcs : v.cells = #[v] := by cases v <;> first | rfl | simp [Value.oneCell'] at hone
  refine opr_unit (s := Instr.storeAt t (a.eval x) (a.eval y)) (w' := w.setCell ⟨g, o0, none⟩ v) rfl ?_ (h _ (RT.setCell w o0 v) ((hr.set o0 v).congr fun i hi => by rw [hF i hi]))
  rw [hx, hy]
  simp [Instr.storeAt, Instr.sureAddr, storeVar, hsz, hcs, storeCells, run_store _ _ _ _ _ hone, hc, hf, Addr.add_zero']
theorem RT.setCells {R : Nat} (vs : List Value) (o : Nat) (w : World) : RT R w (w.setCells R o vs) := by
  induction vs generalizing o w with
  | nil => exact RT.refl _ _
  | cons v r ih => rw [World.setCells]; exact RT.trans _ _ _ (RT.setCell w o v) (ih (o + 1) _)
theorem opr_putm {t t' : TypeId} {x y : Operand} {g o0 n m : Nat} {f f0 F : Nat → Value} (ho : o.op = .store t x y) (hx : a.eval x = .pointer (some ⟨g, o0, none⟩)) (hy : a.eval y = .agg (rowA m f)) (hr : w.rowIs g t' n f0) (hm : o0 + m ≤ n) (hi : (P.info? t).map (·.size) = some m) (hone : ∀ i, (f i).oneCell' = true)
    (hF : ∀ i, i < n → F i = if o0 ≤ i ∧ i < o0 + m then f (i - o0) else f0 i) (h : ∀ w', RT g w w' → w'.rowIs g t' n F → K (a.put o.dst undef) w') : o.wp P a w K Q := by
  refine wp_store_mid t x y ho g o0 (rowA m f) hx hy (by rw [rowA_size]; exact fun j hj => ⟨by simp [hr.cell (i := o0 + j) (by omega)], by simpa using hr.frozen (o0 + j)⟩) (by rw [rowA_size]; exact hi) (rowA_one _ _ hone) ?_
  refine h _ (RT.setCells _ _ _) ((rowIs_setCells_at hr (rowA m f).toList o0).congr fun i hi => ?_)
  rw [hF i hi, rowA_toList]
  simp only [List.length_map, List.length_range]
  by_cases h : o0 ≤ i ∧ i < o0 + m
  · rw [if_pos h, if_pos h]
    simp [show i - o0 < m by omega]
  · rw [if_neg h, if_neg h]
end
end Go.Proofs.YtlnedphnphabkaaDoor
/- What the guards of a region make conditional, and single operations, a lemma each: fields, loads, numbers compared. -/
namespace Go.Proofs.YtlnedphnphabkaaDoor
open Go Go.RowKit
set_option maxRecDepth 8000
set_option linter.all false

section
variable {P : Program} {a : Act} {w : World} {o : Oper} {K : Act → World → Prop} {Q : Exit → Act → World → Prop}
/-- A condition that stands where b is so. -/
def svIf {T : World → World → Prop} (b : Bool) (c : SV T) : SV T := ⟨fun v w => b = true → c.pred v w, fun v w w' h hT hb => c.stable v w w' (h hb) hT⟩
/-- A guard's own value, where it may be left out. -/
def gV (b c : Bool) : Value := bif b then .bool c else undef
theorem rely_on {g : Option (Tmp × Bool)} {E : Bool} (hg : relyGuard g a = E) (h1 : E = true → o.wp P a w K Q) (h0 : E = false → K (a.put o.dst undef) w) : if relyGuard g a then o.wp P a w K Q else K (a.put o.dst undef) w := by
  rw [hg]; cases E
  · exact h0 rfl
  · exact h1 rfl
/-- What is done under a guard that isn't known. -/
theorem rely_if {T : World → World → Prop} {g : Option (Tmp × Bool)} {E : Bool} {c : SV T} (hg : relyGuard g a = E) (hr : T w w) (hK : ∀ v w', T w w' → (svIf E c).pred v w' → K (a.put o.dst v) w') (h : E = true → (∀ v w', T w w' → c.pred v w' → K (a.put o.dst v) w') → o.wp P a w K Q) : if relyGuard g a then o.wp P a w K Q else K (a.put o.dst undef) w :=
  rely_on hg (fun hE => h hE fun v w' h1 h2 => hK v w' h1 fun _ => h2) fun hE => hK _ _ hr fun h1 => by rw [hE] at h1; cases h1
theorem rely_ifg {T : World → World → Prop} {g : Option (Tmp × Bool)} {E b : Bool} (hg : relyGuard g a = E) (hr : T w w) (hK : ∀ v w', T w w' → (SV.eq (T := T) (gV E b)).pred v w' → K (a.put o.dst v) w') (h : E = true → (∀ v w', T w w' → v = .bool b → K (a.put o.dst v) w') → o.wp P a w K Q) : if relyGuard g a then o.wp P a w K Q else K (a.put o.dst undef) w :=
  rely_on hg (fun hE => h hE fun v w' h1 h2 => hK v w' h1 (by rw [h2, hE]; rfl)) fun hE => hK _ _ hr (by rw [hE]; rfl)
theorem pn_and1 {b e q : Bool} {v : Value} (hq : (b && e) = q) (h : v = .bool e) (hb : b = true) : v = .bool q := by rw [h, ← hq, hb]; rfl
theorem pn_and0 {b e q : Bool} (hq : (b && e) = q) (hb : b = false) : Value.bool false = .bool q := by rw [← hq, hb]; rfl
theorem pn_or1 {b e q : Bool} (hq : (b || e) = q) (hb : b = true) : Value.bool true = .bool q := by rw [← hq, hb]; rfl
theorem pn_or0 {b e q : Bool} {v : Value} (hq : (b || e) = q) (h : v = .bool e) (hb : b = false) : v = .bool q := by rw [h, ← hq, hb]; rfl
theorem rely_gt {d : Tmp} {b : Bool} (h : a.tmps.getD d undef = .bool b) : relyGuard (some (d, true)) a = b := by simp only [relyGuard, h]; cases b <;> rfl
theorem rely_gf {d : Tmp} {b : Bool} (h : a.tmps.getD d undef = .bool b) : relyGuard (some (d, false)) a = !b := by simp only [relyGuard, h]; cases b <;> rfl
theorem rely_ggt {d : Tmp} {p b : Bool} (h : a.tmps.getD d undef = gV p b) : relyGuard (some (d, true)) a = (p && b) := by simp only [relyGuard, h, gV]; cases p <;> cases b <;> rfl
theorem rely_ggf {d : Tmp} {p b : Bool} (h : a.tmps.getD d undef = gV p b) : relyGuard (some (d, false)) a = (p && !b) := by simp only [relyGuard, h, gV]; cases p <;> cases b <;> rfl
theorem gV_on {p b : Bool} (h : p = true) : gV p b = .bool b := by rw [h]; rfl
theorem gV_off {p b : Bool} (h : p = false) : undef = gV p b := by rw [h]; rfl
theorem svIf_off {T : World → World → Prop} {b : Bool} {c : SV T} {v : Value} {w : World} (h : b = false) : (svIf b c).pred v w := fun h1 => by rw [h] at h1; cases h1
theorem bleft {a b : Bool} (h : (a && b) = true) : a = true := by cases a <;> simp_all
theorem opr_pick_b {c x y : Operand} {b : Bool} (ho : o.op = .pick c x y) (hc : a.eval c = .bool b) (h1 : b = true → K (a.put o.dst (a.eval x)) w) (h0 : b = false → K (a.put o.dst (a.eval y)) w) : o.wp P a w K Q := by
  cases b
  · exact opr_pick_false ho hc (h0 rfl)
  · exact opr_pick_true ho hc (h1 rfl)
theorem pk_and1 {b e : Bool} {v : Value} (h : v = .bool e) (hb : b = true) : v = .bool (b && e) := by rw [h, hb]; rfl
theorem pk_and0 {b e : Bool} (hb : b = false) : Value.bool false = .bool (b && e) := by rw [hb]; rfl
theorem pk_or1 {b e : Bool} (hb : b = true) : Value.bool true = .bool (b || e) := by rw [hb]; rfl
theorem pk_or0 {b e : Bool} {v : Value} (h : v = .bool e) (hb : b = false) : v = .bool (b || e) := by rw [h, hb]; rfl
theorem bnot {b : Bool} (h : b = false) : (!b) = true := by rw [h]; rfl
theorem band {a b : Bool} (h : a = true) (k : b = true) : (a && b) = true := by rw [h, k]; rfl
theorem opr_not {t : TypeId} {x : Operand} {b : Bool} (ho : o.op = .unOp .not t x) (hx : a.eval x = .bool b) (h : K (a.put o.dst (.bool !b)) w) : o.wp P a w K Q := by
  obtain ⟨dst, op, type, pos, after, guard⟩ := o
  simp only at ho
  subst ho
  refine opr_val (s := Op.unary .not (a.eval x)) rfl ?_ h
  rw [hx]; simp [go_sem]
/-- A field's place. -/
theorem opr_fld {t : TypeId} {x : Operand} {k g o0 off m : Nat} {fs : Array Field} {f : Field} (hu : P.underlying t = some (.struct fs)) (hk : fs[k]? = some f) (hs : (P.info? f.type).map (·.size) = some (m + 1)) (ho : o.op = .fieldAddr t x k) (hx : a.eval x = .pointer (some ⟨g, o0, none⟩)) (hoff : o0 + f.offset = off) (h : K (a.put o.dst (.pointer (some ⟨g, off, none⟩))) w) : o.wp P a w K Q := by
  subst hoff
  obtain ⟨dst, op, type, pos, after, guard⟩ := o
  simp only at ho
  subst ho
  refine opr_val (s := Instr.fieldAt t (a.eval x) k) rfl ?_ h
  have hsz : (sizeOf f.type).run P w = .ok (m + 1) w := by
    cases hq : P.info? f.type with
    | none => simp [hq] at hs
    | some i => simp [hq] at hs; simp [sizeOf, typeInfo, hq, hs]
  rw [hx]
  simp [Instr.fieldAt, run_underlying hu, hk, Instr.sureAddr, fieldPlace, hsz, Addr.add_mid]
/-- A cell is loaded. -/
theorem opr_ld1 {t : TypeId} {x : Operand} {g o0 : Nat} {d : TypeDesc} {v : Value} (hu : P.underlying t = some d) (hd : d.isRow = false) (ho : o.op = .load t x) (hx : a.eval x = .pointer (some ⟨g, o0, none⟩)) (hc : w.cell? ⟨g, o0, none⟩ = some v) (h : K (a.put o.dst v) w) : o.wp P a w K Q := by
  obtain ⟨dst, op, type, pos, after, guard⟩ := o
  simp only at ho
  subst ho
  refine opr_val (s := Instr.loadAt t (a.eval x)) rfl ?_ h
  have hagg : (isAgg t).run P w = .ok false w := by
    unfold isAgg
    rw [Sem.run_bind, run_underlying hu w]
    cases d <;> simp_all
  rw [hx]
  simp [Instr.loadAt, Instr.sureAddr, loadVar, hagg, hc]
/-- A part of a row is loaded. -/
theorem opr_ldm {t t' : TypeId} {x : Operand} {g o0 n m : Nat} {d : TypeDesc} {f : Nat → Value} (hu : P.underlying t = some d) (hd : d.isRow = true) (hi : (P.info? t).map (·.size) = some m) (ho : o.op = .load t x) (hx : a.eval x = .pointer (some ⟨g, o0, none⟩)) (hr : w.rowIs g t' n f) (hm : o0 + m ≤ n) (h : K (a.put o.dst (.agg (rowA m fun j => f (o0 + j)))) w) : o.wp P a w K Q := by
  obtain ⟨dst, op, type, pos, after, guard⟩ := o
  simp only at ho
  subst ho
  refine opr_val (s := Instr.loadAt t (a.eval x)) rfl ?_ h
  rw [hx]
  have := run_loadAt_mid (P := P) w g o0 t _ d (rangeAt_part hr o0 m hm) hu hd (by rw [rowA_toList]; simpa using hi)
  simpa using this
end
section
variable {a : Act} {w : World} {o : Oper} {K : Act → World → Prop} {Q : Exit → Act → World → Prop} {x : Operand} {g : Nat}
theorem info_int : (Tryd.prog.info? 3).map (·.size) = some (0 + 1) := by kernel_rfl
theorem info_bool : (Tryd.prog.info? 4).map (·.size) = some (0 + 1) := by kernel_rfl
theorem info_hash1 : (Tryd.prog.info? 30).map (·.size) = some (31 + 1) := by kernel_rfl
theorem info_sb1 : (Tryd.prog.info? 23).map (·.size) = some (0 + 1) := by kernel_rfl
variable {F : Nat → Value} {t' : TypeId} {n : Nat} {o0 : Nat} {v : Value}
theorem opr_ldI (hr : w.rowIs g t' n F) (hn : o0 < n) (hv : F o0 = v) (ho : o.op = .load 3 x) (hx : a.eval x = .pointer (some ⟨g, o0, none⟩)) (h : K (a.put o.dst v) w) : o.wp Tryd.prog a w K Q :=
  opr_ld1 Tryd.underlying3 rfl ho hx (by rw [hr.cell hn, hv]) h
theorem opr_ldQ (hr : w.rowIs g t' n F) (hn : o0 < n) (hv : F o0 = v) (ho : o.op = .load 4 x) (hx : a.eval x = .pointer (some ⟨g, o0, none⟩)) (h : K (a.put o.dst v) w) : o.wp Tryd.prog a w K Q :=
  opr_ld1 Tryd.underlying4 rfl ho hx (by rw [hr.cell hn, hv]) h
theorem opr_ldB (hr : w.rowIs g t' n F) (hn : o0 < n) (hv : F o0 = v) (ho : o.op = .load 23 x) (hx : a.eval x = .pointer (some ⟨g, o0, none⟩)) (h : K (a.put o.dst v) w) : o.wp Tryd.prog a w K Q :=
  opr_ld1 Tryd.underlying23 rfl ho hx (by rw [hr.cell hn, hv]) h
theorem opr_ldH {d : Nat → UInt8} (hr : w.rowIs g t' n F) (hn : o0 + 32 ≤ n) (hv : ∀ j, j < 32 → F (o0 + j) = bF d j) (ho : o.op = .load 30 x) (hx : a.eval x = .pointer (some ⟨g, o0, none⟩)) (h : K (a.put o.dst (.agg (rowA 32 (bF d)))) w) : o.wp Tryd.prog a w K Q :=
  opr_ldm Tryd.underlying30 rfl info31 ho hx hr hn (by rw [rowA_congr hv]; exact h)
/-- Numbers are compared. -/
theorem opr_cmp {op : BinOp} {t t2 : TypeId} {x y : Operand} {m n : Int} {b : Bool} (hop : op = .eql ∧ (m == n) = b ∨ op = .neq ∧ (m != n) = b ∨ op = .leq ∧ decide (m ≤ n) = b ∨ op = .lss ∧ decide (m < n) = b ∨ op = .gtr ∧ decide (n < m) = b ∨ op = .geq ∧ decide (n ≤ m) = b) (_ht : Tryd.prog.underlying t = some (.int .i64)) (ho : o.op = .binOp op t x y t2) (hx : a.eval x = .int .i64 m) (hy : a.eval y = .int .i64 n) (h : K (a.put o.dst (.bool b)) w) : o.wp Tryd.prog a w K Q := by
  obtain ⟨dst, op', type, pos, after, guard⟩ := o
  simp only at ho
  subst ho
  refine opr_val (s := do eqGuard op t x y (a.eval x) (a.eval y); binOp op t (a.eval x) (a.eval y)) rfl ?_ h
  rw [hx, hy]
  rcases hop with ⟨rfl, rfl⟩ | ⟨rfl, rfl⟩ | ⟨rfl, rfl⟩ | ⟨rfl, rfl⟩ | ⟨rfl, rfl⟩ | ⟨rfl, rfl⟩ <;> simp [go_sem]
end
section
variable {a : Act} {w : World} {o : Oper} {K : Act → World → Prop} {Q : Exit → Act → World → Prop} {x y : Operand} {g : Nat}
theorem opr_eqlQ {p q b : Bool} {t2 : TypeId} (hb : (p == q) = b) (ho : o.op = .binOp .eql 4 x y t2) (hx : a.eval x = .bool p) (hy : a.eval y = .bool q) (h : K (a.put o.dst (.bool b)) w) : o.wp Tryd.prog a w K Q := by
  obtain ⟨dst, op', type, pos, after, guard⟩ := o
  simp only at ho
  subst ho hb
  refine opr_val (s := do eqGuard .eql 4 x y (a.eval x) (a.eval y); binOp .eql 4 (a.eval x) (a.eval y)) rfl ?_ h
  rw [hx, hy]
  simp [go_sem]
/-- 'h[:]' of a hash that lies in a row. -/
theorem opr_sliceH {o0 : Nat} (ho : o.op = .slice 30 x none none none) (hx : a.eval x = .pointer (some ⟨g, o0, none⟩)) (h : K (a.put o.dst (.slice (some ⟨g, o0, none⟩) 32 32)) w) : o.wp Tryd.prog a w K Q := by
  obtain ⟨dst, op, type, pos, after, guard⟩ := o
  simp only at ho
  subst ho
  refine opr_val (s := Instr.sliceAt 30 (a.eval x) none none none) rfl ?_ h
  rw [hx]
  have hsz : (sizeOf 5).run Tryd.prog w = .ok 1 w := by
    have hs := info5s
    cases hq : Tryd.prog.info? 5 with
    | none => simp [hq] at hs
    | some i => simp [hq] at hs; simp [sizeOf, typeInfo, hq, hs]
  simp [Instr.sliceAt, run_underlying Tryd.underlying30, Instr.sureAddr, Instr.sliceBounds, hsz, Addr.add_zero']
theorem rd_rowH {t' n o0 : Nat} {F : Nat → Value} {d : Nat → UInt8} (hr : w.rowIs g t' n F) (hn : o0 + 32 ≤ n) (hv : ∀ j, j < 32 → F (o0 + j) = bF d j) : RdV w [] (.slice (some ⟨g, o0, none⟩) 32 32) (digL d) := by
  refine ⟨some ⟨g, o0, none⟩, 32, by rw [digL_length], by rw [digL_length]; exact Nat.le_refl _, by unfold maxLen; omega, fun _ => ⟨g, o0, rfl, by simp, fun i hi => ?_⟩⟩
  rw [digL_length] at hi
  rw [hr.cell (by omega), hv i hi, bF_at]
  simp [bAt, digL, hi]
theorem run_bs3 (A : Option Addr) (n c : Nat) (A2 : Option Addr) (n2 c2 : Nat) (A3 : Option Addr) (n3 c3 : Nat) (w : World) : (Instr.buildSlice 22 3 #[(0, .slice A n c), (1, .slice A2 n2 c2), (2, .slice A3 n3 c3)]).run Tryd.prog w = .ok (.slice (some ⟨w.heap.size, 0, none⟩) 3 3) (w.alloc (.cells #[.slice A n c, .slice A2 n2 c2, .slice A3 n3 c3] 23)) := by
  simp [go_sem]
theorem run_bs4 (A : Option Addr) (n c : Nat) (A2 : Option Addr) (n2 c2 : Nat) (A3 : Option Addr) (n3 c3 : Nat) (A4 : Option Addr) (n4 c4 : Nat) (w : World) : (Instr.buildSlice 22 4 #[(0, .slice A n c), (1, .slice A2 n2 c2), (2, .slice A3 n3 c3), (3, .slice A4 n4 c4)]).run Tryd.prog w = .ok (.slice (some ⟨w.heap.size, 0, none⟩) 4 4) (w.alloc (.cells #[.slice A n c, .slice A2 n2 c2, .slice A3 n3 c3, .slice A4 n4 c4] 23)) := by
  simp [go_sem]
theorem opr_bs3 {x1 x2 x3 : Operand} {l1 l2 l3 : List UInt8} (ho : o.op = .buildSlice 22 3 #[(0, x1), (1, x2), (2, x3)]) (h1 : RdV w [] (a.eval x1) l1) (h2 : RdV w [] (a.eval x2) l2) (h3 : RdV w [] (a.eval x3) l3) (h : ∀ v w', NewT w w' → Parts w' v [l1, l2, l3] → K (a.put o.dst v) w') : o.wp Tryd.prog a w K Q := by
  obtain ⟨dst, op, type, pos, after, guard⟩ := o
  simp only at ho
  subst ho
  obtain ⟨A1, c1, e1⟩ := rdV_form h1
  obtain ⟨A2, c2, e2⟩ := rdV_form h2
  obtain ⟨A3, c3, e3⟩ := rdV_form h3
  rw [e1] at h1
  rw [e2] at h2
  rw [e3] at h3
  exact opr_val (s := Instr.buildSlice 22 3 #[(0, a.eval x1), (1, a.eval x2), (2, a.eval x3)]) (by simp [execOp]) (by rw [e1, e2, e3]; exact run_bs3 _ _ _ _ _ _ _ _ _ w) (h _ _ (NewT.alloc _ _) ⟨[(.slice A1 l1.length c1, l1), (.slice A2 l2.length c2, l2), (.slice A3 l3.length c3, l3)], parts_new [(.slice A1 l1.length c1, l1), (.slice A2 l2.length c2, l2), (.slice A3 l3.length c3, l3)] 23 (by simp) (by simp) (by simp; exact ⟨h1, h2, h3⟩), rfl⟩)
theorem opr_bs4 {x1 x2 x3 x4 : Operand} {l1 l2 l3 l4 : List UInt8} (ho : o.op = .buildSlice 22 4 #[(0, x1), (1, x2), (2, x3), (3, x4)]) (h1 : RdV w [] (a.eval x1) l1) (h2 : RdV w [] (a.eval x2) l2) (h3 : RdV w [] (a.eval x3) l3) (h4 : RdV w [] (a.eval x4) l4) (h : ∀ v w', NewT w w' → Parts w' v [l1, l2, l3, l4] → K (a.put o.dst v) w') : o.wp Tryd.prog a w K Q := by
  obtain ⟨dst, op, type, pos, after, guard⟩ := o
  simp only at ho
  subst ho
  obtain ⟨A1, c1, e1⟩ := rdV_form h1
  obtain ⟨A2, c2, e2⟩ := rdV_form h2
  obtain ⟨A3, c3, e3⟩ := rdV_form h3
  obtain ⟨A4, c4, e4⟩ := rdV_form h4
  rw [e1] at h1
  rw [e2] at h2
  rw [e3] at h3
  rw [e4] at h4
  exact opr_val (s := Instr.buildSlice 22 4 #[(0, a.eval x1), (1, a.eval x2), (2, a.eval x3), (3, a.eval x4)]) (by simp [execOp]) (by rw [e1, e2, e3, e4]; exact run_bs4 _ _ _ _ _ _ _ _ _ _ _ _ w) (h _ _ (NewT.alloc _ _) ⟨[(.slice A1 l1.length c1, l1), (.slice A2 l2.length c2, l2), (.slice A3 l3.length c3, l3), (.slice A4 l4.length c4, l4)], parts_new [(.slice A1 l1.length c1, l1), (.slice A2 l2.length c2, l2), (.slice A3 l3.length c3, l3), (.slice A4 l4.length c4, l4)] 23 (by simp) (by simp) (by simp; exact ⟨h1, h2, h3, h4⟩), rfl⟩)
end
end Go.Proofs.YtlnedphnphabkaaDoor
/- Merkle trees on lists, whatever a node's hash is: a list's root, a frontier's whole trees, and that they agree. No program is named. -/
namespace Go.Proofs.YtlnedphnphabkaaDoor
set_option maxRecDepth 8000
set_option linter.all false
/-- The greatest power of two below n; 0 of n below 2. -/
def splitN (n : Nat) : Nat := if n < 2 then 0 else 2 ^ (n - 1).log2
theorem splitN_eq (k m : Nat) (h0 : 0 < m) (h1 : m ≤ 2 ^ k) : splitN (2 ^ k + m) = 2 ^ k := by
  have hp : 0 < 2 ^ k := Nat.two_pow_pos k
  unfold splitN
  rw [if_neg (by omega)]
  have : (2 ^ k + m - 1).log2 = k := by
    rw [Nat.log2_eq_iff (by omega)]
    rw [Nat.pow_succ]
    omega
  rw [this]
theorem splitN_lt (n : Nat) (h : 2 ≤ n) : splitN n < n ∧ 0 < splitN n ∧ n ≤ 2 * splitN n := by
  unfold splitN
  rw [if_neg (by omega)]
  have h1 := Nat.two_pow_pos (n - 1).log2
  have h2 : 2 ^ (n - 1).log2 ≤ n - 1 := Nat.log2_self_le (by omega)
  have h3 : n - 1 < 2 ^ ((n - 1).log2 + 1) := Nat.lt_log2_self
  rw [Nat.pow_succ] at h3
  omega
section
variable {H : Type} (node : H → H → H) (z : H)
/-- A list's root. -/
def rootM (l : List H) : H :=
  if h : l.length < 2 then l.headD z
  else node (rootM (l.take (splitN l.length))) (rootM (l.drop (splitN l.length)))
termination_by l.length
decreasing_by
  · have := splitN_lt l.length (by omega); simp; omega
  · have := splitN_lt l.length (by omega); simp; omega
theorem rootM_nil : rootM node z [] = z := by unfold rootM; simp
theorem rootM_one (h : H) : rootM node z [h] = h := by unfold rootM; simp
theorem rootM_split (l : List H) (h : 2 ≤ l.length) : rootM node z l = node (rootM node z (l.take (splitN l.length))) (rootM node z (l.drop (splitN l.length))) := by
  rw [rootM, dif_neg (by omega)]
theorem rootM_app (a b : List H) (k : Nat) (ha : a.length = 2 ^ k) (h0 : 0 < b.length) (h1 : b.length ≤ 2 ^ k) : rootM node z (a ++ b) = node (rootM node z a) (rootM node z b) := by
  have hp : 0 < 2 ^ k := Nat.two_pow_pos k
  have e : splitN (a ++ b).length = a.length := by rw [List.length_append, ha]; exact splitN_eq k _ h0 h1
  rw [rootM_split node z (a ++ b) (by rw [List.length_append]; omega), e, List.take_left, List.drop_left]
/-- A frontier: whole trees, the greatest first, each with its height. -/
inductive Fr : List (Nat × H) → List H → Prop
  | nil : Fr [] []
  | cons {k : Nat} {l l' : List H} {F : List (Nat × H)} : l.length = 2 ^ k → (∀ p ∈ F, p.1 < k) → Fr F l' → Fr ((k, rootM node z l) :: F) (l ++ l')
variable {node z}
theorem Fr.lt {F : List (Nat × H)} {l : List H} (h : Fr node z F l) (k : Nat) (hk : ∀ p ∈ F, p.1 < k) : l.length < 2 ^ k := by
  induction h generalizing k with
  | nil => exact Nat.two_pow_pos k
  | @cons k' a b F ha hF _ ih =>
    have h1 := ih k' hF
    have h2 : k' < k := hk (k', rootM node z a) (by simp)
    have h3 : 2 ^ (k' + 1) ≤ 2 ^ k := Nat.pow_le_pow_right (by omega) h2
    rw [Nat.pow_succ] at h3
    rw [List.length_append]; omega
theorem Fr.pos {F : List (Nat × H)} {l : List H} (h : Fr node z F l) (hF : F ≠ []) : 0 < l.length := by
  cases h with
  | nil => exact absurd rfl hF
  | @cons k a b F ha _ _ => have := Nat.two_pow_pos k; rw [List.length_append]; omega
variable (node z)
/-- A frontier's root. -/
def rootF : List H → H
  | [] => z
  | [h] => h
  | h :: g :: r => node h (rootF (g :: r))
variable {node z}
theorem Fr.root {F : List (Nat × H)} {l : List H} (h : Fr node z F l) : rootF node z (F.map (·.2)) = rootM node z l := by
  induction h with
  | nil => rw [rootM_nil]; rfl
  | @cons k a b F ha hF hb ih =>
    cases F with
    | nil => cases hb; simp [rootF]
    | cons p F =>
      have h0 := hb.pos (by simp)
      have h1 := hb.lt k hF
      rw [rootM_app node z a b k ha h0 (by omega), ← ih]
      rfl
/-- How many ones are in a number. -/
def onesN (n : Nat) : Nat := if h : n = 0 then 0 else n % 2 + onesN (n / 2)
termination_by n
theorem onesN_zero : onesN 0 = 0 := by unfold onesN; simp
theorem onesN_step (n : Nat) : onesN n = n % 2 + onesN (n / 2) := by
  by_cases h : n = 0
  · subst h; simp [onesN_zero]
  · rw [onesN, dif_neg h]
theorem onesN_pow (k : Nat) : ∀ m, m < 2 ^ k → onesN (2 ^ k + m) = 1 + onesN m := by
  induction k with
  | zero => intro m h; obtain rfl : m = 0 := by omega
            rw [onesN_step]
  | succ k ih =>
    intro m h
    rw [Nat.pow_succ] at h ⊢
    rw [onesN_step, onesN_step m]
    have e1 : (2 ^ k * 2 + m) % 2 = m % 2 := by omega
    have e2 : (2 ^ k * 2 + m) / 2 = 2 ^ k + m / 2 := by omega
    rw [e1, e2, ih (m / 2) (by omega)]
    omega
theorem Fr.ones {F : List (Nat × H)} {l : List H} (h : Fr node z F l) : F.length = onesN l.length := by
  induction h with
  | nil => simp [onesN_zero]
  | @cons k a b F ha hF hb ih =>
    rw [List.length_append, ha, onesN_pow k _ (hb.lt k hF), ← ih]; simp; omega
/-- Two frontiers side by side. -/
theorem Fr.append {F : List (Nat × H)} {l : List H} (h : Fr node z F l) : ∀ {G : List (Nat × H)} {m : List H}, Fr node z G m → (∀ p ∈ F, ∀ q ∈ G, q.1 < p.1) → Fr node z (F ++ G) (l ++ m) := by
  induction h with
  | nil => intro G m hG _; simpa using hG
  | @cons k a b F ha hF hb ih =>
    intro G m hG hlt
    rw [List.append_assoc]
    refine Fr.cons ha (fun p hp => ?_) (ih hG fun p hp q hq => hlt p (by simp [hp]) q hq)
    rcases List.mem_append.1 hp with hp | hp
    · exact hF p hp
    · exact hlt (k, rootM node z a) (by simp) p hp
theorem Fr.snoc_inv {F : List (Nat × H)} {k : Nat} {h : H} : ∀ {l : List H}, Fr node z (F ++ [(k, h)]) l → ∃ a b, l = a ++ b ∧ Fr node z F a ∧ b.length = 2 ^ k ∧ h = rootM node z b ∧ ∀ p ∈ F, k < p.1 := by
  induction F with
  | nil =>
    intro l hl
    cases hl with
    | cons ha _ hb => cases hb; exact ⟨[], _, by simp, .nil, ha, rfl, by simp⟩
  | cons p F ih =>
    intro l hl
    cases hl with
    | @cons k' x y F' ha hF hb =>
      obtain ⟨a, b, rfl, h1, h2, h3, h4⟩ := ih hb
      refine ⟨x ++ a, b, by simp, .cons ha (fun q hq => hF q (by simp [hq])) h1, h2, h3, ?_⟩
      intro q hq
      rcases List.mem_cons.1 hq with rfl | hq
      · exact hF (k, h) (by simp)
      · exact h4 q hq
variable (node)
/-- One whole tree more, at a frontier's end (the smallest first): trees of one height are joined. -/
def addR : Nat → H → List (Nat × H) → List (Nat × H)
  | k, h, [] => [(k, h)]
  | k, h, (k', h') :: S => if k' = k then addR (k + 1) (node h' h) S else (k, h) :: (k', h') :: S
variable {node}
theorem addR_fr (S : List (Nat × H)) : ∀ (k : Nat) (b l : List H), b.length = 2 ^ k → Fr node z S.reverse l → (∀ p ∈ S, k ≤ p.1) → Fr node z (addR node k (rootM node z b) S).reverse (l ++ b) := by
  induction S with
  | nil => intro k b l hb hl _
           cases hl
           have := Fr.cons (node := node) (z := z) (F := []) hb (by simp) .nil
           simpa [addR] using this
  | cons p S ih =>
    intro k b l hb hl hk
    obtain ⟨k', h'⟩ := p
    rw [List.reverse_cons] at hl
    obtain ⟨a, c, rfl, h1, h2, h3, h4⟩ := hl.snoc_inv
    unfold addR
    by_cases he : k' = k
    · subst he
      rw [if_pos rfl, h3, ← rootM_app node z c b k' h2 (by have := Nat.two_pow_pos k'; omega) (by omega), List.append_assoc]
      refine ih (k' + 1) (c ++ b) a (by rw [List.length_append, h2, hb, Nat.pow_succ]; omega) h1 (fun p hp => ?_)
      exact h4 p (by simpa using hp)
    · rw [if_neg he, List.reverse_cons, List.reverse_cons]
      have hk' : k < k' := by have := hk (k', h') (by simp); simp at this; omega
      have h5 : Fr node z [(k, rootM node z b)] b := by simpa using Fr.cons (node := node) (z := z) (F := []) hb (by simp) .nil
      refine hl.append h5 (fun p hp q hq => ?_)
      obtain rfl : q = (k, rootM node z b) := by simpa using hq
      rcases List.mem_append.1 hp with hp | hp
      · have := h4 p hp; simp; omega
      · obtain rfl : p = (k', h') := by simpa using hp
        simpa using hk'
/-- A leaf more. -/
theorem addR_one (S : List (Nat × H)) (h : H) (l : List H) (hl : Fr node z S.reverse l) : Fr node z (addR node 0 h S).reverse (l ++ [h]) := by
  have := addR_fr S 0 [h] l rfl hl (fun _ _ => Nat.zero_le _)
  rwa [rootM_one] at this
/-- A whole tree's frontier is one root. -/
theorem Fr.whole {F : List (Nat × H)} {l : List H} (h : Fr node z F l) (k : Nat) (hl : l.length = 2 ^ k) : F = [(k, rootM node z l)] := by
  cases h with
  | nil => have := Nat.two_pow_pos k; simp at hl; omega
  | @cons k' a b F ha hF hb =>
    have h1 := hb.lt k' hF
    rw [List.length_append, ha] at hl
    have hk : k' = k := by
      rcases Nat.lt_trichotomy k' k with h | h | h
      · have : 2 ^ (k' + 1) ≤ 2 ^ k := Nat.pow_le_pow_right (by omega) h
        rw [Nat.pow_succ] at this; omega
      · exact h
      · have : 2 ^ (k + 1) ≤ 2 ^ k' := Nat.pow_le_pow_right (by omega) h
        rw [Nat.pow_succ] at this; omega
    subst hk
    have hb0 : b.length = 0 := by omega
    cases hb with
    | nil => simp
    | cons hc _ _ => have := Nat.two_pow_pos ‹Nat›; simp at hb0; rw [hb0.1] at hc; simp at hc; omega
variable (node z)
/-- The roots of a list's whole trees, the greatest first. -/
def treesM (l : List H) : List H :=
  if h : l.length = 0 then [] else rootM node z (l.take (2 ^ l.length.log2)) :: treesM (l.drop (2 ^ l.length.log2))
termination_by l.length
decreasing_by have := Nat.two_pow_pos l.length.log2; simp; omega
variable {node z}
theorem Fr.trees {F : List (Nat × H)} {l : List H} (h : Fr node z F l) : F.map (·.2) = treesM node z l := by
  induction h with
  | nil => unfold treesM; simp
  | @cons k a b F ha hF hb ih =>
    have hp := Nat.two_pow_pos k
    have h1 := hb.lt k hF
    have e : (a ++ b).length.log2 = k := by rw [List.length_append, ha, Nat.log2_eq_iff (by omega), Nat.pow_succ]; omega
    rw [treesM, dif_neg (by rw [List.length_append]; omega), e, ← ha, List.take_left, List.drop_left, ← ih]
    rfl
/-- Every list has a frontier, that which its leaves make one by one. -/
theorem fr_all (l : List H) : ∃ S : List (Nat × H), Fr node z S.reverse l ∧ S = l.foldl (fun S h => addR node 0 h S) [] := by
  suffices ∀ (m l : List H) (S : List (Nat × H)), Fr node z S.reverse l → Fr node z (m.foldl (fun S h => addR node 0 h S) S).reverse (l ++ m) by
    exact ⟨_, by simpa using this l [] [] .nil, rfl⟩
  intro m
  induction m with
  | nil => intro l S h; simpa using h
  | cons x m ih => intro l S h; have := ih (l ++ [x]) _ (addR_one S x l h); simpa using this
variable (node)
/-- Two and two. -/
def pairsM : List H → List H
  | a :: b :: l => node a b :: pairsM l
  | _ => []
variable {node}
theorem pairsM_app : ∀ (n : Nat) (a b : List H), a.length = 2 * n → pairsM node (a ++ b) = pairsM node a ++ pairsM node b := by
  intro n
  induction n with
  | zero => intro a b h; obtain rfl : a = [] := List.eq_nil_of_length_eq_zero (by omega)
            simp [pairsM]
  | succ n ih =>
    intro a b h
    match a, h with
    | x :: y :: a, h => simp [pairsM]; exact ih a b (by simp at h; omega)
theorem pairsM_length : ∀ (n : Nat) (a : List H), a.length = 2 * n → (pairsM node a).length = n := by
  intro n
  induction n with
  | zero => intro a h; obtain rfl : a = [] := List.eq_nil_of_length_eq_zero (by omega)
            rfl
  | succ n ih =>
    intro a h
    match a, h with
    | x :: y :: a, h => simp [pairsM]; exact ih a (by simp at h; omega)
theorem rootM_pairs (k : Nat) : ∀ l : List H, l.length = 2 ^ (k + 1) → rootM node z l = rootM node z (pairsM node l) := by
  induction k with
  | zero =>
    intro l h
    match l, h with
    | [a, b], _ =>
      have := rootM_app node z [a] [b] 0 rfl (by simp) (by simp)
      simpa [pairsM, rootM_one] using this
  | succ k ih =>
    intro l h
    have hp := Nat.two_pow_pos (k + 1)
    have h1 : (l.take (2 ^ (k + 1))).length = 2 ^ (k + 1) := by rw [List.length_take, h, Nat.pow_succ 2 (k + 1)]; omega
    have h2 : (l.drop (2 ^ (k + 1))).length = 2 ^ (k + 1) := by rw [List.length_drop, h, Nat.pow_succ 2 (k + 1)]; omega
    have e : 2 ^ (k + 1) = 2 * 2 ^ k := by rw [Nat.pow_succ]; omega
    have l1 := pairsM_length (node := node) (2 ^ k) _ (h1.trans e)
    have l2 := pairsM_length (node := node) (2 ^ k) _ (h2.trans e)
    have hk := Nat.two_pow_pos k
    rw [← List.take_append_drop (2 ^ (k + 1)) l, pairsM_app (2 ^ k) _ _ (h1.trans e), rootM_app node z _ _ (k + 1) h1 (by omega) (by omega), rootM_app node z _ _ k l1 (by omega) (by omega), ih _ h1, ih _ h2]
end
end Go.Proofs.YtlnedphnphabkaaDoor
/- Slices of hashes that read as lists: elements, parts, new ones, appends. -/
namespace Go.Proofs.YtlnedphnphabkaaDoor
open Go Go.RowKit
set_option maxRecDepth 8000
set_option linter.all false

/-- A hash, byte by byte. -/
abbrev Hs := Nat → UInt8
/-- A slice of hashes reads as l. -/
def RdH (W : World) (v : Value) (l : List Hs) : Prop :=
  ∃ A cap, v = .slice A l.length cap ∧ l.length ≤ cap ∧ cap ≤ maxLen ∧ (0 < l.length → ∃ b o, A = some ⟨b, o, none⟩ ∧ ∀ i d, l[i]? = some d → ∀ j, j < 32 → W.cell? ⟨b, o + i * 32 + j, none⟩ = some (bF d j))
theorem NewT.hs {w w' : World} (h : NewT w w') {v : Value} {l : List Hs} (hr : RdH w v l) : RdH w' v l := by
  obtain ⟨A, cap, hv, h1, h2, h3⟩ := hr
  refine ⟨A, cap, hv, h1, h2, fun h0 => ?_⟩
  obtain ⟨b, o, hA, hc⟩ := h3 h0
  exact ⟨b, o, hA, fun i d hd j hj => (h.out.cell (p := ⟨b, o + i * 32 + j, none⟩) (World.block_lt_of_cell? _ _ (hc i d hd j hj))).trans (hc i d hd j hj)⟩
def svH (l : List Hs) : SV NewT := ⟨fun v w => RdH w v l, fun _ _ _ h hT => hT.hs h⟩
theorem rdH_form {w : World} {v : Value} {l : List Hs} (h : RdH w v l) : ∃ A c, v = .slice A l.length c := by
  obtain ⟨A, c, hv, _⟩ := h; exact ⟨A, c, hv⟩
theorem rdH_nil (w : World) : RdH w (.slice none 0 0) [] := ⟨none, 0, rfl, Nat.le_refl _, by unfold maxLen; omega, fun h => absurd h (by simp)⟩
/-- The cells of hashes, one behind the other. -/
def hcs (l : List Hs) : List Value := l.flatMap fun d => (List.range 32).map (bF d)
theorem hcs_length (l : List Hs) : (hcs l).length = l.length * 32 := by
  induction l with
  | nil => rfl
  | cons d l ih => rw [hcs, List.flatMap_cons, List.length_append, show (l.flatMap fun d => (List.range 32).map (bF d)) = hcs l from rfl, ih]; simp; omega
theorem hcs_app (a b : List Hs) : hcs (a ++ b) = hcs a ++ hcs b := by simp [hcs]
theorem hcs_one (d : Hs) : hcs [d] = (List.range 32).map (bF d) := by simp [hcs]
theorem hcs_at (l : List Hs) : ∀ (i : Nat) (d : Hs), l[i]? = some d → ∀ j, j < 32 → (hcs l)[i * 32 + j]? = some (bF d j) := by
  induction l with
  | nil => intro i d h; simp at h
  | cons e l ih =>
    intro i d h j hj
    have hl : ((List.range 32).map (bF e)).length = 32 := by simp
    rw [show hcs (e :: l) = (List.range 32).map (bF e) ++ hcs l from rfl]
    cases i with
    | zero => simp at h; subst h; rw [List.getElem?_append_left (by rw [hl]; omega)]; simp [hj]
    | succ i => rw [List.getElem?_append_right (by rw [hl]; omega), hl, show (i + 1) * 32 + j - 32 = i * 32 + j by omega]; exact ih i d (by simpa using h) j hj
theorem hcs_one_cell (l : List Hs) : ∀ u ∈ hcs l, u.oneCell' = true := by
  intro u hu
  obtain ⟨d, _, h⟩ := List.mem_flatMap.1 hu
  obtain ⟨j, _, rfl⟩ := List.mem_map.1 h
  rfl
theorem hcs_take (l : List Hs) (n : Nat) (h : n ≤ l.length) : (hcs l).take (n * 32) = hcs (l.take n) := by
  have e := hcs_app (l.take n) (l.drop n)
  rw [List.take_append_drop] at e
  have hl : (hcs (l.take n)).length = n * 32 := by rw [hcs_length, List.length_take]; congr 1; omega
  rw [e, ← hl, List.take_left]
/-- The cells that a slice of hashes reads, as a list. -/
theorem RdH.news {w : World} {l : List Hs} {b o n c : Nat} (h : RdH w (.slice (some ⟨b, o, none⟩) n c) l) : ∀ j u, (hcs l)[j]? = some u → w.cell? ((⟨b, o, none⟩ : Addr).add j) = some u := by
  intro j u hj
  obtain ⟨A, cap, hv, _, _, h3⟩ := h
  have hlt : j < l.length * 32 := by rw [← hcs_length]; exact (List.getElem?_eq_some_iff.1 hj).1
  obtain ⟨b', o', hA, hc⟩ := h3 (by omega)
  injection hv with e1 _ _
  rw [hA] at e1
  cases e1
  have hi : j / 32 < l.length := by omega
  have hd : l[j / 32]? = some l[j / 32] := List.getElem?_eq_getElem hi
  have h1 := hcs_at l _ _ hd (j % 32) (by omega)
  rw [show j / 32 * 32 + j % 32 = j by omega] at h1
  rw [h1] at hj
  cases hj
  have := hc _ _ hd (j % 32) (by omega)
  rw [Addr.add_mid, show o + j = o + j / 32 * 32 + j % 32 by omega]
  exact this
/-- A row of hashes of the call's own reads as a list. -/
theorem rdH_own {W : World} {base : Nat} {v : Value} {l : List Hs} (h : W.ownsRow base 30 32 v l.length (hcs l)) : RdH W v l := by
  rcases h.2 with ⟨rfl, h0⟩ | ⟨g, cap, cur, rfl, hb, _, hnc, hcm, _, _⟩
  · have : l = [] := List.eq_nil_of_length_eq_zero h0
    subst this
    exact rdH_nil W
  · refine ⟨some ⟨g, 0, none⟩, cap, rfl, hnc, hcm, fun _ => ⟨g, 0, rfl, fun i d hd j hj => ?_⟩⟩
    have hc := h.cells (g := g) rfl (i * 32 + j) _ (hcs_at l i d hd j hj)
    rw [Addr.add_mid] at hc
    rw [Nat.add_assoc]; exact hc
/-- A row of cells that holds hashes reads as a list. -/
theorem rdH_row {W : World} {g t n : Nat} {f : Nat → Value} {l : List Hs} (h : W.rowIs g t n f) (hn : l.length * 32 ≤ n) (hm : l.length ≤ maxLen) (hf : ∀ i d, l[i]? = some d → ∀ j, j < 32 → f (i * 32 + j) = bF d j) : RdH W (.slice (some ⟨g, 0, none⟩) l.length l.length) l := by
  refine ⟨some ⟨g, 0, none⟩, l.length, rfl, Nat.le_refl _, hm, fun _ => ⟨g, 0, rfl, fun i d hd j hj => ?_⟩⟩
  have hi : i < l.length := (List.getElem?_eq_some_iff.1 hd).1
  rw [show 0 + i * 32 + j = i * 32 + j by omega, h.cell (by omega), hf i d hd j hj]
theorem size_hash : (Tryd.prog.info? 30).map (·.size) = some 32 := info31
theorem run_size_hash (w : World) : (sizeOf 30).run Tryd.prog w = .ok 32 w := by
  have hs := size_hash
  cases hq : Tryd.prog.info? 30 with
  | none => simp [hq] at hs
  | some i => simp [hq] at hs; simp [sizeOf, typeInfo, hq, hs]
section
variable {a : Act} {w : World} {o : Oper} {K : Act → World → Prop} {Q : Exit → Act → World → Prop} {x y : Operand}
theorem opr_len_h {l : List Hs} (ho : o.op = .call { callee := .builtin .len, args := #[x], argTypes := #[33] }) (hx : RdH w (a.eval x) l) (h : K (a.put o.dst (.int .i64 (l.length : Int))) w) : o.wp Tryd.prog a w K Q := by
  obtain ⟨A, c, hv, _⟩ := hx
  exact opr_len ho Tryd.underlying33 hv h
theorem run_idxH {b off n c i : Nat} (w : World) (hi : i < n) : (Instr.indexAt 33 (.slice (some ⟨b, off, none⟩) n c) (.int .i64 (i : Int))).run Tryd.prog w = .ok (.pointer (some ⟨b, off + i * 32, none⟩)) w := by
  simp [Instr.indexAt, asIntOf, run_underlying Tryd.underlying33, run_size_hash, hi, Addr.add_mid]
/-- An element's place: where the hash d lies. -/
def svP (d : Hs) : SV NewT := ⟨fun v w => ∃ b off, v = .pointer (some ⟨b, off, none⟩) ∧ ∀ j, j < 32 → w.cell? ⟨b, off + j, none⟩ = some (bF d j), fun _ w w' h hT => by
  obtain ⟨b, off, hv, hc⟩ := h
  exact ⟨b, off, hv, fun j hj => (hT.out.cell (p := ⟨b, off + j, none⟩) (World.block_lt_of_cell? _ _ (hc j hj))).trans (hc j hj)⟩⟩
theorem opr_idxH {l : List Hs} {i : Nat} {n : Int} {d : Hs} (hd : l[i]? = some d) (hn : n = (i : Int)) (ho : o.op = .indexAddr 33 x y) (hx : RdH w (a.eval x) l) (hy : a.eval y = .int .i64 n) (h : ∀ v, (svP d).pred v w → K (a.put o.dst v) w) : o.wp Tryd.prog a w K Q := by
  subst hn
  obtain ⟨dst, op, type, pos, after, guard⟩ := o
  simp only at ho
  subst ho
  obtain ⟨A, c, hv, _, _, h3⟩ := hx
  have hi : i < l.length := (List.getElem?_eq_some_iff.1 hd).1
  obtain ⟨b, off, rfl, hc⟩ := h3 (by omega)
  exact opr_val (s := Instr.indexAt 33 (a.eval x) (a.eval y)) rfl (by rw [hv, hy]; exact run_idxH w hi) (h _ ⟨b, off + i * 32, rfl, fun j hj => hc i d hd j hj⟩)
theorem run_ldH_at {b off : Nat} {d : Hs} {w : World} (hc : ∀ j, j < 32 → w.cell? ⟨b, off + j, none⟩ = some (bF d j)) : (Instr.loadAt 30 (.pointer (some ⟨b, off, none⟩))).run Tryd.prog w = .ok (.agg (rowA 32 (bF d))) w := by
  have hr : w.rangeAt b off (rowA 32 (bF d)).toList := fun j v hv => by
    rw [rowA_toList] at hv
    have hj : j < 32 := by have := (List.getElem?_eq_some_iff.1 hv).1; simpa using this
    simp [hj] at hv
    subst hv
    exact hc j hj
  have := run_loadAt_mid (P := Tryd.prog) w b off 30 (rowA 32 (bF d)).toList _ hr Tryd.underlying30 rfl (by rw [rowA_toList]; simpa using info31)
  simpa using this
theorem opr_ldP {d : Hs} (ho : o.op = .load 30 x) (hx : (svP d).pred (a.eval x) w) (h : K (a.put o.dst (.agg (rowA 32 (bF d)))) w) : o.wp Tryd.prog a w K Q := by
  obtain ⟨dst, op, type, pos, after, guard⟩ := o
  simp only at ho
  subst ho
  obtain ⟨b, off, hv, hc⟩ := hx
  exact opr_val (s := Instr.loadAt 30 (a.eval x)) rfl (by rw [hv]; exact run_ldH_at hc) h
theorem run_toH {A : Option Addr} {n c k : Nat} (w : World) (hk : k ≤ n) (hn : n ≤ c) : (Instr.slice 33 (.slice A n c) none (some (.int .i64 (k : Int))) none).run Tryd.prog w = .ok (.slice A k c) w := by
  have h1 : k ≤ c := by omega
  have e : A.map (fun a => a.add 0) = A := by cases A <;> simp [Addr.add_zero']
  by_cases hc0 : c = 0
  · obtain rfl : k = 0 := by omega
    subst hc0; simp [Instr.slice, run_underlying Tryd.underlying33, Instr.sliceBounds, Instr.sliceBound, asIntOf, run_size_hash, h1]
  · simp [Instr.slice, run_underlying Tryd.underlying33, Instr.sliceBounds, Instr.sliceBound, asIntOf, run_size_hash, h1, hc0, e]
theorem run_fromH {A : Option Addr} {n c k : Nat} (w : World) (hk : k ≤ n) : (Instr.slice 33 (.slice A n c) (some (.int .i64 (k : Int))) none none).run Tryd.prog w = .ok (.slice (if c = k then A else A.map (·.add (k * 32))) (n - k) (c - k)) w := by
  have h1 : k ≤ n := hk
  by_cases hc : c = k
  · simp [Instr.slice, run_underlying Tryd.underlying33, Instr.sliceBounds, Instr.sliceBound, asIntOf, run_size_hash, h1, hc]
  · simp [Instr.slice, run_underlying Tryd.underlying33, Instr.sliceBounds, Instr.sliceBound, asIntOf, run_size_hash, h1, hc]
theorem rdH_take {A : Option Addr} {l : List Hs} {c k : Nat} (h : RdH w (.slice A l.length c) l) (hk : k ≤ l.length) : RdH w (.slice A k c) (l.take k) := by
  obtain ⟨A', c', hv, h1, h2, h3⟩ := h
  cases hv
  have hl : (l.take k).length = k := by rw [List.length_take]; omega
  refine ⟨A, c, by rw [hl], by rw [hl]; omega, h2, fun h0 => ?_⟩
  rw [hl] at h0
  obtain ⟨b, off, hA, hc⟩ := h3 (by omega)
  refine ⟨b, off, hA, fun i d hd j hj => hc i d ?_ j hj⟩
  rw [List.getElem?_take] at hd
  split at hd
  · exact hd
  · cases hd
theorem rdH_drop {A : Option Addr} {l : List Hs} {c k : Nat} (h : RdH w (.slice A l.length c) l) (hk : k ≤ l.length) : RdH w (.slice (if c = k then A else A.map (·.add (k * 32))) (l.length - k) (c - k)) (l.drop k) := by
  obtain ⟨A', c', hv, h1, h2, h3⟩ := h
  cases hv
  have hl : (l.drop k).length = l.length - k := by simp
  refine ⟨_, c - k, by rw [hl], by rw [hl]; omega, by omega, fun h0 => ?_⟩
  rw [hl] at h0
  obtain ⟨b, off, rfl, hc⟩ := h3 (by omega)
  refine ⟨b, off + k * 32, by rw [if_neg (by omega)]; simp [Addr.add_mid], fun i d hd j hj => ?_⟩
  have := hc (k + i) d (by simpa using hd) j hj
  rw [show off + k * 32 + i * 32 + j = off + (k + i) * 32 + j by omega]
  exact this
/-- 'l[:k]'. -/
theorem opr_toH {l : List Hs} {k : Nat} {n : Int} (hk : k ≤ l.length) (hn : n = (k : Int)) (ho : o.op = .slice 33 x none (some y) none) (hx : RdH w (a.eval x) l) (hy : a.eval y = .int .i64 n) (h : ∀ v, RdH w v (l.take k) → K (a.put o.dst v) w) : o.wp Tryd.prog a w K Q := by
  subst hn
  obtain ⟨dst, op, type, pos, after, guard⟩ := o
  simp only at ho
  subst ho
  obtain ⟨A, c, hv⟩ := rdH_form hx
  have hc : l.length ≤ c := by obtain ⟨A', c', hv', h1, _⟩ := hx; rw [hv] at hv'; cases hv'; exact h1
  rw [hv] at hx
  exact opr_val (s := Instr.sliceAt 33 (a.eval x) none (some (a.eval y)) none) (by simp [execOp]) (by rw [hv, hy]; simp [Instr.sliceAt, run_underlying Tryd.underlying33]; exact run_toH w hk hc) (h _ (rdH_take hx hk))
/-- 'l[k:]'. -/
theorem opr_fromH {l : List Hs} {k : Nat} {n : Int} (hk : k ≤ l.length) (hn : n = (k : Int)) (ho : o.op = .slice 33 x (some y) none none) (hx : RdH w (a.eval x) l) (hy : a.eval y = .int .i64 n) (h : ∀ v, RdH w v (l.drop k) → K (a.put o.dst v) w) : o.wp Tryd.prog a w K Q := by
  subst hn
  obtain ⟨dst, op, type, pos, after, guard⟩ := o
  simp only at ho
  subst ho
  obtain ⟨A, c, hv⟩ := rdH_form hx
  rw [hv] at hx
  exact opr_val (s := Instr.sliceAt 33 (a.eval x) (some (a.eval y)) none none) (by simp [execOp]) (by rw [hv, hy]; simp [Instr.sliceAt, run_underlying Tryd.underlying33]; exact run_fromH w hk) (h _ (rdH_drop hx hk))
end
end Go.Proofs.YtlnedphnphabkaaDoor
/- An argument that is a slice of hashes, opened. -/
namespace Go.Proofs.YtlnedphnphabkaaDoor
open Go.ChangeShapes Go.WideShapes Go.ChangeAt Go.WideMaps Go.WideElems Go.RowKit
set_option maxRecDepth 8000
set_option linter.all false
/-- A slice of hashes that came in reads as a list. -/
theorem open_hashes {H : Type} {enc : TypeId × Value → H} {w : World} {base : Nat} {spare : Nat → Bool} {held : Bool} {v : Value} {d : DataW H} {p : List MemPlace} {r : Reach} {b0 : Nat}
    (hv : Value.okWide Tryd.prog w r b0 33 v) (h : DataW.Trod enc Tryd.prog w base spare held 33 v d p) : ∃ l : List Hs, RdH w v l := by
  obtain ⟨a0, len, cap, rfl⟩ := okWide_slice Tryd.underlying33 hv
  obtain ⟨fuel, hf⟩ := h
  have hcH : Tryd.prog.cellsOf 30 = 32 := by kernel_rfl
  have hc8 : Tryd.prog.cellsOf 5 = 1 := by kernel_rfl
  rcases Go.Deep.open_slice Tryd.underlying33 hf with ⟨hcs, _⟩ | ⟨a, len', cap', m, n, D, Pl, hcs, _, hl, hm, hmm, _, hx⟩
  · simp [Value.cells] at hcs
    obtain ⟨rfl, rfl, rfl⟩ := hcs
    exact ⟨[], rdH_nil w⟩
  · simp [Value.cells] at hcs
    obtain ⟨rfl, rfl, rfl⟩ := hcs
    have hlm : len ≤ m := by rw [hmm]; split <;> omega
    have each : ∀ i, i < len → ∃ e : Hs, ∀ j, j < 32 → w.cell? (a.add (i * 32 + j)) = some (bF e j) := fun i hi => by
      obtain ⟨cs', h1, h2⟩ := hx i (by omega)
      rw [hcH] at h1
      obtain ⟨_, hlen, hcell⟩ := World.cells?_some h1
      obtain ⟨xs, k, _, _, _, hxl, hel⟩ := DataW.trod_array Tryd.underlying30 h2
      have hb : ∀ j, j < 32 → ∃ z, cs'[j]? = some (.int .u8 z) ∧ (Lit.int .u8 z).wf = true := fun j hj => by
        have h3 := hel j hj
        rw [hc8, List.getElem?_eq_getElem (by omega)] at h3
        obtain ⟨z, hc, _, hw⟩ := DataW.trod_int Tryd.underlying5 h3
        refine ⟨z, ?_, hw⟩
        have := congrArg (·[0]?) hc
        simpa [List.getElem?_take, List.getElem?_drop] using this
      refine ⟨fun j => match cs'[j]? with | some (.int _ z) => UInt8.ofNat z.toNat | _ => 0, fun j hj => ?_⟩
      obtain ⟨z, hz, hw⟩ := hb j hj
      have h4 := hcell j (by omega)
      rw [Go.Deep.add_add, hz] at h4
      rw [h4]
      have hbd := bounds_u8 hw
      simp only [bF, hz, bN]
      rw [UInt8.toNat_ofNat']
      congr 2
      omega
    obtain ⟨q, hq⟩ := Go.Deep.choose_lt each
    have hlen : ((List.range len).map q).length = len := by simp
    refine ⟨(List.range len).map q, some a, cap, by rw [hlen], by rw [hlen]; exact hl, hm, fun h0 => ?_⟩
    rw [hlen] at h0
    obtain ⟨b, off, spot⟩ := a
    have hspot : spot = none := by simpa [Addr.add] using World.cell?_spot (hq 0 h0 0 (by omega))
    subst hspot
    refine ⟨b, off, rfl, fun i d hd j hj => ?_⟩
    have hi : i < len := by have := (List.getElem?_eq_some_iff.1 hd).1; simpa using this
    simp [hi] at hd
    subst hd
    have := hq i hi j hj
    rwa [Go.WideShapes.add_plain, ← Nat.add_assoc] at this
end Go.Proofs.YtlnedphnphabkaaDoor
/- The laws' arguments, opened: slices of slices of bytes, with what bounds each. -/
namespace Go.Proofs.YtlnedphnphabkaaDoor
open Go.ChangeShapes Go.WideShapes Go.ChangeAt Go.WideMaps Go.WideElems Go.RowKit
set_option maxRecDepth 8000
set_option linter.all false


theorem weights_all_mem {H : Type} {P : Program} {e : TypeId} : ∀ {l : List (DataW H)} {d : DataW H}, d ∈ l → ∀ n ∈ d.weights P e, n ∈ DataW.weightsAll P e l
  | d' :: r, d, hd, n, hn => by
    simp only [DataW.weightsAll, List.mem_append]
    rcases List.mem_cons.1 hd with rfl | h
    · exact Or.inl hn
    · exact Or.inr (weights_all_mem h n hn)
theorem weights_one {H : Type} {P : Program} {ts : List TypeId} {ds : List (DataW H)} (h : (DataW.weightsEach P ts ds).all (· ≤ reachBytes) = true) {j : Nat} {t : TypeId} {d : DataW H} (ht : ts[j]? = some t) (hd : ds[j]? = some d) : ∀ n ∈ d.weights P t, n ≤ reachBytes :=
  fun n hn => by simpa using List.all_eq_true.1 h n (DataW.weights_mem_each ht hd n hn)
theorem cells1 : Tryd.prog.cellsOf 23 = 1 := by kernel_rfl
theorem cells1b : Tryd.prog.cellsOf 5 = 1 := by kernel_rfl
theorem bytes1 : Tryd.prog.bytesOf 5 = 1 := by kernel_rfl
/-- A slice of slices of bytes that came in reads as a list of lists; each is short enough to lie in memory. -/
theorem open_parts {H : Type} {enc : TypeId × Value → H} {w : World} {base : Nat} {held : Bool} {v : Value} {d : DataW H} {p : List MemPlace} {r : Reach} {b0 : Nat}
    (hv : Value.okWide Tryd.prog w r b0 22 v) (h : DataW.Trod enc Tryd.prog w base (fun _ => true) held 22 v d p) (hw : ∀ n ∈ d.weights Tryd.prog 22, n ≤ reachBytes) : ∃ ls : List (List UInt8), Parts w v ls ∧ ∀ l ∈ ls, l.length ≤ 140737488351232 := by
  obtain ⟨a0, len, cap, rfl⟩ := okWide_slice Tryd.underlying22 hv
  obtain ⟨fuel, hf⟩ := h
  rcases Go.Deep.open_int_rows Tryd.underlying22 Tryd.underlying23 Tryd.underlying5 cells1 cells1b hf with ⟨hcs, _⟩ | ⟨a, len', cap', A, L, C, Z, hcs, _, hl, hm, hx, hr⟩
  · simp [Value.cells] at hcs
    obtain ⟨rfl, rfl, rfl⟩ := hcs
    exact ⟨[], ⟨[], ⟨none, 0, rfl, by simp, by unfold maxLen; omega, fun h0 => absurd h0 (by simp), fun x hx => by simp at hx⟩, rfl⟩, fun l hl => by simp at hl⟩
  · simp [Value.cells] at hcs
    obtain ⟨rfl, rfl, rfl⟩ := hcs
    simp only [Prod.mk.injEq] at hx
    obtain ⟨hd, _⟩ := hx
    have hlenl : ∀ i, i < len → ((Z i).take (L i)).length = L i := fun i hi => by
      obtain ⟨_, h1, _, h3, _⟩ := hr i (by omega)
      simp; omega
    refine ⟨(List.range len).map fun i => ((Z i).take (L i)).map fun z => UInt8.ofNat z.toNat, ⟨(List.range len).map fun i => (.slice (A i) (L i) (C i), ((Z i).take (L i)).map fun z => UInt8.ofNat z.toNat), ⟨some a, cap, by simp, by simpa using hl, hm, fun h0 => ?_, fun x hx => ?_⟩, by simp⟩, fun l hlm => ?_⟩
    · have h0' : 0 < len := by simpa using h0
      obtain ⟨b, off, spot⟩ := a
      have hspot : spot = none := by simpa [Addr.add] using World.cell?_spot (hr 0 (by omega)).1
      subst hspot
      refine ⟨b, off, rfl, by simp, fun i x hx => ?_⟩
      rw [List.getElem?_map] at hx
      have hi : i < len := by
        have := (List.getElem?_eq_some_iff.1 (show ((List.range len).map fun i => ((Value.slice (A i) (L i) (C i)), ((Z i).take (L i)).map fun z => UInt8.ofNat z.toNat))[i]? = some x by rw [List.getElem?_map]; exact hx)).1
        simpa using this
      simp [hi] at hx
      subst hx
      have := (hr i (by omega)).1
      rwa [Go.WideShapes.add_plain] at this
    · obtain ⟨i, hi, rfl⟩ := List.mem_map.1 hx
      have hi' : i < len := by simpa using hi
      obtain ⟨_, h1, h2, h3, h4, h5, h6⟩ := hr i (by omega)
      have hll : (((Z i).take (L i)).map fun z => UInt8.ofNat z.toNat).length = L i := by simp; omega
      refine ⟨A i, C i, by rw [hll], by rw [hll]; exact h1, h2, fun h0 => ?_⟩
      rw [hll] at h0
      cases hA : A i with
      | none => have := h5 hA; omega
      | some a' =>
        obtain ⟨_, h7⟩ := h6 a' hA
        obtain ⟨b, off, spot⟩ := a'
        have hspot : spot = none := by simpa [Addr.add] using World.cell?_spot (h7 0 (by omega))
        subst hspot
        refine ⟨b, off, rfl, by simp, fun j hj => ?_⟩
        rw [hll] at hj
        have hc := h7 j (by omega)
        rw [Go.WideShapes.add_plain] at hc
        rw [hc]
        have hzj : (Z i)[j]? = some (Z i)[j] := List.getElem?_eq_getElem (by omega)
        have hb := bounds_u8 (h4 (Z i)[j] (List.getElem_mem (by omega)))
        have e1 : bAt (((Z i).take (L i)).map fun z => UInt8.ofNat z.toNat) j = UInt8.ofNat (Z i)[j].toNat := by simp [bAt, hj, hzj]
        rw [e1]
        unfold bN
        rw [UInt8.toNat_ofNat']
        simp [List.getD, hzj]
        omega
    · obtain ⟨i, hi, rfl⟩ := List.mem_map.1 hlm
      have hi' : i < len := by simpa using hi
      rw [List.length_map, hlenl i hi']
      obtain ⟨_, h1, _, h3, _, h5, _⟩ := hr i (by omega)
      cases hA : A i with
      | none => have := h5 hA; omega
      | some a' =>
        have hmem : (Go.Deep.intRow (H := H) .u8 (A i) (L i) (Z i)) ∈ (List.range len).map fun r => Go.Deep.intRow (H := H) .u8 (A r) (L r) (Z r) := List.mem_map.2 ⟨i, hi, rfl⟩
        have hwt := hw ((((lits (H := H) .u8 ((Z i).take (L i))).length + (lits (H := H) .u8 ((Z i).drop (L i))).length)) * Tryd.prog.bytesOf 5) (by
          rw [hd]
          simp only [DataW.weights, Tryd.underlying22, List.mem_cons, List.mem_append]
          refine Or.inr (Or.inl (weights_all_mem hmem _ ?_))
          simp only [Go.Deep.intRow, hA, DataW.weights, Tryd.underlying23, List.mem_cons]
          exact Or.inl trivial)
        rw [bytes1] at hwt
        have hr1 : reachBytes = 140737488351232 := rfl
        simp [lits] at hwt
        omega
end Go.Proofs.YtlnedphnphabkaaDoor
/- Slices of slices of bytes that read as lists of texts: parts, elements. -/
namespace Go.Proofs.YtlnedphnphabkaaDoor
open Go Go.RowKit
set_option maxRecDepth 8000
set_option linter.all false
theorem parts_form {w : World} {v : Value} {ls : List (List UInt8)} (h : Parts w v ls) : ∃ A c, v = .slice A ls.length c ∧ ls.length ≤ c := by
  obtain ⟨ps, ⟨A, c, hv, h1, _⟩, rfl⟩ := h
  exact ⟨A, c, by rw [hv, List.length_map], by rw [List.length_map]; exact h1⟩
theorem parts_none (w : World) : Parts w (.slice none 0 0) [] := ⟨[], ⟨none, 0, rfl, by simp, by unfold maxLen; omega, fun h => absurd h (by simp), fun x hx => by simp at hx⟩, rfl⟩
theorem parts_take {w : World} {A : Option Addr} {c n k : Nat} {ls : List (List UInt8)} (h : Parts w (.slice A n c) ls) (hk : k ≤ ls.length) : Parts w (.slice A k c) (ls.take k) := by
  obtain ⟨ps, ⟨A', c', hv, h1, h2, h3, h4⟩, rfl⟩ := h
  cases hv
  rw [List.length_map] at hk
  have hl : (ps.take k).length = k := by rw [List.length_take]; omega
  refine ⟨ps.take k, ⟨A, c, by rw [hl], by omega, h2, fun h0 => ?_, fun x hx => h4 x (List.mem_of_mem_take hx)⟩, by rw [List.map_take]⟩
  rw [hl] at h0
  obtain ⟨b, o, hA, hb, hc⟩ := h3 (by omega)
  refine ⟨b, o, hA, hb, fun i x hx => hc i x ?_⟩
  rw [List.getElem?_take] at hx
  split at hx
  · exact hx
  · cases hx
theorem parts_drop {w : World} {A : Option Addr} {c n k : Nat} {ls : List (List UInt8)} (h : Parts w (.slice A n c) ls) (hk : k ≤ ls.length) : Parts w (.slice (if c = k then A else A.map (·.add k)) (n - k) (c - k)) (ls.drop k) := by
  obtain ⟨ps, ⟨A', c', hv, h1, h2, h3, h4⟩, rfl⟩ := h
  cases hv
  rw [List.length_map] at hk
  have hl : (ps.drop k).length = ps.length - k := by simp
  refine ⟨ps.drop k, ⟨_, c - k, by rw [hl], by omega, by omega, fun h0 => ?_, fun x hx => h4 x (List.mem_of_mem_drop hx)⟩, by rw [List.map_drop]⟩
  rw [hl] at h0
  obtain ⟨b, o, rfl, hb, hc⟩ := h3 (by omega)
  refine ⟨b, o + k, by rw [if_neg (by omega)]; simp [Addr.add_mid], hb, fun i x hx => ?_⟩
  have := hc (k + i) x (by simpa using hx)
  rw [show o + k + i = o + (k + i) by omega]
  exact this
theorem run_size_b (w : World) : (sizeOf 23).run Tryd.prog w = .ok 1 w := by
  have hs : (Tryd.prog.info? 23).map (·.size) = some 1 := by kernel_rfl
  cases hq : Tryd.prog.info? 23 with
  | none => simp [hq] at hs
  | some i => simp [hq] at hs; simp [sizeOf, typeInfo, hq, hs]
/-- An element's place: where a slice of bytes lies that reads as l. -/
def svPT (l : List UInt8) : SV NewT := ⟨fun v w => ∃ b off u, v = .pointer (some ⟨b, off, none⟩) ∧ w.cell? ⟨b, off, none⟩ = some u ∧ RdV w [] u l, fun _ w w' h hT => by
  obtain ⟨b, off, u, hv, hc, hr⟩ := h
  exact ⟨b, off, u, hv, (hT.out.cell (p := ⟨b, off, none⟩) (World.block_lt_of_cell? _ _ hc)).trans hc, hT.rd hr⟩⟩
section
variable {a : Act} {w : World} {o : Oper} {K : Act → World → Prop} {Q : Exit → Act → World → Prop} {x y : Operand} {ls : List (List UInt8)} {k : Nat} {n : Int}
theorem run_toT {A : Option Addr} {n c k : Nat} (w : World) (hk : k ≤ n) (hn : n ≤ c) : (Instr.slice 22 (.slice A n c) none (some (.int .i64 (k : Int))) none).run Tryd.prog w = .ok (.slice A k c) w := by
  have h1 : k ≤ c := by omega
  have e : A.map (fun a => a.add 0) = A := by cases A <;> simp [Addr.add_zero']
  by_cases hc0 : c = 0
  · obtain rfl : k = 0 := by omega
    subst hc0; simp [Instr.slice, run_underlying Tryd.underlying22, Instr.sliceBounds, Instr.sliceBound, asIntOf, run_size_b, h1]
  · simp [Instr.slice, run_underlying Tryd.underlying22, Instr.sliceBounds, Instr.sliceBound, asIntOf, run_size_b, h1, hc0, e]
theorem run_fromT {A : Option Addr} {n c k : Nat} (w : World) (hk : k ≤ n) : (Instr.slice 22 (.slice A n c) (some (.int .i64 (k : Int))) none none).run Tryd.prog w = .ok (.slice (if c = k then A else A.map (·.add k)) (n - k) (c - k)) w := by
  have h1 : k ≤ n := hk
  by_cases hc : c = k
  · simp [Instr.slice, run_underlying Tryd.underlying22, Instr.sliceBounds, Instr.sliceBound, asIntOf, run_size_b, h1, hc]
  · simp [Instr.slice, run_underlying Tryd.underlying22, Instr.sliceBounds, Instr.sliceBound, asIntOf, run_size_b, h1, hc]
/-- 'l[:k]'. -/
theorem opr_toT (hk : k ≤ ls.length) (hn : n = (k : Int)) (ho : o.op = .slice 22 x none (some y) none) (hx : Parts w (a.eval x) ls) (hy : a.eval y = .int .i64 n) (h : ∀ v, Parts w v (ls.take k) → K (a.put o.dst v) w) : o.wp Tryd.prog a w K Q := by
  subst hn
  obtain ⟨dst, op, type, pos, after, guard⟩ := o
  simp only at ho
  subst ho
  obtain ⟨A, c, hv, hc⟩ := parts_form hx
  rw [hv] at hx
  exact opr_val (s := Instr.sliceAt 22 (a.eval x) none (some (a.eval y)) none) (by simp [execOp]) (by rw [hv, hy]; simp [Instr.sliceAt, run_underlying Tryd.underlying22]; exact run_toT w hk hc) (h _ (parts_take hx hk))
/-- 'l[k:]'. -/
theorem opr_fromT (hk : k ≤ ls.length) (hn : n = (k : Int)) (ho : o.op = .slice 22 x (some y) none none) (hx : Parts w (a.eval x) ls) (hy : a.eval y = .int .i64 n) (h : ∀ v, Parts w v (ls.drop k) → K (a.put o.dst v) w) : o.wp Tryd.prog a w K Q := by
  subst hn
  obtain ⟨dst, op, type, pos, after, guard⟩ := o
  simp only at ho
  subst ho
  obtain ⟨A, c, hv, hc⟩ := parts_form hx
  rw [hv] at hx
  exact opr_val (s := Instr.sliceAt 22 (a.eval x) (some (a.eval y)) none none) (by simp [execOp]) (by rw [hv, hy]; simp [Instr.sliceAt, run_underlying Tryd.underlying22]; exact run_fromT w hk) (h _ (parts_drop hx hk))
theorem parts_at {w : World} {v : Value} {i : Nat} {l : List UInt8} (h : Parts w v ls) (hi : ls[i]? = some l) : ∃ b off c u, v = .slice (some ⟨b, off, none⟩) ls.length c ∧ w.cell? ⟨b, off + i, none⟩ = some u ∧ RdV w [] u l := by
  obtain ⟨ps, ⟨A, c, hv, h1, h2, h3, h4⟩, rfl⟩ := h
  have hl : i < ps.length := by have := (List.getElem?_eq_some_iff.1 hi).1; simpa using this
  obtain ⟨b, off, rfl, _, hc⟩ := h3 (by omega)
  have hx : ps[i]? = some ps[i] := List.getElem?_eq_getElem hl
  have e : ps[i].2 = l := by rw [List.getElem?_map, hx] at hi; simpa using hi
  exact ⟨b, off, c, ps[i].1, by rw [hv, List.length_map], hc i _ hx, e ▸ h4 _ (List.getElem_mem hl)⟩
/-- 'l[i]': its place, and what lies there. -/
theorem opr_idxT {i : Nat} {l : List UInt8} (hi : ls[i]? = some l) (hn : n = (i : Int)) (ho : o.op = .indexAddr 22 x y) (hx : Parts w (a.eval x) ls) (hy : a.eval y = .int .i64 n) (h : ∀ v, (svPT l).pred v w → K (a.put o.dst v) w) : o.wp Tryd.prog a w K Q := by
  subst hn
  obtain ⟨dst, op, type, pos, after, guard⟩ := o
  simp only at ho
  subst ho
  obtain ⟨b, off, c, u, hv, hc, hr⟩ := parts_at hx hi
  have hl : i < ls.length := (List.getElem?_eq_some_iff.1 hi).1
  exact opr_val (s := Instr.indexAt 22 (a.eval x) (a.eval y)) (v := .pointer (some ⟨b, off + i, none⟩)) (w' := w) rfl (by rw [hv, hy]; simp [Instr.indexAt, asIntOf, run_underlying Tryd.underlying22, run_size_b, hl, Addr.add_mid]) (h _ ⟨b, off + i, u, rfl, hc, hr⟩)
theorem opr_ldT {l : List UInt8} (ho : o.op = .load 23 x) (hx : (svPT l).pred (a.eval x) w) (h : ∀ u, RdV w [] u l → K (a.put o.dst u) w) : o.wp Tryd.prog a w K Q := by
  obtain ⟨b, off, u, hv, hc, hr⟩ := hx
  exact opr_ld1 Tryd.underlying23 rfl ho hv hc (h u hr)
end
end Go.Proofs.YtlnedphnphabkaaDoor
/- New slices of hashes, and appends onto a call's own. -/
namespace Go.Proofs.YtlnedphnphabkaaDoor
open Go Go.RowKit
set_option maxRecDepth 8000
set_option linter.all false

theorem infoH : (Tryd.prog.info? 30).map (fun i => (i.zero, i.size, i.bytes)) = some (some (.agg (rowA 32 (bF fun _ => 0))), 32, 32) := by kernel_rfl
theorem run_bsH0 (w : World) : (Instr.buildSlice 33 0 #[]).run Tryd.prog w = .ok (.slice (some ⟨w.heap.size, 0, none⟩) 0 0) (w.alloc (.cells #[] 30)) := by kernel_rfl
theorem run_bsH1 (d : Hs) (w : World) : (Instr.buildSlice 33 1 #[(0, .agg (rowA 32 (bF d)))]).run Tryd.prog w = .ok (.slice (some ⟨w.heap.size, 0, none⟩) 1 1) (w.alloc (.cells (rowA 32 (bF d)) 30)) := by kernel_rfl
theorem run_bsH2 (d e : Hs) (w : World) : (Instr.buildSlice 33 2 #[(0, .agg (rowA 32 (bF d))), (1, .agg (rowA 32 (bF e)))]).run Tryd.prog w = .ok (.slice (some ⟨w.heap.size, 0, none⟩) 2 2) (w.alloc (.cells (rowA 64 fun i => bif Nat.blt i 32 then bF d i else bF e (i - 32)) 30)) := by kernel_rfl
/-- A row of hashes of the call's own, in blocks from B on. -/
def OwnH (W : World) (B : Nat) (v : Value) (l : List Hs) : Prop := W.ownsRow B 30 32 v l.length (hcs l)
theorem OwnH.rd {W : World} {B : Nat} {v : Value} {l : List Hs} (h : OwnH W B v l) : RdH W v l := rdH_own h
theorem ownH_nil (W : World) (B : Nat) : OwnH W B (.slice none 0 0) [] := World.ownsRow_nil W B _ _
theorem OwnH.lt {W : World} {B : Nat} {v : Value} {l : List Hs} (h : OwnH W B v l) : ∀ k, v.ownBlock = some k → B ≤ k ∧ k < W.heap.size := World.ownsRow.lt h
theorem OwnH.keep {W W' : World} {B : Nat} {v : Value} {l : List Hs} (h : OwnH W B v l) (hk : ∀ k, v.ownBlock = some k → W'.heap[k]? = W.heap[k]?) : OwnH W' B v l := by
  obtain ⟨h1, h2⟩ := h
  refine ⟨h1, ?_⟩
  rcases h2 with h2 | ⟨g, cap, cur, hv, hb, hg, r⟩
  · exact .inl h2
  · exact .inr ⟨g, cap, cur, hv, hb, (hk g (by rw [hv]; rfl)).trans hg, r⟩
theorem OwnH.new {W W' : World} {B : Nat} {v : Value} {l : List Hs} (h : OwnH W B v l) (hN : NewT W W') : OwnH W' B v l := h.keep fun k hk => hN.out.block k (h.lt k hk).2
theorem OwnH.cap {W : World} {B : Nat} {v : Value} {l : List Hs} (h : OwnH W B v l) : ∃ A c, v = .slice A l.length c ∧ l.length ≤ c := by
  rcases h.2 with ⟨hv, h0⟩ | ⟨g, cap, cur, hv, _, _, hc, _⟩
  · exact ⟨none, 0, by rw [hv, h0], by omega⟩
  · exact ⟨_, cap, hv, hc⟩
/-- The last ones are left off. -/
theorem OwnH.take {W : World} {B : Nat} {A : Option Addr} {n c k : Nat} {l : List Hs} (h : OwnH W B (.slice A n c) l) (hk : k ≤ l.length) (h0 : 0 < l.length) : OwnH W B (.slice A k c) (l.take k) := by
  have hl : (l.take k).length = k := by rw [List.length_take]; omega
  refine ⟨hcs_length _, ?_⟩
  rcases h.2 with ⟨_, h2⟩ | ⟨g, cap, cur, hv, hb, hg, hc, hm, hs, hx⟩
  · omega
  · cases hv
    refine .inr ⟨g, c, cur, by rw [hl], hb, hg, by rw [hl]; omega, hm, hs, ?_⟩
    have e := congrArg (List.take (k * 32)) hx
    rw [List.take_take, hcs_take l k hk, Nat.min_eq_left (Nat.mul_le_mul_right 32 hk)] at e
    rw [hl]; exact e
theorem run_appH {W : World} {B : Nat} {v u : Value} {l m : List Hs} (h : OwnH W B v l) (hr : RdH W u m) (hn : l.length + m.length ≤ 1000000) (hB : B ≤ W.heap.size) (ty : TypeId) :
    ∃ v' w', (Builtin.append_ #[33, 33] ty #[v, u]).run Tryd.prog W = .ok v' w' ∧ OwnH w' B v' (l ++ m) ∧ W.grownBy w' v.ownBlock := by
  obtain ⟨i0, hi, hz0, hz1, hz2⟩ := info_parts infoH
  have hr0 := hr
  obtain ⟨A, cap, rfl, h1, h2, h3⟩ := hr
  cases A with
  | none =>
    have h0 : m = [] := by
      cases m with
      | nil => rfl
      | cons b l => obtain ⟨_, _, h, _⟩ := h3 (by simp); cases h
    subst h0
    refine ⟨v, W, ?_, by simpa using h, World.grownBy.refl W _⟩
    rcases h.2 with ⟨rfl, h0⟩ | ⟨g, cap', cur, rfl, _, _, hnc, _⟩
    · simp [Builtin.append_, run_underlying Tryd.underlying33, sizeOf, typeInfo, hi, Builtin.lenOf, Builtin.firstCells]
    · simp [Builtin.append_, run_underlying Tryd.underlying33, sizeOf, typeInfo, hi, Builtin.lenOf, Builtin.firstCells, hnc, storeCells]
  | some ad =>
    have hcells : ∀ j u, (hcs m)[j]? = some u → W.cell? (ad.add j) = some u := fun j u hj => by
      have hlt : j < m.length * 32 := by rw [← hcs_length]; exact (List.getElem?_eq_some_iff.1 hj).1
      obtain ⟨b, o, hA, _⟩ := h3 (by omega)
      cases hA
      exact hr0.news j u hj
    obtain ⟨v', w', hrun, ho, hg, _⟩ := run_append_own (P := Tryd.prog) W B 33 ty 30 i0 _ 32 32 Tryd.underlying33 hi hz0 hz1 hz2 (by rw [show (Value.agg (rowA 32 (bF fun _ => 0))).cells = rowA 32 (bF fun _ => 0) from rfl, rowA_size]) (by omega) v l.length (hcs l) h ad m.length cap (hcs m) (hcs_length m) hcells (hcs_one_cell m) (by unfold maxLen; omega) (by omega) hB
    refine ⟨v', w', hrun, ?_, hg⟩
    unfold OwnH
    rw [List.length_append, hcs_app]
    exact ho
section
variable {a : Act} {w : World} {o : Oper} {K : Act → World → Prop} {Q : Exit → Act → World → Prop} {x y : Operand}
theorem rdH_one (w : World) (d : Hs) : RdH (w.alloc (.cells (rowA 32 (bF d)) 30)) (.slice (some ⟨w.heap.size, 0, none⟩) 1 1) [d] := by
  refine rdH_row (l := [d]) (rowIs_box w 30 32 (bF d)) (by simp) (by simp [maxLen]) fun i e he j hj => ?_
  have hi : i < 1 := (List.getElem?_eq_some_iff.1 he).1
  obtain rfl : i = 0 := by omega
  simp at he
  subst he
  rw [show 0 * 32 + j = j by omega]
theorem opr_bsH1 {d : Hs} (ho : o.op = .buildSlice 33 1 #[(0, x)]) (hx : a.eval x = .agg (rowA 32 (bF d))) (h : ∀ v w', NewT w w' → RdH w' v [d] → K (a.put o.dst v) w') : o.wp Tryd.prog a w K Q := by
  obtain ⟨dst, op, type, pos, after, guard⟩ := o
  simp only at ho
  subst ho
  exact opr_val (s := Instr.buildSlice 33 1 #[(0, a.eval x)]) (by simp [execOp]) (by rw [hx]; exact run_bsH1 d w) (h _ _ (NewT.alloc _ _) (rdH_one w d))
theorem opr_bsH2 {d e : Hs} (ho : o.op = .buildSlice 33 2 #[(0, x), (1, y)]) (hx : a.eval x = .agg (rowA 32 (bF d))) (hy : a.eval y = .agg (rowA 32 (bF e))) (h : ∀ v w', NewT w w' → RdH w' v [d, e] → K (a.put o.dst v) w') : o.wp Tryd.prog a w K Q := by
  obtain ⟨dst, op, type, pos, after, guard⟩ := o
  simp only at ho
  subst ho
  refine opr_val (s := Instr.buildSlice 33 2 #[(0, a.eval x), (1, a.eval y)]) (by simp [execOp]) (by rw [hx, hy]; exact run_bsH2 d e w) (h _ _ (NewT.alloc _ _) ?_)
  refine rdH_row (l := [d, e]) (rowIs_box w 30 64 _) (by simp) (by simp [maxLen]) fun i f he j hj => ?_
  have hi : i < 2 := (List.getElem?_eq_some_iff.1 he).1
  have hi' : i = 0 ∨ i = 1 := by omega
  rcases hi' with rfl | rfl
  · simp at he; subst he
    have : Nat.blt (0 * 32 + j) 32 = true := by rw [Nat.blt_eq]; omega
    rw [this, show 0 * 32 + j = j by omega]; rfl
  · simp at he; subst he
    have : Nat.blt (1 * 32 + j) 32 = false := by
      cases hb : Nat.blt (1 * 32 + j) 32
      · rfl
      · rw [Nat.blt_eq] at hb; omega
    rw [this, show 1 * 32 + j - 32 = j by omega]; rfl
theorem opr_bsH0 {B : Nat} (ho : o.op = .buildSlice 33 0 #[]) (hB : B ≤ w.heap.size) (h : ∀ v w', NewT w w' → OwnH w' B v [] → K (a.put o.dst v) w') : o.wp Tryd.prog a w K Q := by
  obtain ⟨dst, op, type, pos, after, guard⟩ := o
  simp only at ho
  subst ho
  exact opr_val (s := Instr.buildSlice 33 0 #[]) (by simp [execOp]) (run_bsH0 w) (h _ _ (NewT.alloc _ _) (World.ownsRow_made w #[] 0 hB (by unfold maxLen; omega) (by simp)))
end
end Go.Proofs.YtlnedphnphabkaaDoor
/- Where a list is split: math/bits.Len, Split, and the reference's. -/
namespace Go.Proofs.YtlnedphnphabkaaDoor
open Go Go.RowKit
set_option maxRecDepth 8000
set_option linter.all false
/-- How many binary digits a number has. -/
def bitLen (x : Nat) : Nat := if x = 0 then 0 else x.log2 + 1
theorem bitLen_div (x s : Nat) (h : 2 ^ s ≤ x) : bitLen x = s + bitLen (x / 2 ^ s) := by
  have hp := Nat.two_pow_pos s
  have h1 : 1 ≤ x / 2 ^ s := (Nat.one_le_div_iff hp).2 h
  unfold bitLen
  rw [if_neg (by omega), if_neg (by omega)]
  have h2 : x.log2 = (x / 2 ^ s).log2 + s := by
    rw [Nat.log2_eq_iff (by omega)]
    have a1 := Nat.log2_self_le (n := x / 2 ^ s) (by omega)
    have a2 := Nat.lt_log2_self (n := x / 2 ^ s)
    have e := Nat.div_add_mod x (2 ^ s)
    have m := Nat.mod_lt x hp
    constructor
    · rw [Nat.pow_add]
      exact Nat.le_trans (Nat.mul_le_mul_right _ a1) (Nat.div_mul_le_self _ _)
    · have b : (x / 2 ^ s + 1) * 2 ^ s ≤ 2 ^ ((x / 2 ^ s).log2 + 1) * 2 ^ s := Nat.mul_le_mul_right _ a2
      rw [← Nat.pow_add, show (x / 2 ^ s).log2 + 1 + s = (x / 2 ^ s).log2 + s + 1 by omega, Nat.add_mul, Nat.mul_comm (x / 2 ^ s)] at b
      omega
  omega
/-- A table of how many digits the numbers below 256 have. -/
def TabOk (T : ByteArray) : Prop := T.size = 256 ∧ ((List.range 256).all fun m => (T.get! m).toNat == bitLen m) = true
theorem tab_at {T : ByteArray} (hT : TabOk T) (y : Nat) (h : y < T.size) : (T[y]'h).toNat = bitLen y := by
  have h1 := List.all_eq_true.1 hT.2 y (List.mem_range.2 (by rw [← hT.1]; exact h))
  have h2 : T.get! y = T[y]'h := by
    show T.data[y]! = T.data[y]'h
    rw [getElem!_pos T.data y h]
  rw [h2] at h1
  simpa using h1
theorem wrap_add0 (q : Nat) (h : q ≤ 8) : wrap64 (wrap64 (q : Int)) = (q : Int) := by unfold wrap64; omega
theorem wrap_add1 (q : Nat) (h : q ≤ 8) (a : Nat) (ha : a ≤ 100) : wrap64 ((a : Int) + wrap64 (q : Int)) = ((a + q : Nat) : Int) := by unfold wrap64; omega
theorem wrap_add2 (q : Nat) (h : q ≤ 8) (a b : Nat) (ha : a + b ≤ 100) : wrap64 (((a + b : Nat) : Int) + wrap64 (q : Int)) = ((a + (b + q) : Nat) : Int) := by unfold wrap64; omega
theorem wrap_add3 (q : Nat) (h : q ≤ 8) (a b c : Nat) (ha : a + b + c ≤ 100) : wrap64 (((a + b + c : Nat) : Int) + wrap64 (q : Int)) = ((a + (b + (c + q)) : Nat) : Int) := by unfold wrap64; omega
def tab8 : ByteArray := ⟨#[0, 1, 2, 2, 3, 3, 3, 3, 4, 4, 4, 4, 4, 4, 4, 4, 5, 5, 5, 5, 5, 5, 5, 5, 5, 5, 5, 5, 5, 5, 5, 5, 6, 6, 6, 6, 6, 6, 6, 6, 6, 6, 6, 6, 6, 6, 6, 6, 6, 6, 6, 6, 6, 6, 6, 6, 6, 6, 6, 6, 6, 6, 6, 6, 7, 7, 7, 7, 7, 7, 7, 7, 7, 7, 7, 7, 7, 7, 7, 7, 7, 7, 7, 7, 7, 7, 7, 7, 7, 7, 7, 7, 7, 7, 7, 7, 7, 7, 7, 7, 7, 7, 7, 7, 7, 7, 7, 7, 7, 7, 7, 7, 7, 7, 7, 7, 7, 7, 7, 7, 7, 7, 7, 7, 7, 7, 7, 7, 8, 8, 8, 8, 8, 8, 8, 8, 8, 8, 8, 8, 8, 8, 8, 8, 8, 8, 8, 8, 8, 8, 8, 8, 8, 8, 8, 8, 8, 8, 8, 8, 8, 8, 8, 8, 8, 8, 8, 8, 8, 8, 8, 8, 8, 8, 8, 8, 8, 8, 8, 8, 8, 8, 8, 8, 8, 8, 8, 8, 8, 8, 8, 8, 8, 8, 8, 8, 8, 8, 8, 8, 8, 8, 8, 8, 8, 8, 8, 8, 8, 8, 8, 8, 8, 8, 8, 8, 8, 8, 8, 8, 8, 8, 8, 8, 8, 8, 8, 8, 8, 8, 8, 8, 8, 8, 8, 8, 8, 8, 8, 8, 8, 8, 8, 8, 8, 8, 8, 8, 8, 8, 8, 8, 8, 8, 8, 8]⟩
theorem tab8_ok : TabOk tab8 := ⟨by decide +kernel, by decide +kernel⟩
theorem bitLen_small (y : Nat) (h : y < 256) : bitLen y ≤ 8 := by
  unfold bitLen
  by_cases h0 : y = 0
  · rw [if_pos h0]; omega
  · rw [if_neg h0]
    have := (Nat.log2_lt (k := 8) h0).2 (by omega)
    omega
theorem wrap64_on {n : Int} (h0 : 0 ≤ n) (h1 : n < 9223372036854775808) : wrap64 n = n := by unfold wrap64; omega
set_option maxHeartbeats 1000000 in
theorem L64_111 (x : Nat) (hx : x < 9223372036854775808) (w : World) (c1 : 4294967296 ≤ x) (c2 : 65536 ≤ x / 4294967296) (c3 : 256 ≤ x / 4294967296 / 65536) : Calls Tryd.prog 74 #[.int .u64 (x : Int)] w fun e w' => e = .returned (.int .i64 (bitLen x : Int)) ∧ w = w' := by
  have t1 : decide ((4294967296 : Int) ≤ (x : Int)) = true := by simp; omega
  have e1 : bitLen (x) = 32 + bitLen (x / 4294967296) := bitLen_div (x) 32 (by omega)
  have t2 : decide ((65536 : Int) ≤ (x : Int) / 4294967296) = true := by simp; omega
  have e2 : bitLen (x / 4294967296) = 16 + bitLen (x / 4294967296 / 65536) := bitLen_div (x / 4294967296) 16 (by omega)
  have t3 : decide ((256 : Int) ≤ (x : Int) / 4294967296 / 65536) = true := by simp; omega
  have e3 : bitLen (x / 4294967296 / 65536) = 8 + bitLen (x / 4294967296 / 65536 / 256) := bitLen_div (x / 4294967296 / 65536) 8 (by omega)
  have hs := bitLen_small (x / 4294967296 / 65536 / 256) (by omega)
  go_enter Tryd.func74, Tryd.ntmps74
  go_wp2
  go_ret
  refine ⟨Eq.trans (b := Ending.returned (.int .i64 _)) rfl (congrArg (fun z : Int => Ending.returned (Value.int .i64 z)) ?_), rfl⟩
  rw [tab_at (show TabOk _ from ?ok)]; case ok => exact tab8_ok
  rw [e1, e2, e3]
  generalize bitLen (x / 4294967296 / 65536 / 256) = q at hs ⊢
  clear hx t1 t2 t3 c1 c2 c3 e1 e2 e3
  exact wrap_add3 q hs 32 16 8 (by omega)
set_option maxHeartbeats 1000000 in
theorem L64_110 (x : Nat) (hx : x < 9223372036854775808) (w : World) (c1 : 4294967296 ≤ x) (c2 : 65536 ≤ x / 4294967296) (c3 : ¬ 256 ≤ x / 4294967296 / 65536) : Calls Tryd.prog 74 #[.int .u64 (x : Int)] w fun e w' => e = .returned (.int .i64 (bitLen x : Int)) ∧ w = w' := by
  have t1 : decide ((4294967296 : Int) ≤ (x : Int)) = true := by simp; omega
  have e1 : bitLen (x) = 32 + bitLen (x / 4294967296) := bitLen_div (x) 32 (by omega)
  have t2 : decide ((65536 : Int) ≤ (x : Int) / 4294967296) = true := by simp; omega
  have e2 : bitLen (x / 4294967296) = 16 + bitLen (x / 4294967296 / 65536) := bitLen_div (x / 4294967296) 16 (by omega)
  have t3 : decide ((256 : Int) ≤ (x : Int) / 4294967296 / 65536) = false := by simp; omega
  have hs := bitLen_small (x / 4294967296 / 65536) (by omega)
  go_enter Tryd.func74, Tryd.ntmps74
  go_wp2
  go_ret
  refine ⟨Eq.trans (b := Ending.returned (.int .i64 _)) rfl (congrArg (fun z : Int => Ending.returned (Value.int .i64 z)) ?_), rfl⟩
  rw [tab_at (show TabOk _ from ?ok)]; case ok => exact tab8_ok
  rw [e1, e2]
  generalize bitLen (x / 4294967296 / 65536) = q at hs ⊢
  clear hx t1 t2 t3 c1 c2 c3 e1 e2
  exact wrap_add2 q hs 32 16 (by omega)
set_option maxHeartbeats 1000000 in
theorem L64_101 (x : Nat) (hx : x < 9223372036854775808) (w : World) (c1 : 4294967296 ≤ x) (c2 : ¬ 65536 ≤ x / 4294967296) (c3 : 256 ≤ x / 4294967296) : Calls Tryd.prog 74 #[.int .u64 (x : Int)] w fun e w' => e = .returned (.int .i64 (bitLen x : Int)) ∧ w = w' := by
  have t1 : decide ((4294967296 : Int) ≤ (x : Int)) = true := by simp; omega
  have e1 : bitLen (x) = 32 + bitLen (x / 4294967296) := bitLen_div (x) 32 (by omega)
  have t2 : decide ((65536 : Int) ≤ (x : Int) / 4294967296) = false := by simp; omega
  have t3 : decide ((256 : Int) ≤ (x : Int) / 4294967296) = true := by simp; omega
  have e3 : bitLen (x / 4294967296) = 8 + bitLen (x / 4294967296 / 256) := bitLen_div (x / 4294967296) 8 (by omega)
  have hs := bitLen_small (x / 4294967296 / 256) (by omega)
  go_enter Tryd.func74, Tryd.ntmps74
  go_wp2
  go_ret
  refine ⟨Eq.trans (b := Ending.returned (.int .i64 _)) rfl (congrArg (fun z : Int => Ending.returned (Value.int .i64 z)) ?_), rfl⟩
  rw [tab_at (show TabOk _ from ?ok)]; case ok => exact tab8_ok
  rw [e1, e3]
  generalize bitLen (x / 4294967296 / 256) = q at hs ⊢
  clear hx t1 t2 t3 c1 c2 c3 e1 e3
  exact wrap_add2 q hs 32 8 (by omega)
set_option maxHeartbeats 1000000 in
theorem L64_100 (x : Nat) (hx : x < 9223372036854775808) (w : World) (c1 : 4294967296 ≤ x) (c2 : ¬ 65536 ≤ x / 4294967296) (c3 : ¬ 256 ≤ x / 4294967296) : Calls Tryd.prog 74 #[.int .u64 (x : Int)] w fun e w' => e = .returned (.int .i64 (bitLen x : Int)) ∧ w = w' := by
  have t1 : decide ((4294967296 : Int) ≤ (x : Int)) = true := by simp; omega
  have e1 : bitLen (x) = 32 + bitLen (x / 4294967296) := bitLen_div (x) 32 (by omega)
  have t2 : decide ((65536 : Int) ≤ (x : Int) / 4294967296) = false := by simp; omega
  have t3 : decide ((256 : Int) ≤ (x : Int) / 4294967296) = false := by simp; omega
  have hs := bitLen_small (x / 4294967296) (by omega)
  go_enter Tryd.func74, Tryd.ntmps74
  go_wp2
  go_ret
  refine ⟨Eq.trans (b := Ending.returned (.int .i64 _)) rfl (congrArg (fun z : Int => Ending.returned (Value.int .i64 z)) ?_), rfl⟩
  rw [tab_at (show TabOk _ from ?ok)]; case ok => exact tab8_ok
  rw [e1]
  generalize bitLen (x / 4294967296) = q at hs ⊢
  clear hx t1 t2 t3 c1 c2 c3 e1
  exact wrap_add1 q hs 32 (by omega)
set_option maxHeartbeats 1000000 in
theorem L64_011 (x : Nat) (hx : x < 9223372036854775808) (w : World) (c1 : ¬ 4294967296 ≤ x) (c2 : 65536 ≤ x) (c3 : 256 ≤ x / 65536) : Calls Tryd.prog 74 #[.int .u64 (x : Int)] w fun e w' => e = .returned (.int .i64 (bitLen x : Int)) ∧ w = w' := by
  have t1 : decide ((4294967296 : Int) ≤ (x : Int)) = false := by simp; omega
  have t2 : decide ((65536 : Int) ≤ (x : Int)) = true := by simp; omega
  have e2 : bitLen (x) = 16 + bitLen (x / 65536) := bitLen_div (x) 16 (by omega)
  have t3 : decide ((256 : Int) ≤ (x : Int) / 65536) = true := by simp; omega
  have e3 : bitLen (x / 65536) = 8 + bitLen (x / 65536 / 256) := bitLen_div (x / 65536) 8 (by omega)
  have hs := bitLen_small (x / 65536 / 256) (by omega)
  go_enter Tryd.func74, Tryd.ntmps74
  go_wp2
  go_ret
  refine ⟨Eq.trans (b := Ending.returned (.int .i64 _)) rfl (congrArg (fun z : Int => Ending.returned (Value.int .i64 z)) ?_), rfl⟩
  rw [tab_at (show TabOk _ from ?ok)]; case ok => exact tab8_ok
  rw [e2, e3]
  generalize bitLen (x / 65536 / 256) = q at hs ⊢
  clear hx t1 t2 t3 c1 c2 c3 e2 e3
  exact wrap_add2 q hs 16 8 (by omega)
set_option maxHeartbeats 1000000 in
theorem L64_010 (x : Nat) (hx : x < 9223372036854775808) (w : World) (c1 : ¬ 4294967296 ≤ x) (c2 : 65536 ≤ x) (c3 : ¬ 256 ≤ x / 65536) : Calls Tryd.prog 74 #[.int .u64 (x : Int)] w fun e w' => e = .returned (.int .i64 (bitLen x : Int)) ∧ w = w' := by
  have t1 : decide ((4294967296 : Int) ≤ (x : Int)) = false := by simp; omega
  have t2 : decide ((65536 : Int) ≤ (x : Int)) = true := by simp; omega
  have e2 : bitLen (x) = 16 + bitLen (x / 65536) := bitLen_div (x) 16 (by omega)
  have t3 : decide ((256 : Int) ≤ (x : Int) / 65536) = false := by simp; omega
  have hs := bitLen_small (x / 65536) (by omega)
  go_enter Tryd.func74, Tryd.ntmps74
  go_wp2
  go_ret
  refine ⟨Eq.trans (b := Ending.returned (.int .i64 _)) rfl (congrArg (fun z : Int => Ending.returned (Value.int .i64 z)) ?_), rfl⟩
  rw [tab_at (show TabOk _ from ?ok)]; case ok => exact tab8_ok
  rw [e2]
  generalize bitLen (x / 65536) = q at hs ⊢
  clear hx t1 t2 t3 c1 c2 c3 e2
  exact wrap_add1 q hs 16 (by omega)
set_option maxHeartbeats 1000000 in
theorem L64_001 (x : Nat) (hx : x < 9223372036854775808) (w : World) (c1 : ¬ 4294967296 ≤ x) (c2 : ¬ 65536 ≤ x) (c3 : 256 ≤ x) : Calls Tryd.prog 74 #[.int .u64 (x : Int)] w fun e w' => e = .returned (.int .i64 (bitLen x : Int)) ∧ w = w' := by
  have t1 : decide ((4294967296 : Int) ≤ (x : Int)) = false := by simp; omega
  have t2 : decide ((65536 : Int) ≤ (x : Int)) = false := by simp; omega
  have t3 : decide ((256 : Int) ≤ (x : Int)) = true := by simp; omega
  have e3 : bitLen (x) = 8 + bitLen (x / 256) := bitLen_div (x) 8 (by omega)
  have hs := bitLen_small (x / 256) (by omega)
  go_enter Tryd.func74, Tryd.ntmps74
  go_wp2
  go_ret
  refine ⟨Eq.trans (b := Ending.returned (.int .i64 _)) rfl (congrArg (fun z : Int => Ending.returned (Value.int .i64 z)) ?_), rfl⟩
  rw [tab_at (show TabOk _ from ?ok)]; case ok => exact tab8_ok
  rw [e3]
  generalize bitLen (x / 256) = q at hs ⊢
  clear hx t1 t2 t3 c1 c2 c3 e3
  exact wrap_add1 q hs 8 (by omega)
set_option maxHeartbeats 1000000 in
theorem L64_000 (x : Nat) (hx : x < 9223372036854775808) (w : World) (c1 : ¬ 4294967296 ≤ x) (c2 : ¬ 65536 ≤ x) (c3 : ¬ 256 ≤ x) : Calls Tryd.prog 74 #[.int .u64 (x : Int)] w fun e w' => e = .returned (.int .i64 (bitLen x : Int)) ∧ w = w' := by
  have t1 : decide ((4294967296 : Int) ≤ (x : Int)) = false := by simp; omega
  have t2 : decide ((65536 : Int) ≤ (x : Int)) = false := by simp; omega
  have t3 : decide ((256 : Int) ≤ (x : Int)) = false := by simp; omega
  have hs := bitLen_small (x) (by omega)
  go_enter Tryd.func74, Tryd.ntmps74
  go_wp2
  go_ret
  refine ⟨Eq.trans (b := Ending.returned (.int .i64 _)) rfl (congrArg (fun z : Int => Ending.returned (Value.int .i64 z)) ?_), rfl⟩
  rw [tab_at (show TabOk _ from ?ok)]; case ok => exact tab8_ok
  generalize bitLen (x) = q at hs ⊢
  clear hx t1 t2 t3 c1 c2 c3
  exact wrap_add0 q hs
theorem Len64_any (x : Nat) (hx : x < 9223372036854775808) (w : World) : Calls Tryd.prog 74 #[.int .u64 (x : Int)] w fun e w' => e = .returned (.int .i64 (bitLen x : Int)) ∧ w = w' := by
  by_cases c1 : 4294967296 ≤ x
  · by_cases c2 : 65536 ≤ x / 4294967296
    · by_cases c3 : 256 ≤ x / 4294967296 / 65536
      · exact L64_111 x hx w c1 c2 c3
      · exact L64_110 x hx w c1 c2 c3
    · by_cases c3 : 256 ≤ x / 4294967296
      · exact L64_101 x hx w c1 c2 c3
      · exact L64_100 x hx w c1 c2 c3
  · by_cases c2 : 65536 ≤ x
    · by_cases c3 : 256 ≤ x / 65536
      · exact L64_011 x hx w c1 c2 c3
      · exact L64_010 x hx w c1 c2 c3
    · by_cases c3 : 256 ≤ x
      · exact L64_001 x hx w c1 c2 c3
      · exact L64_000 x hx w c1 c2 c3
set_option maxHeartbeats 400000 in
theorem Len_any (x : Nat) (hx : x < 9223372036854775808) (w : World) : Calls Tryd.prog 63 #[.int .u64 (x : Int)] w fun e w' => e = .returned (.int .i64 (bitLen x : Int)) ∧ w = w' := by
  go_enter Tryd.func63, Tryd.ntmps63
  go_wp2_with (go_at_call 74; refine (Len64_any x hx w).mono ?_; rintro e w' ⟨rfl, rfl⟩)
  go_ret
  exact ⟨rfl, rfl⟩
set_option maxHeartbeats 400000 in
theorem Split_cv (n : Int) (hn : n < 9223372036854775808) (h0 : -9223372036854775808 ≤ n) (w : World) : Cv 43 #[.int .i64 n] w (.eq (.int .i64 (splitN n.toNat : Int))) := by
  unfold Cv
  by_cases h2 : n < 2
  · have t1 : decide (n < 2) = true := by simpa using h2
    have e : splitN n.toNat = 0 := by unfold splitN; rw [if_pos (by omega)]
    rw [e]
    go_enter Tryd.func43, Tryd.ntmps43
    go_wp2
    go_ret
    exact ⟨_, rfl, NewT.refl _, rfl⟩
  · have t1 : decide (n < 2) = false := by simpa using h2
    obtain ⟨m, hm⟩ : ∃ m : Nat, n = (m : Int) + 1 := ⟨(n - 1).toNat, by omega⟩
    subst hm
    have hl := Len_any m (by omega) w
    have e : splitN ((m : Int) + 1).toNat = 2 ^ (bitLen m - 1) := by
      unfold splitN bitLen
      rw [if_neg (by omega), if_neg (by omega), show ((m : Int) + 1).toNat - 1 = m by omega, Nat.add_sub_cancel]
    have hb : bitLen m ≤ 63 ∧ 1 ≤ bitLen m := by
      unfold bitLen
      rw [if_neg (by omega)]
      have := (Nat.log2_lt (n := m) (k := 63) (by omega)).2 (by omega)
      omega
    obtain ⟨k, hk⟩ : ∃ k : Nat, bitLen m = k + 1 := ⟨bitLen m - 1, by omega⟩
    rw [e]
    rw [hk] at hl ⊢
    obtain ⟨hk1, _⟩ := hb
    have hk62 : k ≤ 62 := by omega
    clear e hk hk1
    go_enter Tryd.func43, Tryd.ntmps43
    go_wp2_with (go_at_call 63; refine hl.mono ?_; rintro e w' ⟨rfl, rfl⟩)
    go_ret
    refine ⟨_, rfl, NewT.refl _, ?_⟩
    show Value.int .i64 (wrap64 (2 ^ k)) = .int .i64 (((2 ^ (k + 1 - 1) : Nat)) : Int)
    have hp : 2 ^ k ≤ 2 ^ 62 := Nat.pow_le_pow_right (by omega) hk62
    have hq : ((2 ^ k : Nat) : Int) = (2 : Int) ^ k := by simp
    rw [Nat.add_sub_cancel, ← hq]
    congr 1
    have hp2 : 0 < 2 ^ k := Nat.two_pow_pos k
    generalize 2 ^ k = d at hp hp2
    unfold wrap64
    omega
end Go.Proofs.YtlnedphnphabkaaDoor
/- What a region that makes new memory alone leaves of the tables. -/
namespace Go.Proofs.YtlnedphnphabkaaDoor
open Go Go.RowKit
set_option maxRecDepth 8000
set_option linter.all false
theorem NewT.tables {w w' : World} (h : NewT w w') (hT : Tables w) : Tables w' := hT.below h
end Go.Proofs.YtlnedphnphabkaaDoor
/- The contract of Sum. -/
namespace Go.Proofs.YtlnedphnphabkaaDoor
open Go Go.RowKit
set_option maxRecDepth 8000
set_option linter.all false
/-- The digest of parts. -/
theorem Sum_cv (pv : Value) (ls : List (List UInt8)) (D : Nat → UInt8) (w : World) (hT : Tables w) (hp : Parts w pv ls) (ht : ls.flatten.length ≤ 4611686018427387904) (hD : shaL Kc Fc ls.flatten = D) : Cv 34 #[pv] w (.eq (.agg (rowA 32 (bF D)))) := by
  obtain ⟨ps, hp, rfl⟩ := hp
  have e : (ps.map (·.2)).flatten = flat ps := rfl
  rw [e] at ht hD
  rw [← hD]
  exact Cv.of_eq (Sum_c pv ps w hT hp (by rw [← flat_length]; exact ht))
end Go.Proofs.YtlnedphnphabkaaDoor
/- Nodes and leaves: what a hash of two is; single operations more. -/
namespace Go.Proofs.YtlnedphnphabkaaDoor
open Go Go.RowKit
set_option maxRecDepth 8000
set_option linter.all false
theorem run_bsb1 (x : Int) (w : World) : (Instr.buildSlice 23 1 #[(0, .int .u8 x)]).run Tryd.prog w = .ok (.slice (some ⟨w.heap.size, 0, none⟩) 1 1) (w.alloc (.cells #[.int .u8 x] 5)) := by
  simp [go_sem]
theorem rd_one (b : UInt8) (w : World) : RdV (w.alloc (.cells #[.int .u8 (bN b)] 5)) [] (.slice (some ⟨w.heap.size, 0, none⟩) 1 1) [b] := by
  refine ⟨some ⟨w.heap.size, 0, none⟩, 1, rfl, Nat.le_refl _, by unfold maxLen; omega, fun _ => ⟨w.heap.size, 0, rfl, by simp, fun i hi => ?_⟩⟩
  obtain rfl : i = 0 := by simpa using hi
  exact World.cell?_alloc_at _ _ _ _ rfl
section
variable {P : Program} {a : Act} {w : World} {o : Oper} {K : Act → World → Prop} {Q : Exit → Act → World → Prop} {x y : Operand}
/-- A new slice of one byte. -/
theorem opr_bsb1 {b : UInt8} (ho : o.op = .buildSlice 23 1 #[(0, x)]) (hx : a.eval x = .int .u8 (bN b)) (h : ∀ v w', NewT w w' → RdV w' [] v [b] → K (a.put o.dst v) w') : o.wp Tryd.prog a w K Q := by
  obtain ⟨dst, op, type, pos, after, guard⟩ := o
  simp only at ho
  subst ho
  exact opr_val (s := Instr.buildSlice 23 1 #[(0, a.eval x)]) (by simp [execOp]) (by rw [hx]; exact run_bsb1 _ w) (h _ _ (NewT.alloc _ _) (rd_one b w))
theorem opr_nilc {A : Addr} (ho : o.op = .nilCheck x) (hx : a.eval x = .pointer (some A)) (h : K (a.put o.dst (.pointer (some A))) w) : o.wp P a w K Q := by
  obtain ⟨dst, op, type, pos, after, guard⟩ := o
  simp only at ho
  subst ho
  simpa [Oper.wp, execOp, hx, Oper.upon, Sem.run_pure] using h
theorem opr_add {t t2 : TypeId} {m n r : Int} (ht : P.underlying t = some (.int .i64)) (hr : wrap64 (m + n) = r) (ho : o.op = .binOp .add t x y t2) (hx : a.eval x = .int .i64 m) (hy : a.eval y = .int .i64 n) (h : K (a.put o.dst (.int .i64 r)) w) : o.wp P a w K Q := by
  obtain ⟨dst, op, type, pos, after, guard⟩ := o
  simp only at ho
  subst ho hr
  refine opr_val (s := do eqGuard .add t x y (a.eval x) (a.eval y); binOp .add t (a.eval x) (a.eval y)) rfl ?_ h
  rw [hx, hy]; simp [go_sem]; rw [IntKind.wrap_i64, wrap64]
theorem opr_sub {t t2 : TypeId} {m n r : Int} (ht : P.underlying t = some (.int .i64)) (hr : wrap64 (m - n) = r) (ho : o.op = .binOp .sub t x y t2) (hx : a.eval x = .int .i64 m) (hy : a.eval y = .int .i64 n) (h : K (a.put o.dst (.int .i64 r)) w) : o.wp P a w K Q := by
  obtain ⟨dst, op, type, pos, after, guard⟩ := o
  simp only at ho
  subst ho hr
  refine opr_val (s := do eqGuard .sub t x y (a.eval x) (a.eval y); binOp .sub t (a.eval x) (a.eval y)) rfl ?_ h
  rw [hx, hy]; simp [go_sem]; rw [IntKind.wrap_i64, wrap64]
theorem opr_mul {t t2 : TypeId} {m n r : Int} (ht : P.underlying t = some (.int .i64)) (hr : wrap64 (m * n) = r) (ho : o.op = .binOp .mul t x y t2) (hx : a.eval x = .int .i64 m) (hy : a.eval y = .int .i64 n) (h : K (a.put o.dst (.int .i64 r)) w) : o.wp P a w K Q := by
  obtain ⟨dst, op, type, pos, after, guard⟩ := o
  simp only at ho
  subst ho hr
  refine opr_val (s := do eqGuard .mul t x y (a.eval x) (a.eval y); binOp .mul t (a.eval x) (a.eval y)) rfl ?_ h
  rw [hx, hy]; simp [go_sem]; rw [IntKind.wrap_i64, wrap64]
end
/-- What the hash of two hashes is, and that of none. -/
structure TreeH (node : Hs → Hs → Hs) (z : Hs) : Prop where
  node : ∀ a b, shaL Kc Fc ([1] ++ (digL a ++ (digL b ++ []))) = node a b
  zero : shaL Kc Fc [] = z
theorem tree_ex : ∃ node z, TreeH node z := ⟨_, _, ⟨fun _ _ => rfl, rfl⟩⟩
end Go.Proofs.YtlnedphnphabkaaDoor
/- Leaves and nodes: what tree.Leaf and tree.Node return. -/
namespace Go.Proofs.YtlnedphnphabkaaDoor
open Go Go.RowKit
set_option maxRecDepth 8000
set_option linter.all false
theorem parts_nil (w : World) : Parts w (.slice none 0 0) [] := ⟨[], ⟨none, 0, rfl, by simp, by unfold maxLen; omega, fun h => absurd h (by simp), fun x hx => by simp at hx⟩, rfl⟩
theorem Sum_nil {node : Hs → Hs → Hs} {z : Hs} (hX : TreeH node z) (w : World) (hT : Tables w) : Cv 34 #[.slice none 0 0] w (.eq (.agg (rowA 32 (bF z)))) :=
  Sum_cv _ [] z w hT (parts_nil w) (by simp) hX.zero
set_option maxHeartbeats 1000000 in
theorem Leaf_cv (v : Value) (l : List UInt8) (D : Hs) (w : World) (hT : Tables w) (hl : RdV w [] v l) (hn : l.length ≤ 1000000) (hD : shaL Kc Fc ([0] ++ (l ++ [])) = D) : Cv 21 #[v] w (.eq (.agg (rowA 32 (bF D)))) := by
  unfold Cv
  have HD := Lib.hid hD
  have HT := Lib.hid hT
  have HL := Lib.hid hl
  clear hT hl hD
  go_enter Tryd.func21, Tryd.ntmps21
  go_upto_region 1 with fail
  have r0 := rowIs_box w 30 32 (bF fun _ => 0)
  have hN := NewT.alloc w (.cells (rowA 32 (bF fun _ => 0)) 30)
  change Code.wp _ _ _ _ (w.alloc (.cells (rowA 32 (bF fun _ => 0)) 30))
  generalize w.alloc (.cells (rowA 32 (bF fun _ => 0)) 30) = W0 at r0 hN ⊢
  have R0 := Lib.hid r0
  have HN := Lib.hid hN
  replace HT := Lib.hid (hN.tables HT.out)
  replace HL := Lib.hid (hN.rd HL.out)
  clear r0 hN
  refine wp_region_steps0 NewT [svRd ([0]), svRd (l), svParts [[0], l], SV.eq (.agg (rowA 32 (bF (D))))] [([], none), ([(0, none)], none), ([(3, some 0), (4, some 1)], none), ([(5, some 2)], none)] 7 4 rfl rfl (by kernel_rfl) NewT.trans (NewT.refl _) (Nat.le_of_ble_eq_true rfl) ⟨?_, ?_, ?_, ?_, trivial⟩ ?_
  · intro a wx hT hF K hK
    refine rely_wp rfl ?_
    exact opr_bsb1 (b := 0) rfl rfl hK
  · intro a wx hT hF K hK
    obtain ⟨f0, _⟩ := hF
    have f0 : a.tmps.getD 0 undef = v := f0
    refine rely_wp rfl ?_
    exact opr_move (.inl rfl) (hK _ _ (NewT.refl _) (by rw [eval_tmp, f0]; exact hT.rd HL.out))
  · intro a wx hT hF K hK
    obtain ⟨f3, f4, _⟩ := hF
    replace f3 := show (svRd ([0])).pred (a.tmps.getD 3 undef) wx from f3
    replace f4 := show (svRd (l)).pred (a.tmps.getD 4 undef) wx from f4
    refine rely_wp rfl ?_
    exact opr_bs2 rfl f3 f4 hK
  · intro a wx hT hF K hK
    obtain ⟨f5, _⟩ := hF
    replace f5 := show (svParts [[0], l]).pred (a.tmps.getD 5 undef) wx from f5
    refine rely_wp rfl ?_
    exact opr_cv (Sum_cv _ [[0], l] (D) wx (hT.tables HT.out) f5 (by simp; omega) (by simpa using HD.out)) rfl Tryd.func34 (by kernel_rfl) (by kernel_rfl) (by simp only [List.map_toArray, List.map_cons, List.map_nil, eval_tmp]) hK
  · intro wx hT
    intro _ _
    intro _ _
    intro _ _
    intro u h; obtain rfl := Eq.symm (h (by simp)); clear h
    refine relyEnd_nil rfl ?_
    simp only [Act.put, List.setIfInBounds_toArray, List.set_cons_zero, List.set_cons_succ]
    refine wpList_plain rfl (fun K hK => ?_)
    refine opr_store_new (B := w.heap.size) (W := w) info31 rfl rfl rfl (hT.row R0.out) (NewT.trans _ _ _ HN.out hT) (Nat.le_refl _) ?_
    intro w9 hB9 r9
    refine hK _ _ ?_
    refine wpList_end rfl ?_
    simp only [Act.put]
    go_simp
    go_wp2
    exact bodyPost_ret (results_row rfl _ rfl r9 Tryd.underlying30 info31) rfl ⟨_, rfl, hB9, rfl⟩
set_option maxHeartbeats 1000000 in
theorem Node_cv {node : Hs → Hs → Hs} {z : Hs} (hX : TreeH node z) (p q : Hs) (w : World) (hT : Tables w) : Cv 26 #[.agg (rowA 32 (bF p)), .agg (rowA 32 (bF q))] w (.eq (.agg (rowA 32 (bF (node p q))))) := by
  unfold Cv
  have HT := Lib.hid hT
  clear hT
  go_enter Tryd.func26, Tryd.ntmps26
  go_upto_region 1 with fail
  have r1 := ((rowIs_box w 30 32 (bF p)).alloc (.cells (rowA 32 (bF q)) 30)).alloc (.cells (rowA 32 (bF fun _ => 0)) 30)
  have r2 := (rowIs_box (w.alloc (.cells (rowA 32 (bF p)) 30)) 30 32 (bF q)).alloc (.cells (rowA 32 (bF fun _ => 0)) 30)
  have r0 := rowIs_box ((w.alloc (.cells (rowA 32 (bF p)) 30)).alloc (.cells (rowA 32 (bF q)) 30)) 30 32 (bF fun _ => 0)
  rw [World.size_alloc] at r2
  rw [World.size_alloc, World.size_alloc] at r0
  have hN : NewT w (((w.alloc (.cells (rowA 32 (bF p)) 30)).alloc (.cells (rowA 32 (bF q)) 30)).alloc (.cells (rowA 32 (bF fun _ => 0)) 30)) := NewT.trans _ _ _ (NewT.trans _ _ _ (NewT.alloc _ _) (NewT.alloc _ _)) (NewT.alloc _ _)
  change Code.wp _ _ _ _ (((w.alloc (.cells (rowA 32 (bF p)) 30)).alloc (.cells (rowA 32 (bF q)) 30)).alloc (.cells (rowA 32 (bF fun _ => 0)) 30))
  generalize (((w.alloc (.cells (rowA 32 (bF p)) 30)).alloc (.cells (rowA 32 (bF q)) 30)).alloc (.cells (rowA 32 (bF fun _ => 0)) 30)) = W0 at r0 r1 r2 hN ⊢
  have R0 := Lib.hid r0
  have R1 := Lib.hid r1
  have R2 := Lib.hid r2
  have HN := Lib.hid hN
  replace HT := Lib.hid (hN.tables HT.out)
  clear r0 r1 r2 hN
  refine wp_region_rely (NewT) [svRd ([1]), svRd (digL (p)), svRd (digL (q)), svParts [[1], digL (p), digL (q)], SV.eq (.agg (rowA 32 (bF (node p q))))] [([], none), ([(2, none)], none), ([(3, none)], none), ([(5, some 0), (6, some 1), (7, some 2)], none), ([(8, some 3)], none)] 10 rfl (by kernel_rfl) rfl (by kernel_rfl) (by kernel_rfl) rfl NewT.trans (NewT.drew _) (Nat.le_of_ble_eq_true rfl) ⟨?_, ?_, ?_, ?_, ?_, trivial⟩ ?_
  · intro a wx hT hF K hK
    refine rely_wp rfl ?_
    exact opr_bsb1 (b := 1) rfl rfl hK
  · intro a wx hT hF K hK
    obtain ⟨f2, _⟩ := hF
    have f2 : a.tmps.getD 2 undef = .pointer (some ⟨w.heap.size, 0, none⟩) := f2
    refine rely_wp rfl ?_
    exact opr_sliceH rfl f2 (hK _ _ (NewT.refl _) (rd_rowH (hT.row R1.out) (by decide) (fun j _ => by rw [Nat.zero_add])))
  · intro a wx hT hF K hK
    obtain ⟨f3, _⟩ := hF
    have f3 : a.tmps.getD 3 undef = .pointer (some ⟨w.heap.size + 1, 0, none⟩) := f3
    refine rely_wp rfl ?_
    exact opr_sliceH rfl f3 (hK _ _ (NewT.refl _) (rd_rowH (hT.row R2.out) (by decide) (fun j _ => by rw [Nat.zero_add])))
  · intro a wx hT hF K hK
    obtain ⟨f5, f6, f7, _⟩ := hF
    replace f5 := show (svRd ([1])).pred (a.tmps.getD 5 undef) wx from f5
    replace f6 := show (svRd (digL (p))).pred (a.tmps.getD 6 undef) wx from f6
    replace f7 := show (svRd (digL (q))).pred (a.tmps.getD 7 undef) wx from f7
    refine rely_wp rfl ?_
    exact opr_bs3 rfl f5 f6 f7 hK
  · intro a wx hT hF K hK
    obtain ⟨f8, _⟩ := hF
    replace f8 := show (svParts [[1], digL (p), digL (q)]).pred (a.tmps.getD 8 undef) wx from f8
    refine rely_wp rfl ?_
    exact opr_cv (Sum_cv _ [[1], digL (p), digL (q)] (node p q) wx (hT.tables HT.out) f8 (by simp [digL_length]) (hX.node p q)) rfl Tryd.func34 (by kernel_rfl) (by kernel_rfl) (by simp only [List.map_toArray, List.map_cons, List.map_nil, eval_tmp]) hK
  · intro wx hT
    intro _ _
    intro _ _
    intro _ _
    intro _ _
    intro u h; obtain rfl := Eq.symm (h (by simp)); clear h
    refine relyEnd_nil rfl ?_
    simp only [Act.put, List.setIfInBounds_toArray, List.set_cons_zero, List.set_cons_succ]
    refine opr_store_new (B := w.heap.size) (W := w) info31 rfl rfl rfl (hT.row R0.out) (NewT.trans _ _ _ HN.out hT) (by omega) ?_
    intro w9 hB9 r9
    go_simp
    go_wp2
    exact bodyPost_ret (results_row rfl _ rfl r9 Tryd.underlying30 info31) rfl ⟨_, rfl, hB9, rfl⟩
end Go.Proofs.YtlnedphnphabkaaDoor
/- A list's root: what tree.Root returns. -/
namespace Go.Proofs.YtlnedphnphabkaaDoor
open Go Go.RowKit
set_option maxRecDepth 8000
set_option linter.all false
set_option maxHeartbeats 1000000 in
theorem Root_0 {node : Hs → Hs → Hs} {z : Hs} (hX : TreeH node z) (A : Option Addr) (c : Nat) (w : World) (hT : Tables w) : Cv 24 #[.slice A 0 c] w (.eq (.agg (rowA 32 (bF z)))) := by
  unfold Cv
  have HT := Lib.hid hT
  clear hT
  go_enter Tryd.func24, Tryd.ntmps24
  go_upto_region 3 with fail
  have r0 := rowIs_box w 30 32 (bF fun _ => 0)
  have hN := NewT.alloc w (.cells (rowA 32 (bF fun _ => 0)) 30)
  change Code.wp _ _ _ _ (w.alloc (.cells (rowA 32 (bF fun _ => 0)) 30))
  generalize w.alloc (.cells (rowA 32 (bF fun _ => 0)) 30) = W0 at r0 hN ⊢
  have R0 := Lib.hid r0
  have HN := Lib.hid hN
  replace HT := Lib.hid (hN.tables HT.out)
  clear r0 hN
  refine wp_region_steps0 NewT [SV.eq (.agg (rowA 32 (bF (z))))] [([], none)] 26 1 rfl rfl (by kernel_rfl) NewT.trans (NewT.refl _) (Nat.le_of_ble_eq_true rfl) ⟨?_, trivial⟩ ?_
  · intro a wx hT hF K hK
    refine rely_wp rfl ?_
    exact opr_cv (Sum_nil hX wx (hT.tables HT.out)) rfl Tryd.func34 (by kernel_rfl) (by kernel_rfl) (by simp only [List.map_toArray, List.map_cons, List.map_nil, eval_const]) hK
  · intro wx hT
    intro u h; obtain rfl := Eq.symm (h (by simp)); clear h
    refine relyEnd_nil rfl ?_
    simp only [Act.put, List.setIfInBounds_toArray, List.set_cons_zero, List.set_cons_succ]
    refine wpList_plain rfl (fun K hK => ?_)
    refine opr_store_new (B := w.heap.size) (W := w) info31 rfl rfl rfl (hT.row R0.out) (NewT.trans _ _ _ HN.out hT) (Nat.le_refl _) ?_
    intro w9 hB9 r9
    refine hK _ _ ?_
    refine wpList_end rfl ?_
    simp only [Act.put]
    go_simp
    go_wp2
    exact bodyPost_ret (results_row rfl _ rfl r9 Tryd.underlying30 info31) rfl ⟨_, rfl, hB9, rfl⟩
theorem Root_nil {node : Hs → Hs → Hs} {z : Hs} (hX : TreeH node z) (w : World) (hT : Tables w) : Cv 24 #[.slice none 0 0] w (.eq (.agg (rowA 32 (bF z)))) := Root_0 hX none 0 w hT
set_option maxHeartbeats 1000000 in
theorem Root_1 {node : Hs → Hs → Hs} {z : Hs} (hX : TreeH node z) (v : Value) (d : Hs) (w : World) (hT : Tables w) (hl : RdH w v [d]) : Cv 24 #[v] w (.eq (.agg (rowA 32 (bF d)))) := by
  unfold Cv
  have HT := Lib.hid hT
  have HL := Lib.hid hl
  obtain ⟨A, c, hv⟩ := rdH_form hl
  have hv : v = .slice A 1 c := hv
  have HV := Lib.hid hv
  subst hv
  clear hT hl
  go_enter Tryd.func24, Tryd.ntmps24
  go_upto_region 5 with fail
  obtain ⟨v, ev⟩ : ∃ v, Value.slice A 1 c = v := ⟨_, rfl⟩
  rw [ev] at HL ⊢
  clear HV ev
  have r0 := rowIs_box w 30 32 (bF fun _ => 0)
  have hN := NewT.alloc w (.cells (rowA 32 (bF fun _ => 0)) 30)
  change Code.wp _ _ _ _ (w.alloc (.cells (rowA 32 (bF fun _ => 0)) 30))
  generalize w.alloc (.cells (rowA 32 (bF fun _ => 0)) 30) = W0 at r0 hN ⊢
  have R0 := Lib.hid r0
  have HN := Lib.hid hN
  replace HT := Lib.hid (hN.tables HT.out)
  replace HL := Lib.hid (hN.hs HL.out)
  clear r0 hN
  refine wp_region_steps0 NewT [SV.eq (v), svP (d), SV.eq (.agg (rowA 32 (bF (d))))] [([(0, none)], none), ([(11, some 0)], none), ([(12, some 1)], none)] 26 3 rfl rfl (by kernel_rfl) NewT.trans (NewT.refl _) (Nat.le_of_ble_eq_true rfl) ⟨?_, ?_, ?_, trivial⟩ ?_
  · intro a wx hT hF K hK
    obtain ⟨f0, _⟩ := hF
    have f0 : a.tmps.getD 0 undef = v := f0
    refine rely_wp rfl ?_
    exact opr_move (.inl rfl) (hK _ _ (NewT.refl _) f0)
  · intro a wx hT hF K hK
    obtain ⟨f11, _⟩ := hF
    have f11 : a.tmps.getD 11 undef = v := f11
    refine rely_wp rfl ?_
    exact opr_idxH (i := 0) (d := d) (rfl) (rfl) rfl (by rw [eval_tmp, f11]; exact (hT.hs HL.out)) rfl (fun v hv => hK v _ (NewT.refl _) hv)
  · intro a wx hT hF K hK
    obtain ⟨f12, _⟩ := hF
    replace f12 := show (svP (d)).pred (a.tmps.getD 12 undef) wx from f12
    refine rely_wp rfl ?_
    exact opr_ldP rfl f12 (hK _ _ (NewT.refl _) rfl)
  · intro wx hT
    intro u h; obtain rfl := Eq.symm (h (by simp)); clear h
    intro _ _
    intro u h; obtain rfl := Eq.symm (h (by simp)); clear h
    refine relyEnd_nil rfl ?_
    simp only [Act.put, List.setIfInBounds_toArray, List.set_cons_zero, List.set_cons_succ]
    refine wpList_plain rfl (fun K hK => ?_)
    refine opr_store_new (B := w.heap.size) (W := w) info31 rfl rfl rfl (hT.row R0.out) (NewT.trans _ _ _ HN.out hT) (Nat.le_refl _) ?_
    intro w9 hB9 r9
    refine hK _ _ ?_
    refine wpList_end rfl ?_
    simp only [Act.put]
    go_simp
    go_wp2
    exact bodyPost_ret (results_row rfl _ rfl r9 Tryd.underlying30 info31) rfl ⟨_, rfl, hB9, rfl⟩
set_option maxRecDepth 20000 in
set_option maxHeartbeats 1000000 in
theorem Root_2 {node : Hs → Hs → Hs} {z : Hs} (hX : TreeH node z) (v : Value) (l : List Hs) (k : Nat) (w : World) (hT : Tables w) (hl : RdH w v l) (hn : 2 ≤ l.length) (hk : k < l.length) (hk0 : 0 < k) (hs : ∀ w, Cv 43 #[.int .i64 (l.length : Int)] w (.eq (.int .i64 (k : Int))))
    (ih : ∀ (v : Value) (m : List Hs) (w : World), Tables w → RdH w v m → m.length < l.length → Cv 24 #[v] w (.eq (.agg (rowA 32 (bF (rootM node z m)))))) : Cv 24 #[v] w (.eq (.agg (rowA 32 (bF (node (rootM node z (l.take k)) (rootM node z (l.drop k))))))) := by
  unfold Cv
  have HT := Lib.hid hT
  have HL := Lib.hid hl
  have HK := Lib.hid hs
  obtain ⟨A, c, hv⟩ := rdH_form hl
  have t0 : ((l.length : Int) == 0) = false := beq_eq_false_iff_ne.2 (by omega)
  have t1 : ((l.length : Int) == 1) = false := beq_eq_false_iff_ne.2 (by omega)
  subst hv
  clear hT hl hs
  go_enter Tryd.func24, Tryd.ntmps24
  go_upto_region 6 with fail
  obtain ⟨v, ev⟩ : ∃ v, Value.slice A l.length c = v := ⟨_, rfl⟩
  rw [ev] at HL ⊢
  clear ev
  have r0 := rowIs_box w 30 32 (bF fun _ => 0)
  have hN := NewT.alloc w (.cells (rowA 32 (bF fun _ => 0)) 30)
  change Code.wp _ _ _ _ (w.alloc (.cells (rowA 32 (bF fun _ => 0)) 30))
  generalize w.alloc (.cells (rowA 32 (bF fun _ => 0)) 30) = W0 at r0 hN ⊢
  have R0 := Lib.hid r0
  have HN := Lib.hid hN
  replace HT := Lib.hid (hN.tables HT.out)
  replace HL := Lib.hid (hN.hs HL.out)
  clear r0 hN
  clear t0 t1
  refine wp_region_steps0 NewT [SV.eq (v), SV.eq (.int .i64 ((List.length (l) : Int))), SV.eq (.int .i64 ((k : Int))), SV.eq (.int .i64 ((k : Int)))] [([(0, none)], none), ([(14, some 0)], none), ([(15, some 1)], none), ([(16, some 2)], none)] 26 4 rfl rfl (by kernel_rfl) NewT.trans (NewT.refl _) (Nat.le_of_ble_eq_true rfl) ⟨?_, ?_, ?_, ?_, trivial⟩ ?_
  · intro a wx hT hF K hK
    obtain ⟨f0, _⟩ := hF
    have f0 : a.tmps.getD 0 undef = v := f0
    refine rely_wp rfl ?_
    exact opr_move (.inl rfl) (hK _ _ (NewT.refl _) f0)
  · intro a wx hT hF K hK
    obtain ⟨f14, _⟩ := hF
    have f14 : a.tmps.getD 14 undef = v := f14
    refine rely_wp rfl ?_
    exact opr_len_h rfl (by rw [eval_tmp, f14]; exact (hT.hs HL.out)) (hK _ _ (NewT.refl _) rfl)
  · intro a wx hT hF K hK
    obtain ⟨f15, _⟩ := hF
    have f15 : a.tmps.getD 15 undef = .int .i64 ((List.length (l) : Int)) := f15
    refine rely_wp rfl ?_
    exact opr_cv (HK.out wx) rfl Tryd.func43 (by kernel_rfl) (by kernel_rfl) (by simp only [List.map_toArray, List.map_cons, List.map_nil, eval_tmp, f15]) hK
  · intro a wx hT hF K hK
    obtain ⟨f16, _⟩ := hF
    have f16 : a.tmps.getD 16 undef = .int .i64 ((k : Int)) := f16
    refine rely_wp rfl ?_
    exact opr_move (.inr rfl) (hK _ _ (NewT.refl _) f16)
  · intro w6 k6
    intro u h; obtain rfl := Eq.symm (h (by simp)); clear h
    intro u h; obtain rfl := Eq.symm (h (by simp)); clear h
    intro u h; obtain rfl := Eq.symm (h (by simp)); clear h
    intro u h; obtain rfl := Eq.symm (h (by simp)); clear h
    refine relyEnd_nil rfl ?_
    refine wpList_end rfl ?_
    simp only [Act.put, List.setIfInBounds_toArray, List.set_cons_zero, List.set_cons_succ]
    go_simp
    replace R0 := Lib.hid (k6.row R0.out)
    replace HT := Lib.hid (k6.tables HT.out)
    replace HL := Lib.hid (k6.hs HL.out)
    replace HN := Lib.hid (NewT.trans _ _ _ HN.out k6)
    clear HK k6
    go_upto_region 7 with fail
    refine wp_region_rely (NewT) [SV.eq (v), SV.eq (.int .i64 ((k : Int))), svH (List.take k l), SV.eq (.agg (rowA 32 (bF (rootM node z (List.take k l))))), SV.eq (v), SV.eq (.int .i64 ((k : Int))), svH (List.drop k l), SV.eq (.agg (rowA 32 (bF (rootM node z (List.drop k l))))), SV.eq (.agg (rowA 32 (bF (node (rootM node z (List.take k l)) (rootM node z (List.drop k l))))))] [([(0, none)], none), ([(3, none)], none), ([(17, some 0), (18, some 1)], none), ([(19, some 2)], none), ([(0, none)], none), ([(3, none)], none), ([(21, some 4), (22, some 5)], none), ([(23, some 6)], none), ([(20, some 3), (24, some 7)], none)] 26 rfl (by kernel_rfl) rfl (by kernel_rfl) (by kernel_rfl) rfl NewT.trans (NewT.drew _) (Nat.le_of_ble_eq_true rfl) ⟨?_, ?_, ?_, ?_, ?_, ?_, ?_, ?_, ?_, trivial⟩ ?_
    · intro a wx hT hF K hK
      obtain ⟨f0, _⟩ := hF
      have f0 : a.tmps.getD 0 undef = v := f0
      refine rely_wp rfl ?_
      exact opr_move (.inl rfl) (hK _ _ (NewT.refl _) f0)
    · intro a wx hT hF K hK
      obtain ⟨f3, _⟩ := hF
      have f3 : a.tmps.getD 3 undef = .int .i64 ((k : Int)) := f3
      refine rely_wp rfl ?_
      exact opr_move (.inl rfl) (hK _ _ (NewT.refl _) f3)
    · intro a wx hT hF K hK
      obtain ⟨f17, f18, _⟩ := hF
      have f17 : a.tmps.getD 17 undef = v := f17
      have f18 : a.tmps.getD 18 undef = .int .i64 ((k : Int)) := f18
      refine rely_wp rfl ?_
      exact opr_toH (k := k) (by omega) (rfl) rfl (by rw [eval_tmp, f17]; exact (hT.hs HL.out)) f18 (fun v hv => hK v _ (NewT.refl _) hv)
    · intro a wx hT hF K hK
      obtain ⟨f19, _⟩ := hF
      replace f19 := show (svH (List.take k l)).pred (a.tmps.getD 19 undef) wx from f19
      refine rely_wp rfl ?_
      exact opr_cv (ih _ (List.take k l) wx (hT.tables HT.out) f19 (by rw [List.length_take]; omega)) rfl Tryd.func24 (by kernel_rfl) (by kernel_rfl) (by simp only [List.map_toArray, List.map_cons, List.map_nil, eval_tmp]) hK
    · intro a wx hT hF K hK
      obtain ⟨f0, _⟩ := hF
      have f0 : a.tmps.getD 0 undef = v := f0
      refine rely_wp rfl ?_
      exact opr_move (.inl rfl) (hK _ _ (NewT.refl _) f0)
    · intro a wx hT hF K hK
      obtain ⟨f3, _⟩ := hF
      have f3 : a.tmps.getD 3 undef = .int .i64 ((k : Int)) := f3
      refine rely_wp rfl ?_
      exact opr_move (.inl rfl) (hK _ _ (NewT.refl _) f3)
    · intro a wx hT hF K hK
      obtain ⟨f21, f22, _⟩ := hF
      have f21 : a.tmps.getD 21 undef = v := f21
      have f22 : a.tmps.getD 22 undef = .int .i64 ((k : Int)) := f22
      refine rely_wp rfl ?_
      exact opr_fromH (k := k) (by omega) (rfl) rfl (by rw [eval_tmp, f21]; exact (hT.hs HL.out)) f22 (fun v hv => hK v _ (NewT.refl _) hv)
    · intro a wx hT hF K hK
      obtain ⟨f23, _⟩ := hF
      replace f23 := show (svH (List.drop k l)).pred (a.tmps.getD 23 undef) wx from f23
      refine rely_wp rfl ?_
      exact opr_cv (ih _ (List.drop k l) wx (hT.tables HT.out) f23 (by rw [List.length_drop]; omega)) rfl Tryd.func24 (by kernel_rfl) (by kernel_rfl) (by simp only [List.map_toArray, List.map_cons, List.map_nil, eval_tmp]) hK
    · intro a wx hT hF K hK
      obtain ⟨f20, f24, _⟩ := hF
      have f20 : a.tmps.getD 20 undef = .agg (rowA 32 (bF (rootM node z (List.take k l)))) := f20
      have f24 : a.tmps.getD 24 undef = .agg (rowA 32 (bF (rootM node z (List.drop k l)))) := f24
      refine rely_wp rfl ?_
      exact opr_cv (Node_cv hX (rootM node z (List.take k l)) (rootM node z (List.drop k l)) wx (hT.tables HT.out)) rfl Tryd.func26 (by kernel_rfl) (by kernel_rfl) (by simp only [List.map_toArray, List.map_cons, List.map_nil, eval_tmp, f20, f24]) hK
    · intro wx hT
      intro u h; obtain rfl := Eq.symm (h (by simp)); clear h
      intro u h; obtain rfl := Eq.symm (h (by simp)); clear h
      intro _ _
      intro u h; obtain rfl := Eq.symm (h (by simp)); clear h
      intro u h; obtain rfl := Eq.symm (h (by simp)); clear h
      intro u h; obtain rfl := Eq.symm (h (by simp)); clear h
      intro _ _
      intro u h; obtain rfl := Eq.symm (h (by simp)); clear h
      intro u h; obtain rfl := Eq.symm (h (by simp)); clear h
      refine relyEnd_nil rfl ?_
      simp only [Act.put, List.setIfInBounds_toArray, List.set_cons_zero, List.set_cons_succ]
      refine opr_store_new (B := w.heap.size) (W := w) info31 rfl rfl rfl (hT.row R0.out) (NewT.trans _ _ _ HN.out hT) (Nat.le_refl _) ?_
      intro w9 hB9 r9
      go_simp
      go_wp2
      exact bodyPost_ret (results_row rfl _ rfl r9 Tryd.underlying30 info31) rfl ⟨_, rfl, hB9, rfl⟩
theorem Root_cv {node : Hs → Hs → Hs} {z : Hs} (hX : TreeH node z) : ∀ (n : Nat) (v : Value) (l : List Hs) (w : World), Tables w → RdH w v l → l.length ≤ n → n ≤ 1000000 → Cv 24 #[v] w (.eq (.agg (rowA 32 (bF (rootM node z l))))) := by
  intro n
  induction n with
  | zero =>
    intro v l w hT hl hn _
    obtain rfl : l = [] := List.eq_nil_of_length_eq_zero (by omega)
    obtain ⟨A, c, rfl⟩ := rdH_form hl
    rw [rootM_nil]; exact Root_0 hX A c w hT
  | succ n ih =>
    intro v l w hT hl hn hb
    match l, hl, hn with
    | [], hl, _ => obtain ⟨A, c, rfl⟩ := rdH_form hl
                   rw [rootM_nil]; exact Root_0 hX A c w hT
    | [d], hl, _ => rw [rootM_one]; exact Root_1 hX v d w hT hl
    | d :: e :: l, hl, hn =>
      have h2 : 2 ≤ (d :: e :: l).length := by simp
      generalize d :: e :: l = m at hl hn h2 ⊢
      obtain ⟨s1, s2, _⟩ := splitN_lt m.length h2
      rw [rootM_split node z m h2]
      refine Root_2 hX v m _ w hT hl h2 s1 s2 (fun w => ?_) (fun v m' w hT' hl' hm => ih v m' w hT' hl' (by omega) (by omega))
      exact Split_cv (m.length : Int) (by omega) (by omega) w
end Go.Proofs.YtlnedphnphabkaaDoor
/- Texts compared, and lists of texts: bytes.Equal, clash.same. -/
namespace Go.Proofs.YtlnedphnphabkaaDoor
open Go Go.RowKit
set_option maxRecDepth 8000
set_option linter.all false
theorem opr_cvv {a : Act} {w : World} {o : Oper} {K : Act → World → Prop} {Q : Exit → Act → World → Prop} {f : Nat} {fn : Func} {x : Operand} {args : Array Operand} {ts : Array TypeId} {vs cap : Array Value} {c : SV NewT} (hc : Cv f vs w c)
    (ho : o.op = .call { callee := .value x, args := args, argTypes := ts }) (hx : a.eval x = .func (.func f) #[] cap) (hf : Tryd.prog.funcs[f]? = some fn) (hn : (fn.name == "runtime.NumGoroutine") = false) (hb : fn.body.isNone = false) (hv : args.map a.eval ++ cap = vs)
    (h : ∀ v w', NewT w w' → c.pred v w' → K (a.put o.dst v) w') : o.wp Tryd.prog a w K Q := by
  refine opr_callv ho hx hf hn hb hv (Calls.mono hc ?_)
  rintro e w' ⟨v, rfl, h1, h2⟩
  exact ⟨v, rfl, h v w' h1 h2⟩
theorem conv_rdK {w : World} {L : List Nat} {v : Value} {l : List UInt8} (h : RdV w L v l) : (convert 23 9 v).run Tryd.prog w = .ok (.string ⟨l.toArray⟩) w := by
  obtain ⟨A, cap, rfl, h1, h2, h3⟩ := h
  by_cases h0 : 0 < l.length
  · obtain ⟨b, o, rfl, _, hc⟩ := h3 h0
    have := run_convert_bytes_arg (P := Tryd.prog) w 23 5 Tryd.underlying23 Tryd.underlying5 b o l.length cap (l.map bN) (by simp) (fun i hi => by
      rw [hc i hi]
      simp [bAt, hi]) 9 Tryd.underlying9
    rw [this]
    have e : strOfNums (l.map bN) = ⟨l.toArray⟩ := by
      unfold strOfNums
      congr 2
      rw [List.map_map]
      conv => rhs; rw [← List.map_id l]
      exact List.map_congr_left fun b _ => by simp [bN]
    rw [e]
  · have : l = [] := List.eq_nil_of_length_eq_zero (by omega)
    subst this
    simp only [List.length_nil]
    simp [convert, run_underlying Tryd.underlying23, run_underlying Tryd.underlying9, run_underlying Tryd.underlying5, Conv.bytesToString]
    cases A <;> simp [go_sem] <;> rfl
theorem strEqK (l m : List UInt8) : (l == m) = decide (l = m) := by
  by_cases h : l = m
  · subst h; simp
  · simp [h]
set_option maxHeartbeats 400000 in
theorem BEqualK (v1 v2 : Value) (l m : List UInt8) (w : World) (h1 : RdV w [] v1 l) (h2 : RdV w [] v2 m) : Cv 33 #[v1, v2] w (.eq (.bool (decide (l = m)))) := by
  unfold Cv
  have k1 := conv_rdK h1
  have k2 := conv_rdK h2
  clear h1 h2
  rw [← strEqK]
  go_enter Tryd.func33, Tryd.ntmps33
  go_wp2
  go_ret
  exact ⟨_, rfl, NewT.refl _, rfl⟩
theorem parts_max {w : World} {v : Value} {ls : List (List UInt8)} (h : Parts w v ls) : ls.length ≤ maxLen := by
  obtain ⟨ps, ⟨A, c, hv, h1, h2, _⟩, rfl⟩ := h
  rw [List.length_map]; omega
theorem list_ext {l m : List (List UInt8)} {n : Nat} (hl : l.length = n) (hm : m.length = n) (h : ∀ i, i < n → l[i]? = m[i]?) : l = m := by
  apply List.ext_getElem? fun i => ?_
  by_cases hi : i < n
  · exact h i hi
  · rw [List.getElem?_eq_none (by omega), List.getElem?_eq_none (by omega)]
set_option maxHeartbeats 1000000 in
theorem EqF_cv (va vb : Value) (l m : List (List UInt8)) (w : World) (ha : Parts w va l) (hb : Parts w vb m) : Cv 64 #[va, vb, .func (.func 33) #[] #[]] w (.eq (.bool (decide (l = m)))) := by
  unfold Cv
  have HA0 := Lib.hid ha
  have HB0 := Lib.hid hb
  obtain ⟨A1, c1, e1, q1⟩ := parts_form ha
  obtain ⟨A2, c2, e2, q2⟩ := parts_form hb
  have p1 := parts_max ha
  unfold maxLen at p1
  subst e1 e2
  clear ha hb q1 q2
  by_cases hne : l.length = m.length
  rotate_left
  · have hd : decide (l = m) = false := decide_eq_false fun h => hne (by rw [h])
    have ht : ((l.length : Int) != (m.length : Int)) = true := by simp; omega
    rw [hd]
    go_enter Tryd.func64, Tryd.ntmps64
    go_wp2
    go_ret
    exact ⟨_, rfl, NewT.refl _, rfl⟩
  rw [← hne] at HB0 ⊢
  have Hne := Lib.hid hne
  clear hne
  go_enter Tryd.func64, Tryd.ntmps64
  go_wp2
  go_loopw [17] (fun i wr => ∃ k : Nat, k ≤ l.length ∧ i = .int .i64 (k : Int) ∧ Hid (∀ i, i < k → l[i]? = m[i]?) ∧ NewT w wr) (fun i _ => l.length - (intOf i).toNat)
  case atStart => exact ⟨0, by omega, rfl, Lib.hid (fun i hi => by omega), NewT.refl _⟩
  case round =>
    obtain ⟨k, hk, rfl, Hs, hN⟩ := hrel
    have HN := Lib.hid hN
    have HA := Lib.hid (hN.partsL HA0.out)
    have HB := Lib.hid (hN.partsL HB0.out)
    clear hN
    by_cases hlt : k < l.length
    · have it : (k : Int) < (l.length : Int) := by omega
      obtain ⟨x, hx⟩ : ∃ d, l[k]? = some d := ⟨_, List.getElem?_eq_getElem (by omega)⟩
      obtain ⟨y, hy⟩ : ∃ d, m[k]? = some d := ⟨_, List.getElem?_eq_getElem (by have := Hne.out; omega)⟩
      have HX := Lib.hid hx
      have HY := Lib.hid hy
      obtain ⟨b, hq⟩ : ∃ b, decide (x = y) = b := ⟨_, rfl⟩
      have HQ := Lib.hid hq
      clear hx hy hq
      go_upto_region 5 with fail
      obtain ⟨va, ea⟩ : ∃ v, Value.slice A1 l.length c1 = v := ⟨_, rfl⟩
      obtain ⟨vb, eb⟩ : ∃ v, Value.slice A2 l.length c2 = v := ⟨_, rfl⟩
      rw [ea] at HA
      rw [eb] at HB
      rw [ea, eb]
      refine wp_region_steps0 NewT [SV.eq (.int .i64 ((k : Int))), svPT (x), svRd (x), SV.eq (.int .i64 ((k : Int))), svRd (x)] [([(17, none)], none), ([(15, none), (17, none)], none), ([(20, some 1)], none), ([(19, some 0)], none), ([(21, some 2)], none)] 32 5 rfl rfl (by kernel_rfl) NewT.trans (NewT.refl _) (Nat.le_of_ble_eq_true rfl) ⟨?_, ?_, ?_, ?_, ?_, trivial⟩ ?_
      · intro a wx hT hF K hK
        obtain ⟨f17, _⟩ := hF
        have f17 : a.tmps.getD 17 undef = .int .i64 ((k : Int)) := f17
        refine rely_wp rfl ?_
        exact opr_move (.inl rfl) (hK _ _ (NewT.refl _) f17)
      · intro a wx hT hF K hK
        obtain ⟨f15, f17, _⟩ := hF
        have f15 : a.tmps.getD 15 undef = va := f15
        have f17 : a.tmps.getD 17 undef = .int .i64 ((k : Int)) := f17
        refine rely_wp rfl ?_
        exact opr_idxT (i := k) (l := x) (HX.out) (rfl) rfl (by rw [eval_tmp, f15]; exact (hT.partsL HA.out)) f17 (fun v hv => hK v _ (NewT.refl _) hv)
      · intro a wx hT hF K hK
        obtain ⟨f20, _⟩ := hF
        replace f20 := show (svPT (x)).pred (a.tmps.getD 20 undef) wx from f20
        refine rely_wp rfl ?_
        exact opr_ldT rfl f20 (fun u hu => hK u _ (NewT.refl _) hu)
      · intro a wx hT hF K hK
        obtain ⟨f19, _⟩ := hF
        have f19 : a.tmps.getD 19 undef = .int .i64 ((k : Int)) := f19
        refine rely_wp rfl ?_
        exact opr_move (.inr rfl) (hK _ _ (NewT.refl _) f19)
      · intro a wx hT hF K hK
        obtain ⟨f21, _⟩ := hF
        replace f21 := show (svRd (x)).pred (a.tmps.getD 21 undef) wx from f21
        refine rely_wp rfl ?_
        exact opr_move (.inr rfl) (hK _ _ (NewT.refl _) f21)
      · intro wa ka
        intro u h; obtain rfl := Eq.symm (h (by simp)); clear h
        intro _ _
        intro _ _
        intro u h; obtain rfl := Eq.symm (h (by simp)); clear h
        intro u8 h; have g8 := h (by simp); clear h; replace g8 := show (svRd (x)).pred u8 wa from g8
        refine relyEnd_nil rfl ?_
        refine wpList_end rfl ?_
        simp only [Act.put, List.setIfInBounds_toArray, List.set_cons_zero, List.set_cons_succ]
        go_simp
        have G8 := Lib.hid g8
        replace HB := Lib.hid (ka.partsL HB.out)
        replace HN := Lib.hid (NewT.trans _ _ _ HN.out ka)
        clear g8 ka HA
        go_upto_region 6 with fail
        refine wp_region_steps0 NewT [SV.eq (vb), SV.eq (.int .i64 ((k : Int))), svPT (y), svRd (y), svRd (y)] [([(1, none)], none), ([(7, none)], none), ([(22, some 0), (23, some 1)], none), ([(24, some 2)], none), ([(25, some 3)], none)] 32 5 rfl rfl (by kernel_rfl) NewT.trans (NewT.refl _) (Nat.le_of_ble_eq_true rfl) ⟨?_, ?_, ?_, ?_, ?_, trivial⟩ ?_
        · intro a wx hT hF K hK
          obtain ⟨f1, _⟩ := hF
          have f1 : a.tmps.getD 1 undef = vb := f1
          refine rely_wp rfl ?_
          exact opr_move (.inl rfl) (hK _ _ (NewT.refl _) f1)
        · intro a wx hT hF K hK
          obtain ⟨f7, _⟩ := hF
          have f7 : a.tmps.getD 7 undef = .int .i64 ((k : Int)) := f7
          refine rely_wp rfl ?_
          exact opr_move (.inl rfl) (hK _ _ (NewT.refl _) f7)
        · intro a wx hT hF K hK
          obtain ⟨f22, f23, _⟩ := hF
          have f22 : a.tmps.getD 22 undef = vb := f22
          have f23 : a.tmps.getD 23 undef = .int .i64 ((k : Int)) := f23
          refine rely_wp rfl ?_
          exact opr_idxT (i := k) (l := y) (HY.out) (rfl) rfl (by rw [eval_tmp, f22]; exact (hT.partsL HB.out)) f23 (fun v hv => hK v _ (NewT.refl _) hv)
        · intro a wx hT hF K hK
          obtain ⟨f24, _⟩ := hF
          replace f24 := show (svPT (y)).pred (a.tmps.getD 24 undef) wx from f24
          refine rely_wp rfl ?_
          exact opr_ldT rfl f24 (fun u hu => hK u _ (NewT.refl _) hu)
        · intro a wx hT hF K hK
          obtain ⟨f25, _⟩ := hF
          replace f25 := show (svRd (y)).pred (a.tmps.getD 25 undef) wx from f25
          refine rely_wp rfl ?_
          exact opr_move (.inr rfl) (hK _ _ (NewT.refl _) f25)
        · intro wb kb
          intro u h; obtain rfl := Eq.symm (h (by simp)); clear h
          intro u h; obtain rfl := Eq.symm (h (by simp)); clear h
          intro _ _
          intro _ _
          intro u9 h; have g9 := h (by simp); clear h; replace g9 := show (svRd (y)).pred u9 wb from g9
          refine relyEnd_nil rfl ?_
          refine wpList_end rfl ?_
          simp only [Act.put, List.setIfInBounds_toArray, List.set_cons_zero, List.set_cons_succ]
          go_simp
          have G9 := Lib.hid g9
          replace G8 := Lib.hid (kb.rd G8.out)
          replace HN := Lib.hid (NewT.trans _ _ _ HN.out kb)
          clear g9 kb HB
          go_upto_region 7 with fail
          refine wp_region_steps0 NewT [SV.eq ((.func (.func 33) #[] #[])), SV.eq (u8), SV.eq (u9), SV.eq (.bool (b)), SV.eq (.bool (!b))] [([(2, none)], none), ([(8, none)], none), ([(9, none)], none), ([(26, some 0), (27, some 1), (28, some 2)], none), ([(29, some 3)], none)] 32 5 rfl rfl (by kernel_rfl) NewT.trans (NewT.refl _) (Nat.le_of_ble_eq_true rfl) ⟨?_, ?_, ?_, ?_, ?_, trivial⟩ ?_
          · intro a wx hT hF K hK
            obtain ⟨f2, _⟩ := hF
            have f2 : a.tmps.getD 2 undef = (.func (.func 33) #[] #[]) := f2
            refine rely_wp rfl ?_
            exact opr_move (.inl rfl) (hK _ _ (NewT.refl _) f2)
          · intro a wx hT hF K hK
            obtain ⟨f8, _⟩ := hF
            have f8 : a.tmps.getD 8 undef = u8 := f8
            refine rely_wp rfl ?_
            exact opr_move (.inl rfl) (hK _ _ (NewT.refl _) f8)
          · intro a wx hT hF K hK
            obtain ⟨f9, _⟩ := hF
            have f9 : a.tmps.getD 9 undef = u9 := f9
            refine rely_wp rfl ?_
            exact opr_move (.inl rfl) (hK _ _ (NewT.refl _) f9)
          · intro a wx hT hF K hK
            obtain ⟨f26, f27, f28, _⟩ := hF
            have f26 : a.tmps.getD 26 undef = (.func (.func 33) #[] #[]) := f26
            have f27 : a.tmps.getD 27 undef = u8 := f27
            have f28 : a.tmps.getD 28 undef = u9 := f28
            refine rely_wp rfl ?_
            exact opr_cvv (cap := #[]) (by rw [← HQ.out]; exact BEqualK u8 u9 x y wx (hT.rd G8.out) (hT.rd G9.out)) rfl f26 Tryd.func33 (by kernel_rfl) (by kernel_rfl) (by simp only [List.map_toArray, List.map_cons, List.map_nil, List.append_toArray, List.cons_append, List.nil_append, List.append_nil, eval_tmp, eval_const, f27, f28]) hK
          · intro a wx hT hF K hK
            obtain ⟨f29, _⟩ := hF
            have f29 : a.tmps.getD 29 undef = .bool (b) := f29
            refine rely_wp rfl ?_
            exact opr_not rfl f29 (hK _ _ (NewT.refl _) rfl)
          · intro wc kc
            intro u h; obtain rfl := Eq.symm (h (by simp)); clear h
            intro u h; obtain rfl := Eq.symm (h (by simp)); clear h
            intro u h; obtain rfl := Eq.symm (h (by simp)); clear h
            intro u h; obtain rfl := Eq.symm (h (by simp)); clear h
            intro u h; obtain rfl := Eq.symm (h (by simp)); clear h
            refine relyEnd_nil rfl ?_
            refine wpList_end rfl ?_
            simp only [Act.put, List.setIfInBounds_toArray, List.set_cons_zero, List.set_cons_succ]
            go_simp
            replace HN := Lib.hid (NewT.trans _ _ _ HN.out kc)
            clear kc
            cases b
            · go_wp2
              go_ret
              exact ⟨_, rfl, HN.out, by rw [decide_eq_false (fun e : l = m => of_decide_eq_false HQ.out (by have h1 := HX.out; rw [e, HY.out] at h1; exact (Option.some.inj h1).symm))]; rfl⟩
            · subst ea eb
              go_wp2
              go_roundw
              case rel => exact ⟨k + 1, by omega, by go_num, Lib.hid (fun i hi => by
                rcases Nat.lt_succ_iff_lt_or_eq.1 hi with h1 | rfl
                · exact Hs.out i h1
                · rw [HX.out, HY.out, of_decide_eq_true HQ.out]), HN.out⟩
              case measure => simp [intOf]; omega
    · obtain rfl : k = l.length := by omega
      go_wp2
      go_ret
      exact ⟨_, rfl, HN.out, by rw [decide_eq_true (list_ext rfl Hne.out.symm Hs.out)]; rfl⟩
set_option maxHeartbeats 400000 in
theorem Same_cv (va vb : Value) (l m : List (List UInt8)) (w : World) (ha : Parts w va l) (hb : Parts w vb m) : Cv 44 #[va, vb] w (.eq (.bool (decide (l = m)))) := by
  unfold Cv
  have HA := Lib.hid ha
  have HB := Lib.hid hb
  clear ha hb
  go_enter Tryd.func44, Tryd.ntmps44
  go_upto_region 1 with fail
  refine wp_region_steps0 NewT [SV.eq (va), SV.eq (vb), SV.eq (.bool (decide (l = m))), SV.eq (.bool (decide (l = m)))] [([(0, none)], none), ([(1, none)], none), ([(5, some 0), (6, some 1)], none), ([(7, some 2)], none)] 8 4 rfl rfl (by kernel_rfl) NewT.trans (NewT.refl _) (Nat.le_of_ble_eq_true rfl) ⟨?_, ?_, ?_, ?_, trivial⟩ ?_
  · intro a wx hT hF K hK
    obtain ⟨f0, _⟩ := hF
    have f0 : a.tmps.getD 0 undef = va := f0
    refine rely_wp rfl ?_
    exact opr_move (.inl rfl) (hK _ _ (NewT.refl _) f0)
  · intro a wx hT hF K hK
    obtain ⟨f1, _⟩ := hF
    have f1 : a.tmps.getD 1 undef = vb := f1
    refine rely_wp rfl ?_
    exact opr_move (.inl rfl) (hK _ _ (NewT.refl _) f1)
  · intro a wx hT hF K hK
    obtain ⟨f5, f6, _⟩ := hF
    have f5 : a.tmps.getD 5 undef = va := f5
    have f6 : a.tmps.getD 6 undef = vb := f6
    refine rely_wp rfl ?_
    exact opr_cv (EqF_cv va vb l m wx (hT.partsL HA.out) (hT.partsL HB.out)) rfl Tryd.func64 (by kernel_rfl) (by kernel_rfl) (by simp only [List.map_toArray, List.map_cons, List.map_nil, eval_tmp, eval_func, f5, f6]) hK
  · intro a wx hT hF K hK
    obtain ⟨f7, _⟩ := hF
    have f7 : a.tmps.getD 7 undef = .bool (decide (l = m)) := f7
    refine rely_wp rfl ?_
    exact opr_move (.inr rfl) (hK _ _ (NewT.refl _) f7)
  · intro wa ka
    intro u h; obtain rfl := Eq.symm (h (by simp)); clear h
    intro u h; obtain rfl := Eq.symm (h (by simp)); clear h
    intro u h; obtain rfl := Eq.symm (h (by simp)); clear h
    intro u h; obtain rfl := Eq.symm (h (by simp)); clear h
    refine relyEnd_nil rfl ?_
    refine wpList_end rfl ?_
    simp only [Act.put, List.setIfInBounds_toArray, List.set_cons_zero, List.set_cons_succ]
    go_simp
    go_wp2
    go_ret
    exact ⟨_, rfl, ka, rfl⟩
end Go.Proofs.YtlnedphnphabkaaDoor
/- Package sha, more: blocks of a text, one by one. -/
namespace Go.Proofs.YtlnedphnphabkaaDoor
open Go.RowKit
set_option maxRecDepth 8000
set_option linter.all false
attribute [local go_sem] uF_at
set_option maxHeartbeats 1000000 in
/-- A block that hasn't 64 bytes turns nothing. -/
theorem Turn_no (s : Nat → BitVec 32) (A : Option Addr) (n cap : Nat) (hn : n ≠ 64) (w : World) :
    Calls Tryd.prog 51 #[.agg (rowA 8 (uF s)), .slice A n cap] w fun e w' => e = .returned (.agg (rowA 8 (uF s))) ∧ Below w.heap.size w w' := by
  have hn2 : ((n : Int) == 64) = false := by simp; omega
  have r0 := (rowIs_box w 71 8 (uF s)).alloc (.cells (rowA 8 fun _ => .int .u32 0) 71)
  have r1 := rowIs_box (w.alloc (.cells (rowA 8 (uF s)) 71)) 71 8 fun _ => .int .u32 0
  have hB : Below w.heap.size w ((w.alloc (.cells (rowA 8 (uF s)) 71)).alloc (.cells (rowA 8 fun _ => .int .u32 0) 71)) :=
    ((Below.refl _ w).alloc (Nat.le_refl _) _).alloc (by simp) _
  rw [World.size_alloc] at r1
  have hR := rangeAt_row r0
  go_enter Tryd.func51, Tryd.ntmps51
  go_wp2_with (first
    | (refine wpList_load_mid rfl 71 (.tmp 2) rfl w.heap.size 0 rfl (rowA 8 (uF s)).toList _ hR Tryd.underlying71 rfl (by rw [rowA_toList]; simpa using info23) ?_)
    | (refine wpList_store_mid rfl 71 (.tmp 4) (.tmp 10) rfl (w.heap.size + 1) 0 (rowA 8 (uF s)) rfl rfl (by rw [rowA_size]; exact there_row r1) (by rw [rowA_size]; exact info23) (rowA_one _ _ fun _ => rfl) ?_))
  exact bodyPost_ret (results_row rfl _ rfl (rowIs_setAll r1 (uF s)) Tryd.underlying71 info23) rfl ⟨rfl, below_setCells _ (by omega) _ _ _ hB⟩
theorem word_back (x : BitVec 32) : (((((x >>> 24).setWidth 8).setWidth 32 <<< 24) ||| (((x >>> 16).setWidth 8).setWidth 32 <<< 16)) ||| (((x >>> 8).setWidth 8).setWidth 32 <<< 8)) ||| ((x >>> 0).setWidth 8).setWidth 32 = x := by
  apply BitVec.eq_of_getLsbD_eq
  intro i hi
  simp only [BitVec.getLsbD_or, BitVec.getLsbD_shiftLeft, BitVec.getLsbD_setWidth, BitVec.getLsbD_ushiftRight]
  by_cases h1 : i < 8
  · simp [h1, show i < 16 by omega, show i < 24 by omega, hi]
  · by_cases h2 : i < 16
    · simp [h1, h2, show i < 24 by omega, hi, show i - 8 < 8 by omega, show i - 8 < 32 by omega, show 8 + (i - 8) = i by omega]
    · by_cases h3 : i < 24
      · simp [h1, h2, h3, hi, show i - 16 < 8 by omega, show ¬ i - 8 < 8 by omega, show i - 16 < 32 by omega, show 16 + (i - 16) = i by omega]
      · simp [h1, h2, h3, hi, show i - 24 < 8 by omega, show ¬ i - 8 < 8 by omega, show ¬ i - 16 < 8 by omega, show i - 24 < 32 by omega, show 24 + (i - 24) = i by omega]
theorem dig_word (S : Nat → BitVec 32) (i : Nat) :
    ((((dig S (4 * i)).toBitVec.setWidth 32 <<< 24) ||| ((dig S (4 * i + 1)).toBitVec.setWidth 32 <<< 16)) ||| ((dig S (4 * i + 2)).toBitVec.setWidth 32 <<< 8)) ||| (dig S (4 * i + 3)).toBitVec.setWidth 32 = S i := by
  unfold dig
  rw [show 4 * i / 4 = i by omega, show (4 * i + 1) / 4 = i by omega, show (4 * i + 2) / 4 = i by omega, show (4 * i + 3) / 4 = i by omega,
    show 4 * i % 4 = 0 by omega, show (4 * i + 1) % 4 = 1 by omega, show (4 * i + 2) % 4 = 2 by omega, show (4 * i + 3) % 4 = 3 by omega]
  exact word_back (S i)
theorem slice_blk (b o n cap j : Nat) (h : j + 64 ≤ cap) (w : World) : (Instr.slice 23 (.slice (some ⟨b, o, none⟩) n cap) (some (.int .i64 (j : Int))) (some (.int .i64 ((j : Int) + 64))) none).run Tryd.prog w = .ok (.slice (some ⟨b, o + j, none⟩) 64 (cap - j)) w := by
  have hsz : (sizeOf 5).run Tryd.prog w = .ok 1 w := by
    obtain ⟨i0, hi, _, hz1, _⟩ := info_parts info5
    simp [sizeOf, typeInfo, hi, hz1]
  have h3 : (0 : Int) ≤ (j : Int) + 64 ∧ (j : Int) + 64 ≤ (cap : Int) := by omega
  have h4 : j ≤ ((j : Int) + 64).toNat := by omega
  have h6 : ((j : Int) + 64).toNat - j = 64 := by omega
  have h5 : cap ≠ j := by omega
  simp [Instr.slice, run_underlying Tryd.underlying23, Instr.sliceBounds, Instr.sliceBound, asIntOf, hsz, h3, h4, h5, h6, Addr.add_mid]
/-- A text's block. -/
def blk (c : List UInt8) (i : Nat) : List UInt8 := (c.drop (64 * i)).take 64
/-- The state behind the first blocks. -/
def sB (c : List UInt8) : Nat → Nat → BitVec 32
  | 0 => Fc
  | k + 1 => turnF Kc (sB c k) (blk c k)
theorem bAt_blk (c : List UInt8) (k i : Nat) (h : i < 64) : bAt (blk c k) i = bAt c (64 * k + i) := by
  simp [bAt, blk, h, List.getElem?_drop]
theorem sB_fold (c : List UInt8) (k : Nat) : ((List.range k).map (blk c)).foldl (turnF Kc) Fc = sB c k := by
  induction k with
  | zero => rfl
  | succ k ih => rw [List.range_succ, List.map_append, List.foldl_append, ih]; rfl
theorem sha_blocks (c : List UInt8) (m : Nat) (h : c.length = 64 * m) : shaL Kc Fc c = dig (turnF Kc (sB c m) (fillB c.length)) := by
  have hf : (fillB c.length).length = 64 := by rw [fillB_length, h]; simp
  obtain ⟨_, h2⟩ := rem_full c (fillB c.length) (by rw [hf]; omega)
  have hr : rem c = [] := by unfold rem; rw [show 64 * (c.length / 64) = c.length by omega]; simp
  rw [shaL, h2, hr, List.nil_append, List.foldl_append]
  have : cks c = (List.range m).map (blk c) := by unfold cks; rw [h, show 64 * m / 64 = m by omega]; rfl
  rw [this, sB_fold]; rfl
theorem info22s : (Tryd.prog.info? 70).map (·.size) = some 1 := by kernel_rfl
theorem equal_state (w : World) (d : Nat → BitVec 32) : (Op.equalIn 10000 71 (.agg (rowA 8 (uF d))) (.agg (rowA 8 (uF d)))).run Tryd.prog w = .ok true w :=
  equalIn_same w 9998 71 70 8 .u32 Tryd.underlying71 Tryd.underlying70 info22s (fun i => uN (d i))
theorem equal_state2 (w : World) (d : Nat → BitVec 32) : (Op.equalIn 10000 71 (.agg (rowA 8 (uF d))) (.agg #[.int .u32 (uN (d 0)), .int .u32 (uN (d 1)), .int .u32 (uN (d 2)), .int .u32 (uN (d 3)), .int .u32 (uN (d 4)), .int .u32 (uN (d 5)), .int .u32 (uN (d 6)), .int .u32 (uN (d 7))])).run Tryd.prog w = .ok true w := equal_state w d
theorem u32_mul16m (x : BitVec 32) : IntKind.u32.wrap (uN x * (16777216 : Int)) = uN (x <<< 24) := u32_shl x 24
theorem u32_mul65k (x : BitVec 32) : IntKind.u32.wrap (uN x * (65536 : Int)) = uN (x <<< 16) := u32_shl x 16
theorem Sum_new1 (v : Value) (l : List UInt8) (D : Nat → UInt8) (W : World) (hT : Tables W) (h : RdV W [] v l) (ht : l.length ≤ 4611686018427387904) (hD : shaL Kc Fc l = D) :
    Calls Tryd.prog 34 #[.slice (some ⟨W.heap.size, 0, none⟩) 1 1] (W.alloc (.cells #[v] 23)) fun e w' => e = .returned (.agg (rowA 32 (bF D))) ∧ Below W.heap.size W w' := by
  have hB := (Below.refl _ W).alloc (Nat.le_refl _) (.cells #[v] 23)
  refine (Sum_c _ [(v, l)] _ (hT.below hB) (parts_new [(v, l)] 23 (by simp) (by simp) (by simpa using h)) (by simpa [total] using ht)).mono ?_
  rintro e w' ⟨rfl, hb⟩
  rw [show flat [(v, l)] = l by simp [flat], hD]
  exact ⟨rfl, hB.trans (hb.mono hB.size)⟩
end Go.Proofs.YtlnedphnphabkaaDoor
/- Numbers of 64 bits that hold numbers of 32, as the reference computes; and the reference's turns and shifts. -/
namespace Go.Proofs.YtlnedphnphabkaaDoor
open Go.RowKit
set_option maxRecDepth 8000
set_option linter.all false

theorem wrap_u64 (n : Int) : IntKind.u64.wrap n = n % 18446744073709551616 := by simp [IntKind.wrap, IntKind.bits, IntKind.signed]
theorem wrap64_uN (x : BitVec 32) : IntKind.u64.wrap (uN x) = uN x := by rw [wrap_u64]; have := uN_lt x; omega
theorem wrap64_bN (x : UInt8) : IntKind.u64.wrap (bN x) = bN x := by rw [wrap_u64]; have := bN_lt x; omega
theorem or64 (a b : Nat) (ha : a < 2 ^ 64) (hb : b < 2 ^ 64) : bits .or .u64 (a : Int) (b : Int) = ((a ||| b : Nat) : Int) := by
  show IntKind.u64.wrap (((BitVec.ofInt 64 (a : Int) ||| BitVec.ofInt 64 (b : Int)).toNat : Nat) : Int) = _
  rw [BitVec.ofInt_natCast, BitVec.ofInt_natCast, BitVec.toNat_or, BitVec.toNat_ofNat, BitVec.toNat_ofNat, Nat.mod_eq_of_lt ha, Nat.mod_eq_of_lt hb, wrap_u64]
  have := Nat.or_lt_two_pow ha hb
  omega
theorem xor64 (a b : Nat) (ha : a < 2 ^ 64) (hb : b < 2 ^ 64) : bits .xor .u64 (a : Int) (b : Int) = ((a ^^^ b : Nat) : Int) := by
  show IntKind.u64.wrap (((BitVec.ofInt 64 (a : Int) ^^^ BitVec.ofInt 64 (b : Int)).toNat : Nat) : Int) = _
  rw [BitVec.ofInt_natCast, BitVec.ofInt_natCast, BitVec.toNat_xor, BitVec.toNat_ofNat, BitVec.toNat_ofNat, Nat.mod_eq_of_lt ha, Nat.mod_eq_of_lt hb, wrap_u64]
  have := Nat.xor_lt_two_pow ha hb
  omega
theorem and64 (a b : Nat) (ha : a < 2 ^ 64) (hb : b < 2 ^ 64) : bits .and .u64 (a : Int) (b : Int) = ((a &&& b : Nat) : Int) := by
  show IntKind.u64.wrap (((BitVec.ofInt 64 (a : Int) &&& BitVec.ofInt 64 (b : Int)).toNat : Nat) : Int) = _
  rw [BitVec.ofInt_natCast, BitVec.ofInt_natCast, BitVec.toNat_and, BitVec.toNat_ofNat, BitVec.toNat_ofNat, Nat.mod_eq_of_lt ha, Nat.mod_eq_of_lt hb, wrap_u64]
  have := Nat.and_lt_two_pow a hb
  omega
theorem lt64 (x : BitVec 32) : x.toNat < 2 ^ 64 := by omega
theorem u64_xor (x y : BitVec 32) : bits .xor .u64 (uN x) (uN y) = uN (x ^^^ y) := by
  unfold uN; rw [xor64 _ _ (lt64 x) (lt64 y), BitVec.toNat_xor]
theorem u64_and (x y : BitVec 32) : bits .and .u64 (uN x) (uN y) = uN (x &&& y) := by
  unfold uN; rw [and64 _ _ (lt64 x) (lt64 y), BitVec.toNat_and]
theorem u64_not (x : BitVec 32) : IntKind.u64.wrap ((4294967295 : Int) - uN x) = uN (~~~x) := by
  rw [wrap_u64]; unfold uN; rw [BitVec.toNat_not]; omega
/-- A sum of numbers of 32 bits, not cut. -/
def tN (l : List (BitVec 32)) : Int := ((l.map BitVec.toNat).sum : Nat)
theorem u64_add2 (a b : BitVec 32) : IntKind.u64.wrap (uN a + uN b) = tN [a, b] := by rw [wrap_u64]; simp [uN, tN]; omega
theorem u64_add3 (a b c : BitVec 32) : IntKind.u64.wrap (tN [a, b] + uN c) = tN [a, b, c] := by rw [wrap_u64]; simp [uN, tN]; omega
theorem u64_add4 (a b c d : BitVec 32) : IntKind.u64.wrap (tN [a, b, c] + uN d) = tN [a, b, c, d] := by rw [wrap_u64]; simp [uN, tN]; omega
theorem u64_add5 (a b c d e : BitVec 32) : IntKind.u64.wrap (tN [a, b, c, d] + uN e) = tN [a, b, c, d, e] := by rw [wrap_u64]; simp [uN, tN]; omega
theorem mod_t2 (a b : BitVec 32) : tN [a, b] % (4294967296 : Int) = uN (a + b) := by simp [uN, tN, BitVec.toNat_add]
theorem mod_t4 (a b c d : BitVec 32) : tN [a, b, c, d] % (4294967296 : Int) = uN (a + b + c + d) := by simp [uN, tN, BitVec.toNat_add]; omega
theorem mod_t5 (a b c d e : BitVec 32) : tN [a, b, c, d, e] % (4294967296 : Int) = uN (a + b + c + d + e) := by simp [uN, tN, BitVec.toNat_add]; omega
theorem u64_rot (x : BitVec 32) (m k : Nat) (hm : m < 32) (hk : k = 32 - m) : bits .or .u64 (uN (x >>> m)) (IntKind.u64.wrap (uN x * 2 ^ k)) % (4294967296 : Int) = uN (x.rotateRight m) := by
  have h1 : IntKind.u64.wrap (uN x * 2 ^ k) = ((x.toNat * 2 ^ k % 2 ^ 64 : Nat) : Int) := by rw [wrap_u64]; unfold uN; simp
  rw [h1]
  unfold uN
  rw [or64 _ _ (lt64 _) (Nat.mod_lt _ (by omega)), BitVec.rotateRight_def, Nat.mod_eq_of_lt hm, BitVec.toNat_or, ← hk]
  have h2 : ((x >>> m).toNat ||| x.toNat * 2 ^ k % 2 ^ 64) % 2 ^ 32 = (x >>> m).toNat ||| (x <<< k).toNat := by
    rw [Nat.or_mod_two_pow, Nat.mod_eq_of_lt (x >>> m).isLt, Nat.mod_mod_of_dvd _ (by decide), BitVec.toNat_shiftLeft, Nat.shiftLeft_eq]
  omega
theorem tN_nonneg (l : List (BitVec 32)) : 0 ≤ tN l := by unfold tN; omega
theorem tmod_t2 (a b : BitVec 32) : (tN [a, b]).tmod (4294967296 : Int) = uN (a + b) := by rw [Int.tmod_eq_emod_of_nonneg (tN_nonneg _), mod_t2]
theorem tmod_t4 (a b c d : BitVec 32) : (tN [a, b, c, d]).tmod (4294967296 : Int) = uN (a + b + c + d) := by rw [Int.tmod_eq_emod_of_nonneg (tN_nonneg _), mod_t4]
theorem tmod_t5 (a b c d e : BitVec 32) : (tN [a, b, c, d, e]).tmod (4294967296 : Int) = uN (a + b + c + d + e) := by rw [Int.tmod_eq_emod_of_nonneg (tN_nonneg _), mod_t5]
theorem u64_rott (x : BitVec 32) (m k : Nat) (hm : m < 32) (hk : k = 32 - m) : (bits .or .u64 (uN (x >>> m)) (IntKind.u64.wrap (uN x * 2 ^ k))).tmod (4294967296 : Int) = uN (x.rotateRight m) := by
  have h1 : IntKind.u64.wrap (uN x * 2 ^ k) = ((x.toNat * 2 ^ k % 2 ^ 64 : Nat) : Int) := by rw [wrap_u64]; unfold uN; simp
  have h0 : 0 ≤ bits .or .u64 (uN (x >>> m)) (IntKind.u64.wrap (uN x * 2 ^ k)) := by
    rw [h1]; unfold uN; rw [or64 _ _ (lt64 _) (Nat.mod_lt _ (by omega))]; omega
  rw [Int.tmod_eq_emod_of_nonneg h0, u64_rot x m k hm hk]
attribute [local go_sem] u32_shr wrap64_uN
set_option maxHeartbeats 400000 in
theorem right_any (x : BitVec 32) (n : Int) (hn : 0 < n) (hn2 : n < 32) (w : World) :
    Calls Tryd.prog 71 #[.int .u64 (uN x), .int .i64 n] w fun e w' => e = .returned (.int .u64 (uN (x.rotateRight n.toNat))) ∧ w = w' := by
  obtain ⟨m, rfl⟩ := Int.eq_ofNat_of_zero_le (Int.le_of_lt hn)
  rw [Int.toNat_natCast]
  have e32 : (32 : Int) - (m : Int) = ((32 - m : Nat) : Int) := by omega
  obtain ⟨k, hk⟩ : ∃ k, k = 32 - m := ⟨_, rfl⟩
  rw [← hk] at e32
  have hr := u64_rott x m k (by omega) hk
  have hk1 : k < 32 := by omega
  have Hk := Lib.hid hk
  clear hk
  go_enter Tryd.func71, Tryd.ntmps71
  go_wp2
  go_ret
  exact ⟨rfl, rfl⟩
set_option maxHeartbeats 400000 in
theorem shift_any (x : BitVec 32) (n : Int) (hn : 0 < n) (hn2 : n < 32) (w : World) :
    Calls Tryd.prog 72 #[.int .u64 (uN x), .int .i64 n] w fun e w' => e = .returned (.int .u64 (uN (x >>> n.toNat))) ∧ w = w' := by
  obtain ⟨m, rfl⟩ := Int.eq_ofNat_of_zero_le (Int.le_of_lt hn)
  rw [Int.toNat_natCast]
  go_enter Tryd.func72, Tryd.ntmps72
  go_wp2
  go_ret
  exact ⟨rfl, rfl⟩
end Go.Proofs.YtlnedphnphabkaaDoor
