/- Own words for rows of cells: an array by value as a function of its places; whole arrays read, written and handed back. No program is named here. -/
import Derived.Test.YteelddmegmojpaaBase
import Derived.Deep.OwnRows
import Derived.Deep.MidRow
import Derived.StillTailTactics
namespace Go.Proofs.Yteelddmegmojpaa
open Go.RowKit

/-- The cells of an array by value: n places, place i holds f i. -/
def rowA (n : Nat) (f : Nat → Value) : Array Value := ((List.range n).map f).toArray
theorem rowA_size (n : Nat) (f : Nat → Value) : (rowA n f).size = n := by simp [rowA]
theorem rowA_toList (n : Nat) (f : Nat → Value) : (rowA n f).toList = (List.range n).map f := by simp [rowA]
theorem rowA_at (n : Nat) (f : Nat → Value) (i : Nat) (h : i < n) : (rowA n f)[i]? = some (f i) := by simp [rowA, h]
theorem rowA_congr {n : Nat} {f g : Nat → Value} (h : ∀ i, i < n → f i = g i) : rowA n f = rowA n g := by
  unfold rowA; congr 1; exact List.map_congr_left fun i hi => h i (by simpa using hi)
theorem rowA_one (n : Nat) (f : Nat → Value) (h : ∀ i, (f i).oneCell' = true) : (rowA n f).all (·.oneCell') = true :=
  all_oneCell_toArray (fun v hv => by obtain ⟨i, _, rfl⟩ := List.mem_map.1 hv; exact h i)

section
variable {P : Program} {w w' : World} {b : Nat} {t : TypeId} {n : Nat} {f g : Nat → Value}

theorem rowIs_box (w : World) (t : TypeId) (n : Nat) (f : Nat → Value) : (w.alloc (.cells (rowA n f) t)).rowIs w.heap.size t n f := by
  have := World.rowIs_alloc w (rowA n f) t f (fun i hi => rowA_at n f i (by rwa [rowA_size] at hi))
  rwa [rowA_size] at this
theorem rowIs_below {B : Nat} (h : w.rowIs b t n f) (hb : Below B w w') (hlt : b < B) : w'.rowIs b t n f := h.of_block (hb.block b hlt)
theorem rangeAt_row (h : w.rowIs b t n f) : w.rangeAt b 0 (rowA n f).toList := fun j v hv => by
  rw [rowA_toList, List.getElem?_map] at hv
  cases hj : (List.range n)[j]? with
  | none => rw [hj] at hv; simp at hv
  | some k =>
    rw [hj] at hv
    obtain ⟨hlt, hk⟩ := List.getElem?_eq_some_iff.1 hj
    simp at hlt hk
    subst hk
    simp at hv
    subst hv
    simpa using h.cell hlt
theorem there_row (h : w.rowIs b t n f) : w.there b 0 n := fun j hj => ⟨by simp [h.cell (i := j) hj], by simpa using h.frozen j⟩
theorem below_setCells {B : Nat} {a : World} (b : Nat) (hb : B ≤ b) : ∀ (vs : List Value) (o : Nat) (w : World), Below B a w → Below B a (w.setCells b o vs)
  | [], _, _, h => h
  | v :: r, o, w, h => by
    rw [World.setCells]
    exact below_setCells b hb r (o + 1) _ (h.setCell (p := ⟨b, o, none⟩) hb v)
theorem rowIs_setCells_at (h : w.rowIs b t n f) : ∀ (vs : List Value) (o : Nat), (w.setCells b o vs).rowIs b t n (fun i => if o ≤ i ∧ i < o + vs.length then vs.getD (i - o) undef else f i) := by
  intro vs
  induction vs generalizing w f with
  | nil => intro o; exact h.congr fun i _ => by rw [if_neg (by simp only [List.length_nil]; omega)]
  | cons v r ih =>
    intro o
    rw [World.setCells]
    refine (ih (h.set o v) (o + 1)).congr fun i hi => ?_
    by_cases e : i = o
    · subst e; rw [if_neg (by omega), if_pos rfl, if_pos (by simp only [List.length_cons]; omega)]; simp
    · by_cases h2 : o + 1 ≤ i ∧ i < o + 1 + r.length
      · rw [if_pos h2, if_pos (by simp only [List.length_cons]; omega), show i - o = (i - (o + 1)) + 1 by omega]; simp
      · rw [if_neg h2, if_neg e, if_neg (by simp only [List.length_cons]; omega)]
theorem rowIs_setAll (h : w.rowIs b t n f) (g : Nat → Value) : (w.setCells b 0 (rowA n g).toList).rowIs b t n g :=
  (rowIs_setCells_at h (rowA n g).toList 0).congr fun i hi => by
    have hl : (rowA n g).toList.length = n := by rw [rowA_toList]; simp
    rw [if_pos ⟨Nat.zero_le _, by omega⟩, rowA_toList]; simp [hi]
theorem rowIs_setOther (h : w.rowIs b t n f) {b' : Nat} (hne : b ≠ b') : ∀ (vs : List Value) (o : Nat), (w.setCells b' o vs).rowIs b t n f := by
  intro vs
  induction vs generalizing w with
  | nil => intro o; exact h
  | cons v r ih => intro o; rw [World.setCells]; exact ih (h.setOther (a := ⟨b', o, none⟩) hne v) (o + 1)
theorem size_setCells (b : Nat) : ∀ (vs : List Value) (o : Nat) (w : World), (w.setCells b o vs).heap.size = w.heap.size
  | [], _, _ => rfl
  | v :: r, o, w => by rw [World.setCells, size_setCells b r]; simp
theorem load_row {e : TypeId} {m : Nat} (h : w.rowIs b t n f) {ty : TypeId} (hu : P.underlying ty = some (.array m e)) (hi : (P.info? ty).map (·.size) = some n) :
    (loadVar ty ⟨b, 0, none⟩).run P w = .ok (.agg (rowA n f)) w := by
  have := run_loadVar_mid (P := P) w b 0 ty (rowA n f).toList _ (rangeAt_row h) hu rfl (by rw [hi, rowA_toList]; simp)
  simpa using this
/-- An element of an array by value. -/
theorem index_row (t e : TypeId) (d : TypeDesc) (hu : P.underlying t = some (.array n e)) (he : P.underlying e = some d) (hd : d.isRow = false) (hs : (P.info? e).map (·.size) = some 1) (f : Nat → Value) (kd : IntKind) (k : Nat) (hk : k < n) (w : World) :
    (Instr.index t (.agg (rowA n f)) (.int kd (k : Int))).run P w = .ok (f k) w := by
  have hsz : (sizeOf e).run P w = .ok 1 w := by
    cases hq : P.info? e with
    | none => simp [hq] at hs
    | some i => simp [hq] at hs; simp [sizeOf, typeInfo, hq, hs]
  have hagg : (isAgg e).run P w = .ok false w := by
    unfold isAgg
    rw [Sem.run_bind, run_underlying he w]
    cases d <;> simp_all
  have hat := rowA_at n f k hk
  simp [Instr.index, asIntOf, run_underlying hu, hsz, hk, part, hagg, hat]
/-- 's[m:]', the address as the model has it. -/
theorem slice_from (t e : TypeId) (hu : P.underlying t = some (.slice e)) (hs : (P.info? e).map (·.size) = some 1) (a : Addr) (n cap m : Nat) (hm : m ≤ n) (w : World) :
    (Instr.slice t (.slice (some a) n cap) (some (.int .i64 (m : Int))) none none).run P w = .ok (.slice (some (if cap = m then a else a.add m)) (n - m) (cap - m)) w := by
  have hsz : (sizeOf e).run P w = .ok 1 w := by
    cases hq : P.info? e with
    | none => simp [hq] at hs
    | some i => simp [hq] at hs; simp [sizeOf, typeInfo, hq, hs]
  by_cases h : cap = m
  · simp [Instr.slice, run_underlying hu, Instr.sliceBounds, Instr.sliceBound, asIntOf, hm, hsz, h]
  · simp [Instr.slice, run_underlying hu, Instr.sliceBounds, Instr.sliceBound, asIntOf, hm, hsz, h]
/-- An array that a call hands back. -/
theorem results_row {e : TypeId} {m : Nat} {fn : Func} {p : Tmp} {ty : TypeId} (hf : fn.results = #[.cell p ty]) (tmps : Array Value) (hp : tmps.getD p undef = .pointer (some ⟨b, 0, none⟩))
    (h : w.rowIs b t n f) (hu : P.underlying ty = some (.array m e)) (hi : (P.info? ty).map (·.size) = some n) : (results fn tmps).run P w = .ok (.agg (rowA n f)) w := by
  have := load_row (P := P) h hu hi
  have hp' : tmps[p]?.getD undef = .pointer (some ⟨b, 0, none⟩) := by simpa using hp
  simp [results, hf, hp', asAddr, this]
end
end Go.Proofs.Yteelddmegmojpaa
