/- Slices of structs of n cells: they read as lists of rows, and as lists of what the rows say; elements, beginnings, rows of the call's own, appends. No program is named here. -/
import Derived.Test.YtilmeffmdgcblaaDoorMa
import Derived.Lib.SliceRun
import Derived.OrdersIn
import Derived.Sort.CutIn
set_option linter.all false
namespace Go.Proofs.YtilmeffmdgcblaaDoor
open Go Go.RowKit
set_option maxRecDepth 8000
set_option linter.all false
/-- The cells of rows, one behind the other. -/
def ecs (n : Nat) (l : List (Nat → Value)) : List Value := l.flatMap fun d => (List.range n).map d
theorem ecs_length (n : Nat) (l : List (Nat → Value)) : (ecs n l).length = l.length * n := by
  induction l with
  | nil => simp [ecs]
  | cons d l ih => rw [ecs, List.flatMap_cons, List.length_append, show (l.flatMap fun d => (List.range n).map d) = ecs n l from rfl, ih]; simp [Nat.succ_mul]; omega
theorem ecs_app (n : Nat) (a b : List (Nat → Value)) : ecs n (a ++ b) = ecs n a ++ ecs n b := by simp [ecs]
theorem ecs_at (n : Nat) (l : List (Nat → Value)) : ∀ (i : Nat) (d : Nat → Value), l[i]? = some d → ∀ j, j < n → (ecs n l)[i * n + j]? = some (d j) := by
  induction l with
  | nil => intro i d h; simp at h
  | cons e l ih =>
    intro i d h j hj
    have hl : ((List.range n).map e).length = n := by simp
    rw [show ecs n (e :: l) = (List.range n).map e ++ ecs n l from rfl]
    cases i with
    | zero => simp at h; subst h; rw [List.getElem?_append_left (by rw [hl]; omega)]; simp [hj]
    | succ i => rw [List.getElem?_append_right (by rw [hl, Nat.succ_mul]; omega), hl, show (i + 1) * n + j - n = i * n + j by rw [Nat.succ_mul]; omega]; exact ih i d (by simpa using h) j hj
/-- Each of the rows' cells is one. -/
def OneE (n : Nat) (l : List (Nat → Value)) : Prop := ∀ f ∈ l, ∀ j, j < n → (f j).oneCell' = true
theorem ecs_one {n : Nat} {l : List (Nat → Value)} (h : OneE n l) : ∀ u ∈ ecs n l, u.oneCell' = true := by
  intro u hu
  obtain ⟨d, hd, h'⟩ := List.mem_flatMap.1 hu
  obtain ⟨j, hj, rfl⟩ := List.mem_map.1 h'
  exact h d hd j (by simpa using hj)
def RdE (n : Nat) (W : World) (v : Value) (l : List (Nat → Value)) : Prop :=
  ∃ A cap, v = .slice A l.length cap ∧ l.length ≤ cap ∧ cap ≤ maxLen ∧ (0 < l.length → ∃ b o, A = some ⟨b, o, none⟩ ∧ ∀ i d, l[i]? = some d → ∀ j, j < n → W.cell? ⟨b, o + i * n + j, none⟩ = some (d j))
theorem RdE.new {n : Nat} {w w' : World} {v : Value} {l : List (Nat → Value)} (h : RdE n w v l) (hN : NewT w w') : RdE n w' v l := by
  obtain ⟨A, c, hv, h1, h2, h3⟩ := h
  refine ⟨A, c, hv, h1, h2, fun h0 => ?_⟩
  obtain ⟨b, o, hA, hc⟩ := h3 h0
  exact ⟨b, o, hA, fun i d hd j hj => (hN.out.cell (World.block_lt_of_cell? _ _ (hc i d hd j hj))).trans (hc i d hd j hj)⟩
theorem rdE_nil (n : Nat) (w : World) : RdE n w (.slice none 0 0) [] := ⟨none, 0, rfl, Nat.le_refl _, by unfold maxLen; omega, fun h => absurd h (by simp)⟩
theorem RdE.news {n : Nat} {w : World} {l : List (Nat → Value)} {b o m c : Nat} (h : RdE n w (.slice (some ⟨b, o, none⟩) m c) l) : ∀ j u, (ecs n l)[j]? = some u → w.cell? ((⟨b, o, none⟩ : Addr).add j) = some u := by
  intro j u hj
  obtain ⟨A, cap, hv, _, _, h3⟩ := h
  have hlt : j < l.length * n := by rw [← ecs_length]; exact (List.getElem?_eq_some_iff.1 hj).1
  have hn : 0 < n := by rcases Nat.eq_zero_or_pos n with e | e; (rw [e] at hlt; omega); exact e
  have hi : j / n < l.length := (Nat.div_lt_iff_lt_mul hn).2 hlt
  obtain ⟨b', o', hA, hc⟩ := h3 (Nat.lt_of_le_of_lt (Nat.zero_le _) hi)
  injection hv with e1 _ _
  rw [hA] at e1
  cases e1
  have hd : l[j / n]? = some l[j / n] := List.getElem?_eq_getElem hi
  have hm := Nat.mod_lt j hn
  have ej : j / n * n + j % n = j := by rw [Nat.mul_comm]; exact Nat.div_add_mod j n
  have h1 := ecs_at n l _ _ hd (j % n) hm
  rw [ej] at h1
  rw [h1] at hj
  cases hj
  have := hc _ _ hd (j % n) hm
  rw [Addr.add_mid, show o + j = o + j / n * n + j % n by omega]
  exact this
/-- What a program says of an element's type. -/
structure ElTy (P : Program) (sT eT : TypeId) (n : Nat) : Prop where
  ul : P.underlying sT = some (.slice eT)
  inf : ∃ i0 z, P.info? eT = some i0 ∧ i0.zero = some z ∧ i0.size = n ∧ i0.bytes ≤ 1000 ∧ z.cells.size = n
  pos : 0 < n
  row : ∃ d, P.underlying eT = some d ∧ d.isRow = true
theorem ElTy.of {P : Program} {sT eT : TypeId} {n b : Nat} {z : Value} {d : TypeDesc} (h1 : P.underlying sT = some (.slice eT)) (h2 : (P.info? eT).map (fun i => (i.zero, i.size, i.bytes)) = some (some z, n, b)) (hb : b ≤ 1000) (hz : z.cells.size = n) (h0 : 0 < n) (h3 : P.underlying eT = some d) (h4 : d.isRow = true) : ElTy P sT eT n := by
  refine ⟨h1, ?_, h0, d, h3, h4⟩
  cases hq : P.info? eT with
  | none => rw [hq] at h2; cases h2
  | some i => rw [hq] at h2; simp at h2; exact ⟨i, z, rfl, h2.1, h2.2.1, by omega, hz⟩
section
variable {P : Program} {sT eT : TypeId} {n : Nat}
theorem ElTy.size (T : ElTy P sT eT n) (w : World) : (sizeOf eT).run P w = .ok n w := by
  obtain ⟨i0, z, h1, _, h2, _⟩ := T.inf
  simp [sizeOf, typeInfo, h1, h2]
theorem ElTy.map (T : ElTy P sT eT n) : (P.info? eT).map (·.size) = some n := by
  obtain ⟨i0, z, h1, _, h2, _⟩ := T.inf
  rw [h1]; simp [h2]
theorem run_idxE (T : ElTy P sT eT n) {b off m c i : Nat} (w : World) (hi : i < m) : (Instr.indexAt sT (.slice (some ⟨b, off, none⟩) m c) (.int .i64 (i : Int))).run P w = .ok (.pointer (some ⟨b, off + i * n, none⟩)) w := by
  have hs := T.size w
  simp [Instr.indexAt, asIntOf, run_underlying T.ul, hi, hs, Addr.add_mid]
theorem run_ldE (T : ElTy P sT eT n) {b off : Nat} {d : Nat → Value} {w : World} (hc : ∀ j, j < n → w.cell? ⟨b, off + j, none⟩ = some (d j)) : (Instr.loadAt eT (.pointer (some ⟨b, off, none⟩))).run P w = .ok (.agg (rowA n d)) w := by
  have hr : w.rangeAt b off (rowA n d).toList := fun j v hv => by
    rw [rowA_toList] at hv
    have hj : j < n := by have := (List.getElem?_eq_some_iff.1 hv).1; simpa using this
    simp [hj] at hv
    subst hv
    exact hc j hj
  obtain ⟨dd, h1, h2⟩ := T.row
  have := run_loadAt_mid (P := P) w b off eT (rowA n d).toList _ hr h1 h2 (by rw [rowA_toList]; simpa using T.map)
  simpa using this
theorem run_fromE (T : ElTy P sT eT n) {A : Option Addr} {m c k : Nat} (w : World) (hk : k ≤ m) : (Instr.slice sT (.slice A m c) (some (.int .i64 (k : Int))) none none).run P w = .ok (.slice (if c = k then A else A.map (·.add (k * n))) (m - k) (c - k)) w := by
  have h1 : k ≤ m := hk
  have hs := T.size w
  by_cases hc : c = k
  · simp [Instr.slice, run_underlying T.ul, Instr.sliceBounds, Instr.sliceBound, asIntOf, hs, h1, hc]
  · simp [Instr.slice, run_underlying T.ul, Instr.sliceBounds, Instr.sliceBound, asIntOf, hs, h1, hc]
theorem rdE_take {w : World} {A : Option Addr} {l : List (Nat → Value)} {c k : Nat} (h : RdE n w (.slice A l.length c) l) (hk : k ≤ l.length) : RdE n w (.slice A k c) (l.take k) := by
  obtain ⟨A', c', hv, h1, h2, h3⟩ := h
  cases hv
  have hl : (l.take k).length = k := by rw [List.length_take]; omega
  refine ⟨A, c, by rw [hl], by rw [hl]; omega, h2, fun h0 => ?_⟩
  rw [hl] at h0
  obtain ⟨b, off, hA, hc⟩ := h3 (by omega)
  refine ⟨b, off, hA, fun i d hd j hj => hc i d ?_ j hj⟩
  rw [List.getElem?_take] at hd
  split at hd
  · exact hd
  · cases hd
theorem rdE_drop {w : World} {A : Option Addr} {l : List (Nat → Value)} {c k : Nat} (h : RdE n w (.slice A l.length c) l) (hk : k ≤ l.length) : RdE n w (.slice (if c = k then A else A.map (·.add (k * n))) (l.length - k) (c - k)) (l.drop k) := by
  obtain ⟨A', c', hv, h1, h2, h3⟩ := h
  cases hv
  have hl : (l.drop k).length = l.length - k := by simp
  refine ⟨_, c - k, by rw [hl], by rw [hl]; omega, by omega, fun h0 => ?_⟩
  rw [hl] at h0
  obtain ⟨b, off, rfl, hc⟩ := h3 (by omega)
  refine ⟨b, off + k * n, by rw [if_neg (by omega)]; simp [Addr.add_mid], fun i d hd j hj => ?_⟩
  have := hc (k + i) d (by simpa using hd) j hj
  rw [show off + k * n + i * n + j = off + (k + i) * n + j by rw [Nat.add_mul]; omega]
  exact this
/-- A row of the call's own, in blocks from B on. -/
def OwnE (eT : TypeId) (n : Nat) (W : World) (B : Nat) (v : Value) (l : List (Nat → Value)) : Prop := W.ownsRow B eT n v l.length (ecs n l)
theorem OwnE.rd {W : World} {B : Nat} {v : Value} {l : List (Nat → Value)} (h : OwnE eT n W B v l) : RdE n W v l := by
  have hh := h
  rcases h.2 with ⟨rfl, h0⟩ | ⟨g, cap, cur, rfl, hb, _, hnc, hcm, _, _⟩
  · have : l = [] := List.eq_nil_of_length_eq_zero h0
    subst this
    exact rdE_nil n W
  · refine ⟨some ⟨g, 0, none⟩, cap, rfl, hnc, hcm, fun _ => ⟨g, 0, rfl, fun i d hd j hj => ?_⟩⟩
    have hc := World.ownsRow.cells hh (g := g) rfl (i * n + j) _ (ecs_at n l i d hd j hj)
    rw [Addr.add_mid] at hc
    rw [Nat.add_assoc]; exact hc
theorem ownE_nil (W : World) (B : Nat) : OwnE eT n W B (.slice none 0 0) [] := by
  have := World.ownsRow_nil W B eT n
  simpa [OwnE, ecs] using this
theorem OwnE.lt {W : World} {B : Nat} {v : Value} {l : List (Nat → Value)} (h : OwnE eT n W B v l) : ∀ k, v.ownBlock = some k → B ≤ k ∧ k < W.heap.size := World.ownsRow.lt h
theorem OwnE.keep {W W' : World} {B : Nat} {v : Value} {l : List (Nat → Value)} (h : OwnE eT n W B v l) (hk : ∀ k, v.ownBlock = some k → W'.heap[k]? = W.heap[k]?) : OwnE eT n W' B v l := by
  obtain ⟨h1, h2⟩ := h
  refine ⟨h1, ?_⟩
  rcases h2 with h2 | ⟨g, cap, cur, hv, hb, hg, r⟩
  · exact .inl h2
  · exact .inr ⟨g, cap, cur, hv, hb, (hk g (by rw [hv]; rfl)).trans hg, r⟩
theorem OwnE.new {W W' : World} {B : Nat} {v : Value} {l : List (Nat → Value)} (h : OwnE eT n W B v l) (hN : NewT W W') : OwnE eT n W' B v l := h.keep fun k hk => hN.out.block k (h.lt k hk).2
theorem OwnE.mono {W : World} {B B' : Nat} {v : Value} {l : List (Nat → Value)} (h : OwnE eT n W B v l) (hB : B' ≤ B) : OwnE eT n W B' v l := by
  obtain ⟨h1, h2⟩ := h
  refine ⟨h1, ?_⟩
  rcases h2 with h2 | ⟨g, cap, cur, hv, hb, r⟩
  · exact .inl h2
  · exact .inr ⟨g, cap, cur, hv, Nat.le_trans hB hb, r⟩
theorem OwnE.form {W : World} {B : Nat} {v : Value} {l : List (Nat → Value)} (h : OwnE eT n W B v l) : ∃ A c, v = .slice A l.length c ∧ l.length ≤ c := by
  rcases h.2 with ⟨hv, h0⟩ | ⟨g, cap, cur, hv, _, _, hc, _⟩
  · exact ⟨none, 0, by rw [hv, h0], by omega⟩
  · exact ⟨_, cap, hv, hc⟩
theorem run_appE (T : ElTy P sT eT n) {W : World} {B : Nat} {v u : Value} {l m : List (Nat → Value)} (h : OwnE eT n W B v l) (hr : RdE n W u m) (h1 : OneE n m) (hn : l.length + m.length ≤ 1000000) (hB : B ≤ W.heap.size) (ty : TypeId) :
    ∃ v' w', (Builtin.append_ #[sT, sT] ty #[v, u]).run P W = .ok v' w' ∧ OwnE eT n w' B v' (l ++ m) ∧ W.grownBy w' v.ownBlock := by
  obtain ⟨i0, z, hi, hz0, hz1, hz2, hz3⟩ := T.inf
  have hr0 := hr
  obtain ⟨A, cap, rfl, k1, k2, k3⟩ := hr
  cases A with
  | none =>
    have h0 : m = [] := by
      cases m with
      | nil => rfl
      | cons b l => obtain ⟨_, _, h, _⟩ := k3 (by simp); cases h
    subst h0
    refine ⟨v, W, ?_, by simpa using h, World.grownBy.refl W _⟩
    rcases h.2 with ⟨rfl, h0⟩ | ⟨g, cap', cur, rfl, _, _, hnc, _⟩
    · simp [Builtin.append_, run_underlying T.ul, sizeOf, typeInfo, hi, Builtin.lenOf, Builtin.firstCells]
    · simp [Builtin.append_, run_underlying T.ul, sizeOf, typeInfo, hi, Builtin.lenOf, Builtin.firstCells, hnc, storeCells]
  | some ad =>
    have hcells : ∀ j u, (ecs n m)[j]? = some u → W.cell? (ad.add j) = some u := fun j u hj => by
      have hlt : j < m.length * n := by rw [← ecs_length]; exact (List.getElem?_eq_some_iff.1 hj).1
      have hm : 0 < m.length := by rcases Nat.eq_zero_or_pos m.length with e | e; (rw [e] at hlt; omega); exact e
      obtain ⟨b, o, hA, _⟩ := k3 hm
      cases hA
      exact hr0.news j u hj
    obtain ⟨v', w', hrun, ho, hg, _⟩ := run_append_own (P := P) W B sT ty eT i0 _ n i0.bytes T.ul hi hz0 hz1 rfl hz3 T.pos v l.length (ecs n l) h ad m.length cap (ecs n m) (ecs_length n m) hcells (ecs_one h1) (by unfold maxLen; omega) (Nat.le_trans (Nat.mul_le_mul hn hz2) (by omega)) hB
    refine ⟨v', w', hrun, ?_, hg⟩
    unfold OwnE
    rw [List.length_append, ecs_app]
    exact ho
end
section
variable {α : Type}
/-- A slice of structs that reads as a list of what they say. -/
def RdL (n : Nat) (E : World → (Nat → Value) → α → Prop) (W : World) (v : Value) (L : List α) : Prop :=
  ∃ fs : List (Nat → Value), RdE n W v fs ∧ fs.length = L.length ∧ ∀ (i : Nat) (p : α), L[i]? = some p → ∃ f : Nat → Value, fs[i]? = some f ∧ E W f p
/-- What is said stands while memory is but made. -/
class StbE (E : World → (Nat → Value) → α → Prop) : Prop where
  new : ∀ {w w' : World} {f : Nat → Value} {p : α}, E w f p → NewT w w' → E w' f p
variable {n : Nat} {E : World → (Nat → Value) → α → Prop}
theorem RdL.new [StbE E] {w w' : World} {v : Value} {L : List α} (h : RdL n E w v L) (hN : NewT w w') : RdL n E w' v L := by
  obtain ⟨fs, h1, h2, h3⟩ := h
  refine ⟨fs, h1.new hN, h2, fun i p hp => ?_⟩
  obtain ⟨f, e1, e2⟩ := h3 i p hp
  exact ⟨f, e1, StbE.new e2 hN⟩
theorem rdL_nil (w : World) : RdL n E w (.slice none 0 0) [] := ⟨[], rdE_nil n w, rfl, fun i p h => by simp at h⟩
theorem RdL.form {w : World} {v : Value} {L : List α} (h : RdL n E w v L) : ∃ A c, v = .slice A L.length c ∧ L.length ≤ c ∧ c ≤ maxLen := by
  obtain ⟨fs, ⟨A, c, hv, h1, h2, _⟩, e, _⟩ := h
  rw [e] at hv h1
  exact ⟨A, c, hv, h1, h2⟩
theorem RdL.one {w : World} {v : Value} {L : List α} (h : RdL n E w v L) : v.oneCell' = true := by
  obtain ⟨A, c, rfl, _⟩ := h.form; rfl
def svL (n : Nat) (E : World → (Nat → Value) → α → Prop) [StbE E] (L : List α) : SV NewT := ⟨fun v w => RdL n E w v L, fun _ _ _ h hT => h.new hT⟩
/-- A place where an element lies. -/
def svEl (n : Nat) (E : World → (Nat → Value) → α → Prop) [StbE E] (p : α) : SV NewT := ⟨fun v w => ∃ b o f, v = .pointer (some ⟨b, o, none⟩) ∧ (0 < n → ∀ j, j < n → w.cell? ⟨b, o + j, none⟩ = some (f j)) ∧ E w f p,
  fun v w w' h hT => by
    obtain ⟨b, o, f, h1, h2, h3⟩ := h
    refine ⟨b, o, f, h1, fun h0 j hj => ?_, StbE.new h3 hT⟩
    have := h2 h0 j hj
    exact (hT.out.cell (p := ⟨b, o + j, none⟩) (World.block_lt_of_cell? _ _ this)).trans this⟩
/-- A row that says something. -/
def svAg (n : Nat) (E : World → (Nat → Value) → α → Prop) [StbE E] (p : α) : SV NewT := ⟨fun v w => ∃ f, v = .agg (rowA n f) ∧ E w f p, fun _ _ _ ⟨f, h1, h2⟩ hT => ⟨f, h1, StbE.new h2 hT⟩⟩
section
variable {P : Program} {sT eT : TypeId} {a : Act} {w : World} {o : Oper} {K : Act → World → Prop} {Q : Exit → Act → World → Prop} {x y : Operand} [StbE E]
theorem opr_lenL {L : List α} (ho : o.op = .call { callee := .builtin .len, args := #[x], argTypes := #[sT] }) (T : ElTy Tryd.prog sT eT n) (hx : RdL n E w (a.eval x) L) (h : K (a.put o.dst (.int .i64 (L.length : Int))) w) : o.wp Tryd.prog a w K Q := by
  obtain ⟨A, c, hv, _⟩ := hx.form
  exact opr_len ho T.ul hv h
theorem opr_idxL {L : List α} {i : Nat} {m : Int} {p : α} (T : ElTy P sT eT n) (hd : L[i]? = some p) (hn : m = (i : Int)) (ho : o.op = .indexAddr sT x y) (hx : RdL n E w (a.eval x) L) (hy : a.eval y = .int .i64 m) (h : ∀ v, (svEl n E p).pred v w → K (a.put o.dst v) w) : o.wp P a w K Q := by
  subst hn
  obtain ⟨dst, op, type, pos, after, guard⟩ := o
  simp only at ho
  subst ho
  obtain ⟨fs, ⟨A, c, hv, _, _, h3⟩, e, h4⟩ := hx
  have hi : i < fs.length := by rw [e]; exact (List.getElem?_eq_some_iff.1 hd).1
  obtain ⟨f, hf, hE⟩ := h4 i p hd
  obtain ⟨b, off, rfl, hc⟩ := h3 (by omega)
  exact opr_val (s := Instr.indexAt sT (a.eval x) (a.eval y)) rfl (by rw [hv, hy]; exact run_idxE T w hi) (h _ ⟨b, off + i * n, f, rfl, fun _ j hj => hc i f hf j hj, hE⟩)
theorem opr_ldL {p : α} (T : ElTy P sT eT n) (ho : o.op = .load eT x) (hx : (svEl n E p).pred (a.eval x) w) (h : ∀ v, (svAg n E p).pred v w → K (a.put o.dst v) w) : o.wp P a w K Q := by
  obtain ⟨dst, op, type, pos, after, guard⟩ := o
  simp only at ho
  subst ho
  obtain ⟨b, off, f, hv, hc, hE⟩ := hx
  exact opr_val (s := Instr.loadAt eT (a.eval x)) rfl (by rw [hv]; exact run_ldE T (hc T.pos)) (h _ ⟨f, rfl, hE⟩)
theorem RdL.take {A : Option Addr} {L : List α} {c k : Nat} (h : RdL n E w (.slice A L.length c) L) (hk : k ≤ L.length) : RdL n E w (.slice A k c) (L.take k) := by
  obtain ⟨fs, h1, e, h3⟩ := h
  rw [← e] at h1
  refine ⟨fs.take k, rdE_take h1 (by omega), by rw [List.length_take, List.length_take, e], fun i p hp => ?_⟩
  rw [List.getElem?_take] at hp ⊢
  split at hp
  next hlt => rw [if_pos hlt]; exact h3 i p hp
  next => cases hp
theorem RdL.drop {A : Option Addr} {L : List α} {c k : Nat} (h : RdL n E w (.slice A L.length c) L) (hk : k ≤ L.length) : RdL n E w (.slice (if c = k then A else A.map (·.add (k * n))) (L.length - k) (c - k)) (L.drop k) := by
  obtain ⟨fs, h1, e, h3⟩ := h
  rw [← e] at h1
  refine ⟨fs.drop k, by rw [← e]; exact rdE_drop h1 (by omega), by simp [e], fun i p hp => ?_⟩
  rw [List.getElem?_drop] at hp ⊢
  exact h3 _ p hp
/-- 'l[k:]'. -/
theorem opr_fromL {L : List α} {k : Nat} {m : Int} (T : ElTy P sT eT n) (hk : k ≤ L.length) (hn : m = (k : Int)) (ho : o.op = .slice sT x (some y) none none) (hx : RdL n E w (a.eval x) L) (hy : a.eval y = .int .i64 m) (h : ∀ v, (svL n E (L.drop k)).pred v w → K (a.put o.dst v) w) : o.wp P a w K Q := by
  subst hn
  obtain ⟨dst, op, type, pos, after, guard⟩ := o
  simp only at ho
  subst ho
  obtain ⟨A, c, hv, hc, _⟩ := hx.form
  rw [hv] at hx
  exact opr_val (s := Instr.sliceAt sT (a.eval x) (some (a.eval y)) none none) (by simp [execOp]) (by rw [hv, hy]; simp [Instr.sliceAt, run_underlying T.ul]; exact run_fromE T w hk) (h _ (hx.drop hk))
end
/-- A row of the call's own, in blocks from B on, whose elements say the list. -/
def OwnL (eT : TypeId) (n : Nat) (E : World → (Nat → Value) → α → Prop) (W : World) (B : Nat) (v : Value) (L : List α) : Prop :=
  ∃ fs : List (Nat → Value), OwnE eT n W B v fs ∧ fs.length = L.length ∧ ∀ (i : Nat) (p : α), L[i]? = some p → ∃ f : Nat → Value, fs[i]? = some f ∧ E W f p
variable {eT : TypeId}
theorem OwnL.rd {W : World} {B : Nat} {v : Value} {L : List α} (h : OwnL eT n E W B v L) : RdL n E W v L := by
  obtain ⟨fs, h1, h2, h3⟩ := h; exact ⟨fs, h1.rd, h2, h3⟩
theorem OwnL.lt {W : World} {B : Nat} {v : Value} {L : List α} (h : OwnL eT n E W B v L) : ∀ k, v.ownBlock = some k → B ≤ k ∧ k < W.heap.size := by
  obtain ⟨fs, h1, _⟩ := h; exact h1.lt
theorem OwnL.new [StbE E] {W W' : World} {B : Nat} {v : Value} {L : List α} (h : OwnL eT n E W B v L) (hN : NewT W W') : OwnL eT n E W' B v L := by
  obtain ⟨fs, h1, h2, h3⟩ := h
  refine ⟨fs, h1.new hN, h2, fun i p hp => ?_⟩
  obtain ⟨f, e1, e2⟩ := h3 i p hp
  exact ⟨f, e1, StbE.new e2 hN⟩
theorem OwnL.mono {W : World} {B B' : Nat} {v : Value} {L : List α} (h : OwnL eT n E W B v L) (hB : B' ≤ B) : OwnL eT n E W B' v L := by
  obtain ⟨fs, h1, h2⟩ := h; exact ⟨fs, h1.mono hB, h2⟩
end
end Go.Proofs.YtilmeffmdgcblaaDoor
/- Sagas, as they go (layer 11), told by few numbers: the step that is next, whether it may have gone well, how many are left to be undone, tries, whether a call is out. That they end, within how many records, and how they stand then. No program is named here. -/
namespace Go.Proofs.YtilmeffmdgcblaaDoor
set_option maxRecDepth 8000
set_option linter.all false
/-- What steps' kinds must be. -/
structure MayK (ks : List Int) : Prop where
  l1 : 1 ≤ ks.length
  l6 : ks.length ≤ 6
  kind : ∀ i, i < ks.length → 1 ≤ ks.getD i 0 ∧ ks.getD i 0 ≤ 3
  ord : ∀ i, i + 1 < ks.length → ks.getD i 0 ≤ ks.getD (i + 1) 0 ∧ ¬ (ks.getD i 0 = 2 ∧ ks.getD (i + 1) 0 = 2)
def kd (ks : List Int) (i : Nat) : Int := ks.getD i 0
/-- Ahead of a step that isn't retried all can be compensated. -/
theorem MayK.below {ks : List Int} (h : MayK ks) : ∀ j, j < ks.length → kd ks j < 3 → ∀ i, i < j → kd ks i = 1
  | 0, _, _, i, hi => by omega
  | j + 1, hj, hk, i, hi => by
    have h1 := h.ord j hj
    have h2 := h.kind j (by omega)
    unfold kd at hk
    have h3 : kd ks j = 1 := by unfold kd; omega
    rcases Nat.lt_succ_iff_lt_or_eq.1 hi with h4 | rfl
    · exact h.below j (by omega) (by rw [h3]; omega) i h4
    · exact h3
/-- How a saga stands: phase, the step that is next, whether that may have gone well; of what is undone, from which one to which (r, top); tries; whether a call is out. -/
structure St where
  ph : Nat
  a : Nat
  p : Bool
  top : Nat
  r : Nat
  t : Nat
  w : Bool
def st0 : St := ⟨0, 0, false, 0, 0, 0, false⟩
/-- Behind an answer: 0 good, 1 not good, else none in time. -/
def ansA (ks : List Int) (lim ans : Nat) (s : St) : St :=
  if s.ph = 0 then
    (if ans = 0 then { s with a := s.a + 1, p := false, t := 0, w := false }
     else if ans = 1 then (if kd ks s.a < 3 then { s with p := false, ph := 1, top := s.a, r := s.a, t := 0, w := false } else { s with w := false })
     else (if kd ks s.a = 1 ∧ s.t = lim then { s with p := true, ph := 1, top := s.a + 1, r := s.a + 1, t := 0, w := false } else { s with p := true, w := false }))
  else (if ans = 0 then { s with r := s.r - 1, t := 0, w := false } else { s with w := false })
/-- Behind what is due. -/
def dueA (n lim : Nat) (s : St) : St :=
  if s.ph = 0 then (if s.a = n then { s with ph := 2 } else if s.t < lim then { s with t := s.t + 1, w := true } else { s with ph := 4 })
  else if s.ph = 1 then (if s.r = 0 then { s with ph := 3 } else if s.t < lim then { s with t := s.t + 1, w := true } else { s with ph := 4 })
  else s
/-- Behind a record more. -/
def nextA (ks : List Int) (lim ans : Nat) (s : St) : St := if s.w = true then ansA ks lim ans s else dueA ks.length lim s
/-- On the way forward. -/
structure Fw (ks : List Int) (s : St) : Prop where
  top : s.top = 0
  r : s.r = 0
  ph : s.ph = 0 ∨ s.ph = 2 ∨ s.ph = 4
  a : s.a ≤ ks.length
  p : s.p = true → s.a < ks.length
  w : s.w = true → s.ph = 0 ∧ s.a < ks.length ∧ 1 ≤ s.t
  two : s.ph = 2 → s.a = ks.length
/-- On the way back. -/
structure Bw (ks : List Int) (s : St) : Prop where
  ph : s.ph = 1 ∨ s.ph = 3 ∨ s.ph = 4
  a : s.a < ks.length
  kind : kd ks s.a < 3
  comp : s.p = true → kd ks s.a = 1
  top : s.top = if s.p = true then s.a + 1 else s.a
  r : s.r ≤ s.top
  w : s.w = true → s.ph = 1 ∧ 0 < s.r ∧ 1 ≤ s.t
  three : s.ph = 3 → s.r = 0
structure Inv (ks : List Int) (lim : Nat) (s : St) : Prop where
  t : s.t ≤ lim
  fb : Fw ks s ∨ Bw ks s
theorem inv_st0 {ks : List Int} (lim : Nat) : Inv ks lim st0 :=
  ⟨Nat.zero_le _, .inl ⟨rfl, rfl, .inl rfl, Nat.zero_le _, fun h => (by cases h), fun h => (by cases h), fun h => (by cases h)⟩⟩
/-- Each record keeps what holds, and leaves fewer. -/
theorem next_inv {ks : List Int} {lim ans : Nat} {s : St} (hk : MayK ks) (h : Inv ks lim s) : Inv ks lim (nextA ks lim ans s) := by
  obtain ⟨ht, hF | hB⟩ := h
  · by_cases hw : s.w = true
    · obtain ⟨h0, ha, h1⟩ := hF.w hw
      unfold nextA ansA
      rw [if_pos hw, if_pos h0]
      by_cases a0 : ans = 0
      · rw [if_pos a0]
        exact ⟨Nat.zero_le _, .inl ⟨hF.top, hF.r, .inl h0, ha, fun h => (by cases h), fun h => (by cases h), fun h => (by simp [h0] at h)⟩⟩
      rw [if_neg a0]
      by_cases a1 : ans = 1
      · rw [if_pos a1]
        by_cases k3 : kd ks s.a < 3
        · rw [if_pos k3]
          exact ⟨Nat.zero_le _, .inr ⟨.inl rfl, ha, k3, fun h => (by cases h), rfl, Nat.le_refl _, fun h => (by cases h), fun h => (by cases h)⟩⟩
        · rw [if_neg k3]
          exact ⟨ht, .inl ⟨hF.top, hF.r, hF.ph, hF.a, hF.p, fun h => (by cases h), fun h => (by simp [h0] at h)⟩⟩
      rw [if_neg a1]
      by_cases k1 : kd ks s.a = 1 ∧ s.t = lim
      · rw [if_pos k1]
        exact ⟨Nat.zero_le _, .inr ⟨.inl rfl, ha, by show kd ks s.a < 3; omega, fun _ => k1.1, rfl, Nat.le_refl _, fun h => (by cases h), fun h => (by cases h)⟩⟩
      · rw [if_neg k1]
        exact ⟨ht, .inl ⟨hF.top, hF.r, hF.ph, hF.a, fun _ => ha, fun h => (by cases h), fun h => (by simp [h0] at h)⟩⟩
    · unfold nextA dueA
      rw [if_neg hw]
      have hw' : s.w = false := by simpa using hw
      by_cases h0 : s.ph = 0
      · rw [if_pos h0]
        by_cases ha : s.a = ks.length
        · rw [if_pos ha]
          exact ⟨ht, .inl ⟨hF.top, hF.r, .inr (.inl rfl), hF.a, hF.p, fun h => (by simp [hw'] at h), fun _ => ha⟩⟩
        · rw [if_neg ha]
          have ha2 : s.a < ks.length := by have := hF.a; omega
          by_cases hl : s.t < lim
          · rw [if_pos hl]
            exact ⟨hl, .inl ⟨hF.top, hF.r, .inl h0, hF.a, hF.p, fun _ => ⟨h0, ha2, Nat.le_add_left _ _⟩, fun h => (by simp [h0] at h)⟩⟩
          · rw [if_neg hl]
            exact ⟨ht, .inl ⟨hF.top, hF.r, .inr (.inr rfl), hF.a, hF.p, fun h => (by simp [hw'] at h), fun h => (by cases h)⟩⟩
      · rw [if_neg h0]
        have h1 : s.ph ≠ 1 := by have := hF.ph; omega
        rw [if_neg h1]
        exact ⟨ht, .inl hF⟩
  · by_cases hw : s.w = true
    · obtain ⟨h1, hr, ht1⟩ := hB.w hw
      unfold nextA ansA
      rw [if_pos hw, if_neg (by omega)]
      by_cases a0 : ans = 0
      · rw [if_pos a0]
        exact ⟨Nat.zero_le _, .inr ⟨.inl h1, hB.a, hB.kind, hB.comp, hB.top, by have := hB.r; show s.r - 1 ≤ s.top; omega, fun h => (by cases h), fun h => (by simp [h1] at h)⟩⟩
      · rw [if_neg a0]
        exact ⟨ht, .inr ⟨hB.ph, hB.a, hB.kind, hB.comp, hB.top, hB.r, fun h => (by cases h), fun h => (by simp [h1] at h)⟩⟩
    · unfold nextA dueA
      rw [if_neg hw]
      have hw' : s.w = false := by simpa using hw
      have h0 : s.ph ≠ 0 := by have := hB.ph; omega
      rw [if_neg h0]
      by_cases h1 : s.ph = 1
      · rw [if_pos h1]
        by_cases hr : s.r = 0
        · rw [if_pos hr]
          exact ⟨ht, .inr ⟨.inr (.inl rfl), hB.a, hB.kind, hB.comp, hB.top, hB.r, fun h => (by simp [hw'] at h), fun _ => hr⟩⟩
        · rw [if_neg hr]
          by_cases hl : s.t < lim
          · rw [if_pos hl]
            exact ⟨hl, .inr ⟨.inl h1, hB.a, hB.kind, hB.comp, hB.top, hB.r, fun _ => ⟨h1, Nat.pos_of_ne_zero hr, Nat.le_add_left _ _⟩, fun h => (by simp [h1] at h)⟩⟩
          · rw [if_neg hl]
            exact ⟨ht, .inr ⟨.inr (.inr rfl), hB.a, hB.kind, hB.comp, hB.top, hB.r, fun h => (by simp [hw'] at h), fun h => (by cases h)⟩⟩
      · rw [if_neg h1]
        exact ⟨ht, .inr hB⟩
section
variable {ks : List Int} {lim : Nat} {ans : Nat → Nat}
end
end Go.Proofs.YtilmeffmdgcblaaDoor
/- Sagas, as they go: what layer 11's laws say of them, told by the numbers of SA: all calls good, one not good, none answered; what goes. No program is named here. -/
namespace Go.Proofs.YtilmeffmdgcblaaDoor
set_option maxRecDepth 8000
set_option linter.all false
section
variable {ks : List Int} {lim : Nat} {ans : Nat → Nat}
end
/-- The step whose call is due, or out. -/
def tgA (s : St) : Int := if s.ph = 1 then (s.r : Int) - 1 else s.a
end Go.Proofs.YtilmeffmdgcblaaDoor
/- Sagas' sets of steps, as numbers (bit i: step i): which steps went well, may have, were undone; which one is undone next; how a saga that is over stands. No program is named here. -/
namespace Go.Proofs.YtilmeffmdgcblaaDoor
set_option maxRecDepth 8000
set_option linter.all false
/-- Is a step in a set? -/
def hasN (x i : Nat) : Bool := x / 2 ^ i % 2 == 1
theorem hasN_bit (x i : Nat) : hasN x i = x.testBit i := by
  rw [Nat.testBit_eq_decide_div_mod_eq, hasN, Bool.eq_iff_iff]; simp
def doneN (s : St) : Nat := 2 ^ s.a - 1
def someN (s : St) : Nat := if s.p = true then 2 ^ s.a else 0
def undN (s : St) : Nat := 2 ^ s.top - 2 ^ s.r
theorem has_done (s : St) (i : Nat) : hasN (doneN s) i = decide (i < s.a) := by
  rw [hasN_bit, doneN, Nat.testBit_two_pow_sub_one]
theorem has_some (s : St) (i : Nat) : hasN (someN s) i = (s.p && decide (i = s.a)) := by
  rw [hasN_bit, someN]
  cases s.p
  · simp
  · rw [if_pos rfl, Nat.testBit_two_pow, Bool.true_and, Bool.eq_iff_iff]
    simp only [decide_eq_true_iff]
    exact ⟨fun h => h.symm, fun h => h.symm⟩
theorem has_und {s : St} (h : s.r ≤ s.top) (i : Nat) : hasN (undN s) i = (decide (s.r ≤ i) && decide (i < s.top)) := by
  rw [hasN_bit, undN]
  obtain ⟨d, hd⟩ : ∃ d, s.top = s.r + d := ⟨s.top - s.r, by omega⟩
  have e : 2 ^ s.top - 2 ^ s.r = 2 ^ s.r * (2 ^ d - 1) := by
    rw [hd, Nat.pow_add, Nat.mul_sub, Nat.mul_one]
  rw [e, Nat.mul_comm, Nat.testBit_mul_two_pow, Nat.testBit_two_pow_sub_one, Bool.eq_iff_iff]
  simp only [Bool.and_eq_true, decide_eq_true_iff]
  omega
/-- May a step be undone next? -/
def undoB (ks : List Int) (s : St) (i : Nat) : Bool := (kd ks i == 1 && (hasN (doneN s) i || hasN (someN s) i)) && !hasN (undN s) i
/-- On the way back these are the first r. -/
theorem undo_bw {ks : List Int} {s : St} (hk : MayK ks) (h : Bw ks s) {i : Nat} (_ : i < ks.length) : undoB ks s i = decide (i < s.r) := by
  unfold undoB
  rw [has_done, has_some, has_und h.r, Bool.eq_iff_iff]
  have ht := h.top
  simp only [Bool.and_eq_true, Bool.or_eq_true, decide_eq_true_iff, Bool.not_eq_true', Bool.and_eq_false_iff, decide_eq_false_iff_not, beq_iff_eq]
  constructor
  · rintro ⟨⟨_, h2⟩, h3⟩
    rcases h3 with h3 | h3
    · omega
    · rcases h2 with h2 | ⟨h2, h4⟩
      · split at ht <;> omega
      · rw [h2, if_pos rfl] at ht; omega
  · intro hi
    have hr := h.r
    refine ⟨⟨?_, ?_⟩, .inl (by omega)⟩
    · rcases Nat.lt_or_ge i s.a with h1 | h1
      · exact hk.below s.a h.a h.kind i h1
      · have hp : s.p = true := by
          cases hp : s.p with
          | true => rfl
          | false => rw [hp, if_neg (by simp)] at ht; omega
        rw [hp, if_pos rfl] at ht
        obtain rfl : i = s.a := by omega
        exact h.comp hp
    · rcases Nat.lt_or_ge i s.a with h1 | h1
      · exact .inl h1
      · cases hp : s.p with
        | true => rw [hp, if_pos rfl] at ht; exact .inr ⟨rfl, by omega⟩
        | false => rw [hp, if_neg (by simp)] at ht; omega
end Go.Proofs.YtilmeffmdgcblaaDoor
/- A saga's cells: its steps, phase, next step, tries, whether a call is out, and a compensation, what went well, was undone, may have gone well, how many records. No program is named here. -/
namespace Go.Proofs.YtilmeffmdgcblaaDoor
open Go Go.RowKit
set_option maxRecDepth 8000
set_option linter.all false
def saF (sv : Value) (ph at_ tr : Int) (wt bk : Bool) (dn un so sq : Int) (i : Nat) : Value := if i = 0 then sv else if i = 1 then .int .i64 ph else if i = 2 then .int .i64 at_ else if i = 3 then .int .i64 tr else if i = 4 then .bool wt else if i = 5 then .bool bk else if i = 6 then .int .i64 dn else if i = 7 then .int .i64 un else if i = 8 then .int .i64 so else .int .i64 sq
theorem saF_one (sv : Value) (ph at_ tr : Int) (wt bk : Bool) (dn un so sq : Int) (hs : sv.oneCell' = true) (i : Nat) : (saF sv ph at_ tr wt bk dn un so sq i).oneCell' = true := by
  unfold saF
  repeat' split
  all_goals first | exact hs | rfl
section
variable (sv : Value) (ph at_ tr : Int) (wt bk : Bool) (dn un so sq : Int)
theorem ss_ph (z : Int) (i : Nat) (hi : i < 10) : saF sv z at_ tr wt bk dn un so sq i = if i = 1 then .int .i64 z else saF sv ph at_ tr wt bk dn un so sq i := by
  unfold saF
  by_cases h : i = 1
  · subst h; rfl
  · simp only [h, if_false]
theorem ss_at (z : Int) (i : Nat) (hi : i < 10) : saF sv ph z tr wt bk dn un so sq i = if i = 2 then .int .i64 z else saF sv ph at_ tr wt bk dn un so sq i := by
  unfold saF
  by_cases h : i = 2
  · subst h; rfl
  · simp only [h, if_false]
theorem ss_tr (z : Int) (i : Nat) (hi : i < 10) : saF sv ph at_ z wt bk dn un so sq i = if i = 3 then .int .i64 z else saF sv ph at_ tr wt bk dn un so sq i := by
  unfold saF
  by_cases h : i = 3
  · subst h; rfl
  · simp only [h, if_false]
theorem ss_wt (z : Bool) (i : Nat) (hi : i < 10) : saF sv ph at_ tr z bk dn un so sq i = if i = 4 then .bool z else saF sv ph at_ tr wt bk dn un so sq i := by
  unfold saF
  by_cases h : i = 4
  · subst h; rfl
  · simp only [h, if_false]
theorem ss_bk (z : Bool) (i : Nat) (hi : i < 10) : saF sv ph at_ tr wt z dn un so sq i = if i = 5 then .bool z else saF sv ph at_ tr wt bk dn un so sq i := by
  unfold saF
  by_cases h : i = 5
  · subst h; rfl
  · simp only [h, if_false]
theorem ss_dn (z : Int) (i : Nat) (hi : i < 10) : saF sv ph at_ tr wt bk z un so sq i = if i = 6 then .int .i64 z else saF sv ph at_ tr wt bk dn un so sq i := by
  unfold saF
  by_cases h : i = 6
  · subst h; rfl
  · simp only [h, if_false]
theorem ss_un (z : Int) (i : Nat) (hi : i < 10) : saF sv ph at_ tr wt bk dn z so sq i = if i = 7 then .int .i64 z else saF sv ph at_ tr wt bk dn un so sq i := by
  unfold saF
  by_cases h : i = 7
  · subst h; rfl
  · simp only [h, if_false]
theorem ss_so (z : Int) (i : Nat) (hi : i < 10) : saF sv ph at_ tr wt bk dn un z sq i = if i = 8 then .int .i64 z else saF sv ph at_ tr wt bk dn un so sq i := by
  unfold saF
  by_cases h : i = 8
  · subst h; rfl
  · simp only [h, if_false]
theorem ss_sq (z : Int) (i : Nat) (hi : i < 10) : saF sv ph at_ tr wt bk dn un so z i = if i = 9 then .int .i64 z else saF sv ph at_ tr wt bk dn un so sq i := by
  unfold saF
  by_cases h : i = 9
  · subst h; rfl
  · rw [if_neg h]
    repeat' split
    all_goals first | rfl | omega
end
/-- The cells of a saga that stands so. -/
def stF (sv : Value) (s : St) (seq : Int) (i : Nat) : Value := saF sv s.ph s.a s.t s.w (s.w && s.ph == 1) (doneN s) (undN s) (someN s) seq i
/-- A value that is a saga: its steps, how it stands, how many records it has. -/
def SagaV (w : World) (v : Value) (l : List (Int × Int)) (s : St) (seq : Int) : Prop := ∃ sv, v = .agg (rowA 10 (stF sv s seq)) ∧ RdP w sv l
theorem NewT.saga {w w' : World} (h : NewT w w') {v : Value} {l : List (Int × Int)} {s : St} {seq : Int} (hr : SagaV w v l s seq) : SagaV w' v l s seq := by
  obtain ⟨sv, h1, h2⟩ := hr
  exact ⟨sv, h1, h.pairs h2⟩
end Go.Proofs.YtilmeffmdgcblaaDoor
/- Single operations: a pointer that isn't nil, sums, differences, products. -/
namespace Go.Proofs.YtilmeffmdgcblaaDoor
open Go Go.RowKit
set_option maxRecDepth 8000
set_option linter.all false
section
variable {P : Program} {a : Act} {w : World} {o : Oper} {K : Act → World → Prop} {Q : Exit → Act → World → Prop} {x y : Operand}
theorem opr_nilc {A : Addr} (ho : o.op = .nilCheck x) (hx : a.eval x = .pointer (some A)) (h : K (a.put o.dst (.pointer (some A))) w) : o.wp P a w K Q := by
  obtain ⟨dst, op, type, pos, after, guard⟩ := o
  simp only at ho
  subst ho
  simpa [Oper.wp, execOp, hx, Oper.upon, Sem.run_pure] using h
theorem opr_add {t t2 : TypeId} {m n r : Int} (ht : P.underlying t = some (.int .i64)) (hr : wrap64 (m + n) = r) (ho : o.op = .binOp .add t x y t2) (hx : a.eval x = .int .i64 m) (hy : a.eval y = .int .i64 n) (h : K (a.put o.dst (.int .i64 r)) w) : o.wp P a w K Q := by
  obtain ⟨dst, op, type, pos, after, guard⟩ := o
  simp only at ho
  subst ho hr
  refine opr_val (s := do eqGuard .add t x y (a.eval x) (a.eval y); binOp .add t (a.eval x) (a.eval y)) rfl ?_ h
  rw [hx, hy]; simp [go_sem]; rw [IntKind.wrap_i64, wrap64]
theorem opr_sub {t t2 : TypeId} {m n r : Int} (ht : P.underlying t = some (.int .i64)) (hr : wrap64 (m - n) = r) (ho : o.op = .binOp .sub t x y t2) (hx : a.eval x = .int .i64 m) (hy : a.eval y = .int .i64 n) (h : K (a.put o.dst (.int .i64 r)) w) : o.wp P a w K Q := by
  obtain ⟨dst, op, type, pos, after, guard⟩ := o
  simp only at ho
  subst ho hr
  refine opr_val (s := do eqGuard .sub t x y (a.eval x) (a.eval y); binOp .sub t (a.eval x) (a.eval y)) rfl ?_ h
  rw [hx, hy]; simp [go_sem]; rw [IntKind.wrap_i64, wrap64]
end
end Go.Proofs.YtilmeffmdgcblaaDoor
/- Boxes of one value; what calls hand back together: rows, flags. -/
namespace Go.Proofs.YtilmeffmdgcblaaDoor
open Go Go.RowKit
set_option maxRecDepth 8000
set_option linter.all false
section
variable {P : Program} {w : World} {fn : Func} {tmps : Array Value}
theorem run_ldV_row {b n : Nat} {t ty : TypeId} {d : TypeDesc} {f : Nat → Value} (h : w.rowIs b t n f) (hu : P.underlying ty = some d) (hd : d.isRow = true) (hi : (P.info? ty).map (·.size) = some n) : (loadVar ty ⟨b, 0, none⟩).run P w = .ok (.agg (rowA n f)) w := by
  simpa using run_loadVar_mid (P := P) w b 0 ty (rowA n f).toList d (rangeAt_row h) hu hd (by rw [hi, rowA_toList]; simp)
theorem run_ldV_one {b : Nat} {t ty : TypeId} {v : Value} {d : TypeDesc} (h : w.rowIs b t 1 (fun _ => v)) (hu : P.underlying ty = some d) (hd : d.isRow = false) : (loadVar ty ⟨b, 0, none⟩).run P w = .ok v w := by
  have ha : (isAgg ty).run P w = .ok false w := by
    unfold isAgg
    rw [Sem.run_bind, run_underlying hu w]
    cases d <;> first | rfl | cases hd
  have hc := h.cell (i := 0) (by omega)
  simp only [loadVar, Sem.run_bind, ha, Result.andThen_ok, Bool.false_eq_true, if_false]
  simp [run_load, hc]
/-- A row, and a value of the frame. -/
theorem results_rt {p u : Tmp} {tp t : TypeId} {d : TypeDesc} {n b : Nat} {f : Nat → Value} {v : Value} (hf : fn.results = #[.cell p tp, .tmp u]) (hp : tmps.getD p undef = .pointer (some ⟨b, 0, none⟩)) (hv : tmps.getD u undef = v)
    (h : w.rowIs b t n f) (hu : P.underlying tp = some d) (hd : d.isRow = true) (hi : (P.info? tp).map (·.size) = some n) : (results fn tmps).run P w = .ok (.tuple #[.agg (rowA n f), v]) w := by
  have e1 := run_ldV_row (P := P) h hu hd hi
  have hp' : tmps[p]?.getD undef = .pointer (some ⟨b, 0, none⟩) := by simpa using hp
  have hv' : tmps[u]?.getD undef = v := by simpa using hv
  simp [results, hf, hp', hv', asAddr, e1]
variable {a : Act} {o : Oper} {K : Act → World → Prop} {Q : Exit → Act → World → Prop}
/-- One of the values that a call hands back together. -/
theorem opr_ext {k : Nat} {x : Operand} {vs : Array Value} {v : Value} (ho : o.op = .extract x k) (hx : a.eval x = .tuple vs) (hv : vs[k]? = some v) (h : K (a.put o.dst v) w) : o.wp P a w K Q := by
  obtain ⟨dst, op, type, pos, after, guard⟩ := o
  simp only at ho
  subst ho
  exact opr_val (s := Instr.extract (a.eval x) k) (by simp [execOp]) (by rw [hx]; simp [Instr.extract, hv]) h
end
end Go.Proofs.YtilmeffmdgcblaaDoor
/- Package saga's base: sagas in memory as rows, their fields, loads and stores; sets of steps as numbers; what a saga is behind a record, on plain numbers. -/
namespace Go.Proofs.YtilmeffmdgcblaaDoor
open Go Go.RowKit
set_option maxRecDepth 8000
set_option linter.all false
/-- A saga's numbers. -/
structure Sg where
  ph : Int
  at_ : Int
  tr : Int
  wt : Bool
  bk : Bool
  dn : Int
  un : Int
  so : Int
  sq : Int
def sgF (sv : Value) (g : Sg) : Nat → Value := saF sv g.ph g.at_ g.tr g.wt g.bk g.dn g.un g.so g.sq
def zG : Sg := ⟨0, 0, 0, false, false, 0, 0, 0, 0⟩
/-- How a saga stands, as its numbers. -/
def ofSt (s : St) (sq : Int) : Sg := ⟨s.ph, s.a, s.t, s.w, s.w && s.ph == 1, doneN s, undN s, someN s, sq⟩
theorem sgF_one (sv : Value) (g : Sg) (hs : sv.oneCell' = true) (i : Nat) : (sgF sv g i).oneCell' = true := saF_one _ _ _ _ _ _ _ _ _ _ hs i
section
variable (sv : Value) (g : Sg) (i : Nat) (hi : i < 10)
include hi
theorem gs_ph (z : Int) : sgF sv { g with ph := z } i = if i = 1 then .int .i64 z else sgF sv g i := ss_ph sv _ _ _ _ _ _ _ _ _ z i hi
theorem gs_at (z : Int) : sgF sv { g with at_ := z } i = if i = 2 then .int .i64 z else sgF sv g i := ss_at sv _ _ _ _ _ _ _ _ _ z i hi
theorem gs_tr (z : Int) : sgF sv { g with tr := z } i = if i = 3 then .int .i64 z else sgF sv g i := ss_tr sv _ _ _ _ _ _ _ _ _ z i hi
theorem gs_wt (z : Bool) : sgF sv { g with wt := z } i = if i = 4 then .bool z else sgF sv g i := ss_wt sv _ _ _ _ _ _ _ _ _ z i hi
theorem gs_bk (z : Bool) : sgF sv { g with bk := z } i = if i = 5 then .bool z else sgF sv g i := ss_bk sv _ _ _ _ _ _ _ _ _ z i hi
theorem gs_dn (z : Int) : sgF sv { g with dn := z } i = if i = 6 then .int .i64 z else sgF sv g i := ss_dn sv _ _ _ _ _ _ _ _ _ z i hi
theorem gs_un (z : Int) : sgF sv { g with un := z } i = if i = 7 then .int .i64 z else sgF sv g i := ss_un sv _ _ _ _ _ _ _ _ _ z i hi
theorem gs_so (z : Int) : sgF sv { g with so := z } i = if i = 8 then .int .i64 z else sgF sv g i := ss_so sv _ _ _ _ _ _ _ _ _ z i hi
theorem gs_sq (z : Int) : sgF sv { g with sq := z } i = if i = 9 then .int .i64 z else sgF sv g i := ss_sq sv _ _ _ _ _ _ _ _ _ z i hi
end
theorem put_allN (n : Nat) (F G : Nat → Value) : ∀ i, i < n → F i = if 0 ≤ i ∧ i < 0 + n then F (i - 0) else G i := fun i hi => by
  rw [if_pos (by omega), Nat.sub_zero]
/-- Sets of steps as the program reckons with them. -/
def orI (m n : Int) : Int := bits .or .i64 m n
def andI (m n : Int) : Int := bits .and .i64 m n
def notI (m n : Int) : Int := bits .andNot .i64 m n
def bitI (k : Int) : Int := 2 ^ k.toNat
theorem info_saga : (Tryd.prog.info? 59).map (·.size) = some 10 := by kernel_rfl
theorem run_alloc_saga (w : World) : (Instr.alloc 59 true (.tuple #[])).run Tryd.prog w = .ok (.pointer (some ⟨w.heap.size, 0, none⟩)) (w.alloc (.cells (rowA 10 (sgF (.slice none 0 0) zG)) 59)) := by kernel_rfl
theorem build_saga0 (w : World) : (Instr.build 59 #[]).run Tryd.prog w = .ok (.agg (rowA 10 (sgF (.slice none 0 0) zG))) w := by kernel_rfl
theorem build_saga (A : Option Addr) (n c : Nat) (w : World) : (Instr.build 59 #[(0, .slice A n c), (1, .int .i64 0), (9, .int .i64 1)]).run Tryd.prog w = .ok (.agg (rowA 10 (sgF (.slice A n c) (ofSt st0 1)))) w := by kernel_rfl
theorem run_zero_rec (w : World) : (zeroValue 32).run Tryd.prog w = .ok (.agg (rowA 109 (recF zR (.slice none 0 0) (.slice none 0 0)))) w := by kernel_rfl
theorem build_rec0 (w : World) : (Instr.build 32 #[]).run Tryd.prog w = .ok (.agg (rowA 109 (recF zR (.slice none 0 0) (.slice none 0 0)))) w := by kernel_rfl
theorem build_closed (e : Int) (w : World) : (Instr.build 32 #[(0, .int .i64 5), (7, .int .i64 e)]).run Tryd.prog w = .ok (.agg (rowA 109 (recF { zR with kind := 5, nd := e } (.slice none 0 0) (.slice none 0 0)))) w := by kernel_rfl
theorem build_intent (k t : Int) (b : Bool) (w : World) : (Instr.build 32 #[(0, .int .i64 2), (3, .int .i64 k), (4, .int .i64 t), (5, .bool b)]).run Tryd.prog w = .ok (.agg (rowA 109 (recF { zR with kind := 2, step := k, tr := t, back := b } (.slice none 0 0) (.slice none 0 0)))) w := by kernel_rfl
section
variable {a : Act} {w : World} {o : Oper} {K : Act → World → Prop} {Q : Exit → Act → World → Prop} {x y : Operand} {g : Nat} {t' : TypeId} {F : Nat → Value}
theorem opr_fldU0 (ho : o.op = .fieldAddr 59 x 0) (hx : a.eval x = .pointer (some ⟨g, 0, none⟩)) (h : K (a.put o.dst (.pointer (some ⟨g, 0, none⟩))) w) : o.wp Tryd.prog a w K Q := opr_fld Tryd.underlying59 rfl info_steps1 ho hx (by rfl) h
theorem opr_fldU1 (ho : o.op = .fieldAddr 59 x 1) (hx : a.eval x = .pointer (some ⟨g, 0, none⟩)) (h : K (a.put o.dst (.pointer (some ⟨g, 1, none⟩))) w) : o.wp Tryd.prog a w K Q := opr_fld Tryd.underlying59 rfl info_int ho hx (by rfl) h
theorem opr_fldU2 (ho : o.op = .fieldAddr 59 x 2) (hx : a.eval x = .pointer (some ⟨g, 0, none⟩)) (h : K (a.put o.dst (.pointer (some ⟨g, 2, none⟩))) w) : o.wp Tryd.prog a w K Q := opr_fld Tryd.underlying59 rfl info_int ho hx (by rfl) h
theorem opr_fldU3 (ho : o.op = .fieldAddr 59 x 3) (hx : a.eval x = .pointer (some ⟨g, 0, none⟩)) (h : K (a.put o.dst (.pointer (some ⟨g, 3, none⟩))) w) : o.wp Tryd.prog a w K Q := opr_fld Tryd.underlying59 rfl info_int ho hx (by rfl) h
theorem opr_fldU4 (ho : o.op = .fieldAddr 59 x 4) (hx : a.eval x = .pointer (some ⟨g, 0, none⟩)) (h : K (a.put o.dst (.pointer (some ⟨g, 4, none⟩))) w) : o.wp Tryd.prog a w K Q := opr_fld Tryd.underlying59 rfl info_bool ho hx (by rfl) h
theorem opr_fldU5 (ho : o.op = .fieldAddr 59 x 5) (hx : a.eval x = .pointer (some ⟨g, 0, none⟩)) (h : K (a.put o.dst (.pointer (some ⟨g, 5, none⟩))) w) : o.wp Tryd.prog a w K Q := opr_fld Tryd.underlying59 rfl info_bool ho hx (by rfl) h
theorem opr_fldU6 (ho : o.op = .fieldAddr 59 x 6) (hx : a.eval x = .pointer (some ⟨g, 0, none⟩)) (h : K (a.put o.dst (.pointer (some ⟨g, 6, none⟩))) w) : o.wp Tryd.prog a w K Q := opr_fld Tryd.underlying59 rfl info_int ho hx (by rfl) h
theorem opr_fldU7 (ho : o.op = .fieldAddr 59 x 7) (hx : a.eval x = .pointer (some ⟨g, 0, none⟩)) (h : K (a.put o.dst (.pointer (some ⟨g, 7, none⟩))) w) : o.wp Tryd.prog a w K Q := opr_fld Tryd.underlying59 rfl info_int ho hx (by rfl) h
theorem opr_fldU8 (ho : o.op = .fieldAddr 59 x 8) (hx : a.eval x = .pointer (some ⟨g, 0, none⟩)) (h : K (a.put o.dst (.pointer (some ⟨g, 8, none⟩))) w) : o.wp Tryd.prog a w K Q := opr_fld Tryd.underlying59 rfl info_int ho hx (by rfl) h
theorem opr_fldU9 (ho : o.op = .fieldAddr 59 x 9) (hx : a.eval x = .pointer (some ⟨g, 0, none⟩)) (h : K (a.put o.dst (.pointer (some ⟨g, 9, none⟩))) w) : o.wp Tryd.prog a w K Q := opr_fld Tryd.underlying59 rfl info_int ho hx (by rfl) h
theorem opr_ldU (hr : w.rowIs g t' 10 F) (ho : o.op = .load 59 x) (hx : a.eval x = .pointer (some ⟨g, 0, none⟩)) (h : K (a.put o.dst (.agg (rowA 10 F))) w) : o.wp Tryd.prog a w K Q :=
  opr_ldm Tryd.underlying59 rfl info_saga ho hx hr (by omega) (by rw [rowA_congr (g := F) fun i _ => by rw [Nat.zero_add]]; exact h)
theorem opr_orI {P : Program} {t t2 : TypeId} {m n : Int} (ho : o.op = .binOp .or t x y t2) (hx : a.eval x = .int .i64 m) (hy : a.eval y = .int .i64 n) (h : K (a.put o.dst (.int .i64 (orI m n))) w) : o.wp P a w K Q := by
  obtain ⟨dst, op, type, pos, after, guard⟩ := o
  simp only at ho
  subst ho
  refine opr_val (s := do eqGuard .or t x y (a.eval x) (a.eval y); binOp .or t (a.eval x) (a.eval y)) rfl ?_ h
  rw [hx, hy]; simp [go_sem]; rfl
theorem opr_andI {P : Program} {t t2 : TypeId} {m n : Int} (ho : o.op = .binOp .and t x y t2) (hx : a.eval x = .int .i64 m) (hy : a.eval y = .int .i64 n) (h : K (a.put o.dst (.int .i64 (andI m n))) w) : o.wp P a w K Q := by
  obtain ⟨dst, op, type, pos, after, guard⟩ := o
  simp only at ho
  subst ho
  refine opr_val (s := do eqGuard .and t x y (a.eval x) (a.eval y); binOp .and t (a.eval x) (a.eval y)) rfl ?_ h
  rw [hx, hy]; simp [go_sem]; rfl
theorem opr_notI {P : Program} {t t2 : TypeId} {m n : Int} (ho : o.op = .binOp .andNot t x y t2) (hx : a.eval x = .int .i64 m) (hy : a.eval y = .int .i64 n) (h : K (a.put o.dst (.int .i64 (notI m n))) w) : o.wp P a w K Q := by
  obtain ⟨dst, op, type, pos, after, guard⟩ := o
  simp only at ho
  subst ho
  refine opr_val (s := do eqGuard .andNot t x y (a.eval x) (a.eval y); binOp .andNot t (a.eval x) (a.eval y)) rfl ?_ h
  rw [hx, hy]; simp [go_sem]; rfl
/-- A place where a step lies, where a number lies. -/
def svStp (d : Int × Int) : SV NewT := ⟨fun v w => ∃ b o, v = .pointer (some ⟨b, o, none⟩) ∧ w.cell? ⟨b, o, none⟩ = some (.int .i64 d.1) ∧ w.cell? ⟨b, o + 1, none⟩ = some (.int .i64 d.2),
  fun _ _ _ ⟨b, o, h1, h2, h3⟩ hT => ⟨b, o, h1, (hT.out.cell (World.block_lt_of_cell? _ _ h2)).trans h2, (hT.out.cell (World.block_lt_of_cell? _ _ h3)).trans h3⟩⟩
def svIp (z : Int) : SV NewT := ⟨fun v w => ∃ b o, v = .pointer (some ⟨b, o, none⟩) ∧ w.cell? ⟨b, o, none⟩ = some (.int .i64 z),
  fun _ _ _ ⟨b, o, h1, h2⟩ hT => ⟨b, o, h1, (hT.out.cell (World.block_lt_of_cell? _ _ h2)).trans h2⟩⟩
theorem opr_idxSt {k : Nat} {z : Int} {l : List (Int × Int)} {d : Int × Int} (hd : k < l.length ∧ l.getD k (0, 0) = d) (hz : (k : Int) = z) (ho : o.op = .indexAddr 29 x y) (hx : RdP w (a.eval x) l) (hy : a.eval y = .int .i64 z) (h : ∀ v, (svStp d).pred v w → K (a.put o.dst v) w) : o.wp Tryd.prog a w K Q := by
  obtain ⟨A, c, hv, _, _, h3⟩ := hx
  obtain ⟨b, o1, rfl, hc⟩ := h3 (by omega)
  have hk := hc k hd.1
  rw [hd.2] at hk
  refine opr_idxS hd.1 ho hv (by rw [hy, hz]) (h _ ⟨b, o1 + 2 * k, rfl, hk⟩)
theorem opr_fldSt0 {d : Int × Int} (ho : o.op = .fieldAddr 50 x 0) (hx : (svStp d).pred (a.eval x) w) (h : ∀ v, (svIp d.1).pred v w → K (a.put o.dst v) w) : o.wp Tryd.prog a w K Q := by
  obtain ⟨b, o1, hv, h1, _⟩ := hx
  exact opr_fldS (k := 0) (by omega) ho hv (h _ ⟨b, o1 + 0, rfl, h1⟩)
theorem opr_fldSt1 {d : Int × Int} (ho : o.op = .fieldAddr 50 x 1) (hx : (svStp d).pred (a.eval x) w) (h : ∀ v, (svIp d.2).pred v w → K (a.put o.dst v) w) : o.wp Tryd.prog a w K Q := by
  obtain ⟨b, o1, hv, _, h1⟩ := hx
  exact opr_fldS (k := 1) (by omega) ho hv (h _ ⟨b, o1 + 1, rfl, h1⟩)
theorem opr_ldIp {z : Int} (ho : o.op = .load 3 x) (hx : (svIp z).pred (a.eval x) w) (h : K (a.put o.dst (.int .i64 z)) w) : o.wp Tryd.prog a w K Q := by
  obtain ⟨b, o1, hv, h1⟩ := hx
  exact opr_ld1 Tryd.underlying3 rfl ho hv h1 h
theorem opr_ldStp {d : Int × Int} (ho : o.op = .load 50 x) (hx : (svStp d).pred (a.eval x) w) (h : K (a.put o.dst (.agg (rowA 2 (stepF d)))) w) : o.wp Tryd.prog a w K Q := by
  obtain ⟨b, o1, hv, h1, h2⟩ := hx
  exact opr_ld2 h1 h2 ho hv h
end
end Go.Proofs.YtilmeffmdgcblaaDoor
/- What is due of a saga, whether a record goes, and the saga behind it: on plain numbers, as the program reckons. No program is named here. -/
namespace Go.Proofs.YtilmeffmdgcblaaDoor
open Go Go.RowKit
set_option maxRecDepth 8000
set_option linter.all false
def kdL (l : List (Int × Int)) (i : Nat) : Int := (l.getD i (0, 0)).2
/-- The last one, if any is. -/
def lastT (f : Nat → Bool) : Nat → Option Nat
  | 0 => none
  | n + 1 => if f n = true then some n else lastT f n
def opnI (g : Sg) : Int := notI (orI g.dn g.so) g.un
def isTg (l : List (Int × Int)) (op : Int) (i : Nat) : Bool := (kdL l i == 1) && (andI op (bitI i) != 0)
def tgtO (l : List (Int × Int)) (g : Sg) : Option Nat := lastT (isTg l (opnI g)) l.length
def oI : Option Nat → Int
  | some i => i
  | none => 0
def nextI (l : List (Int × Int)) (g : Sg) : Int := if g.ph = 1 then oI (tgtO l g) else if inR g.at_ 0 ((l.length : Int) - 1) = true then g.at_ else 0
def nextB (l : List (Int × Int)) (g : Sg) : Bool := if g.ph = 1 then (tgtO l g).isSome else inR g.at_ 0 ((l.length : Int) - 1)
def overB (p : Int) : Bool := (p == 2 || p == 3) || p == 4
def clR (e : Int) : Rc := { zR with kind := 5, nd := e }
def inG (lim : Int) (g : Sg) : Bool := !((!inR lim 1 9 || g.wt) || overB g.ph)
def dueX (l : List (Int × Int)) (lim : Int) (g : Sg) : Rc :=
  if inG lim g = true then
    (if nextB l g = true then (if g.tr < lim then { zR with kind := 2, step := nextI l g, tr := g.tr + 1, back := g.ph == 1 } else clR 4)
     else if g.ph = 1 then clR 3 else clR 2)
  else zR
def isDueB (l : List (Int × Int)) (lim : Int) (g : Sg) (x : Rc) : Bool :=
  ((((inG lim g && x.kind == (dueX l lim g).kind) && x.step == (dueX l lim g).step) && x.tr == (dueX l lim g).tr) && x.back == (dueX l lim g).back) && x.nd == (dueX l lim g).nd
def isOutB (l : List (Int × Int)) (g : Sg) (x : Rc) : Bool := (((g.wt && nextB l g) && x.step == nextI l g) && x.tr == g.tr) && x.back == g.bk
def fitsB (l : List (Int × Int)) (lim : Int) (g : Sg) (x : Rc) : Bool :=
  if x.kind = 2 ∨ x.kind = 5 then isDueB l lim g x else if x.kind = 3 ∨ x.kind = 4 then isOutB l g x else false
def turnG (g : Sg) : Sg := { g with ph := 1, tr := 0 }
def wellG (g : Sg) (b : Bool) (k : Int) : Sg := if b = true then { g with tr := 0, un := orI g.un (bitI k) } else { g with tr := 0, dn := orI g.dn (bitI k), so := notI g.so (bitI k), at_ := g.at_ + 1 }
def refG (l : List (Int × Int)) (g : Sg) (k : Int) : Sg := if kdL l k.toNat = 3 then g else turnG { g with so := notI g.so (bitI k) }
def lapG (l : List (Int × Int)) (lim : Int) (g : Sg) (b : Bool) (k : Int) : Sg :=
  if b = true then g else if kdL l k.toNat = 1 ∧ g.tr = lim then turnG { g with so := orI g.so (bitI k) } else { g with so := orI g.so (bitI k) }
def begG (g : Sg) (x : Rc) : Sg := { g with sq := g.sq + 1, wt := x.kind == 2, bk := x.kind == 2 && x.back }
def behG (l : List (Int × Int)) (lim : Int) (g : Sg) (x : Rc) : Sg :=
  if x.kind = 2 then { begG g x with tr := x.tr } else if x.kind = 5 then { begG g x with ph := x.nd }
  else if x.kind = 3 then (if x.good = true then wellG (begG g x) x.back x.step else if x.back = false then refG l (begG g x) x.step else lapG l lim (begG g x) x.back x.step)
  else if x.kind = 4 then lapG l lim (begG g x) x.back x.step else begG g x
def goesB (l : List (Int × Int)) (lim : Int) (g : Sg) (x : Rc) : Bool := !((!inR lim 1 9 || x.seq != g.sq) || !fitsB l lim g x)
def wentG (l : List (Int × Int)) (lim : Int) (g : Sg) (x : Rc) : Sg := if goesB l lim g x = true then behG l lim g x else g
/-- Numbers that are small enough. -/
structure OkG (l : List (Int × Int)) (g : Sg) : Prop where
  len : 1 ≤ l.length ∧ l.length ≤ 6
  at_ : 0 ≤ g.at_ ∧ g.at_ ≤ 6
  tr : 0 ≤ g.tr ∧ g.tr ≤ 9
  sq : 0 ≤ g.sq ∧ g.sq ≤ 1000000
end Go.Proofs.YtilmeffmdgcblaaDoor
/- Whether steps may be a saga's: on lists, step by step, as the program asks and as the document has it; new sagas; sets of steps asked by halving. No program is named here. -/
namespace Go.Proofs.YtilmeffmdgcblaaDoor
open Go Go.RowKit
set_option maxRecDepth 8000
set_option linter.all false
def ptL (l : List (Int × Int)) (i : Nat) : Int := (l.getD i (0, 0)).1
/-- May a step stand there? -/
def stepMay (l : List (Int × Int)) (i : Nat) : Bool := decide ((0 ≤ ptL l i ∧ ptL l i ≤ 3) ∧ (1 ≤ kdL l i ∧ kdL l i ≤ 3) ∧ (0 < i → kdL l (i - 1) ≤ kdL l i ∧ ¬ (kdL l i = 2 ∧ kdL l (i - 1) = 2)))
def upMay (l : List (Int × Int)) (k : Nat) : Bool := (List.range k).all (stepMay l)
def mayL (l : List (Int × Int)) : Bool := inR (l.length : Int) 1 6 && upMay l l.length
theorem upMay_iff (l : List (Int × Int)) (k : Nat) : upMay l k = true ↔ ∀ i, i < k → stepMay l i = true := by simp [upMay]
theorem upMay_succ (l : List (Int × Int)) (k : Nat) : upMay l (k + 1) = (upMay l k && stepMay l k) := by simp [upMay, List.range_succ]
theorem upMay_no {l : List (Int × Int)} {k n : Nat} (hk : k < n) (h : stepMay l k = false) : upMay l n = false := by
  cases hu : upMay l n with
  | false => rfl
  | true => rw [(upMay_iff l n).1 hu k hk] at h; cases h
def leastN (l : List (Int × Int)) (k : Nat) : Int := if k = 0 then 1 else if kdL l (k - 1) = 2 then 3 else kdL l (k - 1)
theorem step_prog {l : List (Int × Int)} {k : Nat} (h : upMay l k = true) : (!inR (ptL l k) 0 3 || !inR (kdL l k) (leastN l k) 3) = !stepMay l k := by
  have hp : 0 < k → 1 ≤ kdL l (k - 1) ∧ kdL l (k - 1) ≤ 3 := fun hk => by
    have := (upMay_iff l k).1 h (k - 1) (by omega)
    unfold stepMay at this
    have := of_decide_eq_true this
    exact this.2.1
  cases hs : stepMay l k with
  | true =>
    unfold stepMay at hs
    have hs := of_decide_eq_true hs
    have e1 : inR (ptL l k) 0 3 = true := (inR_iff _ _ _).2 hs.1
    have e2 : inR (kdL l k) (leastN l k) 3 = true := (inR_iff _ _ _).2 (by
      refine ⟨?_, hs.2.1.2⟩
      unfold leastN
      split
      · exact hs.2.1.1
      · have := hs.2.2 (by omega)
        have := hp (by omega)
        split <;> omega)
    rw [e1, e2]; rfl
  | false =>
    cases e1 : inR (ptL l k) 0 3 with
    | false => rfl
    | true =>
      cases e2 : inR (kdL l k) (leastN l k) 3 with
      | false => rfl
      | true =>
        exfalso
        have h1 := (inR_iff _ _ _).1 e1
        have h2 := (inR_iff _ _ _).1 e2
        unfold stepMay at hs
        refine of_decide_eq_false hs ⟨h1, ?_, fun hk => ?_⟩
        · unfold leastN at h2
          split at h2
          · exact h2
          · have := hp (by omega)
            split at h2 <;> omega
        · have := hp hk
          unfold leastN at h2
          rw [if_neg (by omega)] at h2
          split at h2 <;> omega
theorem least_next (l : List (Int × Int)) (k : Nat) : leastN l (k + 1) = if kdL l k = 2 then 3 else kdL l k := by
  unfold leastN
  rw [if_neg (by omega), Nat.add_sub_cancel]
theorem may_len {l : List (Int × Int)} (h : mayL l = true) : 1 ≤ l.length ∧ l.length ≤ 6 := by
  unfold mayL at h
  rw [Bool.and_eq_true] at h
  have := (inR_iff _ _ _).1 h.1
  omega
theorem may_step {l : List (Int × Int)} (h : mayL l = true) {i : Nat} (hi : i < l.length) : (0 ≤ ptL l i ∧ ptL l i ≤ 3) ∧ (1 ≤ kdL l i ∧ kdL l i ≤ 3) ∧ (0 < i → kdL l (i - 1) ≤ kdL l i ∧ ¬ (kdL l i = 2 ∧ kdL l (i - 1) = 2)) := by
  unfold mayL at h
  rw [Bool.and_eq_true] at h
  have := (upMay_iff l l.length).1 h.2 i hi
  unfold stepMay at this
  exact of_decide_eq_true this
/-- The kinds of steps that may be. -/
theorem may_kinds {l : List (Int × Int)} (h : mayL l = true) : MayK (l.map (·.2)) := by
  have hl := may_len h
  have e : ∀ i, (l.map (·.2)).getD i 0 = kdL l i := fun i => by
    unfold kdL
    simp only [List.getD, List.getElem?_map]
    cases l[i]? <;> rfl
  refine ⟨by simpa using hl.1, by simpa using hl.2, fun i hi => ?_, fun i hi => ?_⟩
  · rw [e]; exact (may_step h (by simpa using hi)).2.1
  · rw [e, e]
    have := (may_step h (i := i + 1) (by simpa using hi)).2.2 (by omega)
    rw [Nat.add_sub_cancel] at this
    exact ⟨this.1, fun ⟨a, b⟩ => this.2 ⟨b, a⟩⟩
theorem kd_map (l : List (Int × Int)) (i : Nat) : kd (l.map (·.2)) i = kdL l i := by
  unfold kd kdL
  simp only [List.getD, List.getElem?_map]
  cases l[i]? <;> rfl
def newG (l : List (Int × Int)) : Sg := if mayL l = true then ofSt st0 1 else zG
def newL (l : List (Int × Int)) : List (Int × Int) := if mayL l = true then l else []
/-- A value that is a saga, its steps in a block from B on. -/
def SgV (w : World) (v : Value) (l : List (Int × Int)) (g : Sg) : Prop := ∃ sv, v = .agg (rowA 10 (sgF sv g)) ∧ RdP w sv l
theorem NewT.sgV {w w' : World} (h : NewT w w') {v : Value} {l : List (Int × Int)} {g : Sg} (hr : SgV w v l g) : SgV w' v l g := by
  obtain ⟨sv, h1, h2⟩ := hr
  exact ⟨sv, h1, h.pairs h2⟩
def svSg (l : List (Int × Int)) (g : Sg) : SV NewT := ⟨fun v w => SgV w v l g, fun _ _ _ h hT => hT.sgV h⟩
end Go.Proofs.YtilmeffmdgcblaaDoor
/- Package saga: ranges, bits, ends, whether one is over, what is missing, one that turns back. -/
namespace Go.Proofs.YtilmeffmdgcblaaDoor
open Go Go.RowKit
set_option maxRecDepth 8000
set_option linter.all false
attribute [local go_sem] run_zero_rec
set_option maxHeartbeats 1000000 in
theorem gWithin_cv (n lo hi : Int) (w : World) : Cv 57 #[.int .i64 n, .int .i64 lo, .int .i64 hi] w (.eq (.bool (inR n lo hi))) := by
  unfold Cv
  go_enter Tryd.func57, Tryd.ntmps57
  go_upto_region 1 with fail
  obtain ⟨q1_1, Q1_1⟩ : ∃ bq_, ((decide (lo ≤ n)) && (decide (n ≤ hi))) = bq_ := ⟨_, rfl⟩
  refine wp_region_steps0 NewT [SV.eq (.int .i64 (lo)), SV.eq (.int .i64 (n)), SV.eq (.bool (decide (lo ≤ n))), SV.eq (.bool (decide (lo ≤ n))), svIf (decide (lo ≤ n)) (SV.eq (.int .i64 (n))), svIf (decide (lo ≤ n)) (SV.eq (.int .i64 (hi))), svIf (decide (lo ≤ n)) (SV.eq (.bool (decide (n ≤ hi)))), SV.eq (.bool (q1_1)), SV.eq (.bool (q1_1))] [([(1, none)], none), ([(0, none)], none), ([(7, some 0), (8, some 1)], none), ([(9, some 2)], none), ([(0, none), (10, some 3)], some (10, true)), ([(2, none), (10, some 3)], some (10, true)), ([(11, some 4), (12, some 5), (10, some 3)], some (10, true)), ([(10, some 3), (13, some 6)], none), ([(14, some 7)], none)] 15 9 rfl rfl (by kernel_rfl) NewT.trans (NewT.refl _) (Nat.le_of_ble_eq_true rfl) ⟨?_, ?_, ?_, ?_, ?_, ?_, ?_, ?_, ?_, trivial⟩ ?_
  · exact fun a wx hT hF K hK => rely_wp rfl (opr_move (.inl rfl) (hK _ _ (NewT.refl _) hF.1))
  · exact fun a wx hT hF K hK => rely_wp rfl (opr_move (.inl rfl) (hK _ _ (NewT.refl _) hF.1))
  · exact fun a wx hT hF K hK => rely_wp rfl (opr_cmp (b := decide (lo ≤ n)) (.inr (.inr (.inl ⟨rfl, rfl⟩))) Tryd.underlying3 rfl hF.1 hF.2.1 (hK _ _ (NewT.refl _) rfl))
  · exact fun a wx hT hF K hK => rely_wp rfl (opr_move (.inl rfl) (hK _ _ (NewT.refl _) hF.1))
  · exact fun a wx hT hF K hK => rely_if (rely_gt hF.2.1) (NewT.refl _) hK fun hE hK => opr_move (.inl rfl) (hK _ _ (NewT.refl _) hF.1)
  · exact fun a wx hT hF K hK => rely_if (rely_gt hF.2.1) (NewT.refl _) hK fun hE hK => opr_move (.inl rfl) (hK _ _ (NewT.refl _) hF.1)
  · exact fun a wx hT hF K hK => rely_if (rely_gt hF.2.2.1) (NewT.refl _) hK fun hE hK => opr_cmp (b := decide (n ≤ hi)) (.inr (.inr (.inl ⟨rfl, rfl⟩))) Tryd.underlying3 rfl (hF.1 hE) (hF.2.1 hE) (hK _ _ (NewT.refl _) rfl)
  · exact fun a wx hT hF K hK => rely_wp rfl (opr_pick_b rfl hF.1 (fun hb => hK _ _ (NewT.refl _) (pn_and1 Q1_1 (hF.2.1 hb) hb)) (fun hb => hK _ _ (NewT.refl _) (pn_and0 Q1_1 hb)))
  · exact fun a wx hT hF K hK => rely_wp rfl (opr_move (.inr rfl) (hK _ _ (NewT.refl _) hF.1))
  · intro wx hT
    iterate 4 (intro u h; obtain rfl := Eq.symm (h (by simp)); clear h)
    iterate 3 (intro _ _)
    iterate 2 (intro u h; obtain rfl := Eq.symm (h (by simp)); clear h)
    subst Q1_1
    refine relyEnd_nil rfl ?_
    refine wpList_end rfl ?_
    simp only [Act.put, List.setIfInBounds_toArray, List.set_cons_zero, List.set_cons_succ]
    go_simp
    go_wp2
    go_ret
    exact ⟨_, rfl, hT, rfl⟩
set_option maxHeartbeats 1000000 in
theorem gLimit_cv (n : Int) (w : World) : Cv 58 #[.int .i64 n] w (.eq (.bool (inR n 1 9))) := by
  unfold Cv
  go_enter Tryd.func58, Tryd.ntmps58
  go_upto_region 1 with fail
  refine wp_region_steps0 NewT [SV.eq (.int .i64 (n)), SV.eq (.bool (inR n 1 9)), SV.eq (.bool (inR n 1 9))] [([(0, none)], none), ([(3, some 0)], none), ([(4, some 1)], none)] 5 3 rfl rfl (by kernel_rfl) NewT.trans (NewT.refl _) (Nat.le_of_ble_eq_true rfl) ⟨?_, ?_, ?_, trivial⟩ ?_
  · exact fun a wx hT hF K hK => rely_wp rfl (opr_move (.inl rfl) (hK _ _ (NewT.refl _) hF.1))
  · exact fun a wx hT hF K hK => rely_wp rfl (opr_cv (gWithin_cv n 1 9 wx) rfl Tryd.func57 (by kernel_rfl) (by kernel_rfl) (evs3 hF.1 rfl rfl) hK)
  · exact fun a wx hT hF K hK => rely_wp rfl (opr_move (.inr rfl) (hK _ _ (NewT.refl _) hF.1))
  · intro wx hT
    iterate 3 (intro u h; obtain rfl := Eq.symm (h (by simp)); clear h)
    refine relyEnd_nil rfl ?_
    refine wpList_end rfl ?_
    simp only [Act.put, List.setIfInBounds_toArray, List.set_cons_zero, List.set_cons_succ]
    go_simp
    go_wp2
    go_ret
    exact ⟨_, rfl, hT, rfl⟩
set_option maxHeartbeats 1000000 in
theorem gBit_cv (k : Int) (w : World) (hk : 0 ≤ k ∧ k < 6) : Cv 80 #[.int .i64 k] w (.eq (.int .i64 (bitI k))) := by
  unfold Cv
  have h : k = 0 ∨ k = 1 ∨ k = 2 ∨ k = 3 ∨ k = 4 ∨ k = 5 := by omega
  clear hk
  rcases h with rfl | rfl | rfl | rfl | rfl | rfl
  all_goals
    go_enter Tryd.func80, Tryd.ntmps80
    go_wp2
    go_ret
    exact ⟨_, rfl, NewT.refl _, rfl⟩
set_option maxHeartbeats 1000000 in
theorem gClosed_cv (n : Int) (w : World) : Cv 84 #[.int .i64 n] w (.eq (.agg (rowA 109 (recF (clR n) (.slice none 0 0) (.slice none 0 0))))) := by
  unfold Cv
  go_enter Tryd.func84, Tryd.ntmps84
  go_upto_region 1 with fail
  have r_g1 := rowIs_box w 32 109 (recF zR (.slice none 0 0) (.slice none 0 0))
  have hN : NewT w (w.alloc (.cells (rowA 109 (recF zR (.slice none 0 0) (.slice none 0 0))) 32)) := NewT.alloc _ _
  change Code.wp _ _ _ _ (w.alloc (.cells (rowA 109 (recF zR (.slice none 0 0) (.slice none 0 0))) 32))
  generalize (w.alloc (.cells (rowA 109 (recF zR (.slice none 0 0) (.slice none 0 0))) 32)) = W0 at r_g1 hN ⊢
  obtain ⟨g1, h_g1⟩ : ∃ g_, w.heap.size = g_ := ⟨_, rfl⟩
  have HG : Hid (w.heap.size ≤ g1) := Lib.hid (by omega)
  rw [h_g1] at r_g1
  simp only [h_g1]
  have Rg1 := Lib.hid r_g1
  have HM := Lib.hid hN
  clear r_g1 hN h_g1
  go_upto_region 1 with fail
  refine wp_region_steps0 NewT [SV.eq (.int .i64 (n)), SV.eq ((.agg (rowA 109 (recF (clR n) (.slice none 0 0) (.slice none 0 0)))))] [([(0, none)], none), ([(3, some 0)], none)] 5 2 rfl rfl (by kernel_rfl) NewT.trans (NewT.refl _) (Nat.le_of_ble_eq_true rfl) ⟨?_, ?_, trivial⟩ ?_
  · exact fun a wx hT hF K hK => rely_wp rfl (opr_move (.inl rfl) (hK _ _ (NewT.refl _) hF.1))
  · intro a wx hT hF K hK
    obtain ⟨f3, _⟩ := hF
    have f3 : a.tmps.getD 3 undef = .int .i64 (n) := f3
    refine rely_wp rfl ?_
    exact opr_build (pv := #[(0, .int .i64 5), (7, .int .i64 n)]) rfl (by simp only [List.map_toArray, List.map_cons, List.map_nil, eval_tmp, eval_const, f3]) (build_closed n wx) (hK _ _ (NewT.refl _) rfl)
  · intro w1 k1
    iterate 2 (intro u h; obtain rfl := Eq.symm (h (by simp)); clear h)
    refine relyEnd_nil rfl ?_
    simp only [Act.put, List.setIfInBounds_toArray, List.set_cons_zero, List.set_cons_succ]
    refine wpList_plain rfl (fun K hK => ?_)
    refine opr_putm (g := g1) (o0 := 0) (m := 109) (f := recF (clR n) (.slice none 0 0) (.slice none 0 0)) (F := recF (clR n) (.slice none 0 0) (.slice none 0 0)) rfl rfl rfl (k1.row Rg1.out) (by decide) info_rec (recF_one _ _ _ rfl rfl) (put_allN _ _ _) ?_
    intro W1 hR1 rr1
    refine hK _ _ ?_
    clear hK K
    refine wpList_end rfl ?_
    simp only [Act.put, List.setIfInBounds_toArray, List.set_cons_zero, List.set_cons_succ]
    go_simp
    replace Rg1 := Lib.hid rr1
    replace HM := Lib.hid (NewT.rt (NewT.trans _ _ _ HM.out k1) hR1 (by have h_0 := HG.out; omega))
    clear k1 hR1 rr1
    go_wp2
    exact bodyPost_ret (results_agg rfl _ rfl Rg1.out Tryd.underlying32 rfl info_rec) rfl ⟨_, rfl, HM.out, rfl⟩
set_option maxHeartbeats 1000000 in
theorem Over_cv (sv : Value) (g : Sg) (w : World) : Cv 83 #[.agg (rowA 10 (sgF sv g))] w (.eq (.bool (overB g.ph))) := by
  unfold Cv
  go_enter Tryd.func83, Tryd.ntmps83
  go_upto_region 1 with fail
  have r_g1 := rowIs_box w 59 10 (sgF sv g)
  have hN : NewT w (w.alloc (.cells (rowA 10 (sgF sv g)) 59)) := NewT.alloc _ _
  change Code.wp _ _ _ _ (w.alloc (.cells (rowA 10 (sgF sv g)) 59))
  generalize (w.alloc (.cells (rowA 10 (sgF sv g)) 59)) = W0 at r_g1 hN ⊢
  obtain ⟨g1, h_g1⟩ : ∃ g_, w.heap.size = g_ := ⟨_, rfl⟩
  have HG : Hid (w.heap.size ≤ g1) := Lib.hid (by omega)
  rw [h_g1] at r_g1
  simp only [h_g1]
  have Rg1 := Lib.hid r_g1
  have HM := Lib.hid hN
  clear r_g1 hN h_g1
  have c1 : W0.cell? ⟨g1, 1, none⟩ = some (.int .i64 g.ph) := Rg1.out.cell (i := 1) (by omega)
  cases h2 : (g.ph == 2)
  · cases h3 : (g.ph == 3)
    · cases h4 : (g.ph == 4)
      · go_wp2
        go_ret
        exact ⟨_, rfl, HM.out, by show _ = Value.bool _; unfold overB; simp only [h2, h3, h4]; rfl⟩
      · go_wp2
        go_ret
        exact ⟨_, rfl, HM.out, by show _ = Value.bool _; unfold overB; simp only [h2, h3, h4]; rfl⟩
    · go_wp2
      go_ret
      exact ⟨_, rfl, HM.out, by show _ = Value.bool _; unfold overB; simp only [h2, h3]; rfl⟩
  · go_wp2
    go_ret
    exact ⟨_, rfl, HM.out, by show _ = Value.bool _; unfold overB; simp only [h2]; rfl⟩
def missG (g : Sg) : Int := if (g.ph == 2) = true then 0 else notI g.dn g.un
set_option maxHeartbeats 1000000 in
theorem Missing_cv (sv : Value) (g : Sg) (w : World) : Cv 21 #[.agg (rowA 10 (sgF sv g))] w (.eq (.int .i64 (missG g))) := by
  unfold Cv
  go_enter Tryd.func21, Tryd.ntmps21
  go_upto_region 1 with fail
  have r_g1 := rowIs_box w 59 10 (sgF sv g)
  have hN : NewT w (w.alloc (.cells (rowA 10 (sgF sv g)) 59)) := NewT.alloc _ _
  change Code.wp _ _ _ _ (w.alloc (.cells (rowA 10 (sgF sv g)) 59))
  generalize (w.alloc (.cells (rowA 10 (sgF sv g)) 59)) = W0 at r_g1 hN ⊢
  obtain ⟨g1, h_g1⟩ : ∃ g_, w.heap.size = g_ := ⟨_, rfl⟩
  have HG : Hid (w.heap.size ≤ g1) := Lib.hid (by omega)
  rw [h_g1] at r_g1
  simp only [h_g1]
  have Rg1 := Lib.hid r_g1
  have HM := Lib.hid hN
  clear r_g1 hN h_g1
  cases h2 : (g.ph == 2)
  · skip
    have c1 : W0.cell? ⟨g1, 1, none⟩ = some (.int .i64 g.ph) := Rg1.out.cell (i := 1) (by omega)
    go_upto_region 3 with fail
    clear c1
    refine wp_region_steps0 NewT [SV.eq (.pointer (some ⟨g1, 6, none⟩)), SV.eq (.int .i64 (g.dn)), SV.eq (.pointer (some ⟨g1, 7, none⟩)), SV.eq (.int .i64 (g.un)), SV.eq (.int .i64 (notI g.dn g.un)), SV.eq (.int .i64 (notI g.dn g.un))] [([(1, none)], none), ([(6, some 0)], none), ([(1, none)], none), ([(8, some 2)], none), ([(7, some 1), (9, some 3)], none), ([(10, some 4)], none)] 11 6 rfl rfl (by kernel_rfl) NewT.trans (NewT.refl _) (Nat.le_of_ble_eq_true rfl) ⟨?_, ?_, ?_, ?_, ?_, ?_, trivial⟩ ?_
    · exact fun a wx hT hF K hK => rely_wp rfl (opr_fldU6 rfl hF.1 (hK _ _ (NewT.refl _) rfl))
    · exact fun a wx hT hF K hK => rely_wp rfl (opr_ldI (hT.row Rg1.out) (by decide) rfl rfl hF.1 (hK _ _ (NewT.refl _) rfl))
    · exact fun a wx hT hF K hK => rely_wp rfl (opr_fldU7 rfl hF.1 (hK _ _ (NewT.refl _) rfl))
    · exact fun a wx hT hF K hK => rely_wp rfl (opr_ldI (hT.row Rg1.out) (by decide) rfl rfl hF.1 (hK _ _ (NewT.refl _) rfl))
    · exact fun a wx hT hF K hK => rely_wp rfl (opr_notI rfl hF.1 hF.2.1 (hK _ _ (NewT.refl _) rfl))
    · exact fun a wx hT hF K hK => rely_wp rfl (opr_move (.inr rfl) (hK _ _ (NewT.refl _) hF.1))
    · intro w1 k1
      iterate 6 (intro u h; obtain rfl := Eq.symm (h (by simp)); clear h)
      refine relyEnd_nil rfl ?_
      refine wpList_end rfl ?_
      simp only [Act.put, List.setIfInBounds_toArray, List.set_cons_zero, List.set_cons_succ]
      go_simp
      replace Rg1 := Lib.hid (k1.row Rg1.out)
      replace HM := Lib.hid (NewT.trans _ _ _ HM.out k1)
      clear k1
      go_wp2
      go_ret
      exact ⟨_, rfl, HM.out, by show _ = Value.int _ _; unfold missG; rw [h2]; rfl⟩
  · skip
    have c1 : W0.cell? ⟨g1, 1, none⟩ = some (.int .i64 g.ph) := Rg1.out.cell (i := 1) (by omega)
    go_wp2
    go_ret
    exact ⟨_, rfl, HM.out, by show _ = Value.int _ _; unfold missG; rw [h2]; rfl⟩
set_option maxHeartbeats 1000000 in
theorem turned_cv (sv : Value) (g : Sg) (w : World) (hs : sv.oneCell' = true) : Cv 81 #[.agg (rowA 10 (sgF sv g))] w (.eq (.agg (rowA 10 (sgF sv (turnG g))))) := by
  unfold Cv
  go_enter Tryd.func81, Tryd.ntmps81
  go_upto_region 1 with fail
  have r_g1 := (rowIs_box w 59 10 (sgF sv g)).alloc (.cells (rowA 10 (sgF (.slice none 0 0) zG)) 59)
  have r_g2 := rowIs_box (w.alloc (.cells (rowA 10 (sgF sv g)) 59)) 59 10 (sgF (.slice none 0 0) zG)
  rw [World.size_alloc] at r_g2
  have hN : NewT w ((w.alloc (.cells (rowA 10 (sgF sv g)) 59)).alloc (.cells (rowA 10 (sgF (.slice none 0 0) zG)) 59)) := (NewT.trans _ _ _ (NewT.alloc _ _) (NewT.alloc _ _))
  change Code.wp _ _ _ _ ((w.alloc (.cells (rowA 10 (sgF sv g)) 59)).alloc (.cells (rowA 10 (sgF (.slice none 0 0) zG)) 59))
  generalize ((w.alloc (.cells (rowA 10 (sgF sv g)) 59)).alloc (.cells (rowA 10 (sgF (.slice none 0 0) zG)) 59)) = W0 at r_g1 r_g2 hN ⊢
  obtain ⟨g1, h_g1⟩ : ∃ g_, w.heap.size = g_ := ⟨_, rfl⟩
  obtain ⟨g2, h_g2⟩ : ∃ g_, w.heap.size + 1 = g_ := ⟨_, rfl⟩
  have HG : Hid (w.heap.size ≤ g1 ∧ g1 < g2) := Lib.hid (by omega)
  rw [h_g1] at r_g1
  rw [h_g2] at r_g2
  try rw [h_g2]
  simp only [h_g1]
  have Rg1 := Lib.hid r_g1
  have Rg2 := Lib.hid r_g2
  have HM := Lib.hid hN
  clear r_g1 r_g2 hN h_g1 h_g2
  refine wp_region_lit ?_
  refine wpList_plain rfl (fun K hK => ?_)
  refine opr_fldU1 rfl rfl (hK _ _ ?_)
  clear hK K
  simp only [Act.put, List.setIfInBounds_toArray, List.set_cons_zero, List.set_cons_succ]
  refine wpList_plain rfl (fun K hK => ?_)
  refine opr_put1 (g := g1) (o0 := 1) (v := .int .i64 1) (F := sgF sv { g with ph := 1 }) rfl rfl rfl Rg1.out (by decide) info_i1 rfl (fun i hi => gs_ph sv g i hi 1) ?_
  intro Wa hRa ra
  refine hK _ _ ?_
  clear hK K
  simp only [Act.put, List.setIfInBounds_toArray, List.set_cons_zero, List.set_cons_succ]
  refine wpList_plain rfl (fun K hK => ?_)
  refine opr_fldU3 rfl rfl (hK _ _ ?_)
  clear hK K
  simp only [Act.put, List.setIfInBounds_toArray, List.set_cons_zero, List.set_cons_succ]
  refine wpList_plain rfl (fun K hK => ?_)
  refine opr_put1 (g := g1) (o0 := 3) (v := .int .i64 0) (F := sgF sv (turnG g)) rfl rfl rfl ra (by decide) info_i1 rfl (fun i hi => gs_tr sv { g with ph := 1 } i hi 0) ?_
  intro Wb hRb rb
  refine hK _ _ ?_
  clear hK K
  refine wpList_end rfl ?_
  simp only [Act.put, List.setIfInBounds_toArray, List.set_cons_zero, List.set_cons_succ]
  go_simp
  have hR := RT.trans _ _ _ hRa hRb
  replace Rg1 := Lib.hid rb
  replace Rg2 := Lib.hid (hR.row (by have h_0 := HG.out; omega) Rg2.out)
  replace HM := Lib.hid (HM.out.rt hR (by have h_0 := HG.out; omega))
  clear hRa hRb ra rb hR
  go_upto_region 2 with fail
  refine wp_region_steps0 NewT [SV.eq (.agg (rowA 10 (sgF sv ((turnG g)))))] [([(1, none)], none)] 6 1 rfl rfl (by kernel_rfl) NewT.trans (NewT.refl _) (Nat.le_of_ble_eq_true rfl) ⟨?_, trivial⟩ ?_
  · exact fun a wx hT hF K hK => rely_wp rfl (opr_ldU (hT.row Rg1.out) rfl hF.1 (hK _ _ (NewT.refl _) rfl))
  · intro w1 k1
    intro u h; obtain rfl := Eq.symm (h (by simp)); clear h
    refine relyEnd_nil rfl ?_
    simp only [Act.put, List.setIfInBounds_toArray, List.set_cons_zero, List.set_cons_succ]
    refine wpList_plain rfl (fun K hK => ?_)
    refine opr_putm (g := g2) (o0 := 0) (m := 10) (f := sgF sv (turnG g)) (F := sgF sv (turnG g)) rfl rfl rfl (k1.row Rg2.out) (by decide) info_saga (sgF_one _ _ hs) (put_allN _ _ _) ?_
    intro W1 hR1 rr1
    refine hK _ _ ?_
    clear hK K
    refine wpList_end rfl ?_
    simp only [Act.put, List.setIfInBounds_toArray, List.set_cons_zero, List.set_cons_succ]
    go_simp
    replace Rg2 := Lib.hid rr1
    replace Rg1 := Lib.hid (hR1.row (by have h_0 := HG.out; omega) (k1.row Rg1.out))
    replace HM := Lib.hid (NewT.rt (NewT.trans _ _ _ HM.out k1) hR1 (by have h_0 := HG.out; omega))
    clear k1 hR1 rr1
    go_wp2
    exact bodyPost_ret (results_agg rfl _ rfl Rg2.out Tryd.underlying59 rfl info_saga) rfl ⟨_, rfl, HM.out, rfl⟩
end Go.Proofs.YtilmeffmdgcblaaDoor
/- Package saga: the saga behind a Receipt, behind a Lapse. -/
namespace Go.Proofs.YtilmeffmdgcblaaDoor
open Go Go.RowKit
set_option maxRecDepth 8000
set_option linter.all false
set_option maxHeartbeats 4000000 in
theorem wentWell_cv (sv : Value) (l : List (Int × Int)) (g : Sg) (x : Rc) (v : Value) (w : World) (hs : RdP w sv l) (hx : RecV w v x) (hk : 0 ≤ x.step ∧ x.step < 6) (ha : 0 ≤ g.at_ ∧ g.at_ ≤ 6) : Cv 67 #[.agg (rowA 10 (sgF sv g)), v] w (.eq (.agg (rowA 10 (sgF sv (wellG g x.back x.step))))) := by
  obtain ⟨su, dv, rfl, hsx, hdx⟩ := hx
  have HX : Hid (RecV w (.agg (rowA 109 (recF x su dv))) x) := Lib.hid ⟨su, dv, rfl, hsx, hdx⟩
  have HSX := Lib.hid hsx
  have HD := Lib.hid hdx
  clear hsx hdx
  unfold Cv
  have HS := Lib.hid hs
  have HK6 := Lib.hid hk
  have HAT := Lib.hid ha
  clear hs hk ha
  go_enter Tryd.func67, Tryd.ntmps67
  go_upto_region 1 with fail
  have r_g1 := ((rowIs_box w 59 10 (sgF sv g)).alloc (.cells (rowA 109 (recF x su dv)) 32)).alloc (.cells (rowA 10 (sgF (.slice none 0 0) zG)) 59)
  have r_g2 := (rowIs_box (w.alloc (.cells (rowA 10 (sgF sv g)) 59)) 32 109 (recF x su dv)).alloc (.cells (rowA 10 (sgF (.slice none 0 0) zG)) 59)
  rw [World.size_alloc] at r_g2
  have r_g3 := rowIs_box ((w.alloc (.cells (rowA 10 (sgF sv g)) 59)).alloc (.cells (rowA 109 (recF x su dv)) 32)) 59 10 (sgF (.slice none 0 0) zG)
  rw [World.size_alloc, World.size_alloc] at r_g3
  have hN : NewT w (((w.alloc (.cells (rowA 10 (sgF sv g)) 59)).alloc (.cells (rowA 109 (recF x su dv)) 32)).alloc (.cells (rowA 10 (sgF (.slice none 0 0) zG)) 59)) := (NewT.trans _ _ _ ((NewT.trans _ _ _ (NewT.alloc _ _) (NewT.alloc _ _))) (NewT.alloc _ _))
  change Code.wp _ _ _ _ (((w.alloc (.cells (rowA 10 (sgF sv g)) 59)).alloc (.cells (rowA 109 (recF x su dv)) 32)).alloc (.cells (rowA 10 (sgF (.slice none 0 0) zG)) 59))
  generalize (((w.alloc (.cells (rowA 10 (sgF sv g)) 59)).alloc (.cells (rowA 109 (recF x su dv)) 32)).alloc (.cells (rowA 10 (sgF (.slice none 0 0) zG)) 59)) = W0 at r_g1 r_g2 r_g3 hN ⊢
  obtain ⟨g1, h_g1⟩ : ∃ g_, w.heap.size = g_ := ⟨_, rfl⟩
  obtain ⟨g2, h_g2⟩ : ∃ g_, w.heap.size + 1 = g_ := ⟨_, rfl⟩
  obtain ⟨g3, h_g3⟩ : ∃ g_, w.heap.size + 1 + 1 = g_ := ⟨_, rfl⟩
  have HG : Hid (w.heap.size ≤ g1 ∧ g1 < g2 ∧ g2 < g3) := Lib.hid (by omega)
  rw [h_g1] at r_g1
  rw [h_g2] at r_g2
  rw [h_g3] at r_g3
  try rw [h_g3]
  try rw [h_g2]
  simp only [h_g1]
  have Rg1 := Lib.hid r_g1
  have Rg2 := Lib.hid r_g2
  have Rg3 := Lib.hid r_g3
  have HM := Lib.hid hN
  clear r_g1 r_g2 r_g3 hN h_g1 h_g2 h_g3
  go_upto_region 1 with fail
  refine wp_region_steps0 NewT [SV.eq (.pointer (some ⟨g1, 3, none⟩))] [([(2, none)], none)] 35 1 rfl rfl (by kernel_rfl) NewT.trans (NewT.refl _) (Nat.le_of_ble_eq_true rfl) ⟨?_, trivial⟩ ?_
  · exact fun a wx hT hF K hK => rely_wp rfl (opr_fldU3 rfl hF.1 (hK _ _ (NewT.refl _) rfl))
  · intro w1 k1
    intro u h; obtain rfl := Eq.symm (h (by simp)); clear h
    refine relyEnd_nil rfl ?_
    simp only [Act.put, List.setIfInBounds_toArray, List.set_cons_zero, List.set_cons_succ]
    refine wpList_plain rfl (fun K hK => ?_)
    refine opr_put1 (g := g1) (o0 := 3) (v := .int .i64 0) (F := sgF sv ({ g with tr := 0 })) rfl rfl rfl (k1.row Rg1.out) (by decide) info_i1 rfl (fun i hi => gs_tr sv g i hi 0) ?_
    intro W1 hR1 rr1
    refine hK _ _ ?_
    clear hK K
    refine wpList_end rfl ?_
    simp only [Act.put, List.setIfInBounds_toArray, List.set_cons_zero, List.set_cons_succ]
    go_simp
    replace Rg1 := Lib.hid rr1
    replace Rg2 := Lib.hid (hR1.row (by have h_0 := HG.out; omega) (k1.row Rg2.out))
    replace Rg3 := Lib.hid (hR1.row (by have h_0 := HG.out; omega) (k1.row Rg3.out))
    replace HM := Lib.hid (NewT.rt (NewT.trans _ _ _ HM.out k1) hR1 (by have h_0 := HG.out; omega))
    clear k1 hR1 rr1
    go_upto_region 2 with fail
    refine wp_region_steps0 NewT [SV.eq (.pointer (some ⟨g2, 5, none⟩)), SV.eq (.bool (x.back))] [([(3, none)], none), ([(6, some 0)], none)] 35 2 rfl rfl (by kernel_rfl) NewT.trans (NewT.refl _) (Nat.le_of_ble_eq_true rfl) ⟨?_, ?_, trivial⟩ ?_
    · exact fun a wx hT hF K hK => rely_wp rfl (opr_fldR (by decide) rfl hF.1 (hK _ _ (NewT.refl _) rfl))
    · exact fun a wx hT hF K hK => rely_wp rfl (opr_ldQ (hT.row Rg2.out) (by decide) rfl rfl hF.1 (hK _ _ (NewT.refl _) rfl))
    · intro w2 k2
      iterate 2 (intro u h; obtain rfl := Eq.symm (h (by simp)); clear h)
      refine relyEnd_nil rfl ?_
      refine wpList_end rfl ?_
      simp only [Act.put, List.setIfInBounds_toArray, List.set_cons_zero, List.set_cons_succ]
      go_simp
      replace Rg1 := Lib.hid (k2.row Rg1.out)
      replace Rg2 := Lib.hid (k2.row Rg2.out)
      replace Rg3 := Lib.hid (k2.row Rg3.out)
      replace HM := Lib.hid (NewT.trans _ _ _ HM.out k2)
      clear k2
      cases hb : x.back
      · have HE : Hid (wellG g x.back x.step = { g with tr := 0, dn := orI g.dn (bitI x.step), so := notI g.so (bitI x.step), at_ := g.at_ + 1 }) := Lib.hid (by unfold wellG; rw [hb]; rfl)
        clear hb
        go_upto_region 5 with fail
        refine wp_region_rely (NewT) [SV.eq (.pointer (some ⟨g1, 6, none⟩)), SV.eq (.int .i64 (g.dn)), SV.eq (.pointer (some ⟨g2, 3, none⟩)), SV.eq (.int .i64 (x.step)), SV.eq (.int .i64 (bitI x.step)), SV.eq (.int .i64 (orI g.dn (bitI x.step))), SV.eq (.pointer (some ⟨g1, 6, none⟩))] [([(2, none)], none), ([(16, some 0)], none), ([(3, none)], none), ([(18, some 2)], none), ([(19, some 3)], none), ([(17, some 1), (20, some 4)], none), ([(2, none)], none)] 35 rfl (by kernel_rfl) rfl (by kernel_rfl) (by kernel_rfl) rfl NewT.trans (NewT.drew _) (Nat.le_of_ble_eq_true rfl) ⟨?_, ?_, ?_, ?_, ?_, ?_, ?_, trivial⟩ ?_
        · exact fun a wx hT hF K hK => rely_wp rfl (opr_fldU6 rfl hF.1 (hK _ _ (NewT.refl _) rfl))
        · exact fun a wx hT hF K hK => rely_wp rfl (opr_ldI (hT.row Rg1.out) (by decide) rfl rfl hF.1 (hK _ _ (NewT.refl _) rfl))
        · exact fun a wx hT hF K hK => rely_wp rfl (opr_fldR (by decide) rfl hF.1 (hK _ _ (NewT.refl _) rfl))
        · exact fun a wx hT hF K hK => rely_wp rfl (opr_ldI (hT.row Rg2.out) (by decide) rfl rfl hF.1 (hK _ _ (NewT.refl _) rfl))
        · exact fun a wx hT hF K hK => rely_wp rfl (opr_cv (gBit_cv x.step wx (HK6.out)) rfl Tryd.func80 (by kernel_rfl) (by kernel_rfl) (evs1 hF.1) hK)
        · exact fun a wx hT hF K hK => rely_wp rfl (opr_orI rfl hF.1 hF.2.1 (hK _ _ (NewT.refl _) rfl))
        · exact fun a wx hT hF K hK => rely_wp rfl (opr_fldU6 rfl hF.1 (hK _ _ (NewT.refl _) rfl))
        · intro w3 k3
          iterate 7 (intro u h; obtain rfl := Eq.symm (h (by simp)); clear h)
          refine relyEnd_nil rfl ?_
          simp only [Act.put, List.setIfInBounds_toArray, List.set_cons_zero, List.set_cons_succ]
          refine opr_put1 (g := g1) (o0 := 6) (v := .int .i64 (orI g.dn (bitI x.step))) (F := sgF sv ({ g with tr := 0, dn := orI g.dn (bitI x.step) })) rfl rfl rfl (k3.row Rg1.out) (by decide) info_i1 rfl (fun i hi => gs_dn sv { g with tr := 0 } i hi _) ?_
          intro W3 hR3 rr3
          go_simp
          replace Rg1 := Lib.hid rr3
          replace Rg2 := Lib.hid (hR3.row (by have h_0 := HG.out; omega) (k3.row Rg2.out))
          replace Rg3 := Lib.hid (hR3.row (by have h_0 := HG.out; omega) (k3.row Rg3.out))
          replace HM := Lib.hid (NewT.rt (NewT.trans _ _ _ HM.out k3) hR3 (by have h_0 := HG.out; omega))
          clear k3 hR3 rr3
          go_upto_region 6 with fail
          refine wp_region_rely (NewT) [SV.eq (.pointer (some ⟨g1, 8, none⟩)), SV.eq (.int .i64 (g.so)), SV.eq (.pointer (some ⟨g2, 3, none⟩)), SV.eq (.int .i64 (x.step)), SV.eq (.int .i64 (bitI x.step)), SV.eq (.int .i64 (notI g.so (bitI x.step))), SV.eq (.pointer (some ⟨g1, 8, none⟩))] [([(2, none)], none), ([(23, some 0)], none), ([(3, none)], none), ([(25, some 2)], none), ([(26, some 3)], none), ([(24, some 1), (27, some 4)], none), ([(2, none)], none)] 35 rfl (by kernel_rfl) rfl (by kernel_rfl) (by kernel_rfl) rfl NewT.trans (NewT.drew _) (Nat.le_of_ble_eq_true rfl) ⟨?_, ?_, ?_, ?_, ?_, ?_, ?_, trivial⟩ ?_
          · exact fun a wx hT hF K hK => rely_wp rfl (opr_fldU8 rfl hF.1 (hK _ _ (NewT.refl _) rfl))
          · exact fun a wx hT hF K hK => rely_wp rfl (opr_ldI (hT.row Rg1.out) (by decide) rfl rfl hF.1 (hK _ _ (NewT.refl _) rfl))
          · exact fun a wx hT hF K hK => rely_wp rfl (opr_fldR (by decide) rfl hF.1 (hK _ _ (NewT.refl _) rfl))
          · exact fun a wx hT hF K hK => rely_wp rfl (opr_ldI (hT.row Rg2.out) (by decide) rfl rfl hF.1 (hK _ _ (NewT.refl _) rfl))
          · exact fun a wx hT hF K hK => rely_wp rfl (opr_cv (gBit_cv x.step wx (HK6.out)) rfl Tryd.func80 (by kernel_rfl) (by kernel_rfl) (evs1 hF.1) hK)
          · exact fun a wx hT hF K hK => rely_wp rfl (opr_notI rfl hF.1 hF.2.1 (hK _ _ (NewT.refl _) rfl))
          · exact fun a wx hT hF K hK => rely_wp rfl (opr_fldU8 rfl hF.1 (hK _ _ (NewT.refl _) rfl))
          · intro w4 k4
            iterate 7 (intro u h; obtain rfl := Eq.symm (h (by simp)); clear h)
            refine relyEnd_nil rfl ?_
            simp only [Act.put, List.setIfInBounds_toArray, List.set_cons_zero, List.set_cons_succ]
            refine opr_put1 (g := g1) (o0 := 8) (v := .int .i64 (notI g.so (bitI x.step))) (F := sgF sv ({ g with tr := 0, dn := orI g.dn (bitI x.step), so := notI g.so (bitI x.step) })) rfl rfl rfl (k4.row Rg1.out) (by decide) info_i1 rfl (fun i hi => gs_so sv { g with tr := 0, dn := orI g.dn (bitI x.step) } i hi _) ?_
            intro W4 hR4 rr4
            go_simp
            replace Rg1 := Lib.hid rr4
            replace Rg2 := Lib.hid (hR4.row (by have h_0 := HG.out; omega) (k4.row Rg2.out))
            replace Rg3 := Lib.hid (hR4.row (by have h_0 := HG.out; omega) (k4.row Rg3.out))
            replace HM := Lib.hid (NewT.rt (NewT.trans _ _ _ HM.out k4) hR4 (by have h_0 := HG.out; omega))
            clear k4 hR4 rr4
            go_upto_region 7 with fail
            refine wp_region_steps0 NewT [SV.eq (.pointer (some ⟨g1, 2, none⟩)), SV.eq (.int .i64 (g.at_)), SV.eq (.int .i64 (g.at_ + 1)), SV.eq (.pointer (some ⟨g1, 2, none⟩))] [([(2, none)], none), ([(30, some 0)], none), ([(31, some 1)], none), ([(2, none)], none)] 35 4 rfl rfl (by kernel_rfl) NewT.trans (NewT.refl _) (Nat.le_of_ble_eq_true rfl) ⟨?_, ?_, ?_, ?_, trivial⟩ ?_
            · exact fun a wx hT hF K hK => rely_wp rfl (opr_fldU2 rfl hF.1 (hK _ _ (NewT.refl _) rfl))
            · exact fun a wx hT hF K hK => rely_wp rfl (opr_ldI (hT.row Rg1.out) (by decide) rfl rfl hF.1 (hK _ _ (NewT.refl _) rfl))
            · exact fun a wx hT hF K hK => rely_wp rfl (opr_add (r := g.at_ + 1) Tryd.underlying3 (by have := HAT.out; show wrap64 (g.at_ + 1) = _; unfold wrap64; omega) rfl hF.1 rfl (hK _ _ (NewT.refl _) rfl))
            · exact fun a wx hT hF K hK => rely_wp rfl (opr_fldU2 rfl hF.1 (hK _ _ (NewT.refl _) rfl))
            · intro w5 k5
              iterate 4 (intro u h; obtain rfl := Eq.symm (h (by simp)); clear h)
              refine relyEnd_nil rfl ?_
              simp only [Act.put, List.setIfInBounds_toArray, List.set_cons_zero, List.set_cons_succ]
              refine wpList_plain rfl (fun K hK => ?_)
              refine opr_put1 (g := g1) (o0 := 2) (v := .int .i64 (g.at_ + 1)) (F := sgF sv ({ g with tr := 0, dn := orI g.dn (bitI x.step), so := notI g.so (bitI x.step), at_ := g.at_ + 1 })) rfl rfl rfl (k5.row Rg1.out) (by decide) info_i1 rfl (fun i hi => gs_at sv { g with tr := 0, dn := orI g.dn (bitI x.step), so := notI g.so (bitI x.step) } i hi _) ?_
              intro W5 hR5 rr5
              refine hK _ _ ?_
              clear hK K
              refine wpList_end rfl ?_
              simp only [Act.put, List.setIfInBounds_toArray, List.set_cons_zero, List.set_cons_succ]
              go_simp
              replace Rg1 := Lib.hid rr5
              replace Rg2 := Lib.hid (hR5.row (by have h_0 := HG.out; omega) (k5.row Rg2.out))
              replace Rg3 := Lib.hid (hR5.row (by have h_0 := HG.out; omega) (k5.row Rg3.out))
              replace HM := Lib.hid (NewT.rt (NewT.trans _ _ _ HM.out k5) hR5 (by have h_0 := HG.out; omega))
              clear k5 hR5 rr5
              go_upto_region 8 with fail
              refine wp_region_steps0 NewT [SV.eq (.agg (rowA 10 (sgF sv ({ g with tr := 0, dn := orI g.dn (bitI x.step), so := notI g.so (bitI x.step), at_ := g.at_ + 1 }))))] [([(2, none)], none)] 35 1 rfl rfl (by kernel_rfl) NewT.trans (NewT.refl _) (Nat.le_of_ble_eq_true rfl) ⟨?_, trivial⟩ ?_
              · exact fun a wx hT hF K hK => rely_wp rfl (opr_ldU (hT.row Rg1.out) rfl hF.1 (hK _ _ (NewT.refl _) rfl))
              · intro w6 k6
                intro u h; obtain rfl := Eq.symm (h (by simp)); clear h
                refine relyEnd_nil rfl ?_
                simp only [Act.put, List.setIfInBounds_toArray, List.set_cons_zero, List.set_cons_succ]
                refine wpList_plain rfl (fun K hK => ?_)
                refine opr_putm (g := g3) (o0 := 0) (m := 10) (f := sgF sv ({ g with tr := 0, dn := orI g.dn (bitI x.step), so := notI g.so (bitI x.step), at_ := g.at_ + 1 })) (F := sgF sv ({ g with tr := 0, dn := orI g.dn (bitI x.step), so := notI g.so (bitI x.step), at_ := g.at_ + 1 })) rfl rfl rfl (k6.row Rg3.out) (by decide) info_saga (sgF_one _ _ (oneP HS.out)) (put_allN _ _ _) ?_
                intro W6 hR6 rr6
                refine hK _ _ ?_
                clear hK K
                refine wpList_end rfl ?_
                simp only [Act.put, List.setIfInBounds_toArray, List.set_cons_zero, List.set_cons_succ]
                go_simp
                replace Rg3 := Lib.hid rr6
                replace Rg1 := Lib.hid (hR6.row (by have h_0 := HG.out; omega) (k6.row Rg1.out))
                replace Rg2 := Lib.hid (hR6.row (by have h_0 := HG.out; omega) (k6.row Rg2.out))
                replace HM := Lib.hid (NewT.rt (NewT.trans _ _ _ HM.out k6) hR6 (by have h_0 := HG.out; omega))
                clear k6 hR6 rr6
                go_wp2
                exact bodyPost_ret (results_agg rfl _ rfl Rg3.out Tryd.underlying59 rfl info_saga) rfl ⟨_, rfl, HM.out, by show _ = Value.agg _; rw [HE.out]⟩
      · have HE : Hid (wellG g x.back x.step = { g with tr := 0, un := orI g.un (bitI x.step) }) := Lib.hid (by unfold wellG; rw [hb]; rfl)
        clear hb
        go_upto_region 3 with fail
        refine wp_region_rely (NewT) [SV.eq (.pointer (some ⟨g1, 7, none⟩)), SV.eq (.int .i64 (g.un)), SV.eq (.pointer (some ⟨g2, 3, none⟩)), SV.eq (.int .i64 (x.step)), SV.eq (.int .i64 (bitI x.step)), SV.eq (.int .i64 (orI g.un (bitI x.step))), SV.eq (.pointer (some ⟨g1, 7, none⟩))] [([(2, none)], none), ([(8, some 0)], none), ([(3, none)], none), ([(10, some 2)], none), ([(11, some 3)], none), ([(9, some 1), (12, some 4)], none), ([(2, none)], none)] 35 rfl (by kernel_rfl) rfl (by kernel_rfl) (by kernel_rfl) rfl NewT.trans (NewT.drew _) (Nat.le_of_ble_eq_true rfl) ⟨?_, ?_, ?_, ?_, ?_, ?_, ?_, trivial⟩ ?_
        · exact fun a wx hT hF K hK => rely_wp rfl (opr_fldU7 rfl hF.1 (hK _ _ (NewT.refl _) rfl))
        · exact fun a wx hT hF K hK => rely_wp rfl (opr_ldI (hT.row Rg1.out) (by decide) rfl rfl hF.1 (hK _ _ (NewT.refl _) rfl))
        · exact fun a wx hT hF K hK => rely_wp rfl (opr_fldR (by decide) rfl hF.1 (hK _ _ (NewT.refl _) rfl))
        · exact fun a wx hT hF K hK => rely_wp rfl (opr_ldI (hT.row Rg2.out) (by decide) rfl rfl hF.1 (hK _ _ (NewT.refl _) rfl))
        · exact fun a wx hT hF K hK => rely_wp rfl (opr_cv (gBit_cv x.step wx (HK6.out)) rfl Tryd.func80 (by kernel_rfl) (by kernel_rfl) (evs1 hF.1) hK)
        · exact fun a wx hT hF K hK => rely_wp rfl (opr_orI rfl hF.1 hF.2.1 (hK _ _ (NewT.refl _) rfl))
        · exact fun a wx hT hF K hK => rely_wp rfl (opr_fldU7 rfl hF.1 (hK _ _ (NewT.refl _) rfl))
        · intro w7 k7
          iterate 7 (intro u h; obtain rfl := Eq.symm (h (by simp)); clear h)
          refine relyEnd_nil rfl ?_
          simp only [Act.put, List.setIfInBounds_toArray, List.set_cons_zero, List.set_cons_succ]
          refine opr_put1 (g := g1) (o0 := 7) (v := .int .i64 (orI g.un (bitI x.step))) (F := sgF sv ({ g with tr := 0, un := orI g.un (bitI x.step) })) rfl rfl rfl (k7.row Rg1.out) (by decide) info_i1 rfl (fun i hi => gs_un sv { g with tr := 0 } i hi _) ?_
          intro W7 hR7 rr7
          go_simp
          replace Rg1 := Lib.hid rr7
          replace Rg2 := Lib.hid (hR7.row (by have h_0 := HG.out; omega) (k7.row Rg2.out))
          replace Rg3 := Lib.hid (hR7.row (by have h_0 := HG.out; omega) (k7.row Rg3.out))
          replace HM := Lib.hid (NewT.rt (NewT.trans _ _ _ HM.out k7) hR7 (by have h_0 := HG.out; omega))
          clear k7 hR7 rr7
          go_upto_region 4 with fail
          refine wp_region_steps0 NewT [SV.eq (.agg (rowA 10 (sgF sv ({ g with tr := 0, un := orI g.un (bitI x.step) }))))] [([(2, none)], none)] 35 1 rfl rfl (by kernel_rfl) NewT.trans (NewT.refl _) (Nat.le_of_ble_eq_true rfl) ⟨?_, trivial⟩ ?_
          · exact fun a wx hT hF K hK => rely_wp rfl (opr_ldU (hT.row Rg1.out) rfl hF.1 (hK _ _ (NewT.refl _) rfl))
          · intro w8 k8
            intro u h; obtain rfl := Eq.symm (h (by simp)); clear h
            refine relyEnd_nil rfl ?_
            simp only [Act.put, List.setIfInBounds_toArray, List.set_cons_zero, List.set_cons_succ]
            refine wpList_plain rfl (fun K hK => ?_)
            refine opr_putm (g := g3) (o0 := 0) (m := 10) (f := sgF sv ({ g with tr := 0, un := orI g.un (bitI x.step) })) (F := sgF sv ({ g with tr := 0, un := orI g.un (bitI x.step) })) rfl rfl rfl (k8.row Rg3.out) (by decide) info_saga (sgF_one _ _ (oneP HS.out)) (put_allN _ _ _) ?_
            intro W8 hR8 rr8
            refine hK _ _ ?_
            clear hK K
            refine wpList_end rfl ?_
            simp only [Act.put, List.setIfInBounds_toArray, List.set_cons_zero, List.set_cons_succ]
            go_simp
            replace Rg3 := Lib.hid rr8
            replace Rg1 := Lib.hid (hR8.row (by have h_0 := HG.out; omega) (k8.row Rg1.out))
            replace Rg2 := Lib.hid (hR8.row (by have h_0 := HG.out; omega) (k8.row Rg2.out))
            replace HM := Lib.hid (NewT.rt (NewT.trans _ _ _ HM.out k8) hR8 (by have h_0 := HG.out; omega))
            clear k8 hR8 rr8
            go_wp2
            exact bodyPost_ret (results_agg rfl _ rfl Rg3.out Tryd.underlying59 rfl info_saga) rfl ⟨_, rfl, HM.out, by show _ = Value.agg _; rw [HE.out]⟩
set_option maxHeartbeats 4000000 in
theorem refused_n (sv : Value) (l : List (Int × Int)) (g : Sg) (k : Nat) (w : World) (hs : RdP w sv l) (hl : l.length ≤ 6) (hk : k < l.length) : Cv 68 #[.agg (rowA 10 (sgF sv g)), .int .i64 (k : Int)] w (.eq (.agg (rowA 10 (sgF sv (refG l g k))))) := by
  unfold Cv
  have HS := Lib.hid hs
  have HST := Lib.hid hk
  have HK6 : Hid (0 ≤ (k : Int) ∧ (k : Int) < 6) := Lib.hid (by omega)
  obtain ⟨d, HDD⟩ := hid_ex (l.getD k (0, 0))
  clear hs hl hk
  go_enter Tryd.func68, Tryd.ntmps68
  go_upto_region 1 with fail
  have r_g1 := (rowIs_box w 59 10 (sgF sv g)).alloc (.cells (rowA 10 (sgF (.slice none 0 0) zG)) 59)
  have r_g3 := rowIs_box (w.alloc (.cells (rowA 10 (sgF sv g)) 59)) 59 10 (sgF (.slice none 0 0) zG)
  rw [World.size_alloc] at r_g3
  have hN : NewT w ((w.alloc (.cells (rowA 10 (sgF sv g)) 59)).alloc (.cells (rowA 10 (sgF (.slice none 0 0) zG)) 59)) := (NewT.trans _ _ _ (NewT.alloc _ _) (NewT.alloc _ _))
  change Code.wp _ _ _ _ ((w.alloc (.cells (rowA 10 (sgF sv g)) 59)).alloc (.cells (rowA 10 (sgF (.slice none 0 0) zG)) 59))
  generalize ((w.alloc (.cells (rowA 10 (sgF sv g)) 59)).alloc (.cells (rowA 10 (sgF (.slice none 0 0) zG)) 59)) = W0 at r_g1 r_g3 hN ⊢
  obtain ⟨g1, h_g1⟩ : ∃ g_, w.heap.size = g_ := ⟨_, rfl⟩
  obtain ⟨g3, h_g3⟩ : ∃ g_, w.heap.size + 1 = g_ := ⟨_, rfl⟩
  have HG : Hid (w.heap.size ≤ g1 ∧ g1 < g3) := Lib.hid (by omega)
  rw [h_g1] at r_g1
  rw [h_g3] at r_g3
  try rw [h_g3]
  simp only [h_g1]
  have Rg1 := Lib.hid r_g1
  have Rg3 := Lib.hid r_g3
  have HM := Lib.hid hN
  clear r_g1 r_g3 hN h_g1 h_g3
  go_upto_region 1 with fail
  refine wp_region_steps0 NewT [SV.eq (.pointer (some ⟨g1, 0, none⟩)), SV.eq (sv), SV.eq (.int .i64 ((k : Int))), svStp (d), svIp (d).2, SV.eq (.int .i64 ((d).2)), SV.eq (.bool (((d).2) == 3))] [([(2, none)], none), ([(5, some 0)], none), ([(1, none)], none), ([(6, some 1), (7, some 2)], none), ([(8, some 3)], none), ([(9, some 4)], none), ([(10, some 5)], none)] 21 7 rfl rfl (by kernel_rfl) NewT.trans (NewT.refl _) (Nat.le_of_ble_eq_true rfl) ⟨?_, ?_, ?_, ?_, ?_, ?_, ?_, trivial⟩ ?_
  · exact fun a wx hT hF K hK => rely_wp rfl (opr_fldU0 rfl hF.1 (hK _ _ (NewT.refl _) rfl))
  · exact fun a wx hT hF K hK => rely_wp rfl (opr_ldS (hT.row Rg1.out) (by decide) rfl rfl hF.1 (hK _ _ (NewT.refl _) rfl))
  · exact fun a wx hT hF K hK => rely_wp rfl (opr_move (.inl rfl) (hK _ _ (NewT.refl _) hF.1))
  · intro a wx hT hF K hK
    obtain ⟨f6, f7, _⟩ := hF
    have f6 : a.tmps.getD 6 undef = sv := f6
    have f7 : a.tmps.getD 7 undef = .int .i64 ((k : Int)) := f7
    refine rely_wp rfl ?_
    exact opr_idxSt (k := k) (d := d) (⟨HST.out, HDD.out⟩) (rfl) rfl (by rw [eval_tmp, f6]; exact ((NewT.trans _ _ _ HM.out hT).pairs HS.out)) f7 (fun v hv => hK v _ (NewT.refl _) hv)
  · exact fun a wx hT hF K hK => rely_wp rfl (opr_fldSt1 rfl hF.1 (fun u hu => hK u _ (NewT.refl _) hu))
  · exact fun a wx hT hF K hK => rely_wp rfl (opr_ldIp rfl hF.1 (hK _ _ (NewT.refl _) rfl))
  · exact fun a wx hT hF K hK => rely_wp rfl (opr_cmp (b := ((d).2) == 3) (.inl ⟨rfl, rfl⟩) Tryd.underlying3 rfl hF.1 rfl (hK _ _ (NewT.refl _) rfl))
  · intro w1 k1
    iterate 3 (intro u h; obtain rfl := Eq.symm (h (by simp)); clear h)
    iterate 2 (intro _ _)
    iterate 2 (intro u h; obtain rfl := Eq.symm (h (by simp)); clear h)
    refine relyEnd_nil rfl ?_
    refine wpList_end rfl ?_
    simp only [Act.put, List.setIfInBounds_toArray, List.set_cons_zero, List.set_cons_succ]
    go_simp
    replace Rg1 := Lib.hid (k1.row Rg1.out)
    replace Rg3 := Lib.hid (k1.row Rg3.out)
    replace HM := Lib.hid (NewT.trans _ _ _ HM.out k1)
    clear k1
    cases hb : (d.2 == 3)
    · have HE : Hid (refG l g (k : Int) = turnG { g with so := notI g.so (bitI k) }) := Lib.hid (by unfold refG kdL; rw [Int.toNat_natCast, HDD.out, if_neg (by simpa using hb)])
      clear hb
      go_upto_region 3 with fail
      refine wp_region_rely (NewT) [SV.eq (.pointer (some ⟨g1, 8, none⟩)), SV.eq (.int .i64 (g.so)), SV.eq (.int .i64 ((k : Int))), SV.eq (.int .i64 (bitI ((k : Int)))), SV.eq (.int .i64 (notI g.so (bitI ((k : Int))))), SV.eq (.pointer (some ⟨g1, 8, none⟩))] [([(2, none)], none), ([(13, some 0)], none), ([(1, none)], none), ([(15, some 2)], none), ([(14, some 1), (16, some 3)], none), ([(2, none)], none)] 21 rfl (by kernel_rfl) rfl (by kernel_rfl) (by kernel_rfl) rfl NewT.trans (NewT.drew _) (Nat.le_of_ble_eq_true rfl) ⟨?_, ?_, ?_, ?_, ?_, ?_, trivial⟩ ?_
      · exact fun a wx hT hF K hK => rely_wp rfl (opr_fldU8 rfl hF.1 (hK _ _ (NewT.refl _) rfl))
      · exact fun a wx hT hF K hK => rely_wp rfl (opr_ldI (hT.row Rg1.out) (by decide) rfl rfl hF.1 (hK _ _ (NewT.refl _) rfl))
      · exact fun a wx hT hF K hK => rely_wp rfl (opr_move (.inl rfl) (hK _ _ (NewT.refl _) hF.1))
      · exact fun a wx hT hF K hK => rely_wp rfl (opr_cv (gBit_cv ((k : Int)) wx (HK6.out)) rfl Tryd.func80 (by kernel_rfl) (by kernel_rfl) (evs1 hF.1) hK)
      · exact fun a wx hT hF K hK => rely_wp rfl (opr_notI rfl hF.1 hF.2.1 (hK _ _ (NewT.refl _) rfl))
      · exact fun a wx hT hF K hK => rely_wp rfl (opr_fldU8 rfl hF.1 (hK _ _ (NewT.refl _) rfl))
      · intro w2 k2
        iterate 6 (intro u h; obtain rfl := Eq.symm (h (by simp)); clear h)
        refine relyEnd_nil rfl ?_
        simp only [Act.put, List.setIfInBounds_toArray, List.set_cons_zero, List.set_cons_succ]
        refine opr_put1 (g := g1) (o0 := 8) (v := .int .i64 (notI g.so (bitI k))) (F := sgF sv ({ g with so := notI g.so (bitI k) })) rfl rfl rfl (k2.row Rg1.out) (by decide) info_i1 rfl (fun i hi => gs_so sv g i hi _) ?_
        intro W2 hR2 rr2
        go_simp
        replace Rg1 := Lib.hid rr2
        replace Rg3 := Lib.hid (hR2.row (by have h_0 := HG.out; omega) (k2.row Rg3.out))
        replace HM := Lib.hid (NewT.rt (NewT.trans _ _ _ HM.out k2) hR2 (by have h_0 := HG.out; omega))
        clear k2 hR2 rr2
        go_upto_region 4 with fail
        refine wp_region_steps0 NewT [SV.eq (.agg (rowA 10 (sgF sv ({ g with so := notI g.so (bitI k) })))), SV.eq ((.agg (rowA 10 (sgF sv (turnG ({ g with so := notI g.so (bitI k) }))))))] [([(2, none)], none), ([(19, some 0)], none)] 21 2 rfl rfl (by kernel_rfl) NewT.trans (NewT.refl _) (Nat.le_of_ble_eq_true rfl) ⟨?_, ?_, trivial⟩ ?_
        · exact fun a wx hT hF K hK => rely_wp rfl (opr_ldU (hT.row Rg1.out) rfl hF.1 (hK _ _ (NewT.refl _) rfl))
        · exact fun a wx hT hF K hK => rely_wp rfl (opr_cv (turned_cv sv ({ g with so := notI g.so (bitI k) }) wx (oneP HS.out)) rfl Tryd.func81 (by kernel_rfl) (by kernel_rfl) (evs1 hF.1) hK)
        · intro w3 k3
          iterate 2 (intro u h; obtain rfl := Eq.symm (h (by simp)); clear h)
          refine relyEnd_nil rfl ?_
          simp only [Act.put, List.setIfInBounds_toArray, List.set_cons_zero, List.set_cons_succ]
          refine wpList_plain rfl (fun K hK => ?_)
          refine opr_putm (g := g3) (o0 := 0) (m := 10) (f := sgF sv (turnG { g with so := notI g.so (bitI k) })) (F := sgF sv (turnG { g with so := notI g.so (bitI k) })) rfl rfl rfl (k3.row Rg3.out) (by decide) info_saga (sgF_one _ _ (oneP HS.out)) (put_allN _ _ _) ?_
          intro W3 hR3 rr3
          refine hK _ _ ?_
          clear hK K
          refine wpList_end rfl ?_
          simp only [Act.put, List.setIfInBounds_toArray, List.set_cons_zero, List.set_cons_succ]
          go_simp
          replace Rg3 := Lib.hid rr3
          replace Rg1 := Lib.hid (hR3.row (by have h_0 := HG.out; omega) (k3.row Rg1.out))
          replace HM := Lib.hid (NewT.rt (NewT.trans _ _ _ HM.out k3) hR3 (by have h_0 := HG.out; omega))
          clear k3 hR3 rr3
          go_wp2
          exact bodyPost_ret (results_agg rfl _ rfl Rg3.out Tryd.underlying59 rfl info_saga) rfl ⟨_, rfl, HM.out, by show _ = Value.agg _; rw [HE.out]⟩
    · have HE : Hid (refG l g (k : Int) = g) := Lib.hid (by unfold refG kdL; rw [Int.toNat_natCast, HDD.out, if_pos (by simpa using hb)])
      clear hb
      go_upto_region 2 with fail
      refine wp_region_steps0 NewT [SV.eq (.agg (rowA 10 (sgF sv g)))] [([(2, none)], none)] 21 1 rfl rfl (by kernel_rfl) NewT.trans (NewT.refl _) (Nat.le_of_ble_eq_true rfl) ⟨?_, trivial⟩ ?_
      · exact fun a wx hT hF K hK => rely_wp rfl (opr_ldU (hT.row Rg1.out) rfl hF.1 (hK _ _ (NewT.refl _) rfl))
      · intro w4 k4
        intro u h; obtain rfl := Eq.symm (h (by simp)); clear h
        refine relyEnd_nil rfl ?_
        simp only [Act.put, List.setIfInBounds_toArray, List.set_cons_zero, List.set_cons_succ]
        refine wpList_plain rfl (fun K hK => ?_)
        refine opr_putm (g := g3) (o0 := 0) (m := 10) (f := sgF sv (g)) (F := sgF sv (g)) rfl rfl rfl (k4.row Rg3.out) (by decide) info_saga (sgF_one _ _ (oneP HS.out)) (put_allN _ _ _) ?_
        intro W4 hR4 rr4
        refine hK _ _ ?_
        clear hK K
        refine wpList_end rfl ?_
        simp only [Act.put, List.setIfInBounds_toArray, List.set_cons_zero, List.set_cons_succ]
        go_simp
        replace Rg3 := Lib.hid rr4
        replace Rg1 := Lib.hid (hR4.row (by have h_0 := HG.out; omega) (k4.row Rg1.out))
        replace HM := Lib.hid (NewT.rt (NewT.trans _ _ _ HM.out k4) hR4 (by have h_0 := HG.out; omega))
        clear k4 hR4 rr4
        go_wp2
        exact bodyPost_ret (results_agg rfl _ rfl Rg3.out Tryd.underlying59 rfl info_saga) rfl ⟨_, rfl, HM.out, by show _ = Value.agg _; rw [HE.out]⟩
theorem refused_cv (sv : Value) (l : List (Int × Int)) (g : Sg) (k : Int) (w : World) (hs : RdP w sv l) (hl : l.length ≤ 6) (hk : 0 ≤ k ∧ k < l.length) : Cv 68 #[.agg (rowA 10 (sgF sv g)), .int .i64 k] w (.eq (.agg (rowA 10 (sgF sv (refG l g k))))) := by
  obtain ⟨n, rfl⟩ : ∃ n : Nat, k = n := ⟨k.toNat, by omega⟩
  exact refused_n sv l g n w hs hl (by omega)
set_option maxHeartbeats 4000000 in
theorem lapsed_cv (sv : Value) (l : List (Int × Int)) (g : Sg) (x : Rc) (v : Value) (lim : Int) (w : World) (hs : RdP w sv l) (hx : RecV w v x) (hl : l.length ≤ 6) (hk : 0 ≤ x.step ∧ x.step < l.length) : Cv 69 #[.agg (rowA 10 (sgF sv g)), v, .int .i64 lim] w (.eq (.agg (rowA 10 (sgF sv (lapG l lim g x.back x.step))))) := by
  obtain ⟨su, dv, rfl, hsx, hdx⟩ := hx
  have HX : Hid (RecV w (.agg (rowA 109 (recF x su dv))) x) := Lib.hid ⟨su, dv, rfl, hsx, hdx⟩
  have HSX := Lib.hid hsx
  have HD := Lib.hid hdx
  clear hsx hdx
  unfold Cv
  have HS := Lib.hid hs
  have HK6 : Hid (0 ≤ x.step ∧ x.step < 6) := Lib.hid (by omega)
  obtain ⟨k, hkx⟩ : ∃ k : Nat, (k : Int) = x.step := ⟨x.step.toNat, by omega⟩
  have HKX := Lib.hid hkx
  obtain ⟨d, HDD⟩ := hid_ex (l.getD k (0, 0))
  have HKL : Hid (k < l.length) := Lib.hid (by omega)
  clear hs hk hl hkx
  go_enter Tryd.func69, Tryd.ntmps69
  go_upto_region 1 with fail
  have r_g1 := ((rowIs_box w 59 10 (sgF sv g)).alloc (.cells (rowA 109 (recF x su dv)) 32)).alloc (.cells (rowA 10 (sgF (.slice none 0 0) zG)) 59)
  have r_g2 := (rowIs_box (w.alloc (.cells (rowA 10 (sgF sv g)) 59)) 32 109 (recF x su dv)).alloc (.cells (rowA 10 (sgF (.slice none 0 0) zG)) 59)
  rw [World.size_alloc] at r_g2
  have r_g3 := rowIs_box ((w.alloc (.cells (rowA 10 (sgF sv g)) 59)).alloc (.cells (rowA 109 (recF x su dv)) 32)) 59 10 (sgF (.slice none 0 0) zG)
  rw [World.size_alloc, World.size_alloc] at r_g3
  have hN : NewT w (((w.alloc (.cells (rowA 10 (sgF sv g)) 59)).alloc (.cells (rowA 109 (recF x su dv)) 32)).alloc (.cells (rowA 10 (sgF (.slice none 0 0) zG)) 59)) := (NewT.trans _ _ _ ((NewT.trans _ _ _ (NewT.alloc _ _) (NewT.alloc _ _))) (NewT.alloc _ _))
  change Code.wp _ _ _ _ (((w.alloc (.cells (rowA 10 (sgF sv g)) 59)).alloc (.cells (rowA 109 (recF x su dv)) 32)).alloc (.cells (rowA 10 (sgF (.slice none 0 0) zG)) 59))
  generalize (((w.alloc (.cells (rowA 10 (sgF sv g)) 59)).alloc (.cells (rowA 109 (recF x su dv)) 32)).alloc (.cells (rowA 10 (sgF (.slice none 0 0) zG)) 59)) = W0 at r_g1 r_g2 r_g3 hN ⊢
  obtain ⟨g1, h_g1⟩ : ∃ g_, w.heap.size = g_ := ⟨_, rfl⟩
  obtain ⟨g2, h_g2⟩ : ∃ g_, w.heap.size + 1 = g_ := ⟨_, rfl⟩
  obtain ⟨g3, h_g3⟩ : ∃ g_, w.heap.size + 1 + 1 = g_ := ⟨_, rfl⟩
  have HG : Hid (w.heap.size ≤ g1 ∧ g1 < g2 ∧ g2 < g3) := Lib.hid (by omega)
  rw [h_g1] at r_g1
  rw [h_g2] at r_g2
  rw [h_g3] at r_g3
  try rw [h_g3]
  try rw [h_g2]
  simp only [h_g1]
  have Rg1 := Lib.hid r_g1
  have Rg2 := Lib.hid r_g2
  have Rg3 := Lib.hid r_g3
  have HM := Lib.hid hN
  clear r_g1 r_g2 r_g3 hN h_g1 h_g2 h_g3
  go_upto_region 1 with fail
  refine wp_region_steps0 NewT [SV.eq (.pointer (some ⟨g2, 5, none⟩)), SV.eq (.bool (x.back))] [([(4, none)], none), ([(7, some 0)], none)] 34 2 rfl rfl (by kernel_rfl) NewT.trans (NewT.refl _) (Nat.le_of_ble_eq_true rfl) ⟨?_, ?_, trivial⟩ ?_
  · exact fun a wx hT hF K hK => rely_wp rfl (opr_fldR (by decide) rfl hF.1 (hK _ _ (NewT.refl _) rfl))
  · exact fun a wx hT hF K hK => rely_wp rfl (opr_ldQ (hT.row Rg2.out) (by decide) rfl rfl hF.1 (hK _ _ (NewT.refl _) rfl))
  · intro w1 k1
    iterate 2 (intro u h; obtain rfl := Eq.symm (h (by simp)); clear h)
    refine relyEnd_nil rfl ?_
    refine wpList_end rfl ?_
    simp only [Act.put, List.setIfInBounds_toArray, List.set_cons_zero, List.set_cons_succ]
    go_simp
    replace Rg1 := Lib.hid (k1.row Rg1.out)
    replace Rg2 := Lib.hid (k1.row Rg2.out)
    replace Rg3 := Lib.hid (k1.row Rg3.out)
    replace HM := Lib.hid (NewT.trans _ _ _ HM.out k1)
    clear k1
    cases hb : x.back
    · skip
      go_upto_region 3 with fail
      refine wp_region_rely (NewT) [SV.eq (.pointer (some ⟨g1, 8, none⟩)), SV.eq (.int .i64 (g.so)), SV.eq (.pointer (some ⟨g2, 3, none⟩)), SV.eq (.int .i64 (x.step)), SV.eq (.int .i64 (bitI x.step)), SV.eq (.int .i64 (orI g.so (bitI x.step))), SV.eq (.pointer (some ⟨g1, 8, none⟩))] [([(3, none)], none), ([(10, some 0)], none), ([(4, none)], none), ([(12, some 2)], none), ([(13, some 3)], none), ([(11, some 1), (14, some 4)], none), ([(3, none)], none)] 34 rfl (by kernel_rfl) rfl (by kernel_rfl) (by kernel_rfl) rfl NewT.trans (NewT.drew _) (Nat.le_of_ble_eq_true rfl) ⟨?_, ?_, ?_, ?_, ?_, ?_, ?_, trivial⟩ ?_
      · exact fun a wx hT hF K hK => rely_wp rfl (opr_fldU8 rfl hF.1 (hK _ _ (NewT.refl _) rfl))
      · exact fun a wx hT hF K hK => rely_wp rfl (opr_ldI (hT.row Rg1.out) (by decide) rfl rfl hF.1 (hK _ _ (NewT.refl _) rfl))
      · exact fun a wx hT hF K hK => rely_wp rfl (opr_fldR (by decide) rfl hF.1 (hK _ _ (NewT.refl _) rfl))
      · exact fun a wx hT hF K hK => rely_wp rfl (opr_ldI (hT.row Rg2.out) (by decide) rfl rfl hF.1 (hK _ _ (NewT.refl _) rfl))
      · exact fun a wx hT hF K hK => rely_wp rfl (opr_cv (gBit_cv x.step wx (HK6.out)) rfl Tryd.func80 (by kernel_rfl) (by kernel_rfl) (evs1 hF.1) hK)
      · exact fun a wx hT hF K hK => rely_wp rfl (opr_orI rfl hF.1 hF.2.1 (hK _ _ (NewT.refl _) rfl))
      · exact fun a wx hT hF K hK => rely_wp rfl (opr_fldU8 rfl hF.1 (hK _ _ (NewT.refl _) rfl))
      · intro w2 k2
        iterate 7 (intro u h; obtain rfl := Eq.symm (h (by simp)); clear h)
        refine relyEnd_nil rfl ?_
        simp only [Act.put, List.setIfInBounds_toArray, List.set_cons_zero, List.set_cons_succ]
        refine opr_put1 (g := g1) (o0 := 8) (v := .int .i64 (orI g.so (bitI x.step))) (F := sgF sv ({ g with so := orI g.so (bitI x.step) })) rfl rfl rfl (k2.row Rg1.out) (by decide) info_i1 rfl (fun i hi => gs_so sv g i hi _) ?_
        intro W2 hR2 rr2
        go_simp
        replace Rg1 := Lib.hid rr2
        replace Rg2 := Lib.hid (hR2.row (by have h_0 := HG.out; omega) (k2.row Rg2.out))
        replace Rg3 := Lib.hid (hR2.row (by have h_0 := HG.out; omega) (k2.row Rg3.out))
        replace HM := Lib.hid (NewT.rt (NewT.trans _ _ _ HM.out k2) hR2 (by have h_0 := HG.out; omega))
        clear k2 hR2 rr2
        go_upto_region 4 with fail
        refine wp_region_steps0 NewT [SV.eq (.pointer (some ⟨g1, 0, none⟩)), SV.eq (sv), SV.eq (.pointer (some ⟨g2, 3, none⟩)), SV.eq (.int .i64 (x.step)), svStp (d), svIp (d).2, SV.eq (.int .i64 ((d).2)), SV.eq (.bool (((d).2) == 1)), SV.eq (.bool (((d).2) == 1)), svIf (((d).2) == 1) (SV.eq (.pointer (some ⟨g1, 3, none⟩))), svIf (((d).2) == 1) (SV.eq (.int .i64 (g.tr))), svIf (((d).2) == 1) (SV.eq (.int .i64 (lim))), svIf (((d).2) == 1) (SV.eq (.bool (g.tr == lim))), SV.eq (.bool ((((d).2) == 1) && (g.tr == lim)))] [([(3, none)], none), ([(17, some 0)], none), ([(4, none)], none), ([(19, some 2)], none), ([(18, some 1), (20, some 3)], none), ([(21, some 4)], none), ([(22, some 5)], none), ([(23, some 6)], none), ([(24, some 7)], none), ([(3, none), (25, some 8)], some (25, true)), ([(26, some 9), (25, some 8)], some (25, true)), ([(2, none), (25, some 8)], some (25, true)), ([(27, some 10), (28, some 11), (25, some 8)], some (25, true)), ([(25, some 8), (29, some 12)], none)] 34 14 rfl rfl (by kernel_rfl) NewT.trans (NewT.refl _) (Nat.le_of_ble_eq_true rfl) ⟨?_, ?_, ?_, ?_, ?_, ?_, ?_, ?_, ?_, ?_, ?_, ?_, ?_, ?_, trivial⟩ ?_
        · exact fun a wx hT hF K hK => rely_wp rfl (opr_fldU0 rfl hF.1 (hK _ _ (NewT.refl _) rfl))
        · exact fun a wx hT hF K hK => rely_wp rfl (opr_ldS (hT.row Rg1.out) (by decide) rfl rfl hF.1 (hK _ _ (NewT.refl _) rfl))
        · exact fun a wx hT hF K hK => rely_wp rfl (opr_fldR (by decide) rfl hF.1 (hK _ _ (NewT.refl _) rfl))
        · exact fun a wx hT hF K hK => rely_wp rfl (opr_ldI (hT.row Rg2.out) (by decide) rfl rfl hF.1 (hK _ _ (NewT.refl _) rfl))
        · intro a wx hT hF K hK
          obtain ⟨f18, f20, _⟩ := hF
          have f18 : a.tmps.getD 18 undef = sv := f18
          have f20 : a.tmps.getD 20 undef = .int .i64 (x.step) := f20
          refine rely_wp rfl ?_
          exact opr_idxSt (k := k) (d := d) (⟨HKL.out, HDD.out⟩) (HKX.out) rfl (by rw [eval_tmp, f18]; exact ((NewT.trans _ _ _ HM.out hT).pairs HS.out)) f20 (fun v hv => hK v _ (NewT.refl _) hv)
        · exact fun a wx hT hF K hK => rely_wp rfl (opr_fldSt1 rfl hF.1 (fun u hu => hK u _ (NewT.refl _) hu))
        · exact fun a wx hT hF K hK => rely_wp rfl (opr_ldIp rfl hF.1 (hK _ _ (NewT.refl _) rfl))
        · exact fun a wx hT hF K hK => rely_wp rfl (opr_cmp (b := ((d).2) == 1) (.inl ⟨rfl, rfl⟩) Tryd.underlying3 rfl hF.1 rfl (hK _ _ (NewT.refl _) rfl))
        · exact fun a wx hT hF K hK => rely_wp rfl (opr_move (.inl rfl) (hK _ _ (NewT.refl _) hF.1))
        · exact fun a wx hT hF K hK => rely_if (rely_gt hF.2.1) (NewT.refl _) hK fun hE hK => opr_fldU3 rfl hF.1 (hK _ _ (NewT.refl _) rfl)
        · exact fun a wx hT hF K hK => rely_if (rely_gt hF.2.1) (NewT.refl _) hK fun hE hK => opr_ldI (hT.row Rg1.out) (by decide) rfl rfl (hF.1 hE) (hK _ _ (NewT.refl _) rfl)
        · exact fun a wx hT hF K hK => rely_if (rely_gt hF.2.1) (NewT.refl _) hK fun hE hK => opr_move (.inl rfl) (hK _ _ (NewT.refl _) hF.1)
        · exact fun a wx hT hF K hK => rely_if (rely_gt hF.2.2.1) (NewT.refl _) hK fun hE hK => opr_cmp (b := g.tr == lim) (.inl ⟨rfl, rfl⟩) Tryd.underlying3 rfl (hF.1 hE) (hF.2.1 hE) (hK _ _ (NewT.refl _) rfl)
        · exact fun a wx hT hF K hK => rely_wp rfl (opr_pick_b rfl hF.1 (fun hb => hK _ _ (NewT.refl _) (pk_and1 (hF.2.1 hb) hb)) (fun hb => hK _ _ (NewT.refl _) (pk_and0 hb)))
        · intro w3 k3
          iterate 4 (intro u h; obtain rfl := Eq.symm (h (by simp)); clear h)
          iterate 2 (intro _ _)
          iterate 3 (intro u h; obtain rfl := Eq.symm (h (by simp)); clear h)
          iterate 4 (intro _ _)
          intro u h; obtain rfl := Eq.symm (h (by simp)); clear h
          refine relyEnd_nil rfl ?_
          refine wpList_end rfl ?_
          simp only [Act.put, List.setIfInBounds_toArray, List.set_cons_zero, List.set_cons_succ]
          go_simp
          replace Rg1 := Lib.hid (k3.row Rg1.out)
          replace Rg2 := Lib.hid (k3.row Rg2.out)
          replace Rg3 := Lib.hid (k3.row Rg3.out)
          replace HM := Lib.hid (NewT.trans _ _ _ HM.out k3)
          clear k3
          cases hq : ((((d).2) == 1) && (g.tr == lim))
          · have HE : Hid (lapG l lim g x.back x.step = { g with so := orI g.so (bitI x.step) }) := Lib.hid (by
              unfold lapG kdL
              rw [hb, if_neg (by simp), ← HKX.out, Int.toNat_natCast, HDD.out, if_neg (fun h => by
                rw [Bool.and_eq_false_iff] at hq
                rcases hq with hq | hq
                · simp [h.1] at hq
                · simp [h.2] at hq)])
            clear hb hq
            go_upto_region 6 with fail
            refine wp_region_steps0 NewT [SV.eq (.agg (rowA 10 (sgF sv ({ g with so := orI g.so (bitI x.step) }))))] [([(3, none)], none)] 34 1 rfl rfl (by kernel_rfl) NewT.trans (NewT.refl _) (Nat.le_of_ble_eq_true rfl) ⟨?_, trivial⟩ ?_
            · exact fun a wx hT hF K hK => rely_wp rfl (opr_ldU (hT.row Rg1.out) rfl hF.1 (hK _ _ (NewT.refl _) rfl))
            · intro w4 k4
              intro u h; obtain rfl := Eq.symm (h (by simp)); clear h
              refine relyEnd_nil rfl ?_
              simp only [Act.put, List.setIfInBounds_toArray, List.set_cons_zero, List.set_cons_succ]
              refine wpList_plain rfl (fun K hK => ?_)
              refine opr_putm (g := g3) (o0 := 0) (m := 10) (f := sgF sv ({ g with so := orI g.so (bitI x.step) })) (F := sgF sv ({ g with so := orI g.so (bitI x.step) })) rfl rfl rfl (k4.row Rg3.out) (by decide) info_saga (sgF_one _ _ (oneP HS.out)) (put_allN _ _ _) ?_
              intro W4 hR4 rr4
              refine hK _ _ ?_
              clear hK K
              refine wpList_end rfl ?_
              simp only [Act.put, List.setIfInBounds_toArray, List.set_cons_zero, List.set_cons_succ]
              go_simp
              replace Rg3 := Lib.hid rr4
              replace Rg1 := Lib.hid (hR4.row (by have h_0 := HG.out; omega) (k4.row Rg1.out))
              replace Rg2 := Lib.hid (hR4.row (by have h_0 := HG.out; omega) (k4.row Rg2.out))
              replace HM := Lib.hid (NewT.rt (NewT.trans _ _ _ HM.out k4) hR4 (by have h_0 := HG.out; omega))
              clear k4 hR4 rr4
              go_wp2
              exact bodyPost_ret (results_agg rfl _ rfl Rg3.out Tryd.underlying59 rfl info_saga) rfl ⟨_, rfl, HM.out, by show _ = Value.agg _; rw [HE.out]⟩
          · have HE : Hid (lapG l lim g x.back x.step = turnG { g with so := orI g.so (bitI x.step) }) := Lib.hid (by
              unfold lapG kdL
              rw [Bool.and_eq_true] at hq
              rw [hb, if_neg (by simp), ← HKX.out, Int.toNat_natCast, HDD.out, if_pos ⟨by simpa using hq.1, by simpa using hq.2⟩])
            clear hb hq
            go_upto_region 5 with fail
            refine wp_region_steps0 NewT [SV.eq (.agg (rowA 10 (sgF sv ({ g with so := orI g.so (bitI x.step) })))), SV.eq ((.agg (rowA 10 (sgF sv (turnG ({ g with so := orI g.so (bitI x.step) }))))))] [([(3, none)], none), ([(31, some 0)], none)] 34 2 rfl rfl (by kernel_rfl) NewT.trans (NewT.refl _) (Nat.le_of_ble_eq_true rfl) ⟨?_, ?_, trivial⟩ ?_
            · exact fun a wx hT hF K hK => rely_wp rfl (opr_ldU (hT.row Rg1.out) rfl hF.1 (hK _ _ (NewT.refl _) rfl))
            · exact fun a wx hT hF K hK => rely_wp rfl (opr_cv (turned_cv sv ({ g with so := orI g.so (bitI x.step) }) wx (oneP HS.out)) rfl Tryd.func81 (by kernel_rfl) (by kernel_rfl) (evs1 hF.1) hK)
            · intro w5 k5
              iterate 2 (intro u h; obtain rfl := Eq.symm (h (by simp)); clear h)
              refine relyEnd_nil rfl ?_
              simp only [Act.put, List.setIfInBounds_toArray, List.set_cons_zero, List.set_cons_succ]
              refine wpList_plain rfl (fun K hK => ?_)
              refine opr_putm (g := g3) (o0 := 0) (m := 10) (f := sgF sv (turnG { g with so := orI g.so (bitI x.step) })) (F := sgF sv (turnG { g with so := orI g.so (bitI x.step) })) rfl rfl rfl (k5.row Rg3.out) (by decide) info_saga (sgF_one _ _ (oneP HS.out)) (put_allN _ _ _) ?_
              intro W5 hR5 rr5
              refine hK _ _ ?_
              clear hK K
              refine wpList_end rfl ?_
              simp only [Act.put, List.setIfInBounds_toArray, List.set_cons_zero, List.set_cons_succ]
              go_simp
              replace Rg3 := Lib.hid rr5
              replace Rg1 := Lib.hid (hR5.row (by have h_0 := HG.out; omega) (k5.row Rg1.out))
              replace Rg2 := Lib.hid (hR5.row (by have h_0 := HG.out; omega) (k5.row Rg2.out))
              replace HM := Lib.hid (NewT.rt (NewT.trans _ _ _ HM.out k5) hR5 (by have h_0 := HG.out; omega))
              clear k5 hR5 rr5
              go_wp2
              exact bodyPost_ret (results_agg rfl _ rfl Rg3.out Tryd.underlying59 rfl info_saga) rfl ⟨_, rfl, HM.out, by show _ = Value.agg _; rw [HE.out]⟩
    · have HE : Hid (lapG l lim g x.back x.step = g) := Lib.hid (by unfold lapG; rw [hb, if_pos rfl])
      clear hb
      go_upto_region 2 with fail
      refine wp_region_steps0 NewT [SV.eq (.agg (rowA 10 (sgF sv g)))] [([(3, none)], none)] 34 1 rfl rfl (by kernel_rfl) NewT.trans (NewT.refl _) (Nat.le_of_ble_eq_true rfl) ⟨?_, trivial⟩ ?_
      · exact fun a wx hT hF K hK => rely_wp rfl (opr_ldU (hT.row Rg1.out) rfl hF.1 (hK _ _ (NewT.refl _) rfl))
      · intro w6 k6
        intro u h; obtain rfl := Eq.symm (h (by simp)); clear h
        refine relyEnd_nil rfl ?_
        simp only [Act.put, List.setIfInBounds_toArray, List.set_cons_zero, List.set_cons_succ]
        refine wpList_plain rfl (fun K hK => ?_)
        refine opr_putm (g := g3) (o0 := 0) (m := 10) (f := sgF sv (g)) (F := sgF sv (g)) rfl rfl rfl (k6.row Rg3.out) (by decide) info_saga (sgF_one _ _ (oneP HS.out)) (put_allN _ _ _) ?_
        intro W6 hR6 rr6
        refine hK _ _ ?_
        clear hK K
        refine wpList_end rfl ?_
        simp only [Act.put, List.setIfInBounds_toArray, List.set_cons_zero, List.set_cons_succ]
        go_simp
        replace Rg3 := Lib.hid rr6
        replace Rg1 := Lib.hid (hR6.row (by have h_0 := HG.out; omega) (k6.row Rg1.out))
        replace Rg2 := Lib.hid (hR6.row (by have h_0 := HG.out; omega) (k6.row Rg2.out))
        replace HM := Lib.hid (NewT.rt (NewT.trans _ _ _ HM.out k6) hR6 (by have h_0 := HG.out; omega))
        clear k6 hR6 rr6
        go_wp2
        exact bodyPost_ret (results_agg rfl _ rfl Rg3.out Tryd.underlying59 rfl info_saga) rfl ⟨_, rfl, HM.out, by show _ = Value.agg _; rw [HE.out]⟩
end Go.Proofs.YtilmeffmdgcblaaDoor
/- Package saga: the saga behind a record that goes. -/
namespace Go.Proofs.YtilmeffmdgcblaaDoor
open Go Go.RowKit
set_option maxRecDepth 8000
set_option linter.all false
set_option maxHeartbeats 4000000 in
theorem behind_cv (sv : Value) (l : List (Int × Int)) (g : Sg) (x : Rc) (v : Value) (lim : Int) (w : World) (hs : RdP w sv l) (hx : RecV w v x) (hl : l.length ≤ 6) (hst : 0 ≤ x.step ∧ x.step < l.length) (hkd : x.kind = 2 ∨ x.kind = 5 ∨ x.kind = 3 ∨ x.kind = 4) (ha : 0 ≤ g.at_ ∧ g.at_ ≤ 6) (hq : 0 ≤ g.sq ∧ g.sq ≤ 1000000) : Cv 60 #[.agg (rowA 10 (sgF sv g)), v, .int .i64 lim] w (.eq (.agg (rowA 10 (sgF sv (behG l lim g x))))) := by
  obtain ⟨su, dv, rfl, hsx, hdx⟩ := hx
  have HX : Hid (RecV w (.agg (rowA 109 (recF x su dv))) x) := Lib.hid ⟨su, dv, rfl, hsx, hdx⟩
  have HSX := Lib.hid hsx
  have HD := Lib.hid hdx
  clear hsx hdx
  unfold Cv
  have HS := Lib.hid hs
  have HK6 : Hid (0 ≤ x.step ∧ x.step < 6) := Lib.hid (by omega)
  have HL6 := Lib.hid hl
  have HST := Lib.hid hst
  have HKD := Lib.hid hkd
  have HAT := Lib.hid ha
  have HSQ := Lib.hid hq
  clear hs hl hst hkd ha hq
  go_enter Tryd.func60, Tryd.ntmps60
  go_upto_region 1 with fail
  have r_g1 := ((rowIs_box w 59 10 (sgF sv g)).alloc (.cells (rowA 109 (recF x su dv)) 32)).alloc (.cells (rowA 10 (sgF (.slice none 0 0) zG)) 59)
  have r_g2 := (rowIs_box (w.alloc (.cells (rowA 10 (sgF sv g)) 59)) 32 109 (recF x su dv)).alloc (.cells (rowA 10 (sgF (.slice none 0 0) zG)) 59)
  rw [World.size_alloc] at r_g2
  have r_g3 := rowIs_box ((w.alloc (.cells (rowA 10 (sgF sv g)) 59)).alloc (.cells (rowA 109 (recF x su dv)) 32)) 59 10 (sgF (.slice none 0 0) zG)
  rw [World.size_alloc, World.size_alloc] at r_g3
  have hN : NewT w (((w.alloc (.cells (rowA 10 (sgF sv g)) 59)).alloc (.cells (rowA 109 (recF x su dv)) 32)).alloc (.cells (rowA 10 (sgF (.slice none 0 0) zG)) 59)) := (NewT.trans _ _ _ ((NewT.trans _ _ _ (NewT.alloc _ _) (NewT.alloc _ _))) (NewT.alloc _ _))
  change Code.wp _ _ _ _ (((w.alloc (.cells (rowA 10 (sgF sv g)) 59)).alloc (.cells (rowA 109 (recF x su dv)) 32)).alloc (.cells (rowA 10 (sgF (.slice none 0 0) zG)) 59))
  generalize (((w.alloc (.cells (rowA 10 (sgF sv g)) 59)).alloc (.cells (rowA 109 (recF x su dv)) 32)).alloc (.cells (rowA 10 (sgF (.slice none 0 0) zG)) 59)) = W0 at r_g1 r_g2 r_g3 hN ⊢
  obtain ⟨g1, h_g1⟩ : ∃ g_, w.heap.size = g_ := ⟨_, rfl⟩
  obtain ⟨g2, h_g2⟩ : ∃ g_, w.heap.size + 1 = g_ := ⟨_, rfl⟩
  obtain ⟨g3, h_g3⟩ : ∃ g_, w.heap.size + 1 + 1 = g_ := ⟨_, rfl⟩
  have HG : Hid (w.heap.size ≤ g1 ∧ g1 < g2 ∧ g2 < g3) := Lib.hid (by omega)
  rw [h_g1] at r_g1
  rw [h_g2] at r_g2
  rw [h_g3] at r_g3
  try rw [h_g3]
  try rw [h_g2]
  simp only [h_g1]
  have Rg1 := Lib.hid r_g1
  have Rg2 := Lib.hid r_g2
  have Rg3 := Lib.hid r_g3
  have HM := Lib.hid hN
  clear r_g1 r_g2 r_g3 hN h_g1 h_g2 h_g3
  go_upto_region 1 with fail
  refine wp_region_steps0 NewT [SV.eq (.pointer (some ⟨g1, 9, none⟩)), SV.eq (.int .i64 (g.sq)), SV.eq (.int .i64 (g.sq + 1)), SV.eq (.pointer (some ⟨g1, 9, none⟩))] [([(3, none)], none), ([(7, some 0)], none), ([(8, some 1)], none), ([(3, none)], none)] 55 4 rfl rfl (by kernel_rfl) NewT.trans (NewT.refl _) (Nat.le_of_ble_eq_true rfl) ⟨?_, ?_, ?_, ?_, trivial⟩ ?_
  · exact fun a wx hT hF K hK => rely_wp rfl (opr_fldU9 rfl hF.1 (hK _ _ (NewT.refl _) rfl))
  · exact fun a wx hT hF K hK => rely_wp rfl (opr_ldI (hT.row Rg1.out) (by decide) rfl rfl hF.1 (hK _ _ (NewT.refl _) rfl))
  · exact fun a wx hT hF K hK => rely_wp rfl (opr_add (r := g.sq + 1) Tryd.underlying3 (by have := HSQ.out; unfold wrap64; omega) rfl hF.1 rfl (hK _ _ (NewT.refl _) rfl))
  · exact fun a wx hT hF K hK => rely_wp rfl (opr_fldU9 rfl hF.1 (hK _ _ (NewT.refl _) rfl))
  · intro w1 k1
    iterate 4 (intro u h; obtain rfl := Eq.symm (h (by simp)); clear h)
    refine relyEnd_nil rfl ?_
    simp only [Act.put, List.setIfInBounds_toArray, List.set_cons_zero, List.set_cons_succ]
    refine wpList_plain rfl (fun K hK => ?_)
    refine opr_put1 (g := g1) (o0 := 9) (v := .int .i64 (g.sq + 1)) (F := sgF sv ({ g with sq := g.sq + 1 })) rfl rfl rfl (k1.row Rg1.out) (by decide) info_i1 rfl (fun i hi => gs_sq sv g i hi _) ?_
    intro W1 hR1 rr1
    refine hK _ _ ?_
    clear hK K
    refine wpList_end rfl ?_
    simp only [Act.put, List.setIfInBounds_toArray, List.set_cons_zero, List.set_cons_succ]
    go_simp
    replace Rg1 := Lib.hid rr1
    replace Rg2 := Lib.hid (hR1.row (by have h_0 := HG.out; omega) (k1.row Rg2.out))
    replace Rg3 := Lib.hid (hR1.row (by have h_0 := HG.out; omega) (k1.row Rg3.out))
    replace HM := Lib.hid (NewT.rt (NewT.trans _ _ _ HM.out k1) hR1 (by have h_0 := HG.out; omega))
    clear k1 hR1 rr1
    go_upto_region 2 with fail
    refine wp_region_steps0 NewT [SV.eq (.pointer (some ⟨g2, 0, none⟩)), SV.eq (.int .i64 (x.kind)), SV.eq (.bool (x.kind == 2)), SV.eq (.pointer (some ⟨g1, 4, none⟩))] [([(4, none)], none), ([(11, some 0)], none), ([(12, some 1)], none), ([(3, none)], none)] 55 4 rfl rfl (by kernel_rfl) NewT.trans (NewT.refl _) (Nat.le_of_ble_eq_true rfl) ⟨?_, ?_, ?_, ?_, trivial⟩ ?_
    · exact fun a wx hT hF K hK => rely_wp rfl (opr_fldR (by decide) rfl hF.1 (hK _ _ (NewT.refl _) rfl))
    · exact fun a wx hT hF K hK => rely_wp rfl (opr_ldI (hT.row Rg2.out) (by decide) rfl rfl hF.1 (hK _ _ (NewT.refl _) rfl))
    · exact fun a wx hT hF K hK => rely_wp rfl (opr_cmp (b := x.kind == 2) (.inl ⟨rfl, rfl⟩) Tryd.underlying3 rfl hF.1 rfl (hK _ _ (NewT.refl _) rfl))
    · exact fun a wx hT hF K hK => rely_wp rfl (opr_fldU4 rfl hF.1 (hK _ _ (NewT.refl _) rfl))
    · intro w2 k2
      iterate 4 (intro u h; obtain rfl := Eq.symm (h (by simp)); clear h)
      refine relyEnd_nil rfl ?_
      simp only [Act.put, List.setIfInBounds_toArray, List.set_cons_zero, List.set_cons_succ]
      refine wpList_plain rfl (fun K hK => ?_)
      refine opr_put1 (g := g1) (o0 := 4) (v := .bool (x.kind == 2)) (F := sgF sv ({ g with sq := g.sq + 1, wt := x.kind == 2 })) rfl rfl rfl (k2.row Rg1.out) (by decide) info_b1 rfl (fun i hi => gs_wt sv { g with sq := g.sq + 1 } i hi _) ?_
      intro W2 hR2 rr2
      refine hK _ _ ?_
      clear hK K
      refine wpList_end rfl ?_
      simp only [Act.put, List.setIfInBounds_toArray, List.set_cons_zero, List.set_cons_succ]
      go_simp
      replace Rg1 := Lib.hid rr2
      replace Rg2 := Lib.hid (hR2.row (by have h_0 := HG.out; omega) (k2.row Rg2.out))
      replace Rg3 := Lib.hid (hR2.row (by have h_0 := HG.out; omega) (k2.row Rg3.out))
      replace HM := Lib.hid (NewT.rt (NewT.trans _ _ _ HM.out k2) hR2 (by have h_0 := HG.out; omega))
      clear k2 hR2 rr2
      go_upto_region 3 with fail
      refine wp_region_steps0 NewT [SV.eq (.pointer (some ⟨g1, 4, none⟩)), SV.eq (.bool (x.kind == 2)), SV.eq (.bool (x.kind == 2)), svIf (x.kind == 2) (SV.eq (.pointer (some ⟨g2, 5, none⟩))), svIf (x.kind == 2) (SV.eq (.bool (x.back))), SV.eq (.bool ((x.kind == 2) && x.back)), SV.eq (.pointer (some ⟨g1, 5, none⟩))] [([(3, none)], none), ([(15, some 0)], none), ([(16, some 1)], none), ([(4, none), (17, some 2)], some (17, true)), ([(18, some 3), (17, some 2)], some (17, true)), ([(17, some 2), (19, some 4)], none), ([(3, none)], none)] 55 7 rfl rfl (by kernel_rfl) NewT.trans (NewT.refl _) (Nat.le_of_ble_eq_true rfl) ⟨?_, ?_, ?_, ?_, ?_, ?_, ?_, trivial⟩ ?_
      · exact fun a wx hT hF K hK => rely_wp rfl (opr_fldU4 rfl hF.1 (hK _ _ (NewT.refl _) rfl))
      · exact fun a wx hT hF K hK => rely_wp rfl (opr_ldQ (hT.row Rg1.out) (by decide) rfl rfl hF.1 (hK _ _ (NewT.refl _) rfl))
      · exact fun a wx hT hF K hK => rely_wp rfl (opr_move (.inl rfl) (hK _ _ (NewT.refl _) hF.1))
      · exact fun a wx hT hF K hK => rely_if (rely_gt hF.2.1) (NewT.refl _) hK fun hE hK => opr_fldR (by decide) rfl hF.1 (hK _ _ (NewT.refl _) rfl)
      · exact fun a wx hT hF K hK => rely_if (rely_gt hF.2.1) (NewT.refl _) hK fun hE hK => opr_ldQ (hT.row Rg2.out) (by decide) rfl rfl (hF.1 hE) (hK _ _ (NewT.refl _) rfl)
      · exact fun a wx hT hF K hK => rely_wp rfl (opr_pick_b rfl hF.1 (fun hb => hK _ _ (NewT.refl _) (pk_and1 (hF.2.1 hb) hb)) (fun hb => hK _ _ (NewT.refl _) (pk_and0 hb)))
      · exact fun a wx hT hF K hK => rely_wp rfl (opr_fldU5 rfl hF.1 (hK _ _ (NewT.refl _) rfl))
      · intro w3 k3
        iterate 3 (intro u h; obtain rfl := Eq.symm (h (by simp)); clear h)
        iterate 2 (intro _ _)
        iterate 2 (intro u h; obtain rfl := Eq.symm (h (by simp)); clear h)
        refine relyEnd_nil rfl ?_
        simp only [Act.put, List.setIfInBounds_toArray, List.set_cons_zero, List.set_cons_succ]
        refine wpList_plain rfl (fun K hK => ?_)
        refine opr_put1 (g := g1) (o0 := 5) (v := .bool (x.kind == 2 && x.back)) (F := sgF sv ({ g with sq := g.sq + 1, wt := x.kind == 2, bk := x.kind == 2 && x.back })) rfl rfl rfl (k3.row Rg1.out) (by decide) info_b1 rfl (fun i hi => gs_bk sv { g with sq := g.sq + 1, wt := x.kind == 2 } i hi _) ?_
        intro W3 hR3 rr3
        refine hK _ _ ?_
        clear hK K
        refine wpList_end rfl ?_
        simp only [Act.put, List.setIfInBounds_toArray, List.set_cons_zero, List.set_cons_succ]
        go_simp
        replace Rg1 := Lib.hid rr3
        replace Rg2 := Lib.hid (hR3.row (by have h_0 := HG.out; omega) (k3.row Rg2.out))
        replace Rg3 := Lib.hid (hR3.row (by have h_0 := HG.out; omega) (k3.row Rg3.out))
        replace HM := Lib.hid (NewT.rt (NewT.trans _ _ _ HM.out k3) hR3 (by have h_0 := HG.out; omega))
        clear k3 hR3 rr3
        obtain ⟨g0, hg0⟩ := hid_ex (begG g x)
        replace Rg1 : Hid (W3.rowIs g1 59 10 (sgF sv g0)) := Lib.hid (by rw [← hg0.out]; exact Rg1.out)
        have HE0 : Hid (behG l lim g x = if x.kind = 2 then { g0 with tr := x.tr } else if x.kind = 5 then { g0 with ph := x.nd } else if x.kind = 3 then (if x.good = true then wellG g0 x.back x.step else if x.back = false then refG l g0 x.step else lapG l lim g0 x.back x.step) else if x.kind = 4 then lapG l lim g0 x.back x.step else g0) := Lib.hid (by rw [← hg0.out]; rfl)
        replace HAT : Hid (0 ≤ g0.at_ ∧ g0.at_ ≤ 6) := Lib.hid (by rw [← hg0.out]; exact HAT.out)
        clear hg0
        have c0 : W3.cell? ⟨g2, 0, none⟩ = some (.int .i64 x.kind) := Rg2.out.cell (i := 0) (by omega)
        by_cases hk : x.kind = 2
        · have HE : Hid (behG l lim g x = { g0 with tr := x.tr }) := Lib.hid (by rw [HE0.out, if_pos hk])
          rw [hk] at c0
          clear hk
          go_upto_region 9 with fail
          clear c0
          refine wp_region_steps0 NewT [SV.eq (.pointer (some ⟨g2, 4, none⟩)), SV.eq (.int .i64 (x.tr)), SV.eq (.pointer (some ⟨g1, 3, none⟩))] [([(4, none)], none), ([(32, some 0)], none), ([(3, none)], none)] 55 3 rfl rfl (by kernel_rfl) NewT.trans (NewT.refl _) (Nat.le_of_ble_eq_true rfl) ⟨?_, ?_, ?_, trivial⟩ ?_
          · exact fun a wx hT hF K hK => rely_wp rfl (opr_fldR (by decide) rfl hF.1 (hK _ _ (NewT.refl _) rfl))
          · exact fun a wx hT hF K hK => rely_wp rfl (opr_ldI (hT.row Rg2.out) (by decide) rfl rfl hF.1 (hK _ _ (NewT.refl _) rfl))
          · exact fun a wx hT hF K hK => rely_wp rfl (opr_fldU3 rfl hF.1 (hK _ _ (NewT.refl _) rfl))
          · intro w4 k4
            iterate 3 (intro u h; obtain rfl := Eq.symm (h (by simp)); clear h)
            refine relyEnd_nil rfl ?_
            simp only [Act.put, List.setIfInBounds_toArray, List.set_cons_zero, List.set_cons_succ]
            refine wpList_plain rfl (fun K hK => ?_)
            refine opr_put1 (g := g1) (o0 := 3) (v := .int .i64 x.tr) (F := sgF sv ({ g0 with tr := x.tr })) rfl rfl rfl (k4.row Rg1.out) (by decide) info_i1 rfl (fun i hi => gs_tr sv g0 i hi _) ?_
            intro W4 hR4 rr4
            refine hK _ _ ?_
            clear hK K
            refine wpList_end rfl ?_
            simp only [Act.put, List.setIfInBounds_toArray, List.set_cons_zero, List.set_cons_succ]
            go_simp
            replace Rg1 := Lib.hid rr4
            replace Rg2 := Lib.hid (hR4.row (by have h_0 := HG.out; omega) (k4.row Rg2.out))
            replace Rg3 := Lib.hid (hR4.row (by have h_0 := HG.out; omega) (k4.row Rg3.out))
            replace HM := Lib.hid (NewT.rt (NewT.trans _ _ _ HM.out k4) hR4 (by have h_0 := HG.out; omega))
            clear k4 hR4 rr4
            go_upto_region 16 with fail
            refine wp_region_steps0 NewT [SV.eq (.agg (rowA 10 (sgF sv ({ g0 with tr := x.tr }))))] [([(3, none)], none)] 55 1 rfl rfl (by kernel_rfl) NewT.trans (NewT.refl _) (Nat.le_of_ble_eq_true rfl) ⟨?_, trivial⟩ ?_
            · exact fun a wx hT hF K hK => rely_wp rfl (opr_ldU (hT.row Rg1.out) rfl hF.1 (hK _ _ (NewT.refl _) rfl))
            · intro w5 k5
              intro u h; obtain rfl := Eq.symm (h (by simp)); clear h
              refine relyEnd_nil rfl ?_
              simp only [Act.put, List.setIfInBounds_toArray, List.set_cons_zero, List.set_cons_succ]
              refine wpList_plain rfl (fun K hK => ?_)
              refine opr_putm (g := g3) (o0 := 0) (m := 10) (f := sgF sv ({ g0 with tr := x.tr })) (F := sgF sv ({ g0 with tr := x.tr })) rfl rfl rfl (k5.row Rg3.out) (by decide) info_saga (sgF_one _ _ (oneP HS.out)) (put_allN _ _ _) ?_
              intro W5 hR5 rr5
              refine hK _ _ ?_
              clear hK K
              refine wpList_end rfl ?_
              simp only [Act.put, List.setIfInBounds_toArray, List.set_cons_zero, List.set_cons_succ]
              go_simp
              replace Rg3 := Lib.hid rr5
              replace Rg1 := Lib.hid (hR5.row (by have h_0 := HG.out; omega) (k5.row Rg1.out))
              replace Rg2 := Lib.hid (hR5.row (by have h_0 := HG.out; omega) (k5.row Rg2.out))
              replace HM := Lib.hid (NewT.rt (NewT.trans _ _ _ HM.out k5) hR5 (by have h_0 := HG.out; omega))
              clear k5 hR5 rr5
              go_wp2
              exact bodyPost_ret (results_agg rfl _ rfl Rg3.out Tryd.underlying59 rfl info_saga) rfl ⟨_, rfl, HM.out, by show _ = Value.agg _; rw [HE.out]⟩
        have k2 := hk
        clear hk
        by_cases hk : x.kind = 5
        · have HE : Hid (behG l lim g x = { g0 with ph := x.nd }) := Lib.hid (by rw [HE0.out, if_neg k2, if_pos hk])
          rw [hk] at c0
          clear hk k2
          go_upto_region 10 with fail
          clear c0
          refine wp_region_steps0 NewT [SV.eq (.pointer (some ⟨g2, 7, none⟩)), SV.eq (.int .i64 (x.nd)), SV.eq (.pointer (some ⟨g1, 1, none⟩))] [([(4, none)], none), ([(35, some 0)], none), ([(3, none)], none)] 55 3 rfl rfl (by kernel_rfl) NewT.trans (NewT.refl _) (Nat.le_of_ble_eq_true rfl) ⟨?_, ?_, ?_, trivial⟩ ?_
          · exact fun a wx hT hF K hK => rely_wp rfl (opr_fldR (by decide) rfl hF.1 (hK _ _ (NewT.refl _) rfl))
          · exact fun a wx hT hF K hK => rely_wp rfl (opr_ldI (hT.row Rg2.out) (by decide) rfl rfl hF.1 (hK _ _ (NewT.refl _) rfl))
          · exact fun a wx hT hF K hK => rely_wp rfl (opr_fldU1 rfl hF.1 (hK _ _ (NewT.refl _) rfl))
          · intro w6 k6
            iterate 3 (intro u h; obtain rfl := Eq.symm (h (by simp)); clear h)
            refine relyEnd_nil rfl ?_
            simp only [Act.put, List.setIfInBounds_toArray, List.set_cons_zero, List.set_cons_succ]
            refine wpList_plain rfl (fun K hK => ?_)
            refine opr_put1 (g := g1) (o0 := 1) (v := .int .i64 x.nd) (F := sgF sv ({ g0 with ph := x.nd })) rfl rfl rfl (k6.row Rg1.out) (by decide) info_i1 rfl (fun i hi => gs_ph sv g0 i hi _) ?_
            intro W6 hR6 rr6
            refine hK _ _ ?_
            clear hK K
            refine wpList_end rfl ?_
            simp only [Act.put, List.setIfInBounds_toArray, List.set_cons_zero, List.set_cons_succ]
            go_simp
            replace Rg1 := Lib.hid rr6
            replace Rg2 := Lib.hid (hR6.row (by have h_0 := HG.out; omega) (k6.row Rg2.out))
            replace Rg3 := Lib.hid (hR6.row (by have h_0 := HG.out; omega) (k6.row Rg3.out))
            replace HM := Lib.hid (NewT.rt (NewT.trans _ _ _ HM.out k6) hR6 (by have h_0 := HG.out; omega))
            clear k6 hR6 rr6
            go_upto_region 16 with fail
            refine wp_region_steps0 NewT [SV.eq (.agg (rowA 10 (sgF sv ({ g0 with ph := x.nd }))))] [([(3, none)], none)] 55 1 rfl rfl (by kernel_rfl) NewT.trans (NewT.refl _) (Nat.le_of_ble_eq_true rfl) ⟨?_, trivial⟩ ?_
            · exact fun a wx hT hF K hK => rely_wp rfl (opr_ldU (hT.row Rg1.out) rfl hF.1 (hK _ _ (NewT.refl _) rfl))
            · intro w7 k7
              intro u h; obtain rfl := Eq.symm (h (by simp)); clear h
              refine relyEnd_nil rfl ?_
              simp only [Act.put, List.setIfInBounds_toArray, List.set_cons_zero, List.set_cons_succ]
              refine wpList_plain rfl (fun K hK => ?_)
              refine opr_putm (g := g3) (o0 := 0) (m := 10) (f := sgF sv ({ g0 with ph := x.nd })) (F := sgF sv ({ g0 with ph := x.nd })) rfl rfl rfl (k7.row Rg3.out) (by decide) info_saga (sgF_one _ _ (oneP HS.out)) (put_allN _ _ _) ?_
              intro W7 hR7 rr7
              refine hK _ _ ?_
              clear hK K
              refine wpList_end rfl ?_
              simp only [Act.put, List.setIfInBounds_toArray, List.set_cons_zero, List.set_cons_succ]
              go_simp
              replace Rg3 := Lib.hid rr7
              replace Rg1 := Lib.hid (hR7.row (by have h_0 := HG.out; omega) (k7.row Rg1.out))
              replace Rg2 := Lib.hid (hR7.row (by have h_0 := HG.out; omega) (k7.row Rg2.out))
              replace HM := Lib.hid (NewT.rt (NewT.trans _ _ _ HM.out k7) hR7 (by have h_0 := HG.out; omega))
              clear k7 hR7 rr7
              go_wp2
              exact bodyPost_ret (results_agg rfl _ rfl Rg3.out Tryd.underlying59 rfl info_saga) rfl ⟨_, rfl, HM.out, by show _ = Value.agg _; rw [HE.out]⟩
        have k5 := hk
        clear hk
        by_cases hk : x.kind = 3
        · have HE1 : Hid (behG l lim g x = if x.good = true then wellG g0 x.back x.step else if x.back = false then refG l g0 x.step else lapG l lim g0 x.back x.step) := Lib.hid (by rw [HE0.out, if_neg k2, if_neg k5, if_pos hk])
          rw [hk] at c0
          clear hk k2 k5
          go_upto_region 11 with fail
          clear c0
          refine wp_region_steps0 NewT [SV.eq (.pointer (some ⟨g2, 6, none⟩)), SV.eq (.bool (x.good))] [([(4, none)], none), ([(38, some 0)], none)] 55 2 rfl rfl (by kernel_rfl) NewT.trans (NewT.refl _) (Nat.le_of_ble_eq_true rfl) ⟨?_, ?_, trivial⟩ ?_
          · exact fun a wx hT hF K hK => rely_wp rfl (opr_fldR (by decide) rfl hF.1 (hK _ _ (NewT.refl _) rfl))
          · exact fun a wx hT hF K hK => rely_wp rfl (opr_ldQ (hT.row Rg2.out) (by decide) rfl rfl hF.1 (hK _ _ (NewT.refl _) rfl))
          · intro w8 k8
            iterate 2 (intro u h; obtain rfl := Eq.symm (h (by simp)); clear h)
            refine relyEnd_nil rfl ?_
            refine wpList_end rfl ?_
            simp only [Act.put, List.setIfInBounds_toArray, List.set_cons_zero, List.set_cons_succ]
            go_simp
            replace Rg1 := Lib.hid (k8.row Rg1.out)
            replace Rg2 := Lib.hid (k8.row Rg2.out)
            replace Rg3 := Lib.hid (k8.row Rg3.out)
            replace HM := Lib.hid (NewT.trans _ _ _ HM.out k8)
            clear k8
            cases hb : x.good
            · skip
              go_upto_region 13 with fail
              refine wp_region_steps0 NewT [SV.eq (.pointer (some ⟨g2, 5, none⟩)), SV.eq (.bool (x.back)), SV.eq (.bool (!x.back))] [([(4, none)], none), ([(43, some 0)], none), ([(44, some 1)], none)] 55 3 rfl rfl (by kernel_rfl) NewT.trans (NewT.refl _) (Nat.le_of_ble_eq_true rfl) ⟨?_, ?_, ?_, trivial⟩ ?_
              · exact fun a wx hT hF K hK => rely_wp rfl (opr_fldR (by decide) rfl hF.1 (hK _ _ (NewT.refl _) rfl))
              · exact fun a wx hT hF K hK => rely_wp rfl (opr_ldQ (hT.row Rg2.out) (by decide) rfl rfl hF.1 (hK _ _ (NewT.refl _) rfl))
              · exact fun a wx hT hF K hK => rely_wp rfl (opr_not rfl hF.1 (hK _ _ (NewT.refl _) rfl))
              · intro w9 k9
                iterate 3 (intro u h; obtain rfl := Eq.symm (h (by simp)); clear h)
                refine relyEnd_nil rfl ?_
                refine wpList_end rfl ?_
                simp only [Act.put, List.setIfInBounds_toArray, List.set_cons_zero, List.set_cons_succ]
                go_simp
                replace Rg1 := Lib.hid (k9.row Rg1.out)
                replace Rg2 := Lib.hid (k9.row Rg2.out)
                replace Rg3 := Lib.hid (k9.row Rg3.out)
                replace HM := Lib.hid (NewT.trans _ _ _ HM.out k9)
                clear k9
                cases hq : x.back
                · have HE : Hid (behG l lim g x = refG l g0 x.step) := Lib.hid (by rw [HE1.out, hb, hq, if_neg (by simp), if_pos rfl])
                  clear hb hq
                  go_upto_region 14 with fail
                  refine wp_region_steps0 NewT [SV.eq (.agg (rowA 10 (sgF sv g0))), SV.eq (.pointer (some ⟨g2, 3, none⟩)), SV.eq (.int .i64 (x.step)), SV.eq ((.agg (rowA 10 (sgF sv (refG l g0 x.step)))))] [([(3, none)], none), ([(4, none)], none), ([(47, some 1)], none), ([(46, some 0), (48, some 2)], none)] 55 4 rfl rfl (by kernel_rfl) NewT.trans (NewT.refl _) (Nat.le_of_ble_eq_true rfl) ⟨?_, ?_, ?_, ?_, trivial⟩ ?_
                  · exact fun a wx hT hF K hK => rely_wp rfl (opr_ldU (hT.row Rg1.out) rfl hF.1 (hK _ _ (NewT.refl _) rfl))
                  · exact fun a wx hT hF K hK => rely_wp rfl (opr_fldR (by decide) rfl hF.1 (hK _ _ (NewT.refl _) rfl))
                  · exact fun a wx hT hF K hK => rely_wp rfl (opr_ldI (hT.row Rg2.out) (by decide) rfl rfl hF.1 (hK _ _ (NewT.refl _) rfl))
                  · exact fun a wx hT hF K hK => rely_wp rfl (opr_cv (refused_cv sv l g0 x.step wx ((NewT.trans _ _ _ HM.out hT).pairs HS.out) HL6.out HST.out) rfl Tryd.func68 (by kernel_rfl) (by kernel_rfl) (evs2 hF.1 hF.2.1) hK)
                  · intro w10 k10
                    iterate 4 (intro u h; obtain rfl := Eq.symm (h (by simp)); clear h)
                    refine relyEnd_nil rfl ?_
                    simp only [Act.put, List.setIfInBounds_toArray, List.set_cons_zero, List.set_cons_succ]
                    refine wpList_plain rfl (fun K hK => ?_)
                    refine opr_putm (g := g3) (o0 := 0) (m := 10) (f := sgF sv (refG l g0 x.step)) (F := sgF sv (refG l g0 x.step)) rfl rfl rfl (k10.row Rg3.out) (by decide) info_saga (sgF_one _ _ (oneP HS.out)) (put_allN _ _ _) ?_
                    intro W10 hR10 rr10
                    refine hK _ _ ?_
                    clear hK K
                    refine wpList_end rfl ?_
                    simp only [Act.put, List.setIfInBounds_toArray, List.set_cons_zero, List.set_cons_succ]
                    go_simp
                    replace Rg3 := Lib.hid rr10
                    replace Rg1 := Lib.hid (hR10.row (by have h_0 := HG.out; omega) (k10.row Rg1.out))
                    replace Rg2 := Lib.hid (hR10.row (by have h_0 := HG.out; omega) (k10.row Rg2.out))
                    replace HM := Lib.hid (NewT.rt (NewT.trans _ _ _ HM.out k10) hR10 (by have h_0 := HG.out; omega))
                    clear k10 hR10 rr10
                    go_wp2
                    exact bodyPost_ret (results_agg rfl _ rfl Rg3.out Tryd.underlying59 rfl info_saga) rfl ⟨_, rfl, HM.out, by show _ = Value.agg _; rw [HE.out]⟩
                · have HE : Hid (behG l lim g x = lapG l lim g0 x.back x.step) := Lib.hid (by rw [HE1.out, if_neg (by rw [hb]; simp), if_neg (by rw [hq]; simp)])
                  clear hb hq
                  go_upto_region 15 with fail
                  refine wp_region_steps0 NewT [SV.eq (.agg (rowA 10 (sgF sv g0))), SV.eq (.agg (rowA 109 (recF x su dv))), SV.eq (.int .i64 (lim)), SV.eq ((.agg (rowA 10 (sgF sv (lapG l lim g0 x.back x.step)))))] [([(3, none)], none), ([(4, none)], none), ([(2, none)], none), ([(50, some 0), (51, some 1), (52, some 2)], none)] 55 4 rfl rfl (by kernel_rfl) NewT.trans (NewT.refl _) (Nat.le_of_ble_eq_true rfl) ⟨?_, ?_, ?_, ?_, trivial⟩ ?_
                  · exact fun a wx hT hF K hK => rely_wp rfl (opr_ldU (hT.row Rg1.out) rfl hF.1 (hK _ _ (NewT.refl _) rfl))
                  · exact fun a wx hT hF K hK => rely_wp rfl (opr_ldR (hT.row Rg2.out) rfl hF.1 (hK _ _ (NewT.refl _) rfl))
                  · exact fun a wx hT hF K hK => rely_wp rfl (opr_move (.inl rfl) (hK _ _ (NewT.refl _) hF.1))
                  · exact fun a wx hT hF K hK => rely_wp rfl (opr_cv (lapsed_cv sv l g0 x _ lim wx ((NewT.trans _ _ _ HM.out hT).pairs HS.out) ((NewT.trans _ _ _ HM.out hT).recV HX.out) HL6.out HST.out) rfl Tryd.func69 (by kernel_rfl) (by kernel_rfl) (evs3 hF.1 hF.2.1 hF.2.2.1) hK)
                  · intro w11 k11
                    iterate 4 (intro u h; obtain rfl := Eq.symm (h (by simp)); clear h)
                    refine relyEnd_nil rfl ?_
                    simp only [Act.put, List.setIfInBounds_toArray, List.set_cons_zero, List.set_cons_succ]
                    refine wpList_plain rfl (fun K hK => ?_)
                    refine opr_putm (g := g3) (o0 := 0) (m := 10) (f := sgF sv (lapG l lim g0 x.back x.step)) (F := sgF sv (lapG l lim g0 x.back x.step)) rfl rfl rfl (k11.row Rg3.out) (by decide) info_saga (sgF_one _ _ (oneP HS.out)) (put_allN _ _ _) ?_
                    intro W11 hR11 rr11
                    refine hK _ _ ?_
                    clear hK K
                    refine wpList_end rfl ?_
                    simp only [Act.put, List.setIfInBounds_toArray, List.set_cons_zero, List.set_cons_succ]
                    go_simp
                    replace Rg3 := Lib.hid rr11
                    replace Rg1 := Lib.hid (hR11.row (by have h_0 := HG.out; omega) (k11.row Rg1.out))
                    replace Rg2 := Lib.hid (hR11.row (by have h_0 := HG.out; omega) (k11.row Rg2.out))
                    replace HM := Lib.hid (NewT.rt (NewT.trans _ _ _ HM.out k11) hR11 (by have h_0 := HG.out; omega))
                    clear k11 hR11 rr11
                    go_wp2
                    exact bodyPost_ret (results_agg rfl _ rfl Rg3.out Tryd.underlying59 rfl info_saga) rfl ⟨_, rfl, HM.out, by show _ = Value.agg _; rw [HE.out]⟩
            · have HE : Hid (behG l lim g x = wellG g0 x.back x.step) := Lib.hid (by rw [HE1.out, if_pos hb])
              clear hb
              go_upto_region 12 with fail
              refine wp_region_steps0 NewT [SV.eq (.agg (rowA 10 (sgF sv g0))), SV.eq (.agg (rowA 109 (recF x su dv))), SV.eq ((.agg (rowA 10 (sgF sv (wellG g0 x.back x.step)))))] [([(3, none)], none), ([(4, none)], none), ([(40, some 0), (41, some 1)], none)] 55 3 rfl rfl (by kernel_rfl) NewT.trans (NewT.refl _) (Nat.le_of_ble_eq_true rfl) ⟨?_, ?_, ?_, trivial⟩ ?_
              · exact fun a wx hT hF K hK => rely_wp rfl (opr_ldU (hT.row Rg1.out) rfl hF.1 (hK _ _ (NewT.refl _) rfl))
              · exact fun a wx hT hF K hK => rely_wp rfl (opr_ldR (hT.row Rg2.out) rfl hF.1 (hK _ _ (NewT.refl _) rfl))
              · exact fun a wx hT hF K hK => rely_wp rfl (opr_cv (wentWell_cv sv l g0 x _ wx ((NewT.trans _ _ _ HM.out hT).pairs HS.out) ((NewT.trans _ _ _ HM.out hT).recV HX.out) HK6.out HAT.out) rfl Tryd.func67 (by kernel_rfl) (by kernel_rfl) (evs2 hF.1 hF.2.1) hK)
              · intro w12 k12
                iterate 3 (intro u h; obtain rfl := Eq.symm (h (by simp)); clear h)
                refine relyEnd_nil rfl ?_
                simp only [Act.put, List.setIfInBounds_toArray, List.set_cons_zero, List.set_cons_succ]
                refine wpList_plain rfl (fun K hK => ?_)
                refine opr_putm (g := g3) (o0 := 0) (m := 10) (f := sgF sv (wellG g0 x.back x.step)) (F := sgF sv (wellG g0 x.back x.step)) rfl rfl rfl (k12.row Rg3.out) (by decide) info_saga (sgF_one _ _ (oneP HS.out)) (put_allN _ _ _) ?_
                intro W12 hR12 rr12
                refine hK _ _ ?_
                clear hK K
                refine wpList_end rfl ?_
                simp only [Act.put, List.setIfInBounds_toArray, List.set_cons_zero, List.set_cons_succ]
                go_simp
                replace Rg3 := Lib.hid rr12
                replace Rg1 := Lib.hid (hR12.row (by have h_0 := HG.out; omega) (k12.row Rg1.out))
                replace Rg2 := Lib.hid (hR12.row (by have h_0 := HG.out; omega) (k12.row Rg2.out))
                replace HM := Lib.hid (NewT.rt (NewT.trans _ _ _ HM.out k12) hR12 (by have h_0 := HG.out; omega))
                clear k12 hR12 rr12
                go_wp2
                exact bodyPost_ret (results_agg rfl _ rfl Rg3.out Tryd.underlying59 rfl info_saga) rfl ⟨_, rfl, HM.out, by show _ = Value.agg _; rw [HE.out]⟩
        have k3 := hk
        clear hk
        have hk : x.kind = 4 := by have := HKD.out; omega
        have HE : Hid (behG l lim g x = lapG l lim g0 x.back x.step) := Lib.hid (by rw [HE0.out, if_neg k2, if_neg k5, if_neg k3, if_pos hk])
        rw [hk] at c0
        clear hk k2 k5 k3
        go_upto_region 15 with fail
        clear c0
        refine wp_region_steps0 NewT [SV.eq (.agg (rowA 10 (sgF sv g0))), SV.eq (.agg (rowA 109 (recF x su dv))), SV.eq (.int .i64 (lim)), SV.eq ((.agg (rowA 10 (sgF sv (lapG l lim g0 x.back x.step)))))] [([(3, none)], none), ([(4, none)], none), ([(2, none)], none), ([(50, some 0), (51, some 1), (52, some 2)], none)] 55 4 rfl rfl (by kernel_rfl) NewT.trans (NewT.refl _) (Nat.le_of_ble_eq_true rfl) ⟨?_, ?_, ?_, ?_, trivial⟩ ?_
        · exact fun a wx hT hF K hK => rely_wp rfl (opr_ldU (hT.row Rg1.out) rfl hF.1 (hK _ _ (NewT.refl _) rfl))
        · exact fun a wx hT hF K hK => rely_wp rfl (opr_ldR (hT.row Rg2.out) rfl hF.1 (hK _ _ (NewT.refl _) rfl))
        · exact fun a wx hT hF K hK => rely_wp rfl (opr_move (.inl rfl) (hK _ _ (NewT.refl _) hF.1))
        · exact fun a wx hT hF K hK => rely_wp rfl (opr_cv (lapsed_cv sv l g0 x _ lim wx ((NewT.trans _ _ _ HM.out hT).pairs HS.out) ((NewT.trans _ _ _ HM.out hT).recV HX.out) HL6.out HST.out) rfl Tryd.func69 (by kernel_rfl) (by kernel_rfl) (evs3 hF.1 hF.2.1 hF.2.2.1) hK)
        · intro w13 k13
          iterate 4 (intro u h; obtain rfl := Eq.symm (h (by simp)); clear h)
          refine relyEnd_nil rfl ?_
          simp only [Act.put, List.setIfInBounds_toArray, List.set_cons_zero, List.set_cons_succ]
          refine wpList_plain rfl (fun K hK => ?_)
          refine opr_putm (g := g3) (o0 := 0) (m := 10) (f := sgF sv (lapG l lim g0 x.back x.step)) (F := sgF sv (lapG l lim g0 x.back x.step)) rfl rfl rfl (k13.row Rg3.out) (by decide) info_saga (sgF_one _ _ (oneP HS.out)) (put_allN _ _ _) ?_
          intro W13 hR13 rr13
          refine hK _ _ ?_
          clear hK K
          refine wpList_end rfl ?_
          simp only [Act.put, List.setIfInBounds_toArray, List.set_cons_zero, List.set_cons_succ]
          go_simp
          replace Rg3 := Lib.hid rr13
          replace Rg1 := Lib.hid (hR13.row (by have h_0 := HG.out; omega) (k13.row Rg1.out))
          replace Rg2 := Lib.hid (hR13.row (by have h_0 := HG.out; omega) (k13.row Rg2.out))
          replace HM := Lib.hid (NewT.rt (NewT.trans _ _ _ HM.out k13) hR13 (by have h_0 := HG.out; omega))
          clear k13 hR13 rr13
          go_wp2
          exact bodyPost_ret (results_agg rfl _ rfl Rg3.out Tryd.underlying59 rfl info_saga) rfl ⟨_, rfl, HM.out, by show _ = Value.agg _; rw [HE.out]⟩
end Go.Proofs.YtilmeffmdgcblaaDoor
/- A region that draws its order, within a round of a range over a function: all operations but a forced tail read alone. No program is named here. -/
namespace Go.Proofs.YtilmeffmdgcblaaDoor
open Go.RowKit
set_option maxRecDepth 8000
set_option linter.all false
variable {P : Program} {ops : Array Oper} {md : Region.Mode} {w : World} {l₀ n : Nat}

def noDefer (ops : Array Oper) : Bool := ops.all fun o => match o.op with | .defer _ => false | _ => true
theorem noDefer_at (h : noDefer ops = true) {i : Nat} {o : Oper} (hi : ops[i]? = some o) : ∀ c, o.op ≠ .defer c := by
  intro c e
  have := Array.all_eq_true_iff_forall_mem.1 h o (Array.mem_of_getElem? hi)
  rw [e] at this
  cases this
theorem wpOpIn_of_stOp (hnd : noDefer ops = true) {i : Nat} {a : Act} {K : Act → Prop} {K' : Act → World → Prop} {Q' : Exit → Act → World → Prop} (h : ∀ a, K a → K' a w) (hh : stOp P ops w i K a) :
    wpOpIn (Fence.wide.inRound l₀) n P ops Q' i K' a w := by
  unfold stOp at hh
  unfold wpOpIn
  cases ho : ops[i]? with
  | none => simp only [ho] at hh ⊢; exact h _ hh
  | some o =>
    simp only [ho] at hh ⊢
    split
    · rename_i hw
      simp only [hw, if_true] at hh
      refine ⟨fun _ _ => trivial, ?_⟩
      rw [Oper.semAt_eq _ _ _ (noDefer_at hnd ho)]
      unfold Oper.still at hh
      generalize (execOp a.eval o).run P w = r at *
      cases r with
      | ok x w' =>
        cases x <;> simp only [Oper.stillUpon] at hh <;> simp only [Oper.uponIn]
        case enter f args =>
          obtain ⟨rfl, v, hc, hn⟩ := hh
          refine ⟨fun hd => by simp [Fence.wide] at hd, CallsIn.inRound l₀ ((callsIn_wide.2 hc).mono fun e w'' he => ?_)⟩
          obtain ⟨rfl, rfl⟩ := he
          exact h _ hn
        all_goals (obtain ⟨rfl, h2⟩ := hh; exact h _ h2)
      | halt x w' => simp only [Oper.stillUpon] at hh
    · rename_i hw
      simp only [hw] at hh
      exact ⟨fun _ _ => trivial, h _ hh⟩
theorem wpAnyIn_of_head (hnd : noDefer ops = true) {m g : Nat} {L : Array Bool → Act → Prop} {Q' : Exit → Act → World → Prop} (hL : ∀ listed a, L listed a → wpAnyIn (Fence.wide.inRound l₀) n P md ops Q' g listed a w) :
    ∀ (f : Nat) (listed : Array Bool) (a : Act), wpAnyL P md ops w m L f listed a → wpAnyIn (Fence.wide.inRound l₀) n P md ops Q' (f + g) listed a w
  | 0, listed, a, h => by rw [Nat.zero_add]; exact hL _ _ h
  | f + 1, listed, a, h => by
    rw [show f + 1 + g = (f + g) + 1 by omega]
    exact ⟨fun h0 => absurd h0 h.1, fun i hi => wpOpIn_of_stOp hnd (fun a' h' => wpAnyIn_of_head hnd hL f _ a' h') (h.2 i hi).2⟩
theorem wpAnyIn_of_seq {Q' : Exit → Act → World → Prop} : ∀ (l : List Oper) (k : Nat) (listed : Array Bool) (a : Act) (w : World), (∀ j, l[j]? = ops[k + j]?) →
    Region.seqB md ops l.length k listed = true → wpListIn (Fence.wide.inRound l₀) n P ops Q' l a w → wpAnyIn (Fence.wide.inRound l₀) n P md ops Q' l.length listed a w
  | [], _, _, _, _, _, hB, h => ⟨by simpa [Region.seqB] using hB, h⟩
  | o :: l, k, listed, a, w, hl, hB, h => by
    have h0 : ops[k]? = some o := by simpa using (hl 0).symm
    simp only [List.length_cons, Region.seqB, Bool.and_eq_true, decide_eq_true_eq] at hB
    refine ⟨fun h1 => (by rw [hB.1] at h1; cases h1), fun i hi => ?_⟩
    rw [hB.1] at hi
    have hik : i = k := by simpa using hi
    subst hik
    have hw : wpOpIn (Fence.wide.inRound l₀) n P ops Q' i (wpListIn (Fence.wide.inRound l₀) n P ops Q' l) a w := by unfold wpOpIn; simp only [h0]; exact h
    exact wpOpIn_mono (fun a' w' h' => wpAnyIn_of_seq l (i + 1) _ a' w' (fun j => by have := hl (j + 1); simpa [Nat.add_assoc, Nat.add_comm 1 j] using this) hB.2 h') hw

/-- All operations but a forced tail read alone: in the text's order, within a round. -/
theorem region_round_tail {id : Nat} {Q : Exit → Act → World → Prop} {a : Act} {w : World} {l : List Oper} (m : Nat) (hm : P.follows .mixedOrders = true) (hB : Region.lexTailB .any l.toArray m = true) (hnd : noDefer l.toArray = true)
    (h : wpStill P l.toArray w.drew (fun a' => wpListIn (Fence.wide.inRound l₀) n P l.toArray Q (l.drop m) a' w.drew) (l.take m) a) : (Code.region id l.toArray true).wpIn (Fence.wide.inRound l₀) n P Q a w := by
  simp only [Region.lexTailB, Bool.and_eq_true, decide_eq_true_eq] at hB
  obtain ⟨⟨⟨⟨hsel, hn⟩, hs⟩, hc⟩, hlex⟩ := hB
  have hn' : m < l.length := by simpa using hn
  have htl : (l.take m).length = m := by simp; omega
  have hdl : (l.drop m).length = l.toArray.size - m := by simp
  have inv0 : HeadInv .any l.toArray m (Array.replicate l.toArray.size false) :=
    ⟨by simp, fun j oj _ hl => (by rw [getD_replicate_false] at hl; cases hl), fun t _ ht => getD_in (by simpa using ht) (getD_replicate_false _ _)⟩
  have H := wpAnyL_lex (md := .any) (g := l.toArray.size - m) hsel hs hc hn (l.take m) 0 _ a (fun j hj => by
    have hj' : j < m := by rw [htl] at hj; exact hj
    simp [hj']) (by simpa using htl) inv0 (by rw [htl]; exact hlex) h
  refine wpIn_region_any hm ?_
  have := wpAnyIn_of_head (n := n) (l₀ := l₀) hnd (Q' := Q) (g := l.toArray.size - m) (fun listed a' hL => by
    have := wpAnyIn_of_seq (n := n) (l₀ := l₀) (md := .any) (Q' := Q) (l.drop m) m listed a' w.drew (fun j => by simp [List.getElem?_drop]) (by rw [hdl]; exact hL.1) hL.2
    rwa [hdl] at this) _ _ _ H
  rw [htl, show m + (l.toArray.size - m) = l.toArray.size by omega] at this
  exact this
end Go.Proofs.YtilmeffmdgcblaaDoor
/- A region in the text's order, within a round of a range over a function: each operation gone through once. No program is named here. -/
namespace Go.Proofs.YtilmeffmdgcblaaDoor
open Go
set_option maxRecDepth 8000
set_option linter.all false

theorem rowsIn_w {n : Nat} {P : Program} {row : String} {args : Array Value} {w : World} {R : Value → World → Prop} (h : Rows P row args w R) : RowsIn Fence.wide n P row args w R := fun c cs _ => let ⟨v, w', r, s⟩ := h c cs; ⟨v, w', r, stepsIn_wide.2 s⟩
theorem wpIn_of_wp {P : Program} {o : Oper} {a : Act} {w : World} {K : Act → World → Prop} {Q : Exit → Act → World → Prop} {l₀ nn : Nat} (hnd : ∀ c, o.op ≠ .defer c) (h : o.wp P a w K Q) : o.wpIn (Fence.wide.inRound l₀) nn P a w K Q := by
  refine ⟨fun _ _ => trivial, ?_⟩
  rw [Oper.semAt_eq _ _ _ hnd]
  unfold Oper.wp at h
  generalize (execOp a.eval o).run P w = r at *
  cases r with
  | ok x w' =>
    cases x <;> simp only [Oper.upon] at h <;> simp only [Oper.uponIn]
    case enter f args => exact ⟨fun hd => by simp [Fence.inRound, Fence.wide] at hd, CallsIn.inRound l₀ (callsIn_wide.2 h)⟩
    case row r args => exact ⟨fun hd => by simp [Fence.inRound, Fence.wide] at hd, rowsIn_w h⟩
    all_goals exact h
  | halt x w' =>
    cases x <;> simp only [Oper.upon] at h <;> simp only [Oper.uponIn]
    exact h
section
variable {P : Program} {ops : Array Oper} {Q : Exit → Act → World → Prop} {T : World → World → Prop} {V : List (SV T)} {J : Nat → World → Prop} {a0 : Act} {w0 : World} {n m : Nat} {D : Deps} {init tail : List Oper} {l₀ nn : Nat}
theorem wpListIn_end {a : Act} {w : World} {l : List Oper} (hl : l = []) (h : Q .normal a w) : wpListIn (Fence.wide.inRound l₀) nn P ops Q l a w := by subst hl; exact h
theorem wpListIn_wp {a : Act} {w : World} {o : Oper} {l : List Oper} (hnd : noDefer ops = true) (hm : o ∈ ops) (hg : o.guard = none) (h : ∀ K : Act → World → Prop, (∀ a w, wpListIn (Fence.wide.inRound l₀) nn P ops Q l a w → K a w) → o.wp P a w K Q) : wpListIn (Fence.wide.inRound l₀) nn P ops Q (o :: l) a w :=
  wpListIn_plain hg fun K hK => wpIn_of_wp (fun c e => by
    have := Array.all_eq_true_iff_forall_mem.1 hnd o hm
    rw [e] at this; cases this) (h K hK)
end
end Go.Proofs.YtilmeffmdgcblaaDoor
/- A region that draws its order, within a round of a range over a function: each operation gone through once. No program is named here. -/
namespace Go.Proofs.YtilmeffmdgcblaaDoor
open Go
set_option maxRecDepth 8000
set_option linter.all false
section
variable {P : Program} {ops : Array Oper} {Q : Exit → Act → World → Prop} {T : World → World → Prop} {V : List (SV T)} {a0 : Act} {w0 : World} {n : Nat} {D : Deps} {l₀ nn : Nat}
theorem rely_opI (hnd : noDefer ops = true) (hn : a0.tmps.size = n) (ht : ∀ a b c : World, T a b → T b c → T a c) {i : Nat} {o : Oper} {dp : List (Tmp × Option Nat)} {g : Option (Tmp × Bool)} {listed : Array Bool} {a : Act} {w : World}
    (ho : ops[i]? = some o) (h1 : relyOne ops n i o dp g = true) (hstep : relyStep P Q T V a0 w0 o dp g (V.getD i SV.any)) (h0 : listed.getD i true = false)
    (hall : ∀ e ∈ o.after, Region.binds .any e = true → listed.getD e.on false = true) (inv : RelyInv ops T V a0 w0 listed a w) :
    wpOpIn (Fence.wide.inRound l₀) nn P ops Q i (fun a' w' => RelyInv ops T V a0 w0 (listed.setIfInBounds i true) a' w') a w := by
  simp only [relyOne, Bool.and_eq_true] at h1
  obtain ⟨⟨⟨hdst, hafter⟩, hdp⟩, hg⟩ := h1
  have waits : ∀ j, Region.waitsFor .any ops i j = true → listed.getD j false = true := fun j hj => by
    obtain ⟨oi, hoi, e, he, hb, hon⟩ := Region.waitsFor_spec hj
    have : oi = o := Option.some.inj (hoi.symm.trans ho)
    subst this
    rw [← hon]
    exact hall e he hb
  have i0 : listed.getD i false = false := getD_both h0
  have hfacts : relyFacts V a0 a w dp := by
    clear hstep
    induction dp with
    | nil => trivial
    | cons x r ih2 =>
      simp only [List.all_cons, Bool.and_eq_true] at hdp
      obtain ⟨hx, hr⟩ := hdp
      obtain ⟨d, j⟩ := x
      cases j with
      | some j =>
        simp only [Bool.and_eq_true, beq_iff_eq] at hx
        exact ⟨inv.new j d hx.1 (waits j hx.2), ih2 hr⟩
      | none =>
        refine ⟨inv.old d fun j hj => ?_, ih2 hr⟩
        have hjlt : j < ops.size := by
          unfold relyDst at hj
          cases hoj : ops[j]? with
          | none => simp [hoj] at hj
          | some oj => exact (Array.getElem?_eq_some_iff.1 hoj).1
        have h2 := List.all_eq_true.1 hx j (List.mem_range.2 hjlt)
        simp only [hj, bne_self_eq_false, Bool.false_or, Bool.or_eq_true, decide_eq_true_eq] at h2
        rcases h2 with rfl | h2
        · exact i0
        · cases hlj : listed.getD j false with
          | false => rfl
          | true =>
            obtain ⟨oj, hoj, e, he, hb, hon⟩ := Region.waitsFor_spec h2
            have := inv.closed j oj hoj hlj e he hb
            rw [hon, i0] at this
            cases this
  have hguard : Region.wanted o (yielded ops a.tmps) = relyGuard g a := by
    unfold Region.wanted
    cases hgo : o.guard with
    | none =>
      rw [hgo] at hg
      cases g with
      | none => rfl
      | some x => cases hg
    | some kb =>
      obtain ⟨k, b⟩ := kb
      rw [hgo] at hg
      cases g with
      | none => cases hg
      | some x =>
        obtain ⟨d, b'⟩ := x
        simp only [Bool.and_eq_true, beq_iff_eq, decide_eq_true_eq] at hg
        obtain ⟨⟨⟨rfl, hd⟩, _⟩, hlt⟩ := hg
        have hlt' : d < a.tmps.size := by rw [inv.slots, hn]; exact hlt
        have hd' : (ops[k]?).bind (·.dst) = some d := hd
        simp only [yielded, hd', Option.bind_some, relyGuard, Array.getD_eq_getD_getElem?, Array.getElem?_eq_getElem hlt', Option.getD_some]
        cases a.tmps[d] <;> simp
        all_goals (rename_i x; cases x <;> cases b <;> rfl)
  have next : ∀ v w', T w w' → (V.getD i SV.any).pred v w' → RelyInv ops T V a0 w0 (listed.setIfInBounds i true) (a.put o.dst v) w' := fun v w' hT hv => by
    have hilt : i < listed.size := by rw [inv.size]; exact (Array.getElem?_eq_some_iff.1 ho).1
    refine ⟨by simp [inv.size], fun j oj hj hlj e he hb => ?_, ht _ _ _ inv.now hT, by cases o.dst <;> simp [Act.put, inv.slots], by cases o.dst <;> simp [Act.put, inv.defers], fun j d hj hlj => ?_, fun d hno => ?_⟩
    · by_cases hij : i = j
      · subst hij
        have : oj = o := Option.some.inj (hj.symm.trans ho)
        subst this
        exact getD_set_true (hall e he hb)
      · rw [getD_set_ne false hij] at hlj
        exact getD_set_true (inv.closed j oj hj hlj e he hb)
    · by_cases hij : i = j
      · subst hij
        have hd : o.dst = some d := by simpa [relyDst, ho] using hj
        rw [hd] at hdst
        simp only [Bool.and_eq_true, decide_eq_true_eq] at hdst
        have hlt : d < a.tmps.size := by rw [inv.slots, hn]; exact hdst.1
        rw [hd]
        simpa [Act.put, hlt] using hv
      · rw [getD_set_ne false hij] at hlj
        have h3 := (V.getD j SV.any).stable _ _ _ (inv.new j d hj hlj) hT
        cases hod : o.dst with
        | none => exact h3
        | some d0 =>
          rw [hod] at hdst
          simp only [Bool.and_eq_true, decide_eq_true_eq] at hdst
          have hjlt : j < ops.size := by
            unfold relyDst at hj
            cases hoj : ops[j]? with
            | none => simp [hoj] at hj
            | some oj => exact (Array.getElem?_eq_some_iff.1 hoj).1
          have h4 := List.all_eq_true.1 hdst.2 j (List.mem_range.2 hjlt)
          simp only [Bool.or_eq_true, decide_eq_true_eq, bne_iff_ne, ne_eq] at h4
          have hne : d0 ≠ d := fun e => by
            subst e
            rcases h4 with h4 | h4
            · exact hij h4.symm
            · exact h4 hj
          simpa [Act.put, Array.getElem?_setIfInBounds_ne hne] using h3
    · have hni : o.dst ≠ some d := fun hd => by
        have := hno i (by simp [relyDst, ho, hd])
        simp [hilt] at this
      have hold := inv.old d fun j hj => by
        have hij : i ≠ j := fun e => by subst e; exact hni (by simpa [relyDst, ho] using hj)
        have := hno j hj
        rwa [getD_set_ne false hij] at this
      cases hod : o.dst with
      | none => exact hold
      | some d0 =>
        have hne : d0 ≠ d := fun e => hni (by rw [hod, e])
        simpa [Act.put, Array.getElem?_setIfInBounds_ne hne] using hold
  have hs := hstep a w inv.now hfacts _ next
  unfold wpOpIn
  simp only [ho, hguard]
  split
  · rename_i hw; rw [if_pos hw] at hs; exact wpIn_of_wp (noDefer_at hnd ho) hs
  · rename_i hw; rw [if_neg hw] at hs; exact ⟨fun _ _ => trivial, hs⟩

/-- At the end, from the canonical frame. -/
theorem wpAnyIn_done {listed : Array Bool} {a : Act} {w : World} (hr : Region.ready .any ops listed = []) (h : Q .normal a w) : ∀ fuel, wpAnyIn (Fence.wide.inRound l₀) nn P .any ops Q fuel listed a w
  | 0 => ⟨hr, h⟩
  | _ + 1 => ⟨fun _ => h, by rw [hr]; simp⟩
section
variable {init : List Oper} {last : Oper}
theorem last_opI (hnd : noDefer ops = true) (hsplit : ops.toList = init ++ [last]) (hg : last.guard = none) (hl : init.length ≤ V.length) {K : Act → World → Prop} {listed : Array Bool} {a : Act} {w : World}
    (hE : ∀ w, T w0 w → relyEnd (fun _ a w => last.wp P a w (fun a' w' => Q .normal a' w') Q) T init V a0 w)
    (inv : RelyInv ops T V a0 w0 listed a w) (hdone : ∀ j, j < init.length → listed.getD j false = true) (hun : listed.getD init.length true = false) (hK : ∀ a' w', Q .normal a' w' → K a' w') : wpOpIn (Fence.wide.inRound l₀) nn P ops Q init.length K a w := by
  obtain ⟨hlo, hsz, hpre⟩ := last_at hsplit
  have h1 : last.wp P a w (fun a' w' => Q .normal a' w') Q := rely_all (Q' := fun a w => last.wp P a w (fun a' w' => Q .normal a' w') Q) inv
    (fun k o hk => ⟨hpre k o hk, hdone k (List.getElem?_eq_some_iff.1 hk).1⟩) (fun j hj => by
      rcases Nat.lt_or_ge j init.length with h | h
      · exact h
      · rcases Nat.eq_or_lt_of_le h with h | h
        · subst h; rw [getD_both hun] at hj; cases hj
        · have : listed.getD j false = false := by simp [Array.getElem?_eq_none (show listed.size ≤ j by rw [inv.size]; omega)]
          rw [this] at hj; cases hj) hl (hE w inv.now)
  unfold wpOpIn
  simp only [hlo, Region.wanted, hg, if_true]
  exact wpIn_of_wp (noDefer_at hnd hlo) (Oper.wp_mono hK h1)

/-- **A region that draws its order, in the text's own order; the last operation waits for all others, and may do what it likes.** -/
theorem wpAnyIn_rely (hnd : noDefer ops = true) (hsplit : ops.toList = init ++ [last]) (hn : a0.tmps.size = n) (hB : relyB ops n 0 init D = true) (hlast : lastB ops last init.length = true) (hg : last.guard = none) (ht : ∀ a b c : World, T a b → T b c → T a c)
    (hl : init.length ≤ V.length) (hA : relyAll P Q T V a0 w0 init D V) (hE : ∀ w, T w0 w → relyEnd (fun _ a w => last.wp P a w (fun a' w' => Q .normal a' w') Q) T init V a0 w) :
    ∀ (fuel : Nat) (listed : Array Bool) (a : Act) (w : World), (unl ops listed).length = fuel → listed.getD init.length true = false → RelyInv ops T V a0 w0 listed a w → wpAnyIn (Fence.wide.inRound l₀) nn P .any ops Q fuel listed a w := by
  obtain ⟨hlo, hsz, hpre⟩ := last_at hsplit
  simp only [lastB, Bool.and_eq_true] at hlast
  have hat : ∀ i o, init[i]? = some o → ∃ dp g, relyOne ops n i o dp g = true ∧ relyStep P Q T V a0 w0 o dp g (V.getD i SV.any) := fun i o hi => by
    obtain ⟨dp, g, hD, h1⟩ := relyB_at init D 0 i o hB hi
    rw [Nat.zero_add] at h1
    exact ⟨dp, g, h1, relyAll_at _ _ _ i o dp g hA hi hD⟩
  intro fuel
  induction fuel with
  | zero =>
    intro listed a w hu hun inv
    have : init.length ∈ unl ops listed := by
      unfold unl; rw [List.mem_filter]; exact ⟨List.mem_range.2 (by omega), by rw [hun]; rfl⟩
    rw [List.eq_nil_of_length_eq_zero hu] at this
    cases this
  | succ fuel ih =>
    intro listed a w hu hun inv
    refine ⟨fun hr => ?_, fun i hi => ?_⟩
    · exfalso
      have all : ∀ i, i < init.length → listed.getD i false = true := fun i => by
        induction i using Nat.strongRecOn with
        | _ i ih =>
          intro hi
          cases hli : listed.getD i false with
          | true => rfl
          | false =>
            exfalso
            have hmem : i ∈ Region.ready .any ops listed := by
              rw [mem_ready]
              refine ⟨getD_in (by rw [inv.size]; omega) hli, init[i], hpre i _ (List.getElem?_eq_getElem hi), fun e he hb => ?_⟩
              obtain ⟨dp, g, h1, _⟩ := hat i init[i] (List.getElem?_eq_getElem hi)
              simp only [relyOne, Bool.and_eq_true] at h1
              have h2 := (Array.all_eq_true_iff_forall_mem.1 h1.1.1.2) e he
              simp only [hb, Bool.not_true, Bool.false_or, decide_eq_true_eq] at h2
              exact ih e.on h2 (by omega)
            rw [hr] at hmem
            cases hmem
      have hmem : init.length ∈ Region.ready .any ops listed := by
        rw [mem_ready]
        refine ⟨hun, last, hlo, fun e he hb => ?_⟩
        have h2 := (Array.all_eq_true_iff_forall_mem.1 hlast.2) e he
        simp only [hb, Bool.not_true, Bool.false_or, decide_eq_true_eq] at h2
        exact all e.on h2
      rw [hr] at hmem
      cases hmem
    · obtain ⟨h0, o, ho, hall⟩ := mem_ready.1 hi
      have hilt := (Array.getElem?_eq_some_iff.1 ho).1
      by_cases him : i = init.length
      · subst him
        have hol : o = last := Option.some.inj (ho.symm.trans hlo)
        subst hol
        have hdone : ∀ (d j : Nat), init.length - j = d → j < init.length → listed.getD j false = true := fun d => by
          induction d using Nat.strongRecOn with
          | _ d ihd =>
            intro j hd hj
            have h1 := List.all_eq_true.1 hlast.1 j (List.mem_range.2 hj)
            obtain ⟨t, ht1, ht2⟩ := List.any_eq_true.1 h1
            simp only [Bool.and_eq_true, decide_eq_true_eq] at ht2
            obtain ⟨ot, hot, e, he, hb, hon⟩ := Region.waitsFor_spec ht2.2
            have htle : t ≤ init.length := by have := List.mem_range.1 ht1; omega
            rw [← hon]
            by_cases htm : t = init.length
            · subst htm
              have : ot = o := Option.some.inj (hot.symm.trans ho)
              subst this
              exact hall e he hb
            · exact inv.closed t ot hot (ihd (init.length - t) (by omega) t rfl (by omega)) e he hb
        replace hdone : ∀ j, j < init.length → listed.getD j false = true := fun j hj => hdone _ j rfl hj
        refine last_opI hnd hsplit hg hl hE inv hdone hun fun a' w' h => wpAnyIn_done (ready_none fun j hj => ?_) h _
        by_cases hj2 : j = init.length
        · subst hj2; simp [show init.length < listed.size by rw [inv.size]; exact hj]
        · exact getD_set_true (hdone j (by omega))
      · have hi' : i < init.length := by omega
        have hio : init[i]? = some o := by
          have := hpre i init[i] (List.getElem?_eq_getElem hi')
          rw [ho] at this
          rw [List.getElem?_eq_getElem hi', Option.some.inj this]
        obtain ⟨dp, g, h1, hstep⟩ := hat i o hio
        refine wpOpIn_mono (fun a' w' inv' => ih _ a' w' (by have := unl_set inv.size h0; omega) (by rw [getD_set_ne true him]; exact hun) inv') (rely_opI hnd hn ht ho h1 hstep h0 hall inv)

end
section
variable {last : Oper}
/-- **A region that draws its order.** -/
theorem wpIn_region_rely {id : Nat} (T : World → World → Prop) (V : List (SV T)) (D : Deps) (n : Nat) (hnd : noDefer ops = true) (hla : ops.toList.getLast? = some last) (hm : P.follows .mixedOrders = true) (hn : a0.tmps.size = n) (hB : relyB ops n 0 ops.toList.dropLast D = true)
    (hlast : lastB ops last ops.toList.dropLast.length = true) (hg : last.guard = none) (ht : ∀ a b c : World, T a b → T b c → T a c) (hd : T w0 w0.drew) (hl : ops.toList.dropLast.length ≤ V.length)
    (hA : relyAll P Q T V a0 w0 ops.toList.dropLast D V) (hE : ∀ w, T w0 w → relyEnd (fun _ a w => last.wp P a w (fun a' w' => Q .normal a' w') Q) T ops.toList.dropLast V a0 w) : (Code.region id ops true).wpIn (Fence.wide.inRound l₀) nn P Q a0 w0 := by
  have hsplit := split_last hla
  obtain ⟨_, hsz, _⟩ := last_at hsplit
  refine wpIn_region_any hm ?_
  exact wpAnyIn_rely hnd hsplit hn hB hlast hg ht hl hA hE ops.size _ a0 w0.drew unl_start (by
    have hlt : ops.toList.dropLast.length < ops.size := by omega
    generalize ops.toList.dropLast.length = m at hlt
    simp [hlt]) (rely_start hd)
end
end
end Go.Proofs.YtilmeffmdgcblaaDoor
/- A range over a function whose variables are laid into new memory ahead of the body. No program is named here. -/
namespace Go.Proofs.YtilmeffmdgcblaaDoor
open Go.RowKit
set_option maxRecDepth 8000
set_option linter.all false

/-- **The statement 'for x := range g { .. }' by an iterator's promise; what is handed on may be laid into new memory ahead of the body.** -/
theorem range_law2 {P : Program} {α : Type} {g : Operand} {ps : Array Tmp} {assign body : Code} {Q : Exit → Act → World → Prop} {a : Act} {w : World} {n : Nat}
    {gf : Nat} {lb : Array Value} (hg : a.eval g = .func (.func gf) #[] lb) (eg : ∀ args w, (callFunc gf args).run P w = .ok (.enter gf args) w)
    {encs : α → Array Value} {Kp : World → World → Prop} {G : List α → α → World → Prop} {S Sp : List α → Prop} {w0 : World} (hseq : SeqG P gf lb encs Kp G S Sp w0) (hb0 : Below w0.heap.size w0 w)
    (hKt : ∀ {A B C : World}, Kp A B → Kp B C → Kp A C) (hKb : ∀ (W : World) (l : Nat) (o o' : Obj), w.heap.size ≤ l → W.heap[l]? = some o → o.isCells = false → Kp W (W.putObj l o'))
    (hGb : ∀ (pre : List α) (x : α) (W : World) (l : Nat) (o o' : Obj), w.heap.size ≤ l → W.heap[l]? = some o → o.isCells = false → G pre x W → G pre x (W.putObj l o'))
    (hps : ∀ x, (encs x).size = ps.size)
    (I : List α → World → Prop) (Ix : Code → List α → World → Prop) (hI : ∀ pre A B, I pre A → Below w.heap.size A B → I pre B) (hIx : ∀ c pre A B, Ix c pre A → Below w.heap.size A B → Ix c pre B) (h0 : I [] w) (As : α → Act → World → Prop)
    (hKn : ∀ A B : World, Below A.heap.size A B → Kp A B) (hGn : ∀ pre x A B, G pre x A → Below A.heap.size A B → G pre x B)
    (hAs : ∀ (x : α) (a1 : Act) (W : World) (l : Nat) (o o' : Obj), w.heap.size ≤ l → W.heap[l]? = some o → o.isCells = false → As x a1 W → As x a1 (W.putObj l o'))
    (hassign : ∀ (l : Nat) (x : α) (W : World) (K : Act → World → Prop), (∀ a1 W', Below W.heap.size W W' → As x a1 W' → K a1 W') →
      assign.wpIn (Fence.wide.inRound l) 0 P (Exit.then K (fun _ _ _ => False)) { tmps := (ps.zip (encs x)).foldl (fun t (p, v) => t.setIfInBounds p v) a.tmps, defers := [] } W)
    (hbody : ∀ (l : Nat) (pre : List α) (x : α) (a1 : Act) (W : World), w.heap.size ≤ l → I pre W → G pre x W → As x a1 W → body.wpIn (Fence.wide.inRound l) 0 P (ownPostG w.heap.size Kp I Ix (pre ++ [x]) W) a1 W)
    (hdone : ∀ (D : Nat) (xs : List α) (W : World), w.heap.size ≤ D → S xs → I xs W → W.heap[D]? = some (.deferred (some [])) → Q .normal { a with defers := { target := .collected D, args := #[] } :: a.defers } W)
    (hstop : ∀ (D : Nat) (c : Code) (pre : List α) (W : World), w.heap.size ≤ D → Sp pre → Ix c pre W → W.heap[D]? = some (.deferred (some [])) → c.wpIn Fence.wide n P Q { a with defers := { target := .collected D, args := #[] } :: a.defers } W) :
    (Code.rangeFunc g ps assign body).wpIn Fence.wide n P Q a w := by
  refine wpIn_rangeFunc ?_
  intro fn hfn
  obtain ⟨rec, hrec⟩ : ∃ rec : LoopState → Option Code → Loop, rec = fun st pe => { state := st, pending := pe, fn, tmps := a.tmps, params := ps, assign, body, defers := w.heap.size } := ⟨_, rfl⟩
  obtain ⟨W1, hW1⟩ : ∃ W1, (w.alloc (.deferred (some []))).alloc (.loop (rec .ready none)) = W1 := ⟨_, rfl⟩
  have hsz : W1.heap.size = w.heap.size + 2 := by rw [← hW1]; simp
  have hL1 : W1.heap[w.heap.size + 1]? = some (.loop (rec .ready none)) := by
    rw [← hW1]; have := World.alloc_heap_new (w.alloc (.deferred (some []))) (.loop (rec .ready none)); rwa [World.size_alloc] at this
  have hK1 : W1.heap[w.heap.size]? = some (.deferred (some [])) := by
    rw [← hW1]; exact (Below.heap_alloc _ _ _ (by simp)).trans (World.alloc_heap_new w _)
  have hbw : Below w.heap.size w W1 := by rw [← hW1]; exact ((Below.refl _ w).alloc (Nat.le_refl _) _).alloc (by simp) _
  have put : ∀ (W : World) (l : Nat) (o o' : Obj), w.heap.size ≤ l → W.heap[l]? = some o → Below w.heap.size W (W.putObj l o') := fun W l o o' hl h =>
    ⟨rfl, rfl, rfl, by simp, fun k hk => World.putObj_heap_other (by omega)⟩
  refine ⟨w.heap.size + 1, [{ target := .collected w.heap.size, args := #[] }], W1, { target := .fn (.func gf) lb, args := #[.func (.yield (w.heap.size + 1)) #[] #[]] }, W1, gf,
    #[.func (.yield (w.heap.size + 1)) #[] #[]] ++ lb, W1, ?_, ?_, fun _ _ => trivial, ?_, fun h => by simp [Fence.wide] at h, ?_⟩
  · rw [← hW1, hrec]; exact run_enterLoop_outer _ _ _ _ _
  · simp only [resolve, hg]
    simp [go_sem]
  · simp [invoke, go_sem, eg]
  · have hcall := hseq (w.heap.size + 1)
      (fun pre W => I pre W ∧ W.heap[w.heap.size + 1]? = some (.loop (rec .ready none)) ∧ W.heap[w.heap.size]? = some (.deferred (some [])))
      (fun pre W => ∃ c, Ix c pre W ∧ W.heap[w.heap.size + 1]? = some (.loop (rec .done (some c))) ∧ W.heap[w.heap.size]? = some (.deferred (some [])))
      W1 (hb0.trans (hbw.mono hb0.size))
      (fun pre A B hs hB => ⟨hI pre A B hs.1 (hB.mono (by omega)), (hB.block _ (by omega)).trans hs.2.1, (hB.block _ (by omega)).trans hs.2.2⟩)
      (fun pre A B hs hB => by
        obtain ⟨c, hc, hl, hk⟩ := hs
        exact ⟨c, hIx c pre A B hc (hB.mono (by omega)), (hB.block _ (by omega)).trans hl, (hB.block _ (by omega)).trans hk⟩)
      ?_ ⟨hI _ _ _ h0 hbw, hL1, hK1⟩
    · have hcall' : CallsIn Fence.wide (n - 1) P gf (#[.func (.yield (w.heap.size + 1)) #[] #[]] ++ lb) W1 _ := callsIn_wide.2 (callsIn_wide.1 hcall)
      refine hcall'.mono ?_
      rintro e W2 ⟨⟨v, rfl⟩, (⟨xs, hS, hi, hl, hk⟩ | ⟨pre, hSp, c, hi, hl, hk⟩)⟩
      · exact ⟨none, _, by have := run_endLoop (P := P) hl (by rw [hrec]; simp); rw [hrec] at this; exact this, hdone _ xs _ (Nat.le_refl _) hS (hI _ _ _ hi (put _ _ _ _ (by omega) hl)) ((World.putObj_heap_other (by omega)).trans hk)⟩
      · exact ⟨some c, _, by have := run_endLoop (P := P) hl (by rw [hrec]; simp); rw [hrec] at this; exact this, hstop _ c pre _ (Nat.le_refl _) hSp (hIx _ _ _ _ hi (put _ _ _ _ (by omega) hl)) ((World.putObj_heap_other (by omega)).trans hk)⟩
    · rintro pre x W0 ⟨hi, hl, hk⟩ hG
      have hlt : w.heap.size + 1 < W0.heap.size := (Array.getElem?_eq_some_iff.1 hl).1
      have hy := run_yield (P := P) (args := encs x) hl (by rw [hrec]; exact hps x)
      rw [hrec] at hy
      refine ⟨fn, _, assign, body, hy, roundIn_of_wpIn hfn (hassign _ x W0 _ ?_)⟩
      clear hy
      intro a1 W hB0 hA
      have kp0 := hKn _ _ hB0
      have kf0 : KeepsFrom W1.heap.size W0 W := (keepsOthers_below hB0).from _
      replace hi := hI _ _ _ hi (hB0.mono (by omega))
      replace hl := (hB0.block _ hlt).trans hl
      replace hk := (hB0.block _ (by omega)).trans hk
      replace hG := hGn _ _ _ _ hG hB0
      replace hlt : w.heap.size + 1 < W.heap.size := Nat.lt_of_lt_of_le hlt hB0.size
      clear hB0
      refine ⟨_, run_beginRound hl (by rw [hrec]), ?_⟩
      have hl2 : (W.putObj (w.heap.size + 1) (.loop { rec .ready none with state := .busy })).heap[w.heap.size + 1]? = some (.loop { rec .ready none with state := .busy }) := World.putObj_heap_same hlt
      have hk2 : (W.putObj (w.heap.size + 1) (.loop { rec .ready none with state := .busy })).heap[w.heap.size]? = some (.deferred (some [])) := (World.putObj_heap_other (by omega)).trans hk
      have hw2 : Kp W (W.putObj (w.heap.size + 1) (.loop { rec .ready none with state := .busy })) := hKb _ _ _ _ (by omega) hl rfl
      refine wpIn_mono (hbody _ pre x a1 _ (by omega) (hI _ _ _ hi (put _ _ _ _ (by omega) hl)) (hGb _ _ _ _ _ _ (by omega) hl rfl hG) (hAs _ _ _ _ _ _ (by omega) hl rfl hA)) ?_
      have fin : ∀ (jump : Option Code) (W3 : World), KeepsFrom w.heap.size (W.putObj (w.heap.size + 1) (.loop { rec .ready none with state := .busy })) W3 →
          (Instr.endRound (w.heap.size + 1) jump).run P W3 = .ok (.bool jump.isNone) (W3.putObj (w.heap.size + 1) (.loop (rec (if jump.isNone then .ready else .done) jump))) ∧
          W3.heap[w.heap.size + 1]? = some (.loop { rec .ready none with state := .busy }) ∧
          (W3.putObj (w.heap.size + 1) (.loop (rec (if jump.isNone then .ready else .done) jump))).heap[w.heap.size + 1]? = some (.loop (rec (if jump.isNone then .ready else .done) jump)) ∧
          (W3.putObj (w.heap.size + 1) (.loop (rec (if jump.isNone then .ready else .done) jump))).heap[w.heap.size]? = some (.deferred (some [])) := fun jump W3 hk3 => by
        have hl3 := hk3.same _ _ (by omega) hl2 rfl
        have := run_endRound (P := P) jump hl3
        rw [hrec] at this ⊢
        exact ⟨this, by rw [hrec] at hl3; exact hl3, World.putObj_heap_same (Array.getElem?_eq_some_iff.1 hl3).1, (World.putObj_heap_other (by omega)).trans (hk3.same _ _ (Nat.le_refl _) hk2 rfl)⟩
      have whole : ∀ (W3 : World) (o : Obj), KeepsFrom w.heap.size (W.putObj (w.heap.size + 1) (.loop { rec .ready none with state := .busy })) W3 → KeepsFrom W1.heap.size W (W3.putObj (w.heap.size + 1) o) := fun W3 o hk3 =>
        ((keepsFrom_low _ (by omega)).trans (keepsFrom_mono hk3 (by omega))).trans (keepsFrom_low _ (by omega))
      rintro e a3 W3 hp
      cases e with
      | normal =>
        obtain ⟨hk3, hkp3, hi3⟩ := hp
        obtain ⟨hr, hl3, hl4, hk4⟩ := fin none W3 hk3
        exact ⟨_, _, hr, .inl ⟨rfl, ⟨hI _ _ _ hi3 (put _ _ _ _ (by omega) hl3), hl4, hk4⟩, hKt kp0 (hKt (hKt hw2 hkp3) (hKb _ _ _ _ (by omega) hl3 rfl)), kf0.trans (whole _ _ hk3)⟩⟩
      | ret =>
        obtain ⟨hk3, hi3⟩ := hp
        obtain ⟨hr, hl3, hl4, hk4⟩ := fin (some .ret) W3 hk3
        exact ⟨_, _, hr, .inr ⟨rfl, ⟨.ret, hIx _ _ _ _ hi3 (put _ _ _ _ (by omega) hl3), hl4, hk4⟩, kf0.trans (whole _ _ hk3)⟩⟩
      | exit id =>
        obtain ⟨hk3, hi3⟩ := hp
        obtain ⟨hr, hl3, hl4, hk4⟩ := fin (some (.exit id)) W3 hk3
        exact ⟨_, _, hr, .inr ⟨rfl, ⟨.exit id, hIx _ _ _ _ hi3 (put _ _ _ _ (by omega) hl3), hl4, hk4⟩, kf0.trans (whole _ _ hk3)⟩⟩
      | goto t =>
        obtain ⟨hk3, hi3⟩ := hp
        obtain ⟨hr, hl3, hl4, hk4⟩ := fin (some (.goto t)) W3 hk3
        exact ⟨_, _, hr, .inr ⟨rfl, ⟨.goto t, hIx _ _ _ _ hi3 (put _ _ _ _ (by omega) hl3), hl4, hk4⟩, kf0.trans (whole _ _ hk3)⟩⟩
      | panic ch => exact hp.elim
      | outgrown => exact hp.elim
end Go.Proofs.YtilmeffmdgcblaaDoor
/- A law of our own for a range over a function whose rounds make memory that lasts: the iterator turns one variable of its own and makes new memory; rounds may write whatever stood when the iterator went on, but for the iterator's. No program is named here. -/
namespace Go.Proofs.YtilmeffmdgcblaaDoor
open Go.RowKit
set_option maxRecDepth 8000
set_option linter.all false

/-- An iterator's step: its variable (block g) and new memory alone. -/
structure ItS (g : Nat) (A B : World) : Prop where
  below : Below g A B
  keep : ∀ (k : Nat) (o : Obj), k ≠ g → A.heap[k]? = some o → B.heap[k]? = some o
theorem ItS.refl (g : Nat) (A : World) : ItS g A A := ⟨Below.refl _ _, fun _ _ _ h => h⟩
theorem ItS.trans {g : Nat} {A B C : World} (h : ItS g A B) (k : ItS g B C) : ItS g A C := ⟨h.below.trans k.below, fun i o hi ho => k.keep i o hi (h.keep i o hi ho)⟩
theorem ItS.new {g : Nat} {A B : World} (hg : g ≤ A.heap.size) (h : Below A.heap.size A B) : ItS g A B :=
  ⟨h.mono hg, fun k _ _ ho => (h.block k (Array.getElem?_eq_some_iff.1 ho).1).trans ho⟩
theorem ItS.of {g : Nat} {A B : World} (hb : Below g A B) (h : KeepBut [g] A B) (hk : KeepsOthers A B) : ItS g A B :=
  ⟨hb, fun k o hkg ho => by
    cases hc : o.isCells with
    | true => exact h.2 k o (by simpa using hkg) ho hc
    | false => exact hk.same k o ho hc⟩
/-- What a round may write: blocks that stood when the iterator went on (in A), but for the iterator's variable and the blocks pb. -/
def KpM (pb : List Nat) (ga : Nat) (A W W' : World) : Prop := ∃ M : List Nat, (∀ k ∈ M, k < A.heap.size ∧ k ≠ ga ∧ k ∉ pb) ∧ KeepBut M W W'
theorem KpM.left {pb : List Nat} {ga : Nat} {A W V W' : World} (h : KpM pb ga A V W') (k : KeepBut [] W V) : KpM pb ga A W W' := by
  obtain ⟨M, h1, h2⟩ := h; exact ⟨M, h1, (k.more (by simp)).trans h2⟩
theorem KpM.right {pb : List Nat} {ga : Nat} {A W V W' : World} (h : KpM pb ga A W V) (k : KeepBut [] V W') : KpM pb ga A W W' := by
  obtain ⟨M, h1, h2⟩ := h; exact ⟨M, h1, h2.trans (k.more (by simp))⟩
end Go.Proofs.YtilmeffmdgcblaaDoor
/- Operations of an iterator's own body, gone through one by one. No program is named here. -/
namespace Go.Proofs.YtilmeffmdgcblaaDoor
open Go Go.RowKit
set_option maxRecDepth 8000
set_option linter.all false
theorem wpIn_of_wpW {P : Program} {o : Oper} {a : Act} {w : World} {K : Act → World → Prop} {Q : Exit → Act → World → Prop} {nn : Nat} (hnd : ∀ c, o.op ≠ .defer c) (h : o.wp P a w K Q) : o.wpIn Fence.wide nn P a w K Q := by
  refine ⟨fun _ _ => trivial, ?_⟩
  rw [Oper.semAt_eq _ _ _ hnd]
  unfold Oper.wp at h
  generalize (execOp a.eval o).run P w = r at *
  cases r with
  | ok x w' =>
    cases x <;> simp only [Oper.upon] at h <;> simp only [Oper.uponIn]
    case enter f args => exact ⟨fun hd => by simp [Fence.wide] at hd, callsIn_wide.2 h⟩
    case row r args => exact ⟨fun hd => by simp [Fence.wide] at hd, rowsIn_w h⟩
    all_goals exact h
  | halt x w' =>
    cases x <;> simp only [Oper.upon] at h <;> simp only [Oper.uponIn]
    exact h
section
variable {P : Program} {ops : Array Oper} {Q : Exit → Act → World → Prop} {nn : Nat}
theorem wpListIn_wpW {a : Act} {w : World} {o : Oper} {l : List Oper} (hnd : noDefer ops = true) (hm : o ∈ ops) (hg : o.guard = none) (h : ∀ K : Act → World → Prop, (∀ a w, wpListIn Fence.wide nn P ops Q l a w → K a w) → o.wp P a w K Q) : wpListIn Fence.wide nn P ops Q (o :: l) a w :=
  wpListIn_plain hg fun K hK => wpIn_of_wpW (fun c e => by
    have := Array.all_eq_true_iff_forall_mem.1 hnd o hm
    rw [e] at this; cases this) (h K hK)
end
theorem opr_mvV {P : Program} {a : Act} {w : World} {o : Oper} {K : Act → World → Prop} {Q : Exit → Act → World → Prop} {x : Operand} {v : Value} (ho : o.op = .move x ∨ o.op = .assign x) (hv : a.eval x = v) (h : K (a.put o.dst v) w) : o.wp P a w K Q := by
  subst hv; exact opr_move ho h
theorem opr_putmW {P : Program} {a : Act} {w : World} {o : Oper} {K : Act → World → Prop} {Q : Exit → Act → World → Prop} {t t' : TypeId} {x y : Operand} {g o0 n m : Nat} {f f0 F : Nat → Value} (ho : o.op = .store t x y) (hx : a.eval x = .pointer (some ⟨g, o0, none⟩)) (hy : a.eval y = .agg (rowA m f)) (hr : w.rowIs g t' n f0) (hm : o0 + m ≤ n) (hi : (P.info? t).map (·.size) = some m) (hone : ∀ i, (f i).oneCell' = true)
    (hF : ∀ i, i < n → F i = if o0 ≤ i ∧ i < o0 + m then f (i - o0) else f0 i) (h : ∀ w', RT g w w' → KeepsOthers w w' → w'.rowIs g t' n F → K (a.put o.dst undef) w') : o.wp P a w K Q := by
  refine wp_store_mid t x y ho g o0 (rowA m f) hx hy (by rw [rowA_size]; exact fun j hj => ⟨by simp [hr.cell (i := o0 + j) (by omega)], by simpa using hr.frozen (o0 + j)⟩) (by rw [rowA_size]; exact hi) (rowA_one _ _ hone) ?_
  refine h _ (RT.setCells _ _ _) (keepsOthers_setCells _ _ _ _) ((rowIs_setCells_at hr (rowA m f).toList o0).congr fun i hi => ?_)
  rw [hF i hi, rowA_toList]
  simp only [List.length_map, List.length_range]
  by_cases h : o0 ≤ i ∧ i < o0 + m
  · rw [if_pos h, if_pos h]
    simp [show i - o0 < m by omega]
  · rw [if_neg h, if_neg h]
end Go.Proofs.YtilmeffmdgcblaaDoor
