/- Steps that are cloned lie in memory that is new. -/
import Derived.Test.YtchpmdcacpjojaaDoorMa
import Derived.Lib.SliceRun
import Derived.Deep.Slices
import Derived.Test.YtchpmdcacpjojaaDoorProg
import Derived.StillTactics
import Derived.Deep.RegionHeld3
import Derived.Deep.RegionWith
import Derived.Deep.DeepCutAuto
import Derived.Maps.AppendAt
import Derived.Deep.AppendLies
import Derived.OrdersIn
import Derived.KernelRfl
import Derived.Laws.CopyOwn
import Derived.Laws.IdiomCopy
set_option linter.all false
namespace Go.Proofs.YtchpmdcacpjojaaDoor
open Go Go.RowKit
set_option maxRecDepth 8000
set_option linter.all false
/-- Steps, in a block from B on. -/
def RdPB (w : World) (B : Nat) (v : Value) (l : List (Int × Int)) : Prop := RdP w v l ∧ (0 < l.length → ∀ a n c, v = .slice (some a) n c → B ≤ a.block)
/-- Bytes, in a block from B on. -/
def RdVB (w : World) (B : Nat) (v : Value) (l : List UInt8) : Prop := ∀ L, (∀ k ∈ L, k < B) → RdV w L v l
theorem RT.pairs {R : Nat} {w w' : World} (h : RT R w w') {v : Value} {l : List (Int × Int)} (hr : RdP w v l) (hne : 0 < l.length → ∀ a n c, v = .slice (some a) n c → a.block ≠ R) : RdP w' v l := by
  obtain ⟨A, cap, rfl, h1, h2, h3⟩ := hr
  refine ⟨A, cap, rfl, h1, h2, fun h0 => ?_⟩
  obtain ⟨b, o, rfl, hc⟩ := h3 h0
  have hb : b ≠ R := hne h0 ⟨b, o, none⟩ _ _ rfl
  exact ⟨b, o, rfl, fun i hi => ⟨h.keep.cell (a := ⟨b, o + 2 * i, none⟩) (by simpa using hb) (hc i hi).1, h.keep.cell (a := ⟨b, o + 2 * i + 1, none⟩) (by simpa using hb) (hc i hi).2⟩⟩
theorem RdPB.rt {R B : Nat} {w w' : World} {v : Value} {l : List (Int × Int)} (h : RdPB w B v l) (hT : RT R w w') (hR : R < B) : RdPB w' B v l :=
  ⟨hT.pairs h.1 fun h0 a n c e => by have := h.2 h0 a n c e; omega, h.2⟩
theorem RdPB.new {B : Nat} {w w' : World} {v : Value} {l : List (Int × Int)} (h : RdPB w B v l) (hT : NewT w w') : RdPB w' B v l := ⟨hT.pairs h.1, h.2⟩
theorem RdPB.mono {B B' : Nat} {w : World} {v : Value} {l : List (Int × Int)} (h : RdPB w B v l) (hB : B' ≤ B) : RdPB w B' v l := ⟨h.1, fun h0 a n c e => Nat.le_trans hB (h.2 h0 a n c e)⟩
theorem RdVB.rt {R B : Nat} {w w' : World} {v : Value} {l : List UInt8} (h : RdVB w B v l) (hT : RT R w w') (hR : R < B) : RdVB w' B v l := fun L hL =>
  ((h (R :: L) (fun k hk => by rcases List.mem_cons.1 hk with rfl | hk; exact hR; exact hL k hk)).keep (hT.keep.more (by simp))).less (fun k hk => by simp [hk])
theorem RdVB.new {B : Nat} {w w' : World} {v : Value} {l : List UInt8} (h : RdVB w B v l) (hT : NewT w w') : RdVB w' B v l := fun L hL => hT.rd (h L hL)
theorem RdVB.out {B : Nat} {w : World} {v : Value} {l : List UInt8} (h : RdVB w B v l) : RdV w [] v l := h [] (by simp)
theorem RdVB.mono {B B' : Nat} {w : World} {v : Value} {l : List UInt8} (h : RdVB w B v l) (hB : B' ≤ B) : RdVB w B' v l := fun L hL => h L fun k hk => Nat.lt_of_lt_of_le (hL k hk) hB
end Go.Proofs.YtchpmdcacpjojaaDoor
/- Slices of structs of n cells: they read as lists of rows, and as lists of what the rows say; elements, beginnings, rows of the call's own, appends. No program is named here. -/
namespace Go.Proofs.YtchpmdcacpjojaaDoor
open Go Go.RowKit
set_option maxRecDepth 8000
set_option linter.all false
/-- The cells of rows, one behind the other. -/
def ecs (n : Nat) (l : List (Nat → Value)) : List Value := l.flatMap fun d => (List.range n).map d
theorem ecs_length (n : Nat) (l : List (Nat → Value)) : (ecs n l).length = l.length * n := by
  induction l with
  | nil => simp [ecs]
  | cons d l ih => rw [ecs, List.flatMap_cons, List.length_append, show (l.flatMap fun d => (List.range n).map d) = ecs n l from rfl, ih]; simp [Nat.succ_mul]; omega
theorem ecs_app (n : Nat) (a b : List (Nat → Value)) : ecs n (a ++ b) = ecs n a ++ ecs n b := by simp [ecs]
theorem ecs_at (n : Nat) (l : List (Nat → Value)) : ∀ (i : Nat) (d : Nat → Value), l[i]? = some d → ∀ j, j < n → (ecs n l)[i * n + j]? = some (d j) := by
  induction l with
  | nil => intro i d h; simp at h
  | cons e l ih =>
    intro i d h j hj
    have hl : ((List.range n).map e).length = n := by simp
    rw [show ecs n (e :: l) = (List.range n).map e ++ ecs n l from rfl]
    cases i with
    | zero => simp at h; subst h; rw [List.getElem?_append_left (by rw [hl]; omega)]; simp [hj]
    | succ i => rw [List.getElem?_append_right (by rw [hl, Nat.succ_mul]; omega), hl, show (i + 1) * n + j - n = i * n + j by rw [Nat.succ_mul]; omega]; exact ih i d (by simpa using h) j hj
/-- Each of the rows' cells is one. -/
def OneE (n : Nat) (l : List (Nat → Value)) : Prop := ∀ f ∈ l, ∀ j, j < n → (f j).oneCell' = true
theorem ecs_one {n : Nat} {l : List (Nat → Value)} (h : OneE n l) : ∀ u ∈ ecs n l, u.oneCell' = true := by
  intro u hu
  obtain ⟨d, hd, h'⟩ := List.mem_flatMap.1 hu
  obtain ⟨j, hj, rfl⟩ := List.mem_map.1 h'
  exact h d hd j (by simpa using hj)
def RdE (n : Nat) (W : World) (v : Value) (l : List (Nat → Value)) : Prop :=
  ∃ A cap, v = .slice A l.length cap ∧ l.length ≤ cap ∧ cap ≤ maxLen ∧ (0 < l.length → ∃ b o, A = some ⟨b, o, none⟩ ∧ ∀ i d, l[i]? = some d → ∀ j, j < n → W.cell? ⟨b, o + i * n + j, none⟩ = some (d j))
theorem RdE.new {n : Nat} {w w' : World} {v : Value} {l : List (Nat → Value)} (h : RdE n w v l) (hN : NewT w w') : RdE n w' v l := by
  obtain ⟨A, c, hv, h1, h2, h3⟩ := h
  refine ⟨A, c, hv, h1, h2, fun h0 => ?_⟩
  obtain ⟨b, o, hA, hc⟩ := h3 h0
  exact ⟨b, o, hA, fun i d hd j hj => (hN.out.cell (World.block_lt_of_cell? _ _ (hc i d hd j hj))).trans (hc i d hd j hj)⟩
theorem rdE_nil (n : Nat) (w : World) : RdE n w (.slice none 0 0) [] := ⟨none, 0, rfl, Nat.le_refl _, by unfold maxLen; omega, fun h => absurd h (by simp)⟩
theorem RdE.news {n : Nat} {w : World} {l : List (Nat → Value)} {b o m c : Nat} (h : RdE n w (.slice (some ⟨b, o, none⟩) m c) l) : ∀ j u, (ecs n l)[j]? = some u → w.cell? ((⟨b, o, none⟩ : Addr).add j) = some u := by
  intro j u hj
  obtain ⟨A, cap, hv, _, _, h3⟩ := h
  have hlt : j < l.length * n := by rw [← ecs_length]; exact (List.getElem?_eq_some_iff.1 hj).1
  have hn : 0 < n := by rcases Nat.eq_zero_or_pos n with e | e; (rw [e] at hlt; omega); exact e
  have hi : j / n < l.length := (Nat.div_lt_iff_lt_mul hn).2 hlt
  obtain ⟨b', o', hA, hc⟩ := h3 (Nat.lt_of_le_of_lt (Nat.zero_le _) hi)
  injection hv with e1 _ _
  rw [hA] at e1
  cases e1
  have hd : l[j / n]? = some l[j / n] := List.getElem?_eq_getElem hi
  have hm := Nat.mod_lt j hn
  have ej : j / n * n + j % n = j := by rw [Nat.mul_comm]; exact Nat.div_add_mod j n
  have h1 := ecs_at n l _ _ hd (j % n) hm
  rw [ej] at h1
  rw [h1] at hj
  cases hj
  have := hc _ _ hd (j % n) hm
  rw [Addr.add_mid, show o + j = o + j / n * n + j % n by omega]
  exact this
/-- What a program says of an element's type. -/
structure ElTy (P : Program) (sT eT : TypeId) (n : Nat) : Prop where
  ul : P.underlying sT = some (.slice eT)
  inf : ∃ i0 z, P.info? eT = some i0 ∧ i0.zero = some z ∧ i0.size = n ∧ i0.bytes ≤ 1000 ∧ z.cells.size = n
  pos : 0 < n
  row : ∃ d, P.underlying eT = some d ∧ d.isRow = true
theorem ElTy.of {P : Program} {sT eT : TypeId} {n b : Nat} {z : Value} {d : TypeDesc} (h1 : P.underlying sT = some (.slice eT)) (h2 : (P.info? eT).map (fun i => (i.zero, i.size, i.bytes)) = some (some z, n, b)) (hb : b ≤ 1000) (hz : z.cells.size = n) (h0 : 0 < n) (h3 : P.underlying eT = some d) (h4 : d.isRow = true) : ElTy P sT eT n := by
  refine ⟨h1, ?_, h0, d, h3, h4⟩
  cases hq : P.info? eT with
  | none => rw [hq] at h2; cases h2
  | some i => rw [hq] at h2; simp at h2; exact ⟨i, z, rfl, h2.1, h2.2.1, by omega, hz⟩
section
variable {P : Program} {sT eT : TypeId} {n : Nat}
theorem ElTy.size (T : ElTy P sT eT n) (w : World) : (sizeOf eT).run P w = .ok n w := by
  obtain ⟨i0, z, h1, _, h2, _⟩ := T.inf
  simp [sizeOf, typeInfo, h1, h2]
theorem ElTy.map (T : ElTy P sT eT n) : (P.info? eT).map (·.size) = some n := by
  obtain ⟨i0, z, h1, _, h2, _⟩ := T.inf
  rw [h1]; simp [h2]
theorem run_idxE (T : ElTy P sT eT n) {b off m c i : Nat} (w : World) (hi : i < m) : (Instr.indexAt sT (.slice (some ⟨b, off, none⟩) m c) (.int .i64 (i : Int))).run P w = .ok (.pointer (some ⟨b, off + i * n, none⟩)) w := by
  have hs := T.size w
  simp [Instr.indexAt, asIntOf, run_underlying T.ul, hi, hs, Addr.add_mid]
theorem run_ldE (T : ElTy P sT eT n) {b off : Nat} {d : Nat → Value} {w : World} (hc : ∀ j, j < n → w.cell? ⟨b, off + j, none⟩ = some (d j)) : (Instr.loadAt eT (.pointer (some ⟨b, off, none⟩))).run P w = .ok (.agg (rowA n d)) w := by
  have hr : w.rangeAt b off (rowA n d).toList := fun j v hv => by
    rw [rowA_toList] at hv
    have hj : j < n := by have := (List.getElem?_eq_some_iff.1 hv).1; simpa using this
    simp [hj] at hv
    subst hv
    exact hc j hj
  obtain ⟨dd, h1, h2⟩ := T.row
  have := run_loadAt_mid (P := P) w b off eT (rowA n d).toList _ hr h1 h2 (by rw [rowA_toList]; simpa using T.map)
  simpa using this
theorem rdE_take {w : World} {A : Option Addr} {l : List (Nat → Value)} {c k : Nat} (h : RdE n w (.slice A l.length c) l) (hk : k ≤ l.length) : RdE n w (.slice A k c) (l.take k) := by
  obtain ⟨A', c', hv, h1, h2, h3⟩ := h
  cases hv
  have hl : (l.take k).length = k := by rw [List.length_take]; omega
  refine ⟨A, c, by rw [hl], by rw [hl]; omega, h2, fun h0 => ?_⟩
  rw [hl] at h0
  obtain ⟨b, off, hA, hc⟩ := h3 (by omega)
  refine ⟨b, off, hA, fun i d hd j hj => hc i d ?_ j hj⟩
  rw [List.getElem?_take] at hd
  split at hd
  · exact hd
  · cases hd
theorem rdE_drop {w : World} {A : Option Addr} {l : List (Nat → Value)} {c k : Nat} (h : RdE n w (.slice A l.length c) l) (hk : k ≤ l.length) : RdE n w (.slice (if c = k then A else A.map (·.add (k * n))) (l.length - k) (c - k)) (l.drop k) := by
  obtain ⟨A', c', hv, h1, h2, h3⟩ := h
  cases hv
  have hl : (l.drop k).length = l.length - k := by simp
  refine ⟨_, c - k, by rw [hl], by rw [hl]; omega, by omega, fun h0 => ?_⟩
  rw [hl] at h0
  obtain ⟨b, off, rfl, hc⟩ := h3 (by omega)
  refine ⟨b, off + k * n, by rw [if_neg (by omega)]; simp [Addr.add_mid], fun i d hd j hj => ?_⟩
  have := hc (k + i) d (by simpa using hd) j hj
  rw [show off + k * n + i * n + j = off + (k + i) * n + j by rw [Nat.add_mul]; omega]
  exact this
/-- A row of the call's own, in blocks from B on. -/
def OwnE (eT : TypeId) (n : Nat) (W : World) (B : Nat) (v : Value) (l : List (Nat → Value)) : Prop := W.ownsRow B eT n v l.length (ecs n l)
theorem OwnE.rd {W : World} {B : Nat} {v : Value} {l : List (Nat → Value)} (h : OwnE eT n W B v l) : RdE n W v l := by
  have hh := h
  rcases h.2 with ⟨rfl, h0⟩ | ⟨g, cap, cur, rfl, hb, _, hnc, hcm, _, _⟩
  · have : l = [] := List.eq_nil_of_length_eq_zero h0
    subst this
    exact rdE_nil n W
  · refine ⟨some ⟨g, 0, none⟩, cap, rfl, hnc, hcm, fun _ => ⟨g, 0, rfl, fun i d hd j hj => ?_⟩⟩
    have hc := World.ownsRow.cells hh (g := g) rfl (i * n + j) _ (ecs_at n l i d hd j hj)
    rw [Addr.add_mid] at hc
    rw [Nat.add_assoc]; exact hc
theorem ownE_nil (W : World) (B : Nat) : OwnE eT n W B (.slice none 0 0) [] := by
  have := World.ownsRow_nil W B eT n
  simpa [OwnE, ecs] using this
theorem OwnE.lt {W : World} {B : Nat} {v : Value} {l : List (Nat → Value)} (h : OwnE eT n W B v l) : ∀ k, v.ownBlock = some k → B ≤ k ∧ k < W.heap.size := World.ownsRow.lt h
theorem OwnE.keep {W W' : World} {B : Nat} {v : Value} {l : List (Nat → Value)} (h : OwnE eT n W B v l) (hk : ∀ k, v.ownBlock = some k → W'.heap[k]? = W.heap[k]?) : OwnE eT n W' B v l := by
  obtain ⟨h1, h2⟩ := h
  refine ⟨h1, ?_⟩
  rcases h2 with h2 | ⟨g, cap, cur, hv, hb, hg, r⟩
  · exact .inl h2
  · exact .inr ⟨g, cap, cur, hv, hb, (hk g (by rw [hv]; rfl)).trans hg, r⟩
theorem OwnE.new {W W' : World} {B : Nat} {v : Value} {l : List (Nat → Value)} (h : OwnE eT n W B v l) (hN : NewT W W') : OwnE eT n W' B v l := h.keep fun k hk => hN.out.block k (h.lt k hk).2
theorem OwnE.mono {W : World} {B B' : Nat} {v : Value} {l : List (Nat → Value)} (h : OwnE eT n W B v l) (hB : B' ≤ B) : OwnE eT n W B' v l := by
  obtain ⟨h1, h2⟩ := h
  refine ⟨h1, ?_⟩
  rcases h2 with h2 | ⟨g, cap, cur, hv, hb, r⟩
  · exact .inl h2
  · exact .inr ⟨g, cap, cur, hv, Nat.le_trans hB hb, r⟩
theorem OwnE.form {W : World} {B : Nat} {v : Value} {l : List (Nat → Value)} (h : OwnE eT n W B v l) : ∃ A c, v = .slice A l.length c ∧ l.length ≤ c := by
  rcases h.2 with ⟨hv, h0⟩ | ⟨g, cap, cur, hv, _, _, hc, _⟩
  · exact ⟨none, 0, by rw [hv, h0], by omega⟩
  · exact ⟨_, cap, hv, hc⟩
theorem run_appE (T : ElTy P sT eT n) {W : World} {B : Nat} {v u : Value} {l m : List (Nat → Value)} (h : OwnE eT n W B v l) (hr : RdE n W u m) (h1 : OneE n m) (hn : l.length + m.length ≤ 1000000) (hB : B ≤ W.heap.size) (ty : TypeId) :
    ∃ v' w', (Builtin.append_ #[sT, sT] ty #[v, u]).run P W = .ok v' w' ∧ OwnE eT n w' B v' (l ++ m) ∧ W.grownBy w' v.ownBlock := by
  obtain ⟨i0, z, hi, hz0, hz1, hz2, hz3⟩ := T.inf
  have hr0 := hr
  obtain ⟨A, cap, rfl, k1, k2, k3⟩ := hr
  cases A with
  | none =>
    have h0 : m = [] := by
      cases m with
      | nil => rfl
      | cons b l => obtain ⟨_, _, h, _⟩ := k3 (by simp); cases h
    subst h0
    refine ⟨v, W, ?_, by simpa using h, World.grownBy.refl W _⟩
    rcases h.2 with ⟨rfl, h0⟩ | ⟨g, cap', cur, rfl, _, _, hnc, _⟩
    · simp [Builtin.append_, run_underlying T.ul, sizeOf, typeInfo, hi, Builtin.lenOf, Builtin.firstCells]
    · simp [Builtin.append_, run_underlying T.ul, sizeOf, typeInfo, hi, Builtin.lenOf, Builtin.firstCells, hnc, storeCells]
  | some ad =>
    have hcells : ∀ j u, (ecs n m)[j]? = some u → W.cell? (ad.add j) = some u := fun j u hj => by
      have hlt : j < m.length * n := by rw [← ecs_length]; exact (List.getElem?_eq_some_iff.1 hj).1
      have hm : 0 < m.length := by rcases Nat.eq_zero_or_pos m.length with e | e; (rw [e] at hlt; omega); exact e
      obtain ⟨b, o, hA, _⟩ := k3 hm
      cases hA
      exact hr0.news j u hj
    obtain ⟨v', w', hrun, ho, hg, _⟩ := run_append_own (P := P) W B sT ty eT i0 _ n i0.bytes T.ul hi hz0 hz1 rfl hz3 T.pos v l.length (ecs n l) h ad m.length cap (ecs n m) (ecs_length n m) hcells (ecs_one h1) (by unfold maxLen; omega) (Nat.le_trans (Nat.mul_le_mul hn hz2) (by omega)) hB
    refine ⟨v', w', hrun, ?_, hg⟩
    unfold OwnE
    rw [List.length_append, ecs_app]
    exact ho
end
section
variable {α : Type}
/-- A slice of structs that reads as a list of what they say. -/
def RdL (n : Nat) (E : World → (Nat → Value) → α → Prop) (W : World) (v : Value) (L : List α) : Prop :=
  ∃ fs : List (Nat → Value), RdE n W v fs ∧ fs.length = L.length ∧ ∀ (i : Nat) (p : α), L[i]? = some p → ∃ f : Nat → Value, fs[i]? = some f ∧ E W f p
/-- What is said stands while memory is but made. -/
class StbE (E : World → (Nat → Value) → α → Prop) : Prop where
  new : ∀ {w w' : World} {f : Nat → Value} {p : α}, E w f p → NewT w w' → E w' f p
variable {n : Nat} {E : World → (Nat → Value) → α → Prop}
theorem RdL.new [StbE E] {w w' : World} {v : Value} {L : List α} (h : RdL n E w v L) (hN : NewT w w') : RdL n E w' v L := by
  obtain ⟨fs, h1, h2, h3⟩ := h
  refine ⟨fs, h1.new hN, h2, fun i p hp => ?_⟩
  obtain ⟨f, e1, e2⟩ := h3 i p hp
  exact ⟨f, e1, StbE.new e2 hN⟩
theorem rdL_nil (w : World) : RdL n E w (.slice none 0 0) [] := ⟨[], rdE_nil n w, rfl, fun i p h => by simp at h⟩
theorem RdL.form {w : World} {v : Value} {L : List α} (h : RdL n E w v L) : ∃ A c, v = .slice A L.length c ∧ L.length ≤ c ∧ c ≤ maxLen := by
  obtain ⟨fs, ⟨A, c, hv, h1, h2, _⟩, e, _⟩ := h
  rw [e] at hv h1
  exact ⟨A, c, hv, h1, h2⟩
theorem RdL.one {w : World} {v : Value} {L : List α} (h : RdL n E w v L) : v.oneCell' = true := by
  obtain ⟨A, c, rfl, _⟩ := h.form; rfl
def svL (n : Nat) (E : World → (Nat → Value) → α → Prop) [StbE E] (L : List α) : SV NewT := ⟨fun v w => RdL n E w v L, fun _ _ _ h hT => h.new hT⟩
/-- A place where an element lies. -/
def svEl (n : Nat) (E : World → (Nat → Value) → α → Prop) [StbE E] (p : α) : SV NewT := ⟨fun v w => ∃ b o f, v = .pointer (some ⟨b, o, none⟩) ∧ (0 < n → ∀ j, j < n → w.cell? ⟨b, o + j, none⟩ = some (f j)) ∧ E w f p,
  fun v w w' h hT => by
    obtain ⟨b, o, f, h1, h2, h3⟩ := h
    refine ⟨b, o, f, h1, fun h0 j hj => ?_, StbE.new h3 hT⟩
    have := h2 h0 j hj
    exact (hT.out.cell (p := ⟨b, o + j, none⟩) (World.block_lt_of_cell? _ _ this)).trans this⟩
/-- A row that says something. -/
def svAg (n : Nat) (E : World → (Nat → Value) → α → Prop) [StbE E] (p : α) : SV NewT := ⟨fun v w => ∃ f, v = .agg (rowA n f) ∧ E w f p, fun _ _ _ ⟨f, h1, h2⟩ hT => ⟨f, h1, StbE.new h2 hT⟩⟩
section
variable {P : Program} {sT eT : TypeId} {a : Act} {w : World} {o : Oper} {K : Act → World → Prop} {Q : Exit → Act → World → Prop} {x y : Operand} [StbE E]
theorem opr_lenL {L : List α} (ho : o.op = .call { callee := .builtin .len, args := #[x], argTypes := #[sT] }) (T : ElTy Tryd.prog sT eT n) (hx : RdL n E w (a.eval x) L) (h : K (a.put o.dst (.int .i64 (L.length : Int))) w) : o.wp Tryd.prog a w K Q := by
  obtain ⟨A, c, hv, _⟩ := hx.form
  exact opr_len ho T.ul hv h
theorem opr_idxL {L : List α} {i : Nat} {m : Int} {p : α} (T : ElTy P sT eT n) (hd : L[i]? = some p) (hn : m = (i : Int)) (ho : o.op = .indexAddr sT x y) (hx : RdL n E w (a.eval x) L) (hy : a.eval y = .int .i64 m) (h : ∀ v, (svEl n E p).pred v w → K (a.put o.dst v) w) : o.wp P a w K Q := by
  subst hn
  obtain ⟨dst, op, type, pos, after, guard⟩ := o
  simp only at ho
  subst ho
  obtain ⟨fs, ⟨A, c, hv, _, _, h3⟩, e, h4⟩ := hx
  have hi : i < fs.length := by rw [e]; exact (List.getElem?_eq_some_iff.1 hd).1
  obtain ⟨f, hf, hE⟩ := h4 i p hd
  obtain ⟨b, off, rfl, hc⟩ := h3 (by omega)
  exact opr_val (s := Instr.indexAt sT (a.eval x) (a.eval y)) rfl (by rw [hv, hy]; exact run_idxE T w hi) (h _ ⟨b, off + i * n, f, rfl, fun _ j hj => hc i f hf j hj, hE⟩)
theorem opr_ldL {p : α} (T : ElTy P sT eT n) (ho : o.op = .load eT x) (hx : (svEl n E p).pred (a.eval x) w) (h : ∀ v, (svAg n E p).pred v w → K (a.put o.dst v) w) : o.wp P a w K Q := by
  obtain ⟨dst, op, type, pos, after, guard⟩ := o
  simp only at ho
  subst ho
  obtain ⟨b, off, f, hv, hc, hE⟩ := hx
  exact opr_val (s := Instr.loadAt eT (a.eval x)) rfl (by rw [hv]; exact run_ldE T (hc T.pos)) (h _ ⟨f, rfl, hE⟩)
theorem RdL.take {A : Option Addr} {L : List α} {c k : Nat} (h : RdL n E w (.slice A L.length c) L) (hk : k ≤ L.length) : RdL n E w (.slice A k c) (L.take k) := by
  obtain ⟨fs, h1, e, h3⟩ := h
  rw [← e] at h1
  refine ⟨fs.take k, rdE_take h1 (by omega), by rw [List.length_take, List.length_take, e], fun i p hp => ?_⟩
  rw [List.getElem?_take] at hp ⊢
  split at hp
  next hlt => rw [if_pos hlt]; exact h3 i p hp
  next => cases hp
theorem RdL.drop {A : Option Addr} {L : List α} {c k : Nat} (h : RdL n E w (.slice A L.length c) L) (hk : k ≤ L.length) : RdL n E w (.slice (if c = k then A else A.map (·.add (k * n))) (L.length - k) (c - k)) (L.drop k) := by
  obtain ⟨fs, h1, e, h3⟩ := h
  rw [← e] at h1
  refine ⟨fs.drop k, by rw [← e]; exact rdE_drop h1 (by omega), by simp [e], fun i p hp => ?_⟩
  rw [List.getElem?_drop] at hp ⊢
  exact h3 _ p hp
end
/-- A row of the call's own, in blocks from B on, whose elements say the list. -/
def OwnL (eT : TypeId) (n : Nat) (E : World → (Nat → Value) → α → Prop) (W : World) (B : Nat) (v : Value) (L : List α) : Prop :=
  ∃ fs : List (Nat → Value), OwnE eT n W B v fs ∧ fs.length = L.length ∧ ∀ (i : Nat) (p : α), L[i]? = some p → ∃ f : Nat → Value, fs[i]? = some f ∧ E W f p
variable {eT : TypeId}
theorem OwnL.rd {W : World} {B : Nat} {v : Value} {L : List α} (h : OwnL eT n E W B v L) : RdL n E W v L := by
  obtain ⟨fs, h1, h2, h3⟩ := h; exact ⟨fs, h1.rd, h2, h3⟩
theorem OwnL.lt {W : World} {B : Nat} {v : Value} {L : List α} (h : OwnL eT n E W B v L) : ∀ k, v.ownBlock = some k → B ≤ k ∧ k < W.heap.size := by
  obtain ⟨fs, h1, _⟩ := h; exact h1.lt
theorem OwnL.new [StbE E] {W W' : World} {B : Nat} {v : Value} {L : List α} (h : OwnL eT n E W B v L) (hN : NewT W W') : OwnL eT n E W' B v L := by
  obtain ⟨fs, h1, h2, h3⟩ := h
  refine ⟨fs, h1.new hN, h2, fun i p hp => ?_⟩
  obtain ⟨f, e1, e2⟩ := h3 i p hp
  exact ⟨f, e1, StbE.new e2 hN⟩
theorem OwnL.mono {W : World} {B B' : Nat} {v : Value} {L : List α} (h : OwnL eT n E W B v L) (hB : B' ≤ B) : OwnL eT n E W B' v L := by
  obtain ⟨fs, h1, h2⟩ := h; exact ⟨fs, h1.mono hB, h2⟩
end
end Go.Proofs.YtchpmdcacpjojaaDoor
/- Keys and checkpoints that came in, opened (layer 10): structs by value. No program is named here but by its facts on types. -/
namespace Go.Proofs.YtchpmdcacpjojaaDoor
open Go Go.ChangeShapes Go.WideShapes Go.ChangeAt Go.WideMaps Go.WideElems Go.RowKit
set_option maxRecDepth 8000
set_option linter.all false
/-- What a program's types must say of a hash. -/
structure HashTy (P : Program) (t e : TypeId) : Prop where
  arr : P.underlying t = some (.array 32 e)
  u8 : P.underlying e = some (.int .u8)
  ce : P.cellsOf t = 32
  c8 : P.cellsOf e = 1
/-- The cells of a mark: a witness's number, a tag. -/
def sigF (s : Int × Hs) (i : Nat) : Value := if i = 0 then .int .i64 s.1 else bF s.2 (i - 1)
/-- A slice of marks reads as l. -/
def RdS (W : World) (v : Value) (l : List (Int × Hs)) : Prop :=
  ∃ A cap, v = .slice A l.length cap ∧ l.length ≤ cap ∧ cap ≤ maxLen ∧ (0 < l.length → ∃ b o, A = some ⟨b, o, none⟩ ∧ ∀ i x, l[i]? = some x → ∀ j, j < 33 → W.cell? ⟨b, o + i * 33 + j, none⟩ = some (sigF x j))
theorem NewT.sigs {w w' : World} (h : NewT w w') {v : Value} {l : List (Int × Hs)} (hr : RdS w v l) : RdS w' v l := by
  obtain ⟨A, cap, hv, h1, h2, h3⟩ := hr
  refine ⟨A, cap, hv, h1, h2, fun h0 => ?_⟩
  obtain ⟨b, o, hA, hc⟩ := h3 h0
  exact ⟨b, o, hA, fun i x hx j hj => (h.out.cell (p := ⟨b, o + i * 33 + j, none⟩) (World.block_lt_of_cell? _ _ (hc i x hx j hj))).trans (hc i x hx j hj)⟩
section
variable {H : Type} {enc : TypeId × Value → H} {P : Program} {w : World} {base : Nat} {spare : Nat → Bool} {held : Bool} {n : Nat} {ty : TypeId} {o : Nat} {cs : Array Value}
theorem field_hashes {tH e : TypeId} (hT : P.underlying ty = some (.slice tH)) (tH' : HashTy P tH e) (hc : P.cellsOf ty = 1) (h : ∃ y, DataW.trod enc P w base spare held n ty ((cs.toList.drop o).take (P.cellsOf ty)) = some y) : ∃ v l, cs[o]? = some v ∧ RdH w v l := by
  obtain ⟨y, h⟩ := h
  rw [hc] at h
  rcases Go.Deep.open_slice hT h with ⟨hcs, _⟩ | ⟨a, len, cap, m, n', D, Pl, hcs, _, hl, hm, hmm, _, hx⟩
  · exact ⟨_, [], take_one hcs, none, 0, rfl, by simp, by unfold maxLen; omega, fun h0 => absurd h0 (by simp)⟩
  · have hlm : len ≤ m := by rw [hmm]; split <;> omega
    have each : ∀ i, i < len → ∃ d : Hs, ∀ j, j < 32 → w.cell? (a.add (i * 32 + j)) = some (bF d j) := fun i hi => by
      obtain ⟨cs', h1, h2⟩ := hx i (by omega)
      rw [tH'.ce] at h1
      obtain ⟨_, hlen, hcell⟩ := World.cells?_some h1
      obtain ⟨d, hd⟩ := field_hash (cs := cs'.toArray) (o := 0) (m := 32) tH'.arr tH'.u8 tH'.ce tH'.c8 ⟨_, by simpa [tH'.ce, ← hlen] using h2⟩
      refine ⟨d, fun j hj => ?_⟩
      have h4 := hcell j (by omega)
      rw [Go.Deep.add_add] at h4
      rw [h4]
      have := hd j hj
      simpa [bF] using this
    obtain ⟨q, hq⟩ := Go.Deep.choose_lt each
    have hlen : ((List.range len).map q).length = len := by simp
    refine ⟨_, (List.range len).map q, take_one hcs, some a, cap, by rw [hlen], by rw [hlen]; exact hl, hm, fun h0 => ?_⟩
    rw [hlen] at h0
    obtain ⟨b, off, spot⟩ := a
    have hspot : spot = none := by simpa [Addr.add] using World.cell?_spot (hq 0 h0 0 (by omega))
    subst hspot
    refine ⟨b, off, rfl, fun i d hd j hj => ?_⟩
    have hi : i < len := by have := (List.getElem?_eq_some_iff.1 hd).1; simpa using this
    simp [hi] at hd
    subst hd
    have := hq i hi j hj
    rwa [Go.WideShapes.add_plain, ← Nat.add_assoc] at this
end
/-- The cells of keys. -/
def keyF (pv wv : Value) (need : Int) (i : Nat) : Value := if i = 0 then pv else if i = 1 then wv else .int .i64 need
/-- A value that is keys: participants' secrets, witnesses', how many must sign. -/
def KeysV (w : World) (v : Value) (ps ws : List Hs) (need : Int) : Prop := ∃ pv wv, v = .agg (rowA 3 (keyF pv wv need)) ∧ RdH w pv ps ∧ RdH w wv ws
theorem NewT.keysV {w w' : World} (h : NewT w w') {v : Value} {ps ws : List Hs} {need : Int} (hr : KeysV w v ps ws need) : KeysV w' v ps ws need := by
  obtain ⟨pv, wv, h1, h2, h3⟩ := hr
  exact ⟨pv, wv, h1, h.hs h2, h.hs h3⟩
/-- What a program's types must say of keys. -/
structure KeysTy (P : Program) (t tH e : TypeId) (f0 f1 f2 : Field) : Prop where
  st : P.underlying t = some (.struct #[f0, f1, f2])
  cells : P.cellsOf t = 3
  o0 : f0.offset = 0
  o1 : f1.offset = 1
  o2 : f2.offset = 2
  t0 : P.underlying f0.type = some (.slice tH)
  t1 : P.underlying f1.type = some (.slice tH)
  t2 : P.underlying f2.type = some (.int .i64)
  c0 : P.cellsOf f0.type = 1
  c1 : P.cellsOf f1.type = 1
  c2 : P.cellsOf f2.type = 1
  hash : HashTy P tH e
section
variable {H : Type} {enc : TypeId × Value → H} {P : Program} {w : World} {base : Nat} {spare : Nat → Bool} {held : Bool} {r : Reach} {b0 : Nat} {t tS tH e : TypeId} {v : Value} {d : DataW H} {p : List MemPlace} {f0 f1 f2 g0 g1 : Field}
theorem open_keys (K : KeysTy P t tH e f0 f1 f2) (hv : Value.okWide P w r b0 t v) (h : DataW.Trod enc P w base spare held t v d p) : ∃ ps ws need, KeysV w v ps ws need ∧ (Lit.int .i64 need).wf = true := by
  obtain ⟨cs, n, rfl, hsz, hf⟩ := open_fields K.st hv h
  rw [K.cells] at hsz
  have q0 := hf 0 f0 rfl
  have q1 := hf 1 f1 rfl
  have q2 := hf 2 f2 rfl
  rw [K.o0] at q0
  rw [K.o1] at q1
  rw [K.o2] at q2
  obtain ⟨pv, ps, e0, r0⟩ := field_hashes K.t0 K.hash K.c0 q0
  obtain ⟨wv, ws, e1, r1⟩ := field_hashes K.t1 K.hash K.c1 q1
  obtain ⟨z, e2, wz⟩ := field_int K.t2 K.c2 q2
  refine ⟨ps, ws, z, ⟨pv, wv, ?_, r0, r1⟩, wz⟩
  congr 1
  apply Array.ext_getElem?
  intro i
  by_cases hi : i < 3
  · rw [rowA_at _ _ _ hi]
    have : i = 0 ∨ i = 1 ∨ i = 2 := by omega
    rcases this with rfl | rfl | rfl <;> simpa [keyF]
  · rw [Array.getElem?_eq_none (by omega), Array.getElem?_eq_none (by rw [rowA_size]; omega)]
end
end Go.Proofs.YtchpmdcacpjojaaDoor
/- New slices of hashes, and appends onto a call's own. -/
namespace Go.Proofs.YtchpmdcacpjojaaDoor
open Go Go.RowKit
set_option maxRecDepth 8000
set_option linter.all false

theorem infoH : (Tryd.prog.info? 32).map (fun i => (i.zero, i.size, i.bytes)) = some (some (.agg (rowA 32 (bF fun _ => 0))), 32, 32) := by kernel_rfl
theorem run_bsH2 (d e : Hs) (w : World) : (Instr.buildSlice 22 2 #[(0, .agg (rowA 32 (bF d))), (1, .agg (rowA 32 (bF e)))]).run Tryd.prog w = .ok (.slice (some ⟨w.heap.size, 0, none⟩) 2 2) (w.alloc (.cells (rowA 64 fun i => bif Nat.blt i 32 then bF d i else bF e (i - 32)) 32)) := by kernel_rfl
/-- A row of hashes of the call's own, in blocks from B on. -/
def OwnH (W : World) (B : Nat) (v : Value) (l : List Hs) : Prop := W.ownsRow B 32 32 v l.length (hcs l)
theorem OwnH.rd {W : World} {B : Nat} {v : Value} {l : List Hs} (h : OwnH W B v l) : RdH W v l := rdH_own h
theorem OwnH.lt {W : World} {B : Nat} {v : Value} {l : List Hs} (h : OwnH W B v l) : ∀ k, v.ownBlock = some k → B ≤ k ∧ k < W.heap.size := World.ownsRow.lt h
theorem OwnH.keep {W W' : World} {B : Nat} {v : Value} {l : List Hs} (h : OwnH W B v l) (hk : ∀ k, v.ownBlock = some k → W'.heap[k]? = W.heap[k]?) : OwnH W' B v l := by
  obtain ⟨h1, h2⟩ := h
  refine ⟨h1, ?_⟩
  rcases h2 with h2 | ⟨g, cap, cur, hv, hb, hg, r⟩
  · exact .inl h2
  · exact .inr ⟨g, cap, cur, hv, hb, (hk g (by rw [hv]; rfl)).trans hg, r⟩
theorem OwnH.new {W W' : World} {B : Nat} {v : Value} {l : List Hs} (h : OwnH W B v l) (hN : NewT W W') : OwnH W' B v l := h.keep fun k hk => hN.out.block k (h.lt k hk).2
theorem OwnH.cap {W : World} {B : Nat} {v : Value} {l : List Hs} (h : OwnH W B v l) : ∃ A c, v = .slice A l.length c ∧ l.length ≤ c := by
  rcases h.2 with ⟨hv, h0⟩ | ⟨g, cap, cur, hv, _, _, hc, _⟩
  · exact ⟨none, 0, by rw [hv, h0], by omega⟩
  · exact ⟨_, cap, hv, hc⟩
/-- The last ones are left off. -/
theorem OwnH.take {W : World} {B : Nat} {A : Option Addr} {n c k : Nat} {l : List Hs} (h : OwnH W B (.slice A n c) l) (hk : k ≤ l.length) (h0 : 0 < l.length) : OwnH W B (.slice A k c) (l.take k) := by
  have hl : (l.take k).length = k := by rw [List.length_take]; omega
  refine ⟨hcs_length _, ?_⟩
  rcases h.2 with ⟨_, h2⟩ | ⟨g, cap, cur, hv, hb, hg, hc, hm, hs, hx⟩
  · omega
  · cases hv
    refine .inr ⟨g, c, cur, by rw [hl], hb, hg, by rw [hl]; omega, hm, hs, ?_⟩
    have e := congrArg (List.take (k * 32)) hx
    rw [List.take_take, hcs_take l k hk, Nat.min_eq_left (Nat.mul_le_mul_right 32 hk)] at e
    rw [hl]; exact e
theorem run_appH {W : World} {B : Nat} {v u : Value} {l m : List Hs} (h : OwnH W B v l) (hr : RdH W u m) (hn : l.length + m.length ≤ 1000000) (hB : B ≤ W.heap.size) (ty : TypeId) :
    ∃ v' w', (Builtin.append_ #[22, 22] ty #[v, u]).run Tryd.prog W = .ok v' w' ∧ OwnH w' B v' (l ++ m) ∧ W.grownBy w' v.ownBlock := by
  obtain ⟨i0, hi, hz0, hz1, hz2⟩ := info_parts infoH
  have hr0 := hr
  obtain ⟨A, cap, rfl, h1, h2, h3⟩ := hr
  cases A with
  | none =>
    have h0 : m = [] := by
      cases m with
      | nil => rfl
      | cons b l => obtain ⟨_, _, h, _⟩ := h3 (by simp); cases h
    subst h0
    refine ⟨v, W, ?_, by simpa using h, World.grownBy.refl W _⟩
    rcases h.2 with ⟨rfl, h0⟩ | ⟨g, cap', cur, rfl, _, _, hnc, _⟩
    · simp [Builtin.append_, run_underlying Tryd.underlying22, sizeOf, typeInfo, hi, Builtin.lenOf, Builtin.firstCells]
    · simp [Builtin.append_, run_underlying Tryd.underlying22, sizeOf, typeInfo, hi, Builtin.lenOf, Builtin.firstCells, hnc, storeCells]
  | some ad =>
    have hcells : ∀ j u, (hcs m)[j]? = some u → W.cell? (ad.add j) = some u := fun j u hj => by
      have hlt : j < m.length * 32 := by rw [← hcs_length]; exact (List.getElem?_eq_some_iff.1 hj).1
      obtain ⟨b, o, hA, _⟩ := h3 (by omega)
      cases hA
      exact hr0.news j u hj
    obtain ⟨v', w', hrun, ho, hg, _⟩ := run_append_own (P := Tryd.prog) W B 22 ty 32 i0 _ 32 32 Tryd.underlying22 hi hz0 hz1 hz2 (by rw [show (Value.agg (rowA 32 (bF fun _ => 0))).cells = rowA 32 (bF fun _ => 0) from rfl, rowA_size]) (by omega) v l.length (hcs l) h ad m.length cap (hcs m) (hcs_length m) hcells (hcs_one_cell m) (by unfold maxLen; omega) (by omega) hB
    refine ⟨v', w', hrun, ?_, hg⟩
    unfold OwnH
    rw [List.length_append, hcs_app]
    exact ho
section
variable {a : Act} {w : World} {o : Oper} {K : Act → World → Prop} {Q : Exit → Act → World → Prop} {x y : Operand}
theorem opr_bsH2 {d e : Hs} (ho : o.op = .buildSlice 22 2 #[(0, x), (1, y)]) (hx : a.eval x = .agg (rowA 32 (bF d))) (hy : a.eval y = .agg (rowA 32 (bF e))) (h : ∀ v w', NewT w w' → RdH w' v [d, e] → K (a.put o.dst v) w') : o.wp Tryd.prog a w K Q := by
  obtain ⟨dst, op, type, pos, after, guard⟩ := o
  simp only at ho
  subst ho
  refine opr_val (s := Instr.buildSlice 22 2 #[(0, a.eval x), (1, a.eval y)]) (by simp [execOp]) (by rw [hx, hy]; exact run_bsH2 d e w) (h _ _ (NewT.alloc _ _) ?_)
  refine rdH_row (l := [d, e]) (rowIs_box w 32 64 _) (by simp) (by simp [maxLen]) fun i f he j hj => ?_
  have hi : i < 2 := (List.getElem?_eq_some_iff.1 he).1
  have hi' : i = 0 ∨ i = 1 := by omega
  rcases hi' with rfl | rfl
  · simp at he; subst he
    have : Nat.blt (0 * 32 + j) 32 = true := by rw [Nat.blt_eq]; omega
    rw [this, show 0 * 32 + j = j by omega]; rfl
  · simp at he; subst he
    have : Nat.blt (1 * 32 + j) 32 = false := by
      cases hb : Nat.blt (1 * 32 + j) 32
      · rfl
      · rw [Nat.blt_eq] at hb; omega
    rw [this, show 1 * 32 + j - 32 = j by omega]; rfl
end
end Go.Proofs.YtchpmdcacpjojaaDoor
/- Slices of marks (a witness's number, a tag): they read as lists; elements, new ones, appends. -/
namespace Go.Proofs.YtchpmdcacpjojaaDoor
open Go Go.RowKit
set_option maxRecDepth 8000
set_option linter.all false
/-- The cells of marks, one behind the other. -/
def gcs (l : List (Int × Hs)) : List Value := l.flatMap fun d => (List.range 33).map (sigF d)
theorem gcs_length (l : List (Int × Hs)) : (gcs l).length = l.length * 33 := by
  induction l with
  | nil => rfl
  | cons d l ih => rw [gcs, List.flatMap_cons, List.length_append, show (l.flatMap fun d => (List.range 33).map (sigF d)) = gcs l from rfl, ih]; simp; omega
theorem gcs_at (l : List (Int × Hs)) : ∀ (i : Nat) (d : Int × Hs), l[i]? = some d → ∀ j, j < 33 → (gcs l)[i * 33 + j]? = some (sigF d j) := by
  induction l with
  | nil => intro i d h; simp at h
  | cons e l ih =>
    intro i d h j hj
    have hl : ((List.range 33).map (sigF e)).length = 33 := by simp
    rw [show gcs (e :: l) = (List.range 33).map (sigF e) ++ gcs l from rfl]
    cases i with
    | zero => simp at h; subst h; rw [List.getElem?_append_left (by rw [hl]; omega)]; simp [hj]
    | succ i => rw [List.getElem?_append_right (by rw [hl]; omega), hl, show (i + 1) * 33 + j - 33 = i * 33 + j by omega]; exact ih i d (by simpa using h) j hj
/-- The cells that a slice of marks reads, as a list. -/
theorem RdS.news {w : World} {l : List (Int × Hs)} {b o n c : Nat} (h : RdS w (.slice (some ⟨b, o, none⟩) n c) l) : ∀ j u, (gcs l)[j]? = some u → w.cell? ((⟨b, o, none⟩ : Addr).add j) = some u := by
  intro j u hj
  obtain ⟨A, cap, hv, _, _, h3⟩ := h
  have hlt : j < l.length * 33 := by rw [← gcs_length]; exact (List.getElem?_eq_some_iff.1 hj).1
  obtain ⟨b', o', hA, hc⟩ := h3 (by omega)
  injection hv with e1 _ _
  rw [hA] at e1
  cases e1
  have hi : j / 33 < l.length := by omega
  have hd : l[j / 33]? = some l[j / 33] := List.getElem?_eq_getElem hi
  have h1 := gcs_at l _ _ hd (j % 33) (by omega)
  rw [show j / 33 * 33 + j % 33 = j by omega] at h1
  rw [h1] at hj
  cases hj
  have := hc _ _ hd (j % 33) (by omega)
  rw [Addr.add_mid, show o + j = o + j / 33 * 33 + j % 33 by omega]
  exact this
section
variable {a : Act} {w : World} {o : Oper} {K : Act → World → Prop} {Q : Exit → Act → World → Prop} {x y : Operand}
end

section
variable {a : Act} {w : World} {o : Oper} {K : Act → World → Prop} {Q : Exit → Act → World → Prop} {x y : Operand}
end
/-- It reads as l, and there is no room behind it. -/
def svGF (l : List (Int × Hs)) : SV NewT := ⟨fun v w => (∃ A, v = .slice A l.length l.length) ∧ RdS w v l, fun _ _ _ ⟨h1, h2⟩ hT => ⟨h1, hT.sigs h2⟩⟩
end Go.Proofs.YtchpmdcacpjojaaDoor
/- Single operations: a pointer that isn't nil, sums, differences, products. -/
namespace Go.Proofs.YtchpmdcacpjojaaDoor
open Go Go.RowKit
set_option maxRecDepth 8000
set_option linter.all false
section
variable {P : Program} {a : Act} {w : World} {o : Oper} {K : Act → World → Prop} {Q : Exit → Act → World → Prop} {x y : Operand}
theorem opr_nilc {A : Addr} (ho : o.op = .nilCheck x) (hx : a.eval x = .pointer (some A)) (h : K (a.put o.dst (.pointer (some A))) w) : o.wp P a w K Q := by
  obtain ⟨dst, op, type, pos, after, guard⟩ := o
  simp only at ho
  subst ho
  simpa [Oper.wp, execOp, hx, Oper.upon, Sem.run_pure] using h
theorem opr_add {t t2 : TypeId} {m n r : Int} (ht : P.underlying t = some (.int .i64)) (hr : wrap64 (m + n) = r) (ho : o.op = .binOp .add t x y t2) (hx : a.eval x = .int .i64 m) (hy : a.eval y = .int .i64 n) (h : K (a.put o.dst (.int .i64 r)) w) : o.wp P a w K Q := by
  obtain ⟨dst, op, type, pos, after, guard⟩ := o
  simp only at ho
  subst ho hr
  refine opr_val (s := do eqGuard .add t x y (a.eval x) (a.eval y); binOp .add t (a.eval x) (a.eval y)) rfl ?_ h
  rw [hx, hy]; simp [go_sem]; rw [IntKind.wrap_i64, wrap64]
theorem opr_sub {t t2 : TypeId} {m n r : Int} (ht : P.underlying t = some (.int .i64)) (hr : wrap64 (m - n) = r) (ho : o.op = .binOp .sub t x y t2) (hx : a.eval x = .int .i64 m) (hy : a.eval y = .int .i64 n) (h : K (a.put o.dst (.int .i64 r)) w) : o.wp P a w K Q := by
  obtain ⟨dst, op, type, pos, after, guard⟩ := o
  simp only at ho
  subst ho hr
  refine opr_val (s := do eqGuard .sub t x y (a.eval x) (a.eval y); binOp .sub t (a.eval x) (a.eval y)) rfl ?_ h
  rw [hx, hy]; simp [go_sem]; rw [IntKind.wrap_i64, wrap64]
end
end Go.Proofs.YtchpmdcacpjojaaDoor
/- Where a list is split: math/bits.Len, Split, and the reference's. -/
namespace Go.Proofs.YtchpmdcacpjojaaDoor
open Go Go.RowKit
set_option maxRecDepth 8000
set_option linter.all false
end Go.Proofs.YtchpmdcacpjojaaDoor
/- The small functions of package sha: rotations, the six sums, choose and majority: each call returns the document's number and leaves the world as it was. -/
namespace Go.Proofs.YtchpmdcacpjojaaDoor
open Go.RowKit
set_option maxRecDepth 8000
set_option linter.all false
attribute [local go_sem] u32_add u32_xor u32_and u32_or u32_not signed_u32 wrap_uN u32_shl u32_shr u32_div8 u32_div1024

theorem and31 (n : Nat) (hn : 0 < n) (hn2 : n < 32) : bits .and .u64 (IntKind.u64.wrap (-(n : Int))) 31 = ((32 - n : Nat) : Int) := by
  have : ∀ k : Fin 32, 0 < k.val → bits .and .u64 (IntKind.u64.wrap (-(k.val : Int))) 31 = ((32 - k.val : Nat) : Int) := by decide
  exact this ⟨n, hn2⟩ hn
set_option maxHeartbeats 400000 in
theorem rot_any (x : BitVec 32) (n : Nat) (hn : 0 < n) (hn2 : n < 32) (w : World) :
    Calls Tryd.prog 97 #[.int .u32 (uN x), .int .i64 (-(n : Int))] w fun e w' => e = .returned (.int .u32 (uN (x.rotateRight n))) ∧ w = w' := by
  have hs := and31 n hn hn2
  obtain ⟨m, hm⟩ : ∃ m, 32 - n = m := ⟨_, rfl⟩
  have Hm := Lib.hid hm
  rw [hm] at hs
  have h1 : 1 ≤ m := by omega
  have h2 : m ≤ 31 := by omega
  clear hm
  go_enter Tryd.func97, Tryd.ntmps97
  go_wp2
  go_ret
  refine ⟨?_, rfl⟩
  have hm := Hm.out
  obtain rfl : n = 32 - m := by omega
  have e := uN_rotr x (32 - m) hn2
  rw [u32_or, show 32 - (32 - m) = m by omega] at e
  exact congrArg (fun z => Ending.returned (Value.int IntKind.u32 z)) e
set_option maxHeartbeats 400000 in
theorem turnRight_any (x : BitVec 32) (n : Int) (hn : 0 < n) (hn2 : n < 32) (w : World) :
    Calls Tryd.prog 96 #[.int .u32 (uN x), .int .i64 n] w fun e w' => e = .returned (.int .u32 (uN (x.rotateRight n.toNat))) ∧ w = w' := by
  obtain ⟨m, rfl⟩ := Int.eq_ofNat_of_zero_le (Int.le_of_lt hn)
  rw [Int.toNat_natCast]
  go_enter Tryd.func96, Tryd.ntmps96
  go_wp2_with fail
  refine (rot_any x m (by omega) (by omega) _).mono ?_
  rintro e w' ⟨rfl, rfl⟩
  go_wp2
  go_ret
  exact ⟨rfl, rfl⟩
def bs1 (x : BitVec 32) : BitVec 32 := x.rotateRight 6 ^^^ x.rotateRight 11 ^^^ x.rotateRight 25
set_option maxHeartbeats 400000 in
theorem bs1_any (x : BitVec 32) (w : World) :
    Calls Tryd.prog 90 #[.int .u32 (uN x)] w fun e w' => e = .returned (.int .u32 (uN (bs1 x))) ∧ w = w' := by
  go_enter Tryd.func90, Tryd.ntmps90
  go_wp2_with (go_at_call 96; refine (turnRight_any x _ (by decide) (by decide) _).mono ?_; rintro e w' ⟨rfl, rfl⟩)
  go_ret
  exact ⟨rfl, rfl⟩
def bs0 (x : BitVec 32) : BitVec 32 := x.rotateRight 2 ^^^ x.rotateRight 13 ^^^ x.rotateRight 22
set_option maxHeartbeats 400000 in
theorem bs0_any (x : BitVec 32) (w : World) :
    Calls Tryd.prog 92 #[.int .u32 (uN x)] w fun e w' => e = .returned (.int .u32 (uN (bs0 x))) ∧ w = w' := by
  go_enter Tryd.func92, Tryd.ntmps92
  go_wp2_with (go_at_call 96; refine (turnRight_any x _ (by decide) (by decide) _).mono ?_; rintro e w' ⟨rfl, rfl⟩)
  go_ret
  exact ⟨rfl, rfl⟩
def ss1 (x : BitVec 32) : BitVec 32 := x.rotateRight 17 ^^^ x.rotateRight 19 ^^^ x >>> 10
set_option maxHeartbeats 400000 in
theorem ss1_any (x : BitVec 32) (w : World) :
    Calls Tryd.prog 94 #[.int .u32 (uN x)] w fun e w' => e = .returned (.int .u32 (uN (ss1 x))) ∧ w = w' := by
  go_enter Tryd.func94, Tryd.ntmps94
  go_wp2_with (go_at_call 96; refine (turnRight_any x _ (by decide) (by decide) _).mono ?_; rintro e w' ⟨rfl, rfl⟩)
  go_ret
  exact ⟨rfl, rfl⟩
def ss0 (x : BitVec 32) : BitVec 32 := x.rotateRight 7 ^^^ x.rotateRight 18 ^^^ x >>> 3
set_option maxHeartbeats 400000 in
theorem ss0_any (x : BitVec 32) (w : World) :
    Calls Tryd.prog 95 #[.int .u32 (uN x)] w fun e w' => e = .returned (.int .u32 (uN (ss0 x))) ∧ w = w' := by
  go_enter Tryd.func95, Tryd.ntmps95
  go_wp2_with (go_at_call 96; refine (turnRight_any x _ (by decide) (by decide) _).mono ?_; rintro e w' ⟨rfl, rfl⟩)
  go_ret
  exact ⟨rfl, rfl⟩
def chs (x y z : BitVec 32) : BitVec 32 := (x &&& y) ^^^ (~~~x &&& z)
set_option maxHeartbeats 400000 in
theorem chs_any (x y z : BitVec 32) (w : World) :
    Calls Tryd.prog 91 #[.int .u32 (uN x), .int .u32 (uN y), .int .u32 (uN z)] w fun e w' => e = .returned (.int .u32 (uN (chs x y z))) ∧ w = w' := by
  go_enter Tryd.func91, Tryd.ntmps91
  go_wp2
  go_ret
  exact ⟨rfl, rfl⟩
def maj (x y z : BitVec 32) : BitVec 32 := (x &&& y) ^^^ (x &&& z) ^^^ (y &&& z)
set_option maxHeartbeats 400000 in
theorem maj_any (x y z : BitVec 32) (w : World) :
    Calls Tryd.prog 93 #[.int .u32 (uN x), .int .u32 (uN y), .int .u32 (uN z)] w fun e w' => e = .returned (.int .u32 (uN (maj x y z))) ∧ w = w' := by
  go_enter Tryd.func93, Tryd.ntmps93
  go_wp2
  go_ret
  exact ⟨rfl, rfl⟩
end Go.Proofs.YtchpmdcacpjojaaDoor
namespace Go.Proofs.YtchpmdcacpjojaaDoor
open Go.RowKit
set_option maxRecDepth 8000
set_option linter.all false
attribute [local go_sem] u32_add u32_xor u32_and u32_or u32_not signed_u32 wrap_uN u32_mul256 bN_u32

def wordTo (l : List UInt8) (t : Nat) : Nat → BitVec 32
  | 0 => 0
  | j + 1 => (wordTo l t j <<< 8) ||| (bAt l (4 * t + j)).toBitVec.setWidth 32
def zero64 : Nat → Value := fun _ => .int .u32 0
def part1 (l : List UInt8) (k j : Nat) : Nat → Value := fun i => .int .u32 (uN (if i < k then wordTo l i 4 else if i = k then wordTo l k j else 0))

theorem rowIs_zeros (w : World) (t : TypeId) : (w.alloc (.cells (Array.replicate 64 (.int .u32 0)) t)).rowIs w.heap.size t 64 zero64 := by
  have := World.rowIs_alloc w (Array.replicate 64 (.int .u32 0)) t zero64 (fun i hi => by simp at hi; simp [zero64, hi])
  simpa using this
theorem part1_start (l : List UInt8) (i : Nat) : zero64 i = part1 l 0 0 i := by
  simp only [zero64, part1]; by_cases h : i = 0 <;> simp [h, wordTo, uN]
theorem part1_next (l : List UInt8) (k i : Nat) : part1 l k 4 i = part1 l (k + 1) 0 i := by
  simp only [part1]
  by_cases h : i < k
  · rw [if_pos h, if_pos (by omega)]
  · by_cases h2 : i = k
    · subst h2; simp
    · rw [if_neg h, if_neg h2, if_neg (by omega)]; by_cases h3 : i = k + 1 <;> simp [h3, wordTo]
theorem part1_set (l : List UInt8) (k j i : Nat) : (if i = k then Value.int .u32 (uN (wordTo l k (j + 1))) else part1 l k j i) = part1 l k (j + 1) i := by
  simp only [part1]
  by_cases h : i = k
  · subst h; simp
  · simp [h]
def schedL (l : List UInt8) : Nat → List (BitVec 32)
  | 0 => (List.range 16).map fun i => wordTo l i 4
  | n + 1 => schedL l n ++ [ss1 ((schedL l n).getD (n + 14) 0) + (schedL l n).getD (n + 9) 0 + ss0 ((schedL l n).getD (n + 1) 0) + (schedL l n).getD n 0]
def wS (l : List UInt8) (n i : Nat) : BitVec 32 := (schedL l n).getD i 0
def part2 (l : List UInt8) (n : Nat) : Nat → Value := fun i => .int .u32 (uN (wS l n i))
theorem schedL_length (l : List UInt8) (n : Nat) : (schedL l n).length = 16 + n := by
  induction n with
  | zero => simp [schedL]
  | succ n ih => simp [schedL, ih]; omega
theorem part2_start (l : List UInt8) (i : Nat) : part1 l 16 0 i = part2 l 0 i := by
  simp only [part1, part2, wS, schedL]
  by_cases h : i < 16
  · simp [h]
  · by_cases h2 : i = 16
    · subst h2; simp [wordTo]
    · simp [h, h2]
theorem wS_old (l : List UInt8) (n i : Nat) (h : i < 16 + n) : wS l (n + 1) i = wS l n i := by
  have := schedL_length l n
  simp only [wS, schedL]
  simp [List.getElem?_append, this, h]
theorem wS_new (l : List UInt8) (n : Nat) : wS l (n + 1) (16 + n) = ss1 (wS l n (n + 14)) + wS l n (n + 9) + ss0 (wS l n (n + 1)) + wS l n n := by
  have := schedL_length l n
  simp only [wS, schedL]
  simp [this]
theorem wS_past (l : List UInt8) (n i : Nat) (h : 16 + n ≤ i) : wS l n i = 0 := by
  have := schedL_length l n
  simp only [wS]
  simp [this, h]
theorem part2_set (l : List UInt8) (t : Nat) (ht : 16 ≤ t) (i : Nat) :
    (if i = t then Value.int .u32 (uN (ss1 (wS l (t - 16) (t - 2)) + wS l (t - 16) (t - 7) + ss0 (wS l (t - 16) (t - 15)) + wS l (t - 16) (t - 16))) else part2 l (t - 16) i) = part2 l (t + 1 - 16) i := by
  obtain ⟨n, rfl⟩ : ∃ n, t = 16 + n := ⟨t - 16, by omega⟩
  rw [show 16 + n - 16 = n by omega, show 16 + n - 2 = n + 14 by omega, show 16 + n - 7 = n + 9 by omega, show 16 + n - 15 = n + 1 by omega, show 16 + n + 1 - 16 = n + 1 by omega]
  simp only [part2]
  by_cases h : i = 16 + n
  · subst h; rw [if_pos rfl, wS_new]
  · rw [if_neg h]
    by_cases h2 : i < 16 + n
    · rw [wS_old l n i h2]
    · rw [wS_past l n i (by omega), wS_past l (n + 1) i (by omega)]
theorem part1_at (l : List UInt8) (k j : Nat) : part1 l k j k = .int .u32 (uN (wordTo l k j)) := by simp [part1]

set_option maxHeartbeats 400000 in
theorem schedule_any (l : List UInt8) (b o cap : Nat) (hcap : 64 ≤ cap) (hm : cap ≤ maxLen) (w : World) (hb : b < w.heap.size)
    (hc : ∀ i, i < 64 → w.cell? ⟨b, o + i, none⟩ = some (.int .u8 (bN (bAt l i)))) :
    Calls Tryd.prog 87 #[.slice (some ⟨b, o, none⟩) 64 cap] w fun e w' => e = .returned (.agg (rowA 64 fun i => .int .u32 (uN (wS l 48 i)))) ∧ Below w.heap.size w w' := by
  unfold maxLen at hm
  have HC := Lib.hid hc
  clear hc
  go_enter Tryd.func87, Tryd.ntmps87
  go_wp2
  go_loopw [8] (fun i wr => ∃ k : Nat, k ≤ 16 ∧ i = .int .i64 k ∧ wr.rowIs w.heap.size 126 64 zero64 ∧ wr.rowIs (w.heap.size + 1) 126 64 (part1 l k 0) ∧ Below w.heap.size w wr) (fun i _ => 16 - (intOf i).toNat)
  case atStart =>
    refine ⟨0, Nat.zero_le _, rfl, (rowIs_zeros w 126).alloc _, ?_, ((Below.refl _ w).alloc (Nat.le_refl _) _).alloc (by simp) _⟩
    have h := rowIs_zeros (w.alloc (.cells (Array.replicate 64 (.int .u32 0)) 126)) 126
    rw [World.size_alloc] at h
    exact h.congr fun i _ => part1_start l i
  case round =>
    obtain ⟨k, hk, rfl, hz, hr, hB⟩ := hrel
    by_cases hlt : k < 16
    · go_wp2
      go_loopw [19] (fun i wr => ∃ j : Nat, j ≤ 4 ∧ i = .int .i64 j ∧ wr.rowIs w.heap.size 126 64 zero64 ∧ wr.rowIs (w.heap.size + 1) 126 64 (part1 l k j) ∧ Below w.heap.size w wr) (fun i _ => 4 - (intOf i).toNat)
      case atStart => exact ⟨0, Nat.zero_le _, rfl, hz, hr, hB⟩
      case round =>
        obtain ⟨j, hj, rfl, hz2, hr2, hB2⟩ := hrel
        clear hz hr hB
        by_cases hlt2 : j < 4
        · have hcell := (hB2.cell (p := ⟨b, o + (4 * k + j), none⟩) hb).trans (HC.out (4 * k + j) (by omega))
          rw [← Nat.add_assoc] at hcell
          have hw := hr2.cell (i := k) (by omega)
          rw [part1_at] at hw
          have hf := hr2.frozen k
          go_wp2
          go_roundw
          case rel => exact ⟨j + 1, by omega, by go_num, hz2.setOther (by simp) _, (hr2.set k _).congr fun i _ => part1_set l k j i, hB2.setCell (by simp) _⟩
          case measure => simp [intOf]; omega
        · obtain rfl : j = 4 := by omega
          go_wp2
          go_roundw
          case rel => exact ⟨k + 1, by omega, by go_num, hz2, hr2.congr fun i _ => part1_next l k i, hB2⟩
          case measure => simp [intOf]; omega
    · obtain rfl : k = 16 := by omega
      rw [show ((16 : Nat) : Int) = 16 from rfl]
      go_wp2
      go_loopw [7] (fun i wr => ∃ t : Nat, 16 ≤ t ∧ t ≤ 64 ∧ i = .int .i64 t ∧ wr.rowIs w.heap.size 126 64 zero64 ∧ wr.rowIs (w.heap.size + 1) 126 64 (part2 l (t - 16)) ∧ Below w.heap.size w wr) (fun i _ => 64 - (intOf i).toNat)
      case atStart => exact ⟨16, by omega, by omega, rfl, hz, hr.congr fun i _ => part2_start l i, hB⟩
      case round =>
        obtain ⟨t, ht1, ht2, rfl, hz2, hr2, hB2⟩ := hrel
        clear hz hr hB
        by_cases hlt : t < 64
        · have c0 : wr.cell? ⟨w.heap.size + 1, t, none⟩ = some (.int .u32 (uN (wS l (t - 16) t))) := hr2.cell (i := t) (by omega)
          have c2 : wr.cell? ⟨w.heap.size + 1, t - 2, none⟩ = some (.int .u32 (uN (wS l (t - 16) (t - 2)))) := hr2.cell (i := t - 2) (by omega)
          have c7 : wr.cell? ⟨w.heap.size + 1, t - 7, none⟩ = some (.int .u32 (uN (wS l (t - 16) (t - 7)))) := hr2.cell (i := t - 7) (by omega)
          have c15 : wr.cell? ⟨w.heap.size + 1, t - 15, none⟩ = some (.int .u32 (uN (wS l (t - 16) (t - 15)))) := hr2.cell (i := t - 15) (by omega)
          have c16 : wr.cell? ⟨w.heap.size + 1, t - 16, none⟩ = some (.int .u32 (uN (wS l (t - 16) (t - 16)))) := hr2.cell (i := t - 16) (by omega)
          have hf := hr2.frozen t
          have i2 : (2 : Int) ≤ t := by omega
          have j2 : (t : Int) - 2 < 64 := by omega
          have i7 : (7 : Int) ≤ t := by omega
          have j7 : (t : Int) - 7 < 64 := by omega
          have i15 : (15 : Int) ≤ t := by omega
          have j15 : (t : Int) - 15 < 64 := by omega
          have i16 : (16 : Int) ≤ t := by omega
          have j16 : (t : Int) - 16 < 64 := by omega
          go_wp2
          refine wp_region_still_tail 23 (by kernel_rfl) (by kernel_rfl) ?_
          simp only [List.take_succ_cons, List.take_zero, List.drop_succ_cons, List.drop_zero]
          iterate 5 (refine wpStill_step (fun K hK => ?_); go_simp; (try go_bits); refine hK _ ?_; clear hK K)
          (refine wpStill_step (fun K hK => ?_); go_simp; refine ⟨_, ((ss1_any _ _).mono fun _ _ h => ⟨h.1, h.2.symm⟩), hK _ ?_⟩; clear hK K)
          iterate 9 (refine wpStill_step (fun K hK => ?_); go_simp; (try go_bits); refine hK _ ?_; clear hK K)
          (refine wpStill_step (fun K hK => ?_); go_simp; refine ⟨_, ((ss0_any _ _).mono fun _ _ h => ⟨h.1, h.2.symm⟩), hK _ ?_⟩; clear hK K)
          iterate 7 (refine wpStill_step (fun K hK => ?_); go_simp; (try go_bits); refine hK _ ?_; clear hK K)
          refine wpStill_nil ?_
          go_wp2
          go_roundw
          case rel => exact ⟨t + 1, by omega, by omega, by go_num, hz2.setOther (by simp) _, (hr2.set t _).congr fun i _ => part2_set l t ht1 i, (hB2.setCell (p := ⟨w.heap.size + 1, t, none⟩) (by simp) _).drew⟩
          case measure => simp [intOf]; omega
        · obtain rfl : t = 64 := by omega
          have hsz : (Tryd.prog.info? 126).map (·.size) = some 64 := by kernel_rfl
          have hR := rangeAt_row hr2
          go_wp2_with (first
            | (refine wpList_load_mid rfl 126 (.tmp 3) rfl (w.heap.size + 1) 0 rfl (rowA 64 (part2 l (64 - 16))).toList _ hR Tryd.underlying126 rfl (by rw [rowA_toList]; simpa using hsz) ?_)
            | (refine wpList_store_mid rfl 126 (.tmp 2) (.tmp 61) rfl w.heap.size 0 (rowA 64 (part2 l (64 - 16))) rfl rfl (by rw [rowA_size]; exact there_row hz2) (by rw [rowA_size]; exact hsz) (rowA_one _ _ fun _ => rfl) ?_))
          exact bodyPost_ret (results_row rfl _ rfl (rowIs_setAll hz2 (part2 l 48)) Tryd.underlying126 hsz) rfl ⟨rfl, below_setCells _ (Nat.le_refl _) _ _ _ hB2⟩
end Go.Proofs.YtchpmdcacpjojaaDoor
namespace Go.Proofs.YtchpmdcacpjojaaDoor
open Go.RowKit
set_option maxRecDepth 8000
set_option linter.all false
attribute [local go_sem] u32_add u32_xor u32_and u32_or u32_not signed_u32 wrap_uN rowA_at

/-- Eight numbers as the model has them. -/
def uF (s : Nat → BitVec 32) : Nat → Value := fun i => .int .u32 (uN (s i))
theorem uF_at (s : Nat → BitVec 32) (i : Nat) : uF s i = .int .u32 (uN (s i)) := rfl
attribute [local go_sem] uF_at
structure ShSt where
  a : BitVec 32
  b : BitVec 32
  c : BitVec 32
  d : BitVec 32
  e : BitVec 32
  f : BitVec 32
  g : BitVec 32
  h : BitVec 32
def ShSt.get (s : ShSt) : Nat → BitVec 32
  | 0 => s.a | 1 => s.b | 2 => s.c | 3 => s.d | 4 => s.e | 5 => s.f | 6 => s.g | 7 => s.h | _ => 0
def ShSt.of (f : Nat → BitVec 32) : ShSt := ⟨f 0, f 1, f 2, f 3, f 4, f 5, f 6, f 7⟩
def ShSt.one (s : ShSt) (k w : BitVec 32) : BitVec 32 := s.h + bs1 s.e + chs s.e s.f s.g + k + w
def ShSt.two (s : ShSt) : BitVec 32 := bs0 s.a + maj s.a s.b s.c
def ShSt.next (s : ShSt) (k w : BitVec 32) : ShSt := ⟨s.one k w + s.two, s.a, s.b, s.c, s.d + s.one k w, s.e, s.f, s.g⟩
def runTo (K W : Nat → BitVec 32) (s : ShSt) : Nat → ShSt
  | 0 => s
  | t + 1 => (runTo K W s t).next (K t) (W t)

theorem cell_drew {w : World} {a : Addr} {v : Value} (h : w.cell? a = some v) : w.drew.cell? a = some v := h
set_option maxHeartbeats 800000 in
theorem rounds_any (K s W : Nat → BitVec 32) (w : World) (h1 : 1 < w.heap.size)
    (hK : ∀ i, i < 64 → w.cell? ⟨1, i, none⟩ = some (.int .u32 (uN (K i)))) :
    Calls Tryd.prog 86 #[.agg (rowA 8 (uF s)), .agg (rowA 64 (uF W))] w fun e w' => e = .returned (.agg (rowA 8 (uF (runTo K W (ShSt.of s) 64).get))) ∧ Below w.heap.size w w' := by
  have HK := Lib.hid hK
  clear hK
  go_enter Tryd.func86, Tryd.ntmps86
  go_wp2
  have r0 := ((rowIs_box w 117 8 (uF s)).alloc (.cells (rowA 64 (uF W)) 126)).alloc (.cells (rowA 8 fun _ => .int .u32 0) 117)
  have r1 := (rowIs_box (w.alloc (.cells (rowA 8 (uF s)) 117)) 126 64 (uF W)).alloc (.cells (rowA 8 fun _ => .int .u32 0) 117)
  have r2 := rowIs_box ((w.alloc (.cells (rowA 8 (uF s)) 117)).alloc (.cells (rowA 64 (uF W)) 126)) 117 8 fun _ => .int .u32 0
  have hB : Below w.heap.size w (((w.alloc (.cells (rowA 8 (uF s)) 117)).alloc (.cells (rowA 64 (uF W)) 126)).alloc (.cells (rowA 8 fun _ => .int .u32 0) 117)) :=
    (((Below.refl _ w).alloc (Nat.le_refl _) _).alloc (by simp) _).alloc (by simp; omega) _
  rw [World.size_alloc] at r1 r2
  rw [World.size_alloc] at r2
  rw [show (#[Value.int IntKind.u32 0, Value.int IntKind.u32 0, Value.int IntKind.u32 0, Value.int IntKind.u32 0, Value.int IntKind.u32 0, Value.int IntKind.u32 0, Value.int IntKind.u32 0, Value.int IntKind.u32 0] : Array Value) = rowA 8 (fun _ => .int .u32 0) from rfl]
  generalize (((w.alloc (.cells (rowA 8 (uF s)) 117)).alloc (.cells (rowA 64 (uF W)) 126)).alloc (.cells (rowA 8 fun _ => .int .u32 0) 117)) = W0 at r0 r1 r2 hB ⊢
  have c0 := r0.cell (i := 0) (by omega)
  have c1 := r0.cell (i := 1) (by omega)
  have c2 := r0.cell (i := 2) (by omega)
  have c3 := r0.cell (i := 3) (by omega)
  have c4 := r0.cell (i := 4) (by omega)
  have c5 := r0.cell (i := 5) (by omega)
  have c6 := r0.cell (i := 6) (by omega)
  have c7 := r0.cell (i := 7) (by omega)
  clear r0
  go_still (by kernel_rfl)
  clear c0 c1 c2 c3
  replace c4 := cell_drew c4
  replace c5 := cell_drew c5
  replace c6 := cell_drew c6
  replace c7 := cell_drew c7
  replace r1 := r1.drew
  replace r2 := r2.drew
  replace hB := hB.drew
  go_wp2
  change Code.wp _ _ _ _ W0.drew
  generalize W0.drew = W1 at c4 c5 c6 c7 r1 r2 hB ⊢
  go_still (by kernel_rfl)
  clear c4 c5 c6 c7
  replace r1 := r1.drew
  replace r2 := r2.drew
  replace hB := hB.drew
  go_wp2
  change Code.wp _ _ _ _ W1.drew
  generalize W1.drew = W2 at r1 r2 hB ⊢
  go_loopw [5, 6, 7, 8, 9, 10, 11, 12, 32] (fun a b c d e f g h i wr => ∃ t : Nat, ∃ x : ShSt, t ≤ 64 ∧ i = .int .i64 t ∧ Hid (x = runTo K W (ShSt.of s) t) ∧ a = .int .u32 (uN x.a) ∧ b = .int .u32 (uN x.b) ∧ c = .int .u32 (uN x.c) ∧ d = .int .u32 (uN x.d) ∧ e = .int .u32 (uN x.e) ∧ f = .int .u32 (uN x.f) ∧ g = .int .u32 (uN x.g) ∧ h = .int .u32 (uN x.h) ∧ wr.rowIs (w.heap.size + 1) 126 64 (uF W) ∧ wr.rowIs (w.heap.size + 1 + 1) 117 8 (fun _ => .int .u32 0) ∧ Below w.heap.size w wr) (fun _ _ _ _ _ _ _ _ i _ => 64 - (intOf i).toNat)
  case atStart => exact ⟨0, ShSt.of s, by omega, rfl, rfl, rfl, rfl, rfl, rfl, rfl, rfl, rfl, rfl, r1, r2, hB⟩
  case round =>
    obtain ⟨t, x, ht, rfl, hx, rfl, rfl, rfl, rfl, rfl, rfl, rfl, rfl, q1, q2, qB⟩ := hrel
    clear r1 r2 hB
    by_cases hlt : t < 64
    · have cW := q1.cell (i := t) (by omega)
      have cK := (qB.cell (p := ⟨1, t, none⟩) h1).trans (HK.out t hlt)
      have i64 : (t : Int) < 64 := by omega
      go_wp2
      refine wp_region_still_lit (by kernel_rfl) (by kernel_rfl) ?_
      iterate 2 (refine wpStill_step (fun K hK => ?_); go_simp; (try go_bits); refine hK _ ?_; clear hK K)
      (refine wpStill_step (fun K hK => ?_); go_simp; refine ⟨_, ((bs1_any _ _).mono fun _ _ h => ⟨h.1, h.2.symm⟩), hK _ ?_⟩; clear hK K)
      iterate 4 (refine wpStill_step (fun K hK => ?_); go_simp; (try go_bits); refine hK _ ?_; clear hK K)
      (refine wpStill_step (fun K hK => ?_); go_simp; refine ⟨_, ((chs_any _ _ _ _).mono fun _ _ h => ⟨h.1, h.2.symm⟩), hK _ ?_⟩; clear hK K)
      iterate 10 (refine wpStill_step (fun K hK => ?_); go_simp; (try go_bits); refine hK _ ?_; clear hK K)
      refine wpStill_nil ?_
      go_wp2_with (first | (go_at_call 92; refine (bs0_any _ _).mono ?_; rintro e w' ⟨rfl, rfl⟩) | (go_at_call 93; refine (maj_any _ _ _ _).mono ?_; rintro e w' ⟨rfl, rfl⟩))
      go_roundw
      case rel => exact ⟨t + 1, x.next (K t) (W t), by omega, by go_num, Lib.hid (by rw [hx.out]; rfl), rfl, rfl, rfl, rfl, rfl, rfl, rfl, rfl, q1.drew, q2.drew, qB.drew⟩
      case measure => simp [intOf]; omega
    · obtain rfl : t = 64 := by omega
      have hsz : (Tryd.prog.info? 117).map (·.size) = some 8 := by kernel_rfl
      go_wp2_with (refine wpList_store_mid rfl 117 (.tmp 4) (.tmp 80) rfl (w.heap.size + 1 + 1) 0 (rowA 8 (uF x.get)) rfl rfl (by rw [rowA_size]; exact there_row q2) (by rw [rowA_size]; exact hsz) (rowA_one _ _ fun _ => rfl) ?_)
      exact bodyPost_ret (results_row rfl _ rfl (rowIs_setAll q2 (uF x.get)) Tryd.underlying117 hsz) rfl ⟨by rw [hx.out], below_setCells _ (by omega) _ _ _ qB⟩
end Go.Proofs.YtchpmdcacpjojaaDoor
namespace Go.Proofs.YtchpmdcacpjojaaDoor
open Go.RowKit
set_option maxRecDepth 8000
set_option linter.all false
attribute [local go_sem] u32_add u32_xor u32_and u32_or u32_not signed_u32 wrap_uN uF_at

theorem info23 : (Tryd.prog.info? 117).map (·.size) = some 8 := by kernel_rfl

/-- A row of eight cells of type 23 that may be written. -/
def Row8 (W : World) (g : Nat) : Prop := ∃ f, W.rowIs g 117 8 f
theorem Row8_drew (W : World) (g : Nat) : Row8 W.drew g ↔ Row8 W g := Iff.rfl
theorem Row8_new (W : World) (f : Nat → Value) (g : Nat) (h : g = W.heap.size) : Row8 (W.alloc (.cells #[f 0, f 1, f 2, f 3, f 4, f 5, f 6, f 7] 117)) g := by subst h; exact ⟨f, rowIs_box W 117 8 f⟩
theorem Row8_zero (W : World) (g : Nat) (h : W.heap.size = g) : Row8 (W.alloc (.cells #[.int .u32 0, .int .u32 0, .int .u32 0, .int .u32 0, .int .u32 0, .int .u32 0, .int .u32 0, .int .u32 0] 117)) g := Row8_new W (fun _ => .int .u32 0) _ h.symm
theorem Row8_below {W W' : World} (h : Below W.heap.size W W') (g : Nat) (hg : Row8 W g) : Row8 W' g := by obtain ⟨f, r⟩ := hg; exact ⟨f, rowIs_below r h r.lt⟩
theorem run_store8 {W : World} {g : Nat} (h : Row8 W g) (f : Nat → BitVec 32) : (storeCells ⟨g, 0, none⟩ (rowA 8 (uF f)).toList).run Tryd.prog W = .ok () (W.setCells g 0 (rowA 8 (uF f)).toList) := by
  obtain ⟨z, r⟩ := h
  have := run_storeCells_cells (P := Tryd.prog) g 0 (rowA 8 (uF f)).toList 0 W (fun j hj => by simpa using (there_row r j (by rw [rowA_toList] at hj; simpa using hj)).1) (fun j hj => by simpa using (there_row r j (by rw [rowA_toList] at hj; simpa using hj)).2)
    (fun v hv => by rw [rowA_toList] at hv; obtain ⟨i, _, rfl⟩ := List.mem_map.1 hv; rfl)
  simpa using this
theorem Row8.setAll {W : World} {g : Nat} (h : Row8 W g) (f : Nat → Value) : (W.setCells g 0 (rowA 8 f).toList).rowIs g 117 8 f := by obtain ⟨z, r⟩ := h; exact rowIs_setAll r f
def mixed (s T : Nat → BitVec 32) (k : Nat) : Nat → BitVec 32 := fun i => if i < k then s i + T i else s i
theorem mixed_set (s T : Nat → BitVec 32) (k i : Nat) : (if i = k then Value.int .u32 (uN (s k + T k)) else uF (mixed s T k) i) = uF (mixed s T (k + 1)) i := by
  simp only [uF, mixed]
  by_cases h : i = k
  · subst h; simp
  · by_cases h2 : i < k
    · rw [if_neg h, if_pos h2, if_pos (by omega)]
    · rw [if_neg h, if_neg h2, if_neg (by omega)]
theorem schedule_near {B : Nat} {W0 : World} (l : List UInt8) (b o cap : Nat) (hcap : 64 ≤ cap) (hm : cap ≤ maxLen) (hb : b < B)
    (hc : ∀ i, i < 64 → W0.cell? ⟨b, o + i, none⟩ = some (.int .u8 (bN (bAt l i)))) (w : World) (hB : Below B W0 w) (hs : B ≤ w.heap.size) :
    Calls Tryd.prog 87 #[.slice (some ⟨b, o, none⟩) 64 cap] w fun e w' => e = .returned (.agg (rowA 64 (uF (wS l 48)))) ∧ Below B W0 w' ∧ (∀ g, Row8 w g → Row8 w' g) ∧ w.heap.size ≤ w'.heap.size :=
  (schedule_any l b o cap hcap hm w (by omega) (fun i hi => (hB.cell (p := ⟨b, o + i, none⟩) hb).trans (hc i hi))).mono fun _ _ h => ⟨h.1, hB.trans (h.2.mono hs), Row8_below h.2, h.2.size⟩
theorem rounds_near {B : Nat} {W0 : World} (K s W : Nat → BitVec 32) (h1 : 1 < B)
    (hK : ∀ i, i < 64 → W0.cell? ⟨1, i, none⟩ = some (.int .u32 (uN (K i)))) (w : World) (hB : Below B W0 w) (hs : B ≤ w.heap.size) :
    Calls Tryd.prog 86 #[.agg (rowA 8 (uF s)), .agg (rowA 64 (uF W))] w fun e w' => e = .returned (.agg (rowA 8 (uF (runTo K W (ShSt.of s) 64).get))) ∧ Below B W0 w' ∧ (∀ g, Row8 w g → Row8 w' g) ∧ w.heap.size ≤ w'.heap.size :=
  (rounds_any K s W w (by omega) (fun i hi => (hB.cell (p := ⟨1, i, none⟩) h1).trans (hK i hi))).mono fun _ _ h => ⟨h.1, hB.trans (h.2.mono hs), Row8_below h.2, h.2.size⟩

attribute [local go_sem] Row8_drew Row8_zero run_store8
set_option maxHeartbeats 1000000 in
theorem Turn_any (K s : Nat → BitVec 32) (l : List UInt8) (b o cap : Nat) (hcap : 64 ≤ cap) (hm : cap ≤ maxLen) (w : World) (hb : b < w.heap.size) (h1 : 1 < w.heap.size)
    (hK : ∀ i, i < 64 → w.cell? ⟨1, i, none⟩ = some (.int .u32 (uN (K i))))
    (hc : ∀ i, i < 64 → w.cell? ⟨b, o + i, none⟩ = some (.int .u8 (bN (bAt l i)))) :
    Calls Tryd.prog 80 #[.agg (rowA 8 (uF s)), .slice (some ⟨b, o, none⟩) 64 cap] w fun e w' => e = .returned (.agg (rowA 8 (uF fun i => s i + (runTo K (wS l 48) (ShSt.of s) 64).get i))) ∧ Below w.heap.size w w' := by
  have HK := Lib.hid hK
  have HC := Lib.hid hc
  clear hK hc
  go_enter Tryd.func80, Tryd.ntmps80
  go_wp2
  have r0 := (rowIs_box w 117 8 (uF s)).alloc (.cells (rowA 8 fun _ => .int .u32 0) 117)
  have r1 := rowIs_box (w.alloc (.cells (rowA 8 (uF s)) 117)) 117 8 fun _ => .int .u32 0
  have hB : Below w.heap.size w ((w.alloc (.cells (rowA 8 (uF s)) 117)).alloc (.cells (rowA 8 fun _ => .int .u32 0) 117)) :=
    ((Below.refl _ w).alloc (Nat.le_refl _) _).alloc (by simp) _
  have hs : ((w.alloc (.cells (rowA 8 (uF s)) 117)).alloc (.cells (rowA 8 fun _ => .int .u32 0) 117)).heap.size = w.heap.size + 2 := by simp
  rw [World.size_alloc] at r1
  rw [show (#[Value.int IntKind.u32 0, Value.int IntKind.u32 0, Value.int IntKind.u32 0, Value.int IntKind.u32 0, Value.int IntKind.u32 0, Value.int IntKind.u32 0, Value.int IntKind.u32 0, Value.int IntKind.u32 0] : Array Value) = rowA 8 (fun _ => .int .u32 0) from rfl]
  generalize ((w.alloc (.cells (rowA 8 (uF s)) 117)).alloc (.cells (rowA 8 fun _ => .int .u32 0) 117)) = W0 at r0 r1 hB hs ⊢
  have hB2 := Below.refl (w.heap.size + 2) W0
  have HB2 := Lib.hid hB2
  clear hB2
  have HK2 : Hid (∀ i, i < 64 → W0.cell? ⟨1, i, none⟩ = some (.int .u32 (uN (K i)))) := Lib.hid fun i hi => (hB.cell (p := ⟨1, i, none⟩) h1).trans (HK.out i hi)
  have HC2 : Hid (∀ i, i < 64 → W0.cell? ⟨b, o + i, none⟩ = some (.int .u8 (bN (bAt l i)))) := Lib.hid fun i hi => (hB.cell (p := ⟨b, o + i, none⟩) hb).trans (HC.out i hi)
  go_cut [5] (fun p wx => ∃ g : Nat, w.heap.size + 2 ≤ g ∧ p = .pointer (some ⟨g, 0, none⟩) ∧ wx.rowIs g 117 8 (uF (runTo K (wS l 48) (ShSt.of s) 64).get) ∧ Below (w.heap.size + 2) W0 wx)
  case first =>
    have HS : Hid (∀ w' : World, Below (w.heap.size + 2) W0 w' → w'.cell? ⟨w.heap.size, 0, none⟩ = some (uF s 0) ∧ w'.cell? ⟨w.heap.size, 1, none⟩ = some (uF s 1) ∧ w'.cell? ⟨w.heap.size, 2, none⟩ = some (uF s 2) ∧ w'.cell? ⟨w.heap.size, 3, none⟩ = some (uF s 3) ∧ w'.cell? ⟨w.heap.size, 4, none⟩ = some (uF s 4) ∧ w'.cell? ⟨w.heap.size, 5, none⟩ = some (uF s 5) ∧ w'.cell? ⟨w.heap.size, 6, none⟩ = some (uF s 6) ∧ w'.cell? ⟨w.heap.size, 7, none⟩ = some (uF s 7)) := Lib.hid fun w' h => by
      have r := rowIs_below r0 h (by omega)
      exact ⟨r.cell (by omega), r.cell (by omega), r.cell (by omega), r.cell (by omega), r.cell (by omega), r.cell (by omega), r.cell (by omega), r.cell (by omega)⟩
    have c0 := r0.cell (i := 0) (by omega)
    have c1 := r0.cell (i := 1) (by omega)
    have c2 := r0.cell (i := 2) (by omega)
    have c3 := r0.cell (i := 3) (by omega)
    have c4 := r0.cell (i := 4) (by omega)
    have c5 := r0.cell (i := 5) (by omega)
    have c6 := r0.cell (i := 6) (by omega)
    have c7 := r0.cell (i := 7) (by omega)
    go_region_held3 (fun w' => w'.cell? ⟨w.heap.size, 0, none⟩ = some (uF s 0) ∧ w'.cell? ⟨w.heap.size, 1, none⟩ = some (uF s 1) ∧ w'.cell? ⟨w.heap.size, 2, none⟩ = some (uF s 2) ∧ w'.cell? ⟨w.heap.size, 3, none⟩ = some (uF s 3) ∧ w'.cell? ⟨w.heap.size, 4, none⟩ = some (uF s 4) ∧ w'.cell? ⟨w.heap.size, 5, none⟩ = some (uF s 5) ∧ w'.cell? ⟨w.heap.size, 6, none⟩ = some (uF s 6) ∧ w'.cell? ⟨w.heap.size, 7, none⟩ = some (uF s 7)) (first | with_reducible exact HS.out _ hb2 | with_reducible exact HS.out _ (hb2.alloc (by simp at hz1 hz2; omega) _) | with_reducible exact HS.out _ (below_setCells _ (by first | omega | (simp at hz1 hz2 ⊢; omega)) _ _ _ (hb2.alloc (by simp at hz1 hz2; omega) _)) | with_reducible exact HS.out _ (below_setCells _ (by first | omega | (simp at hz1 hz2 ⊢; omega)) _ _ _ hb2) | with_reducible exact HS.out _ hb1 | with_reducible exact HS.out _ (hb1.alloc (by simp at hz1; omega) _) | with_reducible exact HS.out _ HB2.out.drew | with_reducible exact HS.out _ (HB2.out.alloc (by omega) _).drew | with_reducible exact HS.out _ HB2.out | (trace "keep"; go_keep)) (first
      | (go_at_call 87; refine (schedule_near (B := w.heap.size + 2) (W0 := W0) l b o cap hcap hm (by omega) HC2.out _ (by first | with_reducible exact HB2.out.drew | with_reducible exact (HB2.out.alloc (by omega) _).drew) (by simp; omega)).mono ?_; rintro e w1 ⟨rfl, hb1, hg1, hz1⟩; (first | (have z1 := hg1 _ ((Row8_drew _ _).2 (Row8_zero W0 _ hs))) | skip))
      | (go_at_call 86; refine (rounds_near (B := w.heap.size + 2) (W0 := W0) K s _ (by omega) HK2.out _ (by first | with_reducible exact hb1 | with_reducible exact hb1.alloc (by simp at hz1; omega) _) (by simp at hz1 ⊢; omega)).mono ?_; rintro e w2 ⟨rfl, hb2, hg2, hz2⟩; (first | (have z2 := hg2 _ (Row8_zero w1 _ rfl)) | (have z2 := hg2 _ z1) | skip)))
    · go_wp2_with fail
      go_meet
      case rel => exact ⟨_, by simp at hz1 hz2; omega, rfl, (Row8_zero w2 _ rfl).setAll _, below_setCells _ (by simp at hz1 hz2; omega) _ _ _ (hb2.alloc (by simp at hz1 hz2; omega) _)⟩
    · go_wp2_with fail
      go_meet
      case rel => exact ⟨_, by simp at hz1; omega, rfl, z2.setAll _, below_setCells _ (by simp at hz1; omega) _ _ _ hb2⟩
    · go_wp2_with fail
      go_meet
      case rel => exact ⟨_, Nat.le_refl _, rfl, z2.setAll _, below_setCells _ (Nat.le_refl _) _ _ _ hb2⟩
  case rest =>
    obtain ⟨g, hg, rfl, q2, qB⟩ := hcut
    have q0 := rowIs_below r0 qB (by omega)
    have q1 := rowIs_below r1 qB (by omega)
    have qw : Below w.heap.size w wc := hB.trans (qB.mono (by omega))
    clear r0 r1 hB hs HB2 HK2 HC2 HK HC qB
    generalize HT : (runTo K (wS l 48) (ShSt.of s) 64).get = T at q2
    have HT2 := Lib.hid HT
    clear HT
    go_wp2
    go_loopw [15] (fun i wr => ∃ k : Nat, k ≤ 8 ∧ i = .int .i64 k ∧ wr.rowIs w.heap.size 117 8 (uF (mixed s T k)) ∧ wr.rowIs (w.heap.size + 1) 117 8 (fun _ => .int .u32 0) ∧ wr.rowIs g 117 8 (uF T) ∧ Below w.heap.size w wr) (fun i _ => 8 - (intOf i).toNat)
    case atStart => exact ⟨0, by omega, rfl, q0, q1, q2, qw⟩
    case round =>
      obtain ⟨k, hk, rfl, r0, r1, r2, rB⟩ := hrel
      clear q0 q1 q2 qw
      by_cases hlt : k < 8
      · have c0 := r0.cell (i := k) (by omega)
        rw [uF_at, show mixed s T k k = s k by simp [mixed]] at c0
        have c2 := r2.cell (i := k) (by omega)
        have f0 := r0.frozen k
        have i8 : (k : Int) < 8 := by omega
        go_wp2
        refine wp_region_still_tail 8 (by kernel_rfl) (by kernel_rfl) ?_
        simp only [List.take_succ_cons, List.take_zero, List.drop_succ_cons, List.drop_zero]
        iterate 8 (refine wpStill_step (fun K hK => ?_); go_simp; (try go_bits); refine hK _ ?_; clear hK K)
        refine wpStill_nil ?_
        go_wp2
        go_roundw
        case rel => exact ⟨k + 1, by omega, by go_num, ((r0.set k _).congr fun i _ => mixed_set s T k i), r1.setOther (by simp) _, r2.setOther (by simp; omega) _, (rB.setCell (p := ⟨w.heap.size, k, none⟩) (by simp) _).drew⟩
        case measure => simp [intOf]; omega
      · obtain rfl : k = 8 := by omega
        have hR := rangeAt_row r0
        go_wp2_with (first
            | (refine wpList_load_mid rfl 117 (.tmp 2) rfl w.heap.size 0 rfl (rowA 8 (uF (mixed s T 8))).toList _ hR Tryd.underlying117 rfl (by rw [rowA_toList]; simpa using info23) ?_)
            | (refine wpList_store_mid rfl 117 (.tmp 4) (.tmp 27) rfl (w.heap.size + 1) 0 (rowA 8 (uF (mixed s T 8))) rfl rfl (by rw [rowA_size]; exact there_row r1) (by rw [rowA_size]; exact info23) (rowA_one _ _ fun _ => rfl) ?_))
        refine bodyPost_ret (results_row rfl _ rfl (rowIs_setAll r1 (uF (mixed s T 8))) Tryd.underlying117 info23) rfl ⟨?_, below_setCells _ (by omega) _ _ _ rB⟩
        rw [HT2.out]
        exact congrArg (fun z => Ending.returned (.agg z)) (rowA_congr fun i hi => by simp [uF, mixed, hi])
end Go.Proofs.YtchpmdcacpjojaaDoor
namespace Go.Proofs.YtchpmdcacpjojaaDoor
open Go.RowKit
set_option maxRecDepth 8000
set_option linter.all false
attribute [local go_sem] u32_add u32_xor u32_and u32_or u32_not signed_u32 wrap_uN uF_at u32_shr u32_u8

def dig (s : Nat → BitVec 32) (n : Nat) : UInt8 := UInt8.ofBitVec ((s (n / 4) >>> (24 - 8 * (n % 4))).setWidth 8)
def digTo (s : Nat → BitVec 32) (m n : Nat) : UInt8 := if n < m then dig s n else 0
theorem digTo_set (s : Nat → BitVec 32) (k j i : Nat) (hj : j < 4) :
    (if i = 4 * k + j then Value.int .u8 (bN (UInt8.ofBitVec ((s k >>> (24 - 8 * j)).setWidth 8))) else bF (digTo s (4 * k + j)) i) = bF (digTo s (4 * k + (j + 1))) i := by
  simp only [bF, digTo]
  by_cases h : i = 4 * k + j
  · subst h
    rw [if_pos rfl, if_pos (by omega), dig, show (4 * k + j) / 4 = k by omega, show (4 * k + j) % 4 = j by omega]
  · by_cases h2 : i < 4 * k + j
    · rw [if_neg h, if_pos h2, if_pos (by omega)]
    · rw [if_neg h, if_neg h2, if_neg (by omega)]
set_option maxHeartbeats 1000000 in
theorem digest_any (s : Nat → BitVec 32) (w : World) :
    Calls Tryd.prog 81 #[.agg (rowA 8 (uF s))] w fun e w' => e = .returned (.agg (rowA 32 (bF (dig s)))) ∧ Below w.heap.size w w' := by
  go_enter Tryd.func81, Tryd.ntmps81
  go_upto_region 2 with fail
  have r0 := ((rowIs_box w 117 8 (uF s)).alloc (.cells (rowA 32 (bF fun _ => 0)) 32)).alloc (.cells (rowA 32 (bF fun _ => 0)) 32)
  have r1 := (rowIs_box (w.alloc (.cells (rowA 8 (uF s)) 117)) 32 32 (bF fun _ => 0)).alloc (.cells (rowA 32 (bF fun _ => 0)) 32)
  have r2 := rowIs_box ((w.alloc (.cells (rowA 8 (uF s)) 117)).alloc (.cells (rowA 32 (bF fun _ => 0)) 32)) 32 32 (bF fun _ => 0)
  have hB : Below w.heap.size w (((w.alloc (.cells (rowA 8 (uF s)) 117)).alloc (.cells (rowA 32 (bF fun _ => 0)) 32)).alloc (.cells (rowA 32 (bF fun _ => 0)) 32)) :=
    (((Below.refl _ w).alloc (Nat.le_refl _) _).alloc (by simp) _).alloc (by simp; omega) _
  rw [World.size_alloc] at r1 r2
  rw [World.size_alloc] at r2
  change Code.wp _ _ _ _ (((w.alloc (.cells (rowA 8 (uF s)) 117)).alloc (.cells (rowA 32 (bF fun _ => 0)) 32)).alloc (.cells (rowA 32 (bF fun _ => 0)) 32))
  generalize (((w.alloc (.cells (rowA 8 (uF s)) 117)).alloc (.cells (rowA 32 (bF fun _ => 0)) 32)).alloc (.cells (rowA 32 (bF fun _ => 0)) 32)) = W0 at r0 r1 r2 hB ⊢
  have hR := rangeAt_row r0
  go_wp2_with (refine wpList_load_mid rfl 117 (.tmp 1) rfl w.heap.size 0 rfl (rowA 8 (uF s)).toList _ hR Tryd.underlying117 rfl (by rw [rowA_toList]; simpa using info23) ?_)
  clear hR r0
  go_loopw [8] (fun i wr => ∃ k : Nat, k ≤ 8 ∧ i = .int .i64 k ∧ wr.rowIs (w.heap.size + 1) 32 32 (bF fun _ => 0) ∧ wr.rowIs (w.heap.size + 1 + 1) 32 32 (bF (digTo s (4 * k))) ∧ Below w.heap.size w wr) (fun i _ => 8 - (intOf i).toNat)
  case atStart => exact ⟨0, by omega, rfl, r1, r2, hB⟩
  case round =>
    obtain ⟨k, hk, rfl, q1, q2, qB⟩ := hrel
    clear r1 r2 hB
    by_cases hlt : k < 8
    · have hix := index_row (P := Tryd.prog) 117 116 _ Tryd.underlying117 Tryd.underlying116 rfl (by kernel_rfl) (uF s) .i64 k hlt
      go_wp2
      clear hix
      go_loopw [12] (fun i wr => ∃ j : Nat, j ≤ 4 ∧ i = .int .i64 j ∧ wr.rowIs (w.heap.size + 1) 32 32 (bF fun _ => 0) ∧ wr.rowIs (w.heap.size + 1 + 1) 32 32 (bF (digTo s (4 * k + j))) ∧ Below w.heap.size w wr) (fun i _ => 4 - (intOf i).toNat)
      case atStart => exact ⟨0, by omega, rfl, q1, q2, qB⟩
      case round =>
        obtain ⟨j, hj, rfl, z1, z2, zB⟩ := hrel
        clear q1 q2 qB
        by_cases hj4 : j < 4
        · have c0 := z2.cell (i := 4 * k + j) (by omega)
          have f0 := z2.frozen (4 * k + j)
          have e24 : ((24 : Int) - 8 * (j : Int)).toNat = 24 - 8 * j := by omega
          go_wp2
          go_roundw
          case rel => exact ⟨j + 1, by omega, by go_num, z1.setOther (by simp) _, (z2.set (4 * k + j) _).congr fun i _ => digTo_set s k j i hj4, (zB.setCell (p := ⟨w.heap.size + 1 + 1, 4 * k + j, none⟩) (by simp; omega) _)⟩
          case measure => simp [intOf]; omega
        · obtain rfl : j = 4 := by omega
          go_wp2
          go_roundw
          case rel => exact ⟨k + 1, by omega, by go_num, z1, z2, zB⟩
          case measure => simp [intOf]; omega
    · obtain rfl : k = 8 := by omega
      have hR := rangeAt_row q2
      go_wp2_with (first
            | (refine wpList_load_mid rfl 32 (.tmp 3) rfl (w.heap.size + 1 + 1) 0 rfl (rowA 32 (bF (digTo s (4 * 8)))).toList _ hR Tryd.underlying32 rfl (by rw [rowA_toList]; simpa using info31) ?_)
            | (refine wpList_store_mid rfl 32 (.tmp 2) (.tmp 28) rfl (w.heap.size + 1) 0 (rowA 32 (bF (digTo s (4 * 8)))) rfl rfl (by rw [rowA_size]; exact there_row q1) (by rw [rowA_size]; exact info31) (rowA_one _ _ fun _ => rfl) ?_))
      refine bodyPost_ret (results_row rfl _ rfl (rowIs_setAll q1 (bF (digTo s (4 * 8)))) Tryd.underlying32 info31) rfl ⟨?_, below_setCells _ (by omega) _ _ _ qB⟩
      exact congrArg (fun z => Ending.returned (.agg z)) (rowA_congr fun i hi => by simp [bF, digTo, hi])
end Go.Proofs.YtchpmdcacpjojaaDoor
namespace Go.Proofs.YtchpmdcacpjojaaDoor
open Go.RowKit
set_option maxRecDepth 8000
set_option linter.all false
attribute [local go_sem] bF_at rowA_at

/-- The bytes that tell the length 8 n, the highest first. -/
def lenByte (n i : Nat) : UInt8 := UInt8.ofNat (n * 8 % 18446744073709551616 / 2 ^ (56 - 8 * i))
def fillHead (i : Nat) : UInt8 := if i = 0 then 128 else 0
def FillPost (n r : Nat) (w : World) (e : Ending) (w' : World) : Prop := ∃ v, e = .returned v ∧ w'.ownsRow w.heap.size 5 1 v (r + 8) ((List.range r).map (bF fillHead) ++ (List.range 8).map (bF (lenByte n))) ∧ Below w.heap.size w w'
theorem make_fill (i0 : TypeInfo) (hi : Tryd.prog.info? 5 = some i0) (hz0 : i0.zero = some (.int .u8 0)) (hz1 : i0.size = 1) (hz2 : i0.bytes = 1) (r : Nat) (hr : r ≤ 64) (W : World) :
    (Instr.makeSlice 49 (.int .i64 (r : Int)) (.int .i64 ((r : Int) + 8))).run Tryd.prog W = .ok (.slice (some ⟨W.heap.size, 0, none⟩) r (r + 8)) (W.alloc (.cells (rowA (r + 8) (bF fun _ => 0)) 5)) := by
  have := run_make (P := Tryd.prog) W 49 5 i0 _ Tryd.underlying49 hi hz0 .i64 .i64 (r : Int) ((r : Int) + 8) (by omega) (by omega) (by rw [hz2]; omega) (by omega)
  rw [this, hz1, show ((r : Int) + 8).toNat = r + 8 by omega, Int.toNat_natCast, Nat.mul_one]
  have e : madeCells (Value.int .u8 0).cells (r + 8) = rowA (r + 8) (bF fun _ => 0) := made_row (r + 8) (.int .u8 0)
  rw [e]
theorem lenByte_eq (n i : Nat) : IntKind.u8.wrap (IntKind.u64.wrap ((n : Int) * 8) / 2 ^ (56 - 8 * i)) = bN (lenByte n i) := by
  have h1 : IntKind.u64.wrap ((n : Int) * 8) = ((n * 8 % 18446744073709551616 : Nat) : Int) := by simp [IntKind.wrap, IntKind.bits, IntKind.signed]
  rw [h1, wrap_u8, lenByte, bN, UInt8.toNat_ofNat']
  have h2 : ((2 : Int) ^ (56 - 8 * i)) = ((2 ^ (56 - 8 * i) : Nat) : Int) := by simp
  rw [h2, ← Int.natCast_ediv]
  omega
set_option maxHeartbeats 1000000 in
theorem Fill_two (n r : Nat) (hn : n ≤ 9223372036854775807) (hr : (56 : Int) - (n : Int) % 64 = r) (hr1 : 1 ≤ r) (hr2 : r ≤ 64) (w : World) :
    Calls Tryd.prog 89 #[.int .i64 n] w (FillPost n r w) := by
  obtain ⟨i0, hi, hz0, hz1, hz2⟩ := info_parts info5
  have hmk : ∀ W : World, (Instr.makeSlice 49 (.int .i64 (r : Int)) (.int .i64 ((r : Int) + 8))).run Tryd.prog W = .ok (.slice (some ⟨W.heap.size, 0, none⟩) r (r + 8)) (W.alloc (.cells (rowA (r + 8) (bF fun _ => 0)) 5)) := make_fill i0 hi hz0 hz1 hz2 r hr2
  have h0 : 0 < r := by omega
  have hd0 : decide (r = 0) = false := by simp; omega
  have hlb := lenByte_eq n
  have HLB := Lib.hid hlb
  clear hlb
  go_enter Tryd.func89, Tryd.ntmps89
  go_wp2
  have r0 : (w.alloc (.cells ((rowA (r + 8) (bF fun _ => 0)).setIfInBounds 0 (.int .u8 128)) 5)).rowIs w.heap.size 5 (r + 8) (bF fillHead) := by
    have := (rowIs_box w 5 (r + 8) (bF fun _ => 0)).set 0 (.int .u8 128)
    rw [World.setCell_alloc_at _ _ _ _ _ rfl] at this
    exact this.congr fun i _ => by by_cases h : i = 0 <;> simp [h, bF, fillHead, bN]
  have hB : Below w.heap.size w (w.alloc (.cells ((rowA (r + 8) (bF fun _ => 0)).setIfInBounds 0 (.int .u8 128)) 5)) := (Below.refl _ w).alloc (Nat.le_refl _) _
  have ho := ownsRow_row r0 w.heap.size r (by omega) (by unfold maxLen; omega) (Nat.le_refl _)
  generalize w.alloc (.cells ((rowA (r + 8) (bF fun _ => 0)).setIfInBounds 0 (.int .u8 128)) 5) = W0 at ho hB ⊢
  clear r0 hmk
  go_loopw [4, 21] (fun v i wr => ∃ k : Nat, k ≤ 8 ∧ i = .int .i64 k ∧ wr.ownsRow w.heap.size 5 1 v (r + k) ((List.range r).map (bF fillHead) ++ (List.range k).map (bF (lenByte n))) ∧ Below w.heap.size w wr) (fun _ i _ => 8 - (intOf i).toNat)
  case atStart => exact ⟨0, by omega, rfl, by simpa using ho, hB⟩
  case round =>
    obtain ⟨k, hk, rfl, hown, qB⟩ := hrel
    clear ho hB
    by_cases hlt : k < 8
    · have e56 : ((56 : Int) - 8 * (k : Int)).toNat = 56 - 8 * k := by omega
      have hb8 := HLB.out k
      go_wp2_with (at_builtin; refine wpList_append_own _ rfl (.tmp 24) (.tmp 33) 49 rfl w.heap.size 5 i0 _ 1 1 Tryd.underlying49 hi hz0 hz1 hz2 rfl (by omega) u4 (r + k) _ rfl (hown.alloc _) ⟨wr.heap.size, 0, none⟩ 1 1 [bF (lenByte n) k] rfl rfl (one_cell _ _ _) (by simp [bF, Value.oneCell']) (by unfold maxLen; omega) (by omega) (by have := qB.size; simp; omega) ?_; intro v' w1 hown' hg1 _)
      go_roundw
      case rel =>
        refine ⟨k + 1, by omega, by go_num, ?_, (qB.alloc qB.size _).grown hg1 (by have := qB.size; simp; omega) (fun g e => (hown.lt g e).1)⟩
        rw [List.range_succ, List.map_append, ← List.append_assoc]
        exact hown'
      case measure => simp [intOf]; omega
    · obtain rfl : k = 8 := by omega
      go_wp2
      go_ret
      exact ⟨u4, rfl, hown, qB⟩
set_option maxHeartbeats 1000000 in
theorem Fill_one (n r : Nat) (hn : n ≤ 9223372036854775807) (hr0 : (56 : Int) - (n : Int) % 64 ≤ 0) (hr : (56 : Int) - (n : Int) % 64 + 64 = r) (hr2 : r ≤ 64) (w : World) :
    Calls Tryd.prog 89 #[.int .i64 n] w (FillPost n r w) := by
  obtain ⟨i0, hi, hz0, hz1, hz2⟩ := info_parts info5
  have hmk : ∀ W : World, (Instr.makeSlice 49 (.int .i64 (r : Int)) (.int .i64 ((r : Int) + 8))).run Tryd.prog W = .ok (.slice (some ⟨W.heap.size, 0, none⟩) r (r + 8)) (W.alloc (.cells (rowA (r + 8) (bF fun _ => 0)) 5)) := make_fill i0 hi hz0 hz1 hz2 r hr2
  have h0 : 0 < r := by omega
  have hlb := lenByte_eq n
  have HLB := Lib.hid hlb
  clear hlb
  go_enter Tryd.func89, Tryd.ntmps89
  go_wp2
  have r0 : (w.alloc (.cells ((rowA (r + 8) (bF fun _ => 0)).setIfInBounds 0 (.int .u8 128)) 5)).rowIs w.heap.size 5 (r + 8) (bF fillHead) := by
    have := (rowIs_box w 5 (r + 8) (bF fun _ => 0)).set 0 (.int .u8 128)
    rw [World.setCell_alloc_at _ _ _ _ _ rfl] at this
    exact this.congr fun i _ => by by_cases h : i = 0 <;> simp [h, bF, fillHead, bN]
  have hB : Below w.heap.size w (w.alloc (.cells ((rowA (r + 8) (bF fun _ => 0)).setIfInBounds 0 (.int .u8 128)) 5)) := (Below.refl _ w).alloc (Nat.le_refl _) _
  have ho := ownsRow_row r0 w.heap.size r (by omega) (by unfold maxLen; omega) (Nat.le_refl _)
  generalize w.alloc (.cells ((rowA (r + 8) (bF fun _ => 0)).setIfInBounds 0 (.int .u8 128)) 5) = W0 at ho hB ⊢
  clear r0 hmk
  go_loopw [4, 21] (fun v i wr => ∃ k : Nat, k ≤ 8 ∧ i = .int .i64 k ∧ wr.ownsRow w.heap.size 5 1 v (r + k) ((List.range r).map (bF fillHead) ++ (List.range k).map (bF (lenByte n))) ∧ Below w.heap.size w wr) (fun _ i _ => 8 - (intOf i).toNat)
  case atStart => exact ⟨0, by omega, rfl, by simpa using ho, hB⟩
  case round =>
    obtain ⟨k, hk, rfl, hown, qB⟩ := hrel
    clear ho hB
    by_cases hlt : k < 8
    · have e56 : ((56 : Int) - 8 * (k : Int)).toNat = 56 - 8 * k := by omega
      have hb8 := HLB.out k
      go_wp2_with (at_builtin; refine wpList_append_own _ rfl (.tmp 24) (.tmp 33) 49 rfl w.heap.size 5 i0 _ 1 1 Tryd.underlying49 hi hz0 hz1 hz2 rfl (by omega) u4 (r + k) _ rfl (hown.alloc _) ⟨wr.heap.size, 0, none⟩ 1 1 [bF (lenByte n) k] rfl rfl (one_cell _ _ _) (by simp [bF, Value.oneCell']) (by unfold maxLen; omega) (by omega) (by have := qB.size; simp; omega) ?_; intro v' w1 hown' hg1 _)
      go_roundw
      case rel =>
        refine ⟨k + 1, by omega, by go_num, ?_, (qB.alloc qB.size _).grown hg1 (by have := qB.size; simp; omega) (fun g e => (hown.lt g e).1)⟩
        rw [List.range_succ, List.map_append, ← List.append_assoc]
        exact hown'
      case measure => simp [intOf]; omega
    · obtain rfl : k = 8 := by omega
      go_wp2
      go_ret
      exact ⟨u4, rfl, hown, qB⟩
theorem Fill_any (n : Nat) (hn : n ≤ 9223372036854775807) (w : World) : Calls Tryd.prog 89 #[.int .i64 n] w (FillPost n (if n % 64 < 56 then 56 - n % 64 else 120 - n % 64) w) := by
  by_cases h : n % 64 < 56
  · rw [if_pos h]; exact Fill_two n _ hn (by omega) (by omega) (by omega) w
  · rw [if_neg h]; exact Fill_one n _ hn (by omega) (by omega) (by omega) w
end Go.Proofs.YtchpmdcacpjojaaDoor
namespace Go.Proofs.YtchpmdcacpjojaaDoor
open Go.RowKit Go.Shelf
set_option maxRecDepth 8000
set_option linter.all false
attribute [local go_sem] Oper.semAt_some

/-- What fills up n bytes. -/
def fillB (n : Nat) : List UInt8 := (List.range (if n % 64 < 56 then 56 - n % 64 else 120 - n % 64)).map fillHead ++ (List.range 8).map (lenByte n)
theorem fillB_length (n : Nat) : (fillB n).length = (if n % 64 < 56 then 56 - n % 64 else 120 - n % 64) + 8 := by simp [fillB]
theorem rdV_fill {w w' : World} {n : Nat} {v : Value} {L : List Nat} (hL : ∀ k ∈ L, k < w.heap.size)
    (h : w'.ownsRow w.heap.size 5 1 v ((if n % 64 < 56 then 56 - n % 64 else 120 - n % 64) + 8) ((List.range (if n % 64 < 56 then 56 - n % 64 else 120 - n % 64)).map (bF fillHead) ++ (List.range 8).map (bF (lenByte n)))) : RdV w' L v (fillB n) := by
  rcases h.2 with ⟨_, h0⟩ | ⟨g, cap, cur, rfl, hb, _, hnc, hcm, _, _⟩
  · omega
  · refine ⟨some ⟨g, 0, none⟩, cap, by rw [fillB_length], by rw [fillB_length]; exact hnc, hcm, fun _ => ⟨g, 0, rfl, fun hm => by have := hL g hm; omega, fun i hi => ?_⟩⟩
    have hc := h.cells (g := g) rfl i (.int .u8 (bN (bAt (fillB n) i)))
    rw [Addr.add_mid] at hc
    apply hc
    have : (List.range (if n % 64 < 56 then 56 - n % 64 else 120 - n % 64)).map (bF fillHead) ++ (List.range 8).map (bF (lenByte n)) = (fillB n).map fun b => .int .u8 (bN b) := by
      rw [fillB, List.map_append, List.map_map, List.map_map]; rfl
    rw [this]
    simp [bAt, hi]

set_option maxHeartbeats 1000000 in
theorem filled1_seq (L : List Nat) (pb : Nat) (hpb : pb ∉ L) (pv : Value) (ps : List (Value × List UInt8)) (w : World) (hL : ∀ k ∈ L, k < w.heap.size) (hbox : w.cell? ⟨pb, 0, none⟩ = some pv) (hps : PartsAt w L pv ps) (ht : total ps ≤ 4611686018427387904) :
    SeqG Tryd.prog 88 #[.pointer (some ⟨pb, 0, none⟩)] (fun x : Value × List UInt8 => #[x.1]) (KeepBut L) (fun _ x W => RdV W L x.1 x.2) (fun xs => xs.map (·.2) = ps.map (·.2) ++ [fillB (total ps)]) (fun _ => True) w := by
  intro l J Jx W hW hJ hJx hY h0
  have hLW : ∀ k ∈ L, k < W.heap.size := fun k hk => Nat.lt_of_lt_of_le (hL k hk) hW.size
  have hbox' := KeepBut.cell (KeepBut.below hW) hpb hbox
  have hps' := hps.keep (KeepBut.below hW)
  obtain ⟨A, cap, rfl, hpc, hpm, hpA, hpR⟩ := hps'
  have HA := Lib.hid hpA
  have HR := Lib.hid hpR
  unfold maxLen at hpm
  clear hpA hpR hps hbox hL
  refine callsIn_of_wp Tryd.func88 rfl trivial ?_ rfl
  simp only [Tryd.ntmps88, List.size_toArray, List.length_cons, List.length_nil, Nat.reduceAdd, Nat.reduceSub, Array.replicate_succ, Array.replicate_zero, List.push_toArray, List.append_toArray, List.nil_append, List.cons_append]
  gi_wp2
  gi_loopw [3, 8] (fun nv i wr => ∃ (k : Nat) (pre : List (Value × List UInt8)), k ≤ ps.length ∧ i = .int .i64 k ∧ nv = .int .i64 (total (ps.take k) : Nat) ∧ Hid (pre = ps.take k) ∧ J pre wr ∧ KeepBut L W wr) (fun _ i _ => ps.length - (intOf i).toNat)
  case atStart => exact ⟨0, [], by omega, rfl, rfl, rfl, h0, KeepBut.refl _ _⟩
  case round =>
    obtain ⟨k, pre, hk, rfl, rfl, Hpre, hJs, hKs⟩ := hrel
    have htk := total_take ps k
    by_cases hlt : k < ps.length
    · obtain ⟨b, o, rfl, hbL, hcells⟩ := HA.out (by omega)
      have hx : ps[k]? = some ps[k] := List.getElem?_eq_getElem hlt
      have hcell := hKs.cell (a := ⟨b, o + k, none⟩) hbL (hcells k _ hx)
      have hrd := (HR.out ps[k] (List.getElem_mem hlt)).keep hKs
      generalize hxx : ps[k] = x at hcell hrd hx
      have Hxx := Lib.hid hxx
      have Hx := Lib.hid hx
      clear hx hxx hcells
      have htk2 : total (ps.take k) + x.2.length ≤ total ps := by
        have e : ps.take (k + 1) = ps.take k ++ [x] := by rw [List.take_add_one, Hx.out]; rfl
        have := total_take ps (k + 1)
        rw [e, total_snoc] at this; exact this
      obtain ⟨A', cap', hv', h1', h2', _⟩ := hrd
      have hrd := (HR.out x (List.mem_of_getElem? Hx.out)).keep hKs
      obtain ⟨fn, tmps, assign, body, hy, hR⟩ := hY pre x wr hJs hrd
      have Hrd := Lib.hid hrd
      clear hrd
      rw [hv'] at hy hcell
      gi_wp2
      refine ⟨rfl, hR.mono ?_⟩
      rintro e W3 (⟨rfl, hJ3, hk3, _⟩ | ⟨rfl, hJx3, _⟩)
      · gi_wp2
        go_roundw
        case rel =>
          have e : ps.take (k + 1) = ps.take k ++ [x] := by rw [List.take_add_one, Hx.out]; rfl
          exact ⟨k + 1, pre ++ [x], by omega, by go_num, by rw [e, total_snoc]; go_num, Lib.hid (by rw [e, Hpre.out]), hJ3, hKs.trans hk3⟩
        case measure => simp [intOf]; omega
      · gi_wp2
        refine bodyPost_ret (results_none rfl _ _ _) rfl ?_
        exact ⟨⟨_, rfl⟩, .inr ⟨pre ++ [x], trivial, hJx3⟩⟩
    · obtain rfl : k = ps.length := by omega
      rw [List.take_length] at *
      gi_wp2_with fail
      refine ⟨trivial, rfl, (callsIn_wide.2 (Fill_any (total ps) (by omega) _)).mono ?_⟩
      rintro e w2 ⟨v, rfl, hown, hB2⟩
      have hrd := rdV_fill (L := L) (fun k hk => Nat.lt_of_lt_of_le (hLW k hk) hKs.1) hown
      have hJ2 := hJ _ _ _ hJs (hB2.mono hKs.1)
      obtain ⟨fn, tmps, assign, body, hy, hR⟩ := hY pre (v, fillB (total ps)) w2 hJ2 hrd
      clear hown
      have Hrd := Lib.hid hrd
      clear hrd
      gi_wp2
      refine ⟨rfl, hR.mono ?_⟩
      rintro e W3 (⟨rfl, hJ3, hk3, _⟩ | ⟨rfl, hJx3, _⟩)
      · gi_wp2
        go_end0
        exact ⟨⟨_, rfl⟩, .inl ⟨_, by rw [Hpre.out]; simp, hJ3⟩⟩
      · gi_wp2
        go_end0
        exact ⟨⟨_, rfl⟩, .inr ⟨_, trivial, hJx3⟩⟩
end Go.Proofs.YtchpmdcacpjojaaDoor
/- A region that draws its order, within a round of a range over a function: all operations but a forced tail read alone. No program is named here. -/
namespace Go.Proofs.YtchpmdcacpjojaaDoor
open Go.RowKit
set_option maxRecDepth 8000
set_option linter.all false
variable {P : Program} {ops : Array Oper} {md : Region.Mode} {w : World} {l₀ n : Nat}

def noDefer (ops : Array Oper) : Bool := ops.all fun o => match o.op with | .defer _ => false | _ => true
theorem noDefer_at (h : noDefer ops = true) {i : Nat} {o : Oper} (hi : ops[i]? = some o) : ∀ c, o.op ≠ .defer c := by
  intro c e
  have := Array.all_eq_true_iff_forall_mem.1 h o (Array.mem_of_getElem? hi)
  rw [e] at this
  cases this
theorem wpOpIn_of_stOp (hnd : noDefer ops = true) {i : Nat} {a : Act} {K : Act → Prop} {K' : Act → World → Prop} {Q' : Exit → Act → World → Prop} (h : ∀ a, K a → K' a w) (hh : stOp P ops w i K a) :
    wpOpIn (Fence.wide.inRound l₀) n P ops Q' i K' a w := by
  unfold stOp at hh
  unfold wpOpIn
  cases ho : ops[i]? with
  | none => simp only [ho] at hh ⊢; exact h _ hh
  | some o =>
    simp only [ho] at hh ⊢
    split
    · rename_i hw
      simp only [hw, if_true] at hh
      refine ⟨fun _ _ => trivial, ?_⟩
      rw [Oper.semAt_eq _ _ _ (noDefer_at hnd ho)]
      unfold Oper.still at hh
      generalize (execOp a.eval o).run P w = r at *
      cases r with
      | ok x w' =>
        cases x <;> simp only [Oper.stillUpon] at hh <;> simp only [Oper.uponIn]
        case enter f args =>
          obtain ⟨rfl, v, hc, hn⟩ := hh
          refine ⟨fun hd => by simp [Fence.wide] at hd, CallsIn.inRound l₀ ((callsIn_wide.2 hc).mono fun e w'' he => ?_)⟩
          obtain ⟨rfl, rfl⟩ := he
          exact h _ hn
        all_goals (obtain ⟨rfl, h2⟩ := hh; exact h _ h2)
      | halt x w' => simp only [Oper.stillUpon] at hh
    · rename_i hw
      simp only [hw] at hh
      exact ⟨fun _ _ => trivial, h _ hh⟩
theorem wpAnyIn_of_head (hnd : noDefer ops = true) {m g : Nat} {L : Array Bool → Act → Prop} {Q' : Exit → Act → World → Prop} (hL : ∀ listed a, L listed a → wpAnyIn (Fence.wide.inRound l₀) n P md ops Q' g listed a w) :
    ∀ (f : Nat) (listed : Array Bool) (a : Act), wpAnyL P md ops w m L f listed a → wpAnyIn (Fence.wide.inRound l₀) n P md ops Q' (f + g) listed a w
  | 0, listed, a, h => by rw [Nat.zero_add]; exact hL _ _ h
  | f + 1, listed, a, h => by
    rw [show f + 1 + g = (f + g) + 1 by omega]
    exact ⟨fun h0 => absurd h0 h.1, fun i hi => wpOpIn_of_stOp hnd (fun a' h' => wpAnyIn_of_head hnd hL f _ a' h') (h.2 i hi).2⟩
theorem wpAnyIn_of_seq {Q' : Exit → Act → World → Prop} : ∀ (l : List Oper) (k : Nat) (listed : Array Bool) (a : Act) (w : World), (∀ j, l[j]? = ops[k + j]?) →
    Region.seqB md ops l.length k listed = true → wpListIn (Fence.wide.inRound l₀) n P ops Q' l a w → wpAnyIn (Fence.wide.inRound l₀) n P md ops Q' l.length listed a w
  | [], _, _, _, _, _, hB, h => ⟨by simpa [Region.seqB] using hB, h⟩
  | o :: l, k, listed, a, w, hl, hB, h => by
    have h0 : ops[k]? = some o := by simpa using (hl 0).symm
    simp only [List.length_cons, Region.seqB, Bool.and_eq_true, decide_eq_true_eq] at hB
    refine ⟨fun h1 => (by rw [hB.1] at h1; cases h1), fun i hi => ?_⟩
    rw [hB.1] at hi
    have hik : i = k := by simpa using hi
    subst hik
    have hw : wpOpIn (Fence.wide.inRound l₀) n P ops Q' i (wpListIn (Fence.wide.inRound l₀) n P ops Q' l) a w := by unfold wpOpIn; simp only [h0]; exact h
    exact wpOpIn_mono (fun a' w' h' => wpAnyIn_of_seq l (i + 1) _ a' w' (fun j => by have := hl (j + 1); simpa [Nat.add_assoc, Nat.add_comm 1 j] using this) hB.2 h') hw

/-- All operations but a forced tail read alone: in the text's order, within a round. -/
theorem region_round_tail {id : Nat} {Q : Exit → Act → World → Prop} {a : Act} {w : World} {l : List Oper} (m : Nat) (hm : P.follows .mixedOrders = true) (hB : Region.lexTailB .any l.toArray m = true) (hnd : noDefer l.toArray = true)
    (h : wpStill P l.toArray w.drew (fun a' => wpListIn (Fence.wide.inRound l₀) n P l.toArray Q (l.drop m) a' w.drew) (l.take m) a) : (Code.region id l.toArray true).wpIn (Fence.wide.inRound l₀) n P Q a w := by
  simp only [Region.lexTailB, Bool.and_eq_true, decide_eq_true_eq] at hB
  obtain ⟨⟨⟨⟨hsel, hn⟩, hs⟩, hc⟩, hlex⟩ := hB
  have hn' : m < l.length := by simpa using hn
  have htl : (l.take m).length = m := by simp; omega
  have hdl : (l.drop m).length = l.toArray.size - m := by simp
  have inv0 : HeadInv .any l.toArray m (Array.replicate l.toArray.size false) :=
    ⟨by simp, fun j oj _ hl => (by rw [getD_replicate_false] at hl; cases hl), fun t _ ht => getD_in (by simpa using ht) (getD_replicate_false _ _)⟩
  have H := wpAnyL_lex (md := .any) (g := l.toArray.size - m) hsel hs hc hn (l.take m) 0 _ a (fun j hj => by
    have hj' : j < m := by rw [htl] at hj; exact hj
    simp [hj']) (by simpa using htl) inv0 (by rw [htl]; exact hlex) h
  refine wpIn_region_any hm ?_
  have := wpAnyIn_of_head (n := n) (l₀ := l₀) hnd (Q' := Q) (g := l.toArray.size - m) (fun listed a' hL => by
    have := wpAnyIn_of_seq (n := n) (l₀ := l₀) (md := .any) (Q' := Q) (l.drop m) m listed a' w.drew (fun j => by simp [List.getElem?_drop]) (by rw [hdl]; exact hL.1) hL.2
    rwa [hdl] at this) _ _ _ H
  rw [htl, show m + (l.toArray.size - m) = l.toArray.size by omega] at this
  exact this
end Go.Proofs.YtchpmdcacpjojaaDoor
namespace Go.Proofs.YtchpmdcacpjojaaDoor
open Go.RowKit Go.Shelf
set_option maxRecDepth 8000
set_option linter.all false
attribute [local go_sem] Oper.semAt_some

/-- The whole blocks of a text. -/
def cks (c : List UInt8) : List (List UInt8) := (List.range (c.length / 64)).map fun i => (c.drop (64 * i)).take 64
/-- What is left behind them. -/
def rem (c : List UInt8) : List UInt8 := c.drop (64 * (c.length / 64))
theorem rem_length (c : List UInt8) : (rem c).length = c.length % 64 := by simp [rem]; omega
theorem chunk_app (c d : List UInt8) (i : Nat) (h : 64 * i + 64 ≤ c.length) : ((c ++ d).drop (64 * i)).take 64 = (c.drop (64 * i)).take 64 := by
  rw [List.drop_append_of_le_length (by omega), List.take_append_of_le_length (by simp; omega)]
theorem rem_less (c d : List UInt8) (h : c.length % 64 + d.length < 64) : rem (c ++ d) = rem c ++ d ∧ cks (c ++ d) = cks c := by
  have e : (c ++ d).length / 64 = c.length / 64 := by simp; omega
  constructor
  · unfold rem; rw [e, List.drop_append_of_le_length (by omega)]
  · unfold cks; rw [e]; exact List.map_congr_left fun i hi => chunk_app c d i (by simp at hi; omega)
theorem rem_full (c d : List UInt8) (h : c.length % 64 + d.length = 64) : rem (c ++ d) = [] ∧ cks (c ++ d) = cks c ++ [rem c ++ d] := by
  have e : (c ++ d).length / 64 = c.length / 64 + 1 := by simp; omega
  have e2 : (c ++ d).length = 64 * (c.length / 64 + 1) := by simp; omega
  constructor
  · unfold rem; rw [e, ← e2, List.drop_length]
  · unfold cks; rw [e, List.range_succ, List.map_append]
    congr 1
    · exact List.map_congr_left fun i hi => chunk_app c d i (by simp at hi; omega)
    · simp only [List.map_cons, List.map_nil]
      rw [List.drop_append_of_le_length (by omega)]
      rw [List.take_of_length_le (by simp; omega)]
      rfl
theorem filled_any (A : Option Addr) (n c : Nat) (w : World) : Calls Tryd.prog 85 #[.slice A n c] w fun e w' => e = .returned (.func (.func 88) #[] #[.pointer (some ⟨w.heap.size, 0, none⟩)]) ∧ w.alloc (.cells #[.slice A n c] 99) = w' := by
  go_enter Tryd.func85, Tryd.ntmps85
  go_wp2
  go_ret
  exact ⟨rfl, rfl⟩
theorem blocks_any (A : Option Addr) (n c : Nat) (w : World) : Calls Tryd.prog 79 #[.slice A n c] w fun e w' => e = .returned (.func (.func 84) #[] #[.pointer (some ⟨w.heap.size, 0, none⟩)]) ∧ w.alloc (.cells #[.slice A n c] 99) = w' := by
  go_enter Tryd.func79, Tryd.ntmps79
  go_wp2
  go_ret
  exact ⟨rfl, rfl⟩

/-- The iterator's own memory: yield's box, the begun block's box, and its row. -/
def Beg (B l : Nat) (V : World) (r : List UInt8) : Prop :=
  V.rowIs B 127 1 (fun _ => .func (.yield l) #[] #[]) ∧ V.rowIs (B + 1 + 1) 49 1 (fun _ => .slice (some ⟨B + 1, 0, none⟩) r.length 64) ∧
    V.ownsRow (B + 1) 5 1 (.slice (some ⟨B + 1, 0, none⟩) r.length 64) r.length (r.map fun b => .int .u8 (bN b))
theorem Beg.below {B l : Nat} {V V' : World} {r : List UInt8} (h : Beg B l V r) (hb : Below (B + 1 + 1 + 1) V V') : Beg B l V' r :=
  ⟨rowIs_below h.1 hb (by omega), rowIs_below h.2.1 hb (by omega), ownsRow_keep h.2.2 fun _ _ ho => (hb.block _ (by omega)).trans ho⟩
theorem Beg.keep {B l : Nat} {L : List Nat} {V V' : World} {r : List UInt8} (h : Beg B l V r) (hL : ∀ k ∈ L, k < B) (hb : KeepBut L V V') : Beg B l V' r :=
  ⟨hb.row (fun hm => by have := hL _ hm; omega) h.1, hb.row (fun hm => by have := hL _ hm; omega) h.2.1, ownsRow_keep h.2.2 fun _ hc ho => hb.2 _ _ (fun hm => by have := hL _ hm; omega) ho hc⟩
def ShInv (J : List (Value × List UInt8) → World → Prop) (B l : Nat) (pre2 : List (Value × List UInt8)) (V : World) : Prop :=
  ∃ pre : List (Value × List UInt8), pre.map (·.2) = cks (flat pre2) ∧ J pre V ∧ Beg B l V (rem (flat pre2))
def InvX (Jx : List (Value × List UInt8) → World → Prop) (c : Code) (V : World) : Prop := c = .ret ∧ ∃ pre : List (Value × List UInt8), Jx pre V
def lenOf : Value → Nat | .slice _ n _ => n | _ => 0
def Going (J : List (Value × List UInt8) → World → Prop) (B l : Nat) (L : List Nat) (c q : List UInt8) (V : World) (p : Value) (V' : World) : Prop :=
  ∃ (q1 q2 : List UInt8) (pre : List (Value × List UInt8)), q = q1 ++ q2 ∧ RdV V' L p q2 ∧ pre.map (·.2) = cks (c ++ q1) ∧ J pre V' ∧ Beg B l V' (rem (c ++ q1)) ∧ KeepsFrom (B + 1 + 1 + 1 + 1) V V' ∧ KeepBut L V V'

set_option maxHeartbeats 1000000 in
theorem blocks1_seq (L0 : List Nat) (pb : Nat) (hpb : pb ∉ L0) (pv : Value) (ps : List (Value × List UInt8)) (w : World) (hL0 : ∀ k ∈ L0, k < w.heap.size) (hbox : w.cell? ⟨pb, 0, none⟩ = some pv) (hps : PartsAt w L0 pv ps) (ht : total ps ≤ 4611686018427387904) :
    SeqG Tryd.prog 84 #[.pointer (some ⟨pb, 0, none⟩)] (fun x : Value × List UInt8 => #[x.1]) (KeepBut L0) (fun _ x W => RdV W L0 x.1 x.2 ∧ x.2.length = 64) (fun xs => xs.map (·.2) = cks (flat ps ++ fillB (total ps))) (fun _ => True) w := by
  intro l J Jx W hW hJ hJx hY h0
  have hLW : ∀ k ∈ L0, k < W.heap.size := fun k hk => Nat.lt_of_lt_of_le (hL0 k hk) hW.size
  have hbox' := KeepBut.cell (KeepBut.below hW) hpb hbox
  have hps' := hps.keep (KeepBut.below hW)
  obtain ⟨A, cap, rfl, _⟩ := hps'
  have hps' := hps.keep (KeepBut.below hW)
  have Hps := Lib.hid hps'
  have Hbox := Lib.hid hbox'
  obtain ⟨i0, hi, hz0, hz1, hz2⟩ := info_parts info5
  have hmk : ∀ W : World, (Instr.makeSlice 49 (.int .i64 0) (.int .i64 64)).run Tryd.prog W = .ok (.slice (some ⟨W.heap.size, 0, none⟩) 0 64) (W.alloc (.cells (rowA 64 (bF fun _ => 0)) 5)) := make_none i0 hi hz0 hz1 hz2
  have hpbW := World.block_lt_of_cell? _ _ hbox'
  have hpbW : pb < W.heap.size := hpbW
  have hp1 : pb < W.heap.size + 1 := by omega
  have hp2 : pb < W.heap.size + 1 + 1 := by omega
  clear hps' hps hbox hL0
  refine callsIn_of_wp_marks Tryd.func84 rfl trivial ?_ rfl
  simp only [Tryd.ntmps84, List.size_toArray, List.length_cons, List.length_nil, Nat.reduceAdd, Nat.reduceSub, Array.replicate_succ, Array.replicate_zero, List.push_toArray, List.append_toArray, List.nil_append, List.cons_append]
  gi_wp2_with fail
  refine ⟨trivial, rfl, (callsIn_wide.2 (filled_any A ps.length cap _)).mono ?_⟩
  rintro e W4 ⟨rfl, hW4⟩
  clear hmk
  have bA : W4.rowIs W.heap.size 127 1 (fun _ => .func (.yield l) #[] #[]) := by
    rw [← hW4]; exact (((rowIs_box W 127 1 (fun _ => .func (.yield l) #[] #[])).alloc _).alloc _).alloc _
  have bB : W4.rowIs (W.heap.size + 1) 5 64 (bF fun _ => 0) := by
    rw [← hW4]
    have := ((rowIs_box (W.alloc (.cells #[.func (.yield l) #[] #[]] 127)) 5 64 (bF fun _ => 0)).alloc (.cells #[.slice (some ⟨W.heap.size + 1, 0, none⟩) 0 64] 49)).alloc (.cells #[.slice A ps.length cap] 99)
    rwa [World.size_alloc] at this
  have bC : W4.rowIs (W.heap.size + 1 + 1) 49 1 (fun _ => .slice (some ⟨W.heap.size + 1, 0, none⟩) 0 64) := by
    rw [← hW4]
    have := (rowIs_box ((W.alloc (.cells #[.func (.yield l) #[] #[]] 127)).alloc (.cells (rowA 64 (bF fun _ => 0)) 5)) 49 1 (fun _ => .slice (some ⟨W.heap.size + 1, 0, none⟩) 0 64)).alloc (.cells #[.slice A ps.length cap] 99)
    rwa [World.size_alloc, World.size_alloc] at this
  have bD : W4.rowIs (W.heap.size + 1 + 1 + 1) 99 1 (fun _ => .slice A ps.length cap) := by
    rw [← hW4]
    have := rowIs_box (((W.alloc (.cells #[.func (.yield l) #[] #[]] 127)).alloc (.cells (rowA 64 (bF fun _ => 0)) 5)).alloc (.cells #[.slice (some ⟨W.heap.size + 1, 0, none⟩) 0 64] 49)) 99 1 (fun _ => .slice A ps.length cap)
    rwa [World.size_alloc, World.size_alloc, World.size_alloc] at this
  have hB4 : Below W.heap.size W W4 := by
    rw [← hW4]
    exact ((((Below.refl _ W).alloc (Nat.le_refl _) _).alloc (by simp) _).alloc (by simp; omega) _).alloc (by simp; omega) _
  have hs4 : W4.heap.size = W.heap.size + 1 + 1 + 1 + 1 := by rw [← hW4]; simp
  clear hW4
  have hbeg : Beg W.heap.size l W4 [] := ⟨bA, bC, by have := ownsRow_row bB (W.heap.size + 1) 0 (by omega) (by unfold maxLen; omega) (Nat.le_refl _); simpa using this⟩
  have hJ4 := hJ _ _ _ h0 hB4
  obtain ⟨L, hLe⟩ : ∃ L, L = (W.heap.size + 1) :: (W.heap.size + 1 + 1) :: L0 := ⟨_, rfl⟩
  have hLnot : ∀ k, k < W.heap.size → k ∉ L0 → k ∉ L := fun k hk h0 hm => by
    rw [hLe] at hm; simp at hm; rcases hm with h | h | h
    · omega
    · omega
    · exact h0 h
  have hLlt : ∀ k ∈ L, k < W.heap.size + 1 + 1 + 1 := fun k hm => by
    rw [hLe] at hm; simp at hm; rcases hm with h | h | h
    · omega
    · omega
    · have := hLW k h; omega
  have hp4 : PartsAt W4 L (.slice A ps.length cap) ps := (Hps.out.more hLnot).keep (KeepBut.below hB4)
  have seq := filled1_seq L (W.heap.size + 1 + 1 + 1) (fun hm => by have := hLlt _ hm; omega) (.slice A ps.length cap) ps W4 (fun k hk => by have := hLlt k hk; omega) (bD.cell (by omega)) hp4 ht
  clear bA bB bC bD hp4 Hps Hbox hbox' hp1 hp2 hpbW
  gi_wp2_with fail
  refine range_law (n := 0) (gf := 88) (lb := #[.pointer (some ⟨W.heap.size + 1 + 1 + 1, 0, none⟩)]) rfl (enters_of Tryd.func88 (by kernel_rfl) rfl) seq (Below.refl _ _) KeepBut.trans (fun V k o o' _ h hc => KeepBut.putObj h hc)
    (fun _ x V k o o' _ h hc hG => hG.keep (KeepBut.putObj h hc)) (fun _ => rfl)
    (ShInv J W.heap.size l) (fun c _ V => InvX Jx c V)
    (fun pre A B h hb => by obtain ⟨p, h1, h2, h3⟩ := h; exact ⟨p, h1, hJ _ _ _ h2 (hb.mono (by omega)), h3.below (hb.mono (by omega))⟩)
    (fun c pre A B h hb => by obtain ⟨h1, p, h2⟩ := h; exact ⟨h1, p, hJx _ _ _ h2 (hb.mono (by omega))⟩)
    ⟨[], rfl, hJ4, hbeg⟩
    (fun x => { tmps := #[.func (.yield l) #[] #[], .pointer (some ⟨pb, 0, none⟩), .pointer (some ⟨W.heap.size, 0, none⟩), .pointer (some ⟨W.heap.size + 1 + 1, 0, none⟩), x.1, undef, .slice (some ⟨W.heap.size + 1, 0, none⟩) 0 64, .slice A ps.length cap, .func (.func 88) #[] #[.pointer (some ⟨W.heap.size + 1 + 1 + 1, 0, none⟩)], x.1, undef, undef, undef, undef, undef, undef, undef, undef, undef, undef, undef, undef, undef, undef, undef, undef, undef, undef, undef, undef, undef, undef, undef, undef, undef, undef], defers := [] }) ?assign ?body ?done ?stop
  case assign =>
    intro l2 x V K hK
    gi_wp2
    exact hK
  case body =>
    rintro l2 pre2 x V hl2 ⟨pre, hpre, hJp, hBeg⟩ hG
    gi_wp2
    gi_loopw [4] (fun p V' => Going J W.heap.size l L (flat pre2) x.2 V p V') (fun p _ => lenOf p)
    case atStart =>
      refine ⟨[], x.2, pre, rfl, hG, ?_, hJp, ?_, KeepsFrom.refl _ _, KeepBut.refl _ _⟩
      · rw [List.append_nil]; exact hpre
      · rw [List.append_nil]; exact hBeg
    case round =>
      obtain ⟨q1, q2, pre', hq, hrd, hpre', hJp', hBeg', hKF, hKB⟩ := hrel
      clear hG hBeg hJp hpre pre
      have Hq := Lib.hid hq
      have Hpre := Lib.hid hpre'
      clear hq hpre'
      obtain ⟨Ap, capp, rfl, hn1, hn2, hcells⟩ := hrd
      have Hcells := Lib.hid hcells
      clear hcells
      unfold maxLen at hn2
      generalize hc : flat pre2 ++ q1 = c at *
      have Hc := Lib.hid hc
      clear hc
      have hk := rem_length c
      have hk64 : (rem c).length < 64 := by omega
      have Hk := Lib.hid hk
      clear hk
      by_cases hn : 0 < q2.length
      · obtain ⟨pb2, po, rfl, hpbL, hcell⟩ := Hcells.out hn
        have Hcell := Lib.hid hcell
        clear hcell
        have cb := hBeg'.2.1.cell (i := 0) (by omega)
        have fb := hBeg'.2.1.frozen 0
        have cy := hBeg'.1.cell (i := 0) (by omega)
        obtain ⟨k, hkk⟩ : ∃ k, (rem c).length = k := ⟨_, rfl⟩
        rw [hkk] at cb hk64
        have Hkk := Lib.hid hkk
        clear hkk
        obtain ⟨m, hm1, hm2, hm3, hm4, hmin⟩ : ∃ m : Nat, 1 ≤ m ∧ m ≤ q2.length ∧ k + m ≤ 64 ∧ (k + m = 64 ∨ m = q2.length) ∧ (if (64 : Int) - (k : Int) < (q2.length : Int) then (64 : Int) - (k : Int) else (q2.length : Int)) = (m : Int) := by
          by_cases h : (64 : Int) - (k : Int) < (q2.length : Int)
          · exact ⟨64 - k, by omega, by omega, by omega, by omega, by rw [if_pos h]; omega⟩
          · exact ⟨q2.length, by omega, by omega, by omega, .inr rfl, by rw [if_neg h]⟩
        gi_wp2
        clear hmin
        have i1 : (m : Int) ≤ (capp : Int) := by omega
        have i2 : (m : Int) ≤ (q2.length : Int) := by omega
        refine region_round_tail 4 (by kernel_rfl) (by kernel_rfl) (by kernel_rfl) ?_
        simp only [List.take_succ_cons, List.take_zero, List.drop_succ_cons, List.drop_zero]
        iterate 4 (refine wpStill_step (fun K hK => ?_); go_simp; (try go_bits); refine hK _ ?_; clear hK K)
        refine wpStill_nil ?_
        have hpw : pb2 < wr.heap.size := World.block_lt_of_cell? _ _ (Hcell.out 0 hn)
        have hown := hBeg'.2.2
        rw [Hkk.out] at hown
        refine wpListIn_append_fits _ rfl (.tmp 19) (.tmp 22) 49 rfl (W.heap.size + 1) 5 i0 1 Tryd.underlying49 hi hz1 (W.heap.size + 1) k 64 _ rfl hown.drew ⟨pb2, po, none⟩ m capp ((q2.take m).map fun b => .int .u8 (bN b)) rfl (by simp; omega) (cells_take hm2 Hcell.out) (by intro u hu; obtain ⟨b, _, rfl⟩ := List.mem_map.1 hu; rfl) hm3 ?_
        intro w1 hown1 hg1
        have hB1 : Below (W.heap.size) wr w1 := (Below.refl _ wr).drew.grown hg1 (by have := hBeg'.2.1.lt; show _ ≤ wr.heap.size; omega) (fun g e => by injection e with e; omega)
        have hrb : w1.rowIs (W.heap.size + 1 + 1) 49 1 (fun _ => .slice (some ⟨W.heap.size + 1, 0, none⟩) (rem c).length 64) := hBeg'.2.1.of_block (hg1.block _ hBeg'.2.1.lt (fun e => by injection e with e; omega))
        have hra : w1.rowIs W.heap.size 127 1 (fun _ => .func (.yield l) #[] #[]) := hBeg'.1.of_block (hg1.block _ hBeg'.1.lt (fun e => by injection e with e; omega))
        have hkb1 : KeepBut L wr w1 := ⟨hg1.size, fun j o hj ho _ => (hg1.block j (Array.getElem?_eq_some_iff.1 ho).1 (fun e => hj (by cases e; rw [hLe]; simp))).trans ho⟩
        have hkf1 : KeepsOthers wr w1 := ⟨hg1.size, fun j o ho hc => (hg1.block j (Array.getElem?_eq_some_iff.1 ho).1 (fun e => by
          cases e
          obtain ⟨_, hh⟩ := hown
          rcases hh with ⟨h, _⟩ | ⟨g', cap', cur, hv, _, hh, _⟩
          · cases h
          · cases hv; rw [hh] at ho; cases ho; cases hc)).trans ho⟩
        have cb1 := hrb.cell (i := 0) (by omega)
        have fb1 := hrb.frozen 0
        have hsl := slice_from (P := Tryd.prog) 49 5 Tryd.underlying49 (by kernel_rfl) ⟨pb2, po, none⟩ q2.length capp m hm2
        obtain ⟨ad, had⟩ : ∃ ad, (if capp = m then (⟨pb2, po, none⟩ : Addr) else (⟨pb2, po, none⟩ : Addr).add m) = ad := ⟨_, rfl⟩
        rw [had] at hsl
        have Had := Lib.hid had
        clear cb fb cy had
        obtain ⟨V2, hV2⟩ : ∃ V2, w1.setCell ⟨W.heap.size + 1 + 1, 0, none⟩ (.slice (some ⟨W.heap.size + 1, 0, none⟩) (k + m) 64) = V2 := ⟨_, rfl⟩
        have hlen : (rem c ++ q2.take m).length = k + m := by rw [List.length_append, Hkk.out, List.length_take]; omega
        have hbeg2 : Beg W.heap.size l V2 (rem c ++ q2.take m) := by
          rw [← hV2]
          refine ⟨hra.setOther (by simp; omega) _, (hrb.set 0 _).congr fun i hi => ?_, ?_⟩
          · obtain rfl : i = 0 := by omega
            rw [if_pos rfl, hlen]
          · rw [hlen, List.map_append]
            exact ownsRow_keep hown1 fun o _ ho => (Below.heap_setCell w1 _ _ _ (by simp)).trans ho
        have hbj : Below W.heap.size wr V2 := by rw [← hV2]; exact hB1.setCell (by simp; omega) _
        have hkb2 : KeepBut L wr V2 := by rw [← hV2]; exact hkb1.trans (KeepBut.setCell (by rw [hLe]; simp) _)
        have hkf2 : KeepsOthers wr V2 := by rw [← hV2]; exact hkf1.trans (KeepsOthers.setCell _ _ _)
        have hj2 := hJ _ _ _ hJp' hbj
        have hrd2 : RdV V2 L (.slice (some ad) (q2.length - m) (capp - m)) (q2.drop m) := by
          refine ⟨some ad, capp - m, by simp, by simp; omega, by unfold maxLen; omega, fun h0 => ?_⟩
          have hlt : m < q2.length := by simp at h0; omega
          refine ⟨pb2, po + m, by rw [← Had.out, if_neg (by omega), Addr.add_mid], hpbL, fun i hi => ?_⟩
          have hi' : m + i < q2.length := by simp at hi; omega
          have := hkb2.cell (a := ⟨pb2, po + (m + i), none⟩) hpbL (Hcell.out (m + i) hi')
          rw [Nat.add_assoc, this]
          simp [bAt]
        have Hrd2 := Lib.hid hrd2
        clear hrd2 hbj hB1 hkf1 hkb1 hrb hra hown1 hg1
        have cb2 := hbeg2.2.1.cell (i := 0) (by omega)
        have fb2 := hbeg2.2.1.frozen 0
        have cy2 := hbeg2.1.cell (i := 0) (by omega)
        rw [hlen] at cb2
        have Hlen := Lib.hid hlen
        clear hlen
        have hcq : c ++ q2.take m = flat pre2 ++ (q1 ++ q2.take m) := by rw [← Hc.out, List.append_assoc]
        have hxq : x.2 = (q1 ++ q2.take m) ++ q2.drop m := by rw [List.append_assoc, List.take_append_drop]; exact Hq.out
        have hml : (q2.take m).length = m := by rw [List.length_take]; omega
        have hck := Hk.out
        rw [Hkk.out] at hck
        have Hcq := Lib.hid hcq
        have Hxq := Lib.hid hxq
        have Hml := Lib.hid hml
        have Hck := Lib.hid hck
        clear hcq hxq hml hck
        by_cases hfull : k + m < 64
        · have hd : decide ((k : Int) + (m : Int) < 64) = true := by simp; omega
          gi_wp2
          go_roundw
          case rel =>
            obtain ⟨r1, r2⟩ := rem_less c (q2.take m) (by rw [Hml.out, ← Hck.out]; exact hfull)
            exact ⟨q1 ++ q2.take m, q2.drop m, pre', Hxq.out, Hrd2.out, by rw [← Hcq.out, r2]; exact Hpre.out, hj2, by rw [← Hcq.out, r1]; exact hbeg2, hKF.trans (hkf2.from _), hKB.trans hkb2⟩
          case measure => simp [lenOf]; omega
        · have hfull' : k + m = 64 := by omega
          have hd : decide ((k : Int) + (m : Int) < 64) = false := by simp; omega
          have hrdB : RdV V2 L0 (.slice (some ⟨W.heap.size + 1, 0, none⟩) (k + m) 64) (rem c ++ q2.take m) := by
            refine ⟨some ⟨W.heap.size + 1, 0, none⟩, 64, by rw [Hlen.out], by rw [Hlen.out]; omega, by unfold maxLen; omega, fun _ => ⟨W.heap.size + 1, 0, rfl, fun hm => by have := hLW _ hm; omega, fun i hi => ?_⟩⟩
            have hcc := hbeg2.2.2.cells (g := W.heap.size + 1) rfl i (.int .u8 (bN (bAt (rem c ++ q2.take m) i)))
            rw [Addr.add_mid] at hcc
            exact hcc (map_at _ i hi)
          obtain ⟨fn, tmps, assign, body, hy, hR⟩ := hY pre' (.slice (some ⟨W.heap.size + 1, 0, none⟩) (k + m) 64, rem c ++ q2.take m) V2 hj2 ⟨hrdB, by show (rem c ++ q2.take m).length = 64; rw [Hlen.out]; exact hfull'⟩
          clear hrdB
          have Hfull := Lib.hid hfull'
          clear hfull'
          gi_wp2
          refine ⟨rfl, RoundIn.mono (show RoundIn (Fence.wide.inRound l2) 0 _ _ _ _ _ _ _ _ from hR) ?_⟩
          obtain ⟨r1, r2⟩ := rem_full c (q2.take m) (by rw [Hml.out, ← Hck.out]; exact Hfull.out)
          have Hr1 := Lib.hid r1
          have Hr2 := Lib.hid r2
          clear r1 r2
          rintro e W5 (⟨rfl, hJ5, hk5, hf5⟩ | ⟨rfl, hJx5, hf5⟩)
          · have hbeg5 := hbeg2.keep hLW hk5
            have cb5 := hbeg5.2.1.cell (i := 0) (by omega)
            have fb5 := hbeg5.2.1.frozen 0
            rw [Hlen.out] at cb5
            clear cb2 fb2 cy2
            gi_wp2
            go_roundw
            case rel =>
              refine ⟨q1 ++ q2.take m, q2.drop m, _, Hxq.out, ?_, ?_, hJ _ _ _ hJ5 ((Below.refl _ W5).setCell (by simp; omega) _), ?_, ?_, ?_⟩
              · exact (Hrd2.out.keep (hk5.more fun k hk => by rw [hLe]; simp [hk])).keep (KeepBut.setCell (by rw [hLe]; simp) _)
              · rw [List.map_append, ← Hcq.out, Hr2.out, Hpre.out]; rfl
              · rw [← Hcq.out, Hr1.out]
                refine ⟨hbeg5.1.setOther (by simp; omega) _, (hbeg5.2.1.set 0 _).congr fun i hi => ?_, ?_⟩
                · obtain rfl : i = 0 := by omega
                  rw [if_pos rfl]; rfl
                · have := ownsRow_keep (ownsRow_none hbeg5.2.2) fun o _ ho => (Below.heap_setCell W5 ⟨W.heap.size + 1 + 1, 0, none⟩ (.slice (some ⟨W.heap.size + 1, 0, none⟩) 0 64) _ (by simp)).trans ho
                  exact this
              · exact (hKF.trans (hkf2.from _)).trans ((keepsFrom_mono hf5 (by omega)).trans ((KeepsOthers.setCell _ _ _).from _))
              · exact (hKB.trans hkb2).trans ((hk5.more fun k hk => by rw [hLe]; simp [hk]).trans (KeepBut.setCell (by rw [hLe]; simp) _))
            case measure => simp [lenOf]; omega
          · gi_wp2
            exact ⟨by rw [hs4]; exact (hKF.trans (hkf2.from _)).trans (keepsFrom_mono hf5 (by omega)), rfl, _, hJx5⟩
      · have hq0 : q2 = [] := List.eq_nil_of_length_eq_zero (by omega)
        have hd0 : decide (0 < q2.length) = false := by simp; omega
        have Hq0 := Lib.hid hq0
        clear hq0
        gi_wp2
        have hcx : flat (pre2 ++ [x]) = c := by rw [flat_snoc, Hq.out, Hq0.out, List.append_nil]; exact Hc.out
        exact ⟨by rw [hs4]; exact hKF, hKB, pre', by rw [hcx]; exact Hpre.out, hJp', by rw [hcx]; exact hBeg'⟩
  case done =>
    rintro D xs V hD hS ⟨pre, hpre, hJp, hBeg⟩ hK
    gi_wp2
    refine ⟨by simp, .inl ⟨_, _, rfl, run_takeDeferred hK, ?_⟩⟩
    refine ⟨_, results_none rfl _ _ _, ⟨_, rfl⟩, .inl ⟨pre, ?_, hJ _ _ _ hJp (below_putObj (by omega) _)⟩⟩
    have e : flat xs = flat ps ++ fillB (total ps) := by unfold flat; rw [hS]; simp
    rw [hpre, e]
  case stop =>
    rintro D c pre2 V hD _ ⟨rfl, pre, hJp⟩ hK
    gi_wp2
    refine ⟨by simp, .inl ⟨_, _, rfl, run_takeDeferred hK, ?_⟩⟩
    exact ⟨_, results_none rfl _ _ _, ⟨_, rfl⟩, .inr ⟨pre, trivial, hJx _ _ _ hJp (below_putObj (by omega) _)⟩⟩
end Go.Proofs.YtchpmdcacpjojaaDoor
namespace Go.Proofs.YtchpmdcacpjojaaDoor
open Go.RowKit Go.Shelf
set_option maxRecDepth 8000
set_option linter.all false
attribute [local go_sem] Oper.semAt_some uF_at

theorem run_storeU {W : World} {g n : Nat} (h : RowW W g n) (f : Nat → BitVec 32) : (storeCells ⟨g, 0, none⟩ (rowA n (uF f)).toList).run Tryd.prog W = .ok () (W.setCells g 0 (rowA n (uF f)).toList) := by
  obtain ⟨t, z, r⟩ := h
  have := run_storeCells_cells (P := Tryd.prog) g 0 (rowA n (uF f)).toList 0 W (fun j hj => by simpa using (there_row r j (by rw [rowA_toList] at hj; simpa using hj)).1) (fun j hj => by simpa using (there_row r j (by rw [rowA_toList] at hj; simpa using hj)).2)
    (fun v hv => by rw [rowA_toList] at hv; obtain ⟨i, _, rfl⟩ := List.mem_map.1 hv; rfl)
  simpa using this
attribute [local go_sem] run_storeU run_storeB
/-- The state behind a block. -/
def turnF (K s : Nat → BitVec 32) (l : List UInt8) : Nat → BitVec 32 := fun i => s i + (runTo K (wS l 48) (ShSt.of s) 64).get i
/-- The digest of a text, from a first state. -/
def shaL (K F : Nat → BitVec 32) (text : List UInt8) : Nat → UInt8 := dig ((cks (text ++ fillB text.length)).foldl (turnF K) F)
theorem rowIs_putObj {W : World} {b n l : Nat} {t : TypeId} {f : Nat → Value} (h : W.rowIs b t n f) (hne : b ≠ l) (o : Obj) : (W.putObj l o).rowIs b t n f := h.of_block (World.putObj_heap_other hne)

def SumInv (K F : Nat → BitVec 32) (w : World) (pre : List (Value × List UInt8)) (V : World) : Prop :=
  V.rowIs (w.heap.size + 1) 117 8 (uF ((pre.map (·.2)).foldl (turnF K) F)) ∧ V.rowIs w.heap.size 32 32 (bF fun _ => 0) ∧ Below w.heap.size w V
set_option maxHeartbeats 2000000 in
theorem Sum_any (K F : Nat → BitVec 32) (pv : Value) (ps : List (Value × List UInt8)) (w : World) (h1 : 1 < w.heap.size)
    (hK : ∀ i, i < 64 → w.cell? ⟨1, i, none⟩ = some (.int .u32 (uN (K i)))) (hF : ∀ i, i < 8 → w.cell? ⟨0, i, none⟩ = some (.int .u32 (uN (F i))))
    (hps : PartsAt w [] pv ps) (ht : total ps ≤ 4611686018427387904) :
    Calls Tryd.prog 72 #[pv] w fun e w' => e = .returned (.agg (rowA 32 (bF (shaL K F (flat ps))))) ∧ Below w.heap.size w w' := by
  have HK := Lib.hid hK
  have Hps := Lib.hid hps
  obtain ⟨A, cap, rfl, _⟩ := hps
  have f0 := hF 0 (by omega)
  have f1 := hF 1 (by omega)
  have f2 := hF 2 (by omega)
  have f3 := hF 3 (by omega)
  have f4 := hF 4 (by omega)
  have f5 := hF 5 (by omega)
  have f6 := hF 6 (by omega)
  have f7 := hF 7 (by omega)
  have h0 : 0 < w.heap.size := by omega
  have h01 : 0 < w.heap.size + 1 := by omega
  clear hK hF
  refine (callsIn_wide (n := 0)).1 ?_
  refine callsIn_of_wp_marks Tryd.func72 rfl trivial ?_ rfl
  simp only [Tryd.ntmps72, List.size_toArray, List.length_cons, List.length_nil, Nat.reduceAdd, Nat.reduceSub, Array.replicate_succ, Array.replicate_zero, List.push_toArray, List.append_toArray, List.nil_append, List.cons_append]
  gi_wp2_with fail
  refine ⟨trivial, rfl, (callsIn_wide.2 (blocks_any A ps.length cap _)).mono ?_⟩
  rintro e W3 ⟨rfl, hW3⟩
  clear f0 f1 f2 f3 f4 f5 f6 f7
  have hW3' : ((w.alloc (.cells (rowA 32 (bF fun _ => 0)) 32)).alloc (.cells (rowA 8 (uF F)) 117)).alloc (.cells #[.slice A ps.length cap] 99) = W3 := hW3
  clear hW3
  have bA : W3.rowIs w.heap.size 32 32 (bF fun _ => 0) := by
    rw [← hW3']; exact ((rowIs_box w 32 32 (bF fun _ => 0)).alloc _).alloc _
  have bB : W3.rowIs (w.heap.size + 1) 117 8 (uF F) := by
    rw [← hW3']
    have := (rowIs_box (w.alloc (.cells (rowA 32 (bF fun _ => 0)) 32)) 117 8 (uF F)).alloc (.cells #[.slice A ps.length cap] 99)
    rwa [World.size_alloc] at this
  have bC : W3.rowIs (w.heap.size + 1 + 1) 99 1 (fun _ => .slice A ps.length cap) := by
    rw [← hW3']
    have := rowIs_box ((w.alloc (.cells (rowA 32 (bF fun _ => 0)) 32)).alloc (.cells (rowA 8 (uF F)) 117)) 99 1 (fun _ => .slice A ps.length cap)
    rwa [World.size_alloc, World.size_alloc] at this
  have hB3 : Below w.heap.size w W3 := by
    rw [← hW3']; exact (((Below.refl _ w).alloc (Nat.le_refl _) _).alloc (by simp) _).alloc (by simp; omega) _
  have hs3 : W3.heap.size = w.heap.size + 1 + 1 + 1 := by rw [← hW3']; simp
  clear hW3'
  have hp3 : PartsAt W3 [w.heap.size + 1] (.slice A ps.length cap) ps := (Hps.out.more (fun k hk _ => by simp; omega)).keep (KeepBut.below hB3)
  have seq := blocks1_seq [w.heap.size + 1] (w.heap.size + 1 + 1) (by simp) (.slice A ps.length cap) ps W3 (fun k hk => by simp at hk; omega) (bC.cell (by omega)) hp3 ht
  clear bC hp3 Hps
  gi_wp2_with fail
  refine range_law (n := 0) (gf := 84) (lb := #[.pointer (some ⟨w.heap.size + 1 + 1, 0, none⟩)]) rfl (enters_of Tryd.func84 (by kernel_rfl) rfl) seq (Below.refl _ _) KeepBut.trans (fun V k o o' _ h hc => KeepBut.putObj h hc)
    (fun _ x V k o o' _ h hc hG => ⟨hG.1.keep (KeepBut.putObj h hc), hG.2⟩) (fun _ => rfl)
    (SumInv K F w) (fun _ _ _ => False)
    (fun pre A B h hb => ⟨rowIs_below h.1 hb (by omega), rowIs_below h.2.1 hb (by omega), h.2.2.trans (hb.mono (by omega))⟩)
    (fun _ _ _ _ h _ => h)
    ⟨bB, bA, hB3⟩
    (fun x => { tmps := #[.slice A ps.length cap, undef, .pointer (some ⟨w.heap.size, 0, none⟩), .pointer (some ⟨w.heap.size + 1, 0, none⟩), x.1, .agg #[.int .u32 (uN (F 0)), .int .u32 (uN (F 1)), .int .u32 (uN (F 2)), .int .u32 (uN (F 3)), .int .u32 (uN (F 4)), .int .u32 (uN (F 5)), .int .u32 (uN (F 6)), .int .u32 (uN (F 7))], .slice A ps.length cap, .func (.func 84) #[] #[.pointer (some ⟨w.heap.size + 1 + 1, 0, none⟩)], x.1, undef, undef, undef, undef, undef], defers := [] }) ?assign ?body ?done ?stop
  case assign =>
    intro l2 x V K hK
    gi_wp2
    exact hK
  case body =>
    rintro l2 pre x V hl2 ⟨hH, hZ, hBw⟩ ⟨hrd, h64⟩
    obtain ⟨Ax, capx, hx1, hx2, hx3, hx4⟩ := hrd
    rw [h64] at hx1 hx2 hx4
    obtain ⟨b, o, rfl, _, hcell⟩ := hx4 (by omega)
    rw [hx1]
    have hbV : b < V.heap.size := World.block_lt_of_cell? _ _ (hcell 0 (by omega))
    obtain ⟨s, hs⟩ : ∃ s, (pre.map (·.2)).foldl (turnF K) F = s := ⟨_, rfl⟩
    rw [hs] at hH
    have c0 := hH.cell (i := 0) (by omega)
    have c1 := hH.cell (i := 1) (by omega)
    have c2 := hH.cell (i := 2) (by omega)
    have c3 := hH.cell (i := 3) (by omega)
    have c4 := hH.cell (i := 4) (by omega)
    have c5 := hH.cell (i := 5) (by omega)
    have c6 := hH.cell (i := 6) (by omega)
    have c7 := hH.cell (i := 7) (by omega)
    have Hs := Lib.hid hs
    have Hx := Lib.hid hx1
    have Hcell := Lib.hid hcell
    have H64 := Lib.hid h64
    clear hs hx1 hcell h64 hx4
    gi_wp2_with fail
    have hT := CallsIn.inRound (F := Fence.wide) (n := 0) l2 (callsIn_wide.2 (Turn_any K s x.2 b o capx hx2 hx3 V hbV (by have := hBw.size; omega) (fun i hi => (hBw.cell (p := ⟨1, i, none⟩) h1).trans (HK.out i hi)) Hcell.out))
    refine ⟨trivial, rfl, hT.mono ?_⟩
    clear hT
    rintro e w2 ⟨rfl, hB2⟩
    have r2 := rowIs_below hH hB2 hH.lt
    have z2 := rowIs_below hZ hB2 hZ.lt
    have rw2 : RowW w2 (w.heap.size + 1) 8 := ⟨_, _, r2⟩
    clear c0 c1 c2 c3 c4 c5 c6 c7
    gi_wp2
    refine ⟨((keepsOthers_below hB2).trans (keepsOthers_setCells _ _ _ _)).from _, (KeepBut.below hB2).trans (KeepBut.setCells (by simp) _ _ _), ?_, rowIs_setOther z2 (by omega) _ _, ?_⟩
    · rw [List.map_append, List.foldl_append, Hs.out]
      exact rowIs_setAll r2 _
    · exact below_setCells _ (by omega) _ _ _ (hBw.trans (hB2.mono hBw.size))
  case done =>
    rintro D xs V hD hS ⟨hH, hZ, hBw⟩ hK
    obtain ⟨s, hs⟩ : ∃ s, (xs.map (·.2)).foldl (turnF K) F = s := ⟨_, rfl⟩
    rw [hs] at hH
    have c0 := hH.cell (i := 0) (by omega)
    have c1 := hH.cell (i := 1) (by omega)
    have c2 := hH.cell (i := 2) (by omega)
    have c3 := hH.cell (i := 3) (by omega)
    have c4 := hH.cell (i := 4) (by omega)
    have c5 := hH.cell (i := 5) (by omega)
    have c6 := hH.cell (i := 6) (by omega)
    have c7 := hH.cell (i := 7) (by omega)
    have Hs := Lib.hid hs
    have HS := Lib.hid hS
    have HKD := Lib.hid hK
    clear hs hS hK
    gi_wp2_with fail
    refine ⟨trivial, rfl, (callsIn_wide.2 (digest_any s V)).mono ?_⟩
    rintro e w2 ⟨rfl, hB2⟩
    have z2 := rowIs_below hZ hB2 hZ.lt
    have rw2 : RowW w2 w.heap.size 32 := ⟨_, _, z2⟩
    clear c0 c1 c2 c3 c4 c5 c6 c7
    gi_wp2
    have hK2 : (w2.setCells w.heap.size 0 (rowA 32 (bF (dig s))).toList).heap[D]? = some (.deferred (some [])) := (keepsOthers_setCells _ _ _ _).same D _ ((keepsOthers_below hB2).same D _ HKD.out rfl) rfl
    refine ⟨by simp, .inl ⟨_, _, rfl, run_takeDeferred hK2, ?_⟩⟩
    refine ⟨_, results_row rfl _ rfl (rowIs_putObj (rowIs_setAll z2 (bF (dig s))) (by omega) _) Tryd.underlying32 info31, ?_, ?_⟩
    · rw [← Hs.out, HS.out, shaL, flat_length]
    · exact (below_setCells _ (Nat.le_refl _) _ _ _ (hBw.trans (hB2.mono hBw.size))).trans (below_putObj (by omega) _)
  case stop =>
    rintro D c pre2 V hD _ h hK
    exact h.elim
end Go.Proofs.YtchpmdcacpjojaaDoor
namespace Go.Proofs.YtchpmdcacpjojaaDoor
set_option maxRecDepth 8000
set_option linter.all false
def kTab : List Nat := [1116352408, 1899447441, 3049323471, 3921009573, 961987163, 1508970993, 2453635748, 2870763221, 3624381080, 310598401, 607225278, 1426881987, 1925078388, 2162078206, 2614888103, 3248222580, 3835390401, 4022224774, 264347078, 604807628, 770255983, 1249150122, 1555081692, 1996064986, 2554220882, 2821834349, 2952996808, 3210313671, 3336571891, 3584528711, 113926993, 338241895, 666307205, 773529912, 1294757372, 1396182291, 1695183700, 1986661051, 2177026350, 2456956037, 2730485921, 2820302411, 3259730800, 3345764771, 3516065817, 3600352804, 4094571909, 275423344, 430227734, 506948616, 659060556, 883997877, 958139571, 1322822218, 1537002063, 1747873779, 1955562222, 2024104815, 2227730452, 2361852424, 2428436474, 2756734187, 3204031479, 3329325298]
def fTab : List Nat := [1779033703, 3144134277, 1013904242, 2773480762, 1359893119, 2600822924, 528734635, 1541459225]
def Kc (i : Nat) : BitVec 32 := BitVec.ofNat 32 (kTab.getD i 0)
def Fc (i : Nat) : BitVec 32 := BitVec.ofNat 32 (fTab.getD i 0)
open Go.RowKit
/-- The two tables lie as the program's text lays them. -/
structure Tables (w : World) : Prop where
  size : 1 < w.heap.size
  k : ∀ i, i < 64 → w.cell? ⟨1, i, none⟩ = some (.int .u32 (uN (Kc i)))
  f : ∀ i, i < 8 → w.cell? ⟨0, i, none⟩ = some (.int .u32 (uN (Fc i)))
theorem Tables.below {w w' : World} (h : Tables w) (hb : Below w.heap.size w w') : Tables w' :=
  ⟨by have := h.size; have := hb.size; omega, fun i hi => (hb.cell (p := ⟨1, i, none⟩) h.size).trans (h.k i hi), fun i hi => (hb.cell (p := ⟨0, i, none⟩) (by have := h.size; show 0 < _; omega)).trans (h.f i hi)⟩
theorem Sum_c (pv : Value) (ps : List (Value × List UInt8)) (w : World) (hT : Tables w) (hps : PartsAt w [] pv ps) (ht : total ps ≤ 4611686018427387904) :
    Calls Tryd.prog 72 #[pv] w fun e w' => e = .returned (.agg (rowA 32 (bF (shaL Kc Fc (flat ps))))) ∧ Below w.heap.size w w' :=
  Sum_any Kc Fc pv ps w hT.size hT.k hT.f hps ht
end Go.Proofs.YtchpmdcacpjojaaDoor
/- What a region that makes new memory alone leaves of the tables. -/
namespace Go.Proofs.YtchpmdcacpjojaaDoor
open Go Go.RowKit
set_option maxRecDepth 8000
set_option linter.all false
theorem NewT.tables {w w' : World} (h : NewT w w') (hT : Tables w) : Tables w' := hT.below h
end Go.Proofs.YtchpmdcacpjojaaDoor
/- The contract of Sum. -/
namespace Go.Proofs.YtchpmdcacpjojaaDoor
open Go Go.RowKit
set_option maxRecDepth 8000
set_option linter.all false
/-- The digest of parts. -/
theorem Sum_cv (pv : Value) (ls : List (List UInt8)) (D : Nat → UInt8) (w : World) (hT : Tables w) (hp : Parts w pv ls) (ht : ls.flatten.length ≤ 4611686018427387904) (hD : shaL Kc Fc ls.flatten = D) : Cv 72 #[pv] w (.eq (.agg (rowA 32 (bF D)))) := by
  obtain ⟨ps, hp, rfl⟩ := hp
  have e : (ps.map (·.2)).flatten = flat ps := rfl
  rw [e] at ht hD
  rw [← hD]
  exact Cv.of_eq (Sum_c pv ps w hT hp (by rw [← flat_length]; exact ht))
end Go.Proofs.YtchpmdcacpjojaaDoor
/- A new slice of one byte. -/
namespace Go.Proofs.YtchpmdcacpjojaaDoor
open Go Go.RowKit
set_option maxRecDepth 8000
set_option linter.all false
end Go.Proofs.YtchpmdcacpjojaaDoor
/- Nodes and leaves: what a hash of two is; single operations more. -/
namespace Go.Proofs.YtchpmdcacpjojaaDoor
open Go Go.RowKit
set_option maxRecDepth 8000
set_option linter.all false
section
variable {P : Program} {a : Act} {w : World} {o : Oper} {K : Act → World → Prop} {Q : Exit → Act → World → Prop} {x y : Operand}
end
end Go.Proofs.YtchpmdcacpjojaaDoor
/- Rows of hashes of the own: steps that write them alone, appends. -/
namespace Go.Proofs.YtchpmdcacpjojaaDoor
open Go Go.RowKit
set_option maxRecDepth 8000
set_option linter.all false
/-- A step that writes block g, and blocks from B on, alone. -/
structure FT (g B : Nat) (w w' : World) : Prop where
  below : Below g w w'
  keep : ∀ k o, k < B → k ≠ g → w.heap[k]? = some o → o.isCells = true → w'.heap[k]? = some o
theorem FT.trans {g B : Nat} {a b c : World} (h : FT g B a b) (k : FT g B b c) : FT g B a c := ⟨h.below.trans k.below, fun i o h1 h2 h3 h4 => k.keep i o h1 h2 (h.keep i o h1 h2 h3 h4) h4⟩
theorem FT.of_rt {g B : Nat} {w w' : World} (h : RT g w w') : FT g B w w' := ⟨h.below, fun k o _ hk ho hc => h.keep.2 k o (by simpa using hk) ho hc⟩
theorem FT.new {g B : Nat} {w w' : World} (hg : g < w.heap.size) (h : NewT w w') : FT g B w w' := FT.of_rt (RT.new hg h)
theorem FT.row {g B : Nat} {w w' : World} (h : FT g B w w') {b n : Nat} {t : TypeId} {f : Nat → Value} (hb : b < B) (hne : b ≠ g) (hr : w.rowIs b t n f) : w'.rowIs b t n f := by
  obtain ⟨c, hc, hs, hf⟩ := hr
  exact ⟨c, h.keep _ _ hb hne hc rfl, hs, hf⟩
theorem OwnH.one {W : World} {B : Nat} {v : Value} {l : List Hs} (h : OwnH W B v l) : v.oneCell' = true := by obtain ⟨A, c, rfl, _⟩ := h.cap; rfl
theorem OwnH.rt {w w' : World} {g B : Nat} {v : Value} {l : List Hs} (h : OwnH w B v l) (hg : g < B) (hR : RT g w w') : OwnH w' B v l := by
  refine ⟨h.1, ?_⟩
  rcases h.2 with h2 | ⟨b, cap, cur, hv, hb, hh, r⟩
  · exact .inl h2
  · exact .inr ⟨b, cap, cur, hv, hb, hR.keep.2 b _ (by simp; omega) hh rfl, r⟩
theorem RdH.keep {w w' : World} {v : Value} {l : List Hs} (hr : RdH w v l) (hk : ∀ b o, w.heap[b]? = some o → o.isCells = true → (∃ A n c, v = .slice (some A) n c ∧ A.block = b) → w'.heap[b]? = some o) : RdH w' v l := by
  obtain ⟨A, cap, hv, h1, h2, h3⟩ := hr
  refine ⟨A, cap, hv, h1, h2, fun h0 => ?_⟩
  obtain ⟨b, o, hA, hc⟩ := h3 h0
  refine ⟨b, o, hA, fun i d hd j hj => ?_⟩
  have hcell := hc i d hd j hj
  obtain ⟨ob, ho, hic⟩ : ∃ ob, w.heap[b]? = some ob ∧ ob.isCells = true := by
    unfold World.cell? at hcell
    cases ho : w.heap[b]? with
    | none => simp [ho] at hcell
    | some ob => exact ⟨ob, rfl, by cases ob <;> simp_all [Obj.isCells]⟩
  rw [World.cell?_of_block ((hk b ob ho hic ⟨_, _, _, by rw [hv, hA], rfl⟩).trans ho.symm)]
  exact hcell
section
variable {a : Act} {w : World} {o : Oper} {K : Act → World → Prop} {Q : Exit → Act → World → Prop} {x y : Operand} {g o0 n : Nat} {t' : TypeId} {F : Nat → Value} {v : Value}
theorem opr_ldHs (hr : w.rowIs g t' n F) (hn : o0 < n) (hv : F o0 = v) (ho : o.op = .load 22 x) (hx : a.eval x = .pointer (some ⟨g, o0, none⟩)) (h : K (a.put o.dst v) w) : o.wp Tryd.prog a w K Q :=
  opr_ld1 Tryd.underlying22 rfl ho hx (by rw [hr.cell hn, hv]) h
end
/-- A step of a region that appends onto v, which reads as S, what makes it read as L. -/
structure AT (B : Nat) (v : Value) (S L : List Hs) (w w' : World) : Prop where
  below : Below B w w'
  keep : KeepBut v.ownBlock.toList w w'
  old : OwnH w B v S → OwnH w' B v S
  new : ∀ v', OwnH w B v' L → OwnH w' B v' L
theorem AT.trans {B : Nat} {v : Value} {S L : List Hs} (a b c : World) (h : AT B v S L a b) (k : AT B v S L b c) : AT B v S L a c := ⟨h.below.trans k.below, h.keep.trans k.keep, fun x => k.old (h.old x), fun v' x => k.new v' (h.new v' x)⟩
theorem AT.drew {B : Nat} {v : Value} {S L : List Hs} (w : World) : AT B v S L w w.drew := ⟨(Below.refl _ w).drew, KeepBut.drew w, fun x => x.keep fun _ _ => rfl, fun _ x => x.keep fun _ _ => rfl⟩
theorem AT.refl {B : Nat} {v : Value} {S L : List Hs} (w : World) : AT B v S L w w := ⟨Below.refl _ w, KeepBut.refl _ w, fun x => x, fun _ x => x⟩
end Go.Proofs.YtchpmdcacpjojaaDoor
/- Boxes of one value; what calls hand back together: rows, flags. -/
namespace Go.Proofs.YtchpmdcacpjojaaDoor
open Go Go.RowKit
set_option maxRecDepth 8000
set_option linter.all false
section
variable {P : Program} {w : World} {fn : Func} {tmps : Array Value}
theorem run_ldV_row {b n : Nat} {t ty : TypeId} {d : TypeDesc} {f : Nat → Value} (h : w.rowIs b t n f) (hu : P.underlying ty = some d) (hd : d.isRow = true) (hi : (P.info? ty).map (·.size) = some n) : (loadVar ty ⟨b, 0, none⟩).run P w = .ok (.agg (rowA n f)) w := by
  simpa using run_loadVar_mid (P := P) w b 0 ty (rowA n f).toList d (rangeAt_row h) hu hd (by rw [hi, rowA_toList]; simp)
/-- A row, and a value of the frame. -/
theorem results_rt {p u : Tmp} {tp t : TypeId} {d : TypeDesc} {n b : Nat} {f : Nat → Value} {v : Value} (hf : fn.results = #[.cell p tp, .tmp u]) (hp : tmps.getD p undef = .pointer (some ⟨b, 0, none⟩)) (hv : tmps.getD u undef = v)
    (h : w.rowIs b t n f) (hu : P.underlying tp = some d) (hd : d.isRow = true) (hi : (P.info? tp).map (·.size) = some n) : (results fn tmps).run P w = .ok (.tuple #[.agg (rowA n f), v]) w := by
  have e1 := run_ldV_row (P := P) h hu hd hi
  have hp' : tmps[p]?.getD undef = .pointer (some ⟨b, 0, none⟩) := by simpa using hp
  have hv' : tmps[u]?.getD undef = v := by simpa using hv
  simp [results, hf, hp', hv', asAddr, e1]
variable {a : Act} {o : Oper} {K : Act → World → Prop} {Q : Exit → Act → World → Prop}
/-- One of the values that a call hands back together. -/
theorem opr_ext {k : Nat} {x : Operand} {vs : Array Value} {v : Value} (ho : o.op = .extract x k) (hx : a.eval x = .tuple vs) (hv : vs[k]? = some v) (h : K (a.put o.dst v) w) : o.wp P a w K Q := by
  obtain ⟨dst, op, type, pos, after, guard⟩ := o
  simp only at ho
  subst ho
  exact opr_val (s := Instr.extract (a.eval x) k) (by simp [execOp]) (by rw [hx]; simp [Instr.extract, hv]) h
end
end Go.Proofs.YtchpmdcacpjojaaDoor
/- Numbers of 64 bits that hold numbers of 32, as the reference computes; and the reference's turns and shifts. -/
namespace Go.Proofs.YtchpmdcacpjojaaDoor
open Go.RowKit
set_option maxRecDepth 8000
set_option linter.all false

theorem wrap_u64 (n : Int) : IntKind.u64.wrap n = n % 18446744073709551616 := by simp [IntKind.wrap, IntKind.bits, IntKind.signed]
theorem wrap64_uN (x : BitVec 32) : IntKind.u64.wrap (uN x) = uN x := by rw [wrap_u64]; have := uN_lt x; omega
theorem or64 (a b : Nat) (ha : a < 2 ^ 64) (hb : b < 2 ^ 64) : bits .or .u64 (a : Int) (b : Int) = ((a ||| b : Nat) : Int) := by
  show IntKind.u64.wrap (((BitVec.ofInt 64 (a : Int) ||| BitVec.ofInt 64 (b : Int)).toNat : Nat) : Int) = _
  rw [BitVec.ofInt_natCast, BitVec.ofInt_natCast, BitVec.toNat_or, BitVec.toNat_ofNat, BitVec.toNat_ofNat, Nat.mod_eq_of_lt ha, Nat.mod_eq_of_lt hb, wrap_u64]
  have := Nat.or_lt_two_pow ha hb
  omega
theorem xor64 (a b : Nat) (ha : a < 2 ^ 64) (hb : b < 2 ^ 64) : bits .xor .u64 (a : Int) (b : Int) = ((a ^^^ b : Nat) : Int) := by
  show IntKind.u64.wrap (((BitVec.ofInt 64 (a : Int) ^^^ BitVec.ofInt 64 (b : Int)).toNat : Nat) : Int) = _
  rw [BitVec.ofInt_natCast, BitVec.ofInt_natCast, BitVec.toNat_xor, BitVec.toNat_ofNat, BitVec.toNat_ofNat, Nat.mod_eq_of_lt ha, Nat.mod_eq_of_lt hb, wrap_u64]
  have := Nat.xor_lt_two_pow ha hb
  omega
theorem and64 (a b : Nat) (ha : a < 2 ^ 64) (hb : b < 2 ^ 64) : bits .and .u64 (a : Int) (b : Int) = ((a &&& b : Nat) : Int) := by
  show IntKind.u64.wrap (((BitVec.ofInt 64 (a : Int) &&& BitVec.ofInt 64 (b : Int)).toNat : Nat) : Int) = _
  rw [BitVec.ofInt_natCast, BitVec.ofInt_natCast, BitVec.toNat_and, BitVec.toNat_ofNat, BitVec.toNat_ofNat, Nat.mod_eq_of_lt ha, Nat.mod_eq_of_lt hb, wrap_u64]
  have := Nat.and_lt_two_pow a hb
  omega
theorem lt64 (x : BitVec 32) : x.toNat < 2 ^ 64 := by omega
theorem u64_xor (x y : BitVec 32) : bits .xor .u64 (uN x) (uN y) = uN (x ^^^ y) := by
  unfold uN; rw [xor64 _ _ (lt64 x) (lt64 y), BitVec.toNat_xor]
theorem u64_and (x y : BitVec 32) : bits .and .u64 (uN x) (uN y) = uN (x &&& y) := by
  unfold uN; rw [and64 _ _ (lt64 x) (lt64 y), BitVec.toNat_and]
theorem u64_not (x : BitVec 32) : IntKind.u64.wrap ((4294967295 : Int) - uN x) = uN (~~~x) := by
  rw [wrap_u64]; unfold uN; rw [BitVec.toNat_not]; omega
/-- A sum of numbers of 32 bits, not cut. -/
def tN (l : List (BitVec 32)) : Int := ((l.map BitVec.toNat).sum : Nat)
theorem u64_add2 (a b : BitVec 32) : IntKind.u64.wrap (uN a + uN b) = tN [a, b] := by rw [wrap_u64]; simp [uN, tN]; omega
theorem u64_add3 (a b c : BitVec 32) : IntKind.u64.wrap (tN [a, b] + uN c) = tN [a, b, c] := by rw [wrap_u64]; simp [uN, tN]; omega
theorem u64_add4 (a b c d : BitVec 32) : IntKind.u64.wrap (tN [a, b, c] + uN d) = tN [a, b, c, d] := by rw [wrap_u64]; simp [uN, tN]; omega
theorem u64_add5 (a b c d e : BitVec 32) : IntKind.u64.wrap (tN [a, b, c, d] + uN e) = tN [a, b, c, d, e] := by rw [wrap_u64]; simp [uN, tN]; omega
theorem mod_t2 (a b : BitVec 32) : tN [a, b] % (4294967296 : Int) = uN (a + b) := by simp [uN, tN, BitVec.toNat_add]
theorem mod_t4 (a b c d : BitVec 32) : tN [a, b, c, d] % (4294967296 : Int) = uN (a + b + c + d) := by simp [uN, tN, BitVec.toNat_add]; omega
theorem mod_t5 (a b c d e : BitVec 32) : tN [a, b, c, d, e] % (4294967296 : Int) = uN (a + b + c + d + e) := by simp [uN, tN, BitVec.toNat_add]; omega
theorem u64_rot (x : BitVec 32) (m k : Nat) (hm : m < 32) (hk : k = 32 - m) : bits .or .u64 (uN (x >>> m)) (IntKind.u64.wrap (uN x * 2 ^ k)) % (4294967296 : Int) = uN (x.rotateRight m) := by
  have h1 : IntKind.u64.wrap (uN x * 2 ^ k) = ((x.toNat * 2 ^ k % 2 ^ 64 : Nat) : Int) := by rw [wrap_u64]; unfold uN; simp
  rw [h1]
  unfold uN
  rw [or64 _ _ (lt64 _) (Nat.mod_lt _ (by omega)), BitVec.rotateRight_def, Nat.mod_eq_of_lt hm, BitVec.toNat_or, ← hk]
  have h2 : ((x >>> m).toNat ||| x.toNat * 2 ^ k % 2 ^ 64) % 2 ^ 32 = (x >>> m).toNat ||| (x <<< k).toNat := by
    rw [Nat.or_mod_two_pow, Nat.mod_eq_of_lt (x >>> m).isLt, Nat.mod_mod_of_dvd _ (by decide), BitVec.toNat_shiftLeft, Nat.shiftLeft_eq]
  omega
theorem tN_nonneg (l : List (BitVec 32)) : 0 ≤ tN l := by unfold tN; omega
theorem tmod_t2 (a b : BitVec 32) : (tN [a, b]).tmod (4294967296 : Int) = uN (a + b) := by rw [Int.tmod_eq_emod_of_nonneg (tN_nonneg _), mod_t2]
theorem tmod_t4 (a b c d : BitVec 32) : (tN [a, b, c, d]).tmod (4294967296 : Int) = uN (a + b + c + d) := by rw [Int.tmod_eq_emod_of_nonneg (tN_nonneg _), mod_t4]
theorem tmod_t5 (a b c d e : BitVec 32) : (tN [a, b, c, d, e]).tmod (4294967296 : Int) = uN (a + b + c + d + e) := by rw [Int.tmod_eq_emod_of_nonneg (tN_nonneg _), mod_t5]
theorem u64_rott (x : BitVec 32) (m k : Nat) (hm : m < 32) (hk : k = 32 - m) : (bits .or .u64 (uN (x >>> m)) (IntKind.u64.wrap (uN x * 2 ^ k))).tmod (4294967296 : Int) = uN (x.rotateRight m) := by
  have h1 : IntKind.u64.wrap (uN x * 2 ^ k) = ((x.toNat * 2 ^ k % 2 ^ 64 : Nat) : Int) := by rw [wrap_u64]; unfold uN; simp
  have h0 : 0 ≤ bits .or .u64 (uN (x >>> m)) (IntKind.u64.wrap (uN x * 2 ^ k)) := by
    rw [h1]; unfold uN; rw [or64 _ _ (lt64 _) (Nat.mod_lt _ (by omega))]; omega
  rw [Int.tmod_eq_emod_of_nonneg h0, u64_rot x m k hm hk]
attribute [local go_sem] u32_shr wrap64_uN
set_option maxHeartbeats 400000 in
theorem right_any (x : BitVec 32) (n : Int) (hn : 0 < n) (hn2 : n < 32) (w : World) :
    Calls Tryd.prog 82 #[.int .u64 (uN x), .int .i64 n] w fun e w' => e = .returned (.int .u64 (uN (x.rotateRight n.toNat))) ∧ w = w' := by
  obtain ⟨m, rfl⟩ := Int.eq_ofNat_of_zero_le (Int.le_of_lt hn)
  rw [Int.toNat_natCast]
  have e32 : (32 : Int) - (m : Int) = ((32 - m : Nat) : Int) := by omega
  obtain ⟨k, hk⟩ : ∃ k, k = 32 - m := ⟨_, rfl⟩
  rw [← hk] at e32
  have hr := u64_rott x m k (by omega) hk
  have hk1 : k < 32 := by omega
  have Hk := Lib.hid hk
  clear hk
  go_enter Tryd.func82, Tryd.ntmps82
  go_wp2
  go_ret
  exact ⟨rfl, rfl⟩
set_option maxHeartbeats 400000 in
theorem shift_any (x : BitVec 32) (n : Int) (hn : 0 < n) (hn2 : n < 32) (w : World) :
    Calls Tryd.prog 83 #[.int .u64 (uN x), .int .i64 n] w fun e w' => e = .returned (.int .u64 (uN (x >>> n.toNat))) ∧ w = w' := by
  obtain ⟨m, rfl⟩ := Int.eq_ofNat_of_zero_le (Int.le_of_lt hn)
  rw [Int.toNat_natCast]
  go_enter Tryd.func83, Tryd.ntmps83
  go_wp2
  go_ret
  exact ⟨rfl, rfl⟩
end Go.Proofs.YtchpmdcacpjojaaDoor
/- Package mac's small functions: numbers as bytes, the key's block, its masks: what each call returns, and that it makes new memory alone. -/
namespace Go.Proofs.YtchpmdcacpjojaaDoor
open Go Go.RowKit
set_option maxRecDepth 8000
set_option linter.all false

theorem u8_xor (x y : UInt8) : bits .xor .u8 (bN x) (bN y) = bN (x ^^^ y) := by
  have h : ∀ a b : BitVec 8, bits .xor .u8 ((a.toNat : Nat) : Int) ((b.toNat : Nat) : Int) = (((a ^^^ b).toNat : Nat) : Int) := by
    intro a b
    show IntKind.u8.wrap ((BitVec.ofInt 8 ((a.toNat : Nat) : Int) ^^^ BitVec.ofInt 8 ((b.toNat : Nat) : Int)).toNat : Int) = _
    simp only [BitVec.ofInt_natCast, BitVec.ofNat_toNat, BitVec.setWidth_eq]
    rw [wrap_u8]; have := (a ^^^ b).isLt; omega
  exact h x.toBitVec y.toBitVec
/-- The lowest s bytes of a number, the highest first. -/
def hiB (n s i : Nat) : UInt8 := UInt8.ofNat (n / 2 ^ (8 * (s - 1 - i)))
def hiL (n s : Nat) : List UInt8 := (List.range s).map (hiB n s)
theorem hiL_length (n s : Nat) : (hiL n s).length = s := by simp [hiL]
theorem hiB_eq (n s i : Nat) : IntKind.u8.wrap ((n : Int) / 2 ^ (8 * (s - 1 - i))) = bN (hiB n s i) := by
  rw [wrap_u8, hiB, bN, UInt8.toNat_ofNat']
  have h2 : ((2 : Int) ^ (8 * (s - 1 - i))) = ((2 ^ (8 * (s - 1 - i)) : Nat) : Int) := by simp
  rw [h2, ← Int.natCast_ediv]
  omega
set_option maxHeartbeats 1000000 in
theorem hiF_any (n s : Nat) (hs : 1 ≤ s) (hs2 : s ≤ 8) (w : World) :
    Cv 76 #[.int .u64 (n : Int), .int .i64 (s : Int)] w (svRdN w (hiL n s)) := by
  unfold Cv
  obtain ⟨i0, hi, hz0, hz1, hz2⟩ := info_parts info5
  have hmk : ∀ W : World, (Instr.makeSlice 49 (.int .i64 (s : Int)) (.int .i64 (s : Int))).run Tryd.prog W = .ok (.slice (some ⟨W.heap.size, 0, none⟩) s s) (W.alloc (.cells (rowA s (bF fun _ => 0)) 5)) := make_bytes i0 hi hz0 hz1 hz2 s (by omega)
  have HB := Lib.hid (hiB_eq n s)
  clear hi hz0 hz1 hz2
  go_enter Tryd.func76, Tryd.ntmps76
  go_wp2
  have r0 := rowIs_box w 5 s (bF fun _ => 0)
  have hB : Below w.heap.size w (w.alloc (.cells (rowA s (bF fun _ => 0)) 5)) := (Below.refl _ w).alloc (Nat.le_refl _) _
  generalize w.alloc (.cells (rowA s (bF fun _ => 0)) 5) = W0 at r0 hB ⊢
  clear hmk
  go_loopw [11] (fun i wr => ∃ k : Nat, k ≤ s ∧ i = .int .i64 k ∧ wr.rowIs w.heap.size 5 s (bF (putTo (hiB n s) k)) ∧ Below w.heap.size w wr) (fun i _ => s - (intOf i).toNat)
  case atStart => exact ⟨0, by omega, rfl, r0.congr fun i _ => by simp [bF, putTo], hB⟩
  case round =>
    obtain ⟨k, hk, rfl, q0, qB⟩ := hrel
    clear r0 hB
    by_cases hlt : k < s
    · have c0 := q0.cell (i := k) hlt
      have f0 := q0.frozen k
      have e8 : ((8 : Int) * ((s : Int) - 1 - (k : Int))).toNat = 8 * (s - 1 - k) := by omega
      have hb8 := HB.out k
      go_wp2
      go_roundw
      case rel => exact ⟨k + 1, by omega, by go_num, (q0.set k _).congr fun i _ => putTo_set _ k i, qB.setCell (by simp) _⟩
      case measure => simp [intOf]; omega
    · obtain rfl : k = s := by omega
      go_wp2
      go_ret
      refine ⟨_, rfl, qB, fun L hL => ?_⟩
      have := rd_row (L := L) q0 (fun hm => by have := hL _ hm; omega) (by omega)
      have e : (List.range k).map (putTo (hiB n k) k) = hiL n k := List.map_congr_left fun i hi => by simp at hi; simp [putTo, hi]
      rw [e] at this
      exact this
theorem hiF_8 (n : Nat) (w : World) : Cv 76 #[.int .u64 (n : Int), .int .i64 8] w (svRdN w (hiL n 8)) := hiF_any n 8 (by omega) (by omega) w
end Go.Proofs.YtchpmdcacpjojaaDoor
/- Package sha, more: blocks of a text, one by one. -/
namespace Go.Proofs.YtchpmdcacpjojaaDoor
open Go.RowKit
set_option maxRecDepth 8000
set_option linter.all false
attribute [local go_sem] uF_at
theorem slice_blk (b o n cap j : Nat) (h : j + 64 ≤ cap) (w : World) : (Instr.slice 49 (.slice (some ⟨b, o, none⟩) n cap) (some (.int .i64 (j : Int))) (some (.int .i64 ((j : Int) + 64))) none).run Tryd.prog w = .ok (.slice (some ⟨b, o + j, none⟩) 64 (cap - j)) w := by
  have hsz : (sizeOf 5).run Tryd.prog w = .ok 1 w := by
    obtain ⟨i0, hi, _, hz1, _⟩ := info_parts info5
    simp [sizeOf, typeInfo, hi, hz1]
  have h3 : (0 : Int) ≤ (j : Int) + 64 ∧ (j : Int) + 64 ≤ (cap : Int) := by omega
  have h4 : j ≤ ((j : Int) + 64).toNat := by omega
  have h6 : ((j : Int) + 64).toNat - j = 64 := by omega
  have h5 : cap ≠ j := by omega
  simp [Instr.slice, run_underlying Tryd.underlying49, Instr.sliceBounds, Instr.sliceBound, asIntOf, hsz, h3, h4, h5, h6, Addr.add_mid]
/-- A text's block. -/
def blk (c : List UInt8) (i : Nat) : List UInt8 := (c.drop (64 * i)).take 64
/-- The state behind the first blocks. -/
def sB (c : List UInt8) : Nat → Nat → BitVec 32
  | 0 => Fc
  | k + 1 => turnF Kc (sB c k) (blk c k)
theorem bAt_blk (c : List UInt8) (k i : Nat) (h : i < 64) : bAt (blk c k) i = bAt c (64 * k + i) := by
  simp [bAt, blk, h, List.getElem?_drop]
theorem sB_fold (c : List UInt8) (k : Nat) : ((List.range k).map (blk c)).foldl (turnF Kc) Fc = sB c k := by
  induction k with
  | zero => rfl
  | succ k ih => rw [List.range_succ, List.map_append, List.foldl_append, ih]; rfl
end Go.Proofs.YtchpmdcacpjojaaDoor
/- Package mac: the key's masks, and its block. -/
namespace Go.Proofs.YtchpmdcacpjojaaDoor
open Go Go.RowKit
set_option maxRecDepth 8000
set_option linter.all false
attribute [local go_sem] bF_at u8_xor

def maskTo (b : Nat → UInt8) (m : UInt8) (k i : Nat) : UInt8 := if i < k then b i ^^^ m else b i
theorem maskTo_set (b : Nat → UInt8) (m : UInt8) (k i : Nat) : (if i = k then Value.int .u8 (bN (b k ^^^ m)) else bF (maskTo b m k) i) = bF (maskTo b m (k + 1)) i := by
  simp only [bF, maskTo]
  by_cases h : i = k
  · subst h; simp
  · by_cases h2 : i < k
    · rw [if_neg h, if_pos h2, if_pos (by omega)]
    · rw [if_neg h, if_neg h2, if_neg (by omega)]
/-- A block, each byte put together with m. -/
def maskL (b : Nat → UInt8) (m : UInt8) : List UInt8 := (List.range 64).map fun i => b i ^^^ m
theorem maskL_length (b : Nat → UInt8) (m : UInt8) : (maskL b m).length = 64 := by simp [maskL]
theorem info64 : (Tryd.prog.info? 108).map (·.size) = some 64 := by kernel_rfl
theorem run_sliceAt_64 (w : World) (g : Nat) : (Instr.sliceAt 108 (.pointer (some ⟨g, 0, none⟩)) none none none).run Tryd.prog w = .ok (.slice (some ⟨g, 0, none⟩) 64 64) w := by
  have hsz : (sizeOf 5).run Tryd.prog w = .ok 1 w := by
    have hs := info5s
    cases hq : Tryd.prog.info? 5 with
    | none => simp [hq] at hs
    | some i => simp [hq] at hs; simp [sizeOf, typeInfo, hq, hs]
  simp [Instr.sliceAt, run_underlying Tryd.underlying108, Instr.sureAddr, Instr.sliceBounds, hsz, Addr.add_zero']
attribute [local go_sem] run_sliceAt_64
set_option maxHeartbeats 1000000 in
theorem masked_any (b : Nat → UInt8) (m : UInt8) (w : World) : Cv 74 #[.agg (rowA 64 (bF b)), .int .u8 (bN m)] w (svRd (maskL b m)) := by
  unfold Cv
  go_enter Tryd.func74, Tryd.ntmps74
  go_upto_region 1 with fail
  have r0 := rowIs_box w 108 64 (bF b)
  have hB : Below w.heap.size w (w.alloc (.cells (rowA 64 (bF b)) 108)) := (Below.refl _ w).alloc (Nat.le_refl _) _
  change Code.wp _ _ _ _ (w.alloc (.cells (rowA 64 (bF b)) 108))
  generalize w.alloc (.cells (rowA 64 (bF b)) 108) = W0 at r0 hB ⊢
  go_wp2
  go_loopw [6] (fun i wr => ∃ k : Nat, k ≤ 64 ∧ i = .int .i64 k ∧ wr.rowIs w.heap.size 108 64 (bF (maskTo b m k)) ∧ Below w.heap.size w wr) (fun i _ => 64 - (intOf i).toNat)
  case atStart => exact ⟨0, by omega, rfl, r0.congr fun i _ => by simp [bF, maskTo], hB⟩
  case round =>
    obtain ⟨k, hk, rfl, q0, qB⟩ := hrel
    clear r0 hB
    by_cases hlt : k < 64
    · have c0 := q0.cell (i := k) hlt
      rw [bF_at, show maskTo b m k k = b k by simp [maskTo]] at c0
      have f0 := q0.frozen k
      go_wp2
      go_roundw
      case rel => exact ⟨k + 1, by omega, by go_num, (q0.set k _).congr fun i _ => maskTo_set _ _ k i, qB.setCell (by simp) _⟩
      case measure => simp [intOf]; omega
    · obtain rfl : k = 64 := by omega
      go_wp2
      go_ret
      have := rd_row (L := []) q0 (by simp) (by omega)
      refine ⟨_, rfl, qB, ?_⟩
      have e : (List.range 64).map (maskTo b m 64) = maskL b m := List.map_congr_left fun i hi => by simp at hi; simp [maskTo, hi]
      rw [e] at this
      exact this
/-- A key as HMAC takes it. -/
def keyOf (l : List UInt8) : List UInt8 := if 64 < l.length then digL (shaL Kc Fc l) else l
def keyB (l : List UInt8) (i : Nat) : UInt8 := bAt (keyOf l) i

/-- Bytes copied into a row that is new. -/
theorem opr_copy {B : Nat} {a : Act} {w W : World} {o : Oper} {K : Act → World → Prop} {Q : Exit → Act → World → Prop} {x y : Operand} {g n c : Nat} {t : TypeId} {f0 : Nat → UInt8} {l : List UInt8} {L : List Nat}
    (ho : o.op = .call { callee := .builtin .copy, args := #[x, y], argTypes := #[49, 49] }) (hx : a.eval x = .slice (some ⟨g, 0, none⟩) n c) (hy : RdV w L (a.eval y) l) (hl : l.length ≤ n) (hr : w.rowIs g t n (bF f0)) (hN : Below B W w) (hg : B ≤ g)
    (h : ∀ v w', Below B W w' → w'.rowIs g t n (bF fun i => if i < l.length then bAt l i else f0 i) → K (a.put o.dst v) w') : o.wp Tryd.prog a w K Q := by
  obtain ⟨dst, op, type, pos, after, guard⟩ := o
  simp only at ho
  subst ho
  obtain ⟨A, cap, hv, _, _, hc⟩ := hy
  have hex : execOp a.eval { dst, op := .call { callee := .builtin .copy, args := #[x, y], argTypes := #[49, 49] }, type, pos, after, guard } = (do pure (.value (← Builtin.copy_ #[49, 49] type #[a.eval x, a.eval y]))) := by
    show (do let d ← resolve a.eval { callee := .builtin .copy, args := #[x, y], argTypes := #[49, 49] } type; invoke d.target d.args) = _
    simp only [resolve, invoke, pure_bind, BigFrame.builtin_copy, List.map_toArray, List.map_cons, List.map_nil]
  by_cases h0 : l.length = 0
  · refine opr_val (s := Builtin.copy_ #[49, 49] type #[a.eval x, a.eval y]) (v := goInt 0) (w' := w) hex ?_ (h _ _ hN (hr.congr fun i _ => by simp [bF, h0]))
    rw [hx, hv]
    exact run_copy_none (P := Tryd.prog) w 49 49 type 5 _ _ _ _ _ _ Tryd.underlying49 info5s (by rw [h0]; exact Nat.zero_min _)
  · obtain ⟨b, o2, rfl, _, hcell⟩ := hc (by omega)
    have hlen : (l.map fun b => Value.int .u8 (bN b)).length = l.length := by simp
    refine opr_val (s := Builtin.copy_ #[49, 49] type #[a.eval x, a.eval y]) (v := goInt (l.map fun b => Value.int .u8 (bN b)).length) (w' := w.setCells g 0 (l.map fun b => Value.int .u8 (bN b))) hex ?_ (h _ _ (below_setCells g hg _ _ _ hN) ((rowIs_setCells_at hr _ 0).congr fun i hi => ?_))
    · rw [hx, hv]
      refine run_copy_cells (P := Tryd.prog) w 49 49 type 5 g 0 n c ⟨b, o2, none⟩ l.length cap _ Tryd.underlying49 info5s (by rw [hlen]; exact (Nat.min_eq_left hl).symm) (fun j v hj => ?_) (fun j hj => ?_) (fun j hj => ?_) (by simp [Value.oneCell'])
      · have hjl : j < l.length := by have := (List.getElem?_eq_some_iff.1 hj).1; simpa using this
        rw [map_at l j hjl] at hj
        rw [Addr.add_mid, hcell j hjl]; exact hj
      · rw [hlen] at hj; rw [Nat.zero_add, hr.cell (by omega)]; rfl
      · rw [Nat.zero_add]; exact hr.frozen j
    · rw [hlen]
      by_cases hil : i < l.length
      · simp [hil, bF, bAt]
      · simp [hil, bF]
theorem run_alloc_64 (w : World) : (Instr.alloc 108 true (.tuple #[])).run Tryd.prog w = .ok (.pointer (some ⟨w.heap.size, 0, none⟩)) (w.alloc (.cells (rowA 64 (bF fun _ => 0)) 108)) := by
  simp [go_sem]; rfl
theorem opr_alloc_64 {a : Act} {w : World} {o : Oper} {K : Act → World → Prop} {Q : Exit → Act → World → Prop} {W : World} (ho : o.op = .alloc 108) (hT : NewT W w) (h : ∀ v w', NewT w w' → (svNew W 108 64).pred v w' → K (a.put o.dst v) w') : o.wp Tryd.prog a w K Q := by
  obtain ⟨dst, op, type, pos, after, guard⟩ := o
  simp only at ho
  subst ho
  exact opr_val (s := Instr.alloc 108 true (.tuple #[])) rfl (run_alloc_64 w) (h _ _ (NewT.alloc _ _) ⟨w.heap.size, rfl, hT.out.size, rowIs_box w 108 64 _⟩)
theorem opr_load_64 {a : Act} {w : World} {o : Oper} {K : Act → World → Prop} {Q : Exit → Act → World → Prop} {x : Operand} {g : Nat} {t : TypeId} {d : Nat → UInt8} (ho : o.op = .load 108 x) (hx : a.eval x = .pointer (some ⟨g, 0, none⟩)) (hr : w.rowIs g t 64 (bF d)) (h : K (a.put o.dst (.agg (rowA 64 (bF d)))) w) : o.wp Tryd.prog a w K Q := by
  obtain ⟨dst, op, type, pos, after, guard⟩ := o
  simp only at ho
  subst ho
  refine opr_val (s := Instr.loadAt 108 (a.eval x)) rfl ?_ h
  rw [hx]
  have := run_loadAt_mid (P := Tryd.prog) w g 0 108 (rowA 64 (bF d)).toList _ (rangeAt_row hr) Tryd.underlying108 rfl (by rw [rowA_toList]; simpa using info64)
  simpa using this
theorem opr_slice_64 {a : Act} {w : World} {o : Oper} {K : Act → World → Prop} {Q : Exit → Act → World → Prop} {x : Operand} {g : Nat} (ho : o.op = .slice 108 x none none none) (hx : a.eval x = .pointer (some ⟨g, 0, none⟩)) (h : K (a.put o.dst (.slice (some ⟨g, 0, none⟩) 64 64)) w) : o.wp Tryd.prog a w K Q := by
  obtain ⟨dst, op, type, pos, after, guard⟩ := o
  simp only at ho
  subst ho
  refine opr_val (s := Instr.sliceAt 108 (a.eval x) none none none) rfl ?_ h
  rw [hx]; exact run_sliceAt_64 w g
end Go.Proofs.YtchpmdcacpjojaaDoor
/- Package mac: the key's block. -/
namespace Go.Proofs.YtchpmdcacpjojaaDoor
open Go Go.RowKit
set_option maxRecDepth 8000
set_option linter.all false
set_option maxHeartbeats 1000000 in
theorem keyBlock_short (A : Option Addr) (n c : Nat) (l : List UInt8) (w : World) (hr : RdV w [] (.slice A n c) l) (hl : l.length ≤ 64) :
    Cv 71 #[.slice A n c] w (.eq (.agg (rowA 64 (bF (keyB l))))) := by
  have hk : keyB l = bAt l := by unfold keyB keyOf; rw [if_neg (by omega)]
  rw [hk]
  unfold Cv
  have hn : l.length = n := by obtain ⟨_, _, hv, _⟩ := hr; cases hv; rfl
  subst hn
  have Hr := Lib.hid hr
  clear hr hk
  have hd : decide ((64 : Int) < (l.length : Int)) = false := by simp; omega
  go_enter Tryd.func71, Tryd.ntmps71
  go_upto_region 2 with fail
  have r0 := (rowIs_box w 108 64 (bF fun _ => 0)).alloc (.cells (rowA 64 (bF fun _ => 0)) 108)
  have r1 := rowIs_box (w.alloc (.cells (rowA 64 (bF fun _ => 0)) 108)) 108 64 (bF fun _ => 0)
  rw [World.size_alloc] at r1
  have hB : Below w.heap.size w ((w.alloc (.cells (rowA 64 (bF fun _ => 0)) 108)).alloc (.cells (rowA 64 (bF fun _ => 0)) 108)) := ((Below.refl _ w).alloc (Nat.le_refl _) _).alloc (by simp) _
  change Code.wp _ _ _ _ ((w.alloc (.cells (rowA 64 (bF fun _ => 0)) 108)).alloc (.cells (rowA 64 (bF fun _ => 0)) 108))
  generalize ((w.alloc (.cells (rowA 64 (bF fun _ => 0)) 108)).alloc (.cells (rowA 64 (bF fun _ => 0)) 108)) = W0 at r0 r1 hB ⊢
  have Hr0 := Lib.hid (Hr.out.keep (KeepBut.below hB))
  go_upto_region 5 with fail
  refine wp_region_seq NewT [SV.eq (.slice (some ⟨w.heap.size + 1, 0, none⟩) 64 64), svRd l] [([(3, none)], none), ([(0, none)], none)] 16 rfl rfl (by kernel_rfl) rfl NewT.trans (NewT.refl _) (Nat.le_of_ble_eq_true rfl) ⟨?_, ?_, trivial⟩ ?_
  · -- 0: Op.slice 108 t3 none none none
    intro a wx hT hF K hK
    obtain ⟨f3, _⟩ := hF
    have f3 : a.tmps.getD 3 undef = .pointer (some ⟨w.heap.size + 1, 0, none⟩) := f3
    refine rely_wp rfl ?_
    exact opr_slice_64 rfl f3 (hK _ _ (NewT.refl _) rfl)
  · -- 1: Op.move t0
    intro a wx hT hF K hK
    obtain ⟨f0, _⟩ := hF
    have f0 : a.tmps.getD 0 undef = .slice A l.length c := f0
    refine rely_wp rfl ?_
    exact opr_move (.inl rfl) (hK _ _ (NewT.refl _) (by rw [eval_tmp, f0]; exact hT.rd Hr0.out))
  · intro wx hT
    intro u h; obtain rfl := h (by simp); clear h
    intro u13 h; have g13 := h (by simp); clear h; replace g13 := show (svRd l).pred u13 wx from g13
    refine relyEnd_nil rfl ?_
    simp only [Act.put, List.setIfInBounds_toArray, List.set_cons_zero, List.set_cons_succ]
    refine opr_copy (B := w.heap.size + 1) (W := W0) rfl rfl g13 hl (hT.row r1) (hT.out.mono (Nat.le_of_lt r1.lt)) (Nat.le_refl _) ?_
    intro v w2 hB2 q1
    replace q1 := q1.congr (g := bF (bAt l)) (fun i _ => by simp only [bF]; by_cases h : i < l.length <;> simp [h, bAt])
    have q0 := rowIs_below r0 hB2 (Nat.lt_succ_self _)
    have hB3 := hB.trans (hB2.mono (Nat.le_succ _))
    clear r0 r1 hB hB2 hT
    go_simp
    go_upto_region 6 with fail
    refine wp_region_seq NewT [SV.eq (.agg (rowA 64 (bF (bAt l))))] [([(3, none)], none)] 16 rfl rfl (by kernel_rfl) rfl NewT.trans (NewT.refl _) (Nat.le_of_ble_eq_true rfl) ⟨?_, trivial⟩ ?_
    · intro a wx hT hF K hK
      obtain ⟨f3, _⟩ := hF
      have f3 : a.tmps.getD 3 undef = .pointer (some ⟨w.heap.size + 1, 0, none⟩) := f3
      refine rely_wp rfl ?_
      exact opr_load_64 rfl f3 (hT.row q1) (hK _ _ (NewT.refl _) rfl)
    · intro wx hT
      intro u h; obtain rfl := h (by simp); clear h
      refine relyEnd_nil rfl ?_
      simp only [Act.put, List.setIfInBounds_toArray, List.set_cons_zero, List.set_cons_succ]
      refine opr_store_new (B := w.heap.size) (W := w) info64 rfl rfl rfl (hT.row q0) (hB3.trans (hT.out.mono hB3.size)) (Nat.le_refl _) ?_
      intro wy hB4 r4
      go_simp
      go_wp2
      exact bodyPost_ret (results_row rfl _ rfl r4 Tryd.underlying108 info64) rfl ⟨_, rfl, hB4, rfl⟩
set_option maxHeartbeats 1000000 in
theorem keyBlock_long (A : Option Addr) (n c : Nat) (l : List UInt8) (w : World) (hT : Tables w) (hr : RdV w [] (.slice A n c) l) (hl : 64 < l.length) (hl2 : l.length ≤ 4611686018427387904) :
    Cv 71 #[.slice A n c] w (.eq (.agg (rowA 64 (bF (keyB l))))) := by
  have hk : keyB l = bAt (digL (shaL Kc Fc l)) := by unfold keyB keyOf; rw [if_pos hl]
  rw [hk]
  obtain ⟨D, HD⟩ := hid_ex (shaL Kc Fc l)
  rw [HD.out]
  have HT := Lib.hid hT
  clear hT
  unfold Cv
  have hn : l.length = n := by obtain ⟨_, _, hv, _⟩ := hr; cases hv; rfl
  subst hn
  have Hr := Lib.hid hr
  clear hr hk
  have hd : decide ((64 : Int) < (l.length : Int)) = true := by simp; omega
  go_enter Tryd.func71, Tryd.ntmps71
  go_upto_region 2 with fail
  have r0 := (rowIs_box w 108 64 (bF fun _ => 0)).alloc (.cells (rowA 64 (bF fun _ => 0)) 108)
  have r1 := rowIs_box (w.alloc (.cells (rowA 64 (bF fun _ => 0)) 108)) 108 64 (bF fun _ => 0)
  rw [World.size_alloc] at r1
  have hB : Below w.heap.size w ((w.alloc (.cells (rowA 64 (bF fun _ => 0)) 108)).alloc (.cells (rowA 64 (bF fun _ => 0)) 108)) := ((Below.refl _ w).alloc (Nat.le_refl _) _).alloc (by simp) _
  change Code.wp _ _ _ _ ((w.alloc (.cells (rowA 64 (bF fun _ => 0)) 108)).alloc (.cells (rowA 64 (bF fun _ => 0)) 108))
  generalize ((w.alloc (.cells (rowA 64 (bF fun _ => 0)) 108)).alloc (.cells (rowA 64 (bF fun _ => 0)) 108)) = W0 at r0 r1 hB ⊢
  have Hr0 := Lib.hid (Hr.out.keep (KeepBut.below hB))
  have HT0 := Lib.hid (HT.out.below hB)
  go_upto_region 3 with fail
  refine wp_region_seq NewT [svRd l, svParts [l], SV.eq (.agg (rowA 32 (bF D))), svNew W0 32 32] [([(0, none)], none), ([(8, some 0)], none), ([(9, some 1)], none), ([], none)] 16 rfl rfl (by kernel_rfl) rfl NewT.trans (NewT.refl _) (Nat.le_of_ble_eq_true rfl) ⟨?_, ?_, ?_, ?_, trivial⟩ ?_
  · -- 0: Op.move t0
    intro a wx hT hF K hK
    obtain ⟨f0, _⟩ := hF
    have f0 : a.tmps.getD 0 undef = .slice A l.length c := f0
    refine rely_wp rfl ?_
    exact opr_move (.inl rfl) (hK _ _ (NewT.refl _) (by rw [eval_tmp, f0]; exact hT.rd Hr0.out))
  · -- 1: Op.buildSlice 99 1 #[(0, t8)]
    intro a wx hT hF K hK
    obtain ⟨f8, _⟩ := hF
    replace f8 := show (svRd l).pred (a.tmps.getD 8 undef) wx from f8
    refine rely_wp rfl ?_
    exact opr_bs1 rfl f8 hK
  · -- 2: Op.call ( value (Operand.func 72), args := #[t9], argTypes :
    intro a wx hT hF K hK
    obtain ⟨f9, _⟩ := hF
    replace f9 := show (svParts [l]).pred (a.tmps.getD 9 undef) wx from f9
    refine rely_wp rfl ?_
    exact opr_cv (Sum_cv _ [l] D wx (hT.tables HT0.out) f9 (by simpa using hl2) (by simp; exact HD.out)) rfl Tryd.func72 (by kernel_rfl) (by kernel_rfl) (by simp only [List.map_toArray, List.map_cons, List.map_nil, eval_tmp]) hK
  · -- 3: Op.alloc 32
    intro a wx hT hF K hK
    refine rely_wp rfl ?_
    exact opr_alloc_hash rfl hT hK
  · intro wx hT
    intro u8 h; have g8 := h (by simp); clear h; replace g8 := show (svRd l).pred u8 wx from g8
    intro u9 h; have g9 := h (by simp); clear h; replace g9 := show (svParts [l]).pred u9 wx from g9
    intro u h; obtain rfl := h (by simp); clear h
    intro u4 h; obtain ⟨p4, hv, hp4, rr4⟩ := svNew_out (h (by simp)); clear h; subst hv
    refine relyEnd_nil rfl ?_
    simp only [Act.put, List.setIfInBounds_toArray, List.set_cons_zero, List.set_cons_succ]
    refine opr_store_new info31 rfl rfl rfl rr4 hT.out hp4 ?_
    clear hT rr4
    intro wy hT rr4
    replace hT := NewT.of hT
    go_simp
    replace r0 := hT.row r0
    replace r1 := hT.row r1
    replace hB := hB.trans (hT.out.mono hB.size)
    have rdD := rd_row (L := []) rr4 (by simp) (by omega)
    change RdV wy [] (.slice (some ⟨p4, 0, none⟩) 32 32) (digL D) at rdD
    have RdD := Lib.hid rdD
    clear rdD rr4 Hr0 HT0 hT g8 g9 hp4
    have rdD := RdD.out
    go_upto_region 5 with fail
    refine wp_region_seq NewT [SV.eq (.slice (some ⟨w.heap.size + 1, 0, none⟩) 64 64), svRd (digL D)] [([(3, none)], none), ([(0, none)], none)] 16 rfl rfl (by kernel_rfl) rfl NewT.trans (NewT.refl _) (Nat.le_of_ble_eq_true rfl) ⟨?_, ?_, trivial⟩ ?_
    · -- 0: Op.slice 108 t3 none none none
      intro a wx hT hF K hK
      obtain ⟨f3, _⟩ := hF
      have f3 : a.tmps.getD 3 undef = .pointer (some ⟨w.heap.size + 1, 0, none⟩) := f3
      refine rely_wp rfl ?_
      exact opr_slice_64 rfl f3 (hK _ _ (NewT.refl _) rfl)
    · -- 1: Op.move t0
      intro a wx hT hF K hK
      obtain ⟨f0, _⟩ := hF
      have f0 : a.tmps.getD 0 undef = .slice (some ⟨p4, 0, none⟩) 32 32 := f0
      refine rely_wp rfl ?_
      exact opr_move (.inl rfl) (hK _ _ (NewT.refl _) (by rw [eval_tmp, f0]; exact hT.rd rdD))
    · intro wx hT
      intro u h; obtain rfl := h (by simp); clear h
      intro u13 h; have g13 := h (by simp); clear h; replace g13 := show (svRd (digL D)).pred u13 wx from g13
      refine relyEnd_nil rfl ?_
      simp only [Act.put, List.setIfInBounds_toArray, List.set_cons_zero, List.set_cons_succ]
      refine opr_copy (B := w.heap.size + 1) (W := wy) rfl rfl g13 (by rw [digL_length]; omega) (hT.row r1) (hT.out.mono (Nat.le_of_lt r1.lt)) (Nat.le_refl _) ?_
      intro v w2 hB2 q1
      replace q1 := q1.congr (g := bF (bAt (digL D))) (fun i _ => by simp only [bF]; by_cases h : i < (digL D).length <;> simp [h, bAt])
      have q0 := rowIs_below r0 hB2 (Nat.lt_succ_self _)
      have hB3 := hB.trans (hB2.mono (Nat.le_succ _))
      clear r0 r1 hB hB2 hT
      go_simp
      go_upto_region 6 with fail
      refine wp_region_seq NewT [SV.eq (.agg (rowA 64 (bF (bAt (digL D)))))] [([(3, none)], none)] 16 rfl rfl (by kernel_rfl) rfl NewT.trans (NewT.refl _) (Nat.le_of_ble_eq_true rfl) ⟨?_, trivial⟩ ?_
      · intro a wx hT hF K hK
        obtain ⟨f3, _⟩ := hF
        have f3 : a.tmps.getD 3 undef = .pointer (some ⟨w.heap.size + 1, 0, none⟩) := f3
        refine rely_wp rfl ?_
        exact opr_load_64 rfl f3 (hT.row q1) (hK _ _ (NewT.refl _) rfl)
      · intro wx hT
        intro u h; obtain rfl := h (by simp); clear h
        refine relyEnd_nil rfl ?_
        simp only [Act.put, List.setIfInBounds_toArray, List.set_cons_zero, List.set_cons_succ]
        refine opr_store_new (B := w.heap.size) (W := w) info64 rfl rfl rfl (hT.row q0) (hB3.trans (hT.out.mono hB3.size)) (Nat.le_refl _) ?_
        intro wy hB4 r4
        go_simp
        go_wp2
        exact bodyPost_ret (results_row rfl _ rfl r4 Tryd.underlying108 info64) rfl ⟨_, rfl, hB4, rfl⟩
theorem keyBlock_cv (v : Value) (l : List UInt8) (w : World) (hT : Tables w) (hr : RdV w [] v l) (hl2 : l.length ≤ 4611686018427387904) : Cv 71 #[v] w (.eq (.agg (rowA 64 (bF (keyB l))))) := by
  have hr0 := hr
  obtain ⟨A, c, rfl, _⟩ := hr0
  by_cases h : l.length ≤ 64
  · exact keyBlock_short A _ c l w hr h
  · exact keyBlock_long A _ c l w hT hr (by omega) hl2
end Go.Proofs.YtchpmdcacpjojaaDoor
/- Package mac: slices of slices that are put together piece by piece: each piece reads as bytes that no append turns. -/
namespace Go.Proofs.YtchpmdcacpjojaaDoor
open Go Go.RowKit
set_option maxRecDepth 8000
set_option linter.all false

/-- Pieces: a row of slices of the call's own (from base on), each of which reads as its bytes outside that row. -/
def Pcs (W : World) (base : Nat) (v : Value) (ls : List (List UInt8)) : Prop :=
  ∃ ps : List (Value × List UInt8), ps.map (·.2) = ls ∧ W.ownsRow base 49 1 v ps.length (ps.map (·.1)) ∧ ∀ x ∈ ps, RdV W v.ownBlock.toList x.1 x.2
theorem Pcs.own_lt {W : World} {base : Nat} {v : Value} {ls : List (List UInt8)} (h : Pcs W base v ls) (k : Nat) (hk : v.ownBlock = some k) : k < W.heap.size ∧ base ≤ k := by
  obtain ⟨ps, _, ho, _⟩ := h
  exact ⟨(ho.lt k hk).2, (ho.lt k hk).1⟩
theorem Pcs.new {W W' : World} {base : Nat} {v : Value} {ls : List (List UInt8)} (h : Pcs W base v ls) (hN : NewT W W') : Pcs W' base v ls := by
  have hlt := h.own_lt
  obtain ⟨ps, h1, h2, h3⟩ := h
  refine ⟨ps, h1, ?_, fun x hx => hN.rd (h3 x hx)⟩
  obtain ⟨a, b⟩ := h2
  refine ⟨a, ?_⟩
  rcases b with b | ⟨g, cap, cur, rfl, hb, hg, r⟩
  · exact .inl b
  · exact .inr ⟨g, cap, cur, rfl, hb, (hN.out.block g (hlt g rfl).1).trans hg, r⟩
theorem Pcs.parts {W : World} {base : Nat} {v : Value} {ls : List (List UInt8)} (h : Pcs W base v ls) : Parts W v ls := by
  obtain ⟨ps, h1, h2, h3⟩ := h
  refine ⟨ps, ?_, h1⟩
  rcases h2.2 with ⟨rfl, h0⟩ | ⟨g, cap, cur, rfl, _, _, hnc, hcm, _, _⟩
  · have : ps = [] := List.eq_nil_of_length_eq_zero h0
    subst this
    exact ⟨none, 0, rfl, Nat.le_refl _, by unfold maxLen; omega, fun h => absurd h (by simp), fun x hx => by simp at hx⟩
  · refine ⟨some ⟨g, 0, none⟩, cap, rfl, hnc, hcm, fun _ => ⟨g, 0, rfl, by simp, fun i x hx => ?_⟩, fun x hx => (h3 x hx).less (by simp)⟩
    have hc := h2.cells (g := g) rfl i x.1 (by rw [List.getElem?_map, hx]; rfl)
    rwa [Addr.add_mid] at hc
theorem info24 : (Tryd.prog.info? 49).map (fun i => (i.zero, i.size, i.bytes)) = some (some (.slice none 0 0), 1, 24) := by kernel_rfl
/-- New pieces are put behind. -/
theorem run_append_pcs {W : World} {base : Nat} {v : Value} {ls : List (List UInt8)} (hp : Pcs W base v ls) (hbase : base ≤ W.heap.size) (us : List (Value × List UInt8)) (hu : ∀ x ∈ us, RdV W v.ownBlock.toList x.1 x.2)
    (s c : Nat) (hs : ∀ j x, us[j]? = some x → W.cell? ⟨s, j, none⟩ = some x.1) (hlen : ls.length + us.length ≤ 1000000) (ty : TypeId) :
    ∃ v' w', (Builtin.append_ #[99, 99] ty #[v, .slice (some ⟨s, 0, none⟩) us.length c]).run Tryd.prog W = .ok v' w' ∧ Pcs w' base v' (ls ++ us.map (·.2)) ∧ W.grownBy w' v.ownBlock := by
  obtain ⟨ps, h1, h2, h3⟩ := hp
  have hpl : ps.length = ls.length := by rw [← h1]; simp
  obtain ⟨i0, hi, hz0, hz1, hz2⟩ := info_parts info24
  obtain ⟨v', w', hrun, hown, hgr, _, hat⟩ := run_append_own_at (P := Tryd.prog) (w := W) base 99 ty 49 i0 _ 1 24 Tryd.underlying99 hi hz0 hz1 hz2 rfl (by omega) v ps.length (ps.map (·.1)) h2
    ⟨s, 0, none⟩ us.length c (us.map (·.1)) (by simp) (fun j u hj => by
      rw [Addr.add_mid, Nat.zero_add]
      rw [List.getElem?_map] at hj
      cases hx : us[j]? with
      | none => rw [hx] at hj; simp at hj
      | some x => rw [hx] at hj; simp at hj; subst hj; exact hs j x hx)
    (fun u hm => by
      obtain ⟨x, hx, rfl⟩ := List.mem_map.1 hm
      obtain ⟨A, cap, hv, _⟩ := hu x hx
      rw [hv]; rfl) (by unfold maxLen; omega) (by omega) hbase
  refine ⟨v', w', hrun, ⟨ps ++ us, by rw [List.map_append, h1], by rw [List.length_append, List.map_append]; exact hown, fun x hx => ?_⟩, hgr⟩
  have hx0 : RdV W v.ownBlock.toList x.1 x.2 := by
    rcases List.mem_append.1 hx with h | h
    · exact h3 x h
    · exact hu x h
  rcases hat with e | e
  · rw [e]; exact hx0.keep (keepBut_grown hgr fun k hk => by simp [hk])
  · rw [e]
    have hx1 : RdV W (W.heap.size :: v.ownBlock.toList) x.1 x.2 := hx0.more fun k hk hn hm => by
      rcases List.mem_cons.1 hm with rfl | h
      · omega
      · exact hn h
    exact (hx1.keep (keepBut_grown hgr fun k hk => by simp [hk])).less (by simp)
theorem Pcs.below {W w' : World} {base : Nat} {v : Value} {ls : List (List UInt8)} (h : Pcs W base v ls) (hg : W.grownBy w' v.ownBlock) (hb : base ≤ W.heap.size) : Below base W w' :=
  (Below.refl base W).grown hg hb (fun k hk => (h.own_lt k hk).2)
end Go.Proofs.YtchpmdcacpjojaaDoor
/- Package mac: parts behind their lengths, words as bytes, and the texts that are put together of them. -/
namespace Go.Proofs.YtchpmdcacpjojaaDoor
open Go Go.RowKit
set_option maxRecDepth 8000
set_option linter.all false

/-- A number of 64 bits, as it lies in memory (two's complement). -/
def wN (n : Int) : Nat := (n % 18446744073709551616).toNat
theorem wN_eq (n : Int) : IntKind.u64.wrap n = (wN n : Int) := by rw [wrap_u64, wN]; omega
end Go.Proofs.YtchpmdcacpjojaaDoor
/- Package mac: texts put together of counted pieces. -/
namespace Go.Proofs.YtchpmdcacpjojaaDoor
open Go Go.RowKit
set_option maxRecDepth 8000
set_option linter.all false
/-- A part behind its length. -/
def cntP (l : List UInt8) : List (List UInt8) := [hiL l.length 4, l]
theorem pcs_one {w : World} {A : Option Addr} {n c : Nat} {l : List UInt8} (h : RdV w [] (.slice A n c) l) : Pcs (w.alloc (.cells #[.slice A n c] 49)) w.heap.size (.slice (some ⟨w.heap.size, 0, none⟩) 1 1) [l] := by
  refine ⟨[(.slice A n c, l)], rfl, ⟨rfl, .inr ⟨w.heap.size, 1, #[.slice A n c], rfl, Nat.le_refl _, World.alloc_heap_new _ _, Nat.le_refl _, by unfold maxLen; omega, rfl, rfl⟩⟩, fun x hx => ?_⟩
  simp at hx
  subst hx
  refine (NewT.alloc w _).rd (h.more fun k hk _ hm => ?_)
  simp [Value.ownBlock] at hm
  omega
/-- What lay there reads on beside the call's own row. -/
theorem rd_beside {w wr : World} {v u : Value} {ls : List (List UInt8)} {l : List UInt8} (h : RdV w [] u l) (hp : Pcs wr w.heap.size v ls) (hB : Below w.heap.size w wr) : RdV wr v.ownBlock.toList u l :=
  (h.more fun k hk _ hm => by have := (hp.own_lt k (by simpa using hm)).2; omega).keep (KeepBut.below hB)
end Go.Proofs.YtchpmdcacpjojaaDoor
/- Package mac: a part as it is. -/
namespace Go.Proofs.YtchpmdcacpjojaaDoor
open Go Go.RowKit
set_option maxRecDepth 8000
set_option linter.all false
set_option maxHeartbeats 1000000 in
theorem plainPart_any (v u : Value) (base : Nat) (ls : List (List UInt8)) (l : List UInt8) (w : World) (hp : Pcs w base v ls) (hb : base ≤ w.heap.size) (hu : RdV w v.ownBlock.toList u l) (hlen : ls.length ≤ 900000) :
    Calls Tryd.prog 75 #[v, u] w fun e w' => ∃ v', e = .returned v' ∧ Pcs w' base v' (ls ++ [l]) ∧ Below base w w' := by
  obtain ⟨A, c, rfl, h0⟩ := hu
  have hu : RdV w v.ownBlock.toList (.slice A l.length c) l := ⟨A, c, rfl, h0⟩
  clear h0
  have hN := NewT.alloc w (.cells #[.slice A l.length c] 49)
  have hrun := run_append_pcs (hp.new hN) (Nat.le_trans hb hN.out.size) [(.slice A l.length c, l)] (by simpa using hN.rd hu) w.heap.size 1 (fun j x hx => by
    match j, hx with
    | 0, hx => simp at hx; subst hx; rw [cell_new_fr _ _ _ _ _ _ rfl]; rfl) (by simp; omega) 99
  obtain ⟨v', w', hr, hp', hgr⟩ := hrun
  have hB : Below base w w' := ((Below.refl base w).alloc hb _).trans ((hp.new hN).below hgr (Nat.le_trans hb hN.out.size))
  have Hp := Lib.hid hp'
  have HB := Lib.hid hB
  clear hp' hB hgr hN hp hu
  simp only [List.length_cons, List.length_nil, Nat.zero_add] at hr
  go_enter Tryd.func75, Tryd.ntmps75
  go_upto_region 1 with fail
  refine wp_region_lit ?_
  iterate 3 (refine wpList_plain rfl (fun K hK => ?_); go_simp; refine hK _ _ ?_; clear hK K)
  refine wpList_plain rfl (fun K hK => ?_)
  refine opr_append rfl rfl rfl hr (hK _ _ ?_)
  clear hr hK K
  refine wpList_plain rfl (fun K hK => ?_)
  refine opr_move (.inr rfl) (hK _ _ ?_)
  clear hK K
  refine wpList_nil ?_
  go_simp
  go_wp2
  go_ret
  exact ⟨v', rfl, Hp.out, HB.out⟩
end Go.Proofs.YtchpmdcacpjojaaDoor
/- Package mac: words as bytes. -/
namespace Go.Proofs.YtchpmdcacpjojaaDoor
open Go Go.RowKit
set_option maxRecDepth 8000
set_option linter.all false
set_option maxHeartbeats 1000000 in
theorem wordPart_any (v : Value) (n : Int) (base : Nat) (ls : List (List UInt8)) (w : World) (hp : Pcs w base v ls) (hb : base ≤ w.heap.size) (hlen : ls.length ≤ 900000) :
    Calls Tryd.prog 65 #[v, .int .i64 n] w fun e w' => ∃ v', e = .returned v' ∧ Pcs w' base v' (ls ++ [hiL (wN n) 8]) ∧ Below base w w' := by
  have hw : IntKind.u64.wrap n = (wN n : Int) := wN_eq n
  have Hp := Lib.hid hp
  clear hp
  go_enter Tryd.func65, Tryd.ntmps65
  go_upto_region 1 with fail
  refine wp_region_lit ?_
  iterate 3 (refine wpList_plain rfl (fun K hK => ?_); go_simp; refine hK _ _ ?_; clear hK K)
  refine wpList_plain rfl (fun K hK => ?_)
  refine opr_cv (hiF_8 (wN n) w) rfl Tryd.func76 (by kernel_rfl) (by kernel_rfl) (by simp only [List.map_toArray, List.map_cons, List.map_nil]; rfl) ?_
  intro hv w1 hN1 hnew
  refine hK _ _ ?_
  clear hK K hw
  have hr9 := hnew v.ownBlock.toList (fun k hk => (Hp.out.own_lt k (by simpa using hk)).1)
  replace Hp := Lib.hid (Hp.out.new hN1)
  obtain ⟨A9, c9, rfl, h9⟩ := hr9
  have hr9 : RdV w1 v.ownBlock.toList (.slice A9 (hiL (wN n) 8).length c9) (hiL (wN n) 8) := ⟨A9, c9, rfl, h9⟩
  have Hr9 := Lib.hid hr9
  clear hr9 h9 hnew
  have hb1 : base ≤ w1.heap.size := Nat.le_trans hb hN1.out.size
  have hN := NewT.alloc w1 (.cells #[.slice A9 (hiL (wN n) 8).length c9] 49)
  have hrun := run_append_pcs (Hp.out.new hN) (Nat.le_trans hb1 hN.out.size) [(.slice A9 (hiL (wN n) 8).length c9, hiL (wN n) 8)] (by simpa using hN.rd Hr9.out) w1.heap.size 1 (fun j x hx => by
    match j, hx with
    | 0, hx => simp at hx; subst hx; rw [cell_new_fr _ _ _ _ _ _ rfl]; rfl) (by simp; omega) 99
  obtain ⟨v', w', hr, hp', hgr⟩ := hrun
  have hB : Below base w w' := (hN1.out.mono hb).trans (((Below.refl base w1).alloc hb1 _).trans ((Hp.out.new hN).below hgr (Nat.le_trans hb1 hN.out.size)))
  have Hp' := Lib.hid hp'
  have HB := Lib.hid hB
  clear hp' hB hgr hN Hp Hr9
  simp only [List.length_cons, List.length_nil, Nat.zero_add] at hr
  iterate 1 (refine wpList_plain rfl (fun K hK => ?_); go_simp; refine hK _ _ ?_; clear hK K)
  refine wpList_plain rfl (fun K hK => ?_)
  refine opr_append rfl rfl rfl hr (hK _ _ ?_)
  clear hr hK K
  refine wpList_plain rfl (fun K hK => ?_)
  refine opr_move (.inr rfl) (hK _ _ ?_)
  clear hK K
  refine wpList_nil ?_
  go_simp
  go_wp2
  go_ret
  exact ⟨v', rfl, Hp'.out, HB.out⟩
end Go.Proofs.YtchpmdcacpjojaaDoor
/- Slices of numbers that read as lists. -/
namespace Go.Proofs.YtchpmdcacpjojaaDoor
open Go Go.RowKit
set_option maxRecDepth 8000
set_option linter.all false
/-- A slice of numbers reads as is. -/
def RdI (W : World) (v : Value) (is : List Int) : Prop :=
  ∃ A cap, v = .slice A is.length cap ∧ is.length ≤ cap ∧ cap ≤ maxLen ∧ (0 < is.length → ∃ b o, A = some ⟨b, o, none⟩ ∧ ∀ i, i < is.length → W.cell? ⟨b, o + i, none⟩ = some (.int .i64 (is.getD i 0)))
theorem NewT.ints {w w' : World} (h : NewT w w') {v : Value} {is : List Int} (hr : RdI w v is) : RdI w' v is := by
  obtain ⟨A, cap, hv, h1, h2, h3⟩ := hr
  refine ⟨A, cap, hv, h1, h2, fun h0 => ?_⟩
  obtain ⟨b, o, hA, hc⟩ := h3 h0
  refine ⟨b, o, hA, fun i hi => (h.out.cell (p := ⟨b, o + i, none⟩) (World.block_lt_of_cell? _ _ (hc i hi))).trans (hc i hi)⟩
def svInts (is : List Int) : SV NewT := ⟨fun v w => RdI w v is, fun _ _ _ h hT => hT.ints h⟩
end Go.Proofs.YtchpmdcacpjojaaDoor
/- Package mac: texts put together of pieces, one behind the other: what each call returns reads as those pieces. -/
namespace Go.Proofs.YtchpmdcacpjojaaDoor
open Go Go.RowKit
set_option maxRecDepth 8000
set_option linter.all false

set_option maxHeartbeats 1000000 in
theorem text_plain (v0 pv : Value) (l0 : List UInt8) (ls : List (List UInt8)) (w : World) (h0 : RdV w [] v0 l0) (hp : Parts w pv ls) (hlen : ls.length ≤ 100000) :
    Cv 73 #[v0, .func (.func 75) #[] #[], pv] w (svParts (l0 :: ls)) := by
  unfold Cv
  obtain ⟨A0, c0, rfl, h00⟩ := h0
  have H0 : Hid (RdV w [] (.slice A0 l0.length c0) l0) := Lib.hid ⟨A0, c0, rfl, h00⟩
  clear h00
  obtain ⟨ps, hps, rfl⟩ := hp
  obtain ⟨A, cap, rfl, hpc, hpm, hA, hR⟩ := hps
  unfold maxLen at hpm
  obtain ⟨n, hn⟩ : ∃ n, n = ps.length := ⟨_, rfl⟩
  rw [← hn] at hpc
  have Hn : Hid (n = (ps.map (·.2)).length) := Lib.hid (by simpa using hn)
  have hlen' : n ≤ 100000 := by rw [Hn.out]; exact hlen
  have HA := Lib.hid (show 0 < n → ∃ b o, A = some ⟨b, o, none⟩ ∧ ∀ i x, ps[i]? = some x → w.cell? ⟨b, o + i, none⟩ = some x.1 from fun h => by
    obtain ⟨b, o, h1, _, h2⟩ := hA (by omega)
    exact ⟨b, o, h1, h2⟩)
  have HR := Lib.hid hR
  rw [← hn]
  have Hps := Lib.hid hn
  clear hA hR hn hlen
  go_enter Tryd.func73, Tryd.ntmps73
  go_wp2
  have p0 := pcs_one H0.out
  have hB : Below w.heap.size w (w.alloc (.cells #[.slice A0 l0.length c0] 49)) := (Below.refl _ w).alloc (Nat.le_refl _) _
  generalize w.alloc (.cells #[.slice A0 l0.length c0] 49) = W0 at p0 hB ⊢
  go_loopw [7, 14] (fun v i wr => ∃ k : Nat, k ≤ n ∧ i = .int .i64 k ∧ Pcs wr w.heap.size v (l0 :: (ps.map (·.2)).take k) ∧ Below w.heap.size w wr) (fun _ i _ => n - (intOf i).toNat)
  case atStart => exact ⟨0, by omega, rfl, by simpa using p0, hB⟩
  case round =>
    obtain ⟨k, hk, rfl, hp, qB⟩ := hrel
    clear p0 hB
    by_cases hlt : k < n
    · obtain ⟨b, o, rfl, hcells⟩ := HA.out (by omega)
      have hx : ps[k]? = some ps[k] := List.getElem?_eq_getElem (by rw [← Hps.out]; exact hlt)
      generalize hxx : ps[k] = x at hx
      have hcell := (qB.cell (p := ⟨b, o + k, none⟩) (World.block_lt_of_cell? _ _ (hcells k x hx))).trans (hcells k x hx)
      have hrd := rd_beside (HR.out x (List.mem_of_getElem? hx)) hp qB
      have hll : (l0 :: (ps.map (·.2)).take k).length ≤ 900000 := by
        simp; omega
      have Hext : Hid ((ps.map (·.2)).take (k + 1) = (ps.map (·.2)).take k ++ [x.2]) := Lib.hid (by
        rw [List.take_add_one, List.getElem?_map, hx]; simp)
      obtain ⟨A', c', hv', hr0⟩ := hrd
      have Hrd : Hid (RdV wr (Value.ownBlock u7).toList (.slice A' x.2.length c') x.2) := Lib.hid ⟨A', c', rfl, hr0⟩
      rw [hv'] at hcell
      have Hp := Lib.hid hp
      clear hr0 hv' hx hxx hcells hp
      go_wp2_with (go_at_call 75; refine (plainPart_any _ _ _ _ x.2 _ Hp.out qB.size Hrd.out hll).mono ?_; rintro e w2 ⟨v', rfl, hp2, hB2⟩)
      go_roundw
      case rel =>
        refine ⟨k + 1, by omega, by go_num, ?_, qB.trans hB2⟩
        have e := Hext.out
        rw [e]
        simpa using hp2
      case measure => simp [intOf]; omega
    · obtain rfl : k = n := by omega
      go_wp2
      go_ret
      refine ⟨_, rfl, qB, ?_⟩
      have := hp.parts
      rw [Hn.out, List.take_length] at this
      exact this
set_option maxHeartbeats 1000000 in
theorem text_words (v0 pv : Value) (l0 : List UInt8) (is : List Int) (w : World) (h0 : RdV w [] v0 l0) (hp : RdI w pv is) (hlen : is.length ≤ 100000) :
    Cv 64 #[v0, .func (.func 65) #[] #[], pv] w (svParts (l0 :: (is).map fun n => hiL (wN n) 8)) := by
  unfold Cv
  obtain ⟨A0, c0, rfl, h00⟩ := h0
  have H0 : Hid (RdV w [] (.slice A0 l0.length c0) l0) := Lib.hid ⟨A0, c0, rfl, h00⟩
  clear h00
  obtain ⟨A, cap, rfl, hpc, hpm, hA⟩ := hp
  unfold maxLen at hpm
  obtain ⟨n, hn⟩ : ∃ n, n = is.length := ⟨_, rfl⟩
  rw [← hn] at hpc
  have Hn : Hid (n = is.length) := Lib.hid hn
  have hlen' : n ≤ 100000 := by rw [Hn.out]; exact hlen
  have HA := Lib.hid (show 0 < n → ∃ b o, A = some ⟨b, o, none⟩ ∧ ∀ i, i < n → w.cell? ⟨b, o + i, none⟩ = some (.int .i64 (is.getD i 0)) from fun h => by
    obtain ⟨b, o, h1, h2⟩ := hA (by omega)
    exact ⟨b, o, h1, fun i hi => h2 i (by omega)⟩)
  rw [← hn]
  clear hA hn hlen
  go_enter Tryd.func64, Tryd.ntmps64
  go_wp2
  have p0 := pcs_one H0.out
  have hB : Below w.heap.size w (w.alloc (.cells #[.slice A0 l0.length c0] 49)) := (Below.refl _ w).alloc (Nat.le_refl _) _
  generalize w.alloc (.cells #[.slice A0 l0.length c0] 49) = W0 at p0 hB ⊢
  go_loopw [7, 14] (fun v i wr => ∃ k : Nat, k ≤ n ∧ i = .int .i64 k ∧ Pcs wr w.heap.size v (l0 :: (is.take k).map fun n => hiL (wN n) 8) ∧ Below w.heap.size w wr) (fun _ i _ => n - (intOf i).toNat)
  case atStart => exact ⟨0, by omega, rfl, by simpa using p0, hB⟩
  case round =>
    obtain ⟨k, hk, rfl, hp, qB⟩ := hrel
    clear p0 hB
    by_cases hlt : k < n
    · obtain ⟨b, o, rfl, hcells⟩ := HA.out (by omega)
      have hcell := (qB.cell (p := ⟨b, o + k, none⟩) (World.block_lt_of_cell? _ _ (hcells k hlt))).trans (hcells k hlt)
      generalize hxx : is.getD k 0 = x at hcell
      have hll : (l0 :: (is.take k).map fun n => hiL (wN n) 8).length ≤ 900000 := by
        simp; omega
      have Hext : Hid ((is.take (k + 1)).map (fun n => hiL (wN n) 8) = (is.take k).map (fun n => hiL (wN n) 8) ++ [hiL (wN x) 8]) := Lib.hid (by
        rw [List.take_add_one, List.getElem?_eq_getElem (by rw [← Hn.out]; exact hlt)]
        have : is[k]'(by rw [← Hn.out]; exact hlt) = x := by rw [← hxx]; simp [List.getD, show k < is.length by rw [← Hn.out]; exact hlt]
        simp [this])
      have Hp := Lib.hid hp
      clear hxx hcells hp
      go_wp2_with (go_at_call 65; refine (wordPart_any _ x _ _ _ Hp.out qB.size hll).mono ?_; rintro e w2 ⟨v', rfl, hp2, hB2⟩)
      go_roundw
      case rel =>
        refine ⟨k + 1, by omega, by go_num, ?_, qB.trans hB2⟩
        have e := Hext.out
        rw [e]
        simpa using hp2
      case measure => simp [intOf]; omega
    · obtain rfl : k = n := by omega
      go_wp2
      go_ret
      refine ⟨_, rfl, qB, ?_⟩
      have := hp.parts
      rw [Hn.out, List.take_length] at this
      exact this
end Go.Proofs.YtchpmdcacpjojaaDoor
/- Package mac: the tag of parts, by definition: what Tag returns. -/
namespace Go.Proofs.YtchpmdcacpjojaaDoor
open Go Go.RowKit
set_option maxRecDepth 8000
set_option linter.all false
theorem masked_54 (b : Nat → UInt8) (w : World) : Cv 74 #[.agg (rowA 64 (bF b)), .int .u8 54] w (svRd (maskL b 54)) := masked_any b 54 w
theorem masked_92 (b : Nat → UInt8) (w : World) : Cv 74 #[.agg (rowA 64 (bF b)), .int .u8 92] w (svRd (maskL b 92)) := masked_any b 92 w
/-- The digest that is inside a tag. -/
def inL (key text : List UInt8) : Nat → UInt8 := shaL Kc Fc (maskL (keyB key) 54 ++ text)
/-- HMAC-SHA-256. -/
def tagL (key text : List UInt8) : Nat → UInt8 := shaL Kc Fc (maskL (keyB key) 92 ++ digL (inL key text))
set_option maxHeartbeats 2000000 in
theorem Tag_cv (kv pv : Value) (kl : List UInt8) (ls : List (List UInt8)) (D : Nat → UInt8) (w : World) (hT : Tables w) (hk : RdV w [] kv kl) (hkl : kl.length ≤ 1000000) (hp : Parts w pv ls) (hlen : ls.length ≤ 100000) (htot : ls.flatten.length ≤ 1000000) (hD : tagL kl ls.flatten = D) :
    Cv 63 #[kv, pv] w (.eq (.agg (rowA 32 (bF D)))) := by
  unfold Cv
  obtain ⟨E, HE⟩ := hid_ex (inL kl ls.flatten)
  obtain ⟨B, HB⟩ := hid_ex (keyB kl)
  have HD : Hid (shaL Kc Fc (maskL B 92 ++ digL E) = D) := Lib.hid (by rw [← hD, tagL, HB.out, HE.out])
  have HE2 : Hid (shaL Kc Fc (maskL B 54 ++ ls.flatten) = E) := Lib.hid (by rw [← HE.out, inL, HB.out])
  have HT := Lib.hid hT
  have Hk := Lib.hid hk
  have Hp := Lib.hid hp
  clear hT hk hp hD HE
  go_enter Tryd.func63, Tryd.ntmps63
  go_upto_region 1 with fail
  have r0 := rowIs_box w 32 32 (bF fun _ => 0)
  have hB0 := NewT.alloc w (.cells (rowA 32 (bF fun _ => 0)) 32)
  change Code.wp _ _ _ _ (w.alloc (.cells (rowA 32 (bF fun _ => 0)) 32))
  generalize w.alloc (.cells (rowA 32 (bF fun _ => 0)) 32) = W0 at r0 hB0 ⊢
  replace HT := Lib.hid (hB0.tables HT.out)
  replace Hk := Lib.hid (hB0.rd Hk.out)
  replace Hp := Lib.hid (hB0.partsL Hp.out)
  refine wp_region_seq NewT [svRd kl, SV.eq (.agg (rowA 64 (bF B))), svNew W0 108 64] [([(0, none)], none), ([(7, some 0)], none), ([], none)] 19 rfl rfl (by kernel_rfl) rfl NewT.trans (NewT.refl _) (Nat.le_of_ble_eq_true rfl) ⟨?_, ?_, ?_, trivial⟩ ?_
  · -- 0: Op.move t0
    intro a wx hT hF K hK
    obtain ⟨f0, _⟩ := hF
    have f0 : a.tmps.getD 0 undef = kv := f0
    refine rely_wp rfl ?_
    exact opr_move (.inl rfl) (hK _ _ (NewT.refl _) (by rw [eval_tmp, f0]; exact hT.rd Hk.out))
  · -- 1: Op.call ( value (Operand.func 71), args := #[t7], argTypes :
    intro a wx hT hF K hK
    obtain ⟨f7, _⟩ := hF
    replace f7 := show (svRd kl).pred (a.tmps.getD 7 undef) wx from f7
    refine rely_wp rfl ?_
    exact opr_cv (HB.out ▸ keyBlock_cv _ kl wx (hT.tables HT.out) f7 (by omega)) rfl Tryd.func71 (by kernel_rfl) (by kernel_rfl) (by simp only [List.map_toArray, List.map_cons, List.map_nil, eval_tmp]) hK
  · -- 2: Op.alloc 108
    intro a wx hT hF K hK
    refine rely_wp rfl ?_
    exact opr_alloc_64 rfl hT hK
  · intro wx hT
    intro u7 h; have g7 := h (by simp); clear h; replace g7 := show (svRd kl).pred u7 wx from g7
    intro u h; obtain rfl := h (by simp); clear h
    intro u5 h; obtain ⟨p5, hv, hp5, rr5⟩ := svNew_out (h (by simp)); clear h; subst hv
    refine relyEnd_nil rfl ?_
    simp only [Act.put, List.setIfInBounds_toArray, List.set_cons_zero, List.set_cons_succ]
    refine opr_store_new info64 rfl rfl rfl rr5 hT.out hp5 ?_
    clear hT rr5
    intro wy hT rr5
    replace hT := NewT.of hT
    go_simp
    replace HT := Lib.hid (hT.tables HT.out)
    replace Hp := Lib.hid (hT.partsL Hp.out)
    replace r0 := hT.row r0
    have hB1 := NewT.trans _ _ _ hB0 hT
    clear hT Hk g7 hp5 hB0
    go_upto_region 2 with fail
    refine wp_region_seq NewT [SV.eq (.agg (rowA 64 (bF B))), svRd (maskL B 54), svParts ls, svParts (maskL B 54 :: ls), SV.eq (.agg (rowA 32 (bF E))), svNew wy 32 32] [([(5, none)], none), ([(9, some 0)], none), ([(1, none)], none), ([(10, some 1), (11, some 2)], none), ([(12, some 3)], none), ([], none)] 19 rfl rfl (by kernel_rfl) rfl NewT.trans (NewT.refl _) (Nat.le_of_ble_eq_true rfl) ⟨?_, ?_, ?_, ?_, ?_, ?_, trivial⟩ ?_
    · -- 0: Op.load 108 t5
      intro a wx hT hF K hK
      obtain ⟨f5, _⟩ := hF
      have f5 : a.tmps.getD 5 undef = .pointer (some ⟨p5, 0, none⟩) := f5
      refine rely_wp rfl ?_
      exact opr_load_64 rfl f5 (hT.row rr5) (hK _ _ (NewT.refl _) rfl)
    · -- 1: Op.call ( value (Operand.func 74), args := #[t9, const (54:u
      intro a wx hT hF K hK
      obtain ⟨f9, _⟩ := hF
      have f9 : a.tmps.getD 9 undef = .agg (rowA 64 (bF B)) := f9
      refine rely_wp rfl ?_
      exact opr_cv (masked_54 B wx) rfl Tryd.func74 (by kernel_rfl) (by kernel_rfl) (by simp only [List.map_toArray, List.map_cons, List.map_nil, eval_tmp, eval_const, f9]) hK
    · -- 2: Op.move t1
      intro a wx hT hF K hK
      obtain ⟨f1, _⟩ := hF
      have f1 : a.tmps.getD 1 undef = pv := f1
      refine rely_wp rfl ?_
      exact opr_move (.inl rfl) (hK _ _ (NewT.refl _) (by rw [eval_tmp, f1]; exact hT.partsL Hp.out))
    · -- 3: Op.call ( value (Operand.func 73), args := #[t10, Operand.fu
      intro a wx hT hF K hK
      obtain ⟨f10, f11, _⟩ := hF
      replace f10 := show (svRd (maskL B 54)).pred (a.tmps.getD 10 undef) wx from f10
      replace f11 := show (svParts ls).pred (a.tmps.getD 11 undef) wx from f11
      refine rely_wp rfl ?_
      exact opr_cv (text_plain _ _ _ ls wx f10 f11 hlen) rfl Tryd.func73 (by kernel_rfl) (by kernel_rfl) (by simp only [List.map_toArray, List.map_cons, List.map_nil, eval_tmp, eval_func]) hK
    · -- 4: Op.call ( value (Operand.func 72), args := #[t12], argTypes 
      intro a wx hT hF K hK
      obtain ⟨f12, _⟩ := hF
      replace f12 := show (svParts (maskL B 54 :: ls)).pred (a.tmps.getD 12 undef) wx from f12
      refine rely_wp rfl ?_
      exact opr_cv (Sum_cv _ (maskL B 54 :: ls) E wx (hT.tables HT.out) f12 (by simp only [List.flatten_cons, List.length_append, maskL_length]; omega) (by simpa using HE2.out)) rfl Tryd.func72 (by kernel_rfl) (by kernel_rfl) (by simp only [List.map_toArray, List.map_cons, List.map_nil, eval_tmp]) hK
    · -- 5: Op.alloc 32
      intro a wx hT hF K hK
      refine rely_wp rfl ?_
      exact opr_alloc_hash rfl hT hK
    · intro wx hT
      intro u h; obtain rfl := h (by simp); clear h
      intro u10 h; have g10 := h (by simp); clear h; replace g10 := show (svRd (maskL B 54)).pred u10 wx from g10
      intro u11 h; have g11 := h (by simp); clear h; replace g11 := show (svParts ls).pred u11 wx from g11
      intro u12 h; have g12 := h (by simp); clear h; replace g12 := show (svParts (maskL B 54 :: ls)).pred u12 wx from g12
      intro u h; obtain rfl := h (by simp); clear h
      intro u6 h; obtain ⟨p6, hv, hp6, rr6⟩ := svNew_out (h (by simp)); clear h; subst hv
      refine relyEnd_nil rfl ?_
      simp only [Act.put, List.setIfInBounds_toArray, List.set_cons_zero, List.set_cons_succ]
      refine opr_store_new info31 rfl rfl rfl rr6 hT.out hp6 ?_
      clear hT rr6
      intro wz hT rr6
      replace hT := NewT.of hT
      go_simp
      replace HT := Lib.hid (hT.tables HT.out)
      replace r0 := hT.row r0
      replace rr5 := hT.row rr5
      have hB2 := NewT.trans _ _ _ hB1 hT
      clear hT g10 g11 g12 hp6 hB1 Hp HE2
      go_upto_region 3 with fail
      refine wp_region_rely NewT [SV.eq (.agg (rowA 64 (bF B))), svRd (maskL B 92), svRd (digL E), svParts [(maskL B 92), (digL E)], SV.eq (.agg (rowA 32 (bF D)))] [([(5, none)], none), ([(14, some 0)], none), ([(6, none)], none), ([(15, some 1), (16, some 2)], none), ([(17, some 3)], none)] 19 rfl (by kernel_rfl) rfl (by kernel_rfl) (by kernel_rfl) rfl NewT.trans (NewT.drew _) (Nat.le_of_ble_eq_true rfl) ⟨?_, ?_, ?_, ?_, ?_, trivial⟩ ?_
      · -- 0: Op.load 108 t5
        intro a wx hT hF K hK
        obtain ⟨f5, _⟩ := hF
        have f5 : a.tmps.getD 5 undef = .pointer (some ⟨p5, 0, none⟩) := f5
        refine rely_wp rfl ?_
        exact opr_load_64 rfl f5 (hT.row rr5) (hK _ _ (NewT.refl _) rfl)
      · -- 1: Op.call ( value (Operand.func 74), args := #[t14, const (92:
        intro a wx hT hF K hK
        obtain ⟨f14, _⟩ := hF
        have f14 : a.tmps.getD 14 undef = .agg (rowA 64 (bF B)) := f14
        refine rely_wp rfl ?_
        exact opr_cv (masked_92 B wx) rfl Tryd.func74 (by kernel_rfl) (by kernel_rfl) (by simp only [List.map_toArray, List.map_cons, List.map_nil, eval_tmp, eval_const, f14]) hK
      · -- 2: Op.slice 32 t6 none none none
        intro a wx hT hF K hK
        obtain ⟨f6, _⟩ := hF
        have f6 : a.tmps.getD 6 undef = .pointer (some ⟨p6, 0, none⟩) := f6
        refine rely_wp rfl ?_
        exact opr_slice_hash rfl f6 (hK _ _ (NewT.refl _) (rd_row (hT.row rr6) (by simp) (by omega)))
      · -- 3: Op.buildSlice 99 2 #[(0, t15), (1, t16)]
        intro a wx hT hF K hK
        obtain ⟨f15, f16, _⟩ := hF
        replace f15 := show (svRd (maskL B 92)).pred (a.tmps.getD 15 undef) wx from f15
        replace f16 := show (svRd (digL E)).pred (a.tmps.getD 16 undef) wx from f16
        refine rely_wp rfl ?_
        exact opr_bs2 rfl f15 f16 hK
      · -- 4: Op.call ( value (Operand.func 72), args := #[t17], argTypes 
        intro a wx hT hF K hK
        obtain ⟨f17, _⟩ := hF
        replace f17 := show (svParts [(maskL B 92), (digL E)]).pred (a.tmps.getD 17 undef) wx from f17
        refine rely_wp rfl ?_
        exact opr_cv (Sum_cv _ [maskL B 92, digL E] D wx (hT.tables HT.out) f17 (by simp [maskL_length, digL_length]) (by simpa using HD.out)) rfl Tryd.func72 (by kernel_rfl) (by kernel_rfl) (by simp only [List.map_toArray, List.map_cons, List.map_nil, eval_tmp]) hK
      · intro wx hT
        intro u h; obtain rfl := h (by simp); clear h
        intro u15 h; have g15 := h (by simp); clear h; replace g15 := show (svRd (maskL B 92)).pred u15 wx from g15
        intro u16 h; have g16 := h (by simp); clear h; replace g16 := show (svRd (digL E)).pred u16 wx from g16
        intro u17 h; have g17 := h (by simp); clear h; replace g17 := show (svParts [(maskL B 92), (digL E)]).pred u17 wx from g17
        intro u h; obtain rfl := h (by simp); clear h
        refine relyEnd_nil rfl ?_
        simp only [Act.put, List.setIfInBounds_toArray, List.set_cons_zero, List.set_cons_succ]
        refine opr_store_new (B := w.heap.size) (W := w) info31 rfl rfl rfl (hT.row r0) (NewT.trans _ _ _ hB2 hT) (Nat.le_refl _) ?_
        intro w9 hB9 r9
        go_simp
        go_wp2
        exact bodyPost_ret (results_row rfl _ rfl r9 Tryd.underlying32 info31) rfl ⟨_, rfl, hB9, rfl⟩
end Go.Proofs.YtchpmdcacpjojaaDoor
/- Package mac: the digest of a domain: what Of returns. -/
namespace Go.Proofs.YtchpmdcacpjojaaDoor
open Go Go.RowKit
set_option maxRecDepth 8000
set_option linter.all false
/-- The low byte of a number. -/
def dB (n : Int) : UInt8 := UInt8.ofNat (n % 256).toNat
/-- The text of a domain and parts. -/
def ofL (n : Int) (ls : List (List UInt8)) : List UInt8 := dB n :: (ls.flatMap cntP).flatten
end Go.Proofs.YtchpmdcacpjojaaDoor
