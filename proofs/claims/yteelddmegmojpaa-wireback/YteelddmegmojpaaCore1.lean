/- Own words that all layers share: bytes as values, slices that read as lists, rows of a call's own, appends, conversions. -/
import Derived.Test.YteelddmegmojpaaProg
import Derived.Test.YteelddmegmojpaaRng
import Derived.Maps.AppendAt
import Derived.Laws.StructEq
import Derived.Deep.AppendLies
namespace Go.Proofs.Yteelddmegmojpaa
open Go.RowKit
/-- A list's byte at a place. -/
def bAt (l : List UInt8) (i : Nat) : UInt8 := l.getD i 0
/-- Bytes as the model has them. -/
def bF (f : Nat → UInt8) : Nat → Value := fun i => .int .u8 (bN (f i))
theorem bF_at (s : Nat → UInt8) (i : Nat) : bF s i = .int .u8 (bN (s i)) := rfl
theorem info31 : (Try.prog.info? 24).map (·.size) = some 32 := by kernel_rfl
theorem made_row (n : Nat) (z : Value) : madeCells #[z] n = rowA n (fun _ => z) := by
  apply Array.ext_getElem?
  intro i
  by_cases h : i < n
  · rw [rowA_at _ _ _ h]; simp [madeCells, h, Nat.mod_one]
  · have h1 : (rowA n fun _ => z).size ≤ i := by rw [rowA_size]; omega
    rw [Array.getElem?_eq_none h1]; simp [madeCells]; omega
theorem ownsRow_row {w : World} {g : Nat} {t : TypeId} {c : Nat} {f : Nat → Value} (h : w.rowIs g t c f) (base k : Nat) (hk : k ≤ c) (hc : c ≤ maxLen) (hb : base ≤ g) :
    w.ownsRow base t 1 (.slice (some ⟨g, 0, none⟩) k c) k ((List.range k).map f) := by
  obtain ⟨cur, h1, h2, h3⟩ := h
  refine ⟨by simp, .inr ⟨g, c, cur, rfl, hb, h1, hk, hc, by omega, ?_⟩⟩
  apply List.ext_getElem?
  intro i
  rw [List.getElem?_take]
  by_cases hi : i < k
  · rw [if_pos (by omega)]
    have := h3 i (by omega)
    simpa [hi] using this
  · rw [if_neg (by omega)]
    simp [hi]
theorem info5 : (Try.prog.info? 5).map (fun i => (i.zero, i.size, i.bytes)) = some (some (.int .u8 0), 1, 1) := by kernel_rfl
theorem one_cell (w : World) (v : Value) (t : TypeId) : ∀ (j : Nat) (u : Value), [v][j]? = some u → (w.alloc (.cells #[v] t)).cell? ((⟨w.heap.size, 0, none⟩ : Addr).add j) = some u := by
  intro j u h
  cases j with
  | zero => simp at h; subst h; rw [Addr.add_zero']; exact World.cell?_alloc_at _ _ _ _ rfl
  | succ j => simp at h
theorem make_none (i0 : TypeInfo) (hi : Try.prog.info? 5 = some i0) (hz0 : i0.zero = some (.int .u8 0)) (hz1 : i0.size = 1) (hz2 : i0.bytes = 1) (W : World) :
    (Instr.makeSlice 22 (.int .i64 0) (.int .i64 64)).run Try.prog W = .ok (.slice (some ⟨W.heap.size, 0, none⟩) 0 64) (W.alloc (.cells (rowA 64 (bF fun _ => 0)) 5)) := by
  have := run_make (P := Try.prog) W 22 5 i0 _ Try.underlying22 hi hz0 .i64 .i64 0 64 (by omega) (by omega) (by rw [hz2]; omega) (by omega)
  rw [this, hz1]
  have e : madeCells (Value.int .u8 0).cells 64 = rowA 64 (bF fun _ => 0) := made_row 64 (.int .u8 0)
  exact congrArg (fun z => Result.ok _ (W.alloc (.cells z 5))) e
theorem two_cell (w : World) (u v : Value) (t : TypeId) : ∀ (j : Nat) (x : Value), [u, v][j]? = some x → (w.alloc (.cells #[u, v] t)).cell? ((⟨w.heap.size, 0, none⟩ : Addr).add j) = some x := by
  intro j x h
  rw [Addr.add_lit, World.cell?_alloc_at _ _ _ _ rfl]
  simpa using h
/-- A row of bytes of the call's own, as a string. -/
theorem conv_own {w : World} {base g n cap : Nat} {l : List UInt8} (h : w.ownsRow base 5 1 (.slice (some ⟨g, 0, none⟩) n cap) n (l.map fun b => .int .u8 (bN b))) (hl : l.length = n) :
    (convert 22 9 (.slice (some ⟨g, 0, none⟩) n cap)).run Try.prog w = .ok (.string ⟨l.toArray⟩) w := by
  have hc := h.cells (g := g) rfl
  have := run_convert_bytes_arg (P := Try.prog) w 22 5 Try.underlying22 Try.underlying5 g 0 n cap (l.map bN) (by simpa using hl) (fun i hi => by
    have := hc i (.int .u8 (bN (bAt l i))) (by simp [bAt, show i < l.length by omega])
    rw [Addr.add_mid] at this
    rw [this]
    simp [bAt, show i < l.length by omega]) 9 Try.underlying9
  rw [this]
  have e : strOfNums (l.map bN) = ⟨l.toArray⟩ := by
    unfold strOfNums
    congr 2
    rw [List.map_map]
    conv => rhs; rw [← List.map_id l]
    exact List.map_congr_left fun b _ => by simp [bN]
  rw [e]
/-- A slice of bytes reads as l, outside the blocks of L. -/
def RdV (W : World) (L : List Nat) (v : Value) (l : List UInt8) : Prop :=
  ∃ A cap, v = .slice A l.length cap ∧ l.length ≤ cap ∧ cap ≤ maxLen ∧
    (0 < l.length → ∃ b o, A = some ⟨b, o, none⟩ ∧ b ∉ L ∧ ∀ i, i < l.length → W.cell? ⟨b, o + i, none⟩ = some (.int .u8 (bN (bAt l i))))
theorem RdV.keep {W W' : World} {L : List Nat} {v : Value} {l : List UInt8} (h : RdV W L v l) (hk : KeepBut L W W') : RdV W' L v l := by
  obtain ⟨A, cap, hv, h1, h2, h3⟩ := h
  refine ⟨A, cap, hv, h1, h2, fun h0 => ?_⟩
  obtain ⟨b, o, hA, hb, hc⟩ := h3 h0
  exact ⟨b, o, hA, hb, fun i hi => hk.cell hb (hc i hi)⟩
/-- A slice of slices of bytes. -/
def PartsAt (W : World) (L : List Nat) (v : Value) (ps : List (Value × List UInt8)) : Prop :=
  ∃ A cap, v = .slice A ps.length cap ∧ ps.length ≤ cap ∧ cap ≤ maxLen ∧
    (0 < ps.length → ∃ b o, A = some ⟨b, o, none⟩ ∧ b ∉ L ∧ ∀ i x, ps[i]? = some x → W.cell? ⟨b, o + i, none⟩ = some x.1) ∧ ∀ x ∈ ps, RdV W L x.1 x.2
theorem PartsAt.keep {W W' : World} {L : List Nat} {v : Value} {ps : List (Value × List UInt8)} (h : PartsAt W L v ps) (hk : KeepBut L W W') : PartsAt W' L v ps := by
  obtain ⟨A, cap, hv, h1, h2, h3, h4⟩ := h
  refine ⟨A, cap, hv, h1, h2, fun h0 => ?_, fun x hx => (h4 x hx).keep hk⟩
  obtain ⟨b, o, hA, hb, hc⟩ := h3 h0
  exact ⟨b, o, hA, hb, fun i x hx => hk.cell hb (hc i x hx)⟩
/-- How many bytes there are together. -/
def total (ps : List (Value × List UInt8)) : Nat := (ps.map fun x => x.2.length).sum
theorem total_snoc (ps : List (Value × List UInt8)) (x : Value × List UInt8) : total (ps ++ [x]) = total ps + x.2.length := by simp [total]
theorem total_take (ps : List (Value × List UInt8)) (k : Nat) : total (ps.take k) ≤ total ps := by
  have h := congrArg total (List.take_append_drop k ps)
  have e : total (ps.take k ++ ps.drop k) = total (ps.take k) + total (ps.drop k) := by
    unfold total; rw [List.map_append, List.sum_append]
  omega
def flat (ps : List (Value × List UInt8)) : List UInt8 := (ps.map (·.2)).flatten
theorem flat_snoc (ps : List (Value × List UInt8)) (x : Value × List UInt8) : flat (ps ++ [x]) = flat ps ++ x.2 := by simp [flat]
theorem RdV.more {W : World} {L L' : List Nat} {v : Value} {l : List UInt8} (h : RdV W L v l) (hL : ∀ k, k < W.heap.size → k ∉ L → k ∉ L') : RdV W L' v l := by
  obtain ⟨A, cap, hv, h1, h2, h3⟩ := h
  refine ⟨A, cap, hv, h1, h2, fun h0 => ?_⟩
  obtain ⟨b, o, hA, hb, hc⟩ := h3 h0
  have hlt : b < W.heap.size := World.block_lt_of_cell? _ _ (hc 0 h0)
  exact ⟨b, o, hA, hL b hlt hb, hc⟩
theorem PartsAt.more {W : World} {L L' : List Nat} {v : Value} {ps : List (Value × List UInt8)} (h : PartsAt W L v ps) (hL : ∀ k, k < W.heap.size → k ∉ L → k ∉ L') : PartsAt W L' v ps := by
  obtain ⟨A, cap, hv, h1, h2, h3, h4⟩ := h
  refine ⟨A, cap, hv, h1, h2, fun h0 => ?_, fun x hx => (h4 x hx).more hL⟩
  obtain ⟨b, o, hA, hb, hc⟩ := h3 h0
  have hlt : b < W.heap.size := World.block_lt_of_cell? _ _ (hc 0 _ (List.getElem?_eq_getElem h0))
  exact ⟨b, o, hA, hL b hlt hb, hc⟩
theorem ownsRow_keep {W W' : World} {base g n cap : Nat} {e : TypeId} {xs : List Value} (h : W.ownsRow base e 1 (.slice (some ⟨g, 0, none⟩) n cap) n xs) (hk : ∀ o : Obj, o.isCells = true → W.heap[g]? = some o → W'.heap[g]? = some o) :
    W'.ownsRow base e 1 (.slice (some ⟨g, 0, none⟩) n cap) n xs := by
  obtain ⟨h1, h2⟩ := h
  refine ⟨h1, ?_⟩
  rcases h2 with ⟨h, _⟩ | ⟨g', cap', cur, hv, hb, hh, r⟩
  · cases h
  · cases hv
    exact .inr ⟨g, cap, cur, rfl, hb, hk _ rfl hh, r⟩
theorem ownsRow_none {W : World} {base g n cap : Nat} {e : TypeId} {xs : List Value} (h : W.ownsRow base e 1 (.slice (some ⟨g, 0, none⟩) n cap) n xs) : W.ownsRow base e 1 (.slice (some ⟨g, 0, none⟩) 0 cap) 0 [] := by
  obtain ⟨_, h2⟩ := h
  rcases h2 with ⟨h, _⟩ | ⟨g', cap', cur, hv, hb, hh, _, hm, hs, _⟩
  · cases h
  · cases hv
    exact ⟨rfl, .inr ⟨g, cap, cur, rfl, hb, hh, Nat.zero_le _, hm, hs, by simp⟩⟩
theorem map_at (l : List UInt8) (i : Nat) (hi : i < l.length) : (l.map fun b => Value.int .u8 (bN b))[i]? = some (.int .u8 (bN (bAt l i))) := by simp [bAt, hi]
theorem cells_take {W : World} {q : List UInt8} {b o m : Nat} (hm : m ≤ q.length) (h : ∀ i, i < q.length → W.cell? ⟨b, o + i, none⟩ = some (.int .u8 (bN (bAt q i)))) :
    ∀ j u, ((q.take m).map fun b => Value.int .u8 (bN b))[j]? = some u → W.cell? ((⟨b, o, none⟩ : Addr).add j) = some u := by
  intro j u hj
  rw [Addr.add_mid]
  have hjm : j < m := by
    have := (List.getElem?_eq_some_iff.1 hj).1
    simp at this; omega
  rw [h j (by omega)]
  rw [List.getElem?_map, List.getElem?_take, if_pos hjm, List.getElem?_eq_getElem (by omega)] at hj
  simp at hj
  rw [← hj]
  simp [bAt, show j < q.length by omega]
theorem run_forIn_yields {P : Program} {w : World} {α σ : Type} (f : α → σ → Sem (ForInStep σ)) (s : σ) : ∀ (l : List α), (∀ a ∈ l, (f a s).run P w = .ok (.yield s) w) → (forIn l s f).run P w = .ok s w
  | [], _ => by simp [Sem.run_pure]
  | a :: l, h => by
    rw [List.forIn_cons, Sem.run_bind, h a (by simp)]
    exact run_forIn_yields f s l fun b hb => h b (by simp [hb])
/-- An array by value is the same as itself. -/
theorem equalIn_same {P : Program} (w : World) (d : Nat) (t e : TypeId) (n : Nat) (k : IntKind) (ht : P.underlying t = some (.array n e)) (he : P.underlying e = some (.int k)) (hs : (P.info? e).map (·.size) = some 1) (f : Nat → Int) :
    (Op.equalIn (d + 2) t (.agg (rowA n fun i => .int k (f i))) (.agg (rowA n fun i => .int k (f i)))).run P w = .ok true w := by
  have hsz : (sizeOf e).run P w = .ok 1 w := by
    cases hq : P.info? e with
    | none => simp [hq] at hs
    | some i => simp [hq] at hs; simp [sizeOf, typeInfo, hq, hs]
  have hagg : (isAgg e).run P w = .ok false w := by
    unfold isAgg
    rw [Sem.run_bind, run_underlying he w]
    rfl
  have hpart : ∀ i, i < n → (part e (rowA n fun i => .int k (f i)) i).run P w = .ok (.int k (f i)) w := fun i hi => by
    simp [part, hagg, rowA_at n (fun i => .int k (f i)) i hi]
  rw [Op.equalIn, Sem.run_bind, run_underlying ht w]
  simp only [Result.andThen_ok, Sem.run_bind, hsz, Std.Legacy.Range.forIn_eq_forIn_range', Std.Legacy.Range.size, Nat.sub_zero, Nat.add_one_sub_one, Nat.div_one]
  rw [run_forIn_yields _ _ _ (fun i hi => by
    have hi' : i < n := by simpa [List.mem_range'] using hi
    simp [hpart i hi', run_equalIn_int w d e k k _ _ he])]
  rfl
theorem eql_same {P : Program} (w : World) (t e : TypeId) (n : Nat) (k : IntKind) (ht : P.underlying t = some (.array n e)) (he : P.underlying e = some (.int k)) (hs : (P.info? e).map (·.size) = some 1) (f : Nat → Int) :
    (binOp .eql t (.agg (rowA n fun i => .int k (f i))) (.agg (rowA n fun i => .int k (f i)))).run P w = .ok (.bool true) w := by
  rw [run_eql_struct, equalIn_same w 9998 t e n k ht he hs f]; rfl
/-- A row of the call's own reads as a list. -/
theorem rdV_own {W : World} {base : Nat} {v : Value} {n : Nat} {l : List UInt8} {L : List Nat} (h : W.ownsRow base 5 1 v n (l.map fun b => .int .u8 (bN b))) (hl : l.length = n) (hL : ∀ k ∈ L, k < base) : RdV W L v l := by
  subst hl
  rcases h.2 with ⟨rfl, h0⟩ | ⟨g, cap, cur, rfl, hb, _, hnc, hcm, _, _⟩
  · have : l = [] := List.eq_nil_of_length_eq_zero h0
    subst this
    exact ⟨none, 0, rfl, Nat.le_refl _, by unfold maxLen; omega, fun h => absurd h (by simp)⟩
  · refine ⟨some ⟨g, 0, none⟩, cap, rfl, hnc, hcm, fun _ => ⟨g, 0, rfl, fun hm => by have := hL g hm; omega, fun i hi => ?_⟩⟩
    have hc := h.cells (g := g) rfl i (.int .u8 (bN (bAt l i))) (map_at l i hi)
    rwa [Addr.add_mid] at hc
theorem run_append_rd {P : Program} {W : World} {L : List Nat} {base : Nat} {t ty : TypeId} {i0 : TypeInfo} (ht : P.underlying t = some (.slice 5)) (hi : P.info? 5 = some i0) (hz0 : i0.zero = some (.int .u8 0)) (hz1 : i0.size = 1) (hz2 : i0.bytes = 1)
    {v : Value} {n : Nat} {xs : List Value} (hown : W.ownsRow base 5 1 v n xs) {u : Value} {l : List UInt8} (hr : RdV W L u l) (hn : n + l.length ≤ 1000000) (hbase : base ≤ W.heap.size) :
    ∃ v' w', (Builtin.append_ #[t, t] ty #[v, u]).run P W = .ok v' w' ∧ w'.ownsRow base 5 1 v' (n + l.length) (xs ++ l.map fun b => .int .u8 (bN b)) ∧ W.grownBy w' v.ownBlock := by
  obtain ⟨A, cap, rfl, h1, h2, h3⟩ := hr
  cases A with
  | none =>
    have h0 : l = [] := by
      cases l with
      | nil => rfl
      | cons b l => obtain ⟨_, _, h, _⟩ := h3 (by simp); cases h
    subst h0
    refine ⟨v, W, ?_, by simpa using hown, World.grownBy.refl W _⟩
    rcases hown.2 with ⟨rfl, rfl⟩ | ⟨g, cap', cur, rfl, _, _, hnc, _⟩
    · simp [Builtin.append_, run_underlying ht, sizeOf, typeInfo, hi, Builtin.lenOf, Builtin.firstCells]
    · simp [Builtin.append_, run_underlying ht, sizeOf, typeInfo, hi, Builtin.lenOf, Builtin.firstCells, hnc, storeCells]
  | some ad =>
    have hcells : ∀ j u, (l.map fun b => Value.int .u8 (bN b))[j]? = some u → W.cell? (ad.add j) = some u := fun j u hj => by
      have hjl : j < l.length := by have := (List.getElem?_eq_some_iff.1 hj).1; simpa using this
      obtain ⟨b, o, hA, _, hc⟩ := h3 (by omega)
      cases hA
      rw [Addr.add_mid, hc j hjl, ← map_at l j hjl, hj]
    obtain ⟨v', w', hrun, ho, hg, _⟩ := run_append_own (P := P) W base t ty 5 i0 _ 1 1 ht hi hz0 hz1 hz2 rfl (by omega) v n xs hown ad l.length cap (l.map fun b => .int .u8 (bN b)) (by simp) hcells
      (fun u hu => by obtain ⟨b, _, rfl⟩ := List.mem_map.1 hu; rfl) (by unfold maxLen; omega) (by omega) hbase
    exact ⟨v', w', hrun, ho, hg⟩
theorem wpList_append_rd {P : Program} {W : World} {ops : Array Oper} {rest : List Oper} {o : Oper} {a : Act} {Q : Exit → Act → World → Prop} (hgd : o.guard = none) (s x : Operand) (t : TypeId)
    (ho : o.op = .call { callee := .builtin .append, args := #[s, x], argTypes := #[t, t] }) {L : List Nat} {base : Nat} {i0 : TypeInfo} (ht : P.underlying t = some (.slice 5)) (hi : P.info? 5 = some i0) (hz0 : i0.zero = some (.int .u8 0)) (hz1 : i0.size = 1) (hz2 : i0.bytes = 1)
    {v : Value} {n : Nat} {xs : List Value} (hs : a.eval s = v) (hown : W.ownsRow base 5 1 v n xs) {u : Value} {l : List UInt8} (hx : a.eval x = u) (hr : RdV W L u l) (hn : n + l.length ≤ 1000000) (hbase : base ≤ W.heap.size)
    (h : ∀ v' w', w'.ownsRow base 5 1 v' (n + l.length) (xs ++ l.map fun b => .int .u8 (bN b)) → W.grownBy w' v.ownBlock → wpList P ops Q rest (a.put o.dst v') w') : wpList P ops Q (o :: rest) a W :=
  wpList_plain hgd fun _ hK => by
    obtain ⟨v', w', hrun, h2, h3⟩ := run_append_rd (P := P) (ty := o.type) ht hi hz0 hz1 hz2 hown hr hn hbase
    unfold Oper.wp execOp
    simp only [ho, resolve, invoke, builtin, Sem.run_bind, Sem.run_pure, Result.andThen_ok, List.map_toArray, List.map_cons, List.map_nil, hs, hx, hrun]
    exact hK _ _ (h v' w' h2 h3)
/-- A slice of slices, made of those that are handed in one by one. -/
theorem parts_new {W : World} {L : List Nat} (ps : List (Value × List UInt8)) (t : TypeId) (hL : ∀ k ∈ L, k < W.heap.size) (hn : ps.length ≤ 1000) (h : ∀ x ∈ ps, RdV W L x.1 x.2) :
    PartsAt (W.alloc (.cells (ps.map (·.1)).toArray t)) L (.slice (some ⟨W.heap.size, 0, none⟩) ps.length ps.length) ps := by
  refine ⟨_, ps.length, rfl, Nat.le_refl _, by unfold maxLen; omega, fun _ => ⟨W.heap.size, 0, rfl, fun hm => by have := hL _ hm; omega, fun i x hx => ?_⟩, fun x hx => (h x hx).keep (KeepBut.alloc W _)⟩
  have hb : (W.alloc (.cells (ps.map (·.1)).toArray t)).cell? ⟨W.heap.size, 0 + i, none⟩ = (ps.map (·.1)).toArray[0 + i]? := World.cell?_alloc_at _ _ _ _ rfl
  rw [hb, Nat.zero_add]
  simp [hx]
/-- A row that may be written whole. -/
def RowW (W : World) (g n : Nat) : Prop := ∃ t f, W.rowIs g t n f
theorem run_storeB {W : World} {g n : Nat} (h : RowW W g n) (f : Nat → UInt8) : (storeCells ⟨g, 0, none⟩ (rowA n (bF f)).toList).run Try.prog W = .ok () (W.setCells g 0 (rowA n (bF f)).toList) := by
  obtain ⟨t, z, r⟩ := h
  have := run_storeCells_cells (P := Try.prog) g 0 (rowA n (bF f)).toList 0 W (fun j hj => by simpa using (there_row r j (by rw [rowA_toList] at hj; simpa using hj)).1) (fun j hj => by simpa using (there_row r j (by rw [rowA_toList] at hj; simpa using hj)).2)
    (fun v hv => by rw [rowA_toList] at hv; obtain ⟨i, _, rfl⟩ := List.mem_map.1 hv; rfl)
  simpa using this
theorem flat_length (ps : List (Value × List UInt8)) : (flat ps).length = total ps := by simp [flat, total, Function.comp_def]
theorem modify_push (a : Array Obj) (x : Obj) (f : Obj → Obj) : (a.push x).modify a.size f = a.push (f x) := by
  apply Array.ext
  · simp
  · intro i h1 h2
    simp only [Array.getElem_modify, Array.getElem_push]
    by_cases h : a.size = i
    · subst h; simp
    · have hi : i < a.size := by simp at h1; omega
      simp [h, hi]
/-- '[]byte("..")' of a text that is known, as the model has it: its row is marked behind its end. -/
theorem conv_bytes (W : World) (C : Array Value) (g n c : Nat) (h : W.heap.size = g) : (convert 22 22 (.slice (some ⟨g, 0, none⟩) n c)).run Try.prog (W.alloc (.cells C 5)) = .ok (.slice (some ⟨g, 0, none⟩) n c) (W.alloc (.cells C 5 (C.size, C.size + 1))) := by
  subst h
  have hsh : (W.alloc (.cells C 5)).shape? W.heap.size = some (5, C.size) := by
    unfold World.shape?; rw [World.alloc_heap_new]
  have hfr : (W.alloc (.cells C 5)).freeze ⟨W.heap.size, C.size, none⟩ 1 = W.alloc (.cells C 5 (C.size, C.size + 1)) := by
    unfold World.freeze
    rw [if_neg (by decide)]
    show ({ W.alloc (.cells C 5) with heap := (W.heap.push (.cells C 5)).modify W.heap.size _ } : World) = _
    rw [modify_push]
    rfl
  simp [convert, run_underlying Try.underlying22, run_underlying Try.underlying5, markStringish, hsh, hfr]
theorem cell_new_fr (W : World) (C : Array Value) (t : TypeId) (fr : Nat × Nat) (g i : Nat) (h : g = W.heap.size) : (W.alloc (.cells C t fr)).cell? ⟨g, i, none⟩ = C[i]? := by
  subst h
  unfold World.cell?
  rw [World.alloc_heap_new W (.cells C t fr)]
  rfl
theorem str_eq {a b : ByteArray} (h : a = b) (w : World) : (binOp .eql 9 (.string a) (.string b)).run Try.prog w = .ok (.bool true) w := by
  subst h; simp [go_sem]
theorem rdV_lit {W : World} {g : Nat} {l : List UInt8} {cap : Nat} (hc : l.length ≤ cap) (hm : cap ≤ maxLen) (h : ∀ i, i < l.length → W.cell? ⟨g, i, none⟩ = some (.int .u8 (bN (bAt l i)))) : RdV W [] (.slice (some ⟨g, 0, none⟩) l.length cap) l :=
  ⟨some ⟨g, 0, none⟩, cap, rfl, hc, hm, fun _ => ⟨g, 0, rfl, by simp, fun i hi => by rw [Nat.zero_add]; exact h i hi⟩⟩
theorem rdV_form {W : World} {L : List Nat} {v : Value} {l : List UInt8} (h : RdV W L v l) : ∃ A cap, v = .slice A l.length cap := by
  obtain ⟨A, cap, h, _⟩ := h; exact ⟨A, cap, h⟩
theorem info5s : (Try.prog.info? 5).map (·.size) = some 1 := by kernel_rfl
theorem eql_hash (w : World) (d : Nat → UInt8) : (binOp .eql 24 (.agg (rowA 32 (bF d))) (.agg (rowA 32 (bF d)))).run Try.prog w = .ok (.bool true) w :=
  eql_same w 24 5 32 .u8 Try.underlying24 Try.underlying5 info5s (fun i => bN (d i))
theorem equal_hash (w : World) (d : Nat → UInt8) : (Op.equalIn 10000 24 (.agg (rowA 32 (bF d))) (.agg (rowA 32 (bF d)))).run Try.prog w = .ok true w :=
  equalIn_same w 9998 24 5 32 .u8 Try.underlying24 Try.underlying5 info5s (fun i => bN (d i))
theorem slice_to (A : Option Addr) (n cap m : Nat) (hm : m ≤ cap) (w : World) : (Instr.slice 22 (.slice A n cap) none (some (.int .i64 (m : Int))) none).run Try.prog w = .ok (.slice A m cap) w := by
  have hsz : (sizeOf 5).run Try.prog w = .ok 1 w := by
    obtain ⟨i0, hi, _, hz1, _⟩ := info_parts info5
    simp [sizeOf, typeInfo, hi, hz1]
  cases A with
  | none => simp [Instr.slice, run_underlying Try.underlying22, Instr.sliceBounds, Instr.sliceBound, asIntOf, hm, hsz]
  | some a =>
    have : a.add 0 = a := by rcases a with ⟨b, o, p⟩; cases p <;> rfl
    simp [Instr.slice, run_underlying Try.underlying22, Instr.sliceBounds, Instr.sliceBound, asIntOf, hm, hsz, this]
theorem RdV.less {W : World} {L L' : List Nat} {v : Value} {l : List UInt8} (h : RdV W L v l) (hL : ∀ k ∈ L', k ∈ L) : RdV W L' v l := by
  obtain ⟨A, cap, hv, h1, h2, h3⟩ := h
  refine ⟨A, cap, hv, h1, h2, fun h0 => ?_⟩
  obtain ⟨b, o, hA, hb, hc⟩ := h3 h0
  exact ⟨b, o, hA, fun hm => hb (hL b hm), hc⟩
theorem keepBut_grown {w w' : World} {row : Option Nat} (hg : w.grownBy w' row) {L : List Nat} (hL : ∀ k, row = some k → k ∈ L) : KeepBut L w w' :=
  ⟨hg.size, fun k o hk ho _ => by
    have hlt : k < w.heap.size := by
      rcases Nat.lt_or_ge k w.heap.size with h | h
      · exact h
      · rw [Array.getElem?_eq_none h] at ho; cases ho
    rw [hg.block k hlt (fun e => hk (hL k e.symm))]; exact ho⟩
end Go.Proofs.Yteelddmegmojpaa
