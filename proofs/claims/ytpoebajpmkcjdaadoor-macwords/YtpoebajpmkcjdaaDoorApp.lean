/- Own words, more: two arrays by value that are the same; an append of a slice that reads as a list, nil or not; a slice of slices that is new. -/
import Derived.Test.YtpoebajpmkcjdaaDoorB2
import Derived.Maps.AppendAt
import Derived.Laws.StructEq
namespace Go.Proofs.YtpoebajpmkcjdaaDoor
open Go.RowKit

theorem run_forIn_yields {P : Program} {w : World} {α σ : Type} (f : α → σ → Sem (ForInStep σ)) (s : σ) : ∀ (l : List α), (∀ a ∈ l, (f a s).run P w = .ok (.yield s) w) → (forIn l s f).run P w = .ok s w
  | [], _ => by simp [Sem.run_pure]
  | a :: l, h => by
    rw [List.forIn_cons, Sem.run_bind, h a (by simp)]
    exact run_forIn_yields f s l fun b hb => h b (by simp [hb])
/-- An array by value is the same as itself. -/
theorem equalIn_same {P : Program} (w : World) (d : Nat) (t e : TypeId) (n : Nat) (k : IntKind) (ht : P.underlying t = some (.array n e)) (he : P.underlying e = some (.int k)) (hs : (P.info? e).map (·.size) = some 1) (f : Nat → Int) :
    (Op.equalIn (d + 2) t (.agg (rowA n fun i => .int k (f i))) (.agg (rowA n fun i => .int k (f i)))).run P w = .ok true w := by
  have hsz : (sizeOf e).run P w = .ok 1 w := by
    cases hq : P.info? e with
    | none => simp [hq] at hs
    | some i => simp [hq] at hs; simp [sizeOf, typeInfo, hq, hs]
  have hagg : (isAgg e).run P w = .ok false w := by
    unfold isAgg
    rw [Sem.run_bind, run_underlying he w]
    rfl
  have hpart : ∀ i, i < n → (part e (rowA n fun i => .int k (f i)) i).run P w = .ok (.int k (f i)) w := fun i hi => by
    simp [part, hagg, rowA_at n (fun i => .int k (f i)) i hi]
  rw [Op.equalIn, Sem.run_bind, run_underlying ht w]
  simp only [Result.andThen_ok, Sem.run_bind, hsz, Std.Legacy.Range.forIn_eq_forIn_range', Std.Legacy.Range.size, Nat.sub_zero, Nat.add_one_sub_one, Nat.div_one]
  rw [run_forIn_yields _ _ _ (fun i hi => by
    have hi' : i < n := by simpa [List.mem_range'] using hi
    simp [hpart i hi', run_equalIn_int w d e k k _ _ he])]
  rfl
theorem eql_same {P : Program} (w : World) (t e : TypeId) (n : Nat) (k : IntKind) (ht : P.underlying t = some (.array n e)) (he : P.underlying e = some (.int k)) (hs : (P.info? e).map (·.size) = some 1) (f : Nat → Int) :
    (binOp .eql t (.agg (rowA n fun i => .int k (f i))) (.agg (rowA n fun i => .int k (f i)))).run P w = .ok (.bool true) w := by
  rw [run_eql_struct, equalIn_same w 9998 t e n k ht he hs f]; rfl

/-- A row of the call's own reads as a list. -/
theorem rdV_own {W : World} {base : Nat} {v : Value} {n : Nat} {l : List UInt8} {L : List Nat} (h : W.ownsRow base 5 1 v n (l.map fun b => .int .u8 (bN b))) (hl : l.length = n) (hL : ∀ k ∈ L, k < base) : RdV W L v l := by
  subst hl
  rcases h.2 with ⟨rfl, h0⟩ | ⟨g, cap, cur, rfl, hb, _, hnc, hcm, _, _⟩
  · have : l = [] := List.eq_nil_of_length_eq_zero h0
    subst this
    exact ⟨none, 0, rfl, Nat.le_refl _, by unfold maxLen; omega, fun h => absurd h (by simp)⟩
  · refine ⟨some ⟨g, 0, none⟩, cap, rfl, hnc, hcm, fun _ => ⟨g, 0, rfl, fun hm => by have := hL g hm; omega, fun i hi => ?_⟩⟩
    have hc := h.cells (g := g) rfl i (.int .u8 (bN (bAt l i))) (map_at l i hi)
    rwa [Addr.add_mid] at hc

theorem run_append_rd {P : Program} {W : World} {L : List Nat} {base : Nat} {t ty : TypeId} {i0 : TypeInfo} (ht : P.underlying t = some (.slice 5)) (hi : P.info? 5 = some i0) (hz0 : i0.zero = some (.int .u8 0)) (hz1 : i0.size = 1) (hz2 : i0.bytes = 1)
    {v : Value} {n : Nat} {xs : List Value} (hown : W.ownsRow base 5 1 v n xs) {u : Value} {l : List UInt8} (hr : RdV W L u l) (hn : n + l.length ≤ 1000000) (hbase : base ≤ W.heap.size) :
    ∃ v' w', (Builtin.append_ #[t, t] ty #[v, u]).run P W = .ok v' w' ∧ w'.ownsRow base 5 1 v' (n + l.length) (xs ++ l.map fun b => .int .u8 (bN b)) ∧ W.grownBy w' v.ownBlock := by
  obtain ⟨A, cap, rfl, h1, h2, h3⟩ := hr
  cases A with
  | none =>
    have h0 : l = [] := by
      cases l with
      | nil => rfl
      | cons b l => obtain ⟨_, _, h, _⟩ := h3 (by simp); cases h
    subst h0
    refine ⟨v, W, ?_, by simpa using hown, World.grownBy.refl W _⟩
    rcases hown.2 with ⟨rfl, rfl⟩ | ⟨g, cap', cur, rfl, _, _, hnc, _⟩
    · simp [Builtin.append_, run_underlying ht, sizeOf, typeInfo, hi, Builtin.lenOf, Builtin.firstCells]
    · simp [Builtin.append_, run_underlying ht, sizeOf, typeInfo, hi, Builtin.lenOf, Builtin.firstCells, hnc, storeCells]
  | some ad =>
    have hcells : ∀ j u, (l.map fun b => Value.int .u8 (bN b))[j]? = some u → W.cell? (ad.add j) = some u := fun j u hj => by
      have hjl : j < l.length := by have := (List.getElem?_eq_some_iff.1 hj).1; simpa using this
      obtain ⟨b, o, hA, _, hc⟩ := h3 (by omega)
      cases hA
      rw [Addr.add_mid, hc j hjl, ← map_at l j hjl, hj]
    obtain ⟨v', w', hrun, ho, hg, _⟩ := run_append_own (P := P) W base t ty 5 i0 _ 1 1 ht hi hz0 hz1 hz2 rfl (by omega) v n xs hown ad l.length cap (l.map fun b => .int .u8 (bN b)) (by simp) hcells
      (fun u hu => by obtain ⟨b, _, rfl⟩ := List.mem_map.1 hu; rfl) (by unfold maxLen; omega) (by omega) hbase
    exact ⟨v', w', hrun, ho, hg⟩
theorem wpList_append_rd {P : Program} {W : World} {ops : Array Oper} {rest : List Oper} {o : Oper} {a : Act} {Q : Exit → Act → World → Prop} (hgd : o.guard = none) (s x : Operand) (t : TypeId)
    (ho : o.op = .call { callee := .builtin .append, args := #[s, x], argTypes := #[t, t] }) {L : List Nat} {base : Nat} {i0 : TypeInfo} (ht : P.underlying t = some (.slice 5)) (hi : P.info? 5 = some i0) (hz0 : i0.zero = some (.int .u8 0)) (hz1 : i0.size = 1) (hz2 : i0.bytes = 1)
    {v : Value} {n : Nat} {xs : List Value} (hs : a.eval s = v) (hown : W.ownsRow base 5 1 v n xs) {u : Value} {l : List UInt8} (hx : a.eval x = u) (hr : RdV W L u l) (hn : n + l.length ≤ 1000000) (hbase : base ≤ W.heap.size)
    (h : ∀ v' w', w'.ownsRow base 5 1 v' (n + l.length) (xs ++ l.map fun b => .int .u8 (bN b)) → W.grownBy w' v.ownBlock → wpList P ops Q rest (a.put o.dst v') w') : wpList P ops Q (o :: rest) a W :=
  wpList_plain hgd fun _ hK => by
    obtain ⟨v', w', hrun, h2, h3⟩ := run_append_rd (P := P) (ty := o.type) ht hi hz0 hz1 hz2 hown hr hn hbase
    unfold Oper.wp execOp
    simp only [ho, resolve, invoke, builtin, Sem.run_bind, Sem.run_pure, Result.andThen_ok, List.map_toArray, List.map_cons, List.map_nil, hs, hx, hrun]
    exact hK _ _ (h v' w' h2 h3)

/-- A slice of slices, made of those that are handed in one by one. -/
theorem parts_new {W : World} {L : List Nat} (ps : List (Value × List UInt8)) (t : TypeId) (hL : ∀ k ∈ L, k < W.heap.size) (hn : ps.length ≤ 1000) (h : ∀ x ∈ ps, RdV W L x.1 x.2) :
    PartsAt (W.alloc (.cells (ps.map (·.1)).toArray t)) L (.slice (some ⟨W.heap.size, 0, none⟩) ps.length ps.length) ps := by
  refine ⟨_, ps.length, rfl, Nat.le_refl _, by unfold maxLen; omega, fun _ => ⟨W.heap.size, 0, rfl, fun hm => by have := hL _ hm; omega, fun i x hx => ?_⟩, fun x hx => (h x hx).keep (KeepBut.alloc W _)⟩
  have hb : (W.alloc (.cells (ps.map (·.1)).toArray t)).cell? ⟨W.heap.size, 0 + i, none⟩ = (ps.map (·.1)).toArray[0 + i]? := World.cell?_alloc_at _ _ _ _ rfl
  rw [hb, Nat.zero_add]
  simp [hx]
end Go.Proofs.YtpoebajpmkcjdaaDoor
