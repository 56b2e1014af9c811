import Derived.Test.YtpoebajpmkcjdaaDoorB2
namespace Go.Proofs.YtpoebajpmkcjdaaDoor
open Go.RowKit Go.Shelf
attribute [local go_sem] Oper.semAt_some uF_at

/-- A row that may be written whole. -/
def RowW (W : World) (g n : Nat) : Prop := ∃ t f, W.rowIs g t n f
theorem run_storeU {W : World} {g n : Nat} (h : RowW W g n) (f : Nat → BitVec 32) : (storeCells ⟨g, 0, none⟩ (rowA n (uF f)).toList).run Tryd.prog W = .ok () (W.setCells g 0 (rowA n (uF f)).toList) := by
  obtain ⟨t, z, r⟩ := h
  have := run_storeCells_cells (P := Tryd.prog) g 0 (rowA n (uF f)).toList 0 W (fun j hj => by simpa using (there_row r j (by rw [rowA_toList] at hj; simpa using hj)).1) (fun j hj => by simpa using (there_row r j (by rw [rowA_toList] at hj; simpa using hj)).2)
    (fun v hv => by rw [rowA_toList] at hv; obtain ⟨i, _, rfl⟩ := List.mem_map.1 hv; rfl)
  simpa using this
theorem run_storeB {W : World} {g n : Nat} (h : RowW W g n) (f : Nat → UInt8) : (storeCells ⟨g, 0, none⟩ (rowA n (bF f)).toList).run Tryd.prog W = .ok () (W.setCells g 0 (rowA n (bF f)).toList) := by
  obtain ⟨t, z, r⟩ := h
  have := run_storeCells_cells (P := Tryd.prog) g 0 (rowA n (bF f)).toList 0 W (fun j hj => by simpa using (there_row r j (by rw [rowA_toList] at hj; simpa using hj)).1) (fun j hj => by simpa using (there_row r j (by rw [rowA_toList] at hj; simpa using hj)).2)
    (fun v hv => by rw [rowA_toList] at hv; obtain ⟨i, _, rfl⟩ := List.mem_map.1 hv; rfl)
  simpa using this
attribute [local go_sem] run_storeU run_storeB
/-- The state behind a block. -/
def turnF (K s : Nat → BitVec 32) (l : List UInt8) : Nat → BitVec 32 := fun i => s i + (runTo K (wS l 48) (St.of s) 64).get i
/-- The digest of a text, from a first state. -/
def shaL (K F : Nat → BitVec 32) (text : List UInt8) : Nat → UInt8 := dig ((cks (text ++ fillB text.length)).foldl (turnF K) F)
theorem flat_length (ps : List (Value × List UInt8)) : (flat ps).length = total ps := by simp [flat, total, Function.comp_def]
theorem rowIs_putObj {W : World} {b n l : Nat} {t : TypeId} {f : Nat → Value} (h : W.rowIs b t n f) (hne : b ≠ l) (o : Obj) : (W.putObj l o).rowIs b t n f := h.of_block (World.putObj_heap_other hne)

def SumInv (K F : Nat → BitVec 32) (w : World) (pre : List (Value × List UInt8)) (V : World) : Prop :=
  V.rowIs (w.heap.size + 1) 23 8 (uF ((pre.map (·.2)).foldl (turnF K) F)) ∧ V.rowIs w.heap.size 31 32 (bF fun _ => 0) ∧ Below w.heap.size w V
set_option maxHeartbeats 2000000 in
theorem Sum_any (K F : Nat → BitVec 32) (pv : Value) (ps : List (Value × List UInt8)) (w : World) (h1 : 1 < w.heap.size)
    (hK : ∀ i, i < 64 → w.cell? ⟨1, i, none⟩ = some (.int .u32 (uN (K i)))) (hF : ∀ i, i < 8 → w.cell? ⟨0, i, none⟩ = some (.int .u32 (uN (F i))))
    (hps : PartsAt w [] pv ps) (ht : total ps ≤ 4611686018427387904) :
    Calls Tryd.prog 21 #[pv] w fun e w' => e = .returned (.agg (rowA 32 (bF (shaL K F (flat ps))))) ∧ Below w.heap.size w w' := by
  have HK := Lib.hid hK
  have Hps := Lib.hid hps
  obtain ⟨A, cap, rfl, _⟩ := hps
  have f0 := hF 0 (by omega)
  have f1 := hF 1 (by omega)
  have f2 := hF 2 (by omega)
  have f3 := hF 3 (by omega)
  have f4 := hF 4 (by omega)
  have f5 := hF 5 (by omega)
  have f6 := hF 6 (by omega)
  have f7 := hF 7 (by omega)
  have h0 : 0 < w.heap.size := by omega
  have h01 : 0 < w.heap.size + 1 := by omega
  clear hK hF
  refine (callsIn_wide (n := 0)).1 ?_
  refine callsIn_of_wp_marks Tryd.func21 rfl trivial ?_ rfl
  simp only [Tryd.ntmps21, List.size_toArray, List.length_cons, List.length_nil, Nat.reduceAdd, Nat.reduceSub, Array.replicate_succ, Array.replicate_zero, List.push_toArray, List.append_toArray, List.nil_append, List.cons_append]
  gi_wp2_with fail
  refine ⟨trivial, rfl, (callsIn_wide.2 (blocks_any A ps.length cap _)).mono ?_⟩
  rintro e W3 ⟨rfl, hW3⟩
  clear f0 f1 f2 f3 f4 f5 f6 f7
  have hW3' : ((w.alloc (.cells (rowA 32 (bF fun _ => 0)) 31)).alloc (.cells (rowA 8 (uF F)) 23)).alloc (.cells #[.slice A ps.length cap] 41) = W3 := hW3
  clear hW3
  have bA : W3.rowIs w.heap.size 31 32 (bF fun _ => 0) := by
    rw [← hW3']; exact ((rowIs_box w 31 32 (bF fun _ => 0)).alloc _).alloc _
  have bB : W3.rowIs (w.heap.size + 1) 23 8 (uF F) := by
    rw [← hW3']
    have := (rowIs_box (w.alloc (.cells (rowA 32 (bF fun _ => 0)) 31)) 23 8 (uF F)).alloc (.cells #[.slice A ps.length cap] 41)
    rwa [World.size_alloc] at this
  have bC : W3.rowIs (w.heap.size + 1 + 1) 41 1 (fun _ => .slice A ps.length cap) := by
    rw [← hW3']
    have := rowIs_box ((w.alloc (.cells (rowA 32 (bF fun _ => 0)) 31)).alloc (.cells (rowA 8 (uF F)) 23)) 41 1 (fun _ => .slice A ps.length cap)
    rwa [World.size_alloc, World.size_alloc] at this
  have hB3 : Below w.heap.size w W3 := by
    rw [← hW3']; exact (((Below.refl _ w).alloc (Nat.le_refl _) _).alloc (by simp) _).alloc (by simp; omega) _
  have hs3 : W3.heap.size = w.heap.size + 1 + 1 + 1 := by rw [← hW3']; simp
  clear hW3'
  have hp3 : PartsAt W3 [w.heap.size + 1] (.slice A ps.length cap) ps := (Hps.out.more (fun k hk _ => by simp; omega)).keep (KeepBut.below hB3)
  have seq := blocks1_seq [w.heap.size + 1] (w.heap.size + 1 + 1) (by simp) (.slice A ps.length cap) ps W3 (fun k hk => by simp at hk; omega) (bC.cell (by omega)) hp3 ht
  clear bC hp3 Hps
  gi_wp2_with fail
  refine range_law (n := 0) (gf := 58) (lb := #[.pointer (some ⟨w.heap.size + 1 + 1, 0, none⟩)]) rfl (enters_of Tryd.func58 (by kernel_rfl) rfl) seq (Below.refl _ _) KeepBut.trans (fun V k o o' _ h hc => KeepBut.putObj h hc)
    (fun _ x V k o o' _ h hc hG => ⟨hG.1.keep (KeepBut.putObj h hc), hG.2⟩) (fun _ => rfl)
    (SumInv K F w) (fun _ _ _ => False)
    (fun pre A B h hb => ⟨rowIs_below h.1 hb (by omega), rowIs_below h.2.1 hb (by omega), h.2.2.trans (hb.mono (by omega))⟩)
    (fun _ _ _ _ h _ => h)
    ⟨bB, bA, hB3⟩
    (fun x => { tmps := #[.slice A ps.length cap, undef, .pointer (some ⟨w.heap.size, 0, none⟩), .pointer (some ⟨w.heap.size + 1, 0, none⟩), x.1, .agg #[.int .u32 (uN (F 0)), .int .u32 (uN (F 1)), .int .u32 (uN (F 2)), .int .u32 (uN (F 3)), .int .u32 (uN (F 4)), .int .u32 (uN (F 5)), .int .u32 (uN (F 6)), .int .u32 (uN (F 7))], .slice A ps.length cap, .func (.func 58) #[] #[.pointer (some ⟨w.heap.size + 1 + 1, 0, none⟩)], x.1, undef, undef, undef, undef, undef], defers := [] }) ?assign ?body ?done ?stop
  case assign =>
    intro l2 x V K hK
    gi_wp2
    exact hK
  case body =>
    rintro l2 pre x V hl2 ⟨hH, hZ, hBw⟩ ⟨hrd, h64⟩
    obtain ⟨Ax, capx, hx1, hx2, hx3, hx4⟩ := hrd
    rw [h64] at hx1 hx2 hx4
    obtain ⟨b, o, rfl, _, hcell⟩ := hx4 (by omega)
    rw [hx1]
    have hbV : b < V.heap.size := World.block_lt_of_cell? _ _ (hcell 0 (by omega))
    obtain ⟨s, hs⟩ : ∃ s, (pre.map (·.2)).foldl (turnF K) F = s := ⟨_, rfl⟩
    rw [hs] at hH
    have c0 := hH.cell (i := 0) (by omega)
    have c1 := hH.cell (i := 1) (by omega)
    have c2 := hH.cell (i := 2) (by omega)
    have c3 := hH.cell (i := 3) (by omega)
    have c4 := hH.cell (i := 4) (by omega)
    have c5 := hH.cell (i := 5) (by omega)
    have c6 := hH.cell (i := 6) (by omega)
    have c7 := hH.cell (i := 7) (by omega)
    have Hs := Lib.hid hs
    have Hx := Lib.hid hx1
    have Hcell := Lib.hid hcell
    have H64 := Lib.hid h64
    clear hs hx1 hcell h64 hx4
    gi_wp2_with fail
    have hT := CallsIn.inRound (F := Fence.wide) (n := 0) l2 (callsIn_wide.2 (Turn_any K s x.2 b o capx hx2 hx3 V hbV (by have := hBw.size; omega) (fun i hi => (hBw.cell (p := ⟨1, i, none⟩) h1).trans (HK.out i hi)) Hcell.out))
    refine ⟨trivial, rfl, hT.mono ?_⟩
    clear hT
    rintro e w2 ⟨rfl, hB2⟩
    have r2 := rowIs_below hH hB2 hH.lt
    have z2 := rowIs_below hZ hB2 hZ.lt
    have rw2 : RowW w2 (w.heap.size + 1) 8 := ⟨_, _, r2⟩
    clear c0 c1 c2 c3 c4 c5 c6 c7
    gi_wp2
    refine ⟨((keepsOthers_below hB2).trans (keepsOthers_setCells _ _ _ _)).from _, (KeepBut.below hB2).trans (KeepBut.setCells (by simp) _ _ _), ?_, rowIs_setOther z2 (by omega) _ _, ?_⟩
    · rw [List.map_append, List.foldl_append, Hs.out]
      exact rowIs_setAll r2 _
    · exact below_setCells _ (by omega) _ _ _ (hBw.trans (hB2.mono hBw.size))
  case done =>
    rintro D xs V hD hS ⟨hH, hZ, hBw⟩ hK
    obtain ⟨s, hs⟩ : ∃ s, (xs.map (·.2)).foldl (turnF K) F = s := ⟨_, rfl⟩
    rw [hs] at hH
    have c0 := hH.cell (i := 0) (by omega)
    have c1 := hH.cell (i := 1) (by omega)
    have c2 := hH.cell (i := 2) (by omega)
    have c3 := hH.cell (i := 3) (by omega)
    have c4 := hH.cell (i := 4) (by omega)
    have c5 := hH.cell (i := 5) (by omega)
    have c6 := hH.cell (i := 6) (by omega)
    have c7 := hH.cell (i := 7) (by omega)
    have Hs := Lib.hid hs
    have HS := Lib.hid hS
    have HKD := Lib.hid hK
    clear hs hS hK
    gi_wp2_with fail
    refine ⟨trivial, rfl, (callsIn_wide.2 (digest_any s V)).mono ?_⟩
    rintro e w2 ⟨rfl, hB2⟩
    have z2 := rowIs_below hZ hB2 hZ.lt
    have rw2 : RowW w2 w.heap.size 32 := ⟨_, _, z2⟩
    clear c0 c1 c2 c3 c4 c5 c6 c7
    gi_wp2
    have hK2 : (w2.setCells w.heap.size 0 (rowA 32 (bF (dig s))).toList).heap[D]? = some (.deferred (some [])) := (keepsOthers_setCells _ _ _ _).same D _ ((keepsOthers_below hB2).same D _ HKD.out rfl) rfl
    refine ⟨by simp, .inl ⟨_, _, rfl, run_takeDeferred hK2, ?_⟩⟩
    refine ⟨_, results_row rfl _ rfl (rowIs_putObj (rowIs_setAll z2 (bF (dig s))) (by omega) _) Tryd.underlying31 info31, ?_, ?_⟩
    · rw [← Hs.out, HS.out, shaL, flat_length]
    · exact (below_setCells _ (Nat.le_refl _) _ _ _ (hBw.trans (hB2.mono hBw.size))).trans (below_putObj (by omega) _)
  case stop =>
    rintro D c pre2 V hD _ h hK
    exact h.elim
end Go.Proofs.YtpoebajpmkcjdaaDoor
