import Derived.Test.YtpoebajpmkcjdaaDoorA7
import Derived.Test.YtpoebajpmkcjdaaDoorB1
import Derived.Test.YtpoebajpmkcjdaaDoorStIn
namespace Go.Proofs.YtpoebajpmkcjdaaDoor
open Go.RowKit Go.Shelf
attribute [local go_sem] Oper.semAt_some

/-- The whole blocks of a text. -/
def cks (c : List UInt8) : List (List UInt8) := (List.range (c.length / 64)).map fun i => (c.drop (64 * i)).take 64
/-- What is left behind them. -/
def rem (c : List UInt8) : List UInt8 := c.drop (64 * (c.length / 64))
theorem rem_length (c : List UInt8) : (rem c).length = c.length % 64 := by simp [rem]; omega
theorem cks_nil : cks [] = [] := rfl
theorem rem_nil : rem [] = [] := rfl
theorem chunk_app (c d : List UInt8) (i : Nat) (h : 64 * i + 64 ≤ c.length) : ((c ++ d).drop (64 * i)).take 64 = (c.drop (64 * i)).take 64 := by
  rw [List.drop_append_of_le_length (by omega), List.take_append_of_le_length (by simp; omega)]
theorem rem_less (c d : List UInt8) (h : c.length % 64 + d.length < 64) : rem (c ++ d) = rem c ++ d ∧ cks (c ++ d) = cks c := by
  have e : (c ++ d).length / 64 = c.length / 64 := by simp; omega
  constructor
  · unfold rem; rw [e, List.drop_append_of_le_length (by omega)]
  · unfold cks; rw [e]; exact List.map_congr_left fun i hi => chunk_app c d i (by simp at hi; omega)
theorem rem_full (c d : List UInt8) (h : c.length % 64 + d.length = 64) : rem (c ++ d) = [] ∧ cks (c ++ d) = cks c ++ [rem c ++ d] := by
  have e : (c ++ d).length / 64 = c.length / 64 + 1 := by simp; omega
  have e2 : (c ++ d).length = 64 * (c.length / 64 + 1) := by simp; omega
  constructor
  · unfold rem; rw [e, ← e2, List.drop_length]
  · unfold cks; rw [e, List.range_succ, List.map_append]
    congr 1
    · exact List.map_congr_left fun i hi => chunk_app c d i (by simp at hi; omega)
    · simp only [List.map_cons, List.map_nil]
      rw [List.drop_append_of_le_length (by omega)]
      rw [List.take_of_length_le (by simp; omega)]
      rfl
def flat (ps : List (Value × List UInt8)) : List UInt8 := (ps.map (·.2)).flatten
theorem flat_snoc (ps : List (Value × List UInt8)) (x : Value × List UInt8) : flat (ps ++ [x]) = flat ps ++ x.2 := by simp [flat]

theorem filled_any (A : Option Addr) (n c : Nat) (w : World) : Calls Tryd.prog 59 #[.slice A n c] w fun e w' => e = .returned (.func (.func 62) #[] #[.pointer (some ⟨w.heap.size, 0, none⟩)]) ∧ w.alloc (.cells #[.slice A n c] 41) = w' := by
  go_enter Tryd.func59, Tryd.ntmps59
  go_wp2
  go_ret
  exact ⟨rfl, rfl⟩
theorem blocks_any (A : Option Addr) (n c : Nat) (w : World) : Calls Tryd.prog 40 #[.slice A n c] w fun e w' => e = .returned (.func (.func 58) #[] #[.pointer (some ⟨w.heap.size, 0, none⟩)]) ∧ w.alloc (.cells #[.slice A n c] 41) = w' := by
  go_enter Tryd.func40, Tryd.ntmps40
  go_wp2
  go_ret
  exact ⟨rfl, rfl⟩

theorem RdV.more {W : World} {L L' : List Nat} {v : Value} {l : List UInt8} (h : RdV W L v l) (hL : ∀ k, k < W.heap.size → k ∉ L → k ∉ L') : RdV W L' v l := by
  obtain ⟨A, cap, hv, h1, h2, h3⟩ := h
  refine ⟨A, cap, hv, h1, h2, fun h0 => ?_⟩
  obtain ⟨b, o, hA, hb, hc⟩ := h3 h0
  have hlt : b < W.heap.size := World.block_lt_of_cell? _ _ (hc 0 h0)
  exact ⟨b, o, hA, hL b hlt hb, hc⟩
theorem PartsAt.more {W : World} {L L' : List Nat} {v : Value} {ps : List (Value × List UInt8)} (h : PartsAt W L v ps) (hL : ∀ k, k < W.heap.size → k ∉ L → k ∉ L') : PartsAt W L' v ps := by
  obtain ⟨A, cap, hv, h1, h2, h3, h4⟩ := h
  refine ⟨A, cap, hv, h1, h2, fun h0 => ?_, fun x hx => (h4 x hx).more hL⟩
  obtain ⟨b, o, hA, hb, hc⟩ := h3 h0
  have hlt : b < W.heap.size := World.block_lt_of_cell? _ _ (hc 0 _ (List.getElem?_eq_getElem h0))
  exact ⟨b, o, hA, hL b hlt hb, hc⟩
/-- The iterator's own memory: yield's box, the begun block's box, and its row. -/
def Beg (B l : Nat) (V : World) (r : List UInt8) : Prop :=
  V.rowIs B 80 1 (fun _ => .func (.yield l) #[] #[]) ∧ V.rowIs (B + 1 + 1) 24 1 (fun _ => .slice (some ⟨B + 1, 0, none⟩) r.length 64) ∧
    V.ownsRow (B + 1) 5 1 (.slice (some ⟨B + 1, 0, none⟩) r.length 64) r.length (r.map fun b => .int .u8 (bN b))
theorem ownsRow_keep {W W' : World} {base g n cap : Nat} {e : TypeId} {xs : List Value} (h : W.ownsRow base e 1 (.slice (some ⟨g, 0, none⟩) n cap) n xs) (hk : ∀ o : Obj, o.isCells = true → W.heap[g]? = some o → W'.heap[g]? = some o) :
    W'.ownsRow base e 1 (.slice (some ⟨g, 0, none⟩) n cap) n xs := by
  obtain ⟨h1, h2⟩ := h
  refine ⟨h1, ?_⟩
  rcases h2 with ⟨h, _⟩ | ⟨g', cap', cur, hv, hb, hh, r⟩
  · cases h
  · cases hv
    exact .inr ⟨g, cap, cur, rfl, hb, hk _ rfl hh, r⟩
theorem Beg.below {B l : Nat} {V V' : World} {r : List UInt8} (h : Beg B l V r) (hb : Below (B + 1 + 1 + 1) V V') : Beg B l V' r :=
  ⟨rowIs_below h.1 hb (by omega), rowIs_below h.2.1 hb (by omega), ownsRow_keep h.2.2 fun _ _ ho => (hb.block _ (by omega)).trans ho⟩
theorem Beg.keep {B l : Nat} {L : List Nat} {V V' : World} {r : List UInt8} (h : Beg B l V r) (hL : ∀ k ∈ L, k < B) (hb : KeepBut L V V') : Beg B l V' r :=
  ⟨hb.row (fun hm => by have := hL _ hm; omega) h.1, hb.row (fun hm => by have := hL _ hm; omega) h.2.1, ownsRow_keep h.2.2 fun _ hc ho => hb.2 _ _ (fun hm => by have := hL _ hm; omega) ho hc⟩
def Inv (J : List (Value × List UInt8) → World → Prop) (B l : Nat) (pre2 : List (Value × List UInt8)) (V : World) : Prop :=
  ∃ pre : List (Value × List UInt8), pre.map (·.2) = cks (flat pre2) ∧ J pre V ∧ Beg B l V (rem (flat pre2))
def InvX (Jx : List (Value × List UInt8) → World → Prop) (c : Code) (V : World) : Prop := c = .ret ∧ ∃ pre : List (Value × List UInt8), Jx pre V
def lenOf : Value → Nat | .slice _ n _ => n | _ => 0
def Going (J : List (Value × List UInt8) → World → Prop) (B l : Nat) (L : List Nat) (c q : List UInt8) (V : World) (p : Value) (V' : World) : Prop :=
  ∃ (q1 q2 : List UInt8) (pre : List (Value × List UInt8)), q = q1 ++ q2 ∧ RdV V' L p q2 ∧ pre.map (·.2) = cks (c ++ q1) ∧ J pre V' ∧ Beg B l V' (rem (c ++ q1)) ∧ KeepsFrom (B + 1 + 1 + 1 + 1) V V' ∧ KeepBut L V V'

theorem ownsRow_none {W : World} {base g n cap : Nat} {e : TypeId} {xs : List Value} (h : W.ownsRow base e 1 (.slice (some ⟨g, 0, none⟩) n cap) n xs) : W.ownsRow base e 1 (.slice (some ⟨g, 0, none⟩) 0 cap) 0 [] := by
  obtain ⟨_, h2⟩ := h
  rcases h2 with ⟨h, _⟩ | ⟨g', cap', cur, hv, hb, hh, _, hm, hs, _⟩
  · cases h
  · cases hv
    exact ⟨rfl, .inr ⟨g, cap, cur, rfl, hb, hh, Nat.zero_le _, hm, hs, by simp⟩⟩
theorem map_at (l : List UInt8) (i : Nat) (hi : i < l.length) : (l.map fun b => Value.int .u8 (bN b))[i]? = some (.int .u8 (bN (bAt l i))) := by simp [bAt, hi]
theorem cells_take {W : World} {q : List UInt8} {b o m : Nat} (hm : m ≤ q.length) (h : ∀ i, i < q.length → W.cell? ⟨b, o + i, none⟩ = some (.int .u8 (bN (bAt q i)))) :
    ∀ j u, ((q.take m).map fun b => Value.int .u8 (bN b))[j]? = some u → W.cell? ((⟨b, o, none⟩ : Addr).add j) = some u := by
  intro j u hj
  rw [Addr.add_mid]
  have hjm : j < m := by
    have := (List.getElem?_eq_some_iff.1 hj).1
    simp at this; omega
  rw [h j (by omega)]
  rw [List.getElem?_map, List.getElem?_take, if_pos hjm, List.getElem?_eq_getElem (by omega)] at hj
  simp at hj
  rw [← hj]
  simp [bAt, show j < q.length by omega]

set_option maxHeartbeats 1000000 in
theorem blocks1_seq (L0 : List Nat) (pb : Nat) (hpb : pb ∉ L0) (pv : Value) (ps : List (Value × List UInt8)) (w : World) (hL0 : ∀ k ∈ L0, k < w.heap.size) (hbox : w.cell? ⟨pb, 0, none⟩ = some pv) (hps : PartsAt w L0 pv ps) (ht : total ps ≤ 4611686018427387904) :
    SeqG Tryd.prog 58 #[.pointer (some ⟨pb, 0, none⟩)] (fun x : Value × List UInt8 => #[x.1]) (KeepBut L0) (fun _ x W => RdV W L0 x.1 x.2 ∧ x.2.length = 64) (fun xs => xs.map (·.2) = cks (flat ps ++ fillB (total ps))) (fun _ => True) w := by
  intro l J Jx W hW hJ hJx hY h0
  have hLW : ∀ k ∈ L0, k < W.heap.size := fun k hk => Nat.lt_of_lt_of_le (hL0 k hk) hW.size
  have hbox' := KeepBut.cell (KeepBut.below hW) hpb hbox
  have hps' := hps.keep (KeepBut.below hW)
  obtain ⟨A, cap, rfl, _⟩ := hps'
  have hps' := hps.keep (KeepBut.below hW)
  have Hps := Lib.hid hps'
  have Hbox := Lib.hid hbox'
  obtain ⟨i0, hi, hz0, hz1, hz2⟩ := info_parts info5
  have hmk : ∀ W : World, (Instr.makeSlice 24 (.int .i64 0) (.int .i64 64)).run Tryd.prog W = .ok (.slice (some ⟨W.heap.size, 0, none⟩) 0 64) (W.alloc (.cells (rowA 64 (bF fun _ => 0)) 5)) := make_none i0 hi hz0 hz1 hz2
  have hpbW := World.block_lt_of_cell? _ _ hbox'
  have hpbW : pb < W.heap.size := hpbW
  have hp1 : pb < W.heap.size + 1 := by omega
  have hp2 : pb < W.heap.size + 1 + 1 := by omega
  clear hps' hps hbox hL0
  refine callsIn_of_wp_marks Tryd.func58 rfl trivial ?_ rfl
  simp only [Tryd.ntmps58, List.size_toArray, List.length_cons, List.length_nil, Nat.reduceAdd, Nat.reduceSub, Array.replicate_succ, Array.replicate_zero, List.push_toArray, List.append_toArray, List.nil_append, List.cons_append]
  gi_wp2_with fail
  refine ⟨trivial, rfl, (callsIn_wide.2 (filled_any A ps.length cap _)).mono ?_⟩
  rintro e W4 ⟨rfl, hW4⟩
  clear hmk
  have bA : W4.rowIs W.heap.size 80 1 (fun _ => .func (.yield l) #[] #[]) := by
    rw [← hW4]; exact (((rowIs_box W 80 1 (fun _ => .func (.yield l) #[] #[])).alloc _).alloc _).alloc _
  have bB : W4.rowIs (W.heap.size + 1) 5 64 (bF fun _ => 0) := by
    rw [← hW4]
    have := ((rowIs_box (W.alloc (.cells #[.func (.yield l) #[] #[]] 80)) 5 64 (bF fun _ => 0)).alloc (.cells #[.slice (some ⟨W.heap.size + 1, 0, none⟩) 0 64] 24)).alloc (.cells #[.slice A ps.length cap] 41)
    rwa [World.size_alloc] at this
  have bC : W4.rowIs (W.heap.size + 1 + 1) 24 1 (fun _ => .slice (some ⟨W.heap.size + 1, 0, none⟩) 0 64) := by
    rw [← hW4]
    have := (rowIs_box ((W.alloc (.cells #[.func (.yield l) #[] #[]] 80)).alloc (.cells (rowA 64 (bF fun _ => 0)) 5)) 24 1 (fun _ => .slice (some ⟨W.heap.size + 1, 0, none⟩) 0 64)).alloc (.cells #[.slice A ps.length cap] 41)
    rwa [World.size_alloc, World.size_alloc] at this
  have bD : W4.rowIs (W.heap.size + 1 + 1 + 1) 41 1 (fun _ => .slice A ps.length cap) := by
    rw [← hW4]
    have := rowIs_box (((W.alloc (.cells #[.func (.yield l) #[] #[]] 80)).alloc (.cells (rowA 64 (bF fun _ => 0)) 5)).alloc (.cells #[.slice (some ⟨W.heap.size + 1, 0, none⟩) 0 64] 24)) 41 1 (fun _ => .slice A ps.length cap)
    rwa [World.size_alloc, World.size_alloc, World.size_alloc] at this
  have hB4 : Below W.heap.size W W4 := by
    rw [← hW4]
    exact ((((Below.refl _ W).alloc (Nat.le_refl _) _).alloc (by simp) _).alloc (by simp; omega) _).alloc (by simp; omega) _
  have hs4 : W4.heap.size = W.heap.size + 1 + 1 + 1 + 1 := by rw [← hW4]; simp
  clear hW4
  have hbeg : Beg W.heap.size l W4 [] := ⟨bA, bC, by have := ownsRow_row bB (W.heap.size + 1) 0 (by omega) (by unfold maxLen; omega) (Nat.le_refl _); simpa using this⟩
  have hJ4 := hJ _ _ _ h0 hB4
  obtain ⟨L, hLe⟩ : ∃ L, L = (W.heap.size + 1) :: (W.heap.size + 1 + 1) :: L0 := ⟨_, rfl⟩
  have hLnot : ∀ k, k < W.heap.size → k ∉ L0 → k ∉ L := fun k hk h0 hm => by
    rw [hLe] at hm; simp at hm; rcases hm with h | h | h
    · omega
    · omega
    · exact h0 h
  have hLlt : ∀ k ∈ L, k < W.heap.size + 1 + 1 + 1 := fun k hm => by
    rw [hLe] at hm; simp at hm; rcases hm with h | h | h
    · omega
    · omega
    · have := hLW k h; omega
  have hp4 : PartsAt W4 L (.slice A ps.length cap) ps := (Hps.out.more hLnot).keep (KeepBut.below hB4)
  have seq := filled1_seq L (W.heap.size + 1 + 1 + 1) (fun hm => by have := hLlt _ hm; omega) (.slice A ps.length cap) ps W4 (fun k hk => by have := hLlt k hk; omega) (bD.cell (by omega)) hp4 ht
  clear bA bB bC bD hp4 Hps Hbox hbox' hp1 hp2 hpbW
  gi_wp2_with fail
  refine range_law (n := 0) (gf := 62) (lb := #[.pointer (some ⟨W.heap.size + 1 + 1 + 1, 0, none⟩)]) rfl (enters_of Tryd.func62 (by kernel_rfl) rfl) seq (Below.refl _ _) KeepBut.trans (fun V k o o' _ h hc => KeepBut.putObj h hc)
    (fun _ x V k o o' _ h hc hG => hG.keep (KeepBut.putObj h hc)) (fun _ => rfl)
    (Inv J W.heap.size l) (fun c _ V => InvX Jx c V)
    (fun pre A B h hb => by obtain ⟨p, h1, h2, h3⟩ := h; exact ⟨p, h1, hJ _ _ _ h2 (hb.mono (by omega)), h3.below (hb.mono (by omega))⟩)
    (fun c pre A B h hb => by obtain ⟨h1, p, h2⟩ := h; exact ⟨h1, p, hJx _ _ _ h2 (hb.mono (by omega))⟩)
    ⟨[], rfl, hJ4, hbeg⟩
    (fun x => { tmps := #[.func (.yield l) #[] #[], .pointer (some ⟨pb, 0, none⟩), .pointer (some ⟨W.heap.size, 0, none⟩), .pointer (some ⟨W.heap.size + 1 + 1, 0, none⟩), x.1, undef, .slice (some ⟨W.heap.size + 1, 0, none⟩) 0 64, .slice A ps.length cap, .func (.func 62) #[] #[.pointer (some ⟨W.heap.size + 1 + 1 + 1, 0, none⟩)], x.1, undef, undef, undef, undef, undef, undef, undef, undef, undef, undef, undef, undef, undef, undef, undef, undef, undef, undef, undef, undef, undef, undef, undef, undef, undef, undef], defers := [] }) ?assign ?body ?done ?stop
  case assign =>
    intro l2 x V K hK
    gi_wp2
    exact hK
  case body =>
    rintro l2 pre2 x V hl2 ⟨pre, hpre, hJp, hBeg⟩ hG
    gi_wp2
    gi_loopw [4] (fun p V' => Going J W.heap.size l L (flat pre2) x.2 V p V') (fun p _ => lenOf p)
    case atStart =>
      refine ⟨[], x.2, pre, rfl, hG, ?_, hJp, ?_, KeepsFrom.refl _ _, KeepBut.refl _ _⟩
      · rw [List.append_nil]; exact hpre
      · rw [List.append_nil]; exact hBeg
    case round =>
      obtain ⟨q1, q2, pre', hq, hrd, hpre', hJp', hBeg', hKF, hKB⟩ := hrel
      clear hG hBeg hJp hpre pre
      have Hq := Lib.hid hq
      have Hpre := Lib.hid hpre'
      clear hq hpre'
      obtain ⟨Ap, capp, rfl, hn1, hn2, hcells⟩ := hrd
      have Hcells := Lib.hid hcells
      clear hcells
      unfold maxLen at hn2
      generalize hc : flat pre2 ++ q1 = c at *
      have Hc := Lib.hid hc
      clear hc
      have hk := rem_length c
      have hk64 : (rem c).length < 64 := by omega
      have Hk := Lib.hid hk
      clear hk
      by_cases hn : 0 < q2.length
      · obtain ⟨pb2, po, rfl, hpbL, hcell⟩ := Hcells.out hn
        have Hcell := Lib.hid hcell
        clear hcell
        have cb := hBeg'.2.1.cell (i := 0) (by omega)
        have fb := hBeg'.2.1.frozen 0
        have cy := hBeg'.1.cell (i := 0) (by omega)
        obtain ⟨k, hkk⟩ : ∃ k, (rem c).length = k := ⟨_, rfl⟩
        rw [hkk] at cb hk64
        have Hkk := Lib.hid hkk
        clear hkk
        obtain ⟨m, hm1, hm2, hm3, hm4, hmin⟩ : ∃ m : Nat, 1 ≤ m ∧ m ≤ q2.length ∧ k + m ≤ 64 ∧ (k + m = 64 ∨ m = q2.length) ∧ (if (64 : Int) - (k : Int) < (q2.length : Int) then (64 : Int) - (k : Int) else (q2.length : Int)) = (m : Int) := by
          by_cases h : (64 : Int) - (k : Int) < (q2.length : Int)
          · exact ⟨64 - k, by omega, by omega, by omega, by omega, by rw [if_pos h]; omega⟩
          · exact ⟨q2.length, by omega, by omega, by omega, .inr rfl, by rw [if_neg h]⟩
        gi_wp2
        clear hmin
        have i1 : (m : Int) ≤ (capp : Int) := by omega
        have i2 : (m : Int) ≤ (q2.length : Int) := by omega
        refine region_round_tail 4 (by kernel_rfl) (by kernel_rfl) (by kernel_rfl) ?_
        simp only [List.take_succ_cons, List.take_zero, List.drop_succ_cons, List.drop_zero]
        iterate 4 (refine wpStill_step (fun K hK => ?_); go_simp; (try go_bits); refine hK _ ?_; clear hK K)
        refine wpStill_nil ?_
        have hpw : pb2 < wr.heap.size := World.block_lt_of_cell? _ _ (Hcell.out 0 hn)
        have hown := hBeg'.2.2
        rw [Hkk.out] at hown
        refine wpListIn_append_fits _ rfl (.tmp 19) (.tmp 22) 24 rfl (W.heap.size + 1) 5 i0 1 Tryd.underlying24 hi hz1 (W.heap.size + 1) k 64 _ rfl hown.drew ⟨pb2, po, none⟩ m capp ((q2.take m).map fun b => .int .u8 (bN b)) rfl (by simp; omega) (cells_take hm2 Hcell.out) (by intro u hu; obtain ⟨b, _, rfl⟩ := List.mem_map.1 hu; rfl) hm3 ?_
        intro w1 hown1 hg1
        have hB1 : Below (W.heap.size) wr w1 := (Below.refl _ wr).drew.grown hg1 (by have := hBeg'.2.1.lt; show _ ≤ wr.heap.size; omega) (fun g e => by injection e with e; omega)
        have hrb : w1.rowIs (W.heap.size + 1 + 1) 24 1 (fun _ => .slice (some ⟨W.heap.size + 1, 0, none⟩) (rem c).length 64) := hBeg'.2.1.of_block (hg1.block _ hBeg'.2.1.lt (fun e => by injection e with e; omega))
        have hra : w1.rowIs W.heap.size 80 1 (fun _ => .func (.yield l) #[] #[]) := hBeg'.1.of_block (hg1.block _ hBeg'.1.lt (fun e => by injection e with e; omega))
        have hkb1 : KeepBut L wr w1 := ⟨hg1.size, fun j o hj ho _ => (hg1.block j (Array.getElem?_eq_some_iff.1 ho).1 (fun e => hj (by cases e; rw [hLe]; simp))).trans ho⟩
        have hkf1 : KeepsOthers wr w1 := ⟨hg1.size, fun j o ho hc => (hg1.block j (Array.getElem?_eq_some_iff.1 ho).1 (fun e => by
          cases e
          obtain ⟨_, hh⟩ := hown
          rcases hh with ⟨h, _⟩ | ⟨g', cap', cur, hv, _, hh, _⟩
          · cases h
          · cases hv; rw [hh] at ho; cases ho; cases hc)).trans ho⟩
        have cb1 := hrb.cell (i := 0) (by omega)
        have fb1 := hrb.frozen 0
        have hsl := slice_from (P := Tryd.prog) 24 5 Tryd.underlying24 (by kernel_rfl) ⟨pb2, po, none⟩ q2.length capp m hm2
        obtain ⟨ad, had⟩ : ∃ ad, (if capp = m then (⟨pb2, po, none⟩ : Addr) else (⟨pb2, po, none⟩ : Addr).add m) = ad := ⟨_, rfl⟩
        rw [had] at hsl
        have Had := Lib.hid had
        clear cb fb cy had
        obtain ⟨V2, hV2⟩ : ∃ V2, w1.setCell ⟨W.heap.size + 1 + 1, 0, none⟩ (.slice (some ⟨W.heap.size + 1, 0, none⟩) (k + m) 64) = V2 := ⟨_, rfl⟩
        have hlen : (rem c ++ q2.take m).length = k + m := by rw [List.length_append, Hkk.out, List.length_take]; omega
        have hbeg2 : Beg W.heap.size l V2 (rem c ++ q2.take m) := by
          rw [← hV2]
          refine ⟨hra.setOther (by simp; omega) _, (hrb.set 0 _).congr fun i hi => ?_, ?_⟩
          · obtain rfl : i = 0 := by omega
            rw [if_pos rfl, hlen]
          · rw [hlen, List.map_append]
            exact ownsRow_keep hown1 fun o _ ho => (Below.heap_setCell w1 _ _ _ (by simp)).trans ho
        have hbj : Below W.heap.size wr V2 := by rw [← hV2]; exact hB1.setCell (by simp; omega) _
        have hkb2 : KeepBut L wr V2 := by rw [← hV2]; exact hkb1.trans (KeepBut.setCell (by rw [hLe]; simp) _)
        have hkf2 : KeepsOthers wr V2 := by rw [← hV2]; exact hkf1.trans (KeepsOthers.setCell _ _ _)
        have hj2 := hJ _ _ _ hJp' hbj
        have hrd2 : RdV V2 L (.slice (some ad) (q2.length - m) (capp - m)) (q2.drop m) := by
          refine ⟨some ad, capp - m, by simp, by simp; omega, by unfold maxLen; omega, fun h0 => ?_⟩
          have hlt : m < q2.length := by simp at h0; omega
          refine ⟨pb2, po + m, by rw [← Had.out, if_neg (by omega), Addr.add_mid], hpbL, fun i hi => ?_⟩
          have hi' : m + i < q2.length := by simp at hi; omega
          have := hkb2.cell (a := ⟨pb2, po + (m + i), none⟩) hpbL (Hcell.out (m + i) hi')
          rw [Nat.add_assoc, this]
          simp [bAt]
        have Hrd2 := Lib.hid hrd2
        clear hrd2 hbj hB1 hkf1 hkb1 hrb hra hown1 hg1
        have cb2 := hbeg2.2.1.cell (i := 0) (by omega)
        have fb2 := hbeg2.2.1.frozen 0
        have cy2 := hbeg2.1.cell (i := 0) (by omega)
        rw [hlen] at cb2
        have Hlen := Lib.hid hlen
        clear hlen
        have hcq : c ++ q2.take m = flat pre2 ++ (q1 ++ q2.take m) := by rw [← Hc.out, List.append_assoc]
        have hxq : x.2 = (q1 ++ q2.take m) ++ q2.drop m := by rw [List.append_assoc, List.take_append_drop]; exact Hq.out
        have hml : (q2.take m).length = m := by rw [List.length_take]; omega
        have hck := Hk.out
        rw [Hkk.out] at hck
        have Hcq := Lib.hid hcq
        have Hxq := Lib.hid hxq
        have Hml := Lib.hid hml
        have Hck := Lib.hid hck
        clear hcq hxq hml hck
        by_cases hfull : k + m < 64
        · have hd : decide ((k : Int) + (m : Int) < 64) = true := by simp; omega
          gi_wp2
          go_roundw
          case rel =>
            obtain ⟨r1, r2⟩ := rem_less c (q2.take m) (by rw [Hml.out, ← Hck.out]; exact hfull)
            exact ⟨q1 ++ q2.take m, q2.drop m, pre', Hxq.out, Hrd2.out, by rw [← Hcq.out, r2]; exact Hpre.out, hj2, by rw [← Hcq.out, r1]; exact hbeg2, hKF.trans (hkf2.from _), hKB.trans hkb2⟩
          case measure => simp [lenOf]; omega
        · have hfull' : k + m = 64 := by omega
          have hd : decide ((k : Int) + (m : Int) < 64) = false := by simp; omega
          have hrdB : RdV V2 L0 (.slice (some ⟨W.heap.size + 1, 0, none⟩) (k + m) 64) (rem c ++ q2.take m) := by
            refine ⟨some ⟨W.heap.size + 1, 0, none⟩, 64, by rw [Hlen.out], by rw [Hlen.out]; omega, by unfold maxLen; omega, fun _ => ⟨W.heap.size + 1, 0, rfl, fun hm => by have := hLW _ hm; omega, fun i hi => ?_⟩⟩
            have hcc := hbeg2.2.2.cells (g := W.heap.size + 1) rfl i (.int .u8 (bN (bAt (rem c ++ q2.take m) i)))
            rw [Addr.add_mid] at hcc
            exact hcc (map_at _ i hi)
          obtain ⟨fn, tmps, assign, body, hy, hR⟩ := hY pre' (.slice (some ⟨W.heap.size + 1, 0, none⟩) (k + m) 64, rem c ++ q2.take m) V2 hj2 ⟨hrdB, by show (rem c ++ q2.take m).length = 64; rw [Hlen.out]; exact hfull'⟩
          clear hrdB
          have Hfull := Lib.hid hfull'
          clear hfull'
          gi_wp2
          refine ⟨rfl, RoundIn.mono (show RoundIn (Fence.wide.inRound l2) 0 _ _ _ _ _ _ _ _ from hR) ?_⟩
          obtain ⟨r1, r2⟩ := rem_full c (q2.take m) (by rw [Hml.out, ← Hck.out]; exact Hfull.out)
          have Hr1 := Lib.hid r1
          have Hr2 := Lib.hid r2
          clear r1 r2
          rintro e W5 (⟨rfl, hJ5, hk5, hf5⟩ | ⟨rfl, hJx5, hf5⟩)
          · have hbeg5 := hbeg2.keep hLW hk5
            have cb5 := hbeg5.2.1.cell (i := 0) (by omega)
            have fb5 := hbeg5.2.1.frozen 0
            rw [Hlen.out] at cb5
            clear cb2 fb2 cy2
            gi_wp2
            go_roundw
            case rel =>
              refine ⟨q1 ++ q2.take m, q2.drop m, _, Hxq.out, ?_, ?_, hJ _ _ _ hJ5 ((Below.refl _ W5).setCell (by simp; omega) _), ?_, ?_, ?_⟩
              · exact (Hrd2.out.keep (hk5.more fun k hk => by rw [hLe]; simp [hk])).keep (KeepBut.setCell (by rw [hLe]; simp) _)
              · rw [List.map_append, ← Hcq.out, Hr2.out, Hpre.out]; rfl
              · rw [← Hcq.out, Hr1.out]
                refine ⟨hbeg5.1.setOther (by simp; omega) _, (hbeg5.2.1.set 0 _).congr fun i hi => ?_, ?_⟩
                · obtain rfl : i = 0 := by omega
                  rw [if_pos rfl]; rfl
                · have := ownsRow_keep (ownsRow_none hbeg5.2.2) fun o _ ho => (Below.heap_setCell W5 ⟨W.heap.size + 1 + 1, 0, none⟩ (.slice (some ⟨W.heap.size + 1, 0, none⟩) 0 64) _ (by simp)).trans ho
                  exact this
              · exact (hKF.trans (hkf2.from _)).trans ((keepsFrom_mono hf5 (by omega)).trans ((KeepsOthers.setCell _ _ _).from _))
              · exact (hKB.trans hkb2).trans ((hk5.more fun k hk => by rw [hLe]; simp [hk]).trans (KeepBut.setCell (by rw [hLe]; simp) _))
            case measure => simp [lenOf]; omega
          · gi_wp2
            exact ⟨by rw [hs4]; exact (hKF.trans (hkf2.from _)).trans (keepsFrom_mono hf5 (by omega)), rfl, _, hJx5⟩
      · have hq0 : q2 = [] := List.eq_nil_of_length_eq_zero (by omega)
        have hd0 : decide (0 < q2.length) = false := by simp; omega
        have Hq0 := Lib.hid hq0
        clear hq0
        gi_wp2
        have hcx : flat (pre2 ++ [x]) = c := by rw [flat_snoc, Hq.out, Hq0.out, List.append_nil]; exact Hc.out
        exact ⟨by rw [hs4]; exact hKF, hKB, pre', by rw [hcx]; exact Hpre.out, hJp', by rw [hcx]; exact hBeg'⟩
  case done =>
    rintro D xs V hD hS ⟨pre, hpre, hJp, hBeg⟩ hK
    gi_wp2
    refine ⟨by simp, .inl ⟨_, _, rfl, run_takeDeferred hK, ?_⟩⟩
    refine ⟨_, results_none rfl _ _ _, ⟨_, rfl⟩, .inl ⟨pre, ?_, hJ _ _ _ hJp (below_putObj (by omega) _)⟩⟩
    have e : flat xs = flat ps ++ fillB (total ps) := by unfold flat; rw [hS]; simp
    rw [hpre, e]
  case stop =>
    rintro D c pre2 V hD _ ⟨rfl, pre, hJp⟩ hK
    gi_wp2
    refine ⟨by simp, .inl ⟨_, _, rfl, run_takeDeferred hK, ?_⟩⟩
    exact ⟨_, results_none rfl _ _ _, ⟨_, rfl⟩, .inr ⟨pre, trivial, hJx _ _ _ hJp (below_putObj (by omega) _)⟩⟩
end Go.Proofs.YtpoebajpmkcjdaaDoor
