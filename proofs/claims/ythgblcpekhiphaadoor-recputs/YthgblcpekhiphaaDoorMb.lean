/- Texts of this claim, one behind the other. -/
import Derived.Test.YthgblcpekhiphaaDoorMa
import Derived.KernelRfl
import Derived.Laws.CopyOwn
import Derived.Deep.Cut
import Derived.Lib.SliceRun
set_option linter.all false
namespace Go.Proofs.YthgblcpekhiphaaDoor
open Go.RowKit Go.Shelf
set_option maxRecDepth 8000
attribute [local go_sem] Oper.semAt_some

/-- The whole blocks of a text. -/
def cks (c : List UInt8) : List (List UInt8) := (List.range (c.length / 64)).map fun i => (c.drop (64 * i)).take 64
/-- What is left behind them. -/
def rem (c : List UInt8) : List UInt8 := c.drop (64 * (c.length / 64))
theorem rem_length (c : List UInt8) : (rem c).length = c.length % 64 := by simp [rem]; omega
theorem chunk_app (c d : List UInt8) (i : Nat) (h : 64 * i + 64 ≤ c.length) : ((c ++ d).drop (64 * i)).take 64 = (c.drop (64 * i)).take 64 := by
  rw [List.drop_append_of_le_length (by omega), List.take_append_of_le_length (by simp; omega)]
theorem rem_less (c d : List UInt8) (h : c.length % 64 + d.length < 64) : rem (c ++ d) = rem c ++ d ∧ cks (c ++ d) = cks c := by
  have e : (c ++ d).length / 64 = c.length / 64 := by simp; omega
  constructor
  · unfold rem; rw [e, List.drop_append_of_le_length (by omega)]
  · unfold cks; rw [e]; exact List.map_congr_left fun i hi => chunk_app c d i (by simp at hi; omega)
theorem rem_full (c d : List UInt8) (h : c.length % 64 + d.length = 64) : rem (c ++ d) = [] ∧ cks (c ++ d) = cks c ++ [rem c ++ d] := by
  have e : (c ++ d).length / 64 = c.length / 64 + 1 := by simp; omega
  have e2 : (c ++ d).length = 64 * (c.length / 64 + 1) := by simp; omega
  constructor
  · unfold rem; rw [e, ← e2, List.drop_length]
  · unfold cks; rw [e, List.range_succ, List.map_append]
    congr 1
    · exact List.map_congr_left fun i hi => chunk_app c d i (by simp at hi; omega)
    · simp only [List.map_cons, List.map_nil]
      rw [List.drop_append_of_le_length (by omega)]
      rw [List.take_of_length_le (by simp; omega)]
      rfl
theorem filled_any (A : Option Addr) (n c : Nat) (w : World) : Calls Tryd.prog 96 #[.slice A n c] w fun e w' => e = .returned (.func (.func 99) #[] #[.pointer (some ⟨w.heap.size, 0, none⟩)]) ∧ w.alloc (.cells #[.slice A n c] 50) = w' := by
  go_enter Tryd.func96, Tryd.ntmps96
  go_wp2
  go_ret
  exact ⟨rfl, rfl⟩
theorem blocks_any (A : Option Addr) (n c : Nat) (w : World) : Calls Tryd.prog 83 #[.slice A n c] w fun e w' => e = .returned (.func (.func 95) #[] #[.pointer (some ⟨w.heap.size, 0, none⟩)]) ∧ w.alloc (.cells #[.slice A n c] 50) = w' := by
  go_enter Tryd.func83, Tryd.ntmps83
  go_wp2
  go_ret
  exact ⟨rfl, rfl⟩

/-- The iterator's own memory: yield's box, the begun block's box, and its row. -/
def Beg (B l : Nat) (V : World) (r : List UInt8) : Prop :=
  V.rowIs B 101 1 (fun _ => .func (.yield l) #[] #[]) ∧ V.rowIs (B + 1 + 1) 25 1 (fun _ => .slice (some ⟨B + 1, 0, none⟩) r.length 64) ∧
    V.ownsRow (B + 1) 5 1 (.slice (some ⟨B + 1, 0, none⟩) r.length 64) r.length (r.map fun b => .int .u8 (bN b))
theorem Beg.below {B l : Nat} {V V' : World} {r : List UInt8} (h : Beg B l V r) (hb : Below (B + 1 + 1 + 1) V V') : Beg B l V' r :=
  ⟨rowIs_below h.1 hb (by omega), rowIs_below h.2.1 hb (by omega), ownsRow_keep h.2.2 fun _ _ ho => (hb.block _ (by omega)).trans ho⟩
theorem Beg.keep {B l : Nat} {L : List Nat} {V V' : World} {r : List UInt8} (h : Beg B l V r) (hL : ∀ k ∈ L, k < B) (hb : KeepBut L V V') : Beg B l V' r :=
  ⟨hb.row (fun hm => by have := hL _ hm; omega) h.1, hb.row (fun hm => by have := hL _ hm; omega) h.2.1, ownsRow_keep h.2.2 fun _ hc ho => hb.2 _ _ (fun hm => by have := hL _ hm; omega) ho hc⟩
def Inv (J : List (Value × List UInt8) → World → Prop) (B l : Nat) (pre2 : List (Value × List UInt8)) (V : World) : Prop :=
  ∃ pre : List (Value × List UInt8), pre.map (·.2) = cks (flat pre2) ∧ J pre V ∧ Beg B l V (rem (flat pre2))
def InvX (Jx : List (Value × List UInt8) → World → Prop) (c : Code) (V : World) : Prop := c = .ret ∧ ∃ pre : List (Value × List UInt8), Jx pre V
def lenOf : Value → Nat | .slice _ n _ => n | _ => 0
def Going (J : List (Value × List UInt8) → World → Prop) (B l : Nat) (L : List Nat) (c q : List UInt8) (V : World) (p : Value) (V' : World) : Prop :=
  ∃ (q1 q2 : List UInt8) (pre : List (Value × List UInt8)), q = q1 ++ q2 ∧ RdV V' L p q2 ∧ pre.map (·.2) = cks (c ++ q1) ∧ J pre V' ∧ Beg B l V' (rem (c ++ q1)) ∧ KeepsFrom (B + 1 + 1 + 1 + 1) V V' ∧ KeepBut L V V'

set_option maxHeartbeats 1000000 in
theorem blocks1_seq (L0 : List Nat) (pb : Nat) (hpb : pb ∉ L0) (pv : Value) (ps : List (Value × List UInt8)) (w : World) (hL0 : ∀ k ∈ L0, k < w.heap.size) (hbox : w.cell? ⟨pb, 0, none⟩ = some pv) (hps : PartsAt w L0 pv ps) (ht : total ps ≤ 4611686018427387904) :
    SeqG Tryd.prog 95 #[.pointer (some ⟨pb, 0, none⟩)] (fun x : Value × List UInt8 => #[x.1]) (KeepBut L0) (fun _ x W => RdV W L0 x.1 x.2 ∧ x.2.length = 64) (fun xs => xs.map (·.2) = cks (flat ps ++ fillB (total ps))) (fun _ => True) w := by
  intro l J Jx W hW hJ hJx hY h0
  have hLW : ∀ k ∈ L0, k < W.heap.size := fun k hk => Nat.lt_of_lt_of_le (hL0 k hk) hW.size
  have hbox' := KeepBut.cell (KeepBut.below hW) hpb hbox
  have hps' := hps.keep (KeepBut.below hW)
  obtain ⟨A, cap, rfl, _⟩ := hps'
  have hps' := hps.keep (KeepBut.below hW)
  have Hps := Lib.hid hps'
  have Hbox := Lib.hid hbox'
  obtain ⟨i0, hi, hz0, hz1, hz2⟩ := info_parts info5
  have hmk : ∀ W : World, (Instr.makeSlice 25 (.int .i64 0) (.int .i64 64)).run Tryd.prog W = .ok (.slice (some ⟨W.heap.size, 0, none⟩) 0 64) (W.alloc (.cells (rowA 64 (bF fun _ => 0)) 5)) := make_none i0 hi hz0 hz1 hz2
  have hpbW := World.block_lt_of_cell? _ _ hbox'
  have hpbW : pb < W.heap.size := hpbW
  have hp1 : pb < W.heap.size + 1 := by omega
  have hp2 : pb < W.heap.size + 1 + 1 := by omega
  clear hps' hps hbox hL0
  refine callsIn_of_wp_marks Tryd.func95 rfl trivial ?_ rfl
  simp only [Tryd.ntmps95, List.size_toArray, List.length_cons, List.length_nil, Nat.reduceAdd, Nat.reduceSub, Array.replicate_succ, Array.replicate_zero, List.push_toArray, List.append_toArray, List.nil_append, List.cons_append]
  gi_wp2_with fail
  refine ⟨trivial, rfl, (callsIn_wide.2 (filled_any A ps.length cap _)).mono ?_⟩
  rintro e W4 ⟨rfl, hW4⟩
  clear hmk
  have bA : W4.rowIs W.heap.size 101 1 (fun _ => .func (.yield l) #[] #[]) := by
    rw [← hW4]; exact (((rowIs_box W 101 1 (fun _ => .func (.yield l) #[] #[])).alloc _).alloc _).alloc _
  have bB : W4.rowIs (W.heap.size + 1) 5 64 (bF fun _ => 0) := by
    rw [← hW4]
    have := ((rowIs_box (W.alloc (.cells #[.func (.yield l) #[] #[]] 101)) 5 64 (bF fun _ => 0)).alloc (.cells #[.slice (some ⟨W.heap.size + 1, 0, none⟩) 0 64] 25)).alloc (.cells #[.slice A ps.length cap] 50)
    rwa [World.size_alloc] at this
  have bC : W4.rowIs (W.heap.size + 1 + 1) 25 1 (fun _ => .slice (some ⟨W.heap.size + 1, 0, none⟩) 0 64) := by
    rw [← hW4]
    have := (rowIs_box ((W.alloc (.cells #[.func (.yield l) #[] #[]] 101)).alloc (.cells (rowA 64 (bF fun _ => 0)) 5)) 25 1 (fun _ => .slice (some ⟨W.heap.size + 1, 0, none⟩) 0 64)).alloc (.cells #[.slice A ps.length cap] 50)
    rwa [World.size_alloc, World.size_alloc] at this
  have bD : W4.rowIs (W.heap.size + 1 + 1 + 1) 50 1 (fun _ => .slice A ps.length cap) := by
    rw [← hW4]
    have := rowIs_box (((W.alloc (.cells #[.func (.yield l) #[] #[]] 101)).alloc (.cells (rowA 64 (bF fun _ => 0)) 5)).alloc (.cells #[.slice (some ⟨W.heap.size + 1, 0, none⟩) 0 64] 25)) 50 1 (fun _ => .slice A ps.length cap)
    rwa [World.size_alloc, World.size_alloc, World.size_alloc] at this
  have hB4 : Below W.heap.size W W4 := by
    rw [← hW4]
    exact ((((Below.refl _ W).alloc (Nat.le_refl _) _).alloc (by simp) _).alloc (by simp; omega) _).alloc (by simp; omega) _
  have hs4 : W4.heap.size = W.heap.size + 1 + 1 + 1 + 1 := by rw [← hW4]; simp
  clear hW4
  have hbeg : Beg W.heap.size l W4 [] := ⟨bA, bC, by have := ownsRow_row bB (W.heap.size + 1) 0 (by omega) (by unfold maxLen; omega) (Nat.le_refl _); simpa using this⟩
  have hJ4 := hJ _ _ _ h0 hB4
  obtain ⟨L, hLe⟩ : ∃ L, L = (W.heap.size + 1) :: (W.heap.size + 1 + 1) :: L0 := ⟨_, rfl⟩
  have hLnot : ∀ k, k < W.heap.size → k ∉ L0 → k ∉ L := fun k hk h0 hm => by
    rw [hLe] at hm; simp at hm; rcases hm with h | h | h
    · omega
    · omega
    · exact h0 h
  have hLlt : ∀ k ∈ L, k < W.heap.size + 1 + 1 + 1 := fun k hm => by
    rw [hLe] at hm; simp at hm; rcases hm with h | h | h
    · omega
    · omega
    · have := hLW k h; omega
  have hp4 : PartsAt W4 L (.slice A ps.length cap) ps := (Hps.out.more hLnot).keep (KeepBut.below hB4)
  have seq := filled1_seq L (W.heap.size + 1 + 1 + 1) (fun hm => by have := hLlt _ hm; omega) (.slice A ps.length cap) ps W4 (fun k hk => by have := hLlt k hk; omega) (bD.cell (by omega)) hp4 ht
  clear bA bB bC bD hp4 Hps Hbox hbox' hp1 hp2 hpbW
  gi_wp2_with fail
  refine range_law (n := 0) (gf := 99) (lb := #[.pointer (some ⟨W.heap.size + 1 + 1 + 1, 0, none⟩)]) rfl (enters_of Tryd.func99 (by kernel_rfl) rfl) seq (Below.refl _ _) KeepBut.trans (fun V k o o' _ h hc => KeepBut.putObj h hc)
    (fun _ x V k o o' _ h hc hG => hG.keep (KeepBut.putObj h hc)) (fun _ => rfl)
    (Inv J W.heap.size l) (fun c _ V => InvX Jx c V)
    (fun pre A B h hb => by obtain ⟨p, h1, h2, h3⟩ := h; exact ⟨p, h1, hJ _ _ _ h2 (hb.mono (by omega)), h3.below (hb.mono (by omega))⟩)
    (fun c pre A B h hb => by obtain ⟨h1, p, h2⟩ := h; exact ⟨h1, p, hJx _ _ _ h2 (hb.mono (by omega))⟩)
    ⟨[], rfl, hJ4, hbeg⟩
    (fun x => { tmps := #[.func (.yield l) #[] #[], .pointer (some ⟨pb, 0, none⟩), .pointer (some ⟨W.heap.size, 0, none⟩), .pointer (some ⟨W.heap.size + 1 + 1, 0, none⟩), x.1, undef, .slice (some ⟨W.heap.size + 1, 0, none⟩) 0 64, .slice A ps.length cap, .func (.func 99) #[] #[.pointer (some ⟨W.heap.size + 1 + 1 + 1, 0, none⟩)], x.1, undef, undef, undef, undef, undef, undef, undef, undef, undef, undef, undef, undef, undef, undef, undef, undef, undef, undef, undef, undef, undef, undef, undef, undef, undef, undef], defers := [] }) ?assign ?body ?done ?stop
  case assign =>
    intro l2 x V K hK
    gi_wp2
    exact hK
  case body =>
    rintro l2 pre2 x V hl2 ⟨pre, hpre, hJp, hBeg⟩ hG
    gi_wp2
    gi_loopw [4] (fun p V' => Going J W.heap.size l L (flat pre2) x.2 V p V') (fun p _ => lenOf p)
    case atStart =>
      refine ⟨[], x.2, pre, rfl, hG, ?_, hJp, ?_, KeepsFrom.refl _ _, KeepBut.refl _ _⟩
      · rw [List.append_nil]; exact hpre
      · rw [List.append_nil]; exact hBeg
    case round =>
      obtain ⟨q1, q2, pre', hq, hrd, hpre', hJp', hBeg', hKF, hKB⟩ := hrel
      clear hG hBeg hJp hpre pre
      have Hq := Lib.hid hq
      have Hpre := Lib.hid hpre'
      clear hq hpre'
      obtain ⟨Ap, capp, rfl, hn1, hn2, hcells⟩ := hrd
      have Hcells := Lib.hid hcells
      clear hcells
      unfold maxLen at hn2
      generalize hc : flat pre2 ++ q1 = c at *
      have Hc := Lib.hid hc
      clear hc
      have hk := rem_length c
      have hk64 : (rem c).length < 64 := by omega
      have Hk := Lib.hid hk
      clear hk
      by_cases hn : 0 < q2.length
      · obtain ⟨pb2, po, rfl, hpbL, hcell⟩ := Hcells.out hn
        have Hcell := Lib.hid hcell
        clear hcell
        have cb := hBeg'.2.1.cell (i := 0) (by omega)
        have fb := hBeg'.2.1.frozen 0
        have cy := hBeg'.1.cell (i := 0) (by omega)
        obtain ⟨k, hkk⟩ : ∃ k, (rem c).length = k := ⟨_, rfl⟩
        rw [hkk] at cb hk64
        have Hkk := Lib.hid hkk
        clear hkk
        obtain ⟨m, hm1, hm2, hm3, hm4, hmin⟩ : ∃ m : Nat, 1 ≤ m ∧ m ≤ q2.length ∧ k + m ≤ 64 ∧ (k + m = 64 ∨ m = q2.length) ∧ (if (64 : Int) - (k : Int) < (q2.length : Int) then (64 : Int) - (k : Int) else (q2.length : Int)) = (m : Int) := by
          by_cases h : (64 : Int) - (k : Int) < (q2.length : Int)
          · exact ⟨64 - k, by omega, by omega, by omega, by omega, by rw [if_pos h]; omega⟩
          · exact ⟨q2.length, by omega, by omega, by omega, .inr rfl, by rw [if_neg h]⟩
        gi_wp2
        clear hmin
        have i1 : (m : Int) ≤ (capp : Int) := by omega
        have i2 : (m : Int) ≤ (q2.length : Int) := by omega
        refine region_round_tail 4 (by kernel_rfl) (by kernel_rfl) (by kernel_rfl) ?_
        simp only [List.take_succ_cons, List.take_zero, List.drop_succ_cons, List.drop_zero]
        iterate 4 (refine wpStill_step (fun K hK => ?_); go_simp; (try go_bits); refine hK _ ?_; clear hK K)
        refine wpStill_nil ?_
        have hpw : pb2 < wr.heap.size := World.block_lt_of_cell? _ _ (Hcell.out 0 hn)
        have hown := hBeg'.2.2
        rw [Hkk.out] at hown
        refine wpListIn_append_fits _ rfl (.tmp 19) (.tmp 22) 25 rfl (W.heap.size + 1) 5 i0 1 Tryd.underlying25 hi hz1 (W.heap.size + 1) k 64 _ rfl hown.drew ⟨pb2, po, none⟩ m capp ((q2.take m).map fun b => .int .u8 (bN b)) rfl (by simp; omega) (cells_take hm2 Hcell.out) (by intro u hu; obtain ⟨b, _, rfl⟩ := List.mem_map.1 hu; rfl) hm3 ?_
        intro w1 hown1 hg1
        have hB1 : Below (W.heap.size) wr w1 := (Below.refl _ wr).drew.grown hg1 (by have := hBeg'.2.1.lt; show _ ≤ wr.heap.size; omega) (fun g e => by injection e with e; omega)
        have hrb : w1.rowIs (W.heap.size + 1 + 1) 25 1 (fun _ => .slice (some ⟨W.heap.size + 1, 0, none⟩) (rem c).length 64) := hBeg'.2.1.of_block (hg1.block _ hBeg'.2.1.lt (fun e => by injection e with e; omega))
        have hra : w1.rowIs W.heap.size 101 1 (fun _ => .func (.yield l) #[] #[]) := hBeg'.1.of_block (hg1.block _ hBeg'.1.lt (fun e => by injection e with e; omega))
        have hkb1 : KeepBut L wr w1 := ⟨hg1.size, fun j o hj ho _ => (hg1.block j (Array.getElem?_eq_some_iff.1 ho).1 (fun e => hj (by cases e; rw [hLe]; simp))).trans ho⟩
        have hkf1 : KeepsOthers wr w1 := ⟨hg1.size, fun j o ho hc => (hg1.block j (Array.getElem?_eq_some_iff.1 ho).1 (fun e => by
          cases e
          obtain ⟨_, hh⟩ := hown
          rcases hh with ⟨h, _⟩ | ⟨g', cap', cur, hv, _, hh, _⟩
          · cases h
          · cases hv; rw [hh] at ho; cases ho; cases hc)).trans ho⟩
        have cb1 := hrb.cell (i := 0) (by omega)
        have fb1 := hrb.frozen 0
        have hsl := slice_from (P := Tryd.prog) 25 5 Tryd.underlying25 (by kernel_rfl) ⟨pb2, po, none⟩ q2.length capp m hm2
        obtain ⟨ad, had⟩ : ∃ ad, (if capp = m then (⟨pb2, po, none⟩ : Addr) else (⟨pb2, po, none⟩ : Addr).add m) = ad := ⟨_, rfl⟩
        rw [had] at hsl
        have Had := Lib.hid had
        clear cb fb cy had
        obtain ⟨V2, hV2⟩ : ∃ V2, w1.setCell ⟨W.heap.size + 1 + 1, 0, none⟩ (.slice (some ⟨W.heap.size + 1, 0, none⟩) (k + m) 64) = V2 := ⟨_, rfl⟩
        have hlen : (rem c ++ q2.take m).length = k + m := by rw [List.length_append, Hkk.out, List.length_take]; omega
        have hbeg2 : Beg W.heap.size l V2 (rem c ++ q2.take m) := by
          rw [← hV2]
          refine ⟨hra.setOther (by simp; omega) _, (hrb.set 0 _).congr fun i hi => ?_, ?_⟩
          · obtain rfl : i = 0 := by omega
            rw [if_pos rfl, hlen]
          · rw [hlen, List.map_append]
            exact ownsRow_keep hown1 fun o _ ho => (Below.heap_setCell w1 _ _ _ (by simp)).trans ho
        have hbj : Below W.heap.size wr V2 := by rw [← hV2]; exact hB1.setCell (by simp; omega) _
        have hkb2 : KeepBut L wr V2 := by rw [← hV2]; exact hkb1.trans (KeepBut.setCell (by rw [hLe]; simp) _)
        have hkf2 : KeepsOthers wr V2 := by rw [← hV2]; exact hkf1.trans (KeepsOthers.setCell _ _ _)
        have hj2 := hJ _ _ _ hJp' hbj
        have hrd2 : RdV V2 L (.slice (some ad) (q2.length - m) (capp - m)) (q2.drop m) := by
          refine ⟨some ad, capp - m, by simp, by simp; omega, by unfold maxLen; omega, fun h0 => ?_⟩
          have hlt : m < q2.length := by simp at h0; omega
          refine ⟨pb2, po + m, by rw [← Had.out, if_neg (by omega), Addr.add_mid], hpbL, fun i hi => ?_⟩
          have hi' : m + i < q2.length := by simp at hi; omega
          have := hkb2.cell (a := ⟨pb2, po + (m + i), none⟩) hpbL (Hcell.out (m + i) hi')
          rw [Nat.add_assoc, this]
          simp [bAt]
        have Hrd2 := Lib.hid hrd2
        clear hrd2 hbj hB1 hkf1 hkb1 hrb hra hown1 hg1
        have cb2 := hbeg2.2.1.cell (i := 0) (by omega)
        have fb2 := hbeg2.2.1.frozen 0
        have cy2 := hbeg2.1.cell (i := 0) (by omega)
        rw [hlen] at cb2
        have Hlen := Lib.hid hlen
        clear hlen
        have hcq : c ++ q2.take m = flat pre2 ++ (q1 ++ q2.take m) := by rw [← Hc.out, List.append_assoc]
        have hxq : x.2 = (q1 ++ q2.take m) ++ q2.drop m := by rw [List.append_assoc, List.take_append_drop]; exact Hq.out
        have hml : (q2.take m).length = m := by rw [List.length_take]; omega
        have hck := Hk.out
        rw [Hkk.out] at hck
        have Hcq := Lib.hid hcq
        have Hxq := Lib.hid hxq
        have Hml := Lib.hid hml
        have Hck := Lib.hid hck
        clear hcq hxq hml hck
        by_cases hfull : k + m < 64
        · have hd : decide ((k : Int) + (m : Int) < 64) = true := by simp; omega
          gi_wp2
          go_roundw
          case rel =>
            obtain ⟨r1, r2⟩ := rem_less c (q2.take m) (by rw [Hml.out, ← Hck.out]; exact hfull)
            exact ⟨q1 ++ q2.take m, q2.drop m, pre', Hxq.out, Hrd2.out, by rw [← Hcq.out, r2]; exact Hpre.out, hj2, by rw [← Hcq.out, r1]; exact hbeg2, hKF.trans (hkf2.from _), hKB.trans hkb2⟩
          case measure => simp [lenOf]; omega
        · have hfull' : k + m = 64 := by omega
          have hd : decide ((k : Int) + (m : Int) < 64) = false := by simp; omega
          have hrdB : RdV V2 L0 (.slice (some ⟨W.heap.size + 1, 0, none⟩) (k + m) 64) (rem c ++ q2.take m) := by
            refine ⟨some ⟨W.heap.size + 1, 0, none⟩, 64, by rw [Hlen.out], by rw [Hlen.out]; omega, by unfold maxLen; omega, fun _ => ⟨W.heap.size + 1, 0, rfl, fun hm => by have := hLW _ hm; omega, fun i hi => ?_⟩⟩
            have hcc := hbeg2.2.2.cells (g := W.heap.size + 1) rfl i (.int .u8 (bN (bAt (rem c ++ q2.take m) i)))
            rw [Addr.add_mid] at hcc
            exact hcc (map_at _ i hi)
          obtain ⟨fn, tmps, assign, body, hy, hR⟩ := hY pre' (.slice (some ⟨W.heap.size + 1, 0, none⟩) (k + m) 64, rem c ++ q2.take m) V2 hj2 ⟨hrdB, by show (rem c ++ q2.take m).length = 64; rw [Hlen.out]; exact hfull'⟩
          clear hrdB
          have Hfull := Lib.hid hfull'
          clear hfull'
          gi_wp2
          refine ⟨rfl, RoundIn.mono (show RoundIn (Fence.wide.inRound l2) 0 _ _ _ _ _ _ _ _ from hR) ?_⟩
          obtain ⟨r1, r2⟩ := rem_full c (q2.take m) (by rw [Hml.out, ← Hck.out]; exact Hfull.out)
          have Hr1 := Lib.hid r1
          have Hr2 := Lib.hid r2
          clear r1 r2
          rintro e W5 (⟨rfl, hJ5, hk5, hf5⟩ | ⟨rfl, hJx5, hf5⟩)
          · have hbeg5 := hbeg2.keep hLW hk5
            have cb5 := hbeg5.2.1.cell (i := 0) (by omega)
            have fb5 := hbeg5.2.1.frozen 0
            rw [Hlen.out] at cb5
            clear cb2 fb2 cy2
            gi_wp2
            go_roundw
            case rel =>
              refine ⟨q1 ++ q2.take m, q2.drop m, _, Hxq.out, ?_, ?_, hJ _ _ _ hJ5 ((Below.refl _ W5).setCell (by simp; omega) _), ?_, ?_, ?_⟩
              · exact (Hrd2.out.keep (hk5.more fun k hk => by rw [hLe]; simp [hk])).keep (KeepBut.setCell (by rw [hLe]; simp) _)
              · rw [List.map_append, ← Hcq.out, Hr2.out, Hpre.out]; rfl
              · rw [← Hcq.out, Hr1.out]
                refine ⟨hbeg5.1.setOther (by simp; omega) _, (hbeg5.2.1.set 0 _).congr fun i hi => ?_, ?_⟩
                · obtain rfl : i = 0 := by omega
                  rw [if_pos rfl]; rfl
                · have := ownsRow_keep (ownsRow_none hbeg5.2.2) fun o _ ho => (Below.heap_setCell W5 ⟨W.heap.size + 1 + 1, 0, none⟩ (.slice (some ⟨W.heap.size + 1, 0, none⟩) 0 64) _ (by simp)).trans ho
                  exact this
              · exact (hKF.trans (hkf2.from _)).trans ((keepsFrom_mono hf5 (by omega)).trans ((KeepsOthers.setCell _ _ _).from _))
              · exact (hKB.trans hkb2).trans ((hk5.more fun k hk => by rw [hLe]; simp [hk]).trans (KeepBut.setCell (by rw [hLe]; simp) _))
            case measure => simp [lenOf]; omega
          · gi_wp2
            exact ⟨by rw [hs4]; exact (hKF.trans (hkf2.from _)).trans (keepsFrom_mono hf5 (by omega)), rfl, _, hJx5⟩
      · have hq0 : q2 = [] := List.eq_nil_of_length_eq_zero (by omega)
        have hd0 : decide (0 < q2.length) = false := by simp; omega
        have Hq0 := Lib.hid hq0
        clear hq0
        gi_wp2
        have hcx : flat (pre2 ++ [x]) = c := by rw [flat_snoc, Hq.out, Hq0.out, List.append_nil]; exact Hc.out
        exact ⟨by rw [hs4]; exact hKF, hKB, pre', by rw [hcx]; exact Hpre.out, hJp', by rw [hcx]; exact hBeg'⟩
  case done =>
    rintro D xs V hD hS ⟨pre, hpre, hJp, hBeg⟩ hK
    gi_wp2
    refine ⟨by simp, .inl ⟨_, _, rfl, run_takeDeferred hK, ?_⟩⟩
    refine ⟨_, results_none rfl _ _ _, ⟨_, rfl⟩, .inl ⟨pre, ?_, hJ _ _ _ hJp (below_putObj (by omega) _)⟩⟩
    have e : flat xs = flat ps ++ fillB (total ps) := by unfold flat; rw [hS]; simp
    rw [hpre, e]
  case stop =>
    rintro D c pre2 V hD _ ⟨rfl, pre, hJp⟩ hK
    gi_wp2
    refine ⟨by simp, .inl ⟨_, _, rfl, run_takeDeferred hK, ?_⟩⟩
    exact ⟨_, results_none rfl _ _ _, ⟨_, rfl⟩, .inr ⟨pre, trivial, hJx _ _ _ hJp (below_putObj (by omega) _)⟩⟩
end Go.Proofs.YthgblcpekhiphaaDoor
namespace Go.Proofs.YthgblcpekhiphaaDoor
open Go.RowKit Go.Shelf
set_option maxRecDepth 8000
attribute [local go_sem] Oper.semAt_some uF_at

theorem run_storeU {W : World} {g n : Nat} (h : RowW W g n) (f : Nat → BitVec 32) : (storeCells ⟨g, 0, none⟩ (rowA n (uF f)).toList).run Tryd.prog W = .ok () (W.setCells g 0 (rowA n (uF f)).toList) := by
  obtain ⟨t, z, r⟩ := h
  have := run_storeCells_cells (P := Tryd.prog) g 0 (rowA n (uF f)).toList 0 W (fun j hj => by simpa using (there_row r j (by rw [rowA_toList] at hj; simpa using hj)).1) (fun j hj => by simpa using (there_row r j (by rw [rowA_toList] at hj; simpa using hj)).2)
    (fun v hv => by rw [rowA_toList] at hv; obtain ⟨i, _, rfl⟩ := List.mem_map.1 hv; rfl)
  simpa using this
attribute [local go_sem] run_storeU run_storeB
/-- The state behind a block. -/
def turnF (K s : Nat → BitVec 32) (l : List UInt8) : Nat → BitVec 32 := fun i => s i + (runTo K (wS l 48) (St.of s) 64).get i
/-- The digest of a text, from a first state. -/
def shaL (K F : Nat → BitVec 32) (text : List UInt8) : Nat → UInt8 := dig ((cks (text ++ fillB text.length)).foldl (turnF K) F)
theorem rowIs_putObj {W : World} {b n l : Nat} {t : TypeId} {f : Nat → Value} (h : W.rowIs b t n f) (hne : b ≠ l) (o : Obj) : (W.putObj l o).rowIs b t n f := h.of_block (World.putObj_heap_other hne)

def SumInv (K F : Nat → BitVec 32) (w : World) (pre : List (Value × List UInt8)) (V : World) : Prop :=
  V.rowIs (w.heap.size + 1) 76 8 (uF ((pre.map (·.2)).foldl (turnF K) F)) ∧ V.rowIs w.heap.size 23 32 (bF fun _ => 0) ∧ Below w.heap.size w V
set_option maxHeartbeats 2000000 in
theorem Sum_any (K F : Nat → BitVec 32) (pv : Value) (ps : List (Value × List UInt8)) (w : World) (h1 : 1 < w.heap.size)
    (hK : ∀ i, i < 64 → w.cell? ⟨1, i, none⟩ = some (.int .u32 (uN (K i)))) (hF : ∀ i, i < 8 → w.cell? ⟨0, i, none⟩ = some (.int .u32 (uN (F i))))
    (hps : PartsAt w [] pv ps) (ht : total ps ≤ 4611686018427387904) :
    Calls Tryd.prog 69 #[pv] w fun e w' => e = .returned (.agg (rowA 32 (bF (shaL K F (flat ps))))) ∧ Below w.heap.size w w' := by
  have HK := Lib.hid hK
  have Hps := Lib.hid hps
  obtain ⟨A, cap, rfl, _⟩ := hps
  have f0 := hF 0 (by omega)
  have f1 := hF 1 (by omega)
  have f2 := hF 2 (by omega)
  have f3 := hF 3 (by omega)
  have f4 := hF 4 (by omega)
  have f5 := hF 5 (by omega)
  have f6 := hF 6 (by omega)
  have f7 := hF 7 (by omega)
  have h0 : 0 < w.heap.size := by omega
  have h01 : 0 < w.heap.size + 1 := by omega
  clear hK hF
  refine (callsIn_wide (n := 0)).1 ?_
  refine callsIn_of_wp_marks Tryd.func69 rfl trivial ?_ rfl
  simp only [Tryd.ntmps69, List.size_toArray, List.length_cons, List.length_nil, Nat.reduceAdd, Nat.reduceSub, Array.replicate_succ, Array.replicate_zero, List.push_toArray, List.append_toArray, List.nil_append, List.cons_append]
  gi_wp2_with fail
  refine ⟨trivial, rfl, (callsIn_wide.2 (blocks_any A ps.length cap _)).mono ?_⟩
  rintro e W3 ⟨rfl, hW3⟩
  clear f0 f1 f2 f3 f4 f5 f6 f7
  have hW3' : ((w.alloc (.cells (rowA 32 (bF fun _ => 0)) 23)).alloc (.cells (rowA 8 (uF F)) 76)).alloc (.cells #[.slice A ps.length cap] 50) = W3 := hW3
  clear hW3
  have bA : W3.rowIs w.heap.size 23 32 (bF fun _ => 0) := by
    rw [← hW3']; exact ((rowIs_box w 23 32 (bF fun _ => 0)).alloc _).alloc _
  have bB : W3.rowIs (w.heap.size + 1) 76 8 (uF F) := by
    rw [← hW3']
    have := (rowIs_box (w.alloc (.cells (rowA 32 (bF fun _ => 0)) 23)) 76 8 (uF F)).alloc (.cells #[.slice A ps.length cap] 50)
    rwa [World.size_alloc] at this
  have bC : W3.rowIs (w.heap.size + 1 + 1) 50 1 (fun _ => .slice A ps.length cap) := by
    rw [← hW3']
    have := rowIs_box ((w.alloc (.cells (rowA 32 (bF fun _ => 0)) 23)).alloc (.cells (rowA 8 (uF F)) 76)) 50 1 (fun _ => .slice A ps.length cap)
    rwa [World.size_alloc, World.size_alloc] at this
  have hB3 : Below w.heap.size w W3 := by
    rw [← hW3']; exact (((Below.refl _ w).alloc (Nat.le_refl _) _).alloc (by simp) _).alloc (by simp; omega) _
  have hs3 : W3.heap.size = w.heap.size + 1 + 1 + 1 := by rw [← hW3']; simp
  clear hW3'
  have hp3 : PartsAt W3 [w.heap.size + 1] (.slice A ps.length cap) ps := (Hps.out.more (fun k hk _ => by simp; omega)).keep (KeepBut.below hB3)
  have seq := blocks1_seq [w.heap.size + 1] (w.heap.size + 1 + 1) (by simp) (.slice A ps.length cap) ps W3 (fun k hk => by simp at hk; omega) (bC.cell (by omega)) hp3 ht
  clear bC hp3 Hps
  gi_wp2_with fail
  refine range_law (n := 0) (gf := 95) (lb := #[.pointer (some ⟨w.heap.size + 1 + 1, 0, none⟩)]) rfl (enters_of Tryd.func95 (by kernel_rfl) rfl) seq (Below.refl _ _) KeepBut.trans (fun V k o o' _ h hc => KeepBut.putObj h hc)
    (fun _ x V k o o' _ h hc hG => ⟨hG.1.keep (KeepBut.putObj h hc), hG.2⟩) (fun _ => rfl)
    (SumInv K F w) (fun _ _ _ => False)
    (fun pre A B h hb => ⟨rowIs_below h.1 hb (by omega), rowIs_below h.2.1 hb (by omega), h.2.2.trans (hb.mono (by omega))⟩)
    (fun _ _ _ _ h _ => h)
    ⟨bB, bA, hB3⟩
    (fun x => { tmps := #[.slice A ps.length cap, undef, .pointer (some ⟨w.heap.size, 0, none⟩), .pointer (some ⟨w.heap.size + 1, 0, none⟩), x.1, .agg #[.int .u32 (uN (F 0)), .int .u32 (uN (F 1)), .int .u32 (uN (F 2)), .int .u32 (uN (F 3)), .int .u32 (uN (F 4)), .int .u32 (uN (F 5)), .int .u32 (uN (F 6)), .int .u32 (uN (F 7))], .slice A ps.length cap, .func (.func 95) #[] #[.pointer (some ⟨w.heap.size + 1 + 1, 0, none⟩)], x.1, undef, undef, undef, undef, undef], defers := [] }) ?assign ?body ?done ?stop
  case assign =>
    intro l2 x V K hK
    gi_wp2
    exact hK
  case body =>
    rintro l2 pre x V hl2 ⟨hH, hZ, hBw⟩ ⟨hrd, h64⟩
    obtain ⟨Ax, capx, hx1, hx2, hx3, hx4⟩ := hrd
    rw [h64] at hx1 hx2 hx4
    obtain ⟨b, o, rfl, _, hcell⟩ := hx4 (by omega)
    rw [hx1]
    have hbV : b < V.heap.size := World.block_lt_of_cell? _ _ (hcell 0 (by omega))
    obtain ⟨s, hs⟩ : ∃ s, (pre.map (·.2)).foldl (turnF K) F = s := ⟨_, rfl⟩
    rw [hs] at hH
    have c0 := hH.cell (i := 0) (by omega)
    have c1 := hH.cell (i := 1) (by omega)
    have c2 := hH.cell (i := 2) (by omega)
    have c3 := hH.cell (i := 3) (by omega)
    have c4 := hH.cell (i := 4) (by omega)
    have c5 := hH.cell (i := 5) (by omega)
    have c6 := hH.cell (i := 6) (by omega)
    have c7 := hH.cell (i := 7) (by omega)
    have Hs := Lib.hid hs
    have Hx := Lib.hid hx1
    have Hcell := Lib.hid hcell
    have H64 := Lib.hid h64
    clear hs hx1 hcell h64 hx4
    gi_wp2_with fail
    have hT := CallsIn.inRound (F := Fence.wide) (n := 0) l2 (callsIn_wide.2 (Turn_any K s x.2 b o capx hx2 hx3 V hbV (by have := hBw.size; omega) (fun i hi => (hBw.cell (p := ⟨1, i, none⟩) h1).trans (HK.out i hi)) Hcell.out))
    refine ⟨trivial, rfl, hT.mono ?_⟩
    clear hT
    rintro e w2 ⟨rfl, hB2⟩
    have r2 := rowIs_below hH hB2 hH.lt
    have z2 := rowIs_below hZ hB2 hZ.lt
    have rw2 : RowW w2 (w.heap.size + 1) 8 := ⟨_, _, r2⟩
    clear c0 c1 c2 c3 c4 c5 c6 c7
    gi_wp2
    refine ⟨((keepsOthers_below hB2).trans (keepsOthers_setCells _ _ _ _)).from _, (KeepBut.below hB2).trans (KeepBut.setCells (by simp) _ _ _), ?_, rowIs_setOther z2 (by omega) _ _, ?_⟩
    · rw [List.map_append, List.foldl_append, Hs.out]
      exact rowIs_setAll r2 _
    · exact below_setCells _ (by omega) _ _ _ (hBw.trans (hB2.mono hBw.size))
  case done =>
    rintro D xs V hD hS ⟨hH, hZ, hBw⟩ hK
    obtain ⟨s, hs⟩ : ∃ s, (xs.map (·.2)).foldl (turnF K) F = s := ⟨_, rfl⟩
    rw [hs] at hH
    have c0 := hH.cell (i := 0) (by omega)
    have c1 := hH.cell (i := 1) (by omega)
    have c2 := hH.cell (i := 2) (by omega)
    have c3 := hH.cell (i := 3) (by omega)
    have c4 := hH.cell (i := 4) (by omega)
    have c5 := hH.cell (i := 5) (by omega)
    have c6 := hH.cell (i := 6) (by omega)
    have c7 := hH.cell (i := 7) (by omega)
    have Hs := Lib.hid hs
    have HS := Lib.hid hS
    have HKD := Lib.hid hK
    clear hs hS hK
    gi_wp2_with fail
    refine ⟨trivial, rfl, (callsIn_wide.2 (digest_any s V)).mono ?_⟩
    rintro e w2 ⟨rfl, hB2⟩
    have z2 := rowIs_below hZ hB2 hZ.lt
    have rw2 : RowW w2 w.heap.size 32 := ⟨_, _, z2⟩
    clear c0 c1 c2 c3 c4 c5 c6 c7
    gi_wp2
    have hK2 : (w2.setCells w.heap.size 0 (rowA 32 (bF (dig s))).toList).heap[D]? = some (.deferred (some [])) := (keepsOthers_setCells _ _ _ _).same D _ ((keepsOthers_below hB2).same D _ HKD.out rfl) rfl
    refine ⟨by simp, .inl ⟨_, _, rfl, run_takeDeferred hK2, ?_⟩⟩
    refine ⟨_, results_row rfl _ rfl (rowIs_putObj (rowIs_setAll z2 (bF (dig s))) (by omega) _) Tryd.underlying23 info31, ?_, ?_⟩
    · rw [← Hs.out, HS.out, shaL, flat_length]
    · exact (below_setCells _ (Nat.le_refl _) _ _ _ (hBw.trans (hB2.mono hBw.size))).trans (below_putObj (by omega) _)
  case stop =>
    rintro D c pre2 V hD _ h hK
    exact h.elim
end Go.Proofs.YthgblcpekhiphaaDoor
namespace Go.Proofs.YthgblcpekhiphaaDoor
set_option maxRecDepth 8000
def kTab : List Nat := [1116352408, 1899447441, 3049323471, 3921009573, 961987163, 1508970993, 2453635748, 2870763221, 3624381080, 310598401, 607225278, 1426881987, 1925078388, 2162078206, 2614888103, 3248222580, 3835390401, 4022224774, 264347078, 604807628, 770255983, 1249150122, 1555081692, 1996064986, 2554220882, 2821834349, 2952996808, 3210313671, 3336571891, 3584528711, 113926993, 338241895, 666307205, 773529912, 1294757372, 1396182291, 1695183700, 1986661051, 2177026350, 2456956037, 2730485921, 2820302411, 3259730800, 3345764771, 3516065817, 3600352804, 4094571909, 275423344, 430227734, 506948616, 659060556, 883997877, 958139571, 1322822218, 1537002063, 1747873779, 1955562222, 2024104815, 2227730452, 2361852424, 2428436474, 2756734187, 3204031479, 3329325298]
def fTab : List Nat := [1779033703, 3144134277, 1013904242, 2773480762, 1359893119, 2600822924, 528734635, 1541459225]
def Kc (i : Nat) : BitVec 32 := BitVec.ofNat 32 (kTab.getD i 0)
def Fc (i : Nat) : BitVec 32 := BitVec.ofNat 32 (fTab.getD i 0)
open Go.RowKit
/-- The two tables lie as the program's text lays them. -/
structure Tables (w : World) : Prop where
  size : 1 < w.heap.size
  k : ∀ i, i < 64 → w.cell? ⟨1, i, none⟩ = some (.int .u32 (uN (Kc i)))
  f : ∀ i, i < 8 → w.cell? ⟨0, i, none⟩ = some (.int .u32 (uN (Fc i)))
theorem Tables.below {w w' : World} (h : Tables w) (hb : Below w.heap.size w w') : Tables w' :=
  ⟨by have := h.size; have := hb.size; omega, fun i hi => (hb.cell (p := ⟨1, i, none⟩) h.size).trans (h.k i hi), fun i hi => (hb.cell (p := ⟨0, i, none⟩) (by have := h.size; show 0 < _; omega)).trans (h.f i hi)⟩
theorem Sum_c (pv : Value) (ps : List (Value × List UInt8)) (w : World) (hT : Tables w) (hps : PartsAt w [] pv ps) (ht : total ps ≤ 4611686018427387904) :
    Calls Tryd.prog 69 #[pv] w fun e w' => e = .returned (.agg (rowA 32 (bF (shaL Kc Fc (flat ps))))) ∧ Below w.heap.size w w' :=
  Sum_any Kc Fc pv ps w hT.size hT.k hT.f hps ht
end Go.Proofs.YthgblcpekhiphaaDoor
/- What a region that makes new memory alone leaves of the tables. -/
namespace Go.Proofs.YthgblcpekhiphaaDoor
open Go Go.RowKit
set_option maxRecDepth 8000
theorem NewT.tables {w w' : World} (h : NewT w w') (hT : Tables w) : Tables w' := hT.below h
end Go.Proofs.YthgblcpekhiphaaDoor
/- The contract of Sum. -/
namespace Go.Proofs.YthgblcpekhiphaaDoor
open Go Go.RowKit
set_option maxRecDepth 8000
/-- The digest of parts. -/
theorem Sum_cv (pv : Value) (ls : List (List UInt8)) (D : Nat → UInt8) (w : World) (hT : Tables w) (hp : Parts w pv ls) (ht : ls.flatten.length ≤ 4611686018427387904) (hD : shaL Kc Fc ls.flatten = D) : Cv 69 #[pv] w (.eq (.agg (rowA 32 (bF D)))) := by
  obtain ⟨ps, hp, rfl⟩ := hp
  have e : (ps.map (·.2)).flatten = flat ps := rfl
  rw [e] at ht hD
  rw [← hD]
  exact Cv.of_eq (Sum_c pv ps w hT hp (by rw [← flat_length]; exact ht))
end Go.Proofs.YthgblcpekhiphaaDoor
/- Numbers of 64 bits that hold numbers of 32, as the reference computes; and the reference's turns and shifts. -/
namespace Go.Proofs.YthgblcpekhiphaaDoor
open Go.RowKit
set_option maxRecDepth 8000

theorem wrap_u64 (n : Int) : IntKind.u64.wrap n = n % 18446744073709551616 := by simp [IntKind.wrap, IntKind.bits, IntKind.signed]
theorem wrap64_uN (x : BitVec 32) : IntKind.u64.wrap (uN x) = uN x := by rw [wrap_u64]; have := uN_lt x; omega
theorem or64 (a b : Nat) (ha : a < 2 ^ 64) (hb : b < 2 ^ 64) : bits .or .u64 (a : Int) (b : Int) = ((a ||| b : Nat) : Int) := by
  show IntKind.u64.wrap (((BitVec.ofInt 64 (a : Int) ||| BitVec.ofInt 64 (b : Int)).toNat : Nat) : Int) = _
  rw [BitVec.ofInt_natCast, BitVec.ofInt_natCast, BitVec.toNat_or, BitVec.toNat_ofNat, BitVec.toNat_ofNat, Nat.mod_eq_of_lt ha, Nat.mod_eq_of_lt hb, wrap_u64]
  have := Nat.or_lt_two_pow ha hb
  omega
theorem xor64 (a b : Nat) (ha : a < 2 ^ 64) (hb : b < 2 ^ 64) : bits .xor .u64 (a : Int) (b : Int) = ((a ^^^ b : Nat) : Int) := by
  show IntKind.u64.wrap (((BitVec.ofInt 64 (a : Int) ^^^ BitVec.ofInt 64 (b : Int)).toNat : Nat) : Int) = _
  rw [BitVec.ofInt_natCast, BitVec.ofInt_natCast, BitVec.toNat_xor, BitVec.toNat_ofNat, BitVec.toNat_ofNat, Nat.mod_eq_of_lt ha, Nat.mod_eq_of_lt hb, wrap_u64]
  have := Nat.xor_lt_two_pow ha hb
  omega
theorem and64 (a b : Nat) (ha : a < 2 ^ 64) (hb : b < 2 ^ 64) : bits .and .u64 (a : Int) (b : Int) = ((a &&& b : Nat) : Int) := by
  show IntKind.u64.wrap (((BitVec.ofInt 64 (a : Int) &&& BitVec.ofInt 64 (b : Int)).toNat : Nat) : Int) = _
  rw [BitVec.ofInt_natCast, BitVec.ofInt_natCast, BitVec.toNat_and, BitVec.toNat_ofNat, BitVec.toNat_ofNat, Nat.mod_eq_of_lt ha, Nat.mod_eq_of_lt hb, wrap_u64]
  have := Nat.and_lt_two_pow a hb
  omega
theorem lt64 (x : BitVec 32) : x.toNat < 2 ^ 64 := by omega
theorem u64_xor (x y : BitVec 32) : bits .xor .u64 (uN x) (uN y) = uN (x ^^^ y) := by
  unfold uN; rw [xor64 _ _ (lt64 x) (lt64 y), BitVec.toNat_xor]
theorem u64_and (x y : BitVec 32) : bits .and .u64 (uN x) (uN y) = uN (x &&& y) := by
  unfold uN; rw [and64 _ _ (lt64 x) (lt64 y), BitVec.toNat_and]
theorem u64_not (x : BitVec 32) : IntKind.u64.wrap ((4294967295 : Int) - uN x) = uN (~~~x) := by
  rw [wrap_u64]; unfold uN; rw [BitVec.toNat_not]; omega
/-- A sum of numbers of 32 bits, not cut. -/
def tN (l : List (BitVec 32)) : Int := ((l.map BitVec.toNat).sum : Nat)
theorem u64_add2 (a b : BitVec 32) : IntKind.u64.wrap (uN a + uN b) = tN [a, b] := by rw [wrap_u64]; simp [uN, tN]; omega
theorem u64_add3 (a b c : BitVec 32) : IntKind.u64.wrap (tN [a, b] + uN c) = tN [a, b, c] := by rw [wrap_u64]; simp [uN, tN]; omega
theorem u64_add4 (a b c d : BitVec 32) : IntKind.u64.wrap (tN [a, b, c] + uN d) = tN [a, b, c, d] := by rw [wrap_u64]; simp [uN, tN]; omega
theorem u64_add5 (a b c d e : BitVec 32) : IntKind.u64.wrap (tN [a, b, c, d] + uN e) = tN [a, b, c, d, e] := by rw [wrap_u64]; simp [uN, tN]; omega
theorem mod_t2 (a b : BitVec 32) : tN [a, b] % (4294967296 : Int) = uN (a + b) := by simp [uN, tN, BitVec.toNat_add]
theorem mod_t4 (a b c d : BitVec 32) : tN [a, b, c, d] % (4294967296 : Int) = uN (a + b + c + d) := by simp [uN, tN, BitVec.toNat_add]; omega
theorem mod_t5 (a b c d e : BitVec 32) : tN [a, b, c, d, e] % (4294967296 : Int) = uN (a + b + c + d + e) := by simp [uN, tN, BitVec.toNat_add]; omega
theorem u64_rot (x : BitVec 32) (m k : Nat) (hm : m < 32) (hk : k = 32 - m) : bits .or .u64 (uN (x >>> m)) (IntKind.u64.wrap (uN x * 2 ^ k)) % (4294967296 : Int) = uN (x.rotateRight m) := by
  have h1 : IntKind.u64.wrap (uN x * 2 ^ k) = ((x.toNat * 2 ^ k % 2 ^ 64 : Nat) : Int) := by rw [wrap_u64]; unfold uN; simp
  rw [h1]
  unfold uN
  rw [or64 _ _ (lt64 _) (Nat.mod_lt _ (by omega)), BitVec.rotateRight_def, Nat.mod_eq_of_lt hm, BitVec.toNat_or, ← hk]
  have h2 : ((x >>> m).toNat ||| x.toNat * 2 ^ k % 2 ^ 64) % 2 ^ 32 = (x >>> m).toNat ||| (x <<< k).toNat := by
    rw [Nat.or_mod_two_pow, Nat.mod_eq_of_lt (x >>> m).isLt, Nat.mod_mod_of_dvd _ (by decide), BitVec.toNat_shiftLeft, Nat.shiftLeft_eq]
  omega
theorem tN_nonneg (l : List (BitVec 32)) : 0 ≤ tN l := by unfold tN; omega
theorem tmod_t2 (a b : BitVec 32) : (tN [a, b]).tmod (4294967296 : Int) = uN (a + b) := by rw [Int.tmod_eq_emod_of_nonneg (tN_nonneg _), mod_t2]
theorem tmod_t4 (a b c d : BitVec 32) : (tN [a, b, c, d]).tmod (4294967296 : Int) = uN (a + b + c + d) := by rw [Int.tmod_eq_emod_of_nonneg (tN_nonneg _), mod_t4]
theorem tmod_t5 (a b c d e : BitVec 32) : (tN [a, b, c, d, e]).tmod (4294967296 : Int) = uN (a + b + c + d + e) := by rw [Int.tmod_eq_emod_of_nonneg (tN_nonneg _), mod_t5]
theorem u64_rott (x : BitVec 32) (m k : Nat) (hm : m < 32) (hk : k = 32 - m) : (bits .or .u64 (uN (x >>> m)) (IntKind.u64.wrap (uN x * 2 ^ k))).tmod (4294967296 : Int) = uN (x.rotateRight m) := by
  have h1 : IntKind.u64.wrap (uN x * 2 ^ k) = ((x.toNat * 2 ^ k % 2 ^ 64 : Nat) : Int) := by rw [wrap_u64]; unfold uN; simp
  have h0 : 0 ≤ bits .or .u64 (uN (x >>> m)) (IntKind.u64.wrap (uN x * 2 ^ k)) := by
    rw [h1]; unfold uN; rw [or64 _ _ (lt64 _) (Nat.mod_lt _ (by omega))]; omega
  rw [Int.tmod_eq_emod_of_nonneg h0, u64_rot x m k hm hk]
attribute [local go_sem] u32_shr wrap64_uN
set_option maxHeartbeats 400000 in
theorem right_any (x : BitVec 32) (n : Int) (hn : 0 < n) (hn2 : n < 32) (w : World) :
    Calls Tryd.prog 87 #[.int .u64 (uN x), .int .i64 n] w fun e w' => e = .returned (.int .u64 (uN (x.rotateRight n.toNat))) ∧ w = w' := by
  obtain ⟨m, rfl⟩ := Int.eq_ofNat_of_zero_le (Int.le_of_lt hn)
  rw [Int.toNat_natCast]
  have e32 : (32 : Int) - (m : Int) = ((32 - m : Nat) : Int) := by omega
  obtain ⟨k, hk⟩ : ∃ k, k = 32 - m := ⟨_, rfl⟩
  rw [← hk] at e32
  have hr := u64_rott x m k (by omega) hk
  have hk1 : k < 32 := by omega
  have Hk := Lib.hid hk
  clear hk
  go_enter Tryd.func87, Tryd.ntmps87
  go_wp2
  go_ret
  exact ⟨rfl, rfl⟩
set_option maxHeartbeats 400000 in
theorem shift_any (x : BitVec 32) (n : Int) (hn : 0 < n) (hn2 : n < 32) (w : World) :
    Calls Tryd.prog 88 #[.int .u64 (uN x), .int .i64 n] w fun e w' => e = .returned (.int .u64 (uN (x >>> n.toNat))) ∧ w = w' := by
  obtain ⟨m, rfl⟩ := Int.eq_ofNat_of_zero_le (Int.le_of_lt hn)
  rw [Int.toNat_natCast]
  go_enter Tryd.func88, Tryd.ntmps88
  go_wp2
  go_ret
  exact ⟨rfl, rfl⟩
end Go.Proofs.YthgblcpekhiphaaDoor
/- Package mac's small functions: numbers as bytes, the key's block, its masks: what each call returns, and that it makes new memory alone. -/
namespace Go.Proofs.YthgblcpekhiphaaDoor
open Go Go.RowKit
set_option maxRecDepth 8000

/-- The lowest s bytes of a number, the highest first. -/
def hiB (n s i : Nat) : UInt8 := UInt8.ofNat (n / 2 ^ (8 * (s - 1 - i)))
def hiL (n s : Nat) : List UInt8 := (List.range s).map (hiB n s)
theorem hiL_length (n s : Nat) : (hiL n s).length = s := by simp [hiL]
theorem hiB_eq (n s i : Nat) : IntKind.u8.wrap ((n : Int) / 2 ^ (8 * (s - 1 - i))) = bN (hiB n s i) := by
  rw [wrap_u8, hiB, bN, UInt8.toNat_ofNat']
  have h2 : ((2 : Int) ^ (8 * (s - 1 - i))) = ((2 ^ (8 * (s - 1 - i)) : Nat) : Int) := by simp
  rw [h2, ← Int.natCast_ediv]
  omega
set_option maxHeartbeats 1000000 in
theorem hiF_any (n s : Nat) (hs : 1 ≤ s) (hs2 : s ≤ 8) (w : World) :
    Cv 86 #[.int .u64 (n : Int), .int .i64 (s : Int)] w (svRdN w (hiL n s)) := by
  unfold Cv
  obtain ⟨i0, hi, hz0, hz1, hz2⟩ := info_parts info5
  have hmk : ∀ W : World, (Instr.makeSlice 25 (.int .i64 (s : Int)) (.int .i64 (s : Int))).run Tryd.prog W = .ok (.slice (some ⟨W.heap.size, 0, none⟩) s s) (W.alloc (.cells (rowA s (bF fun _ => 0)) 5)) := make_bytes i0 hi hz0 hz1 hz2 s (by omega)
  have HB := Lib.hid (hiB_eq n s)
  clear hi hz0 hz1 hz2
  go_enter Tryd.func86, Tryd.ntmps86
  go_wp2
  have r0 := rowIs_box w 5 s (bF fun _ => 0)
  have hB : Below w.heap.size w (w.alloc (.cells (rowA s (bF fun _ => 0)) 5)) := (Below.refl _ w).alloc (Nat.le_refl _) _
  generalize w.alloc (.cells (rowA s (bF fun _ => 0)) 5) = W0 at r0 hB ⊢
  clear hmk
  go_loopw [11] (fun i wr => ∃ k : Nat, k ≤ s ∧ i = .int .i64 k ∧ wr.rowIs w.heap.size 5 s (bF (putTo (hiB n s) k)) ∧ Below w.heap.size w wr) (fun i _ => s - (intOf i).toNat)
  case atStart => exact ⟨0, by omega, rfl, r0.congr fun i _ => by simp [bF, putTo], hB⟩
  case round =>
    obtain ⟨k, hk, rfl, q0, qB⟩ := hrel
    clear r0 hB
    by_cases hlt : k < s
    · have c0 := q0.cell (i := k) hlt
      have f0 := q0.frozen k
      have e8 : ((8 : Int) * ((s : Int) - 1 - (k : Int))).toNat = 8 * (s - 1 - k) := by omega
      have hb8 := HB.out k
      go_wp2
      go_roundw
      case rel => exact ⟨k + 1, by omega, by go_num, (q0.set k _).congr fun i _ => putTo_set _ k i, qB.setCell (by simp) _⟩
      case measure => simp [intOf]; omega
    · obtain rfl : k = s := by omega
      go_wp2
      go_ret
      refine ⟨_, rfl, qB, fun L hL => ?_⟩
      have := rd_row (L := L) q0 (fun hm => by have := hL _ hm; omega) (by omega)
      have e : (List.range k).map (putTo (hiB n k) k) = hiL n k := List.map_congr_left fun i hi => by simp at hi; simp [putTo, hi]
      rw [e] at this
      exact this
theorem hiF_4 (n : Nat) (w : World) : Cv 86 #[.int .u64 (n : Int), .int .i64 4] w (svRdN w (hiL n 4)) := hiF_any n 4 (by omega) (by omega) w
end Go.Proofs.YthgblcpekhiphaaDoor
/- Package mac: slices of slices that are put together piece by piece: each piece reads as bytes that no append turns. -/
namespace Go.Proofs.YthgblcpekhiphaaDoor
open Go Go.RowKit
set_option maxRecDepth 8000

/-- Pieces: a row of slices of the call's own (from base on), each of which reads as its bytes outside that row. -/
def Pcs (W : World) (base : Nat) (v : Value) (ls : List (List UInt8)) : Prop :=
  ∃ ps : List (Value × List UInt8), ps.map (·.2) = ls ∧ W.ownsRow base 25 1 v ps.length (ps.map (·.1)) ∧ ∀ x ∈ ps, RdV W v.ownBlock.toList x.1 x.2
theorem Pcs.own_lt {W : World} {base : Nat} {v : Value} {ls : List (List UInt8)} (h : Pcs W base v ls) (k : Nat) (hk : v.ownBlock = some k) : k < W.heap.size ∧ base ≤ k := by
  obtain ⟨ps, _, ho, _⟩ := h
  exact ⟨(ho.lt k hk).2, (ho.lt k hk).1⟩
theorem Pcs.new {W W' : World} {base : Nat} {v : Value} {ls : List (List UInt8)} (h : Pcs W base v ls) (hN : NewT W W') : Pcs W' base v ls := by
  have hlt := h.own_lt
  obtain ⟨ps, h1, h2, h3⟩ := h
  refine ⟨ps, h1, ?_, fun x hx => hN.rd (h3 x hx)⟩
  obtain ⟨a, b⟩ := h2
  refine ⟨a, ?_⟩
  rcases b with b | ⟨g, cap, cur, rfl, hb, hg, r⟩
  · exact .inl b
  · exact .inr ⟨g, cap, cur, rfl, hb, (hN.out.block g (hlt g rfl).1).trans hg, r⟩
theorem Pcs.parts {W : World} {base : Nat} {v : Value} {ls : List (List UInt8)} (h : Pcs W base v ls) : Parts W v ls := by
  obtain ⟨ps, h1, h2, h3⟩ := h
  refine ⟨ps, ?_, h1⟩
  rcases h2.2 with ⟨rfl, h0⟩ | ⟨g, cap, cur, rfl, _, _, hnc, hcm, _, _⟩
  · have : ps = [] := List.eq_nil_of_length_eq_zero h0
    subst this
    exact ⟨none, 0, rfl, Nat.le_refl _, by unfold maxLen; omega, fun h => absurd h (by simp), fun x hx => by simp at hx⟩
  · refine ⟨some ⟨g, 0, none⟩, cap, rfl, hnc, hcm, fun _ => ⟨g, 0, rfl, by simp, fun i x hx => ?_⟩, fun x hx => (h3 x hx).less (by simp)⟩
    have hc := h2.cells (g := g) rfl i x.1 (by rw [List.getElem?_map, hx]; rfl)
    rwa [Addr.add_mid] at hc
theorem info24 : (Tryd.prog.info? 25).map (fun i => (i.zero, i.size, i.bytes)) = some (some (.slice none 0 0), 1, 24) := by kernel_rfl
/-- New pieces are put behind. -/
theorem run_append_pcs {W : World} {base : Nat} {v : Value} {ls : List (List UInt8)} (hp : Pcs W base v ls) (hbase : base ≤ W.heap.size) (us : List (Value × List UInt8)) (hu : ∀ x ∈ us, RdV W v.ownBlock.toList x.1 x.2)
    (s c : Nat) (hs : ∀ j x, us[j]? = some x → W.cell? ⟨s, j, none⟩ = some x.1) (hlen : ls.length + us.length ≤ 1000000) (ty : TypeId) :
    ∃ v' w', (Builtin.append_ #[50, 50] ty #[v, .slice (some ⟨s, 0, none⟩) us.length c]).run Tryd.prog W = .ok v' w' ∧ Pcs w' base v' (ls ++ us.map (·.2)) ∧ W.grownBy w' v.ownBlock := by
  obtain ⟨ps, h1, h2, h3⟩ := hp
  have hpl : ps.length = ls.length := by rw [← h1]; simp
  obtain ⟨i0, hi, hz0, hz1, hz2⟩ := info_parts info24
  obtain ⟨v', w', hrun, hown, hgr, _, hat⟩ := run_append_own_at (P := Tryd.prog) (w := W) base 50 ty 25 i0 _ 1 24 Tryd.underlying50 hi hz0 hz1 hz2 rfl (by omega) v ps.length (ps.map (·.1)) h2
    ⟨s, 0, none⟩ us.length c (us.map (·.1)) (by simp) (fun j u hj => by
      rw [Addr.add_mid, Nat.zero_add]
      rw [List.getElem?_map] at hj
      cases hx : us[j]? with
      | none => rw [hx] at hj; simp at hj
      | some x => rw [hx] at hj; simp at hj; subst hj; exact hs j x hx)
    (fun u hm => by
      obtain ⟨x, hx, rfl⟩ := List.mem_map.1 hm
      obtain ⟨A, cap, hv, _⟩ := hu x hx
      rw [hv]; rfl) (by unfold maxLen; omega) (by omega) hbase
  refine ⟨v', w', hrun, ⟨ps ++ us, by rw [List.map_append, h1], by rw [List.length_append, List.map_append]; exact hown, fun x hx => ?_⟩, hgr⟩
  have hx0 : RdV W v.ownBlock.toList x.1 x.2 := by
    rcases List.mem_append.1 hx with h | h
    · exact h3 x h
    · exact hu x h
  rcases hat with e | e
  · rw [e]; exact hx0.keep (keepBut_grown hgr fun k hk => by simp [hk])
  · rw [e]
    have hx1 : RdV W (W.heap.size :: v.ownBlock.toList) x.1 x.2 := hx0.more fun k hk hn hm => by
      rcases List.mem_cons.1 hm with rfl | h
      · omega
      · exact hn h
    exact (hx1.keep (keepBut_grown hgr fun k hk => by simp [hk])).less (by simp)
theorem Pcs.below {W w' : World} {base : Nat} {v : Value} {ls : List (List UInt8)} (h : Pcs W base v ls) (hg : W.grownBy w' v.ownBlock) (hb : base ≤ W.heap.size) : Below base W w' :=
  (Below.refl base W).grown hg hb (fun k hk => (h.own_lt k hk).2)
end Go.Proofs.YthgblcpekhiphaaDoor
/- Package mac: parts behind their lengths, words as bytes, and the texts that are put together of them. -/
namespace Go.Proofs.YthgblcpekhiphaaDoor
open Go Go.RowKit
set_option maxRecDepth 8000

/-- A number of 64 bits, as it lies in memory (two's complement). -/
def wN (n : Int) : Nat := (n % 18446744073709551616).toNat
theorem wN_eq (n : Int) : IntKind.u64.wrap n = (wN n : Int) := by rw [wrap_u64, wN]; omega
theorem wN_nat (n : Nat) (h : n < 18446744073709551616) : wN (n : Int) = n := by unfold wN; omega
set_option maxHeartbeats 1000000 in
theorem countedPart_any (v u : Value) (base : Nat) (ls : List (List UInt8)) (l : List UInt8) (w : World) (hp : Pcs w base v ls) (hb : base ≤ w.heap.size) (hu : RdV w v.ownBlock.toList u l) (hlen : ls.length ≤ 900000) :
    Calls Tryd.prog 71 #[v, u] w fun e w' => ∃ v', e = .returned v' ∧ Pcs w' base v' (ls ++ [hiL l.length 4, l]) ∧ Below base w w' := by
  obtain ⟨A, c, rfl, hlc, hcm, h0⟩ := hu
  have hu : RdV w v.ownBlock.toList (.slice A l.length c) l := ⟨A, c, rfl, hlc, hcm, h0⟩
  have hcm' := hcm
  unfold maxLen at hcm'
  have hw : IntKind.u64.wrap (l.length : Int) = (l.length : Int) := by rw [wN_eq, wN_nat _ (by omega)]
  have Hp := Lib.hid hp
  have Hu := Lib.hid hu
  clear h0 hlc hcm hcm' hp hu
  go_enter Tryd.func71, Tryd.ntmps71
  go_upto_region 1 with fail
  refine wp_region_lit ?_
  iterate 4 (refine wpList_plain rfl (fun K hK => ?_); go_simp; refine hK _ _ ?_; clear hK K)
  refine wpList_plain rfl (fun K hK => ?_)
  refine opr_cv (hiF_4 l.length w) rfl Tryd.func86 (by kernel_rfl) (by kernel_rfl) (by simp only [List.map_toArray, List.map_cons, List.map_nil]; rfl) ?_
  intro hv w1 hN1 hnew
  refine hK _ _ ?_
  clear hK K hw
  have hr9 := hnew v.ownBlock.toList (fun k hk => (Hp.out.own_lt k (by simpa using hk)).1)
  replace Hp := Lib.hid (Hp.out.new hN1)
  replace Hu := Lib.hid (hN1.rd Hu.out)
  obtain ⟨A9, c9, rfl, h9⟩ := hr9
  have hr9 : RdV w1 v.ownBlock.toList (.slice A9 (hiL l.length 4).length c9) (hiL l.length 4) := ⟨A9, c9, rfl, h9⟩
  have Hr9 := Lib.hid hr9
  clear hr9 h9 hnew
  have hb1 : base ≤ w1.heap.size := Nat.le_trans hb hN1.out.size
  have hN := NewT.alloc w1 (.cells #[.slice A9 (hiL l.length 4).length c9, .slice A l.length c] 25)
  have hrun := run_append_pcs (Hp.out.new hN) (Nat.le_trans hb1 hN.out.size) [(.slice A9 (hiL l.length 4).length c9, hiL l.length 4), (.slice A l.length c, l)] (by simp only [List.mem_cons, List.not_mem_nil, or_false]; intro x hx; rcases hx with rfl | rfl; (exact hN.rd Hr9.out); (exact hN.rd Hu.out)) w1.heap.size 2 (fun j x hx => by
    match j, hx with
    | 0, hx => simp at hx; subst hx; rw [cell_new_fr _ _ _ _ _ _ rfl]; rfl
    | 1, hx => simp at hx; subst hx; rw [cell_new_fr _ _ _ _ _ _ rfl]; rfl) (by simp; omega) 50
  obtain ⟨v', w', hr, hp', hgr⟩ := hrun
  have hB : Below base w w' := (hN1.out.mono hb).trans (((Below.refl base w1).alloc hb1 _).trans ((Hp.out.new hN).below hgr (Nat.le_trans hb1 hN.out.size)))
  have Hp' := Lib.hid hp'
  have HB := Lib.hid hB
  clear hp' hB hgr hN Hp Hu Hr9
  simp only [List.length_cons, List.length_nil, Nat.zero_add, Nat.reduceAdd] at hr
  iterate 2 (refine wpList_plain rfl (fun K hK => ?_); go_simp; refine hK _ _ ?_; clear hK K)
  refine wpList_plain rfl (fun K hK => ?_)
  refine opr_append rfl rfl rfl hr (hK _ _ ?_)
  clear hr hK K
  refine wpList_plain rfl (fun K hK => ?_)
  refine opr_move (.inr rfl) (hK _ _ ?_)
  clear hK K
  refine wpList_nil ?_
  go_simp
  go_wp2
  go_ret
  exact ⟨v', rfl, Hp'.out, HB.out⟩
end Go.Proofs.YthgblcpekhiphaaDoor
/- Package mac: texts put together of counted pieces. -/
namespace Go.Proofs.YthgblcpekhiphaaDoor
open Go Go.RowKit
set_option maxRecDepth 8000
/-- A part behind its length. -/
def cntP (l : List UInt8) : List (List UInt8) := [hiL l.length 4, l]
theorem cnt_length (ls : List (List UInt8)) : (ls.flatMap cntP).length = 2 * ls.length := by
  induction ls with
  | nil => rfl
  | cons x ls ih => simp [cntP] at ih ⊢; omega
theorem pcs_one {w : World} {A : Option Addr} {n c : Nat} {l : List UInt8} (h : RdV w [] (.slice A n c) l) : Pcs (w.alloc (.cells #[.slice A n c] 25)) w.heap.size (.slice (some ⟨w.heap.size, 0, none⟩) 1 1) [l] := by
  refine ⟨[(.slice A n c, l)], rfl, ⟨rfl, .inr ⟨w.heap.size, 1, #[.slice A n c], rfl, Nat.le_refl _, World.alloc_heap_new _ _, Nat.le_refl _, by unfold maxLen; omega, rfl, rfl⟩⟩, fun x hx => ?_⟩
  simp at hx
  subst hx
  refine (NewT.alloc w _).rd (h.more fun k hk _ hm => ?_)
  simp [Value.ownBlock] at hm
  omega
/-- What lay there reads on beside the call's own row. -/
theorem rd_beside {w wr : World} {v u : Value} {ls : List (List UInt8)} {l : List UInt8} (h : RdV w [] u l) (hp : Pcs wr w.heap.size v ls) (hB : Below w.heap.size w wr) : RdV wr v.ownBlock.toList u l :=
  (h.more fun k hk _ hm => by have := (hp.own_lt k (by simpa using hm)).2; omega).keep (KeepBut.below hB)
set_option maxHeartbeats 1000000 in
theorem text_counted (v0 pv : Value) (l0 : List UInt8) (ls : List (List UInt8)) (w : World) (h0 : RdV w [] v0 l0) (hp : Parts w pv ls) (hlen : ls.length ≤ 100000) :
    Cv 70 #[v0, .func (.func 71) #[] #[], pv] w (svParts (l0 :: (ls).flatMap cntP)) := by
  unfold Cv
  obtain ⟨A0, c0, rfl, h00⟩ := h0
  have H0 : Hid (RdV w [] (.slice A0 l0.length c0) l0) := Lib.hid ⟨A0, c0, rfl, h00⟩
  clear h00
  obtain ⟨ps, hps, rfl⟩ := hp
  obtain ⟨A, cap, rfl, hpc, hpm, hA, hR⟩ := hps
  unfold maxLen at hpm
  obtain ⟨n, hn⟩ : ∃ n, n = ps.length := ⟨_, rfl⟩
  rw [← hn] at hpc
  have Hn : Hid (n = (ps.map (·.2)).length) := Lib.hid (by simpa using hn)
  have hlen' : n ≤ 100000 := by rw [Hn.out]; exact hlen
  have HA := Lib.hid (show 0 < n → ∃ b o, A = some ⟨b, o, none⟩ ∧ ∀ i x, ps[i]? = some x → w.cell? ⟨b, o + i, none⟩ = some x.1 from fun h => by
    obtain ⟨b, o, h1, _, h2⟩ := hA (by omega)
    exact ⟨b, o, h1, h2⟩)
  have HR := Lib.hid hR
  rw [← hn]
  have Hps := Lib.hid hn
  clear hA hR hn hlen
  go_enter Tryd.func70, Tryd.ntmps70
  go_wp2
  have p0 := pcs_one H0.out
  have hB : Below w.heap.size w (w.alloc (.cells #[.slice A0 l0.length c0] 25)) := (Below.refl _ w).alloc (Nat.le_refl _) _
  generalize w.alloc (.cells #[.slice A0 l0.length c0] 25) = W0 at p0 hB ⊢
  go_loopw [7, 14] (fun v i wr => ∃ k : Nat, k ≤ n ∧ i = .int .i64 k ∧ Pcs wr w.heap.size v (l0 :: ((ps.map (·.2)).take k).flatMap cntP) ∧ Below w.heap.size w wr) (fun _ i _ => n - (intOf i).toNat)
  case atStart => exact ⟨0, by omega, rfl, by simpa using p0, hB⟩
  case round =>
    obtain ⟨k, hk, rfl, hp, qB⟩ := hrel
    clear p0 hB
    by_cases hlt : k < n
    · obtain ⟨b, o, rfl, hcells⟩ := HA.out (by omega)
      have hx : ps[k]? = some ps[k] := List.getElem?_eq_getElem (by rw [← Hps.out]; exact hlt)
      generalize hxx : ps[k] = x at hx
      have hcell := (qB.cell (p := ⟨b, o + k, none⟩) (World.block_lt_of_cell? _ _ (hcells k x hx))).trans (hcells k x hx)
      have hrd := rd_beside (HR.out x (List.mem_of_getElem? hx)) hp qB
      have hll : (l0 :: ((ps.map (·.2)).take k).flatMap cntP).length ≤ 900000 := by
        rw [List.length_cons, cnt_length, List.length_take]; omega
      have Hext : Hid (((ps.map (·.2)).take (k + 1)).flatMap cntP = ((ps.map (·.2)).take k).flatMap cntP ++ [hiL x.2.length 4, x.2]) := Lib.hid (by
        rw [List.take_add_one, List.getElem?_map, hx]; simp [cntP])
      obtain ⟨A', c', hv', hr0⟩ := hrd
      have Hrd : Hid (RdV wr (Value.ownBlock u7).toList (.slice A' x.2.length c') x.2) := Lib.hid ⟨A', c', rfl, hr0⟩
      rw [hv'] at hcell
      have Hp := Lib.hid hp
      clear hr0 hv' hx hxx hcells hp
      go_wp2_with (go_at_call 71; refine (countedPart_any _ _ _ _ x.2 _ Hp.out qB.size Hrd.out hll).mono ?_; rintro e w2 ⟨v', rfl, hp2, hB2⟩)
      go_roundw
      case rel =>
        refine ⟨k + 1, by omega, by go_num, ?_, qB.trans hB2⟩
        have e := Hext.out
        rw [e]
        simpa using hp2
      case measure => simp [intOf]; omega
    · obtain rfl : k = n := by omega
      go_wp2
      go_ret
      refine ⟨_, rfl, qB, ?_⟩
      have := hp.parts
      rw [Hn.out, List.take_length] at this
      exact this
end Go.Proofs.YthgblcpekhiphaaDoor
/- Package mac: the digest of a domain: what Of returns. -/
namespace Go.Proofs.YthgblcpekhiphaaDoor
open Go Go.RowKit
set_option maxRecDepth 8000
/-- The low byte of a number. -/
def dB (n : Int) : UInt8 := UInt8.ofNat (n % 256).toNat
theorem dB_eq (n : Int) : IntKind.u8.wrap n = bN (dB n) := by rw [wrap_u8, dB, bN, UInt8.toNat_ofNat']; omega
theorem run_bsb1 (x : Int) (w : World) : (Instr.buildSlice 25 1 #[(0, .int .u8 x)]).run Tryd.prog w = .ok (.slice (some ⟨w.heap.size, 0, none⟩) 1 1) (w.alloc (.cells #[.int .u8 x] 5)) := by
  simp [go_sem]
theorem rd_one (b : UInt8) (w : World) : RdV (w.alloc (.cells #[.int .u8 (bN b)] 5)) [] (.slice (some ⟨w.heap.size, 0, none⟩) 1 1) [b] :=
  rdV_lit (l := [b]) (by simp) (by decide) fun i hi => by
    obtain rfl : i = 0 := by simpa using hi
    rw [cell_new_fr _ _ _ _ _ _ rfl]; rfl
/-- A new slice of one byte. -/
theorem opr_bsb1 {a : Act} {w : World} {o : Oper} {K : Act → World → Prop} {Q : Exit → Act → World → Prop} {x : Operand} {b : UInt8} (ho : o.op = .buildSlice 25 1 #[(0, x)]) (hx : a.eval x = .int .u8 (bN b)) (h : ∀ v w', NewT w w' → RdV w' [] v [b] → K (a.put o.dst v) w') : o.wp Tryd.prog a w K Q := by
  obtain ⟨dst, op, type, pos, after, guard⟩ := o
  simp only at ho
  subst ho
  exact opr_val (s := Instr.buildSlice 25 1 #[(0, a.eval x)]) (by simp [execOp]) (by rw [hx]; exact run_bsb1 _ w) (h _ _ (NewT.alloc _ _) (rd_one b w))
/-- The text of a domain and parts. -/
def ofL (n : Int) (ls : List (List UInt8)) : List UInt8 := dB n :: (ls.flatMap cntP).flatten
theorem ofL_length (n : Int) (ls : List (List UInt8)) : (ofL n ls).length = 1 + 4 * ls.length + ls.flatten.length := by
  unfold ofL
  rw [List.length_cons]
  induction ls with
  | nil => rfl
  | cons x ls ih => simp [cntP, hiL_length] at ih ⊢; omega
set_option maxHeartbeats 2000000 in
theorem Of_cv (n : Int) (pv : Value) (ls : List (List UInt8)) (D : Nat → UInt8) (w : World) (hT : Tables w) (hp : Parts w pv ls) (hlen : ls.length ≤ 100000) (htot : ls.flatten.length ≤ 1000000) (hD : shaL Kc Fc (ofL n ls) = D) :
    Cv 52 #[.int .i64 n, pv] w (.eq (.agg (rowA 32 (bF D)))) := by
  unfold Cv
  have HD := Lib.hid hD
  have HT := Lib.hid hT
  have Hp := Lib.hid hp
  have hdb := dB_eq n
  have hol := ofL_length n ls
  have Hol := Lib.hid hol
  clear hT hp hD hol
  go_enter Tryd.func52, Tryd.ntmps52
  go_upto_region 1 with fail
  have r0 := rowIs_box w 23 32 (bF fun _ => 0)
  have hB0 := NewT.alloc w (.cells (rowA 32 (bF fun _ => 0)) 23)
  change Code.wp _ _ _ _ (w.alloc (.cells (rowA 32 (bF fun _ => 0)) 23))
  generalize w.alloc (.cells (rowA 32 (bF fun _ => 0)) 23) = W0 at r0 hB0 ⊢
  replace HT := Lib.hid (hB0.tables HT.out)
  replace Hp := Lib.hid (hB0.partsL Hp.out)
  refine wp_region_seq NewT [SV.eq (.int .i64 n), SV.eq (.int .u8 (bN (dB n))), svRd [dB n], svParts ls, svParts ([dB n] :: ls.flatMap cntP), SV.eq (.agg (rowA 32 (bF D)))] [([(0, none)], none), ([(5, some 0)], none), ([(6, some 1)], none), ([(1, none)], none), ([(7, some 2), (8, some 3)], none), ([(9, some 4)], none)] 11 rfl rfl (by kernel_rfl) rfl NewT.trans (NewT.refl _) (Nat.le_of_ble_eq_true rfl) ⟨?_, ?_, ?_, ?_, ?_, ?_, trivial⟩ ?_
  · -- 0: Op.move t0
    intro a wx hT hF K hK
    obtain ⟨f0, _⟩ := hF
    have f0 : a.tmps.getD 0 undef = .int .i64 n := f0
    refine rely_wp rfl ?_
    exact opr_move (.inl rfl) (hK _ _ (NewT.refl _) f0)
  · -- 1: Op.convert 3 5 t5
    intro a wx hT hF K hK
    obtain ⟨f5, _⟩ := hF
    have f5 : a.tmps.getD 5 undef = .int .i64 n := f5
    refine rely_wp rfl ?_
    simp only [Array.getD_eq_getD_getElem?] at f5
    go_simp
    exact hK _ _ (NewT.refl _) rfl
  · -- 2: Op.buildSlice 25 1 #[(0, t6)]
    intro a wx hT hF K hK
    obtain ⟨f6, _⟩ := hF
    have f6 : a.tmps.getD 6 undef = .int .u8 (bN (dB n)) := f6
    refine rely_wp rfl ?_
    exact opr_bsb1 rfl f6 hK
  · -- 3: Op.move t1
    intro a wx hT hF K hK
    obtain ⟨f1, _⟩ := hF
    have f1 : a.tmps.getD 1 undef = pv := f1
    refine rely_wp rfl ?_
    exact opr_move (.inl rfl) (hK _ _ (NewT.refl _) (by rw [eval_tmp, f1]; exact hT.partsL Hp.out))
  · -- 4: Op.call ( value (Operand.func 70), args := #[t7, Operand.fun
    intro a wx hT hF K hK
    obtain ⟨f7, f8, _⟩ := hF
    replace f7 := show (svRd [dB n]).pred (a.tmps.getD 7 undef) wx from f7
    replace f8 := show (svParts ls).pred (a.tmps.getD 8 undef) wx from f8
    refine rely_wp rfl ?_
    exact opr_cv (text_counted _ _ [dB n] ls wx f7 f8 hlen) rfl Tryd.func70 (by kernel_rfl) (by kernel_rfl) (by simp only [List.map_toArray, List.map_cons, List.map_nil, eval_tmp, eval_func]) hK
  · -- 5: Op.call ( value (Operand.func 69), args := #[t9], argTypes :
    intro a wx hT hF K hK
    obtain ⟨f9, _⟩ := hF
    replace f9 := show (svParts ([dB n] :: ls.flatMap cntP)).pred (a.tmps.getD 9 undef) wx from f9
    refine rely_wp rfl ?_
    exact opr_cv (Sum_cv _ ([dB n] :: ls.flatMap cntP) D wx (hT.tables HT.out) f9 (by show (ofL n ls).length ≤ _; have := Hol.out; omega) (by simpa [ofL] using HD.out)) rfl Tryd.func69 (by kernel_rfl) (by kernel_rfl) (by simp only [List.map_toArray, List.map_cons, List.map_nil, eval_tmp]) hK
  · intro wx hT
    intro u h; obtain rfl := h (by simp); clear h
    intro u h; obtain rfl := h (by simp); clear h
    intro u7 h; have g7 := h (by simp); clear h; replace g7 := show (svRd [dB n]).pred u7 wx from g7
    intro u8 h; have g8 := h (by simp); clear h; replace g8 := show (svParts ls).pred u8 wx from g8
    intro u9 h; have g9 := h (by simp); clear h; replace g9 := show (svParts ([dB n] :: ls.flatMap cntP)).pred u9 wx from g9
    intro u h; obtain rfl := h (by simp); clear h
    refine relyEnd_nil rfl ?_
    simp only [Act.put, List.setIfInBounds_toArray, List.set_cons_zero, List.set_cons_succ]
    refine opr_store_new (B := w.heap.size) (W := w) info31 rfl rfl rfl (hT.row r0) (NewT.trans _ _ _ hB0 hT) (Nat.le_refl _) ?_
    intro w9 hB9 r9
    go_simp
    go_wp2
    exact bodyPost_ret (results_row rfl _ rfl r9 Tryd.underlying23 info31) rfl ⟨_, rfl, hB9, rfl⟩
end Go.Proofs.YthgblcpekhiphaaDoor
/- Records' commitments, what they are redacted, and their bytes, as package rec's functions answer them. -/
namespace Go.Proofs.YthgblcpekhiphaaDoor
open Go
set_option maxRecDepth 8000
/-- A payload's commitment. -/
@[irreducible] def cmC (salt : Nat → UInt8) (data : List UInt8) : Nat → UInt8 := shaL Kc Fc (ofL 4 [digL salt, data])
theorem cmC_eq (salt : Nat → UInt8) (data : List UInt8) : shaL Kc Fc (ofL 4 [digL salt, data]) = cmC salt data := by unfold cmC; rfl
def comC (x : Rc) : Nat → UInt8 := comR cmC x
def comB (x : Rc) : Nat → UInt8 := if (x.kind == 1 && rightB x) = true then comC x else fun _ => 0
def redactB (x : Rc) : Rc := if (x.kind == 1 && rightB x) = true then { x with gone := true, com := comC x, data := [], salt := fun _ => 0 } else x
def sealedB (x : Rc) : List UInt8 := if rightB x = true then sealedL cmC x else []
def openB (x : Rc) : List UInt8 := if rightB x = true then openL x else []
theorem right_data (x : Rc) (h : rightB x = true) : x.data.length ≤ 60 := by
  unfold rightB at h
  by_cases k1 : x.kind = 1
  · simp only [if_pos k1, Bool.and_eq_true, decide_eq_true_eq] at h
    exact h.1.2
  · simp only [if_neg k1] at h
    have hz : noBegin x = true → x.data.length ≤ 60 := fun h => by
      simp only [noBegin, Bool.and_eq_true, List.isEmpty_iff] at h
      simp [h.1.1.1.2]
    repeat' split at h
    all_goals first
      | (simp only [Bool.and_eq_true] at h; exact hz h.2)
      | cases h
theorem right_steps (x : Rc) (h : rightB x = true) : x.steps.length ≤ 6 := by
  unfold rightB at h
  by_cases k1 : x.kind = 1
  · simp only [if_pos k1, Bool.and_eq_true, inR_iff] at h
    have := h.1.1.1.2
    omega
  · simp only [if_neg k1] at h
    have hz : noBegin x = true → x.steps.length ≤ 6 := fun h => by
      simp only [noBegin, Bool.and_eq_true, List.isEmpty_iff] at h
      simp [h.1.1.1.1]
    repeat' split at h
    all_goals first
      | (simp only [Bool.and_eq_true] at h; exact hz h.2)
      | cases h
theorem redactB_right (x : Rc) (h : rightB x = true) : redactB x = redact cmC x := by
  unfold redactB redact
  by_cases k : x.kind = 1
  · rw [if_pos (by simp [k, h]), if_pos k]; rfl
  · rw [if_neg (by simp [k]), if_neg k]
end Go.Proofs.YthgblcpekhiphaaDoor
/- Fields of a struct by value and in memory: a cell, a row of cells. No program is named here. -/
namespace Go.Proofs.YthgblcpekhiphaaDoor
open Go Go.RowKit
set_option maxRecDepth 8000

section
variable {P : Program} {t : TypeId} {fs : Array Field} {f : Field} {i n : Nat}
end
/-- A part of a row. -/
theorem rangeAt_part {w : World} {b : Nat} {t : TypeId} {n : Nat} {f : Nat → Value} (h : w.rowIs b t n f) (o m : Nat) (hm : o + m ≤ n) : w.rangeAt b o (rowA m fun j => f (o + j)).toList := fun j v hv => by
  rw [rowA_toList, List.getElem?_map] at hv
  cases hj : (List.range m)[j]? with
  | none => rw [hj] at hv; simp at hv
  | some k =>
    rw [hj] at hv
    obtain ⟨hlt, hk⟩ := List.getElem?_eq_some_iff.1 hj
    simp at hlt hk
    subst hk
    simp at hv
    subst hv
    exact h.cell (by omega)
end Go.Proofs.YthgblcpekhiphaaDoor
/- A region that draws its order, whose last operations come one behind the other: the rest is gone through once, in the text's order, and the last ones then as they stand. No program is named here. -/
namespace Go.Proofs.YthgblcpekhiphaaDoor
open Go
set_option maxRecDepth 8000

section
variable {P : Program} {ops : Array Oper} {Q : Exit → Act → World → Prop} {T : World → World → Prop} {V : List (SV T)} {a0 : Act} {w0 : World} {n : Nat} {D : Deps} {init tail : List Oper}

theorem split_at (hsplit : ops.toList = init ++ tail) : ops.size = init.length + tail.length ∧ (∀ (k : Nat) (o : Oper), init[k]? = some o → ops[k]? = some o) ∧ ∀ k : Nat, ops[init.length + k]? = tail[k]? := by
  have e : ops = (init ++ tail).toArray := by rw [← hsplit]
  subst e
  refine ⟨by simp, fun k o hk => ?_, fun k => ?_⟩
  · have hlt := (List.getElem?_eq_some_iff.1 hk).1
    simp [List.getElem?_append_left hlt, hk]
  · simp [List.getElem?_append_right]
end
end Go.Proofs.YthgblcpekhiphaaDoor
/- A region in the text's order, gone through once: each operation has a condition on its value that later steps keep; beside them a relation on the world that steps on with the operations; the last operations may be left as they stand. No program is named here. -/
namespace Go.Proofs.YthgblcpekhiphaaDoor
open Go
set_option maxRecDepth 8000

def seqStep (P : Program) (Q : Exit → Act → World → Prop) (T : World → World → Prop) (V : List (SV T)) (J : Nat → World → Prop) (a0 : Act) (w0 : World) (i : Nat) (o : Oper) (dp : List (Tmp × Option Nat)) (g : Option (Tmp × Bool)) (c : SV T) : Prop :=
  ∀ (a : Act) (w : World), T w0 w → relyFacts V a0 a w dp → J i w → ∀ K : Act → World → Prop, (∀ v w', T w w' → J (i + 1) w' → c.pred v w' → K (a.put o.dst v) w') →
    if relyGuard g a then o.wp P a w K Q else K (a.put o.dst undef) w
def seqAll (P : Program) (Q : Exit → Act → World → Prop) (T : World → World → Prop) (V : List (SV T)) (J : Nat → World → Prop) (a0 : Act) (w0 : World) : Nat → List Oper → Deps → List (SV T) → Prop
  | _, [], _, _ => True
  | i, o :: r, (dp, g) :: D, c :: C => seqStep P Q T V J a0 w0 i o dp g c ∧ seqAll P Q T V J a0 w0 (i + 1) r D C
  | _, _, _, _ => False
def seqOne (ops : Array Oper) (n m : Nat) (i : Nat) (o : Oper) (dp : List (Tmp × Option Nat)) (g : Option (Tmp × Bool)) : Bool :=
  (match o.dst with | some d => decide (d < n) && (List.range m).all (fun j => decide (j = i) || relyDst ops j != some d) | none => true) &&
  (dp.all fun x => match x.2 with
    | some j => relyDst ops j == some x.1 && decide (j < i)
    | none => (List.range i).all fun j => relyDst ops j != some x.1) &&
  (match o.guard, g with
    | none, none => true
    | some (k, b), some (d, b') => b == b' && relyDst ops k == some d && decide (d < n)
    | _, _ => false)
def seqB (ops : Array Oper) (n m : Nat) : Nat → List Oper → Deps → Bool
  | _, [], _ => true
  | i, o :: r, (dp, g) :: D => seqOne ops n m i o dp g && seqB ops n m (i + 1) r D
  | _, _, _ => false
section
variable {P : Program} {ops : Array Oper} {Q : Exit → Act → World → Prop} {T : World → World → Prop} {V : List (SV T)} {J : Nat → World → Prop} {a0 : Act} {w0 : World} {n m : Nat} {D : Deps} {init tail : List Oper}
theorem seqB_at : ∀ (l : List Oper) (D : Deps) (i k : Nat) (o : Oper), seqB ops n m i l D = true → l[k]? = some o → ∃ dp g, D[k]? = some (dp, g) ∧ seqOne ops n m (i + k) o dp g = true
  | [], _, _, _, _, _, h => by simp at h
  | x :: r, [], _, _, _, h, _ => by simp [seqB] at h
  | x :: r, (dp, g) :: D, i, 0, o, h, ho => by
    simp only [seqB, Bool.and_eq_true] at h
    simp at ho
    subst ho
    exact ⟨dp, g, rfl, h.1⟩
  | x :: r, (dp, g) :: D, i, k + 1, o, h, ho => by
    simp only [seqB, Bool.and_eq_true] at h
    obtain ⟨dp', g', hD, h'⟩ := seqB_at r D (i + 1) k o h.2 (by simpa using ho)
    exact ⟨dp', g', by simpa using hD, by rw [show i + (k + 1) = i + 1 + k by omega]; exact h'⟩
theorem seqAll_at : ∀ (l : List Oper) (D : Deps) (C : List (SV T)) (i k : Nat) (o : Oper) dp g, seqAll P Q T V J a0 w0 i l D C → l[k]? = some o → D[k]? = some (dp, g) → seqStep P Q T V J a0 w0 (i + k) o dp g (C.getD k SV.any)
  | [], _, _, _, _, _, _, _, _, h, _ => by simp at h
  | x :: r, [], _, _, _, _, _, _, h, _, _ => h.elim
  | x :: r, y :: D, [], _, _, _, _, _, h, _, _ => h.elim
  | x :: r, (dp, g) :: D, c :: C, i, 0, o, dp', g', h, ho, hD => by
    simp at ho hD
    obtain ⟨rfl, rfl⟩ := hD
    subst ho
    exact h.1
  | x :: r, (dp, g) :: D, c :: C, i, k + 1, o, dp', g', h, ho, hD => by
    have := seqAll_at r D C (i + 1) k o dp' g' h.2 (by simpa using ho) (by simpa using hD)
    rw [show i + (k + 1) = i + 1 + k by omega]
    simpa using this
structure SeqInv (ops : Array Oper) (T : World → World → Prop) (V : List (SV T)) (J : Nat → World → Prop) (a0 : Act) (w0 : World) (k : Nat) (a : Act) (w : World) : Prop where
  now : T w0 w
  at_ : J k w
  slots : a.tmps.size = a0.tmps.size
  defers : a.defers = a0.defers
  new : ∀ j d, j < k → relyDst ops j = some d → (V.getD j SV.any).pred (a.tmps.getD d undef) w
  old : ∀ d, (∀ j, j < k → relyDst ops j ≠ some d) → a.tmps.getD d undef = a0.tmps.getD d undef
theorem seq_op (hn : a0.tmps.size = n) (ht : ∀ a b c : World, T a b → T b c → T a c) {i : Nat} {o : Oper} {dp : List (Tmp × Option Nat)} {g : Option (Tmp × Bool)} {a : Act} {w : World}
    (him : i < m) (ho : ops[i]? = some o) (h1 : seqOne ops n m i o dp g = true) (hstep : seqStep P Q T V J a0 w0 i o dp g (V.getD i SV.any)) (inv : SeqInv ops T V J a0 w0 i a w) :
    wpOp P ops Q i (fun a' w' => SeqInv ops T V J a0 w0 (i + 1) a' w') a w := by
  simp only [seqOne, Bool.and_eq_true] at h1
  obtain ⟨⟨hdst, hdp⟩, hg⟩ := h1
  have hfacts : relyFacts V a0 a w dp := by
    clear hstep
    induction dp with
    | nil => trivial
    | cons x r ih2 =>
      simp only [List.all_cons, Bool.and_eq_true] at hdp
      obtain ⟨hx, hr⟩ := hdp
      obtain ⟨d, j⟩ := x
      cases j with
      | some j =>
        simp only [Bool.and_eq_true, beq_iff_eq, decide_eq_true_eq] at hx
        exact ⟨inv.new j d hx.2 hx.1, ih2 hr⟩
      | none =>
        refine ⟨inv.old d fun j hj => ?_, ih2 hr⟩
        simpa using List.all_eq_true.1 hx j (List.mem_range.2 hj)
  have hguard : Region.wanted o (yielded ops a.tmps) = relyGuard g a := by
    unfold Region.wanted
    cases hgo : o.guard with
    | none =>
      rw [hgo] at hg
      cases g with
      | none => rfl
      | some x => cases hg
    | some kb =>
      obtain ⟨k, b⟩ := kb
      rw [hgo] at hg
      cases g with
      | none => cases hg
      | some x =>
        obtain ⟨d, b'⟩ := x
        simp only [Bool.and_eq_true, beq_iff_eq, decide_eq_true_eq] at hg
        obtain ⟨⟨rfl, hd⟩, hlt⟩ := hg
        have hlt' : d < a.tmps.size := by rw [inv.slots, hn]; exact hlt
        have hd' : (ops[k]?).bind (·.dst) = some d := hd
        simp only [yielded, hd', Option.bind_some, relyGuard, Array.getD_eq_getD_getElem?, Array.getElem?_eq_getElem hlt', Option.getD_some]
        cases a.tmps[d] <;> simp
        all_goals (rename_i x; cases x <;> cases b <;> rfl)
  have next : ∀ v w', T w w' → J (i + 1) w' → (V.getD i SV.any).pred v w' → SeqInv ops T V J a0 w0 (i + 1) (a.put o.dst v) w' := fun v w' hT hJ hv => by
    refine ⟨ht _ _ _ inv.now hT, hJ, by cases o.dst <;> simp [Act.put, inv.slots], by cases o.dst <;> simp [Act.put, inv.defers], fun j d hji hj => ?_, fun d hno => ?_⟩
    · by_cases hij : i = j
      · subst hij
        have hd : o.dst = some d := by simpa [relyDst, ho] using hj
        rw [hd] at hdst
        simp only [Bool.and_eq_true, decide_eq_true_eq] at hdst
        have hlt : d < a.tmps.size := by rw [inv.slots, hn]; exact hdst.1
        rw [hd]
        simpa [Act.put, hlt] using hv
      · have h3 := (V.getD j SV.any).stable _ _ _ (inv.new j d (by omega) hj) hT
        cases hod : o.dst with
        | none => exact h3
        | some d0 =>
          rw [hod] at hdst
          simp only [Bool.and_eq_true, decide_eq_true_eq] at hdst
          have h4 := List.all_eq_true.1 hdst.2 j (List.mem_range.2 (by omega))
          simp only [Bool.or_eq_true, decide_eq_true_eq, bne_iff_ne, ne_eq] at h4
          have hne : d0 ≠ d := fun e => by
            subst e
            rcases h4 with h4 | h4
            · exact hij h4.symm
            · exact h4 hj
          simpa [Act.put, Array.getElem?_setIfInBounds_ne hne] using h3
    · have hni : o.dst ≠ some d := fun hd => hno i (by omega) (by simp [relyDst, ho, hd])
      have hold := inv.old d fun j hj => hno j (by omega)
      cases hod : o.dst with
      | none => exact hold
      | some d0 =>
        have hne : d0 ≠ d := fun e => hni (by rw [hod, e])
        simpa [Act.put, Array.getElem?_setIfInBounds_ne hne] using hold
  have hs := hstep a w inv.now hfacts inv.at_ _ next
  unfold wpOp
  simp only [ho, hguard]
  split
  · rename_i hw; rw [if_pos hw] at hs; exact .inl hs
  · rename_i hw; rw [if_neg hw] at hs; exact hs
theorem wpOps_tail : ∀ (t : List Oper) (k : Nat) (a : Act) (w : World), (∀ i : Nat, ops[k + i]? = t[i]?) → wpList P ops Q t a w → wpOps P ops Q (List.range' k t.length) a w
  | [], k, a, w, _, h => by simpa [wpOps, wpList] using h
  | o :: t, k, a, w, hk, h => by
    have hi : ops[k]? = some o := by simpa using hk 0
    rw [List.length_cons, List.range'_succ, wpOps_cons]
    refine wpOp_mono (fun a' w' h' => wpOps_tail t (k + 1) a' w' (fun i => by have := hk (i + 1); rw [show k + 1 + i = k + (i + 1) by omega]; simpa using this) h') ?_
    unfold wpOp
    simp only [hi]
    simpa only [wpList] using h
theorem wpOps_seq (hsplit : ops.toList = init ++ tail) (hn : a0.tmps.size = n) (hB : seqB ops n init.length 0 init D = true) (ht : ∀ a b c : World, T a b → T b c → T a c)
    (hl : init.length ≤ V.length) (hA : seqAll P Q T V J a0 w0 0 init D V) (hE : ∀ w, T w0 w → J init.length w → relyEnd (fun _ a w => wpList P ops Q tail a w) T init V a0 w) :
    ∀ (f k : Nat) (a : Act) (w : World), k + f = init.length → SeqInv ops T V J a0 w0 k a w → wpOps P ops Q (List.range' k (f + tail.length)) a w := by
  obtain ⟨hsz, hpre, htl⟩ := split_at hsplit
  intro f
  induction f with
  | zero =>
    intro k a w hk inv
    obtain rfl : k = init.length := by omega
    rw [Nat.zero_add]
    refine wpOps_tail tail init.length a w htl ?_
    refine relyEnd_of (Q := fun _ a w => wpList P ops Q tail a w) init V a0 inv.slots.symm inv.defers.symm hl (fun d hnd => ?_) (fun k o d hk hd => ?_) (hE w inv.now inv.at_)
    · refine (inv.old d fun j hj hjd => ?_).symm
      have hj2 := hpre j init[j] (List.getElem?_eq_getElem hj)
      simp [relyDst, hj2] at hjd
      exact hnd init[j] (List.getElem_mem hj) hjd
    · exact inv.new k d (List.getElem?_eq_some_iff.1 hk).1 (by simp [relyDst, hpre k o hk, hd])
  | succ f ih =>
    intro k a w hk inv
    rw [show f + 1 + tail.length = (f + tail.length) + 1 by omega, List.range'_succ, wpOps_cons]
    have hklt : k < init.length := by omega
    have hio : init[k]? = some init[k] := List.getElem?_eq_getElem hklt
    obtain ⟨dp, g, hD, h1⟩ := seqB_at init D 0 k _ hB hio
    have hstep := seqAll_at _ _ _ 0 k _ dp g hA hio hD
    rw [Nat.zero_add] at h1 hstep
    exact wpOp_mono (fun a' w' inv' => ih (k + 1) a' w' (by omega) inv') (seq_op hn ht hklt (hpre k _ hio) h1 hstep inv)
/-- **A region in the text's order; the operations from place m on are left as they stand.** -/
theorem wp_region_steps {id : Nat} (T : World → World → Prop) (J : Nat → World → Prop) (V : List (SV T)) (D : Deps) (n m : Nat) (hn : a0.tmps.size = n) (hlen : (ops.toList.take m).length = m) (hB : seqB ops n m 0 (ops.toList.take m) D = true)
    (ht : ∀ a b c : World, T a b → T b c → T a c) (hd : T w0 w0) (hJ : J 0 w0) (hl : m ≤ V.length)
    (hA : seqAll P Q T V J a0 w0 0 (ops.toList.take m) D V) (hE : ∀ w, T w0 w → J m w → relyEnd (fun _ a w => wpList P ops Q (ops.toList.drop m) a w) T (ops.toList.take m) V a0 w) : (Code.region id ops false).wp P Q a0 w0 := by
  refine wp_region ?_
  have hs := split_at (List.take_append_drop m ops.toList).symm
  rw [List.range_eq_range', hs.1]
  exact wpOps_seq (List.take_append_drop m ops.toList).symm hn (by rw [hlen]; exact hB) ht (by rw [hlen]; exact hl) hA (by rw [hlen]; exact hE) _ 0 a0 w0 (by omega) ⟨hd, hJ, rfl, rfl, fun j d hj => absurd hj (by omega), fun _ _ => rfl⟩
/-- Without a relation beside. -/
theorem seqAll_of : ∀ (i : Nat) (l : List Oper) (D : Deps) (C : List (SV T)), relyAll P Q T V a0 w0 l D C → seqAll P Q T V (fun _ _ => True) a0 w0 i l D C
  | _, [], _, _, _ => trivial
  | i, _ :: r, (_, _) :: D, _ :: C, h => ⟨fun a w hT hF _ K hK => h.1 a w hT hF K fun v w' h1 h2 => hK v w' h1 trivial h2, seqAll_of (i + 1) r D C h.2⟩
  | _, _ :: _, [], _, h => h.elim
  | _, _ :: _, _ :: _, [], h => h.elim
theorem wp_region_steps0 {id : Nat} (T : World → World → Prop) (V : List (SV T)) (D : Deps) (n m : Nat) (hn : a0.tmps.size = n) (hlen : (ops.toList.take m).length = m) (hB : seqB ops n m 0 (ops.toList.take m) D = true)
    (ht : ∀ a b c : World, T a b → T b c → T a c) (hd : T w0 w0) (hl : m ≤ V.length)
    (hA : relyAll P Q T V a0 w0 (ops.toList.take m) D V) (hE : ∀ w, T w0 w → relyEnd (fun _ a w => wpList P ops Q (ops.toList.drop m) a w) T (ops.toList.take m) V a0 w) : (Code.region id ops false).wp P Q a0 w0 :=
  wp_region_steps T (fun _ _ => True) V D n m hn hlen hB ht hd trivial hl (seqAll_of 0 _ _ _ hA) fun w hT _ => hE w hT
theorem wpList_end {a : Act} {w : World} {l : List Oper} (hl : l = []) (h : Q .normal a w) : wpList P ops Q l a w := by subst hl; exact h
end
end Go.Proofs.YthgblcpekhiphaaDoor
/- Package rec's base: a record that lies in memory, its fields, and what the guards of a region make conditional. -/
namespace Go.Proofs.YthgblcpekhiphaaDoor
open Go Go.RowKit
set_option maxRecDepth 8000

section
variable {P : Program} {a : Act} {w : World} {o : Oper} {K : Act → World → Prop} {Q : Exit → Act → World → Prop}
/-- A condition that stands where b is so. -/
def svIf {T : World → World → Prop} (b : Bool) (c : SV T) : SV T := ⟨fun v w => b = true → c.pred v w, fun v w w' h hT hb => c.stable v w w' (h hb) hT⟩
/-- A guard's own value, where it may be left out. -/
def gV (b c : Bool) : Value := bif b then .bool c else undef
theorem rely_on {g : Option (Tmp × Bool)} {E : Bool} (hg : relyGuard g a = E) (h1 : E = true → o.wp P a w K Q) (h0 : E = false → K (a.put o.dst undef) w) : if relyGuard g a then o.wp P a w K Q else K (a.put o.dst undef) w := by
  rw [hg]; cases E
  · exact h0 rfl
  · exact h1 rfl
/-- What is done under a guard that isn't known. -/
theorem rely_if {T : World → World → Prop} {g : Option (Tmp × Bool)} {E : Bool} {c : SV T} (hg : relyGuard g a = E) (hr : T w w) (hK : ∀ v w', T w w' → (svIf E c).pred v w' → K (a.put o.dst v) w') (h : E = true → (∀ v w', T w w' → c.pred v w' → K (a.put o.dst v) w') → o.wp P a w K Q) : if relyGuard g a then o.wp P a w K Q else K (a.put o.dst undef) w :=
  rely_on hg (fun hE => h hE fun v w' h1 h2 => hK v w' h1 fun _ => h2) fun hE => hK _ _ hr fun h1 => by rw [hE] at h1; cases h1
theorem rely_ifg {T : World → World → Prop} {g : Option (Tmp × Bool)} {E b : Bool} (hg : relyGuard g a = E) (hr : T w w) (hK : ∀ v w', T w w' → (SV.eq (T := T) (gV E b)).pred v w' → K (a.put o.dst v) w') (h : E = true → (∀ v w', T w w' → v = .bool b → K (a.put o.dst v) w') → o.wp P a w K Q) : if relyGuard g a then o.wp P a w K Q else K (a.put o.dst undef) w :=
  rely_on hg (fun hE => h hE fun v w' h1 h2 => hK v w' h1 (by rw [h2, hE]; rfl)) fun hE => hK _ _ hr (by rw [hE]; rfl)
theorem pn_and1 {b e q : Bool} {v : Value} (hq : (b && e) = q) (h : v = .bool e) (hb : b = true) : v = .bool q := by rw [h, ← hq, hb]; rfl
theorem pn_and0 {b e q : Bool} (hq : (b && e) = q) (hb : b = false) : Value.bool false = .bool q := by rw [← hq, hb]; rfl
theorem pn_or1 {b e q : Bool} (hq : (b || e) = q) (hb : b = true) : Value.bool true = .bool q := by rw [← hq, hb]; rfl
theorem pn_or0 {b e q : Bool} {v : Value} (hq : (b || e) = q) (h : v = .bool e) (hb : b = false) : v = .bool q := by rw [h, ← hq, hb]; rfl
theorem rely_gt {d : Tmp} {b : Bool} (h : a.tmps.getD d undef = .bool b) : relyGuard (some (d, true)) a = b := by simp only [relyGuard, h]; cases b <;> rfl
theorem rely_gf {d : Tmp} {b : Bool} (h : a.tmps.getD d undef = .bool b) : relyGuard (some (d, false)) a = !b := by simp only [relyGuard, h]; cases b <;> rfl
theorem rely_ggt {d : Tmp} {p b : Bool} (h : a.tmps.getD d undef = gV p b) : relyGuard (some (d, true)) a = (p && b) := by simp only [relyGuard, h, gV]; cases p <;> cases b <;> rfl
theorem rely_ggf {d : Tmp} {p b : Bool} (h : a.tmps.getD d undef = gV p b) : relyGuard (some (d, false)) a = (p && !b) := by simp only [relyGuard, h, gV]; cases p <;> cases b <;> rfl
theorem gV_on {p b : Bool} (h : p = true) : gV p b = .bool b := by rw [h]; rfl
theorem opr_pick_b {c x y : Operand} {b : Bool} (ho : o.op = .pick c x y) (hc : a.eval c = .bool b) (h1 : b = true → K (a.put o.dst (a.eval x)) w) (h0 : b = false → K (a.put o.dst (a.eval y)) w) : o.wp P a w K Q := by
  cases b
  · exact opr_pick_false ho hc (h0 rfl)
  · exact opr_pick_true ho hc (h1 rfl)
theorem pk_and1 {b e : Bool} {v : Value} (h : v = .bool e) (hb : b = true) : v = .bool (b && e) := by rw [h, hb]; rfl
theorem pk_and0 {b e : Bool} (hb : b = false) : Value.bool false = .bool (b && e) := by rw [hb]; rfl
theorem pk_or1 {b e : Bool} (hb : b = true) : Value.bool true = .bool (b || e) := by rw [hb]; rfl
theorem pk_or0 {b e : Bool} {v : Value} (h : v = .bool e) (hb : b = false) : v = .bool (b || e) := by rw [h, hb]; rfl
theorem bnot {b : Bool} (h : b = false) : (!b) = true := by rw [h]; rfl
theorem band {a b : Bool} (h : a = true) (k : b = true) : (a && b) = true := by rw [h, k]; rfl
theorem opr_not {t : TypeId} {x : Operand} {b : Bool} (ho : o.op = .unOp .not t x) (hx : a.eval x = .bool b) (h : K (a.put o.dst (.bool !b)) w) : o.wp P a w K Q := by
  obtain ⟨dst, op, type, pos, after, guard⟩ := o
  simp only at ho
  subst ho
  refine opr_val (s := Op.unary .not (a.eval x)) rfl ?_ h
  rw [hx]; simp [go_sem]
/-- A field's place. -/
theorem opr_fld {t : TypeId} {x : Operand} {k g o0 off m : Nat} {fs : Array Field} {f : Field} (hu : P.underlying t = some (.struct fs)) (hk : fs[k]? = some f) (hs : (P.info? f.type).map (·.size) = some (m + 1)) (ho : o.op = .fieldAddr t x k) (hx : a.eval x = .pointer (some ⟨g, o0, none⟩)) (hoff : o0 + f.offset = off) (h : K (a.put o.dst (.pointer (some ⟨g, off, none⟩))) w) : o.wp P a w K Q := by
  subst hoff
  obtain ⟨dst, op, type, pos, after, guard⟩ := o
  simp only at ho
  subst ho
  refine opr_val (s := Instr.fieldAt t (a.eval x) k) rfl ?_ h
  have hsz : (sizeOf f.type).run P w = .ok (m + 1) w := by
    cases hq : P.info? f.type with
    | none => simp [hq] at hs
    | some i => simp [hq] at hs; simp [sizeOf, typeInfo, hq, hs]
  rw [hx]
  simp [Instr.fieldAt, run_underlying hu, hk, Instr.sureAddr, fieldPlace, hsz, Addr.add_mid]
/-- A cell is loaded. -/
theorem opr_ld1 {t : TypeId} {x : Operand} {g o0 : Nat} {d : TypeDesc} {v : Value} (hu : P.underlying t = some d) (hd : d.isRow = false) (ho : o.op = .load t x) (hx : a.eval x = .pointer (some ⟨g, o0, none⟩)) (hc : w.cell? ⟨g, o0, none⟩ = some v) (h : K (a.put o.dst v) w) : o.wp P a w K Q := by
  obtain ⟨dst, op, type, pos, after, guard⟩ := o
  simp only at ho
  subst ho
  refine opr_val (s := Instr.loadAt t (a.eval x)) rfl ?_ h
  have hagg : (isAgg t).run P w = .ok false w := by
    unfold isAgg
    rw [Sem.run_bind, run_underlying hu w]
    cases d <;> simp_all
  rw [hx]
  simp [Instr.loadAt, Instr.sureAddr, loadVar, hagg, hc]
/-- A part of a row is loaded. -/
theorem opr_ldm {t t' : TypeId} {x : Operand} {g o0 n m : Nat} {d : TypeDesc} {f : Nat → Value} (hu : P.underlying t = some d) (hd : d.isRow = true) (hi : (P.info? t).map (·.size) = some m) (ho : o.op = .load t x) (hx : a.eval x = .pointer (some ⟨g, o0, none⟩)) (hr : w.rowIs g t' n f) (hm : o0 + m ≤ n) (h : K (a.put o.dst (.agg (rowA m fun j => f (o0 + j)))) w) : o.wp P a w K Q := by
  obtain ⟨dst, op, type, pos, after, guard⟩ := o
  simp only at ho
  subst ho
  refine opr_val (s := Instr.loadAt t (a.eval x)) rfl ?_ h
  rw [hx]
  have := run_loadAt_mid (P := P) w g o0 t _ d (rangeAt_part hr o0 m hm) hu hd (by rw [rowA_toList]; simpa using hi)
  simpa using this
end
/-- A record in memory: block g holds x. -/
def recOff (k : Nat) : Nat := if k < 12 then (if k = 11 then 42 else k) else if k = 12 then 43 else if k = 13 then 44 else if k = 14 then 76 else 77
theorem info_rec : (Tryd.prog.info? 27).map (·.size) = some 109 := by kernel_rfl
theorem recTy : RecTy Tryd.prog 27 := by
  refine ⟨_, Tryd.underlying27, by kernel_rfl, ?_, ?_, ?_, ?_, ?_⟩
  · intro i hi
    simp only [List.mem_cons, List.not_mem_nil, or_false] at hi
    rcases hi with rfl | rfl | rfl | rfl | rfl | rfl | rfl | rfl <;> exact ⟨_, rfl, rfl, Tryd.underlying3, by kernel_rfl⟩
  · intro i hi
    simp only [List.mem_cons, List.not_mem_nil, or_false] at hi
    rcases hi with rfl | rfl | rfl <;> exact ⟨_, rfl, rfl, Tryd.underlying4, by kernel_rfl⟩
  · intro i hi
    simp only [List.mem_cons, List.not_mem_nil, or_false] at hi
    rcases hi with rfl | rfl | rfl <;> exact ⟨_, _, rfl, rfl, Tryd.underlying23, Tryd.underlying5, by kernel_rfl, by kernel_rfl⟩
  · exact ⟨_, _, _, _, rfl, rfl, Tryd.underlying24, Tryd.underlying46, by kernel_rfl, rfl, rfl, by kernel_rfl, by kernel_rfl, Tryd.underlying3, Tryd.underlying3, by kernel_rfl⟩
  · exact ⟨_, _, rfl, rfl, Tryd.underlying25, Tryd.underlying5, by kernel_rfl, by kernel_rfl⟩
section
variable {a : Act} {w : World} {o : Oper} {K : Act → World → Prop} {Q : Exit → Act → World → Prop} {x : Operand} {g : Nat}
theorem info_int : (Tryd.prog.info? 3).map (·.size) = some (0 + 1) := by kernel_rfl
theorem info_bool : (Tryd.prog.info? 4).map (·.size) = some (0 + 1) := by kernel_rfl
theorem info_hash1 : (Tryd.prog.info? 23).map (·.size) = some (31 + 1) := by kernel_rfl
theorem info_steps1 : (Tryd.prog.info? 24).map (·.size) = some (0 + 1) := by kernel_rfl
theorem info_sb1 : (Tryd.prog.info? 25).map (·.size) = some (0 + 1) := by kernel_rfl
/-- The place of a record's field. -/
theorem opr_fldR {k : Nat} (hk : k < 16) (ho : o.op = .fieldAddr 27 x k) (hx : a.eval x = .pointer (some ⟨g, 0, none⟩)) (h : K (a.put o.dst (.pointer (some ⟨g, recOff k, none⟩))) w) : o.wp Tryd.prog a w K Q := by
  have hk' : k = 0 ∨ k = 1 ∨ k = 2 ∨ k = 3 ∨ k = 4 ∨ k = 5 ∨ k = 6 ∨ k = 7 ∨ k = 8 ∨ k = 9 ∨ k = 10 ∨ k = 11 ∨ k = 12 ∨ k = 13 ∨ k = 14 ∨ k = 15 := by omega
  rcases hk' with rfl | rfl | rfl | rfl | rfl | rfl | rfl | rfl | rfl | rfl | rfl | rfl | rfl | rfl | rfl | rfl
  all_goals
    first
      | exact opr_fld Tryd.underlying27 rfl info_int ho hx (by rfl) h
      | exact opr_fld Tryd.underlying27 rfl info_bool ho hx (by rfl) h
      | exact opr_fld Tryd.underlying27 rfl info_hash1 ho hx (by rfl) h
      | exact opr_fld Tryd.underlying27 rfl info_steps1 ho hx (by rfl) h
      | exact opr_fld Tryd.underlying27 rfl info_sb1 ho hx (by rfl) h
theorem opr_fldS {k o0 : Nat} (hk : k < 2) (ho : o.op = .fieldAddr 46 x k) (hx : a.eval x = .pointer (some ⟨g, o0, none⟩)) (h : K (a.put o.dst (.pointer (some ⟨g, o0 + k, none⟩))) w) : o.wp Tryd.prog a w K Q := by
  have hk' : k = 0 ∨ k = 1 := by omega
  rcases hk' with rfl | rfl
  all_goals exact opr_fld Tryd.underlying46 rfl info_int ho hx (by rfl) h
variable {F : Nat → Value} {t' : TypeId} {n : Nat} {o0 : Nat} {v : Value}
theorem opr_ldI (hr : w.rowIs g t' n F) (hn : o0 < n) (hv : F o0 = v) (ho : o.op = .load 3 x) (hx : a.eval x = .pointer (some ⟨g, o0, none⟩)) (h : K (a.put o.dst v) w) : o.wp Tryd.prog a w K Q :=
  opr_ld1 Tryd.underlying3 rfl ho hx (by rw [hr.cell hn, hv]) h
theorem opr_ldQ (hr : w.rowIs g t' n F) (hn : o0 < n) (hv : F o0 = v) (ho : o.op = .load 4 x) (hx : a.eval x = .pointer (some ⟨g, o0, none⟩)) (h : K (a.put o.dst v) w) : o.wp Tryd.prog a w K Q :=
  opr_ld1 Tryd.underlying4 rfl ho hx (by rw [hr.cell hn, hv]) h
theorem opr_ldS (hr : w.rowIs g t' n F) (hn : o0 < n) (hv : F o0 = v) (ho : o.op = .load 24 x) (hx : a.eval x = .pointer (some ⟨g, o0, none⟩)) (h : K (a.put o.dst v) w) : o.wp Tryd.prog a w K Q :=
  opr_ld1 Tryd.underlying24 rfl ho hx (by rw [hr.cell hn, hv]) h
theorem opr_ldB (hr : w.rowIs g t' n F) (hn : o0 < n) (hv : F o0 = v) (ho : o.op = .load 25 x) (hx : a.eval x = .pointer (some ⟨g, o0, none⟩)) (h : K (a.put o.dst v) w) : o.wp Tryd.prog a w K Q :=
  opr_ld1 Tryd.underlying25 rfl ho hx (by rw [hr.cell hn, hv]) h
theorem opr_ldH {d : Nat → UInt8} (hr : w.rowIs g t' n F) (hn : o0 + 32 ≤ n) (hv : ∀ j, j < 32 → F (o0 + j) = bF d j) (ho : o.op = .load 23 x) (hx : a.eval x = .pointer (some ⟨g, o0, none⟩)) (h : K (a.put o.dst (.agg (rowA 32 (bF d)))) w) : o.wp Tryd.prog a w K Q :=
  opr_ldm Tryd.underlying23 rfl info31 ho hx hr hn (by rw [rowA_congr hv]; exact h)
theorem opr_ldR (hr : w.rowIs g t' 109 F) (ho : o.op = .load 27 x) (hx : a.eval x = .pointer (some ⟨g, 0, none⟩)) (h : K (a.put o.dst (.agg (rowA 109 F))) w) : o.wp Tryd.prog a w K Q :=
  opr_ldm Tryd.underlying27 rfl info_rec ho hx hr (by omega) (by rw [rowA_congr (g := F) fun i _ => by rw [Nat.zero_add]]; exact h)
/-- Numbers are compared. -/
theorem opr_cmp {op : BinOp} {t t2 : TypeId} {x y : Operand} {m n : Int} {b : Bool} (hop : op = .eql ∧ (m == n) = b ∨ op = .neq ∧ (m != n) = b ∨ op = .leq ∧ decide (m ≤ n) = b ∨ op = .lss ∧ decide (m < n) = b ∨ op = .gtr ∧ decide (n < m) = b ∨ op = .geq ∧ decide (n ≤ m) = b) (_ht : Tryd.prog.underlying t = some (.int .i64)) (ho : o.op = .binOp op t x y t2) (hx : a.eval x = .int .i64 m) (hy : a.eval y = .int .i64 n) (h : K (a.put o.dst (.bool b)) w) : o.wp Tryd.prog a w K Q := by
  obtain ⟨dst, op', type, pos, after, guard⟩ := o
  simp only at ho
  subst ho
  refine opr_val (s := do eqGuard op t x y (a.eval x) (a.eval y); binOp op t (a.eval x) (a.eval y)) rfl ?_ h
  rw [hx, hy]
  rcases hop with ⟨rfl, rfl⟩ | ⟨rfl, rfl⟩ | ⟨rfl, rfl⟩ | ⟨rfl, rfl⟩ | ⟨rfl, rfl⟩ | ⟨rfl, rfl⟩ <;> simp [go_sem]
end
section
variable {a : Act} {w : World} {o : Oper} {K : Act → World → Prop} {Q : Exit → Act → World → Prop} {x y : Operand} {g : Nat}
theorem opr_eqlQ {p q b : Bool} {t2 : TypeId} (hb : (p == q) = b) (ho : o.op = .binOp .eql 4 x y t2) (hx : a.eval x = .bool p) (hy : a.eval y = .bool q) (h : K (a.put o.dst (.bool b)) w) : o.wp Tryd.prog a w K Q := by
  obtain ⟨dst, op', type, pos, after, guard⟩ := o
  simp only at ho
  subst ho hb
  refine opr_val (s := do eqGuard .eql 4 x y (a.eval x) (a.eval y); binOp .eql 4 (a.eval x) (a.eval y)) rfl ?_ h
  rw [hx, hy]
  simp [go_sem]
/-- 'h[:]' of a hash that lies in a row. -/
theorem opr_sliceH {o0 : Nat} (ho : o.op = .slice 23 x none none none) (hx : a.eval x = .pointer (some ⟨g, o0, none⟩)) (h : K (a.put o.dst (.slice (some ⟨g, o0, none⟩) 32 32)) w) : o.wp Tryd.prog a w K Q := by
  obtain ⟨dst, op, type, pos, after, guard⟩ := o
  simp only at ho
  subst ho
  refine opr_val (s := Instr.sliceAt 23 (a.eval x) none none none) rfl ?_ h
  rw [hx]
  have hsz : (sizeOf 5).run Tryd.prog w = .ok 1 w := by
    have hs := info5s
    cases hq : Tryd.prog.info? 5 with
    | none => simp [hq] at hs
    | some i => simp [hq] at hs; simp [sizeOf, typeInfo, hq, hs]
  simp [Instr.sliceAt, run_underlying Tryd.underlying23, Instr.sureAddr, Instr.sliceBounds, hsz, Addr.add_zero']
theorem rd_rowH {t' n o0 : Nat} {F : Nat → Value} {d : Nat → UInt8} (hr : w.rowIs g t' n F) (hn : o0 + 32 ≤ n) (hv : ∀ j, j < 32 → F (o0 + j) = bF d j) : RdV w [] (.slice (some ⟨g, o0, none⟩) 32 32) (digL d) := by
  refine ⟨some ⟨g, o0, none⟩, 32, by rw [digL_length], by rw [digL_length]; exact Nat.le_refl _, by unfold maxLen; omega, fun _ => ⟨g, o0, rfl, by simp, fun i hi => ?_⟩⟩
  rw [digL_length] at hi
  rw [hr.cell (by omega), hv i hi, bF_at]
  simp [bAt, digL, hi]
theorem opr_len_pairs {l : List (Int × Int)} (ho : o.op = .call { callee := .builtin .len, args := #[x], argTypes := #[24] }) (hx : RdP w (a.eval x) l) (h : K (a.put o.dst (.int .i64 (l.length : Int))) w) : o.wp Tryd.prog a w K Q := by
  obtain ⟨A, c, hv, _⟩ := hx
  exact opr_len ho Tryd.underlying24 hv h
theorem run_bs3 (A : Option Addr) (n c : Nat) (A2 : Option Addr) (n2 c2 : Nat) (A3 : Option Addr) (n3 c3 : Nat) (w : World) : (Instr.buildSlice 50 3 #[(0, .slice A n c), (1, .slice A2 n2 c2), (2, .slice A3 n3 c3)]).run Tryd.prog w = .ok (.slice (some ⟨w.heap.size, 0, none⟩) 3 3) (w.alloc (.cells #[.slice A n c, .slice A2 n2 c2, .slice A3 n3 c3] 25)) := by
  simp [go_sem]
theorem run_bs4 (A : Option Addr) (n c : Nat) (A2 : Option Addr) (n2 c2 : Nat) (A3 : Option Addr) (n3 c3 : Nat) (A4 : Option Addr) (n4 c4 : Nat) (w : World) : (Instr.buildSlice 50 4 #[(0, .slice A n c), (1, .slice A2 n2 c2), (2, .slice A3 n3 c3), (3, .slice A4 n4 c4)]).run Tryd.prog w = .ok (.slice (some ⟨w.heap.size, 0, none⟩) 4 4) (w.alloc (.cells #[.slice A n c, .slice A2 n2 c2, .slice A3 n3 c3, .slice A4 n4 c4] 25)) := by
  simp [go_sem]
theorem opr_bs3 {x1 x2 x3 : Operand} {l1 l2 l3 : List UInt8} (ho : o.op = .buildSlice 50 3 #[(0, x1), (1, x2), (2, x3)]) (h1 : RdV w [] (a.eval x1) l1) (h2 : RdV w [] (a.eval x2) l2) (h3 : RdV w [] (a.eval x3) l3) (h : ∀ v w', NewT w w' → Parts w' v [l1, l2, l3] → K (a.put o.dst v) w') : o.wp Tryd.prog a w K Q := by
  obtain ⟨dst, op, type, pos, after, guard⟩ := o
  simp only at ho
  subst ho
  obtain ⟨A1, c1, e1⟩ := rdV_form h1
  obtain ⟨A2, c2, e2⟩ := rdV_form h2
  obtain ⟨A3, c3, e3⟩ := rdV_form h3
  rw [e1] at h1
  rw [e2] at h2
  rw [e3] at h3
  exact opr_val (s := Instr.buildSlice 50 3 #[(0, a.eval x1), (1, a.eval x2), (2, a.eval x3)]) (by simp [execOp]) (by rw [e1, e2, e3]; exact run_bs3 _ _ _ _ _ _ _ _ _ w) (h _ _ (NewT.alloc _ _) ⟨[(.slice A1 l1.length c1, l1), (.slice A2 l2.length c2, l2), (.slice A3 l3.length c3, l3)], parts_new [(.slice A1 l1.length c1, l1), (.slice A2 l2.length c2, l2), (.slice A3 l3.length c3, l3)] 25 (by simp) (by simp) (by simp; exact ⟨h1, h2, h3⟩), rfl⟩)
theorem opr_bs4 {x1 x2 x3 x4 : Operand} {l1 l2 l3 l4 : List UInt8} (ho : o.op = .buildSlice 50 4 #[(0, x1), (1, x2), (2, x3), (3, x4)]) (h1 : RdV w [] (a.eval x1) l1) (h2 : RdV w [] (a.eval x2) l2) (h3 : RdV w [] (a.eval x3) l3) (h4 : RdV w [] (a.eval x4) l4) (h : ∀ v w', NewT w w' → Parts w' v [l1, l2, l3, l4] → K (a.put o.dst v) w') : o.wp Tryd.prog a w K Q := by
  obtain ⟨dst, op, type, pos, after, guard⟩ := o
  simp only at ho
  subst ho
  obtain ⟨A1, c1, e1⟩ := rdV_form h1
  obtain ⟨A2, c2, e2⟩ := rdV_form h2
  obtain ⟨A3, c3, e3⟩ := rdV_form h3
  obtain ⟨A4, c4, e4⟩ := rdV_form h4
  rw [e1] at h1
  rw [e2] at h2
  rw [e3] at h3
  rw [e4] at h4
  exact opr_val (s := Instr.buildSlice 50 4 #[(0, a.eval x1), (1, a.eval x2), (2, a.eval x3), (3, a.eval x4)]) (by simp [execOp]) (by rw [e1, e2, e3, e4]; exact run_bs4 _ _ _ _ _ _ _ _ _ _ _ _ w) (h _ _ (NewT.alloc _ _) ⟨[(.slice A1 l1.length c1, l1), (.slice A2 l2.length c2, l2), (.slice A3 l3.length c3, l3), (.slice A4 l4.length c4, l4)], parts_new [(.slice A1 l1.length c1, l1), (.slice A2 l2.length c2, l2), (.slice A3 l3.length c3, l3), (.slice A4 l4.length c4, l4)] 25 (by simp) (by simp) (by simp; exact ⟨h1, h2, h3, h4⟩), rfl⟩)
end
end Go.Proofs.YthgblcpekhiphaaDoor
/- A number's bytes are put: wire.Num. -/
namespace Go.Proofs.YthgblcpekhiphaaDoor
open Go Go.RowKit
set_option maxRecDepth 8000

theorem or128 (x : Int) : bits .or .u8 (IntKind.u8.wrap x) 128 = bN (uB ((x % 128).toNat + 128)) := by
  have h : ∀ k : Fin 256, bits .or .u8 (k.val : Int) 128 = ((k.val % 128 + 128 : Nat) : Int) := by decide +kernel
  rw [wrap_u8, bN, toNat_uB]
  have := h ⟨(x % 256).toNat, by omega⟩
  simp only at this
  rw [show (((x % 256).toNat : Nat) : Int) = x % 256 by omega] at this
  rw [this]; omega
theorem and127 (y : Nat) : bits .and .u8 (bN (uB (y % 128 + 128))) 127 = bN (uB (y % 128)) := by
  have h : ∀ k : Fin 256, bits .and .u8 (k.val : Int) 127 = ((k.val % 128 : Nat) : Int) := by decide +kernel
  rw [bN, bN, toNat_uB, toNat_uB]
  have := h ⟨(y % 128 + 128) % 256, by omega⟩
  simp only at this
  rw [this]; omega
/-- The place i, ahead of the last one's mask. -/
def numC (n s i : Nat) : UInt8 := uB (n / 2 ^ (7 * (s - 1 - i)) % 128 + 128)
theorem numC_eq (n s i : Nat) : bits .or .u8 ((n : Int) / 2 ^ (7 * (s - 1 - i)) % 256) 128 = bN (numC n s i) := by
  rw [← wrap_u8, or128, numC]
  have h2 : ((2 : Int) ^ (7 * (s - 1 - i))) = ((2 ^ (7 * (s - 1 - i)) : Nat) : Int) := by simp
  rw [h2, ← Int.natCast_ediv]
  congr 2
theorem sz_test (n k : Nat) (hn : n ≤ 2147483647) (hk : 1 ≤ k) (hk2 : k ≤ sz n) : (0 < (n : Int) / 2 ^ (7 * k)) ↔ k < sz n := by
  have h5 := sz_le n
  have hh : k = 1 ∨ k = 2 ∨ k = 3 ∨ k = 4 ∨ k = 5 := by omega
  unfold sz at *
  rcases hh with rfl | rfl | rfl | rfl | rfl
  all_goals
    simp only [Nat.reduceMul, Int.reducePow]
    split <;> (try split) <;> (try split) <;> (try split) <;> omega
theorem rdV_nil (W : World) (L : List Nat) : RdV W L (.slice none 0 0) [] := ⟨none, 0, rfl, Nat.le_refl _, by unfold maxLen; omega, fun h => absurd h (by simp)⟩
set_option maxHeartbeats 1000000 in
theorem Num_in (n : Nat) (hn : n ≤ 2147483647) (w : World) : Cv 38 #[.int .i64 (n : Int)] w (svRdN w (numL n)) := by
  unfold Cv
  obtain ⟨s, hs⟩ : ∃ s, sz n = s := ⟨_, rfl⟩
  have h1 := sz_pos n
  have h5 := sz_le n
  have hT := sz_test n
  have hrow := numL_row n hn
  rw [hs] at h1 h5 hT hrow
  have Hrow := Lib.hid hrow
  have HT := Lib.hid hT
  have Hs := Lib.hid hs
  clear hT hrow hs
  obtain ⟨i0, hi, hz0, hz1, hz2⟩ := info_parts info5
  have hmk : ∀ W : World, (Instr.makeSlice 25 (.int .i64 (s : Int)) (.int .i64 (s : Int))).run Tryd.prog W = .ok (.slice (some ⟨W.heap.size, 0, none⟩) s s) (W.alloc (.cells (rowA s (bF fun _ => 0)) 5)) := make_bytes i0 hi hz0 hz1 hz2 s (by omega)
  have HB := Lib.hid (numC_eq n s)
  clear hi hz0 hz1 hz2
  go_enter Tryd.func38, Tryd.ntmps38
  go_wp2
  go_loop [3] (fun i => ∃ k : Nat, 1 ≤ k ∧ k ≤ s ∧ i = .int .i64 k) (fun i => s - (intOf i).toNat)
  case atStart => exact ⟨1, by omega, by omega, rfl⟩
  case round =>
    obtain ⟨k, hk1, hk, rfl⟩ := hrel
    have e7 : ((7 : Int) * (k : Int)).toNat = 7 * k := by omega
    have ht := HT.out k hn hk1 hk
    by_cases hlt : k < s
    · have ht1 : 0 < (n : Int) / 2 ^ (7 * k) := ht.2 hlt
      clear ht
      go_wp2
      go_round
      case rel => exact ⟨k + 1, by omega, by omega, by go_num⟩
      case measure => simp [intOf]; omega
    · have ht1 : ¬ 0 < (n : Int) / 2 ^ (7 * k) := fun h => hlt (ht.1 h)
      clear ht
      obtain rfl : k = s := by omega
      go_wp2
      have r0 := rowIs_box w 5 k (bF fun _ => 0)
      have hB : Below w.heap.size w (w.alloc (.cells (rowA k (bF fun _ => 0)) 5)) := (Below.refl _ w).alloc (Nat.le_refl _) _
      generalize w.alloc (.cells (rowA k (bF fun _ => 0)) 5) = W0 at r0 hB ⊢
      clear hmk ht1 hlt e7
      go_loopw [23] (fun i wr => ∃ j : Nat, j ≤ k ∧ i = .int .i64 j ∧ wr.rowIs w.heap.size 5 k (bF (putTo (numC n k) j)) ∧ Below w.heap.size w wr) (fun i _ => k - (intOf i).toNat)
      case atStart => exact ⟨0, by omega, rfl, r0.congr fun i _ => by simp [bF, putTo], hB⟩
      case round =>
        obtain ⟨j, hj, rfl, q0, qB⟩ := hrel
        clear r0 hB
        by_cases hlt : j < k
        · have c0 := q0.cell (i := j) hlt
          have f0 := q0.frozen j
          have e7 : ((7 : Int) * ((k : Int) - 1 - (j : Int))).toNat = 7 * (k - 1 - j) := by omega
          have hb8 := HB.out j
          go_wp2
          go_roundw
          case rel => exact ⟨j + 1, by omega, by go_num, (q0.set j _).congr fun i _ => putTo_set _ j i, qB.setCell (by simp) _⟩
          case measure => simp [intOf]; omega
        · obtain rfl : j = k := by omega
          obtain ⟨m, rfl⟩ : ∃ m, j = m + 1 := ⟨j - 1, by omega⟩
          have c0 := q0.cell (i := m) (by omega)
          have f0 := q0.frozen m
          have e1 : bN (putTo (numC n (m + 1)) (m + 1) m) = bN (uB (n % 128 + 128)) := by
            rw [putTo, if_pos (by omega), numC, show m + 1 - 1 - m = 0 by omega]; simp
          rw [bF_at, e1] at c0
          have h127 := and127 n
          obtain ⟨y, hy⟩ : ∃ y, uB (n % 128 + 128) = y := ⟨_, rfl⟩
          rw [hy] at c0 h127
          clear hy e1
          go_wp2
          go_ret
          refine ⟨_, rfl, qB.setCell (by simp) _, fun L hL => ?_⟩
          have q1 := (q0.set m (.int .u8 (bN (uB (n % 128))))).congr (g := bF (numB n (m + 1))) fun i hi => by
            by_cases hm : i = m
            · subst hm
              rw [if_pos rfl, bF_at, numB, if_pos rfl, show i + 1 - 1 - i = 0 by omega]; simp
            · rw [if_neg hm, bF_at, bF_at, putTo, if_pos hi, numB, if_neg (by omega), numC]
          have := rd_row (L := L) q1 (fun hm => by have := hL _ hm; omega) (by omega)
          rw [← Hrow.out] at this
          exact this
set_option maxHeartbeats 400000 in
theorem Num_out (n : Int) (hn : ¬ (0 ≤ n ∧ n ≤ 2147483647)) (w : World) : Cv 38 #[.int .i64 n] w (svRdN w []) := by
  unfold Cv
  by_cases h0 : n < 0
  · go_enter Tryd.func38, Tryd.ntmps38
    go_wp2
    go_ret
    exact ⟨_, rfl, NewT.refl _, fun L _ => rdV_nil _ _⟩
  · have h1 : 2147483647 < n := by omega
    clear hn
    go_enter Tryd.func38, Tryd.ntmps38
    go_wp2
    go_ret
    exact ⟨_, rfl, NewT.refl _, fun L _ => rdV_nil _ _⟩
/-- Whatever number. -/
theorem Num_cv (n : Int) (w : World) : Cv 38 #[.int .i64 n] w (svRdN w (numI n)) := by
  unfold numI
  by_cases h : 0 ≤ n ∧ n ≤ 2147483647
  · rw [if_pos h]
    obtain ⟨m, rfl⟩ := Int.eq_ofNat_of_zero_le h.1
    exact Num_in m (by omega) w
  · rw [if_neg h]; exact Num_out n h w
end Go.Proofs.YthgblcpekhiphaaDoor
/- A reader: a block of two cells, what is left and the error; what its small calls answer. -/
namespace Go.Proofs.YthgblcpekhiphaaDoor
open Go Go.RowKit
set_option maxRecDepth 8000

/-- A step that writes block R, and new memory, alone. -/
structure RT (R : Nat) (w w' : World) : Prop where
  below : Below R w w'
  keep : KeepBut [R] w w'
theorem RT.refl (R : Nat) (w : World) : RT R w w := ⟨Below.refl _ _, KeepBut.refl _ _⟩
theorem RT.trans {R : Nat} (a b c : World) (h : RT R a b) (k : RT R b c) : RT R a c := ⟨h.below.trans k.below, h.keep.trans k.keep⟩
theorem RT.new {R : Nat} {w w' : World} (hR : R < w.heap.size) (h : NewT w w') : RT R w w' := ⟨h.out.mono (by omega), KeepBut.below h⟩
theorem RT.drew (R : Nat) (w : World) : RT R w w.drew := ⟨(Below.refl _ _).drew, KeepBut.drew _⟩
theorem RT.setCell {R : Nat} (w : World) (o : Nat) (v : Value) : RT R w (w.setCell ⟨R, o, none⟩ v) := ⟨(Below.refl R w).setCell (p := ⟨R, o, none⟩) (Nat.le_refl R) v, KeepBut.setCell (by simp) v⟩
theorem RT.rd {R : Nat} {w w' : World} (h : RT R w w') {v : Value} {l : List UInt8} (hr : RdV w [R] v l) : RdV w' [R] v l := hr.keep h.keep
theorem RT.row {R : Nat} {w w' : World} (h : RT R w w') {b n : Nat} {t : TypeId} {f : Nat → Value} (hb : b ≠ R) (hr : w.rowIs b t n f) : w'.rowIs b t n f := h.keep.row (by simpa using hb) hr
theorem RT.size {R : Nat} {w w' : World} (h : RT R w w') : w.heap.size ≤ w'.heap.size := h.below.size
/-- It reads as l, in a block ahead of R. -/
def Rest (w : World) (R : Nat) (v : Value) (l : List UInt8) : Prop := ∀ L, (∀ k ∈ L, R ≤ k) → RdV w L v l
theorem Rest.rd {w : World} {R : Nat} {v : Value} {l : List UInt8} (h : Rest w R v l) : RdV w [R] v l := h [R] (by simp)
theorem Rest.new {w w' : World} {R : Nat} {v : Value} {l : List UInt8} (h : Rest w R v l) (hN : NewT w w') : Rest w' R v l := fun L hL => hN.rd (h L hL)
theorem Rest.keep {w w' : World} {R : Nat} {v : Value} {l : List UInt8} (h : Rest w R v l) {G : List Nat} (hG : ∀ k ∈ G, R ≤ k) (hK : KeepBut G w w') : Rest w' R v l := fun L hL => by
  have h1 := h (G ++ L) (fun k hk => by rcases List.mem_append.1 hk with hk | hk; exact hG k hk; exact hL k hk)
  obtain ⟨A, cap, hv, h1, h2, h3⟩ := h1.keep (hK.more fun k hk => List.mem_append.2 (.inl hk))
  refine ⟨A, cap, hv, h1, h2, fun h0 => ?_⟩
  obtain ⟨b, o, hA, hb, hc⟩ := h3 h0
  exact ⟨b, o, hA, fun hm => hb (List.mem_append.2 (.inr hm)), hc⟩
/-- Block R is a reader: l is left, its error is e. -/
def Rdr (w : World) (R : Nat) (l : List UInt8) (e : Int) : Prop :=
  ∃ v, w.rowIs R 62 2 (fun i => if i = 0 then v else .int .i64 e) ∧ Rest w R v l ∧ (e ≠ 0 → l = [])
theorem Rdr.new {w w' : World} {R : Nat} {l : List UInt8} {e : Int} (h : Rdr w R l e) (hN : NewT w w') : Rdr w' R l e := by
  obtain ⟨v, h1, h2, h3⟩ := h
  exact ⟨v, hN.row h1, h2.new hN, h3⟩
/-- Blocks behind R are written. -/
theorem Rdr.keep {w w' : World} {R : Nat} {l : List UInt8} {e : Int} (h : Rdr w R l e) {G : List Nat} (hG : ∀ k ∈ G, R < k) (hK : KeepBut G w w') : Rdr w' R l e := by
  obtain ⟨v, h1, h2, h3⟩ := h
  exact ⟨v, hK.row (fun hm => by have := hG _ hm; omega) h1, h2.keep (fun k hk => by have := hG k hk; omega) hK, h3⟩
theorem Rdr.lt {w : World} {R : Nat} {l : List UInt8} {e : Int} (h : Rdr w R l e) : R < w.heap.size := by
  obtain ⟨v, h1, _⟩ := h; exact h1.lt
theorem Rdr.drew {w : World} {R : Nat} {l : List UInt8} {e : Int} (h : Rdr w R l e) : Rdr w.drew R l e := h.new (NewT.drew w)

set_option maxHeartbeats 400000 in
theorem Bad_any (R : Nat) (l : List UInt8) (e : Int) (w : World) (h : Rdr w R l e) : Cv 47 #[.pointer (some ⟨R, 0, none⟩)] w (.eq (.int .i64 e)) := by
  obtain ⟨v, h1, h2, h3⟩ := h
  have c1 := h1.cell (i := 1) (by omega)
  unfold Cv
  go_enter Tryd.func47, Tryd.ntmps47
  go_wp2
  go_ret
  exact ⟨_, rfl, NewT.refl _, rfl⟩
set_option maxHeartbeats 400000 in
theorem Left_any (R : Nat) (l : List UInt8) (e : Int) (w : World) (h : Rdr w R l e) : Cv 27 #[.pointer (some ⟨R, 0, none⟩)] w (.eq (.int .i64 (l.length : Int))) := by
  obtain ⟨v, h1, h2, h3⟩ := h
  have c0 := h1.cell (i := 0) (by omega)
  obtain ⟨A, c, rfl, _⟩ := h2.rd
  unfold Cv
  go_enter Tryd.func27, Tryd.ntmps27
  go_wp2
  go_ret
  exact ⟨_, rfl, NewT.refl _, rfl⟩
theorem NewT.of_eq {w w' : World} (h : w = w') : NewT w w' := h ▸ NewT.refl w
set_option maxHeartbeats 400000 in
theorem Done_any (R : Nat) (l : List UInt8) (e : Int) (w : World) (h : Rdr w R l e) : Cv 43 #[.pointer (some ⟨R, 0, none⟩)] w (.eq (.int .i64 (if 0 < l.length then 2 else e))) := by
  have H := Lib.hid h
  clear h
  unfold Cv
  by_cases hl : 0 < l.length
  · have i0 : (0 : Int) < (l.length : Int) := by omega
    go_enter Tryd.func43, Tryd.ntmps43
    go_wp2_with (go_at_call 27; refine (Left_any R l e w H.out).eq.mono ?_; rintro _ w' ⟨rfl, hB⟩)
    go_ret
    exact ⟨_, rfl, hB, rfl⟩
  · have i0 : ¬ (0 : Int) < (l.length : Int) := by omega
    go_enter Tryd.func43, Tryd.ntmps43
    go_wp2_with (first
      | (go_at_call 27; refine (Left_any R l e w H.out).eq.mono ?_; rintro _ w' ⟨rfl, hB⟩)
      | (go_at_call 47; refine (Bad_any R l e w' (H.out.new hB)).eq.mono ?_; rintro _ w2 ⟨rfl, hB2⟩))
    go_ret
    exact ⟨_, rfl, NewT.trans _ _ _ hB hB2, rfl⟩
set_option maxHeartbeats 400000 in
/-- A reader that isn't bad is made so. -/
theorem Fail_good (R : Nat) (l : List UInt8) (x : Int) (hx : x ≠ 0) (w : World) (h : Rdr w R l 0) : Calls Tryd.prog 46 #[.pointer (some ⟨R, 0, none⟩), .int .i64 x] w fun e w' => e = .returned (.tuple #[]) ∧ RT R w w' ∧ Rdr w' R [] x := by
  have H := Lib.hid h
  clear h
  have hd : (x != 0) = true := by simpa using hx
  go_enter Tryd.func46, Tryd.ntmps46
  go_wp2_with (go_at_call 47; refine (Bad_any R l 0 w H.out).eq.mono ?_; rintro _ w' ⟨rfl, hB⟩; obtain ⟨v, h1, h2, h3⟩ := H.out.new hB; have f0 := h1.frozen 0; have f1 := h1.frozen 1; have c0 := h1.cell (i := 0) (by omega); have c1 := h1.cell (i := 1) (by omega); simp only [if_true, if_false, Nat.one_ne_zero] at c0 c1)
  go_end0
  have hR : R < w.heap.size := H.out.lt
  refine ⟨rfl, RT.trans _ _ _ (RT.new hR hB) (RT.trans _ _ _ (RT.setCell w' 0 _) (RT.setCell _ 1 _)), .slice none 0 0, ?_, fun _ _ => rdV_nil _ _, fun _ => rfl⟩
  exact ((h1.set 0 _).set 1 _).congr fun i hi => by
    have : i = 0 ∨ i = 1 := by omega
    rcases this with rfl | rfl <;> simp
end Go.Proofs.YthgblcpekhiphaaDoor
/- What puts: Flag, All, Bytes, Hash; Clone; a new reader. -/
namespace Go.Proofs.YthgblcpekhiphaaDoor
open Go Go.RowKit
set_option maxRecDepth 8000

theorem rdN_own {W w : World} {v : Value} {n : Nat} {l : List UInt8} (h : w.ownsRow W.heap.size 5 1 v n (l.map fun b => .int .u8 (bN b))) (hl : l.length = n) : (svRdN W l).pred v w :=
  fun _ hL => rdV_own h hl hL
set_option maxHeartbeats 400000 in
theorem Flag_cv (b : Bool) (w : World) : Cv 77 #[.bool b] w (svRdN w [if b then 1 else 0]) := by
  unfold Cv
  have hr : ∀ x : UInt8, (w.alloc (.cells #[.int .u8 (bN x)] 5)).ownsRow w.heap.size 5 1 (.slice (some ⟨w.heap.size, 0, none⟩) 1 1) 1 ([x].map fun b => .int .u8 (bN b)) := fun x => by
    have := ownsRow_row (rowIs_box w 5 1 (fun _ => .int .u8 (bN x))) w.heap.size 1 (by omega) (by unfold maxLen; omega) (Nat.le_refl _)
    exact this
  have Hr := Lib.hid hr
  clear hr
  cases b
  · go_enter Tryd.func77, Tryd.ntmps77
    go_wp2
    go_ret
    exact ⟨_, rfl, NewT.alloc _ _, rdN_own (Hr.out 0) rfl⟩
  · go_enter Tryd.func77, Tryd.ntmps77
    go_wp2
    go_ret
    exact ⟨_, rfl, NewT.alloc _ _, rdN_own (Hr.out 1) rfl⟩
theorem flat_take_succ (ps : List (Value × List UInt8)) (k : Nat) (x : Value × List UInt8) (h : ps[k]? = some x) : flat (ps.take (k + 1)) = flat (ps.take k) ++ x.2 := by
  rw [List.take_add_one, h]; exact flat_snoc _ _
theorem flat_take_le (ps : List (Value × List UInt8)) (k : Nat) : (flat (ps.take k)).length ≤ (flat ps).length := by
  have e : flat ps = flat (ps.take k) ++ flat (ps.drop k) := by
    unfold flat; rw [← List.flatten_append, ← List.map_append, List.take_append_drop]
  rw [e]; simp
set_option maxHeartbeats 1000000 in
theorem All_any (pv : Value) (ps : List (Value × List UInt8)) (w : World) (hp : PartsAt w [] pv ps) (ht : (flat ps).length ≤ 1000000) : Cv 25 #[pv] w (svRdN w (flat ps)) := by
  unfold Cv
  obtain ⟨A, cap, rfl, h1, h2, h3, h4⟩ := hp
  have H3 := Lib.hid h3
  have H4 := Lib.hid h4
  clear h3 h4
  unfold maxLen at h2
  obtain ⟨i0, hi, hz0, hz1, hz2⟩ := info_parts info5
  generalize hn : ps.length = n at *
  go_enter Tryd.func25, Tryd.ntmps25
  go_wp2
  go_loopw [3, 8] (fun v i wr => ∃ k : Nat, k ≤ n ∧ i = .int .i64 k ∧ wr.ownsRow w.heap.size 5 1 v (flat (ps.take k)).length ((flat (ps.take k)).map fun b => .int .u8 (bN b)) ∧ Below w.heap.size w wr) (fun _ i _ => n - (intOf i).toNat)
  case atStart => exact ⟨0, by omega, rfl, World.ownsRow_nil _ _ _ _, Below.refl _ _⟩
  case round =>
    obtain ⟨k, hk, rfl, hown, qB⟩ := hrel
    by_cases hlt : k < n
    · obtain ⟨b, o, rfl, _, hcells⟩ := H3.out (by omega)
      have hx : ps[k]? = some ps[k] := List.getElem?_eq_getElem (by omega)
      have hc := (KeepBut.below (L := []) qB).cell (a := ⟨b, o + k, none⟩) (by simp) (hcells k _ hx)
      have hrd := (H4.out ps[k] (List.getElem_mem (by omega))).keep (KeepBut.below qB)
      have hfs := flat_take_succ ps k _ hx
      have hfl := flat_take_le ps (k + 1)
      rw [hfs, List.length_append] at hfl
      generalize ps[k] = x at hc hrd hfs hfl
      have Hfs := Lib.hid hfs
      have Hrd := Lib.hid hrd
      clear hfs hrd hx hcells
      generalize hm : (flat (ps.take k)).length = m at hown hfl
      go_wp2_with (at_builtin; refine wpList_append_rd rfl (.tmp 12) (.tmp 13) 25 rfl (base := w.heap.size) Tryd.underlying25 hi hz0 hz1 hz2 rfl hown rfl Hrd.out (by omega) qB.size ?_; intro v2 w2 o2 grow2)
      go_roundw
      case rel =>
        refine ⟨k + 1, by omega, by go_num, ?_, qB.grown grow2 qB.size (fun k e => (hown.lt k e).1)⟩
        rw [Hfs.out, List.length_append, List.map_append, hm]; exact o2
      case measure => simp [intOf]; omega
    · obtain rfl : k = n := by omega
      rw [← hn, List.take_length] at hown
      go_wp2
      go_ret
      exact ⟨_, rfl, qB, rdN_own hown rfl⟩
theorem All_cv (pv : Value) (ls : List (List UInt8)) (l : List UInt8) (w : World) (hp : Parts w pv ls) (hl : ls.flatten = l) (ht : l.length ≤ 1000000) : Cv 25 #[pv] w (svRdN w l) := by
  obtain ⟨ps, hp, rfl⟩ := hp
  subst hl
  exact All_any pv ps w hp ht
end Go.Proofs.YthgblcpekhiphaaDoor
/- Clone; Bytes, Hash; a new reader. -/
namespace Go.Proofs.YthgblcpekhiphaaDoor
open Go Go.RowKit
set_option maxRecDepth 8000

set_option maxHeartbeats 400000 in
theorem Clone_cv (v : Value) (l : List UInt8) (L : List Nat) (w : World) (h : RdV w L v l) (hl : l.length ≤ 1000000) : Cv 35 #[v] w (svRdN w l) := by
  unfold Cv
  have H := Lib.hid h
  obtain ⟨A, cap, rfl, h1, h2, h3⟩ := h
  obtain ⟨i0, hi, hz0, hz1, hz2⟩ := info_parts info5
  have hq : ∀ (w : World) (a : Option Addr) (n c n' c' : Nat), (binOp .eql 25 (.slice a n c) (.slice none n' c')).run Tryd.prog w = .ok (.bool a.isNone) w := fun w a n c n' c' => Lib.run_eql_slice_nil w _ _ a n c n' c' Tryd.underlying25
  cases A with
  | none =>
    have h0 : l = [] := by
      cases l with
      | nil => rfl
      | cons b l => obtain ⟨_, _, h, _⟩ := h3 (by simp); cases h
    subst h0
    clear h3
    go_enter Tryd.func35, Tryd.ntmps35
    go_wp2
    go_ret
    exact ⟨_, rfl, NewT.refl _, fun L _ => rdV_nil _ _⟩
  | some a =>
    clear h3
    have r0 : (w.alloc (.cells #[] 5)).rowIs w.heap.size 5 0 (fun _ => undef) := rowIs_box w 5 0 (fun _ => undef)
    have o0 := ownsRow_row r0 w.heap.size 0 (by omega) (by unfold maxLen; omega) (Nat.le_refl _)
    have hB : Below w.heap.size w (w.alloc (.cells #[] 5)) := (Below.refl _ w).alloc (Nat.le_refl _) _
    have Hrd := Lib.hid (H.out.keep (KeepBut.below hB))
    generalize hn : l.length = n at *
    go_enter Tryd.func35, Tryd.ntmps35
    go_wp2_with (at_builtin; refine wpList_append_rd rfl (.tmp 5) (.tmp 6) 25 rfl (base := w.heap.size) Tryd.underlying25 hi hz0 hz1 hz2 rfl o0 rfl Hrd.out (by omega) hB.size ?_; intro v2 w2 o2 grow2)
    go_ret
    exact ⟨_, rfl, hB.grown grow2 hB.size (fun k e => (o0.lt k e).1), rdN_own o2 (by omega)⟩
set_option maxHeartbeats 1000000 in
theorem WBytes_cv (v : Value) (l : List UInt8) (w : World) (h : RdV w [] v l) (hl : l.length ≤ 900000) : Cv 78 #[v] w (svRdN w (numL l.length ++ l)) := by
  unfold Cv
  have H := Lib.hid h
  obtain ⟨A, cap, rfl, h1, h2, h3⟩ := h
  clear h3
  generalize hn : l.length = n at *
  have h5 := sz_le n
  have hnl : (numL n).length ≤ 5 := by rw [numL_length]; exact h5
  have hni := numI_nat n (by omega)
  generalize numL n = m at hnl hni
  have Hn := Lib.hid hn
  have Hni := Lib.hid hni
  clear hn hni h5
  go_enter Tryd.func78, Tryd.ntmps78
  go_wp2_with (first
    | (go_at_call 38; refine Calls.mono (Num_cv n w) ?_; rintro _ w1 ⟨v1, rfl, hN1, hv1⟩; rw [Hni.out] at hv1; obtain ⟨A1, c1, rfl⟩ := rdV_form (hv1 [] (by simp)))
    | (go_at_call 25
       have hP : Parts (w1.alloc (.cells #[.slice A1 m.length c1, .slice A n cap] 25)) (.slice (some ⟨w1.heap.size, 0, none⟩) 2 2) [m, l] :=
         ⟨[(.slice A1 m.length c1, m), (.slice A n cap, l)], parts_new [(.slice A1 m.length c1, m), (.slice A n cap, l)] 25 (by simp) (by simp) (by simp; exact ⟨hv1 [] (by simp), hN1.rd H.out⟩), rfl⟩
       refine Calls.mono (All_cv _ [m, l] (m ++ l) _ hP (by simp) (by have := Hn.out; simp; omega)) ?_; rintro _ w2 ⟨v2, rfl, hN2, hv2⟩))
  go_ret
  refine ⟨_, rfl, NewT.trans _ _ _ hN1 (NewT.trans _ _ _ (NewT.alloc _ _) hN2), fun L hL => hv2 L fun k hk => ?_⟩
  have := hL k hk
  have := hN1.out.size
  simp; omega
set_option maxHeartbeats 1000000 in
theorem WHash_cv (d : Nat → UInt8) (w : World) : Cv 76 #[.agg (rowA 32 (bF d))] w (svRdN w (digL d)) := by
  unfold Cv
  have r0 := rowIs_box w 23 32 (bF d)
  have hN : NewT w (w.alloc (.cells (rowA 32 (bF d)) 23)) := NewT.alloc _ _
  have hrd : RdV _ [] _ (digL d) := rd_row (L := []) r0 (by simp) (by omega)
  have hsl := run_sliceAt_hash
  go_enter Tryd.func76, Tryd.ntmps76
  go_wp2_with (first
    | (go_at_call 25
       have hP : Parts ((w.alloc (.cells (rowA 32 (bF d)) 23)).alloc (.cells #[.slice (some ⟨w.heap.size, 0, none⟩) 32 32] 25)) (.slice (some ⟨w.heap.size + 1, 0, none⟩) 1 1) [digL d] := by
         have := parts_new (L := []) [(.slice (some ⟨w.heap.size, 0, none⟩) 32 32, digL d)] 25 (by simp) (by simp) (W := w.alloc (.cells (rowA 32 (bF d)) 23)) (by simpa using hrd)
         rw [World.size_alloc] at this
         exact ⟨[(.slice (some ⟨w.heap.size, 0, none⟩) 32 32, digL d)], this, rfl⟩
       refine Calls.mono (All_cv _ [digL d] (digL d) _ hP (by simp) (by rw [digL_length]; omega)) ?_; rintro _ w2 ⟨v2, rfl, hN2, hv2⟩))
  go_ret
  refine ⟨_, rfl, NewT.trans _ _ _ hN (NewT.trans _ _ _ (NewT.alloc _ _) hN2), fun L hL => hv2 L fun k hk => ?_⟩
  have := hL k hk
  simp; omega
set_option maxHeartbeats 1000000 in
/-- A new reader. -/
theorem Read_any (v : Value) (l : List UInt8) (w : World) (h : RdV w [] v l) (hl : l.length ≤ 1000000) : Calls Tryd.prog 24 #[v] w fun e w' => ∃ R, e = .returned (.pointer (some ⟨R, 0, none⟩)) ∧ NewT w w' ∧ w.heap.size ≤ R ∧ Rdr w' R l 0 := by
  have H := Lib.hid h
  clear h
  go_enter Tryd.func24, Tryd.ntmps24
  go_wp2_with (go_at_call 35; refine Calls.mono (Clone_cv v l [] w H.out hl) ?_; rintro _ w1 ⟨v1, rfl, hN1, hv1⟩; obtain ⟨A1, c1, hv1e⟩ := rdV_form (hv1 [] (by simp)))
  go_ret
  refine ⟨_, rfl, NewT.trans _ _ _ hN1 (NewT.alloc _ _), hN1.out.size, v1, ?_, ?_, fun h => absurd rfl h⟩
  · rw [hv1e]
    exact (rowIs_box w1 62 2 (fun i => if i = 0 then .slice A1 l.length c1 else .int .i64 0))
  · exact fun L hL => ((hv1 [] (by simp)).more (fun k hk _ hm => by have := hL k hm; omega)).keep (KeepBut.alloc _ _)
end Go.Proofs.YthgblcpekhiphaaDoor
/- Bytes are read as a number: wire.number. -/
namespace Go.Proofs.YthgblcpekhiphaaDoor
open Go Go.RowKit
set_option maxRecDepth 8000

theorem and127b (c : UInt8) : bits .and .u8 (bN c) 127 = ((c.toNat % 128 : Nat) : Int) := by
  have h : ∀ k : Fin 256, bits .and .u8 (k.val : Int) 127 = ((k.val % 128 : Nat) : Int) := by decide +kernel
  have := h ⟨c.toNat, c.toNat_lt⟩
  exact this
theorem and128b (c : UInt8) : bits .and .u8 (bN c) 128 = if 128 ≤ c.toNat then 128 else 0 := by
  have h : ∀ k : Fin 256, bits .and .u8 (k.val : Int) 128 = if 128 ≤ k.val then 128 else 0 := by decide +kernel
  have := h ⟨c.toNat, c.toNat_lt⟩
  exact this
theorem or7 (v m : Nat) (hm : m < 128) (hv : v < 1125899906842624) : bits .or .u64 ((v : Int) * 128) (m : Int) = ((v * 128 + m : Nat) : Int) := by
  show IntKind.u64.wrap (((BitVec.ofInt 64 ((v : Int) * 128) ||| BitVec.ofInt 64 (m : Int)).toNat : Nat) : Int) = _
  have e1 : BitVec.ofInt 64 ((v : Int) * 128) = BitVec.ofNat 64 (v * 128) := by
    rw [show (v : Int) * 128 = ((v * 128 : Nat) : Int) by omega, BitVec.ofInt_natCast]
  rw [e1, BitVec.ofInt_natCast, BitVec.toNat_or, BitVec.toNat_ofNat, BitVec.toNat_ofNat, Nat.mod_eq_of_lt (by omega), Nat.mod_eq_of_lt (by omega)]
  have := Nat.shiftLeft_add_eq_or_of_lt (b := m) (i := 7) (by omega) v
  rw [Nat.shiftLeft_eq] at this
  rw [show v * 128 = v * 2 ^ 7 by omega, ← this]
  simp [IntKind.wrap, IntKind.bits, IntKind.signed]
  omega
theorem drop_bAt (l : List UInt8) (k : Nat) (h : k < l.length) : l.drop k = bAt l k :: l.drop (k + 1) := by
  rw [List.drop_eq_getElem_cons h]; simp [bAt, h]
/-- What is read, as values. -/
def numV (r : Nat × Nat × Nat) : Value := .tuple #[.int .i64 (r.1 : Int), .int .i64 (r.2.1 : Int), .int .i64 (r.2.2 : Int)]
set_option maxHeartbeats 2000000 in
theorem number_cv (v : Value) (l : List UInt8) (L : List Nat) (w : World) (h : RdV w L v l) (hl : l.length ≤ 1000000) : Cv 67 #[v] w (.eq (numV (goN l 0 0))) := by
  unfold Cv
  obtain ⟨A, cap, rfl, h1, h2, h3⟩ := h
  have H3 := Lib.hid h3
  clear h3
  unfold maxLen at h2
  generalize hn : l.length = n at *
  have Hn := Lib.hid hn
  clear hn
  go_enter Tryd.func67, Tryd.ntmps67
  go_wp2
  go_loop [5, 10] (fun x i => ∃ k s : Nat, k ≤ n ∧ k ≤ 5 ∧ i = .int .i64 k ∧ x = .int .u64 (s : Int) ∧ Hid (s < 128 ^ k) ∧ Hid (goN l 0 0 = goN (l.drop k) k s)) (fun _ i => n - (intOf i).toNat)
  case atStart => exact ⟨0, 0, by omega, by omega, rfl, rfl, Lib.hid (by simp), Lib.hid rfl⟩
  case round =>
    obtain ⟨k, s, hk, hk5, rfl, rfl, Hs, Hg⟩ := hrel
    by_cases hlt : k < n
    · obtain ⟨b, o, rfl, _, hcell⟩ := H3.out (by omega)
      have c0 := hcell k hlt
      have Hd := Lib.hid (drop_bAt l k (by rw [Hn.out]; exact hlt))
      generalize bAt l k = c at c0 Hd
      have ht := c.toNat_lt
      have hs5 : s < 34359738368 := Nat.lt_of_lt_of_le Hs.out (Nat.le_trans (Nat.pow_le_pow_right (by omega) hk5) (by omega))
      have a7 := and127b c
      have a8 := and128b c
      have o7 := or7 s (c.toNat % 128) (by omega) (by omega)
      have Hg2 : Hid (goN l 0 0 = goN (c :: l.drop (k + 1)) k s) := Lib.hid (by rw [Hg.out, Hd.out])
      clear hcell Hg Hd
      have hbc : bN c = (c.toNat : Int) := rfl
      generalize hct : c.toNat = m at *
      have Hct := Lib.hid hct
      clear hct
      obtain ⟨r, hr⟩ : ∃ r, m % 128 = r := ⟨_, rfl⟩
      have hr7 : r < 128 := by omega
      rw [hr] at a7 o7
      have Hr := Lib.hid hr
      clear hr
      by_cases hbad : (k = 0 ∧ m = 128) ∨ k = 5
      · have hres : goN l 0 0 = (0, 0, 2) := by rw [Hg2.out, goN, if_pos (by rw [Hct.out]; exact hbad)]
        have Hres := Lib.hid hres
        clear hres a7 a8 o7
        rw [hbc] at c0
        clear hbc
        rcases hbad with ⟨hk0, hm8⟩ | hk0
        · have q0 : ((k : Int) == 0) = true := by simp; omega
          have q8 : ((m : Int) == 128) = true := by simp; omega
          clear hk0 hm8
          go_wp2
          go_ret3
          exact ⟨_, rfl, NewT.refl _, by rw [Hres.out]; rfl⟩
        · have q0 : ((k : Int) == 0) = false := by simp; omega
          have q5 : ((k : Int) == 5) = true := by simp; omega
          clear hk0
          go_wp2
          go_ret3
          exact ⟨_, rfl, NewT.refl _, by rw [Hres.out]; rfl⟩
      · rw [hbc] at c0 a7 a8
        clear hbc
        have hk4 : k ≤ 4 := by omega
        have q5 : ((k : Int) == 5) = false := by simp; omega
        have t1 : k = 0 → ((m : Int) == 128) = false := fun h => by
          simp; omega
        have T1 := Lib.hid t1
        clear t1
        by_cases hm : 128 ≤ m
        · rw [if_pos hm] at a8
          have hres : goN l 0 0 = goN (l.drop (k + 1)) (k + 1) (s * 128 + r) := by
            rw [Hg2.out, goN, if_neg (by rw [Hct.out]; exact hbad), if_pos (by rw [Hct.out]; exact hm), Hct.out, Hr.out]
          have Hres := Lib.hid hres
          have hsn : s * 128 + r < 128 ^ (k + 1) := by
            have := Hs.out
            rw [Nat.pow_succ]; omega
          have Hsn := Lib.hid hsn
          clear hres hsn hbad
          by_cases hk0 : k = 0
          · have q0 : ((k : Int) == 0) = true := by simp; omega
            have hm8 : ((m : Int) == 128) = false := T1.out hk0
            clear hk0
            go_wp2
            go_round
            case rel => exact ⟨k + 1, s * 128 + r, by omega, by omega, by go_num, rfl, Hsn, Hres⟩
            case measure => simp [intOf]; omega
          · have q0 : ((k : Int) == 0) = false := by simp; omega
            clear hk0
            go_wp2
            go_round
            case rel => exact ⟨k + 1, s * 128 + r, by omega, by omega, by go_num, rfl, Hsn, Hres⟩
            case measure => simp [intOf]; omega
        · rw [if_neg hm] at a8
          have hres : goN l 0 0 = if 2147483647 < s * 128 + r then (0, 0, 2) else (s * 128 + r, k + 1, 0) := by
            rw [Hg2.out, goN, if_neg (by rw [Hct.out]; exact hbad), if_neg (by rw [Hct.out]; exact hm), Hct.out, Hr.out]
          obtain ⟨s2, hs2⟩ : ∃ s2, s * 128 + r = s2 := ⟨_, rfl⟩
          rw [hs2] at hres o7
          have hs2b : s2 < 9223372036854775807 := by omega
          clear hbad hs2
          by_cases hmax : 2147483647 < s2
          · rw [if_pos hmax] at hres
            have Hres := Lib.hid hres
            clear hres
            by_cases hk0 : k = 0
            · have q0 : ((k : Int) == 0) = true := by simp; omega
              have hm8 : ((m : Int) == 128) = false := T1.out hk0
              clear hk0
              go_wp2
              go_ret3
              exact ⟨_, rfl, NewT.refl _, by rw [Hres.out]; rfl⟩
            · have q0 : ((k : Int) == 0) = false := by simp; omega
              clear hk0
              go_wp2
              go_ret3
              exact ⟨_, rfl, NewT.refl _, by rw [Hres.out]; rfl⟩
          · rw [if_neg hmax] at hres
            have Hres := Lib.hid hres
            clear hres
            by_cases hk0 : k = 0
            · have q0 : ((k : Int) == 0) = true := by simp; omega
              have hm8 : ((m : Int) == 128) = false := T1.out hk0
              clear hk0
              go_wp2
              go_ret3
              exact ⟨_, rfl, NewT.refl _, by rw [Hres.out]; rfl⟩
            · have q0 : ((k : Int) == 0) = false := by simp; omega
              clear hk0
              go_wp2
              go_ret3
              exact ⟨_, rfl, NewT.refl _, by rw [Hres.out]; rfl⟩
    · obtain rfl : k = n := by omega
      have hres : goN l 0 0 = (0, 0, 3) := by rw [Hg.out, List.drop_of_length_le (by rw [Hn.out]; exact Nat.le_refl _), goN]
      have Hres := Lib.hid hres
      clear hres
      go_wp2
      go_ret3
      exact ⟨_, rfl, NewT.refl _, by rw [Hres.out]; rfl⟩
end Go.Proofs.YthgblcpekhiphaaDoor
/- A reader reads a number: take[int], Num. -/
namespace Go.Proofs.YthgblcpekhiphaaDoor
open Go Go.RowKit
set_option maxRecDepth 8000

/-- What stands behind the first k bytes. -/
theorem rd_from {w : World} {L : List Nat} {b o n cap k : Nat} {l : List UInt8} (h : RdV w L (.slice (some ⟨b, o, none⟩) n cap) l) (hk : k ≤ n) :
    RdV w L (.slice (some (if cap = k then ⟨b, o, none⟩ else (⟨b, o, none⟩ : Addr).add k)) (n - k) (cap - k)) (l.drop k) := by
  obtain ⟨A, c, hv, h1, h2, h3⟩ := h
  cases hv
  refine ⟨some (if cap = k then ⟨b, o, none⟩ else (⟨b, o, none⟩ : Addr).add k), cap - k, by simp, by simp; omega, by omega, fun h0 => ?_⟩
  simp at h0
  obtain ⟨b', o', hA, hb, hc⟩ := h3 (by omega)
  cases hA
  refine ⟨b, o + k, by rw [if_neg (by omega), Addr.add_mid], hb, fun i hi => ?_⟩
  simp at hi
  rw [Nat.add_assoc, hc (k + i) (by omega)]
  simp [bAt]
/-- The reader stands elsewhere. -/
theorem Rdr.put {w w' : World} {R : Nat} {v v' : Value} {e e' : Int} {l' : List UInt8} (h1 : w.rowIs R 62 2 (fun i => if i = 0 then v else .int .i64 e)) (hw : w.setCell ⟨R, 0, none⟩ v' = w') (hr : Rest w R v' l') (he : e = e') (hz : e' = 0) : Rdr w' R l' e' := by
  subst hw he
  refine ⟨v', (h1.set 0 v').congr fun i hi => ?_, hr.keep (by simp) (RT.setCell (R := R) w 0 v').keep, fun h => absurd hz h⟩
  by_cases h0 : i = 0
  · simp [h0]
  · simp [h0]
/-- What a number that is asked for turns a reader that isn't bad to. -/
def outN (l : List UInt8) : Nat × List UInt8 × Nat := if (goN l 0 0).2.2 = 0 then ((goN l 0 0).1, l.drop (goN l 0 0).2.1, 0) else (0, [], (goN l 0 0).2.2)
set_option maxHeartbeats 2000000 in
theorem takeN_good (R : Nat) (l : List UInt8) (w : World) (h : Rdr w R l 0) (hl : l.length ≤ 1000000) :
    Calls Tryd.prog 66 #[.pointer (some ⟨R, 0, none⟩), .func (.func 67) #[] #[]] w fun ev w' => ev = .returned (.int .i64 ((outN l).1 : Int)) ∧ RT R w w' ∧ Rdr w' R (outN l).2.1 ((outN l).2.2 : Int) := by
  have H := Lib.hid h
  have hR := h.lt
  clear h
  obtain ⟨g, hg⟩ : ∃ g, goN l 0 0 = g := ⟨_, rfl⟩
  have hb := goN_bounds l 0 0
  have her := goN_err l 0 0
  unfold outN
  rw [hg] at hb her ⊢
  obtain ⟨n, k, er⟩ := g
  simp only at hb her ⊢
  have Hb := Lib.hid hb
  have Her := Lib.hid her
  have Hg := Lib.hid hg
  clear hb her hg
  by_cases he : er = 0
  · subst he
    obtain ⟨hn, hk0, hkl⟩ := Hb.out rfl
    rw [if_pos rfl]
    clear Hb Her
    obtain ⟨v, r1, rs, _⟩ := H.out
    have r2 := rs.rd
    obtain ⟨A, cap, rfl, hc1, hc2, hA⟩ := id r2
    obtain ⟨b, o, rfl, _, _⟩ := hA (by omega)
    clear hA
    have hsl := slice_from (P := Tryd.prog) 25 5 Tryd.underlying25 info5s ⟨b, o, none⟩ l.length cap k (by omega)
    have hfr : Rest w R _ _ := fun L hL => rd_from (k := k) (rs L hL) (by omega)
    obtain ⟨ad, had⟩ : ∃ ad, (if cap = k then (⟨b, o, none⟩ : Addr) else (⟨b, o, none⟩ : Addr).add k) = ad := ⟨_, rfl⟩
    rw [had] at hsl hfr
    clear had
    go_enter Tryd.func66, Tryd.ntmps66
    go_wp2_with (first
      | (go_at_call 47; refine (Bad_any R l 0 w H.out).eq.mono ?_; rintro _ w1 ⟨rfl, hB1⟩; have r1' := NewT.row hB1 r1; have r2' := NewT.rd hB1 r2; have c0 := r1'.cell (i := 0) (by omega); simp only [if_true] at c0)
      | (go_at_call 67; refine (number_cv _ l [R] w1 r2' hl).eq.mono ?_; rintro _ w2 ⟨rfl, hB2⟩; rw [Hg.out]; simp only [numV]; have r3 := NewT.row hB2 r1'; have c2 := r3.cell (i := 0) (by omega); have f2 := r3.frozen 0; simp only [if_true] at c2))
    go_ret
    have hN := NewT.trans _ _ _ hB1 hB2
    exact ⟨rfl, RT.trans _ _ _ (RT.new hR hN) (RT.setCell _ 0 _), Rdr.put r3 rfl (hfr.new hN) rfl rfl⟩
  · rw [if_neg he]
    obtain ⟨hz, h23⟩ := Her.out he
    simp only [Prod.mk.injEq] at hz
    obtain ⟨rfl, rfl, _⟩ := hz
    obtain ⟨v, r1, rs, _⟩ := H.out
    have r2 := rs.rd
    have hbe : ((er : Int) != 0) = true := by simp; omega
    have hne : (er : Int) ≠ 0 := by omega
    have Hne := Lib.hid hne
    clear Hb Her he hne
    go_enter Tryd.func66, Tryd.ntmps66
    go_wp2_with (first
      | (go_at_call 47; refine (Bad_any R l 0 w H.out).eq.mono ?_; rintro _ w1 ⟨rfl, hB1⟩; have r1' := NewT.row hB1 r1; have r2' := NewT.rd hB1 r2; have c0 := r1'.cell (i := 0) (by omega); simp only [if_true] at c0)
      | (go_at_call 67; refine (number_cv _ l [R] w1 r2' hl).eq.mono ?_; rintro _ w2 ⟨rfl, hB2⟩; rw [Hg.out]; simp only [numV])
      | (go_at_call 46; refine (Fail_good R l er Hne.out w2 (H.out.new (NewT.trans _ _ _ hB1 hB2))).mono ?_; rintro _ w3 ⟨rfl, hT3, hR3⟩))
    go_ret
    exact ⟨rfl, RT.trans _ _ _ (RT.new hR (NewT.trans _ _ _ hB1 hB2)) hT3, hR3⟩
set_option maxHeartbeats 400000 in
theorem RNum_good (R : Nat) (l : List UInt8) (w : World) (h : Rdr w R l 0) (hl : l.length ≤ 1000000) :
    Calls Tryd.prog 44 #[.pointer (some ⟨R, 0, none⟩)] w fun ev w' => ev = .returned (.int .i64 ((outN l).1 : Int)) ∧ RT R w w' ∧ Rdr w' R (outN l).2.1 ((outN l).2.2 : Int) := by
  have H := Lib.hid h
  clear h
  go_enter Tryd.func44, Tryd.ntmps44
  go_wp2_with (go_at_call 66; refine (takeN_good R l w H.out hl).mono ?_; rintro _ w1 ⟨rfl, hT, hr⟩)
  go_ret
  exact ⟨rfl, hT, hr⟩
end Go.Proofs.YthgblcpekhiphaaDoor
/- A reader reads a flag: take[bool], Flag. -/
namespace Go.Proofs.YthgblcpekhiphaaDoor
open Go Go.RowKit
set_option maxRecDepth 8000

/-- Bytes read as a flag: it, how many bytes it has, the error. -/
def goF : List UInt8 → Bool × Nat × Nat
  | [] => (false, 0, 3)
  | c :: _ => if 1 < c.toNat then (false, 0, 2) else (c.toNat == 1, 1, 0)
theorem goF_bounds (l : List UInt8) : (goF l).2.2 = 0 → (goF l).2.1 = 1 ∧ 1 ≤ l.length := by
  cases l with
  | nil => simp [goF]
  | cons c r => rw [goF]; split <;> simp
theorem goF_err (l : List UInt8) : (goF l).2.2 ≠ 0 → goF l = (false, 0, (goF l).2.2) ∧ ((goF l).2.2 = 2 ∨ (goF l).2.2 = 3) := by
  cases l with
  | nil => simp [goF]
  | cons c r => rw [goF]; split <;> simp
def flagV (r : Bool × Nat × Nat) : Value := .tuple #[.bool r.1, .int .i64 (r.2.1 : Int), .int .i64 (r.2.2 : Int)]
set_option maxHeartbeats 1000000 in
theorem flag1_cv (v : Value) (l : List UInt8) (L : List Nat) (w : World) (h : RdV w L v l) : Cv 90 #[v] w (.eq (flagV (goF l))) := by
  unfold Cv
  obtain ⟨A, cap, rfl, h1, h2, h3⟩ := h
  unfold maxLen at h2
  cases l with
  | nil =>
    clear h3
    go_enter Tryd.func90, Tryd.ntmps90
    go_wp2
    go_ret3
    exact ⟨_, rfl, NewT.refl _, rfl⟩
  | cons c r =>
    obtain ⟨b, o, rfl, _, hc⟩ := h3 (by simp)
    have c0 := hc 0 (by simp)
    rw [show bAt (c :: r) 0 = c from rfl, Nat.add_zero] at c0
    clear hc h3
    have hbc : bN c = (c.toNat : Int) := rfl
    rw [hbc] at c0
    have Hres : Hid (goF (c :: r) = if 1 < c.toNat then (false, 0, 2) else (c.toNat == 1, 1, 0)) := Lib.hid rfl
    have ht := c.toNat_lt
    generalize hm : c.toNat = m at *
    have Hm := Lib.hid hm
    clear hm hbc
    obtain ⟨n, hn⟩ : ∃ n, (c :: r).length = n := ⟨_, rfl⟩
    have hn1 : 1 ≤ n := by rw [← hn]; simp
    rw [hn] at h1 ⊢
    clear hn
    have q0 : ((n : Int) == 0) = false := by simp; omega
    by_cases h1m : 1 < m
    · rw [if_pos h1m] at Hres
      go_enter Tryd.func90, Tryd.ntmps90
      go_wp2
      go_ret3
      exact ⟨_, rfl, NewT.refl _, by rw [Hres.out]; rfl⟩
    · rw [if_neg h1m] at Hres
      by_cases hm1 : m = 1
      · have q1 : ((m : Int) == 1) = true := by simp; omega
        have Hm1 := Lib.hid hm1
        clear hm1
        go_enter Tryd.func90, Tryd.ntmps90
        go_wp2
        go_ret3
        exact ⟨_, rfl, NewT.refl _, by rw [Hres.out, Hm1.out]; rfl⟩
      · have q1 : ((m : Int) == 1) = false := by simp; omega
        have Hm1 : Hid ((m == 1) = false) := Lib.hid (by simpa using hm1)
        clear hm1
        go_enter Tryd.func90, Tryd.ntmps90
        go_wp2
        go_ret3
        exact ⟨_, rfl, NewT.refl _, by rw [Hres.out, Hm1.out]; rfl⟩
/-- What a flag that is asked for turns a reader that isn't bad to. -/
def outQ (l : List UInt8) : Bool × List UInt8 × Nat := if (goF l).2.2 = 0 then ((goF l).1, l.drop (goF l).2.1, 0) else (false, [], (goF l).2.2)
set_option maxHeartbeats 2000000 in
theorem takeF_good (R : Nat) (l : List UInt8) (w : World) (h : Rdr w R l 0) (hl : l.length ≤ 1000000) :
    Calls Tryd.prog 89 #[.pointer (some ⟨R, 0, none⟩), .func (.func 90) #[] #[]] w fun ev w' => ev = .returned (.bool (outQ l).1) ∧ RT R w w' ∧ Rdr w' R (outQ l).2.1 ((outQ l).2.2 : Int) := by
  have H := Lib.hid h
  have hR := h.lt
  clear h
  obtain ⟨g, hg⟩ : ∃ g, goF l = g := ⟨_, rfl⟩
  have hb := goF_bounds l
  have her := goF_err l
  unfold outQ
  rw [hg] at hb her ⊢
  obtain ⟨n, k, er⟩ := g
  simp only at hb her ⊢
  have Hb := Lib.hid hb
  have Her := Lib.hid her
  have Hg := Lib.hid hg
  clear hb her hg
  by_cases he : er = 0
  · subst he
    obtain ⟨hk1, hl1⟩ := Hb.out rfl
    have hkl : k ≤ l.length := by omega
    clear hk1
    rw [if_pos rfl]
    clear Hb Her
    obtain ⟨v, r1, rs, _⟩ := H.out
    have r2 := rs.rd
    obtain ⟨A, cap, rfl, hc1, hc2, hA⟩ := id r2
    obtain ⟨b, o, rfl, _, _⟩ := hA (by omega)
    clear hA
    have hsl := slice_from (P := Tryd.prog) 25 5 Tryd.underlying25 info5s ⟨b, o, none⟩ l.length cap k (by omega)
    have hfr : Rest w R _ _ := fun L hL => rd_from (k := k) (rs L hL) (by omega)
    obtain ⟨ad, had⟩ : ∃ ad, (if cap = k then (⟨b, o, none⟩ : Addr) else (⟨b, o, none⟩ : Addr).add k) = ad := ⟨_, rfl⟩
    rw [had] at hsl hfr
    clear had
    go_enter Tryd.func89, Tryd.ntmps89
    go_wp2_with (first
      | (go_at_call 47; refine (Bad_any R l 0 w H.out).eq.mono ?_; rintro _ w1 ⟨rfl, hB1⟩; have r1' := NewT.row hB1 r1; have r2' := NewT.rd hB1 r2; have c0 := r1'.cell (i := 0) (by omega); simp only [if_true] at c0)
      | (go_at_call 90; refine (flag1_cv _ l [R] w1 r2').eq.mono ?_; rintro _ w2 ⟨rfl, hB2⟩; rw [Hg.out]; simp only [flagV]; have r3 := NewT.row hB2 r1'; have c2 := r3.cell (i := 0) (by omega); have f2 := r3.frozen 0; simp only [if_true] at c2))
    go_ret
    have hN := NewT.trans _ _ _ hB1 hB2
    exact ⟨rfl, RT.trans _ _ _ (RT.new hR hN) (RT.setCell _ 0 _), Rdr.put r3 rfl (hfr.new hN) rfl rfl⟩
  · rw [if_neg he]
    obtain ⟨hz, h23⟩ := Her.out he
    simp only [Prod.mk.injEq] at hz
    obtain ⟨rfl, rfl, _⟩ := hz
    obtain ⟨v, r1, rs, _⟩ := H.out
    have r2 := rs.rd
    have hbe : ((er : Int) != 0) = true := by simp; omega
    have hne : (er : Int) ≠ 0 := by omega
    have Hne := Lib.hid hne
    clear Hb Her he hne
    go_enter Tryd.func89, Tryd.ntmps89
    go_wp2_with (first
      | (go_at_call 47; refine (Bad_any R l 0 w H.out).eq.mono ?_; rintro _ w1 ⟨rfl, hB1⟩; have r1' := NewT.row hB1 r1; have r2' := NewT.rd hB1 r2; have c0 := r1'.cell (i := 0) (by omega); simp only [if_true] at c0)
      | (go_at_call 90; refine (flag1_cv _ l [R] w1 r2').eq.mono ?_; rintro _ w2 ⟨rfl, hB2⟩; rw [Hg.out]; simp only [flagV])
      | (go_at_call 46; refine (Fail_good R l er Hne.out w2 (H.out.new (NewT.trans _ _ _ hB1 hB2))).mono ?_; rintro _ w3 ⟨rfl, hT3, hR3⟩))
    go_ret
    exact ⟨rfl, RT.trans _ _ _ (RT.new hR (NewT.trans _ _ _ hB1 hB2)) hT3, hR3⟩
set_option maxHeartbeats 400000 in
theorem RFlag_good (R : Nat) (l : List UInt8) (w : World) (h : Rdr w R l 0) (hl : l.length ≤ 1000000) :
    Calls Tryd.prog 80 #[.pointer (some ⟨R, 0, none⟩)] w fun ev w' => ev = .returned (.bool (outQ l).1) ∧ RT R w w' ∧ Rdr w' R (outQ l).2.1 ((outQ l).2.2 : Int) := by
  have H := Lib.hid h
  clear h
  go_enter Tryd.func80, Tryd.ntmps80
  go_wp2_with (go_at_call 89; refine (takeF_good R l w H.out hl).mono ?_; rintro _ w1 ⟨rfl, hT, hr⟩)
  go_ret
  exact ⟨rfl, hT, hr⟩
end Go.Proofs.YthgblcpekhiphaaDoor
/- A reader reads bytes: take[[]byte], Bytes. -/
namespace Go.Proofs.YthgblcpekhiphaaDoor
open Go Go.RowKit
set_option maxRecDepth 8000

/-- Bytes read as bytes of a limit: these, how many bytes they have with their number, the error. -/
def goB (l : List UInt8) (most : Int) : List UInt8 × Nat × Nat :=
  if (goN l 0 0).2.2 ≠ 0 then ([], 0, (goN l 0 0).2.2) else if most < ((goN l 0 0).1 : Int) then ([], 0, 4) else if l.length < (goN l 0 0).2.1 + (goN l 0 0).1 then ([], 0, 3)
  else ((l.drop (goN l 0 0).2.1).take (goN l 0 0).1, (goN l 0 0).2.1 + (goN l 0 0).1, 0)
theorem goB_bounds (l : List UInt8) (most : Int) : (goB l most).2.2 = 0 → 0 < (goB l most).2.1 ∧ (goB l most).2.1 ≤ l.length := by
  unfold goB
  split
  · simp; omega
  · rename_i h
    have := goN_bounds l 0 0 (by simpa using h)
    split
    · simp
    · split
      · simp
      · simp; omega
theorem goB_err (l : List UInt8) (most : Int) : (goB l most).2.2 ≠ 0 → goB l most = ([], 0, (goB l most).2.2) := by
  unfold goB
  split
  · simp
  · split
    · simp
    · split <;> simp
theorem slice_mid (b o n cap k m : Nat) (h : k + m ≤ cap) (w : World) : (Instr.slice 25 (.slice (some ⟨b, o, none⟩) n cap) (some (.int .i64 (k : Int))) (some (.int .i64 ((k : Int) + (m : Int)))) none).run Tryd.prog w = .ok (.slice (some (if cap = k then ⟨b, o, none⟩ else (⟨b, o, none⟩ : Addr).add k)) m (cap - k)) w := by
  have hsz : (sizeOf 5).run Tryd.prog w = .ok 1 w := by
    obtain ⟨i0, hi, _, hz1, _⟩ := info_parts info5
    simp [sizeOf, typeInfo, hi, hz1]
  have h3 : (0 : Int) ≤ (k : Int) + (m : Int) ∧ (k : Int) + (m : Int) ≤ (cap : Int) := by omega
  have h4 : k ≤ ((k : Int) + (m : Int)).toNat := by omega
  have h6 : ((k : Int) + (m : Int)).toNat - k = m := by omega
  by_cases h5 : cap = k
  · simp [Instr.slice, run_underlying Tryd.underlying25, Instr.sliceBounds, Instr.sliceBound, asIntOf, hsz, h3, h4, h5, h6, Addr.add_zero']
    omega
  · simp [Instr.slice, run_underlying Tryd.underlying25, Instr.sliceBounds, Instr.sliceBound, asIntOf, hsz, h3, h4, h5, h6]
/-- The m bytes behind the first k. -/
theorem rd_mid {w : World} {L : List Nat} {b o n cap k m : Nat} {l : List UInt8} (h : RdV w L (.slice (some ⟨b, o, none⟩) n cap) l) (hk : k + m ≤ n) :
    RdV w L (.slice (some (if cap = k then ⟨b, o, none⟩ else (⟨b, o, none⟩ : Addr).add k)) m (cap - k)) ((l.drop k).take m) := by
  obtain ⟨A, c, hv, h1, h2, h3⟩ := h
  cases hv
  have hlen : ((l.drop k).take m).length = m := by simp; omega
  refine ⟨some (if cap = k then ⟨b, o, none⟩ else (⟨b, o, none⟩ : Addr).add k), cap - k, by rw [hlen], by rw [hlen]; omega, by omega, fun h0 => ?_⟩
  rw [hlen] at h0
  obtain ⟨b', o', hA, hb, hc⟩ := h3 (by omega)
  cases hA
  refine ⟨b, o + k, by rw [if_neg (by omega), Addr.add_mid], hb, fun i hi => ?_⟩
  rw [hlen] at hi
  rw [Nat.add_assoc, hc (k + i) (by omega)]
  simp [bAt, List.getElem?_take, hi]
set_option maxHeartbeats 2000000 in
theorem bytes1_any (v : Value) (l : List UInt8) (L : List Nat) (g : Nat) (most : Int) (w : World) (h : RdV w L v l) (hl : l.length ≤ 1000000) (hm : w.cell? ⟨g, 0, none⟩ = some (.int .i64 most)) :
    Calls Tryd.prog 94 #[v, .pointer (some ⟨g, 0, none⟩)] w fun ev w' => ∃ u, ev = .returned (.tuple #[u, .int .i64 ((goB l most).2.1 : Int), .int .i64 ((goB l most).2.2 : Int)]) ∧ NewT w w' ∧ (svRdN w (goB l most).1).pred u w' := by
  have H := Lib.hid h
  obtain ⟨A, cap, rfl, h1, h2, h3⟩ := h
  unfold maxLen at h2
  obtain ⟨gg, hg⟩ : ∃ g, goN l 0 0 = g := ⟨_, rfl⟩
  have hb := goN_bounds l 0 0
  have her := goN_err l 0 0
  unfold goB
  rw [hg] at hb her ⊢
  obtain ⟨n, k, er⟩ := gg
  simp only at hb her ⊢
  have Hb := Lib.hid hb
  have Her := Lib.hid her
  have Hg := Lib.hid hg
  have Hm := Lib.hid hm
  clear hb her hg hm
  have hgl : g < w.heap.size := World.block_lt_of_cell? _ _ Hm.out
  by_cases he : er = 0
  · subst he
    obtain ⟨hn, hk0, hkl⟩ := Hb.out rfl
    rw [if_neg (by simp)]
    clear Hb Her
    obtain ⟨b, o, rfl, _, _⟩ := h3 (by omega)
    clear h3
    by_cases hmo : most < (n : Int)
    · rw [if_pos hmo]
      go_enter Tryd.func94, Tryd.ntmps94
      go_wp2_with (go_at_call 67; refine (number_cv _ l L w H.out hl).eq.mono ?_; rintro _ w2 ⟨rfl, hB2⟩; rw [Hg.out]; simp only [numV]; have cm := (hB2.cell (p := ⟨g, 0, none⟩) hgl).trans Hm.out)
      go_ret3
      exact ⟨_, rfl, hB2, fun _ _ => rdV_nil _ _⟩
    rw [if_neg hmo]
    by_cases hsh : l.length < k + n
    · rw [if_pos hsh]
      have hd : ((l.length : Int) - (k : Int)) < (n : Int) := by omega
      go_enter Tryd.func94, Tryd.ntmps94
      go_wp2_with (go_at_call 67; refine (number_cv _ l L w H.out hl).eq.mono ?_; rintro _ w2 ⟨rfl, hB2⟩; rw [Hg.out]; simp only [numV]; have cm := (hB2.cell (p := ⟨g, 0, none⟩) hgl).trans Hm.out)
      go_ret3
      exact ⟨_, rfl, hB2, fun _ _ => rdV_nil _ _⟩
    · rw [if_neg hsh]
      have hd : ¬ ((l.length : Int) - (k : Int)) < (n : Int) := by omega
      have hsl := slice_mid b o l.length cap k n (by omega)
      have hfr := rd_mid (k := k) (m := n) H.out (by omega)
      have hfl : ((l.drop k).take n).length ≤ 1000000 := by simp; omega
      obtain ⟨ad, had⟩ : ∃ ad, (if cap = k then (⟨b, o, none⟩ : Addr) else (⟨b, o, none⟩ : Addr).add k) = ad := ⟨_, rfl⟩
      rw [had] at hsl hfr
      generalize (l.drop k).take n = t at hfr hfl ⊢
      clear had
      have Hfr := Lib.hid hfr
      clear hfr
      go_enter Tryd.func94, Tryd.ntmps94
      go_wp2_with (first
        | (go_at_call 67; refine (number_cv _ l L w H.out hl).eq.mono ?_; rintro _ w2 ⟨rfl, hB2⟩; rw [Hg.out]; simp only [numV]; have cm := (hB2.cell (p := ⟨g, 0, none⟩) hgl).trans Hm.out)
        | (go_at_call 35; refine Calls.mono (Clone_cv _ t L w2 (NewT.rd hB2 Hfr.out) hfl) ?_; rintro _ w3 ⟨u, rfl, hN3, hu⟩))
      go_ret3
      refine ⟨u, rfl, NewT.trans _ _ _ hB2 hN3, fun L hL => hu L fun k hk => ?_⟩
      have := hL k hk
      have := hB2.size
      omega
  · rw [if_pos he]
    obtain ⟨hz, h23⟩ := Her.out he
    simp only [Prod.mk.injEq] at hz
    obtain ⟨rfl, rfl, _⟩ := hz
    have hbe : ((er : Int) != 0) = true := by simp; omega
    clear Hb Her he h3
    go_enter Tryd.func94, Tryd.ntmps94
    go_wp2_with (go_at_call 67; refine (number_cv _ l L w H.out hl).eq.mono ?_; rintro _ w2 ⟨rfl, hB2⟩; rw [Hg.out]; simp only [numV])
    go_ret3
    exact ⟨_, rfl, hB2, fun _ _ => rdV_nil _ _⟩
theorem svRdN_step {W w w' : World} {R : Nat} {u : Value} {t : List UInt8} (h : (svRdN W t).pred u w) (hT : RT R w w') (hR : R < W.heap.size) : (svRdN W t).pred u w' := fun L hL => by
  have h1 : RdV w (R :: L) u t := h (R :: L) (fun k hk => by rcases List.mem_cons.1 hk with rfl | hk; exact hR; exact hL k hk)
  exact (h1.keep (hT.keep.more fun k hk => by simp at hk; simp [hk])).less fun k hk => by simp [hk]
theorem svRdN_base {W w w' : World} {u : Value} {t : List UInt8} (h : (svRdN W t).pred u w') (hB : w.heap.size ≤ W.heap.size) : (svRdN w t).pred u w' := fun L hL => h L fun k hk => by have := hL k hk; omega
/-- What bytes that are asked for turn a reader that isn't bad to. -/
def outB (l : List UInt8) (most : Int) : List UInt8 × List UInt8 × Nat := if (goB l most).2.2 = 0 then ((goB l most).1, l.drop (goB l most).2.1, 0) else ([], [], (goB l most).2.2)
set_option maxHeartbeats 2000000 in
theorem takeB_good (R g : Nat) (most : Int) (l : List UInt8) (w : World) (h : Rdr w R l 0) (hm : w.cell? ⟨g, 0, none⟩ = some (.int .i64 most)) (hl : l.length ≤ 1000000) :
    Calls Tryd.prog 93 #[.pointer (some ⟨R, 0, none⟩), .func (.func 94) #[] #[.pointer (some ⟨g, 0, none⟩)]] w fun ev w' => ∃ u, ev = .returned u ∧ (svRdN w (outB l most).1).pred u w' ∧ RT R w w' ∧ Rdr w' R (outB l most).2.1 ((outB l most).2.2 : Int) := by
  have H := Lib.hid h
  have hR := h.lt
  have hgl : g < w.heap.size := World.block_lt_of_cell? _ _ hm
  have Hm := Lib.hid hm
  clear h hm
  obtain ⟨gg, hg⟩ : ∃ g, goB l most = g := ⟨_, rfl⟩
  have hb := goB_bounds l most
  have her := goB_err l most
  unfold outB
  rw [hg] at hb her ⊢
  obtain ⟨n, k, er⟩ := gg
  simp only at hb her ⊢
  have Hb := Lib.hid hb
  have Her := Lib.hid her
  have Hg := Lib.hid hg
  clear hb her hg
  by_cases he : er = 0
  · subst he
    obtain ⟨hk0, hkl⟩ := Hb.out rfl
    rw [if_pos rfl]
    clear Hb Her
    obtain ⟨v, r1, rs, _⟩ := H.out
    have r2 := rs.rd
    obtain ⟨A, cap, rfl, hc1, hc2, hA⟩ := id r2
    obtain ⟨b, o, rfl, _, _⟩ := hA (by omega)
    clear hA
    have hsl := slice_from (P := Tryd.prog) 25 5 Tryd.underlying25 info5s ⟨b, o, none⟩ l.length cap k (by omega)
    have hfr : Rest w R _ _ := fun L hL => rd_from (k := k) (rs L hL) (by omega)
    obtain ⟨ad, had⟩ : ∃ ad, (if cap = k then (⟨b, o, none⟩ : Addr) else (⟨b, o, none⟩ : Addr).add k) = ad := ⟨_, rfl⟩
    rw [had] at hsl hfr
    clear had
    go_enter Tryd.func93, Tryd.ntmps93
    go_wp2_with (first
      | (go_at_call 47; refine (Bad_any R l 0 w H.out).eq.mono ?_; rintro _ w1 ⟨rfl, hB1⟩; have r1' := NewT.row hB1 r1; have r2' := NewT.rd hB1 r2; have c0 := r1'.cell (i := 0) (by omega); simp only [if_true] at c0)
      | (go_at_call 94; refine (bytes1_any _ l [R] g most w1 r2' hl ((hB1.cell (p := ⟨g, 0, none⟩) hgl).trans Hm.out)).mono ?_; rintro _ w2 ⟨u, rfl, hB2, hu⟩; rw [Hg.out] at hu ⊢; simp only at hu ⊢; have r3 := NewT.row hB2 r1'; have c2 := r3.cell (i := 0) (by omega); have f2 := r3.frozen 0; simp only [if_true] at c2))
    go_ret
    have hN := NewT.trans _ _ _ hB1 hB2
    exact ⟨_, rfl, svRdN_step (R := R) (svRdN_base hu hB1.size) (RT.setCell _ 0 _) hR, RT.trans _ _ _ (RT.new hR hN) (RT.setCell _ 0 _), Rdr.put r3 rfl (hfr.new hN) rfl rfl⟩
  · rw [if_neg he]
    have hz := Her.out he
    simp only [Prod.mk.injEq] at hz
    obtain ⟨rfl, rfl, _⟩ := hz
    obtain ⟨v, r1, rs, _⟩ := H.out
    have r2 := rs.rd
    have hbe : ((er : Int) != 0) = true := by simp; omega
    have hne : (er : Int) ≠ 0 := by omega
    have Hne := Lib.hid hne
    clear Hb Her he hne
    go_enter Tryd.func93, Tryd.ntmps93
    go_wp2_with (first
      | (go_at_call 47; refine (Bad_any R l 0 w H.out).eq.mono ?_; rintro _ w1 ⟨rfl, hB1⟩; have r1' := NewT.row hB1 r1; have r2' := NewT.rd hB1 r2; have c0 := r1'.cell (i := 0) (by omega); simp only [if_true] at c0)
      | (go_at_call 94; refine (bytes1_any _ l [R] g most w1 r2' hl ((hB1.cell (p := ⟨g, 0, none⟩) hgl).trans Hm.out)).mono ?_; rintro _ w2 ⟨u, rfl, hB2, hu⟩; rw [Hg.out] at hu ⊢; simp only at hu ⊢)
      | (go_at_call 46; refine (Fail_good R l er Hne.out w2 (H.out.new (NewT.trans _ _ _ hB1 hB2))).mono ?_; rintro _ w3 ⟨rfl, hT3, hR3⟩))
    go_ret
    exact ⟨_, rfl, fun _ _ => rdV_nil _ _, RT.trans _ _ _ (RT.new hR (NewT.trans _ _ _ hB1 hB2)) hT3, hR3⟩
set_option maxHeartbeats 400000 in
theorem RBytes_good (R : Nat) (most : Int) (l : List UInt8) (w : World) (h : Rdr w R l 0) (hl : l.length ≤ 1000000) :
    Calls Tryd.prog 82 #[.pointer (some ⟨R, 0, none⟩), .int .i64 most] w fun ev w' => ∃ u, ev = .returned u ∧ (svRdN w (outB l most).1).pred u w' ∧ RT R w w' ∧ Rdr w' R (outB l most).2.1 ((outB l most).2.2 : Int) := by
  have H := Lib.hid h
  have hR := h.lt
  clear h
  have r0 := rowIs_box w 3 1 (fun _ => .int .i64 most)
  have hN : NewT w (w.alloc (.cells #[.int .i64 most] 3)) := NewT.alloc _ _
  go_enter Tryd.func82, Tryd.ntmps82
  go_wp2_with (go_at_call 93; refine (takeB_good R w.heap.size most l _ (H.out.new hN) (r0.cell (i := 0) (by omega)) hl).mono ?_; rintro _ w1 ⟨u, rfl, hu, hT, hr⟩)
  go_ret
  exact ⟨_, rfl, svRdN_base hu hN.out.size, RT.trans _ _ _ (RT.new hR hN) hT, hr⟩
end Go.Proofs.YthgblcpekhiphaaDoor
/- A reader reads a hash: take[api.Hash], Hash. -/
namespace Go.Proofs.YthgblcpekhiphaaDoor
open Go Go.RowKit
set_option maxRecDepth 8000

/-- Bytes read as a hash: it, how many bytes it has, the error. -/
def goH (l : List UInt8) : (Nat → UInt8) × Nat × Nat := if l.length < 32 then (fun _ => 0, 0, 3) else (bAt l, 32, 0)
theorem results_row3 {P : Program} {w : World} {b : Nat} {t : TypeId} {n : Nat} {f : Nat → Value} {e : TypeId} {m : Nat} {fn : Func} {p u v : Tmp} {ty : TypeId} (hf : fn.results = #[.cell p ty, .tmp u, .tmp v]) (tmps : Array Value) (hp : tmps.getD p undef = .pointer (some ⟨b, 0, none⟩))
    (h : w.rowIs b t n f) (hu : P.underlying ty = some (.array m e)) (hi : (P.info? ty).map (·.size) = some n) : (results fn tmps).run P w = .ok (.tuple #[.agg (rowA n f), tmps.getD u undef, tmps.getD v undef]) w := by
  have := load_row (P := P) h hu hi
  have hp' : tmps[p]?.getD undef = .pointer (some ⟨b, 0, none⟩) := by simpa using hp
  simp [results, hf, hp', asAddr, this]
set_option maxHeartbeats 2000000 in
theorem hash1_any (v : Value) (l : List UInt8) (L : List Nat) (w : World) (h : RdV w L v l) :
    Calls Tryd.prog 92 #[v] w fun ev w' => ev = .returned (.tuple #[.agg (rowA 32 (bF (goH l).1)), .int .i64 ((goH l).2.1 : Int), .int .i64 ((goH l).2.2 : Int)]) ∧ NewT w w' := by
  have H := Lib.hid h
  obtain ⟨A, cap, rfl, h1, h2, h3⟩ := h
  unfold maxLen at h2
  have r0 := (rowIs_box w 23 32 (bF fun _ => 0)).alloc (.cells (rowA 32 (bF fun _ => 0)) 23)
  have r1 := rowIs_box (w.alloc (.cells (rowA 32 (bF fun _ => 0)) 23)) 23 32 (bF fun _ => 0)
  have hB : Below w.heap.size w ((w.alloc (.cells (rowA 32 (bF fun _ => 0)) 23)).alloc (.cells (rowA 32 (bF fun _ => 0)) 23)) :=
    ((Below.refl _ w).alloc (Nat.le_refl _) _).alloc (by simp) _
  rw [World.size_alloc] at r1
  unfold goH
  by_cases hs : l.length < 32
  · rw [if_pos hs]
    clear h3
    have hR := rangeAt_row r1
    go_enter Tryd.func92, Tryd.ntmps92
    go_wp2_with (first
      | (refine wpList_load_mid rfl 23 (.tmp 5) rfl (w.heap.size + 1) 0 rfl (rowA 32 (bF fun _ => 0)).toList _ hR Tryd.underlying23 rfl (by rw [rowA_toList]; simpa using info31) ?_)
      | (refine wpList_store_mid rfl 23 (.tmp 2) (.tmp 9) rfl w.heap.size 0 (rowA 32 (bF fun _ => 0)) rfl rfl (by rw [rowA_size]; exact there_row r0) (by rw [rowA_size]; exact info31) (rowA_one _ _ fun _ => rfl) ?_))
    exact bodyPost_ret (results_row3 rfl _ rfl (rowIs_setAll r0 (bF fun _ => 0)) Tryd.underlying23 info31) rfl ⟨rfl, below_setCells _ (Nat.le_refl _) _ _ _ hB⟩
  · rw [if_neg hs]
    obtain ⟨b, o, rfl, _, hc⟩ := h3 (by omega)
    clear h3
    have hbw : b < w.heap.size := World.block_lt_of_cell? _ _ (hc 0 (by omega))
    have hR : ((w.alloc (.cells (rowA 32 (bF fun _ => 0)) 23)).alloc (.cells (rowA 32 (bF fun _ => 0)) 23)).rangeAt b o (rowA 32 (bF (bAt l))).toList := fun j u hj => by
      rw [rowA_toList] at hj
      have hj32 : j < 32 := by have := (List.getElem?_eq_some_iff.1 hj).1; simpa using this
      simp [hj32] at hj
      subst hj
      exact (hB.cell (p := ⟨b, o + j, none⟩) hbw).trans (hc j (by omega))
    clear hc
    have hat : ∀ W : World, (Instr.arrayAt 23 (.slice (some ⟨b, o, none⟩) 32 cap)).run Tryd.prog W = .ok (.pointer (some ⟨b, o, none⟩)) W := fun W => by
      simp [Instr.arrayAt, run_underlying Tryd.underlying23]
    go_enter Tryd.func92, Tryd.ntmps92
    go_wp2_with (first
      | (refine wpList_load_mid rfl 23 (.tmp 12) rfl b o rfl (rowA 32 (bF (bAt l))).toList _ hR Tryd.underlying23 rfl (by rw [rowA_toList]; simpa using info31) ?_)
      | (refine wpList_store_mid rfl 23 (.tmp 2) (.tmp 13) rfl w.heap.size 0 (rowA 32 (bF (bAt l))) rfl rfl (by rw [rowA_size]; exact there_row r0) (by rw [rowA_size]; exact info31) (rowA_one _ _ fun _ => rfl) ?_))
    exact bodyPost_ret (results_row3 rfl _ rfl (rowIs_setAll r0 (bF (bAt l))) Tryd.underlying23 info31) rfl ⟨rfl, below_setCells _ (Nat.le_refl _) _ _ _ hB⟩
/-- A whole array is stored into a row. -/
theorem wpList_store_row {P : Program} {ops : Array Oper} {rest : List Oper} {op : Oper} {a : Act} {w : World} {Q : Exit → Act → World → Prop} (hgd : op.guard = none) (ty : TypeId) (x y : Operand) (ho : op.op = .store ty x y)
    (g n : Nat) (D : Nat → UInt8) (hx : a.eval x = .pointer (some ⟨g, 0, none⟩)) (hy : a.eval y = .agg (rowA n (bF D))) {t' : TypeId} {f0 : Nat → Value} (hr : w.rowIs g t' n f0) (hi : (P.info? ty).map (·.size) = some n)
    (h : ∀ w', KeepBut [g] w w' → (∀ B, B ≤ g → Below B w w') → w'.rowIs g t' n (bF D) → wpList P ops Q rest (a.put op.dst undef) w') : wpList P ops Q (op :: rest) a w :=
  wpList_store_mid hgd ty x y ho g 0 (rowA n (bF D)) hx hy (by rw [rowA_size]; exact there_row hr) (by rw [rowA_size]; exact hi) (rowA_one _ _ fun _ => rfl)
    (h _ (KeepBut.setCells (by simp) _ _ _) (fun B hB => below_setCells g hB _ _ _ (Below.refl _ _)) (rowIs_setAll hr (bF D)))
/-- What a hash that is asked for turns a reader that isn't bad to. -/
def outH (l : List UInt8) : (Nat → UInt8) × List UInt8 × Nat := if l.length < 32 then (fun _ => 0, [], 3) else (bAt l, l.drop 32, 0)
/-- Blocks that came behind W are written, and R: to whoever looks from W on, a step that writes R alone. -/
theorem RT.late {R g : Nat} {W w w' : World} (h : RT R W w) (hg : W.heap.size ≤ g) (hR : R < W.heap.size) (hK : KeepBut [g] w w') (hB : ∀ B, B ≤ g → Below B w w') : RT R W w' :=
  ⟨h.below.trans (hB R (by omega)), Nat.le_trans h.keep.1 hK.1, fun k o hk ho hc => hK.2 k o (by have := (Array.getElem?_eq_some_iff.1 ho).1; simp; omega) (h.keep.2 k o hk ho hc) hc⟩
set_option maxHeartbeats 2000000 in
theorem takeH_good (R : Nat) (l : List UInt8) (w : World) (h : Rdr w R l 0) :
    Calls Tryd.prog 91 #[.pointer (some ⟨R, 0, none⟩), .func (.func 92) #[] #[]] w fun ev w' => ev = .returned (.agg (rowA 32 (bF (outH l).1))) ∧ RT R w w' ∧ Rdr w' R (outH l).2.1 ((outH l).2.2 : Int) := by
  have hR := h.lt
  have hw0 : NewT w ((w.alloc (.cells (rowA 32 (bF fun _ => 0)) 23)).alloc (.cells (rowA 32 (bF fun _ => 0)) 23)) := ((Below.refl _ w).alloc (Nat.le_refl _) _).alloc (by simp) _
  have z0 := (rowIs_box w 23 32 (bF fun _ => 0)).alloc (.cells (rowA 32 (bF fun _ => 0)) 23)
  have z1 := rowIs_box (w.alloc (.cells (rowA 32 (bF fun _ => 0)) 23)) 23 32 (bF fun _ => 0)
  rw [World.size_alloc] at z1
  have Hs0 : Hid (((w.alloc (.cells (rowA 32 (bF fun _ => 0)) 23)).alloc (.cells (rowA 32 (bF fun _ => 0)) 23)).heap.size = w.heap.size + 1 + 1) := Lib.hid (by simp)
  have h0 := h.new hw0
  have H := Lib.hid h
  have H0 := Lib.hid h0
  clear h h0
  obtain ⟨v, r1, rs, _⟩ := H.out
  have r2 := rs.rd
  unfold outH
  by_cases hs : l.length < 32
  · rw [if_pos hs]
    have hg : goH l = (fun _ => 0, 0, 3) := by rw [goH, if_pos hs]
    have Hg := Lib.hid hg
    clear hg
    obtain ⟨A, cap, rfl, hc1, hc2, _⟩ := id r2
    go_enter Tryd.func91, Tryd.ntmps91
    go_wp2_with (first
      | (go_at_call 47; refine (Bad_any R l 0 _ H0.out).eq.mono ?_; rintro _ w1 ⟨rfl, hB1⟩; have hN1 := NewT.trans _ _ _ hw0 hB1; have r1' := NewT.row hN1 r1; have r2' := NewT.rd hN1 r2; have c0 := r1'.cell (i := 0) (by omega); simp only [if_true] at c0)
      | (go_at_call 92; refine (hash1_any _ l [R] w1 r2').mono ?_; rintro _ w2 ⟨rfl, hB2⟩; rw [Hg.out]; simp only; have hN2 := NewT.trans _ _ _ hN1 hB2)
      | (refine wpList_store_row rfl 23 (.tmp 6) (.tmp 20) rfl w2.heap.size 32 (fun _ => 0) rfl rfl (rowIs_box w2 23 32 (bF fun _ => 0)) info31 ?_; intro w3 hK3 hB3 q6; have hN3 : NewT w w3 := NewT.trans _ _ _ hN2 (NewT.of ((NewT.alloc w2 _).out.trans (hB3 _ (Nat.le_refl _))));
         have hE3 : Below (w.heap.size + 1 + 1) w2 w3 := ((NewT.alloc w2 _).out.mono (by have := hB1.size; have := hB2.size; simp at *; omega)).trans (hB3 _ (by have := hB1.size; have := hB2.size; simp at *; omega)))
      | (go_at_call 46; refine (Fail_good R l 3 (by decide) w3 (H.out.new hN3)).mono ?_; rintro _ w4 ⟨rfl, hT4, hR4⟩;
         have y0 := hT4.row (by omega) (rowIs_below (NewT.row (NewT.trans _ _ _ hB1 hB2) z0) hE3 (by omega)); have y1 := hT4.row (by omega) (rowIs_below (NewT.row (NewT.trans _ _ _ hB1 hB2) z1) hE3 (by omega)))
      | (refine wpList_load_mid rfl 23 (.tmp 5) rfl (w.heap.size + 1) 0 rfl (rowA 32 (bF fun _ => 0)).toList _ (rangeAt_row y1) Tryd.underlying23 rfl (by rw [rowA_toList]; simpa using info31) ?_)
      | (refine wpList_store_row rfl 23 (.tmp 4) (.tmp 28) rfl w.heap.size 32 (fun _ => 0) rfl rfl y0 info31 ?_; intro w5 hK5 hB5 q5))
    refine bodyPost_ret (results_row rfl _ rfl q5 Tryd.underlying23 info31) rfl ⟨rfl, RT.late (RT.trans _ _ _ (RT.new hR hN3) hT4) (Nat.le_refl _) hR hK5 hB5, ?_⟩
    obtain ⟨v4, k1, k2, k3⟩ := hR4
    exact (show Rdr w4 R [] 3 from ⟨v4, k1, k2, k3⟩).keep (by simp; omega) hK5
  · rw [if_neg hs]
    have hg : goH l = (bAt l, 32, 0) := by rw [goH, if_neg hs]
    obtain ⟨k, hk⟩ : ∃ k : Nat, 32 = k := ⟨_, rfl⟩
    have hkl : k ≤ l.length := by omega
    have hl0 : 0 < l.length := by omega
    have eo : ((bAt l, l.drop 32, 0) : (Nat → UInt8) × List UInt8 × Nat) = (bAt l, l.drop k, 0) := by rw [hk]
    have eg : goH l = (bAt l, k, 0) := by rw [hg, hk]
    rw [eo]
    have Hg := Lib.hid eg
    clear hg eg eo hk hs
    obtain ⟨A, cap, rfl, hc1, hc2, hA⟩ := id r2
    obtain ⟨b, o, rfl, _, _⟩ := hA (by omega)
    clear hA
    have hsl := slice_from (P := Tryd.prog) 25 5 Tryd.underlying25 info5s ⟨b, o, none⟩ l.length cap k (by omega)
    have hfr : Rest w R _ _ := fun L hL => rd_from (k := k) (rs L hL) (by omega)
    obtain ⟨ad, had⟩ : ∃ ad, (if cap = k then (⟨b, o, none⟩ : Addr) else (⟨b, o, none⟩ : Addr).add k) = ad := ⟨_, rfl⟩
    rw [had] at hsl hfr
    have Hfr := Lib.hid hfr
    generalize bAt l = D at Hg ⊢
    clear had hfr
    go_enter Tryd.func91, Tryd.ntmps91
    go_wp2_with (first
      | (go_at_call 47; refine (Bad_any R l 0 _ H0.out).eq.mono ?_; rintro _ w1 ⟨rfl, hB1⟩; have hN1 := NewT.trans _ _ _ hw0 hB1; have r1' := NewT.row hN1 r1; have r2' := NewT.rd hN1 r2; have c0 := r1'.cell (i := 0) (by omega); simp only [if_true] at c0)
      | (go_at_call 92; refine (hash1_any _ l [R] w1 r2').mono ?_; rintro _ w2 ⟨rfl, hB2⟩; rw [Hg.out]; simp only; have hN2 := NewT.trans _ _ _ hN1 hB2; have hC : w.heap.size + 1 + 1 ≤ w2.heap.size := (by have a1 := hB1.size; have a2 := hB2.size; rw [Hs0.out] at a1; omega))
      | (refine wpList_store_row rfl 23 (.tmp 6) (.tmp 20) rfl w2.heap.size 32 D rfl rfl (rowIs_box w2 23 32 (bF fun _ => 0)) info31 ?_; intro w3 hK3 hB3 q6; have hN3 : NewT w w3 := NewT.trans _ _ _ hN2 (NewT.of ((NewT.alloc w2 _).out.trans (hB3 _ (Nat.le_refl _))));
         have hE3 : Below (w.heap.size + 1 + 1) w2 w3 := ((NewT.alloc w2 _).out.mono hC).trans (hB3 _ hC);
         have r3 := NewT.row hN3 r1; have c3 := r3.cell (i := 0) (by omega); have f3 := r3.frozen 0; simp only [if_true] at c3;
         have y0 := rowIs_below (NewT.row (NewT.trans _ _ _ hB1 hB2) z0) hE3 (by omega))
      | (refine wpList_load_mid rfl 23 (.tmp 6) rfl w2.heap.size 0 rfl (rowA 32 (bF D)).toList _ (rangeAt_row (q6.setOther (a := ⟨R, 0, none⟩) (by simp; omega) _)) Tryd.underlying23 rfl (by rw [rowA_toList]; simpa using info31) ?_)
      | (refine wpList_store_row rfl 23 (.tmp 4) (.tmp 38) rfl w.heap.size 32 D rfl rfl (y0.setOther (a := ⟨R, 0, none⟩) (by simp; omega) _) info31 ?_; intro w5 hK5 hB5 q5))
    refine bodyPost_ret (results_row rfl _ rfl q5 Tryd.underlying23 info31) rfl ⟨rfl, RT.late (RT.trans _ _ _ (RT.new hR hN3) (RT.setCell w3 0 _)) (Nat.le_refl _) hR hK5 hB5, ?_⟩
    refine ⟨.slice (some ad) (l.length - k) (cap - k), hK5.row (by simp; omega) ((r3.set 0 _).congr fun i hi => ?_), ?_, fun h => absurd rfl h⟩
    · by_cases h0 : i = 0
      · simp [h0]
      · simp [h0]
    · exact ((Hfr.out.new hN3).keep (G := [R]) (by simp) (KeepBut.setCell (a := ⟨R, 0, none⟩) (by simp) _)).keep (by simp; omega) hK5
set_option maxHeartbeats 400000 in
theorem RHash_good (R : Nat) (l : List UInt8) (w : World) (h : Rdr w R l 0) :
    Calls Tryd.prog 81 #[.pointer (some ⟨R, 0, none⟩)] w fun ev w' => ev = .returned (.agg (rowA 32 (bF (outH l).1))) ∧ RT R w w' ∧ Rdr w' R (outH l).2.1 ((outH l).2.2 : Int) := by
  have hR := h.lt
  have z0 := rowIs_box w 23 32 (bF fun _ => 0)
  have hN : NewT w (w.alloc (.cells (rowA 32 (bF fun _ => 0)) 23)) := NewT.alloc _ _
  have H := Lib.hid (h.new hN)
  clear h
  go_enter Tryd.func81, Tryd.ntmps81
  go_wp2_with (first
    | (go_at_call 91; refine (takeH_good R l _ H.out).mono ?_; rintro _ w1 ⟨rfl, hT, hr⟩; have y0 := hT.row (by omega) z0)
    | (refine wpList_store_row rfl 23 (.tmp 2) (.tmp 4) rfl w.heap.size 32 _ rfl rfl y0 info31 ?_; intro w5 hK5 hB5 q5))
  refine bodyPost_ret (results_row rfl _ rfl q5 Tryd.underlying23 info31) rfl ⟨rfl, RT.late (RT.trans _ _ _ (RT.new hR hN) hT) (Nat.le_refl _) hR hK5 hB5, ?_⟩
  exact hr.keep (by simp; omega) hK5
end Go.Proofs.YthgblcpekhiphaaDoor
/- Layer 3, words that later layers share: bytes as strings; slices of slices; what is read of what was put; a reader in a region. -/
namespace Go.Proofs.YthgblcpekhiphaaDoor
open Go Go.RowKit
set_option maxRecDepth 8000
/-- A slice of bytes becomes a string. -/
theorem conv_rd {w : World} {L : List Nat} {v : Value} {l : List UInt8} (h : RdV w L v l) : (convert 25 9 v).run Tryd.prog w = .ok (.string ⟨l.toArray⟩) w := by
  obtain ⟨A, cap, rfl, h1, h2, h3⟩ := h
  by_cases h0 : 0 < l.length
  · obtain ⟨b, o, rfl, _, hc⟩ := h3 h0
    have := run_convert_bytes_arg (P := Tryd.prog) w 25 5 Tryd.underlying25 Tryd.underlying5 b o l.length cap (l.map bN) (by simp) (fun i hi => by
      rw [hc i hi]
      simp [bAt, hi]) 9 Tryd.underlying9
    rw [this]
    have e : strOfNums (l.map bN) = ⟨l.toArray⟩ := by
      unfold strOfNums
      congr 2
      rw [List.map_map]
      conv => rhs; rw [← List.map_id l]
      exact List.map_congr_left fun b _ => by simp [bN]
    rw [e]
  · have : l = [] := List.eq_nil_of_length_eq_zero (by omega)
    subst this
    simp only [List.length_nil]
    simp [convert, run_underlying Tryd.underlying25, run_underlying Tryd.underlying9, run_underlying Tryd.underlying5, Conv.bytesToString]
    cases A <;> simp [go_sem] <;> rfl
theorem parts5 {W : World} {v1 v2 v3 v4 v5 : Value} {l1 l2 l3 l4 l5 : List UInt8} (h1 : RdV W [] v1 l1) (h2 : RdV W [] v2 l2) (h3 : RdV W [] v3 l3) (h4 : RdV W [] v4 l4) (h5 : RdV W [] v5 l5) : Parts (W.alloc (.cells #[v1, v2, v3, v4, v5] 25)) (.slice (some ⟨W.heap.size, 0, none⟩) 5 5) [l1, l2, l3, l4, l5] :=
  ⟨[(v1, l1), (v2, l2), (v3, l3), (v4, l4), (v5, l5)], parts_new [(v1, l1), (v2, l2), (v3, l3), (v4, l4), (v5, l5)] 25 (by simp) (by simp) (by simp; exact ⟨h1, h2, h3, h4, h5⟩), rfl⟩
theorem outN_put (x : Nat) (hx : x ≤ 2147483647) (r : List UInt8) : outN (numL x ++ r) = (x, r, 0) := by
  unfold outN
  rw [goN_put x hx r]
  simp only [if_true]
  rw [← numL_length x]; simp
/-- A new reader of l. -/
def svRdr (W : World) (l : List UInt8) : SV NewT := ⟨fun v w => ∃ R, v = .pointer (some ⟨R, 0, none⟩) ∧ W.heap.size ≤ R ∧ Rdr w R l 0, fun _ _ _ ⟨R, h1, h2, h3⟩ hT => ⟨R, h1, h2, h3.new hT⟩⟩
theorem All_rd (pv : Value) (ls : List (List UInt8)) (l : List UInt8) (w : World) (hp : Parts w pv ls) (hl : ls.flatten = l) (ht : l.length ≤ 1000000) : Cv 25 #[pv] w (svRd l) :=
  Calls.mono (All_cv pv ls l w hp hl ht) fun _ _ ⟨v, he, hN, hv⟩ => ⟨v, he, hN, hv [] (by simp)⟩
theorem Read_cv (v : Value) (l : List UInt8) (w W : World) (h : RdV w [] v l) (hl : l.length ≤ 1000000) (hW : W.heap.size ≤ w.heap.size) : Cv 24 #[v] w (svRdr W l) :=
  Calls.mono (Read_any v l w h hl) fun _ _ ⟨R, he, hN, hR, hr⟩ => ⟨_, he, hN, R, rfl, Nat.le_trans hW hR, hr⟩
theorem run_bs5 (v1 v2 v3 v4 v5 : Value) (h1 : ∃ A n c, v1 = .slice A n c) (h2 : ∃ A n c, v2 = .slice A n c) (h3 : ∃ A n c, v3 = .slice A n c) (h4 : ∃ A n c, v4 = .slice A n c) (h5 : ∃ A n c, v5 = .slice A n c) (w : World) : (Instr.buildSlice 50 5 #[(0, v1), (1, v2), (2, v3), (3, v4), (4, v5)]).run Tryd.prog w = .ok (.slice (some ⟨w.heap.size, 0, none⟩) 5 5) (w.alloc (.cells #[v1, v2, v3, v4, v5] 25)) := by
  obtain ⟨_, _, _, rfl⟩ := h1
  obtain ⟨_, _, _, rfl⟩ := h2
  obtain ⟨_, _, _, rfl⟩ := h3
  obtain ⟨_, _, _, rfl⟩ := h4
  obtain ⟨_, _, _, rfl⟩ := h5
  simp [go_sem]
theorem rd_is {w : World} {L : List Nat} {v : Value} {l : List UInt8} (h : RdV w L v l) : ∃ A n c, v = .slice A n c := by obtain ⟨A, c, hv, _⟩ := h; exact ⟨A, _, c, hv⟩
theorem opr_bs5 {a : Act} {w : World} {o : Oper} {K : Act → World → Prop} {Q : Exit → Act → World → Prop} {x1 x2 x3 x4 x5 : Operand} {l1 l2 l3 l4 l5 : List UInt8} (ho : o.op = .buildSlice 50 5 #[(0, x1), (1, x2), (2, x3), (3, x4), (4, x5)]) (h1 : RdV w [] (a.eval x1) l1) (h2 : RdV w [] (a.eval x2) l2) (h3 : RdV w [] (a.eval x3) l3) (h4 : RdV w [] (a.eval x4) l4) (h5 : RdV w [] (a.eval x5) l5) (h : ∀ v w', NewT w w' → Parts w' v [l1, l2, l3, l4, l5] → K (a.put o.dst v) w') : o.wp Tryd.prog a w K Q := by
  obtain ⟨dst, op, type, pos, after, guard⟩ := o
  simp only at ho
  subst ho
  exact opr_val (s := Instr.buildSlice 50 5 #[(0, a.eval x1), (1, a.eval x2), (2, a.eval x3), (3, a.eval x4), (4, a.eval x5)]) (by simp [execOp]) (run_bs5 _ _ _ _ _ (rd_is h1) (rd_is h2) (rd_is h3) (rd_is h4) (rd_is h5) w) (h _ _ (NewT.alloc _ _) (parts5 h1 h2 h3 h4 h5))
theorem outQ_put (q : Bool) (r : List UInt8) : outQ (cond q 1 0 :: r) = (q, r, 0) := by cases q <;> rfl
theorem outH_put (d : Nat → UInt8) (r : List UInt8) : (outH (digL d ++ r)).2 = (r, 0) ∧ rowA 32 (bF (outH (digL d ++ r)).1) = rowA 32 (bF d) := by
  have hl : ¬ (digL d ++ r).length < 32 := by simp [digL_length]
  unfold outH
  rw [if_neg hl]
  refine ⟨?_, rowA_congr fun i hi => ?_⟩
  · have := digL_length d
    simp [← this]
  · rw [bF_at, bF_at]
    congr 2
    have h1 : i < (digL d).length := by rw [digL_length]; exact hi
    show (digL d ++ r).getD i 0 = d i
    rw [List.getD_eq_getElem?_getD, List.getElem?_append_left h1]
    simp [digL, hi]
/-- The last place of a row of the call's own is written. -/
theorem ownsRow_last {w : World} {base g n cap : Nat} {e : TypeId} {xs : List Value} {u : Value} (h : w.ownsRow base e 1 (.slice (some ⟨g, 0, none⟩) (n + 1) cap) (n + 1) (xs ++ [u])) (u' : Value) :
    (w.setCell ⟨g, n, none⟩ u').ownsRow base e 1 (.slice (some ⟨g, 0, none⟩) (n + 1) cap) (n + 1) (xs ++ [u']) := by
  obtain ⟨h1, h2⟩ := h
  have hx : xs.length = n := by simpa using h1
  rcases h2 with ⟨h, _⟩ | ⟨g', cap', cur, hv, hb, hh, hnc, hm, hs, ht⟩
  · cases h
  · cases hv
    refine ⟨by simpa using hx, .inr ⟨g, cap, cur.setIfInBounds n u', rfl, hb, by simp [World.setCell, Array.getElem?_modify, hh], hnc, hm, by simpa using hs, ?_⟩⟩
    have e1 : cur.toList.take n = xs := by
      have := congrArg (List.take n) ht
      rw [List.take_take, Nat.min_eq_left (by omega)] at this
      rw [this, List.take_append_of_le_length (by omega)]
      exact List.take_of_length_le (by omega)
    have hlt : n < cur.toList.length := by simp; omega
    rw [Nat.mul_one, Array.toList_setIfInBounds, List.take_add_one, List.take_set_of_le (Nat.le_refl _), e1]
    simp [show n < cur.size by omega]
theorem frozen_own {w : World} {base g n cap : Nat} {e : TypeId} {xs : List Value} (h : w.ownsRow base e 1 (.slice (some ⟨g, 0, none⟩) n cap) n xs) (i : Nat) : w.frozen? ⟨g, i, none⟩ = false := by
  obtain ⟨_, h2⟩ := h
  rcases h2 with ⟨h, _⟩ | ⟨g', cap', cur, hv, _, hh, _⟩
  · cases h
  · cases hv; simp [World.frozen?, hh]
theorem bN_uB (n : Nat) (h : n < 256) : bN (uB n) = (n : Int) := by rw [bN, toNat_uB]; omega
theorem Num_rd (n : Int) (l : List UInt8) (w : World) (h : numI n = l) : Cv 38 #[.int .i64 n] w (svRd l) :=
  Calls.mono (Num_cv n w) fun _ _ ⟨v, he, hN, hv⟩ => ⟨v, he, hN, by rw [h] at hv; exact hv [] (by simp)⟩
theorem Flag_rd (b : Bool) (l : List UInt8) (w : World) (h : [cond b 1 0] = l) : Cv 77 #[.bool b] w (svRd l) :=
  Calls.mono (Flag_cv b w) fun _ _ ⟨v, he, hN, hv⟩ => ⟨v, he, hN, by rw [show [if b then (1 : UInt8) else 0] = l by rw [← h]; cases b <;> rfl] at hv; exact hv [] (by simp)⟩
theorem WBytes_rd (v : Value) (l z : List UInt8) (w : World) (h : RdV w [] v l) (hl : l.length ≤ 900000) (hz : numL l.length ++ l = z) : Cv 78 #[v] w (svRd z) :=
  Calls.mono (WBytes_cv v l w h hl) fun _ _ ⟨v, he, hN, hv⟩ => ⟨v, he, hN, by rw [hz] at hv; exact hv [] (by simp)⟩
theorem WHash_rd (d : Nat → UInt8) (w : World) : Cv 76 #[.agg (rowA 32 (bF d))] w (svRd (digL d)) :=
  Calls.mono (WHash_cv d w) fun _ _ ⟨v, he, hN, hv⟩ => ⟨v, he, hN, hv [] (by simp)⟩
end Go.Proofs.YthgblcpekhiphaaDoor
/- Steps by value, new records and steps in memory, what a call hands back in a cell. -/
namespace Go.Proofs.YthgblcpekhiphaaDoor
open Go Go.RowKit
set_option maxRecDepth 8000

/-- The cells of a step. -/
def stepF (s : Int × Int) (i : Nat) : Value := if i = 0 then .int .i64 s.1 else .int .i64 s.2
theorem info_step : (Tryd.prog.info? 46).map (·.size) = some 2 := by kernel_rfl
theorem run_alloc_rec (w : World) : (Instr.alloc 27 true (.tuple #[])).run Tryd.prog w = .ok (.pointer (some ⟨w.heap.size, 0, none⟩)) (w.alloc (.cells (rowA 109 (recF zR (.slice none 0 0) (.slice none 0 0))) 27)) := by kernel_rfl
theorem run_alloc_step (w : World) : (Instr.alloc 46 true (.tuple #[])).run Tryd.prog w = .ok (.pointer (some ⟨w.heap.size, 0, none⟩)) (w.alloc (.cells (rowA 2 (stepF (0, 0))) 46)) := by kernel_rfl
theorem recF_one (x : Rc) (sv dv : Value) (hs : sv.oneCell' = true) (hd : dv.oneCell' = true) (i : Nat) : (recF x sv dv i).oneCell' = true := by
  unfold recF bF
  repeat' split
  all_goals first | rfl | assumption
theorem stepF_one (s : Int × Int) (i : Nat) : (stepF s i).oneCell' = true := by unfold stepF; split <;> rfl
theorem oneP {w : World} {v : Value} {l : List (Int × Int)} (h : RdP w v l) : v.oneCell' = true := by obtain ⟨A, c, rfl, _⟩ := h; rfl
theorem oneR {w : World} {L : List Nat} {v : Value} {l : List UInt8} (h : RdV w L v l) : v.oneCell' = true := by obtain ⟨A, c, rfl, _⟩ := h; rfl
section
variable {P : Program} {ops : Array Oper} {rest : List Oper} {a : Act} {w : World} {Q : Exit → Act → World → Prop}
theorem wpList_new {o1 o2 : Oper} {t : TypeId} {n d0 : Nat} {y : Operand} {f f0 : Nat → Value} (hg1 : o1.guard = none) (hg2 : o2.guard = none) (h1 : o1.op = .alloc t) (hd : o1.dst = some d0) (h2 : o2.op = .store t (.tmp d0) y) (hd2 : o2.dst = none) (hlt : d0 < a.tmps.size)
    (hal : ∀ w : World, (Instr.alloc t true (.tuple #[])).run P w = .ok (.pointer (some ⟨w.heap.size, 0, none⟩)) (w.alloc (.cells (rowA n f0) t))) (hi : (P.info? t).map (·.size) = some n) (hone : ∀ i, (f i).oneCell' = true)
    (hy : (a.put (some d0) (.pointer (some ⟨w.heap.size, 0, none⟩))).eval y = .agg (rowA n f)) (h : ∀ w', NewT w w' → w'.rowIs w.heap.size t n f → wpList P ops Q rest (a.put (some d0) (.pointer (some ⟨w.heap.size, 0, none⟩))) w') : wpList P ops Q (o1 :: o2 :: rest) a w := by
  refine wpList_plain hg1 fun K hK => ?_
  obtain ⟨dst, op, type, pos, after, guard⟩ := o1
  simp only at h1 hd
  subst h1 hd
  refine opr_val (s := Instr.alloc t true (.tuple #[])) rfl (hal w) (hK _ _ ?_)
  have hr := rowIs_box w t n f0
  refine wpList_store_mid hg2 t (.tmp d0) y h2 w.heap.size 0 (rowA n f) (by rw [eval_tmp]; simp [Act.put, hlt]) hy (by rw [rowA_size]; exact there_row hr) (by rw [rowA_size]; exact hi) (rowA_one _ _ hone) ?_
  rw [hd2]
  exact h _ (below_setCells _ (Nat.le_refl _) _ _ _ (NewT.alloc _ _).out) (rowIs_setAll hr f)
/-- A record or a row that a call hands back. -/
theorem results_agg {fn : Func} {p : Tmp} {ty t : TypeId} {d : TypeDesc} {n b : Nat} {f : Nat → Value} (hf : fn.results = #[.cell p ty]) (tmps : Array Value) (hp : tmps.getD p undef = .pointer (some ⟨b, 0, none⟩))
    (h : w.rowIs b t n f) (hu : P.underlying ty = some d) (hd : d.isRow = true) (hi : (P.info? ty).map (·.size) = some n) : (results fn tmps).run P w = .ok (.agg (rowA n f)) w := by
  have := run_loadVar_mid (P := P) w b 0 ty (rowA n f).toList d (rangeAt_row h) hu hd (by rw [hi, rowA_toList]; simp)
  have hp' : tmps[p]?.getD undef = .pointer (some ⟨b, 0, none⟩) := by simpa using hp
  simp [results, hf, hp', asAddr, this]
end
section
variable {a : Act} {w : World} {o : Oper} {K : Act → World → Prop} {Q : Exit → Act → World → Prop} {x y : Operand} {g : Nat}
theorem opr_idxS {b o0 n c k : Nat} (hk : k < n) (ho : o.op = .indexAddr 24 x y) (hx : a.eval x = .slice (some ⟨b, o0, none⟩) n c) (hy : a.eval y = .int .i64 (k : Int)) (h : K (a.put o.dst (.pointer (some ⟨b, o0 + 2 * k, none⟩))) w) : o.wp Tryd.prog a w K Q := by
  obtain ⟨dst, op, type, pos, after, guard⟩ := o
  simp only at ho
  subst ho
  refine opr_val (s := Instr.indexAt 24 (a.eval x) (a.eval y)) rfl ?_ h
  rw [hx, hy]
  have hsz : (sizeOf 46).run Tryd.prog w = .ok 2 w := by
    have hs := info_step
    cases hq : Tryd.prog.info? 46 with
    | none => simp [hq] at hs
    | some i => simp [hq] at hs; simp [sizeOf, typeInfo, hq, hs]
  simp [Instr.indexAt, asIntOf, run_underlying Tryd.underlying24, hk, Addr.add_mid, Nat.mul_comm]
theorem opr_ld2 {o0 : Nat} {s : Int × Int} (h0 : w.cell? ⟨g, o0, none⟩ = some (.int .i64 s.1)) (h1 : w.cell? ⟨g, o0 + 1, none⟩ = some (.int .i64 s.2)) (ho : o.op = .load 46 x) (hx : a.eval x = .pointer (some ⟨g, o0, none⟩)) (h : K (a.put o.dst (.agg (rowA 2 (stepF s)))) w) : o.wp Tryd.prog a w K Q := by
  refine wp_load_mid 46 x ho g o0 hx [.int .i64 s.1, .int .i64 s.2] _ (fun j v hv => ?_) Tryd.underlying46 rfl info_step h
  match j, hv with
  | 0, hv => simp at hv; subst hv; exact h0
  | 1, hv => simp at hv; subst hv; exact h1
theorem opr_ldSt {t' : TypeId} {s : Int × Int} (hr : w.rowIs g t' 2 (stepF s)) (ho : o.op = .load 46 x) (hx : a.eval x = .pointer (some ⟨g, 0, none⟩)) (h : K (a.put o.dst (.agg (rowA 2 (stepF s)))) w) : o.wp Tryd.prog a w K Q :=
  opr_ldm Tryd.underlying46 rfl info_step ho hx hr (by omega) (by rw [rowA_congr (g := stepF s) fun i _ => by rw [Nat.zero_add]]; exact h)
theorem eqType_step : Tryd.prog.eqGuardType Tryd.prog.depth 46 = false := by kernel_rfl
theorem equalIn_step (w : World) (s t : Int × Int) : (Op.equalIn 10000 46 (.agg (rowA 2 (stepF s))) (.agg (rowA 2 (stepF t)))).run Tryd.prog w = .ok (decide (s = t)) w := by
  rw [show rowA 2 (stepF s) = #[.int .i64 s.1, .int .i64 s.2] from rfl, show rowA 2 (stepF t) = #[.int .i64 t.1, .int .i64 t.2] from rfl]
  obtain ⟨s1, s2⟩ := s
  obtain ⟨t1, t2⟩ := t
  rw [run_equalIn_agg w 9999 46 _ _ (by kernel_rfl) (by kernel_rfl)]
  by_cases h1 : s1 = t1
  · by_cases h2 : s2 = t2
    · subst h1 h2; simp [go_sem]
    · subst h1; simp [go_sem, h2]
  · simp [go_sem, h1]
theorem opr_neqS {t2 : TypeId} {s t : Int × Int} {b : Bool} (hb : (!decide (s = t)) = b) (ho : o.op = .binOp .neq 46 x y t2) (hx : a.eval x = .agg (rowA 2 (stepF s))) (hy : a.eval y = .agg (rowA 2 (stepF t))) (h : K (a.put o.dst (.bool b)) w) : o.wp Tryd.prog a w K Q := by
  obtain ⟨dst, op', type, pos, after, guard⟩ := o
  simp only at ho
  subst ho hb
  refine opr_val (s := do eqGuard .neq 46 x y (a.eval x) (a.eval y); binOp .neq 46 (a.eval x) (a.eval y)) rfl ?_ h
  rw [hx, hy, Sem.run_bind, run_eqGuard_agg _ _ _ _ _ _ _ eqType_step]
  simp only [Result.andThen_ok]
  rw [run_neq_struct, equalIn_step]; rfl
end
section
variable {a : Act} {w : World} {o : Oper} {K : Act → World → Prop} {Q : Exit → Act → World → Prop} {x : Operand} {F : Nat → Value} {off : Nat} {v : Value}
end
section
variable {P : Program} {a : Act} {w : World} {o : Oper} {K : Act → World → Prop} {Q : Exit → Act → World → Prop}
theorem opr_put1 {t t' : TypeId} {x y : Operand} {g o0 n : Nat} {v : Value} {f0 F : Nat → Value} (ho : o.op = .store t x y) (hx : a.eval x = .pointer (some ⟨g, o0, none⟩)) (hy : a.eval y = v) (hr : w.rowIs g t' n f0) (hm : o0 < n) (hi : (P.info? t).map (·.size) = some 1) (hone : v.oneCell' = true)
    (hF : ∀ i, i < n → F i = if i = o0 then v else f0 i) (h : ∀ w', RT g w w' → w'.rowIs g t' n F → K (a.put o.dst undef) w') : o.wp P a w K Q := by
  obtain ⟨dst, op, type, pos, after, guard⟩ := o
  simp only at ho
  subst ho
  have hsz : (sizeOf t).run P w = .ok 1 w := by
    cases hq : P.info? t with
    | none => simp [hq] at hi
    | some i => simp [hq] at hi; simp [sizeOf, typeInfo, hq, hi]
  have hc := hr.cell hm
  have hf := hr.frozen o0
  have hcs : v.cells = #[v] := by cases v <;> first | rfl | simp [Value.oneCell'] at hone
  refine opr_unit (s := Instr.storeAt t (a.eval x) (a.eval y)) (w' := w.setCell ⟨g, o0, none⟩ v) rfl ?_ (h _ (RT.setCell w o0 v) ((hr.set o0 v).congr fun i hi => by rw [hF i hi]))
  rw [hx, hy]
  simp [Instr.storeAt, Instr.sureAddr, storeVar, hsz, hcs, storeCells, run_store _ _ _ _ _ hone, hc, hf, Addr.add_zero']
theorem RT.setCells {R : Nat} (vs : List Value) (o : Nat) (w : World) : RT R w (w.setCells R o vs) := by
  induction vs generalizing o w with
  | nil => exact RT.refl _ _
  | cons v r ih => rw [World.setCells]; exact RT.trans _ _ _ (RT.setCell w o v) (ih (o + 1) _)
theorem opr_putm {t t' : TypeId} {x y : Operand} {g o0 n m : Nat} {f f0 F : Nat → Value} (ho : o.op = .store t x y) (hx : a.eval x = .pointer (some ⟨g, o0, none⟩)) (hy : a.eval y = .agg (rowA m f)) (hr : w.rowIs g t' n f0) (hm : o0 + m ≤ n) (hi : (P.info? t).map (·.size) = some m) (hone : ∀ i, (f i).oneCell' = true)
    (hF : ∀ i, i < n → F i = if o0 ≤ i ∧ i < o0 + m then f (i - o0) else f0 i) (h : ∀ w', RT g w w' → w'.rowIs g t' n F → K (a.put o.dst undef) w') : o.wp P a w K Q := by
  refine wp_store_mid t x y ho g o0 (rowA m f) hx hy (by rw [rowA_size]; exact fun j hj => ⟨by simp [hr.cell (i := o0 + j) (by omega)], by simpa using hr.frozen (o0 + j)⟩) (by rw [rowA_size]; exact hi) (rowA_one _ _ hone) ?_
  refine h _ (RT.setCells _ _ _) ((rowIs_setCells_at hr (rowA m f).toList o0).congr fun i hi => ?_)
  rw [hF i hi, rowA_toList]
  simp only [List.length_map, List.length_range]
  by_cases h : o0 ≤ i ∧ i < o0 + m
  · rw [if_pos h, if_pos h]
    simp [show i - o0 < m by omega]
  · rw [if_neg h, if_neg h]
end
section
variable (x : Rc) (sv dv : Value) (i : Nat)
theorem rs_kind (n : Int) : recF { x with kind := n } sv dv i = if i = 0 then .int .i64 n else recF x sv dv i := by
  unfold recF; by_cases h : i = 0
  · subst h; rfl
  · simp only [h, if_false]
theorem rs_saga (n : Int) : recF { x with saga := n } sv dv i = if i = 1 then .int .i64 n else recF x sv dv i := by
  unfold recF; by_cases h : i = 1
  · subst h; rfl
  · simp only [h, if_false]
theorem rs_seq (n : Int) : recF { x with seq := n } sv dv i = if i = 2 then .int .i64 n else recF x sv dv i := by
  unfold recF; by_cases h : i = 2
  · subst h; rfl
  · simp only [h, if_false]
theorem rs_step (n : Int) : recF { x with step := n } sv dv i = if i = 3 then .int .i64 n else recF x sv dv i := by
  unfold recF; by_cases h : i = 3
  · subst h; rfl
  · simp only [h, if_false]
theorem rs_tr (n : Int) : recF { x with tr := n } sv dv i = if i = 4 then .int .i64 n else recF x sv dv i := by
  unfold recF; by_cases h : i = 4
  · subst h; rfl
  · simp only [h, if_false]
theorem rs_nd (n : Int) : recF { x with nd := n } sv dv i = if i = 7 then .int .i64 n else recF x sv dv i := by
  unfold recF; by_cases h : i = 7
  · subst h; rfl
  · simp only [h, if_false]
theorem rs_part (n : Int) : recF { x with part := n } sv dv i = if i = 8 then .int .i64 n else recF x sv dv i := by
  unfold recF; by_cases h : i = 8
  · subst h; rfl
  · simp only [h, if_false]
theorem rs_epoch (n : Int) : recF { x with epoch := n } sv dv i = if i = 9 then .int .i64 n else recF x sv dv i := by
  by_cases h : i = 9
  · subst h; rfl
  · rw [if_neg h]
    by_cases h10 : i < 10
    · have : i = 0 ∨ i = 1 ∨ i = 2 ∨ i = 3 ∨ i = 4 ∨ i = 5 ∨ i = 6 ∨ i = 7 ∨ i = 8 := by omega
      rcases this with rfl | rfl | rfl | rfl | rfl | rfl | rfl | rfl | rfl <;> rfl
    · unfold recF; simp only [h10, if_false]
theorem rs_back (n : Bool) : recF { x with back := n } sv dv i = if i = 5 then .bool n else recF x sv dv i := by
  unfold recF; by_cases h : i = 5
  · subst h; rfl
  · simp only [h, if_false]
theorem rs_good (n : Bool) : recF { x with good := n } sv dv i = if i = 6 then .bool n else recF x sv dv i := by
  unfold recF; by_cases h : i = 6
  · subst h; rfl
  · simp only [h, if_false]
theorem rs_gone (n : Bool) : recF { x with gone := n } sv dv i = if i = 76 then .bool n else recF x sv dv i := by
  unfold recF; by_cases h : i = 76
  · subst h; rfl
  · simp only [h, if_false]
theorem rs_steps (v : Value) : recF x v dv i = if i = 42 then v else recF x sv dv i := by
  unfold recF; by_cases h : i = 42
  · subst h; rfl
  · simp only [h, if_false]
theorem rs_data (v : Value) : recF x sv v i = if i = 43 then v else recF x sv dv i := by
  unfold recF; by_cases h : i = 43
  · subst h; rfl
  · simp only [h, if_false]
theorem rs_tag (d : Nat → UInt8) (hi : i < 109) : recF { x with tag := d } sv dv i = if 10 ≤ i ∧ i < 10 + 32 then bF d (i - 10) else recF x sv dv i := by
  by_cases h : 10 ≤ i ∧ i < 10 + 32
  · rw [if_pos h]; obtain ⟨j, rfl⟩ := Nat.exists_eq_add_of_le h.1; rw [recF_tag _ _ _ _ (by omega), Nat.add_sub_cancel_left]
  · rw [if_neg h]; unfold recF; by_cases h1 : i < 10
    · simp only [h1, if_true]
    · have h2 : ¬ i < 42 := by omega
      simp only [h1, h2, if_false]
theorem rs_salt (d : Nat → UInt8) (hi : i < 109) : recF { x with salt := d } sv dv i = if 44 ≤ i ∧ i < 44 + 32 then bF d (i - 44) else recF x sv dv i := by
  by_cases h : 44 ≤ i ∧ i < 44 + 32
  · rw [if_pos h]; obtain ⟨j, rfl⟩ := Nat.exists_eq_add_of_le h.1; rw [recF_salt _ _ _ _ (by omega), Nat.add_sub_cancel_left]
  · rw [if_neg h]; unfold recF; by_cases h1 : i < 10
    · simp only [h1, if_true]
    · by_cases h2 : i < 42
      · simp only [h1, h2, if_true, if_false]
      · by_cases h3 : i = 42
        · subst h3; rfl
        · by_cases h4 : i = 43
          · subst h4; rfl
          · have h5 : ¬ i < 76 := by omega
            simp only [h1, h2, h3, h4, h5, if_false]
theorem rs_com (d : Nat → UInt8) (hi : i < 109) : recF { x with com := d } sv dv i = if 77 ≤ i ∧ i < 77 + 32 then bF d (i - 77) else recF x sv dv i := by
  by_cases h : 77 ≤ i ∧ i < 77 + 32
  · rw [if_pos h]; obtain ⟨j, rfl⟩ := Nat.exists_eq_add_of_le h.1; rw [recF_com _ _ _ _ (by omega), Nat.add_sub_cancel_left]
  · rw [if_neg h]; unfold recF; by_cases h1 : i < 10
    · simp only [h1, if_true]
    · by_cases h2 : i < 42
      · simp only [h1, h2, if_true, if_false]
      · by_cases h3 : i = 42
        · subst h3; rfl
        · by_cases h4 : i = 43
          · subst h4; rfl
          · by_cases h5 : i < 76
            · simp only [h1, h2, h3, h4, h5, if_true, if_false]
            · have h6 : i = 76 := by omega
              subst h6; rfl
end
theorem rdP_nil (w : World) : RdP w (.slice none 0 0) [] := ⟨none, 0, rfl, Nat.le_refl _, by unfold maxLen; omega, fun h => absurd h (by simp)⟩
theorem info_i1 : (Tryd.prog.info? 3).map (·.size) = some 1 := by kernel_rfl
theorem info_b1 : (Tryd.prog.info? 4).map (·.size) = some 1 := by kernel_rfl
theorem info_s1 : (Tryd.prog.info? 24).map (·.size) = some 1 := by kernel_rfl
theorem info_d1 : (Tryd.prog.info? 25).map (·.size) = some 1 := by kernel_rfl
theorem build_kind (k : Int) (w : World) : (Instr.build 27 #[(0, .int .i64 k)]).run Tryd.prog w = .ok (.agg (rowA 109 (recF { zR with kind := k } (.slice none 0 0) (.slice none 0 0)))) w := by kernel_rfl
theorem opr_build {a : Act} {w : World} {o : Oper} {K : Act → World → Prop} {Q : Exit → Act → World → Prop} {t : TypeId} {parts : Array (Nat × Operand)} {pv : Array (Nat × Value)} {v : Value} (ho : o.op = .build t parts) (hp : parts.map (fun (i, x) => (i, a.eval x)) = pv) (hr : (Instr.build t pv).run Tryd.prog w = .ok v w) (h : K (a.put o.dst v) w) : o.wp Tryd.prog a w K Q := by
  obtain ⟨dst, op, type, pos, after, guard⟩ := o
  simp only at ho
  subst ho hp
  exact opr_val (s := Instr.build t (parts.map fun (i, x) => (i, a.eval x))) rfl hr h
end Go.Proofs.YthgblcpekhiphaaDoor
/- Steps that write a block that is new. -/
namespace Go.Proofs.YthgblcpekhiphaaDoor
open Go Go.RowKit
set_option maxRecDepth 8000
theorem NewT.rt {w a b : World} {R : Nat} (h : NewT w a) (hT : RT R a b) (hR : w.heap.size ≤ R) : NewT w b := Below.trans h (hT.below.mono hR)
theorem put_all (F G : Nat → Value) : ∀ i, i < 109 → F i = if 0 ≤ i ∧ i < 0 + 109 then F (i - 0) else G i := fun i hi => by
  rw [if_pos (by omega), Nat.sub_zero]
end Go.Proofs.YthgblcpekhiphaaDoor
/- Slices of steps that a call makes: rows of pairs, appended to, cloned. -/
namespace Go.Proofs.YthgblcpekhiphaaDoor
open Go Go.RowKit
set_option maxRecDepth 8000
/-- The cells of steps, one behind the other. -/
def pc (l : List (Int × Int)) : List Value := l.flatMap fun s => [.int .i64 s.1, .int .i64 s.2]
theorem pc_length (l : List (Int × Int)) : (pc l).length = l.length * 2 := by
  induction l with
  | nil => rfl
  | cons s l ih => simp [pc] at ih ⊢; omega
theorem pc_append (l m : List (Int × Int)) : pc (l ++ m) = pc l ++ pc m := by simp [pc]
theorem pc_get (l : List (Int × Int)) (i : Nat) (hi : i < l.length) : (pc l)[2 * i]? = some (.int .i64 (l.getD i (0, 0)).1) ∧ (pc l)[2 * i + 1]? = some (.int .i64 (l.getD i (0, 0)).2) := by
  induction l generalizing i with
  | nil => simp at hi
  | cons s l ih =>
    cases i with
    | zero => simp [pc]
    | succ i =>
      have := ih i (by simpa using hi)
      have e : pc (s :: l) = .int .i64 s.1 :: .int .i64 s.2 :: pc l := by simp [pc]
      rw [e, show 2 * (i + 1) = 2 * i + 1 + 1 by omega]
      simpa using this
theorem pc_one (l : List (Int × Int)) : ∀ u ∈ pc l, u.oneCell' = true := fun u hu => by
  simp only [pc, List.mem_flatMap] at hu
  obtain ⟨s, _, hs⟩ := hu
  simp at hs
  rcases hs with rfl | rfl <;> rfl
theorem rdP_own {W : World} {base : Nat} {v : Value} {l : List (Int × Int)} (h : W.ownsRow base 46 2 v l.length (pc l)) : RdP W v l := by
  have hc : ∀ g : Nat, v.ownBlock = some g → ∀ j u, (pc l)[j]? = some u → W.cell? ((⟨g, 0, none⟩ : Addr).add j) = some u := fun g hg => h.cells hg
  rcases h.2 with ⟨rfl, h0⟩ | ⟨g, cap, cur, rfl, _, _, hnc, hcm, _, _⟩
  · exact ⟨none, 0, by rw [h0], by omega, by unfold maxLen; omega, fun h => absurd h (by omega)⟩
  · refine ⟨some ⟨g, 0, none⟩, cap, rfl, hnc, hcm, fun _ => ⟨g, 0, rfl, fun i hi => ?_⟩⟩
    have h1 := hc g rfl _ _ (pc_get l i hi).1
    have h2 := hc g rfl _ _ (pc_get l i hi).2
    rw [Addr.add_mid] at h1 h2
    exact ⟨h1, by rw [Nat.add_assoc]; exact h2⟩
theorem info_stp : (Tryd.prog.info? 46).map (fun i => (i.zero, i.size, i.bytes)) = some (some (.agg #[.int .i64 0, .int .i64 0]), 2, 16) := by kernel_rfl
theorem info_parts2 {e : TypeId} {z : Value} {s b : Nat} (h : (Tryd.prog.info? e).map (fun i => (i.zero, i.size, i.bytes)) = some (some z, s, b)) : ∃ i0, Tryd.prog.info? e = some i0 ∧ i0.zero = some z ∧ i0.size = s ∧ i0.bytes = b := by
  cases hq : Tryd.prog.info? e with
  | none => rw [hq] at h; cases h
  | some i => rw [hq] at h; simp at h; exact ⟨i, rfl, h.1, h.2.1, h.2.2⟩
/-- A slice of steps, put behind a row of the call's own. -/
theorem run_append_steps {W : World} {base : Nat} {v u : Value} {l m : List (Int × Int)} (ho : W.ownsRow base 46 2 v l.length (pc l)) (hu : RdP W u m) (hu0 : ∀ n c, u ≠ .slice none n c) (hn : l.length + m.length ≤ 1000000) (hb : base ≤ W.heap.size) (ty : TypeId) :
    ∃ v' w', (Builtin.append_ #[24, 24] ty #[v, u]).run Tryd.prog W = .ok v' w' ∧ w'.ownsRow base 46 2 v' (l ++ m).length (pc (l ++ m)) ∧ W.grownBy w' v.ownBlock := by
  obtain ⟨A, c, rfl, h1, h2, h3⟩ := hu
  cases A with
  | none => exact absurd rfl (hu0 _ _)
  | some ad =>
    obtain ⟨i0, hi, hz0, hz1, hz2⟩ := info_parts2 info_stp
    obtain ⟨v', w', hr, ho', hg, _⟩ := run_append_own (P := Tryd.prog) (w := W) base 24 ty 46 i0 _ 2 16 Tryd.underlying24 hi hz0 hz1 hz2 rfl (by omega) v l.length (pc l) ho ad m.length c (pc m) (pc_length m) (fun j x hj => by
      have hjl : j < m.length * 2 := by have := (List.getElem?_eq_some_iff.1 hj).1; rwa [pc_length] at this
      obtain ⟨b, o, hA, hcell⟩ := h3 (by omega)
      cases hA
      have hg := pc_get m (j / 2) (by omega)
      obtain ⟨c0, c1⟩ := hcell (j / 2) (by omega)
      rw [Addr.add_mid]
      by_cases he : j % 2 = 0
      · rw [show j = 2 * (j / 2) by omega] at hj ⊢
        rw [hg.1] at hj; cases hj
        exact c0
      · rw [show j = 2 * (j / 2) + 1 by omega] at hj ⊢
        rw [hg.2] at hj; cases hj
        rw [← Nat.add_assoc]
        exact c1) (pc_one m) (by unfold maxLen; omega) (by omega) hb
    exact ⟨v', w', hr, by rw [List.length_append, pc_append]; exact ho', hg⟩
end Go.Proofs.YthgblcpekhiphaaDoor
/- Steps that are cloned lie in memory that is new. -/
namespace Go.Proofs.YthgblcpekhiphaaDoor
open Go Go.RowKit
set_option maxRecDepth 8000
/-- Steps, in a block from B on. -/
def RdPB (w : World) (B : Nat) (v : Value) (l : List (Int × Int)) : Prop := RdP w v l ∧ (0 < l.length → ∀ a n c, v = .slice (some a) n c → B ≤ a.block)
/-- Bytes, in a block from B on. -/
def RdVB (w : World) (B : Nat) (v : Value) (l : List UInt8) : Prop := ∀ L, (∀ k ∈ L, k < B) → RdV w L v l
theorem RT.pairs {R : Nat} {w w' : World} (h : RT R w w') {v : Value} {l : List (Int × Int)} (hr : RdP w v l) (hne : 0 < l.length → ∀ a n c, v = .slice (some a) n c → a.block ≠ R) : RdP w' v l := by
  obtain ⟨A, cap, rfl, h1, h2, h3⟩ := hr
  refine ⟨A, cap, rfl, h1, h2, fun h0 => ?_⟩
  obtain ⟨b, o, rfl, hc⟩ := h3 h0
  have hb : b ≠ R := hne h0 ⟨b, o, none⟩ _ _ rfl
  exact ⟨b, o, rfl, fun i hi => ⟨h.keep.cell (a := ⟨b, o + 2 * i, none⟩) (by simpa using hb) (hc i hi).1, h.keep.cell (a := ⟨b, o + 2 * i + 1, none⟩) (by simpa using hb) (hc i hi).2⟩⟩
theorem RdPB.rt {R B : Nat} {w w' : World} {v : Value} {l : List (Int × Int)} (h : RdPB w B v l) (hT : RT R w w') (hR : R < B) : RdPB w' B v l :=
  ⟨hT.pairs h.1 fun h0 a n c e => by have := h.2 h0 a n c e; omega, h.2⟩
theorem RdPB.new {B : Nat} {w w' : World} {v : Value} {l : List (Int × Int)} (h : RdPB w B v l) (hT : NewT w w') : RdPB w' B v l := ⟨hT.pairs h.1, h.2⟩
theorem RdPB.mono {B B' : Nat} {w : World} {v : Value} {l : List (Int × Int)} (h : RdPB w B v l) (hB : B' ≤ B) : RdPB w B' v l := ⟨h.1, fun h0 a n c e => Nat.le_trans hB (h.2 h0 a n c e)⟩
theorem RdVB.rt {R B : Nat} {w w' : World} {v : Value} {l : List UInt8} (h : RdVB w B v l) (hT : RT R w w') (hR : R < B) : RdVB w' B v l := fun L hL =>
  ((h (R :: L) (fun k hk => by rcases List.mem_cons.1 hk with rfl | hk; exact hR; exact hL k hk)).keep (hT.keep.more (by simp))).less (fun k hk => by simp [hk])
theorem RdVB.new {B : Nat} {w w' : World} {v : Value} {l : List UInt8} (h : RdVB w B v l) (hT : NewT w w') : RdVB w' B v l := fun L hL => hT.rd (h L hL)
theorem RdVB.out {B : Nat} {w : World} {v : Value} {l : List UInt8} (h : RdVB w B v l) : RdV w [] v l := h [] (by simp)
theorem RdVB.mono {B B' : Nat} {w : World} {v : Value} {l : List UInt8} (h : RdVB w B v l) (hB : B' ≤ B) : RdVB w B' v l := fun L hL => h L fun k hk => Nat.lt_of_lt_of_le (hL k hk) hB
def svPairsN (B : Nat) (l : List (Int × Int)) : SV NewT := ⟨fun v w => RdPB w B v l, fun _ _ _ h hT => h.new hT⟩
def svPairsB (R : Nat) (l : List (Int × Int)) : SV (RT R) := ⟨fun v w => RdPB w (R + 1) v l, fun _ _ _ h hT => h.rt hT (Nat.lt_succ_self _)⟩
def svRdB (R : Nat) (l : List UInt8) : SV (RT R) := ⟨fun v w => RdVB w (R + 1) v l, fun _ _ _ h hT => h.rt hT (Nat.lt_succ_self _)⟩
set_option maxHeartbeats 400000 in
theorem CloneS_cvN (v : Value) (l : List (Int × Int)) (w : World) (h : RdP w v l) (hl : l.length ≤ 900000) : Cv 34 #[v] w (svPairsN w.heap.size l) := by
  unfold Cv
  have hh := h
  obtain ⟨A, cap, rfl, h1, h2, h3⟩ := h
  have hq : ∀ (w : World) (a : Option Addr) (n c n' c' : Nat), (binOp .eql 24 (.slice a n c) (.slice none n' c')).run Tryd.prog w = .ok (.bool a.isNone) w := fun w a n c n' c' => Lib.run_eql_slice_nil w _ _ a n c n' c' Tryd.underlying24
  cases A with
  | none =>
    have h0 : l = [] := by
      cases l with
      | nil => rfl
      | cons b l => obtain ⟨_, _, h, _⟩ := h3 (by simp); cases h
    subst h0
    clear h3 hh
    go_enter Tryd.func34, Tryd.ntmps34
    go_wp2
    go_ret
    exact ⟨_, rfl, NewT.refl _, ⟨none, 0, rfl, Nat.le_refl _, by unfold maxLen; omega, fun h => absurd h (by simp)⟩, fun _ a n c h => by cases h⟩
  | some a =>
    have hN := NewT.alloc w (.cells #[] 46)
    have o0 : (w.alloc (.cells #[] 46)).ownsRow w.heap.size 46 2 (.slice (some ⟨w.heap.size, 0, none⟩) 0 0) ([] : List (Int × Int)).length (pc []) :=
      ⟨rfl, .inr ⟨w.heap.size, 0, #[], rfl, Nat.le_refl _, World.alloc_heap_new _ _, Nat.le_refl _, by unfold maxLen; omega, rfl, rfl⟩⟩
    obtain ⟨v', w', hr, ho', hg⟩ := run_append_steps o0 (hN.pairs hh) (fun n c h => by cases h) (by simp; omega) hN.out.size 24
    have hB : Below w.heap.size w w' := hN.out.grown hg hN.out.size (fun k e => by simp [Value.ownBlock] at e; omega)
    have Ho := Lib.hid ho'
    clear h3 hh hN o0 hg ho'
    go_enter Tryd.func34, Tryd.ntmps34
    go_upto_region 3 with fail
    refine wp_region_lit ?_
    iterate 2 (refine wpList_plain rfl (fun K hK => ?_); go_simp; refine hK _ _ ?_; clear hK K)
    refine wpList_plain rfl (fun K hK => ?_)
    refine opr_append rfl rfl rfl hr (hK _ _ ?_)
    clear hK K
    refine wpList_plain rfl (fun K hK => ?_)
    refine opr_move (.inr rfl) (hK _ _ ?_)
    clear hK K
    refine wpList_nil ?_
    go_simp
    go_wp2
    go_ret
    refine ⟨_, rfl, hB, rdP_own Ho.out, fun _ a n c e => ?_⟩
    rcases Ho.out.2 with ⟨h, _⟩ | ⟨g, cap, cur, h, hb, _⟩
    · have e' := h.symm.trans e; cases e'
    · have e' := h.symm.trans e; cases e'; exact hb
end Go.Proofs.YthgblcpekhiphaaDoor
