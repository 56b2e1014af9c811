/- ShaTurns, walked. -/
import Derived.Test.YtgeoognploliiaaDoorF1
import Derived.Test.YtgeoognploliiaaDoorG2
import Derived.Test.YtgeoognploliiaaDoorG3
namespace Go.Proofs.YtgeoognploliiaaDoor
open Go.RowKit
attribute [local go_sem] uF_at equal_state equal_state2

/-- The state behind a block; itself if it hasn't 64 bytes. -/
def turnS (h : Nat → BitVec 32) (l : List UInt8) : Nat → BitVec 32 := if l.length = 64 then turnF Kc h l else h
theorem Turn_near (h : Nat → BitVec 32) (A : Option Addr) (n cap : Nat) (l : List UInt8) (W0 w : World) (hT : Tables W0) (hr : RdV W0 [] (.slice A n cap) l) (hB : Below W0.heap.size W0 w) :
    Calls Tryd.prog 10 #[.agg (rowA 8 (uF h)), .slice A n cap] w fun e w' => e = .returned (.agg (rowA 8 (uF (turnS h l)))) ∧ Below W0.heap.size W0 w' := by
  have hr2 := hr.keep (KeepBut.below hB)
  have hT2 := hT.below hB
  obtain ⟨A', cap', hv, h1, h2, h3⟩ := hr2
  cases hv
  by_cases h64 : l.length = 64
  · rw [h64] at h1 h3 ⊢
    obtain ⟨b, o, rfl, _, hc⟩ := h3 (by omega)
    have hbl : b < w.heap.size := World.block_lt_of_cell? _ _ (hc 0 (by omega))
    refine (Turn_any Kc h l b o cap h1 h2 w hbl hT2.size hT2.k hc).mono ?_
    rintro e w' ⟨rfl, hb⟩
    exact ⟨by rw [turnS, if_pos h64]; rfl, hB.trans (hb.mono hB.size)⟩
  · refine (Turn_no h A _ cap h64 w).mono ?_
    rintro e w' ⟨rfl, hb⟩
    exact ⟨by rw [turnS, if_neg h64], hB.trans (hb.mono hB.size)⟩
theorem RTurn_near (h : Nat → BitVec 32) (A : Option Addr) (n cap : Nat) (l : List UInt8) (W0 w : World) (hT : Tables W0) (hr : RdV W0 [] (.slice A n cap) l) (hB : Below W0.heap.size W0 w) :
    Calls Tryd.prog 11 #[.agg (rowA 8 (uF h)), .slice A n cap] w fun e w' => e = .returned (.agg (rowA 8 (uF (turnS h l)))) ∧ Below W0.heap.size W0 w' := by
  have hr2 := hr.keep (KeepBut.below hB)
  have hT2 := hT.below hB
  obtain ⟨A', cap', hv, h1, h2, h3⟩ := hr2
  cases hv
  by_cases h64 : l.length = 64
  · rw [h64] at h1 h3 ⊢
    obtain ⟨b, o, rfl, _, hc⟩ := h3 (by omega)
    have hbl : b < w.heap.size := World.block_lt_of_cell? _ _ (hc 0 (by omega))
    refine (RTurn_any Kc h l b o cap h1 h2 w hbl hT2.size hT2.k hc).mono ?_
    rintro e w' ⟨rfl, hb⟩
    exact ⟨by rw [turnS, if_pos h64]; rfl, hB.trans (hb.mono hB.size)⟩
  · refine (RTurn_no h A _ cap h64 w).mono ?_
    rintro e w' ⟨rfl, hb⟩
    exact ⟨by rw [turnS, if_neg h64], hB.trans (hb.mono hB.size)⟩
/-- What fills up n bytes lies there. -/
def Filled (n m : Nat) (W0 w : World) (e : Ending) (w' : World) : Prop :=
  ∃ g c, e = .returned (.slice (some ⟨g, 0, none⟩) m c) ∧ (∀ i, i < m → w'.cell? ⟨g, 0 + i, none⟩ = some (.int .u8 (bN (bAt (fillB n) i)))) ∧ Below W0.heap.size W0 w' ∧ Below w.heap.size w w'
theorem filled_of {n m : Nat} (hm : (fillB n).length = m) {W0 w : World} (hB : Below W0.heap.size W0 w) (e : Ending) (w' : World) (h : FillPost n (if n % 64 < 56 then 56 - n % 64 else 120 - n % 64) w e w') : Filled n m W0 w e w' := by
  obtain ⟨v, rfl, ho, hb⟩ := h
  obtain ⟨A3, c3, rfl, hc3, hm3, hA3⟩ := rdV_fill (L := []) (by simp) ho
  rw [hm] at hA3 ⊢
  have : 0 < m := by rw [← hm, fillB_length]; omega
  obtain ⟨b3, o3, hA, _, hcell3⟩ := hA3 this
  have ho3 : o3 = 0 := by
    rcases ho.2 with ⟨hv, _⟩ | ⟨g, cap, cur, hv, _⟩
    · rw [hA] at hv; cases hv
    · rw [hA] at hv
      simp only [Value.slice.injEq, Option.some.injEq, Addr.mk.injEq] at hv
      exact hv.1.2.1
  subst hA ho3
  exact ⟨_, _, rfl, hcell3, hB.trans (hb.mono hB.size), hb⟩
theorem Fill_near (n m : Nat) (hm : (fillB n).length = m) (hn : n ≤ 1000000) (W0 w : World) (hB : Below W0.heap.size W0 w) : Calls Tryd.prog 13 #[.int .i64 n] w (Filled n m W0 w) :=
  (Fill_any n (by omega) w).mono fun e w' h => filled_of hm hB e w' h
theorem RFill_near (n m : Nat) (hm : (fillB n).length = m) (hn : n ≤ 1000000) (W0 w : World) (hB : Below W0.heap.size W0 w) : Calls Tryd.prog 14 #[.int .i64 n] w (Filled n m W0 w) :=
  (RFill_any n hn w).mono fun e w' h => filled_of hm hB e w' h
theorem Bytes_near (l : List UInt8) (m g1 c1 g2 c2 : Nat) (hm : l.length = m) (hl : m ≤ 1000000) (W0 w4 w : World) (hB : Below W0.heap.size W0 w) (hB4 : Below w4.heap.size w4 w) (h1 : ∀ i, i < m → w4.cell? ⟨g1, 0 + i, none⟩ = some (.int .u8 (bN (bAt l i)))) (h2 : ∀ i, i < m → w.cell? ⟨g2, 0 + i, none⟩ = some (.int .u8 (bN (bAt l i)))) :
    Calls Tryd.prog 12 #[.slice (some ⟨g1, 0, none⟩) m c1, .slice (some ⟨g2, 0, none⟩) m c2] w fun e w' => e = .returned (.bool true) ∧ Below W0.heap.size W0 w' := by
  subst hm
  refine (Bytes_same l g1 0 c1 g2 0 c2 w hl (fun i hi => ?_) h2).mono ?_
  · have := h1 i hi
    exact (hB4.cell (p := ⟨g1, 0 + i, none⟩) (World.block_lt_of_cell? _ _ this)).trans this
  · rintro e w' ⟨rfl, hb⟩
    exact ⟨rfl, hB.trans (hb.mono hB.size)⟩

set_option maxHeartbeats 4000000 in
theorem ShaTurns_walk (h : Nat → BitVec 32) (vb : Value) (lb : List UInt8) (n : Int) (w : World) (hT : Tables w) (hb : RdV w [] vb lb) :
    Calls Tryd.prog 3 #[.agg (rowA 8 (uF h)), vb, .int .i64 n] w fun e w' => e = .returned (.bool true) ∧ Below w.heap.size w w' := by
  have HT := Lib.hid hT
  have Hb := Lib.hid hb
  obtain ⟨Ab, cb, rfl, hcap, hmax, hcells⟩ := hb
  clear hT hcells
  generalize hnb : lb.length = nb
  rw [hnb] at hcap Hb
  have hB0 : Below w.heap.size w (w.alloc (.cells (rowA 8 (uF h)) 23)) := (Below.refl _ w).alloc (Nat.le_refl _) _
  by_cases g1 : 200 < nb
  · go_enter Tryd.func3, Tryd.ntmps3
    go_wp2_with fail
    refine (alive_any _ (HT.out.below hB0)).mono ?_
    rintro e w1 ⟨rfl, hB⟩
    go_wp2
    go_ret
    exact ⟨rfl, hB0.trans (hB.mono hB0.size)⟩
  by_cases g2 : 1000000 < n
  · go_enter Tryd.func3, Tryd.ntmps3
    go_wp2_with fail
    refine (alive_any _ (HT.out.below hB0)).mono ?_
    rintro e w1 ⟨rfl, hB⟩
    go_wp2
    go_ret
    exact ⟨rfl, hB0.trans (hB.mono hB0.size)⟩
  obtain ⟨S, HS2⟩ : ∃ S, Hid (turnS h lb = S) := ⟨_, Lib.hid rfl⟩
  by_cases hneg : n < 0
  · go_enter Tryd.func3, Tryd.ntmps3
    go_wp2_with fail
    have r0 := rowIs_box w 23 8 (uF h)
    refine (alive_any _ (HT.out.below hB0)).mono ?_
    rintro e w1 ⟨rfl, hB1⟩
    replace r0 := rowIs_below r0 hB1 r0.lt
    have hB := hB0.trans (hB1.mono hB0.size)
    clear hB1 hB0
    have HS : Hid (∀ w' : World, Below w1.drew.heap.size w1.drew w' → w'.cell? ⟨w.heap.size, 0, none⟩ = some (uF h 0) ∧ w'.cell? ⟨w.heap.size, 1, none⟩ = some (uF h 1) ∧ w'.cell? ⟨w.heap.size, 2, none⟩ = some (uF h 2) ∧ w'.cell? ⟨w.heap.size, 3, none⟩ = some (uF h 3) ∧ w'.cell? ⟨w.heap.size, 4, none⟩ = some (uF h 4) ∧ w'.cell? ⟨w.heap.size, 5, none⟩ = some (uF h 5) ∧ w'.cell? ⟨w.heap.size, 6, none⟩ = some (uF h 6) ∧ w'.cell? ⟨w.heap.size, 7, none⟩ = some (uF h 7)) := Lib.hid fun w' hb => by
      have r := rowIs_below r0.drew hb r0.lt
      exact ⟨r.cell (by omega), r.cell (by omega), r.cell (by omega), r.cell (by omega), r.cell (by omega), r.cell (by omega), r.cell (by omega), r.cell (by omega)⟩
    have c0 := r0.cell (i := 0) (by omega)
    have c1 := r0.cell (i := 1) (by omega)
    have c2 := r0.cell (i := 2) (by omega)
    have c3 := r0.cell (i := 3) (by omega)
    have c4 := r0.cell (i := 4) (by omega)
    have c5 := r0.cell (i := 5) (by omega)
    have c6 := r0.cell (i := 6) (by omega)
    have c7 := r0.cell (i := 7) (by omega)
    have HTV : Hid (Tables w1.drew) := Lib.hid (HT.out.below hB.drew)
    have HRV : Hid (RdV w1.drew [] (.slice Ab nb cb) lb) := Lib.hid (Hb.out.keep (KeepBut.below hB.drew))
    go_wp2_with fail
    go_region_held3 (fun w' => w'.cell? ⟨w.heap.size, 0, none⟩ = some (uF h 0) ∧ w'.cell? ⟨w.heap.size, 1, none⟩ = some (uF h 1) ∧ w'.cell? ⟨w.heap.size, 2, none⟩ = some (uF h 2) ∧ w'.cell? ⟨w.heap.size, 3, none⟩ = some (uF h 3) ∧ w'.cell? ⟨w.heap.size, 4, none⟩ = some (uF h 4) ∧ w'.cell? ⟨w.heap.size, 5, none⟩ = some (uF h 5) ∧ w'.cell? ⟨w.heap.size, 6, none⟩ = some (uF h 6) ∧ w'.cell? ⟨w.heap.size, 7, none⟩ = some (uF h 7)) (first | with_reducible exact HS.out _ hb2 | with_reducible exact HS.out _ hb1 | with_reducible exact HS.out _ (Below.refl _ _) | (trace "keep"; go_keep)) (first
      | (go_at_call 10; refine (Turn_near h Ab nb cb lb w1.drew _ HTV.out HRV.out (Below.refl _ _)).mono ?_; rw [HS2.out]; rintro e w2 ⟨rfl, hb1⟩)
      | (go_at_call 11; refine (RTurn_near h Ab nb cb lb w1.drew _ HTV.out HRV.out hb1).mono ?_; rw [HS2.out]; rintro e w3 ⟨rfl, hb2⟩)
      | (go_at_call 13; refine (Fill_neg n hneg _).mono ?_; rintro e w4 ⟨rfl, rfl⟩)
      | (go_at_call 14; refine (RFill_neg n hneg _).mono ?_; rintro e w5 ⟨rfl, rfl⟩)
      | (go_at_call 12; refine (Bytes_nil _).mono ?_; rintro e w6 ⟨rfl, rfl⟩))
    all_goals (go_wp2; go_ret; exact ⟨rfl, hB.drew.trans (hb2.mono hB.drew.size)⟩)
  · obtain ⟨N, rfl⟩ := Int.eq_ofNat_of_zero_le (Int.not_lt.1 hneg)
    obtain ⟨m, hm⟩ : ∃ m, (fillB N).length = m := ⟨_, rfl⟩
    have hm2 : m ≤ 72 := by rw [← hm, fillB_length]; split <;> omega
    have hN : N ≤ 1000000 := by omega
    have Hm := Lib.hid hm
    clear hm
    go_enter Tryd.func3, Tryd.ntmps3
    go_wp2_with fail
    have r0 := rowIs_box w 23 8 (uF h)
    refine (alive_any _ (HT.out.below hB0)).mono ?_
    rintro e w1 ⟨rfl, hB1⟩
    replace r0 := rowIs_below r0 hB1 r0.lt
    have hB := hB0.trans (hB1.mono hB0.size)
    clear hB1 hB0
    have HS : Hid (∀ w' : World, Below w1.drew.heap.size w1.drew w' → w'.cell? ⟨w.heap.size, 0, none⟩ = some (uF h 0) ∧ w'.cell? ⟨w.heap.size, 1, none⟩ = some (uF h 1) ∧ w'.cell? ⟨w.heap.size, 2, none⟩ = some (uF h 2) ∧ w'.cell? ⟨w.heap.size, 3, none⟩ = some (uF h 3) ∧ w'.cell? ⟨w.heap.size, 4, none⟩ = some (uF h 4) ∧ w'.cell? ⟨w.heap.size, 5, none⟩ = some (uF h 5) ∧ w'.cell? ⟨w.heap.size, 6, none⟩ = some (uF h 6) ∧ w'.cell? ⟨w.heap.size, 7, none⟩ = some (uF h 7)) := Lib.hid fun w' hb => by
      have r := rowIs_below r0.drew hb r0.lt
      exact ⟨r.cell (by omega), r.cell (by omega), r.cell (by omega), r.cell (by omega), r.cell (by omega), r.cell (by omega), r.cell (by omega), r.cell (by omega)⟩
    have c0 := r0.cell (i := 0) (by omega)
    have c1 := r0.cell (i := 1) (by omega)
    have c2 := r0.cell (i := 2) (by omega)
    have c3 := r0.cell (i := 3) (by omega)
    have c4 := r0.cell (i := 4) (by omega)
    have c5 := r0.cell (i := 5) (by omega)
    have c6 := r0.cell (i := 6) (by omega)
    have c7 := r0.cell (i := 7) (by omega)
    have HTV : Hid (Tables w1.drew) := Lib.hid (HT.out.below hB.drew)
    have HRV : Hid (RdV w1.drew [] (.slice Ab nb cb) lb) := Lib.hid (Hb.out.keep (KeepBut.below hB.drew))
    go_wp2_with fail
    go_region_held3 (fun w' => w'.cell? ⟨w.heap.size, 0, none⟩ = some (uF h 0) ∧ w'.cell? ⟨w.heap.size, 1, none⟩ = some (uF h 1) ∧ w'.cell? ⟨w.heap.size, 2, none⟩ = some (uF h 2) ∧ w'.cell? ⟨w.heap.size, 3, none⟩ = some (uF h 3) ∧ w'.cell? ⟨w.heap.size, 4, none⟩ = some (uF h 4) ∧ w'.cell? ⟨w.heap.size, 5, none⟩ = some (uF h 5) ∧ w'.cell? ⟨w.heap.size, 6, none⟩ = some (uF h 6) ∧ w'.cell? ⟨w.heap.size, 7, none⟩ = some (uF h 7)) (first | with_reducible exact HS.out _ hb5 | with_reducible exact HS.out _ hb4 | with_reducible exact HS.out _ hb3 | with_reducible exact HS.out _ hb2 | with_reducible exact HS.out _ hb1 | with_reducible exact HS.out _ (Below.refl _ _) | (trace "keep"; go_keep)) (first
      | (go_at_call 10; refine (Turn_near h Ab nb cb lb w1.drew _ HTV.out HRV.out (Below.refl _ _)).mono ?_; rw [HS2.out]; rintro e w2 ⟨rfl, hb1⟩)
      | (go_at_call 11; refine (RTurn_near h Ab nb cb lb w1.drew _ HTV.out HRV.out hb1).mono ?_; rw [HS2.out]; rintro e w3 ⟨rfl, hb2⟩)
      | (go_at_call 13; refine (Fill_near N m Hm.out hN w1.drew _ hb2).mono ?_; rintro e w4 ⟨y1, d1, rfl, hc1, hb3, hx3⟩; have HC1 := Lib.hid hc1; clear hc1)
      | (go_at_call 14; refine (RFill_near N m Hm.out hN w1.drew _ hb3).mono ?_; rintro e w5 ⟨y2, d2, rfl, hc2, hb4, hx4⟩; have HC2 := Lib.hid hc2; clear hc2)
      | (go_at_call 12; refine (Bytes_near (fillB N) m y1 d1 y2 d2 Hm.out (by omega) w1.drew w4 _ hb4 hx4 HC1.out HC2.out).mono ?_; rintro e w6 ⟨rfl, hb5⟩))
    all_goals (go_wp2; go_ret; exact ⟨rfl, hB.drew.trans (hb5.mono hB.drew.size)⟩)
end Go.Proofs.YtgeoognploliiaaDoor
