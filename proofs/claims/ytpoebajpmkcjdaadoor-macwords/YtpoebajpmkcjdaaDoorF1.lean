import Derived.Test.YtpoebajpmkcjdaaDoorC2
import Derived.Test.YtpoebajpmkcjdaaDoorApp
namespace Go.Proofs.YtpoebajpmkcjdaaDoor
open Go.RowKit
attribute [local go_sem] uF_at

set_option maxHeartbeats 1000000 in
/-- A block that hasn't 64 bytes turns nothing. -/
theorem Turn_no (s : Nat → BitVec 32) (A : Option Addr) (n cap : Nat) (hn : n ≠ 64) (w : World) :
    Calls Tryd.prog 16 #[.agg (rowA 8 (uF s)), .slice A n cap] w fun e w' => e = .returned (.agg (rowA 8 (uF s))) ∧ Below w.heap.size w w' := by
  have hn2 : ((n : Int) == 64) = false := by simp; omega
  have r0 := (rowIs_box w 23 8 (uF s)).alloc (.cells (rowA 8 fun _ => .int .u32 0) 23)
  have r1 := rowIs_box (w.alloc (.cells (rowA 8 (uF s)) 23)) 23 8 fun _ => .int .u32 0
  have hB : Below w.heap.size w ((w.alloc (.cells (rowA 8 (uF s)) 23)).alloc (.cells (rowA 8 fun _ => .int .u32 0) 23)) :=
    ((Below.refl _ w).alloc (Nat.le_refl _) _).alloc (by simp) _
  rw [World.size_alloc] at r1
  have hR := rangeAt_row r0
  go_enter Tryd.func16, Tryd.ntmps16
  go_wp2_with (first
    | (refine wpList_load_mid rfl 23 (.tmp 2) rfl w.heap.size 0 rfl (rowA 8 (uF s)).toList _ hR Tryd.underlying23 rfl (by rw [rowA_toList]; simpa using info23) ?_)
    | (refine wpList_store_mid rfl 23 (.tmp 4) (.tmp 10) rfl (w.heap.size + 1) 0 (rowA 8 (uF s)) rfl rfl (by rw [rowA_size]; exact there_row r1) (by rw [rowA_size]; exact info23) (rowA_one _ _ fun _ => rfl) ?_))
  exact bodyPost_ret (results_row rfl _ rfl (rowIs_setAll r1 (uF s)) Tryd.underlying23 info23) rfl ⟨rfl, below_setCells _ (by omega) _ _ _ hB⟩

theorem word_back (x : BitVec 32) : (((((x >>> 24).setWidth 8).setWidth 32 <<< 24) ||| (((x >>> 16).setWidth 8).setWidth 32 <<< 16)) ||| (((x >>> 8).setWidth 8).setWidth 32 <<< 8)) ||| ((x >>> 0).setWidth 8).setWidth 32 = x := by
  apply BitVec.eq_of_getLsbD_eq
  intro i hi
  simp only [BitVec.getLsbD_or, BitVec.getLsbD_shiftLeft, BitVec.getLsbD_setWidth, BitVec.getLsbD_ushiftRight]
  by_cases h1 : i < 8
  · simp [h1, show i < 16 by omega, show i < 24 by omega, hi]
  · by_cases h2 : i < 16
    · simp [h1, h2, show i < 24 by omega, hi, show i - 8 < 8 by omega, show i - 8 < 32 by omega, show 8 + (i - 8) = i by omega]
    · by_cases h3 : i < 24
      · simp [h1, h2, h3, hi, show i - 16 < 8 by omega, show ¬ i - 8 < 8 by omega, show i - 16 < 32 by omega, show 16 + (i - 16) = i by omega]
      · simp [h1, h2, h3, hi, show i - 24 < 8 by omega, show ¬ i - 8 < 8 by omega, show ¬ i - 16 < 8 by omega, show i - 24 < 32 by omega, show 24 + (i - 24) = i by omega]
theorem dig_word (S : Nat → BitVec 32) (i : Nat) :
    ((((dig S (4 * i)).toBitVec.setWidth 32 <<< 24) ||| ((dig S (4 * i + 1)).toBitVec.setWidth 32 <<< 16)) ||| ((dig S (4 * i + 2)).toBitVec.setWidth 32 <<< 8)) ||| (dig S (4 * i + 3)).toBitVec.setWidth 32 = S i := by
  unfold dig
  rw [show 4 * i / 4 = i by omega, show (4 * i + 1) / 4 = i by omega, show (4 * i + 2) / 4 = i by omega, show (4 * i + 3) / 4 = i by omega,
    show 4 * i % 4 = 0 by omega, show (4 * i + 1) % 4 = 1 by omega, show (4 * i + 2) % 4 = 2 by omega, show (4 * i + 3) % 4 = 3 by omega]
  exact word_back (S i)
theorem slice_to (A : Option Addr) (n cap m : Nat) (hm : m ≤ cap) (w : World) : (Instr.slice 24 (.slice A n cap) none (some (.int .i64 (m : Int))) none).run Tryd.prog w = .ok (.slice A m cap) w := by
  have hsz : (sizeOf 5).run Tryd.prog w = .ok 1 w := by
    obtain ⟨i0, hi, _, hz1, _⟩ := info_parts info5
    simp [sizeOf, typeInfo, hi, hz1]
  cases A with
  | none => simp [Instr.slice, run_underlying Tryd.underlying24, Instr.sliceBounds, Instr.sliceBound, asIntOf, hm, hsz]
  | some a =>
    have : a.add 0 = a := by rcases a with ⟨b, o, p⟩; cases p <;> rfl
    simp [Instr.slice, run_underlying Tryd.underlying24, Instr.sliceBounds, Instr.sliceBound, asIntOf, hm, hsz, this]
theorem slice_blk (b o n cap j : Nat) (h : j + 64 ≤ cap) (w : World) : (Instr.slice 24 (.slice (some ⟨b, o, none⟩) n cap) (some (.int .i64 (j : Int))) (some (.int .i64 ((j : Int) + 64))) none).run Tryd.prog w = .ok (.slice (some ⟨b, o + j, none⟩) 64 (cap - j)) w := by
  have hsz : (sizeOf 5).run Tryd.prog w = .ok 1 w := by
    obtain ⟨i0, hi, _, hz1, _⟩ := info_parts info5
    simp [sizeOf, typeInfo, hi, hz1]
  have h3 : (0 : Int) ≤ (j : Int) + 64 ∧ (j : Int) + 64 ≤ (cap : Int) := by omega
  have h4 : j ≤ ((j : Int) + 64).toNat := by omega
  have h6 : ((j : Int) + 64).toNat - j = 64 := by omega
  have h5 : cap ≠ j := by omega
  simp [Instr.slice, run_underlying Tryd.underlying24, Instr.sliceBounds, Instr.sliceBound, asIntOf, hsz, h3, h4, h5, h6, Addr.add_mid]
/-- A text's block. -/
def blk (c : List UInt8) (i : Nat) : List UInt8 := (c.drop (64 * i)).take 64
/-- The state behind the first blocks. -/
def sB (c : List UInt8) : Nat → Nat → BitVec 32
  | 0 => Fc
  | k + 1 => turnF Kc (sB c k) (blk c k)
theorem bAt_blk (c : List UInt8) (k i : Nat) (h : i < 64) : bAt (blk c k) i = bAt c (64 * k + i) := by
  simp [bAt, blk, h, List.getElem?_drop]
theorem sB_fold (c : List UInt8) (k : Nat) : ((List.range k).map (blk c)).foldl (turnF Kc) Fc = sB c k := by
  induction k with
  | zero => rfl
  | succ k ih => rw [List.range_succ, List.map_append, List.foldl_append, ih]; rfl
theorem sha_blocks (c : List UInt8) (m : Nat) (h : c.length = 64 * m) : shaL Kc Fc c = dig (turnF Kc (sB c m) (fillB c.length)) := by
  have hf : (fillB c.length).length = 64 := by rw [fillB_length, h]; simp
  obtain ⟨_, h2⟩ := rem_full c (fillB c.length) (by rw [hf]; omega)
  have hr : rem c = [] := by unfold rem; rw [show 64 * (c.length / 64) = c.length by omega]; simp
  rw [shaL, h2, hr, List.nil_append, List.foldl_append]
  have : cks c = (List.range m).map (blk c) := by unfold cks; rw [h, show 64 * m / 64 = m by omega]; rfl
  rw [this, sB_fold]; rfl
theorem info22s : (Tryd.prog.info? 22).map (·.size) = some 1 := by kernel_rfl
theorem equal_state (w : World) (d : Nat → BitVec 32) : (Op.equalIn 10000 23 (.agg (rowA 8 (uF d))) (.agg (rowA 8 (uF d)))).run Tryd.prog w = .ok true w :=
  equalIn_same w 9998 23 22 8 .u32 Tryd.underlying23 Tryd.underlying22 info22s (fun i => uN (d i))
theorem equal_state2 (w : World) (d : Nat → BitVec 32) : (Op.equalIn 10000 23 (.agg (rowA 8 (uF d))) (.agg #[.int .u32 (uN (d 0)), .int .u32 (uN (d 1)), .int .u32 (uN (d 2)), .int .u32 (uN (d 3)), .int .u32 (uN (d 4)), .int .u32 (uN (d 5)), .int .u32 (uN (d 6)), .int .u32 (uN (d 7))])).run Tryd.prog w = .ok true w := equal_state w d
theorem u32_mul16m (x : BitVec 32) : IntKind.u32.wrap (uN x * (16777216 : Int)) = uN (x <<< 24) := u32_shl x 24
theorem u32_mul65k (x : BitVec 32) : IntKind.u32.wrap (uN x * (65536 : Int)) = uN (x <<< 16) := u32_shl x 16
theorem Sum_new1 (v : Value) (l : List UInt8) (D : Nat → UInt8) (W : World) (hT : Tables W) (h : RdV W [] v l) (ht : l.length ≤ 4611686018427387904) (hD : shaL Kc Fc l = D) :
    Calls Tryd.prog 21 #[.slice (some ⟨W.heap.size, 0, none⟩) 1 1] (W.alloc (.cells #[v] 24)) fun e w' => e = .returned (.agg (rowA 32 (bF D))) ∧ Below W.heap.size W w' := by
  have hB := (Below.refl _ W).alloc (Nat.le_refl _) (.cells #[v] 24)
  refine (Sum_c _ [(v, l)] _ (hT.below hB) (parts_new [(v, l)] 24 (by simp) (by simp) (by simpa using h)) (by simpa [total] using ht)).mono ?_
  rintro e w' ⟨rfl, hb⟩
  rw [show flat [(v, l)] = l by simp [flat], hD]
  exact ⟨rfl, hB.trans (hb.mono hB.size)⟩

attribute [local go_sem] equal_state equal_state2 run_storeU run_storeB bF_at u32_mul16m u32_mul65k u32_mul256 bN_u32 u32_or signed_u32
set_option maxHeartbeats 4000000 in
theorem ShaBlocks_walk (h : Nat → BitVec 32) (vb : Value) (lb : List UInt8) (w : World) (hT : Tables w) (hb : RdV w [] vb lb) :
    Calls Tryd.prog 7 #[.agg (rowA 8 (uF h)), vb] w fun e w' => e = .returned (.bool true) ∧ Below w.heap.size w w' := by
  have HT := Lib.hid hT
  have hsize := hT.size
  have Hb := Lib.hid hb
  obtain ⟨Ab, cb, rfl, hcap, hmax, hcells⟩ := hb
  clear hT
  have HC := Lib.hid hcells
  clear hcells
  generalize hnb : lb.length = nb
  rw [hnb] at hcap Hb HC
  have hB0 : Below w.heap.size w (w.alloc (.cells (rowA 8 (uF h)) 23)) := (Below.refl _ w).alloc (Nat.le_refl _) _
  by_cases g1 : 400 < nb
  · go_enter Tryd.func7, Tryd.ntmps7
    go_wp2_with fail
    refine (alive_any _ (HT.out.below hB0)).mono ?_
    rintro e w1 ⟨rfl, hB⟩
    go_wp2
    go_ret
    exact ⟨rfl, hB0.trans (hB.mono hB0.size)⟩
  obtain ⟨m, hm⟩ : ∃ m, m = nb / 64 := ⟨_, rfl⟩
  obtain ⟨M, hM⟩ : ∃ M, M = 64 * m := ⟨_, rfl⟩
  have hMi : (nb : Int) / 64 * 64 = (M : Int) := by omega
  have hMn : M ≤ nb := by omega
  have hM4 : M ≤ 448 := by omega
  have hsl1 := slice_to Ab nb cb M (by omega)
  obtain ⟨c, hc⟩ : ∃ c, c = lb.take M := ⟨_, rfl⟩
  have hcl : c.length = M := by rw [hc]; simp; omega
  have Hc := Lib.hid hc
  have Hm := Lib.hid hm
  have HMm := Lib.hid hM
  clear hc hm hM
  go_enter Tryd.func7, Tryd.ntmps7
  go_wp2_with fail
  have r0 := rowIs_box w 23 8 (uF h)
  refine (alive_any _ (HT.out.below hB0)).mono ?_
  rintro e w1 ⟨rfl, hB1⟩
  replace r0 := rowIs_below r0 hB1 r0.lt
  have hB := hB0.trans (hB1.mono hB0.size)
  clear hB1 hB0
  have T1 := HT.out.below hB
  have f0 := T1.f 0 (by omega)
  have f1 := T1.f 1 (by omega)
  have f2 := T1.f 2 (by omega)
  have f3 := T1.f 3 (by omega)
  have f4 := T1.f 4 (by omega)
  have f5 := T1.f 5 (by omega)
  have f6 := T1.f 6 (by omega)
  have f7 := T1.f 7 (by omega)
  have h0 : 0 < w1.heap.size := by have := T1.size; omega
  have HT1 := Lib.hid T1
  have Hb1 := Lib.hid (Hb.out.keep (KeepBut.below hB))
  clear T1
  go_wp2
  clear f0 f1 f2 f3 f4 f5 f6 f7 hsl1
  have rs := rowIs_box w1 23 8 (uF Fc)
  have hB2 := (Below.refl _ w1).alloc (Nat.le_refl _) (.cells (rowA 8 (uF Fc)) 23)
  change Code.wp _ _ _ _ (w1.alloc (.cells (rowA 8 (uF Fc)) 23))
  generalize w1.alloc (.cells (rowA 8 (uF Fc)) 23) = w2 at rs hB2 ⊢
  go_loopw [6] (fun i wr => ∃ j k : Nat, j = 64 * k ∧ j ≤ M ∧ i = .int .i64 j ∧ wr.rowIs w1.heap.size 23 8 (uF (sB c k)) ∧ Below w1.heap.size w1 wr) (fun i _ => M - (intOf i).toNat)
  case atStart => exact ⟨0, 0, rfl, by omega, rfl, rs, hB2⟩
  case round =>
    obtain ⟨j, k, hjk, hjM, rfl, qs, qB⟩ := hrel
    clear rs hB2
    by_cases hlt : j < M
    · obtain ⟨b, o, rfl, _, hcell⟩ := HC.out (by omega)
      have hbw : b < w.heap.size := World.block_lt_of_cell? _ _ (hcell 0 (by omega))
      have HM2 := HMm.out
      have hsl := slice_blk b o M cb j (by omega)
      have hB3 : Below w.heap.size w wr := hB.trans (qB.mono hB.size)
      have HC2 : Hid (∀ i, i < 64 → wr.cell? ⟨b, o + j + i, none⟩ = some (.int .u8 (bN (bAt (blk c k) i)))) := Lib.hid fun i hi => by
        rw [Nat.add_assoc]
        refine (hB3.cell (p := ⟨b, o + (j + i), none⟩) hbw).trans ?_
        rw [hcell (j + i) (by omega), bAt_blk c k i hi, ← hjk, Hc.out]
        simp [bAt, show j + i < M by omega]
      have HT2 := HT.out.below hB3
      have HTk := Lib.hid HT2.k
      have hs2 := HT2.size
      have hbr : b < wr.heap.size := Nat.lt_of_lt_of_le hbw hB3.size
      clear HT2 hcell
      have Hjk := Lib.hid hjk
      clear hjk HM2
      obtain ⟨s, Hs⟩ : ∃ s, Hid (sB c k = s) := ⟨_, Lib.hid rfl⟩
      rw [Hs.out] at qs
      have c0 := qs.cell (i := 0) (by omega)
      have c1 := qs.cell (i := 1) (by omega)
      have c2 := qs.cell (i := 2) (by omega)
      have c3 := qs.cell (i := 3) (by omega)
      have c4 := qs.cell (i := 4) (by omega)
      have c5 := qs.cell (i := 5) (by omega)
      have c6 := qs.cell (i := 6) (by omega)
      have c7 := qs.cell (i := 7) (by omega)
      have i1 : (j : Int) < (M : Int) := by omega
      go_wp2
      refine wp_region_still_tail 6 (by kernel_rfl) (by kernel_rfl) ?_
      simp only [List.take_succ_cons, List.take_zero, List.drop_succ_cons, List.drop_zero]
      iterate 6 (refine wpStill_step (fun K hK => ?_); go_simp; (try go_bits); refine hK _ ?_; clear hK K)
      refine wpStill_nil ?_
      go_wp2_with fail
      refine (Turn_any Kc s (blk c k) b (o + j) (cb - j) (by have := Hjk.out; have := HMm.out; omega) (by omega) wr.drew hbr hs2 HTk.out HC2.out).mono ?_
      rintro e w3 ⟨rfl, hB4⟩
      replace qs := rowIs_below qs.drew hB4 qs.lt
      have hB5 : Below w1.heap.size w1 w3 := qB.drew.trans (hB4.mono qB.size)
      have rw2 : RowW w3 w1.heap.size 8 := ⟨_, _, qs⟩
      clear c0 c1 c2 c3 c4 c5 c6 c7 hB4 qB
      go_wp2
      go_roundw
      case rel =>
        refine ⟨j + 64, k + 1, by have := Hjk.out; omega, by have := Hjk.out; have := HMm.out; omega, by go_num, ?_, below_setCells _ (Nat.le_refl _) _ _ _ hB5⟩
        have := rowIs_setAll qs (uF (turnF Kc s (blk c k)))
        rw [sB, Hs.out]
        exact this
      case measure => simp [intOf]; omega
    · obtain rfl : j = M := by omega
      obtain rfl : k = m := by have := HMm.out; omega
      have hB3 : Below w.heap.size w wr := hB.trans (qB.mono hB.size)
      have e64 : (fillB j).length = 64 := by rw [fillB_length, hjk]; simp
      have Hjk := Lib.hid hjk
      clear hjk
      obtain ⟨s, Hs⟩ : ∃ s, Hid (sB c k = s) := ⟨_, Lib.hid rfl⟩
      rw [Hs.out] at qs
      go_wp2_with fail
      refine (Fill_any j (by omega) _).mono ?_
      rintro e w3 ⟨v, rfl, ho, hB4⟩
      obtain ⟨A3, c3, rfl, hc3, hm3, hA3⟩ := rdV_fill (L := []) (by simp) ho
      rw [e64] at hc3 hA3
      obtain ⟨b3, o3, rfl, _, hcell3⟩ := hA3 (by omega)
      rw [e64]
      have hb3 : b3 < w3.heap.size := World.block_lt_of_cell? _ _ (hcell3 0 (by omega))
      replace qs := rowIs_below qs hB4 qs.lt
      replace qB : Below w1.heap.size w1 w3 := qB.trans (hB4.mono qB.size)
      replace hB3 := hB3.trans (hB4.mono hB3.size)
      have Hcell3 := Lib.hid hcell3
      clear hcell3 hB4 ho hA3
      have c0 := qs.cell (i := 0) (by omega)
      have c1 := qs.cell (i := 1) (by omega)
      have c2 := qs.cell (i := 2) (by omega)
      have c3 := qs.cell (i := 3) (by omega)
      have c4 := qs.cell (i := 4) (by omega)
      have c5 := qs.cell (i := 5) (by omega)
      have c6 := qs.cell (i := 6) (by omega)
      have c7 := qs.cell (i := 7) (by omega)
      go_wp2_with fail
      have T3 := HT.out.below hB3
      refine (Turn_any Kc s (fillB j) b3 o3 _ hc3 hm3 w3 hb3 T3.size T3.k Hcell3.out).mono ?_
      clear T3
      rintro e w4 ⟨rfl, hB4⟩
      obtain ⟨S2, HS2⟩ : ∃ S2, Hid ((fun i => s i + (runTo Kc (wS (fillB j) 48) (St.of s) 64).get i) = S2) := ⟨_, Lib.hid rfl⟩
      rw [HS2.out]
      have hD : shaL Kc Fc c = dig S2 := by
        rw [sha_blocks c k (by rw [hcl, Hjk.out]), hcl, Hs.out, ← HS2.out]; rfl
      have HD := Lib.hid hD
      clear hD
      replace qs := rowIs_below qs hB4 qs.lt
      replace qB : Below w1.heap.size w1 w4 := qB.trans (hB4.mono qB.size)
      have rw2 : RowW w4 w1.heap.size 8 := ⟨_, _, qs⟩
      clear c0 c1 c2 c3 c4 c5 c6 c7 hB4 hB3 Hcell3
      have qs5 := rowIs_setAll qs (uF S2)
      have qB5 := below_setCells w1.heap.size (Nat.le_refl _) (rowA 8 (uF S2)).toList 0 _ qB
      obtain ⟨w5, hw5⟩ : ∃ w5, w4.setCells w1.heap.size 0 (rowA 8 (uF S2)).toList = w5 := ⟨_, rfl⟩
      rw [hw5] at qs5 qB5
      clear qs qB
      go_wp2_with fail
      have hB5 : Below w.heap.size w w5 := hB.trans (qB5.mono hB.size)
      have hRd : RdV w [] (.slice Ab j cb) c := ⟨Ab, cb, by rw [hcl], by omega, hmax, fun h0 => by
        obtain ⟨b, o, hA, hbL, hcell⟩ := HC.out (by omega)
        refine ⟨b, o, hA, hbL, fun i hi => ?_⟩
        rw [hcell i (by omega), Hc.out]
        simp [bAt, show i < j by omega]⟩
      refine (Sum_new1 (.slice Ab j cb) c (dig S2) w5 (HT.out.below hB5) (hRd.keep (KeepBut.below hB5)) (by omega) HD.out).mono ?_
      rintro e w6 ⟨rfl, hB6⟩
      clear hRd hB5 hw5 rw2
      replace qs5 := rowIs_below qs5 hB6 qs5.lt
      replace qB5 := qB5.trans (hB6.mono qB5.size)
      clear hB6
      have rz := rowIs_box w6 31 32 (bF fun _ => 0)
      go_wp2_with (refine wpList_store_mid rfl 31 (.tmp 8) (.tmp 44) rfl w6.heap.size 0 (rowA 32 (bF (dig S2))) rfl rfl (by rw [rowA_size]; exact there_row rz) (by rw [rowA_size]; exact info31) (rowA_one _ _ fun _ => rfl) ?_)
      have q8 := rowIs_setOther (qs5.alloc (.cells (rowA 32 (bF fun _ => 0)) 31)) (b' := w6.heap.size) (by have := qs5.lt; omega) (rowA 32 (bF (dig S2))).toList 0
      have h8 : (w6.alloc (.cells (rowA 32 (bF fun _ => 0)) 31)).rowIs w.heap.size 23 8 (uF h) := (rowIs_below r0 qB5 r0.lt).alloc _
      have h9 := rowIs_setOther h8 (b' := w6.heap.size) (by have := (rowIs_below r0 qB5 r0.lt).lt; omega) (rowA 32 (bF (dig S2))).toList 0
      have d8 := rowIs_setAll rz (bF (dig S2))
      have qB8 := below_setCells w6.heap.size qB5.size (rowA 32 (bF (dig S2))).toList 0 _ (qB5.alloc qB5.size (.cells (rowA 32 (bF fun _ => 0)) 31))
      change Code.wp _ _ _ _ ((w6.alloc (.cells (rowA 32 (bF fun _ => 0)) 31)).setCells w6.heap.size 0 (rowA 32 (bF (dig S2))).toList)
      generalize ((w6.alloc (.cells (rowA 32 (bF fun _ => 0)) 31)).setCells w6.heap.size 0 (rowA 32 (bF (dig S2))).toList) = w7 at q8 h9 d8 qB8 ⊢
      clear h8 rz qs5 qB5 r0
      go_loopw [9] (fun i wr => ∃ k : Nat, k ≤ 8 ∧ i = .int .i64 k ∧ wr.rowIs w1.heap.size 23 8 (uF S2) ∧ wr.rowIs w.heap.size 23 8 (uF h) ∧ wr.rowIs w6.heap.size 31 32 (bF (dig S2)) ∧ Below w1.heap.size w1 wr) (fun i _ => 8 - (intOf i).toNat)
      case atStart => exact ⟨0, by omega, rfl, q8, h9, d8, qB8⟩
      case round =>
        clear q8 h9 d8 qB8
        obtain ⟨i, hi, rfl, q8, h9, d8, qB8⟩ := hrel
        by_cases hlt : i < 8
        · have c0 := d8.cell (i := 4 * i) (by omega)
          have c1 := d8.cell (i := 4 * i + 1) (by omega)
          have c2 := d8.cell (i := 4 * i + 2) (by omega)
          have c3 := d8.cell (i := 4 * i + 3) (by omega)
          have cs := q8.cell (i := i) (by omega)
          have hw := dig_word S2 i
          have i0 : 4 * (i : Int) < 32 := by omega
          have j0 : (0 : Int) ≤ 4 * (i : Int) := by omega
          have j1 : (0 : Int) ≤ 4 * (i : Int) + 1 := by omega
          have j2 : (0 : Int) ≤ 4 * (i : Int) + 2 := by omega
          have j3 : (0 : Int) ≤ 4 * (i : Int) + 3 := by omega
          have i1 : 4 * (i : Int) + 1 < 32 := by omega
          have i2 : 4 * (i : Int) + 2 < 32 := by omega
          have i3 : 4 * (i : Int) + 3 < 32 := by omega
          go_wp2
          refine wp_region_still_lit (by kernel_rfl) (by kernel_rfl) ?_
          repeat (refine wpStill_step (fun K hK => ?_); go_simp; (try go_bits); refine hK _ ?_; clear hK K)
          refine wpStill_nil ?_
          go_wp2
          go_roundw
          case rel => exact ⟨i + 1, by omega, by go_num, q8.drew, h9.drew, d8.drew, qB8.drew⟩
          case measure => simp [intOf]; omega
        · obtain rfl : i = 8 := by omega
          clear q8 d8
          have HS : Hid (∀ w' : World, Below wr.drew.heap.size wr.drew w' → w'.cell? ⟨w.heap.size, 0, none⟩ = some (uF h 0) ∧ w'.cell? ⟨w.heap.size, 1, none⟩ = some (uF h 1) ∧ w'.cell? ⟨w.heap.size, 2, none⟩ = some (uF h 2) ∧ w'.cell? ⟨w.heap.size, 3, none⟩ = some (uF h 3) ∧ w'.cell? ⟨w.heap.size, 4, none⟩ = some (uF h 4) ∧ w'.cell? ⟨w.heap.size, 5, none⟩ = some (uF h 5) ∧ w'.cell? ⟨w.heap.size, 6, none⟩ = some (uF h 6) ∧ w'.cell? ⟨w.heap.size, 7, none⟩ = some (uF h 7)) := Lib.hid fun w' hb => by
            have r := rowIs_below h9.drew hb h9.lt
            exact ⟨r.cell (by omega), r.cell (by omega), r.cell (by omega), r.cell (by omega), r.cell (by omega), r.cell (by omega), r.cell (by omega), r.cell (by omega)⟩
          have c0 := h9.cell (i := 0) (by omega)
          have c1 := h9.cell (i := 1) (by omega)
          have c2 := h9.cell (i := 2) (by omega)
          have c3 := h9.cell (i := 3) (by omega)
          have c4 := h9.cell (i := 4) (by omega)
          have c5 := h9.cell (i := 5) (by omega)
          have c6 := h9.cell (i := 6) (by omega)
          have c7 := h9.cell (i := 7) (by omega)
          rw [show ((8 : Nat) : Int) = 8 from rfl]
          go_wp2_with fail
          go_region_held3 (fun w' => w'.cell? ⟨w.heap.size, 0, none⟩ = some (uF h 0) ∧ w'.cell? ⟨w.heap.size, 1, none⟩ = some (uF h 1) ∧ w'.cell? ⟨w.heap.size, 2, none⟩ = some (uF h 2) ∧ w'.cell? ⟨w.heap.size, 3, none⟩ = some (uF h 3) ∧ w'.cell? ⟨w.heap.size, 4, none⟩ = some (uF h 4) ∧ w'.cell? ⟨w.heap.size, 5, none⟩ = some (uF h 5) ∧ w'.cell? ⟨w.heap.size, 6, none⟩ = some (uF h 6) ∧ w'.cell? ⟨w.heap.size, 7, none⟩ = some (uF h 7)) (first | with_reducible exact HS.out _ hb1 | with_reducible exact HS.out _ (Below.refl _ _) | (trace "keep"; go_keep)) (first | (go_at_call 16; refine (Turn_no h none 0 0 (by omega) _).mono ?_; rintro e w8 ⟨rfl, hb1⟩))
          all_goals (go_wp2; go_ret; exact ⟨rfl, hB.trans ((qB8.drew.trans (hb1.mono qB8.size)).mono hB.size)⟩)
end Go.Proofs.YtpoebajpmkcjdaaDoor
