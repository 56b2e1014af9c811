/- The reference's Fill. -/
import Derived.Test.YtchpmdcacpjojaaDoorMb
import Derived.Test.YtchpmdcacpjojaaDoorMe
import Derived.Test.YtchpmdcacpjojaaDoorMa
import Derived.Test.YtchpmdcacpjojaaDoorMc
set_option linter.all false
namespace Go.Proofs.YtchpmdcacpjojaaDoor
open Go.RowKit
set_option maxRecDepth 8000
set_option linter.all false
attribute [local go_sem] bF_at

theorem fillHead_pos (k : Nat) (h : 1 ≤ k) : bF fillHead k = .int .u8 0 := by
  simp [bF, fillHead, bN, show k ≠ 0 by omega]
theorem step_len (n k p : Nat) (hk : k < 8) (hn : n ≤ 1000000) (hp : p = 72057594037927936 / 256 ^ k) : ((n * 8 / p % 256 : Nat) : Int) = bN (lenByte n k) := by
  have e : 72057594037927936 / 256 ^ k = 2 ^ (56 - 8 * k) := by
    have : ∀ k : Fin 8, 72057594037927936 / 256 ^ k.val = 2 ^ (56 - 8 * k.val) := by decide
    exact this ⟨k, hk⟩
  rw [lenByte, bN, UInt8.toNat_ofNat', hp, e, Nat.mod_eq_of_lt (a := n * 8) (by omega)]

set_option maxHeartbeats 1000000 in
theorem RFill_r (n r : Nat) (hn : n ≤ 1000000) (hr1 : 1 ≤ r) (hr2 : r ≤ 64) (hr3 : (n + r) % 64 = 56) (hr4 : ∀ k, 1 ≤ k → k < r → (n + k) % 64 ≠ 56) (w : World) :
    Calls Tryd.prog 77 #[.int .i64 n] w (FillPost n r w) := by
  obtain ⟨i0, hi, hz0, hz1, hz2⟩ := info_parts info5
  have H4 := Lib.hid hr4
  have H3 := Lib.hid hr3
  clear hr4 hr3
  go_enter Tryd.func77, Tryd.ntmps77
  go_wp2
  have r0 : (w.alloc (.cells #[.int .u8 128] 5)).rowIs w.heap.size 5 1 (bF fillHead) := (rowIs_box w 5 1 fun _ => .int .u8 128).congr fun i hi => by
    obtain rfl : i = 0 := by omega
    rfl
  have hB : Below w.heap.size w (w.alloc (.cells #[.int .u8 128] 5)) := (Below.refl _ w).alloc (Nat.le_refl _) _
  have ho := ownsRow_row r0 w.heap.size 1 (by omega) (by unfold maxLen; omega) (Nat.le_refl _)
  generalize w.alloc (.cells #[.int .u8 128] 5) = W0 at ho hB ⊢
  clear r0
  go_loopw [3] (fun v wr => ∃ k : Nat, 1 ≤ k ∧ k ≤ r ∧ wr.ownsRow w.heap.size 5 1 v k ((List.range k).map (bF fillHead)) ∧ Below w.heap.size w wr) (fun v _ => match v with | .slice _ m _ => r - m | _ => 0)
  case atStart => exact ⟨1, by omega, by omega, ho, hB⟩
  case round =>
    obtain ⟨k, hk1, hk, hown, qB⟩ := hrel
    clear ho hB
    obtain ⟨g, c, rfl, _, _⟩ := hown.form (by omega)
    by_cases hlt : k < r
    · have t1 : (((n : Int) + (k : Int)) % 64 == 56) = false := by
        have := H4.out k hk1 hlt
        simp; omega
      go_wp2_with (at_builtin; refine wpList_append_own _ rfl (.tmp 16) (.tmp 17) 49 rfl w.heap.size 5 i0 _ 1 1 Tryd.underlying49 hi hz0 hz1 hz2 rfl (by omega) _ k _ rfl (hown.alloc _) ⟨wr.heap.size, 0, none⟩ 1 1 [.int .u8 0] rfl rfl (one_cell _ _ _) (by simp [Value.oneCell']) (by unfold maxLen; omega) (by omega) (by have := qB.size; simp; omega) ?_; intro v' w1 hown' hg1 _)
      go_roundw
      case rel =>
        refine ⟨k + 1, by omega, by omega, ?_, (qB.alloc qB.size _).grown hg1 (by have := qB.size; simp; omega) (fun g e => (hown.lt g e).1)⟩
        rw [List.range_succ, List.map_append]
        simp only [List.map_cons, List.map_nil]
        rw [fillHead_pos k hk1]
        exact hown'
      case measure =>
        obtain ⟨g', c', rfl, _, _⟩ := hown'.form (by omega)
        show r - (k + 1) < r - k
        omega
    · obtain rfl : k = r := by omega
      have t1 : (((n : Int) + (k : Int)) % 64 == 56) = true := by
        have := H3.out
        simp; omega
      have t2 : (((n : Int) + (k : Int)) % 64 != 56) = false := by
        have := H3.out
        simp; omega
      have Ht1 := Lib.hid t1
      go_wp2
      clear t1 t2
      go_loopw [3, 5, 6] (fun v st i wr => ∃ j p : Nat, j ≤ 8 ∧ i = .int .i64 j ∧ st = .int .u64 p ∧ Hid (p = 72057594037927936 / 256 ^ j) ∧ wr.ownsRow w.heap.size 5 1 v (k + j) ((List.range k).map (bF fillHead) ++ (List.range j).map (bF (lenByte n))) ∧ Below w.heap.size w wr) (fun _ _ i _ => 8 - (intOf i).toNat)
      case atStart => exact ⟨0, 72057594037927936, by omega, rfl, rfl, Lib.hid (by simp), by simpa using hown, qB⟩
      case round =>
        clear hown qB
        obtain ⟨j, p, hj, rfl, rfl, Hp, hown, qB⟩ := hrel
        by_cases hlt : j < 8
        · have hp0 : 0 < p := by
            have : ∀ k : Fin 8, 0 < 72057594037927936 / 256 ^ k.val := by decide
            rw [Hp.out]; exact this ⟨j, hlt⟩
          have hpz : ((p : Int) == 0) = false := by simp; omega
          have hsl := step_len n j p hlt hn Hp.out
          have Hsl := Lib.hid hsl
          clear hsl
          have hp1 : (p : Int) ≠ 0 := by omega
          have hpb : p ≤ 72057594037927936 := by rw [Hp.out]; exact Nat.div_le_self _ _
          have hpw : IntKind.u64.wrap ((p : Int) / 256) = ((p / 256 : Nat) : Int) := by rw [wrap_u64]; omega
          have hval : ((n : Int) * 8 / (p : Int)).tmod 256 % 256 = bN (lenByte n j) := by
            have h0 : (0 : Int) ≤ (n : Int) * 8 / p := Int.ediv_nonneg (by omega) (by omega)
            rw [Int.tmod_eq_emod_of_nonneg h0, ← Hsl.out]
            have : (n : Int) * 8 / (p : Int) = ((n * 8 / p : Nat) : Int) := by simp
            rw [this]; omega
          go_wp2_with (at_builtin; refine wpList_append_own _ rfl (.tmp 26) (.tmp 32) 49 rfl w.heap.size 5 i0 _ 1 1 Tryd.underlying49 hi hz0 hz1 hz2 rfl (by omega) u3 (k + j) _ rfl (hown.alloc _) ⟨wr.heap.size, 0, none⟩ 1 1 [bF (lenByte n) j] rfl rfl (one_cell _ _ _) (by simp [bF, Value.oneCell']) (by unfold maxLen; omega) (by omega) (by have := qB.size; simp; omega) ?_; intro v' w1 hown' hg1 _)
          go_roundw
          case rel =>
            refine ⟨j + 1, p / 256, by omega, by go_num, rfl, Lib.hid (by rw [Hp.out, Nat.div_div_eq_div_mul, Nat.pow_succ]), ?_, (qB.alloc qB.size _).grown hg1 (by have := qB.size; simp; omega) (fun g e => (hown.lt g e).1)⟩
            rw [List.range_succ, List.map_append, ← List.append_assoc]
            exact hown'
          case measure => simp [intOf]; omega
        · obtain rfl : j = 8 := by omega
          go_wp2
          go_ret
          exact ⟨_, rfl, hown, qB⟩
theorem RFill_any (n : Nat) (hn : n ≤ 1000000) (w : World) : Calls Tryd.prog 77 #[.int .i64 n] w (FillPost n (if n % 64 < 56 then 56 - n % 64 else 120 - n % 64) w) := by
  by_cases h : n % 64 < 56
  · rw [if_pos h]; exact RFill_r n _ hn (by omega) (by omega) (by omega) (fun k _ _ => by omega) w
  · rw [if_neg h]; exact RFill_r n _ hn (by omega) (by omega) (by omega) (fun k _ _ => by omega) w
end Go.Proofs.YtchpmdcacpjojaaDoor
/- The reference's Sum. -/
namespace Go.Proofs.YtchpmdcacpjojaaDoor
open Go.RowKit
set_option maxRecDepth 8000
set_option linter.all false
attribute [local go_sem] uF_at bF_at run_storeU run_storeB

theorem ownsRow_belowW {W W' : World} {base : Nat} {e : TypeId} {size : Nat} {v : Value} {n : Nat} {xs : List Value} (h : W.ownsRow base e size v n xs) (hb : Below W.heap.size W W') : W'.ownsRow base e size v n xs :=
  h.kept (row := none) ⟨hb.os, hb.tape, hb.output, hb.size, fun k hk _ => hb.block k hk⟩ (by cases v.ownBlock with | none => exact .inl rfl | some k => exact .inr (by simp))
/-- The digest, written from behind: the numbers before i, and of number i the last j bytes. -/
def outF (S : Nat → BitVec 32) (i j p : Nat) : UInt8 := if p < 4 * i then dig S p else if 4 * i + 4 ≤ p + j ∧ p < 4 * i + 4 then dig S p else 0
theorem outF_set (S : Nat → BitVec 32) (i j : Nat) (hj : j < 4) (z : Int) (hz : z = bN (dig S (4 * i + (3 - j)))) (p : Nat) : (if p = 4 * i + (3 - j) then Value.int .u8 z else bF (outF S i j) p) = bF (outF S i (j + 1)) p := by
  subst hz
  simp only [bF, outF]
  by_cases h : p = 4 * i + (3 - j)
  · subst h; rw [if_pos rfl, if_neg (by omega), if_pos (by omega)]
  · rw [if_neg h]
    by_cases h2 : p < 4 * i
    · rw [if_pos h2, if_pos h2]
    · rw [if_neg h2, if_neg h2]
      by_cases h3 : 4 * i + 4 ≤ p + j ∧ p < 4 * i + 4
      · rw [if_pos h3, if_pos (by omega)]
      · rw [if_neg h3, if_neg (by omega)]
theorem outF_next (S : Nat → BitVec 32) (i p : Nat) : bF (outF S i 4) p = bF (outF S (i + 1) 0) p := by
  simp only [bF, outF]
  by_cases h : p < 4 * i
  · rw [if_pos h, if_pos (by omega)]
  · rw [if_neg h]
    by_cases h2 : p < 4 * i + 4
    · rw [if_pos ⟨by omega, h2⟩, if_pos (by omega)]
    · rw [if_neg (by omega), if_neg (by omega), if_neg (by omega)]
theorem outF_zero (S : Nat → BitVec 32) (p : Nat) : bF (fun _ => 0) p = bF (outF S 0 0) p := by
  simp only [bF, outF]
  rw [if_neg (by omega), if_neg (by omega)]
theorem dig_back (S : Nat → BitVec 32) (i j : Nat) (hj : j < 4) : (uN (S i >>> (8 * j))) % 256 = bN (dig S (4 * i + (3 - j))) := by
  rw [dig, show (4 * i + (3 - j)) / 4 = i by omega, show (4 * i + (3 - j)) % 4 = 3 - j by omega, show 24 - 8 * (3 - j) = 8 * j by omega, ← u32_u8, wrap_u8]
theorem dig_div (x : BitVec 32) (j : Nat) : uN (x >>> (8 * j)) / (256 : Int) = uN (x >>> (8 * (j + 1))) := by
  have := u32_shr (x >>> (8 * j)) 8
  rw [show ((2 : Int) ^ 8) = 256 from rfl] at this
  rw [this, ← BitVec.shiftRight_add]
  rfl
theorem fill_len (n : Nat) : (n + (fillB n).length) % 64 = 0 := by rw [fillB_length]; split <;> omega
theorem sha_all (l : List UInt8) (m : Nat) (h : (l ++ fillB l.length).length = 64 * m) : shaL Kc Fc l = dig (sB (l ++ fillB l.length) m) := by
  have : cks (l ++ fillB l.length) = (List.range m).map (blk (l ++ fillB l.length)) := by unfold cks; rw [h, show 64 * m / 64 = m by omega]; rfl
  rw [shaL, this, sB_fold]
set_option maxHeartbeats 4000000 in
theorem RSum_any (v : Value) (l : List UInt8) (w : World) (hT : Tables w) (hr : RdV w [] v l) (hl : l.length ≤ 900000) :
    Calls Tryd.prog 68 #[v] w fun e w' => e = .returned (.agg (rowA 32 (bF (shaL Kc Fc l)))) ∧ Below w.heap.size w w' := by
  have HT := Lib.hid hT
  have hsz := hT.size
  have Hr := Lib.hid hr
  obtain ⟨A, cap, rfl, _⟩ := hr
  clear hT
  obtain ⟨n, hn⟩ : ∃ n, l.length = n := ⟨_, rfl⟩
  rw [hn] at hl Hr ⊢
  obtain ⟨i0, hi, hz0, hz1, hz2⟩ := info_parts info5
  have hB1 : Below (w.heap.size) w ((w.alloc (.cells (rowA 32 (bF fun _ => 0)) 32)).alloc (.cells #[] 5)) := ((Below.refl _ w).alloc (Nat.le_refl _) _).alloc (by simp) _
  have rz : ((w.alloc (.cells (rowA 32 (bF fun _ => 0)) 32)).alloc (.cells #[] 5)).rowIs w.heap.size 32 32 (bF fun _ => 0) := (rowIs_box w 32 32 (bF fun _ => 0)).alloc _
  have hown0 : ((w.alloc (.cells (rowA 32 (bF fun _ => 0)) 32)).alloc (.cells #[] 5)).ownsRow (w.heap.size + 1) 5 1 (.slice (some ⟨w.heap.size + 1, 0, none⟩) 0 0) 0 [] := by
    have := rowIs_box (w.alloc (.cells (rowA 32 (bF fun _ => 0)) 32)) 5 0 (fun _ => undef)
    rw [World.size_alloc] at this
    exact ownsRow_row this (w.heap.size + 1) 0 (by omega) (by unfold maxLen; omega) (Nat.le_refl _)
  have Hr1 := Lib.hid (Hr.out.keep (KeepBut.below hB1))
  have hs1 : w.heap.size + 1 ≤ ((w.alloc (.cells (rowA 32 (bF fun _ => 0)) 32)).alloc (.cells #[] 5)).heap.size := by simp
  go_enter Tryd.func68, Tryd.ntmps68
  go_wp2_with (at_builtin; first
    | (refine wpList_append_rd rfl (.tmp 10) (.tmp 11) 49 rfl (base := w.heap.size + 1) Tryd.underlying49 hi hz0 hz1 hz2 rfl hown0 rfl Hr1.out (by omega) hs1 ?_; intro v2 w2 o2 grow2
       have b2 := (Below.refl (w.heap.size + 1) ((w.alloc (.cells (rowA 32 (bF fun _ => 0)) 32)).alloc (.cells #[] 5))).grown grow2 hs1 (fun k e => (hown0.lt k e).1)
       have hB2 := hB1.trans (b2.mono (Nat.le_succ _))
       replace rz := rowIs_below rz b2 (by omega)
       clear grow2 hown0 hs1 Hr1 hB1 b2))
  refine (RFill_any n (by omega) _).mono ?_
  rintro e w3 ⟨v3, rfl, ho3, hb3⟩
  have rd3 := Lib.hid (rdV_fill (L := []) (by simp) ho3)
  have o3 := ownsRow_belowW o2 hb3
  replace rz := rowIs_below rz hb3 rz.lt
  have hB3 := hB2.trans (hb3.mono hB2.size)
  clear o2 ho3 hb3 hB2
  have hfl := fill_len n
  have hf2 : (fillB n).length ≤ 72 := by rw [fillB_length]; split <;> omega
  have hf3 : 0 < (fillB n).length := by rw [fillB_length]; omega
  go_upto_region 2 with (at_builtin; refine wpList_append_rd rfl (.tmp 12) (.tmp 15) 49 rfl (base := w.heap.size + 1) Tryd.underlying49 hi hz0 hz1 hz2 rfl o3 rfl rd3.out (by omega) (by have := rz.lt; omega) ?_; intro v4 w4 o4 grow4)
  have hB4 := hB3.grown grow4 hB3.size (fun k e => by have := (o3.lt k e).1; omega)
  replace rz : w4.rowIs w.heap.size 32 32 (bF fun _ => 0) := rowIs_below rz ((Below.refl (w.heap.size + 1) w3).grown grow4 (by have := rz.lt; omega) (fun k e => (o3.lt k e).1)) (by omega)
  obtain ⟨c, hc⟩ : ∃ c, l ++ fillB n = c := ⟨_, rfl⟩
  have Rall : RdV w4 [] v4 c := by rw [← hc]; exact rdV_own (by simpa [List.map_append] using o4) (by simp) (by simp)
  obtain ⟨m, hm⟩ : ∃ m, m = c.length / 64 := ⟨_, rfl⟩
  have hcm : c.length = 64 * m := by rw [hm, ← hc]; simp only [List.length_append]; omega
  have hD : shaL Kc Fc l = dig (sB c m) := by rw [← hc, ← hn]; exact sha_all l m (by rw [hn, hc, hcm])
  have HD := Lib.hid hD
  obtain ⟨A4, c4, rfl, hcap4, hmax4, hA4⟩ := Rall
  obtain ⟨M, hM⟩ : ∃ M, c.length = M := ⟨_, rfl⟩
  rw [hM] at hcap4 hA4 hcm ⊢
  have hM2 : M ≤ 900072 := by rw [← hM, ← hc]; simp only [List.length_append]; omega
  have hM0 : 0 < M := by rw [← hM, ← hc]; simp only [List.length_append]; omega
  obtain ⟨b4, o4', rfl, _, hcell4⟩ := hA4 hM0
  have HC := Lib.hid hcell4
  have HM := Lib.hid hcm
  have hb4 : b4 < w4.heap.size := World.block_lt_of_cell? _ _ (hcell4 0 hM0)
  clear hD hcell4 hcm hM hc hm hA4 o4 o3 grow4 rd3 hfl hf2 hf3 hB3
  have T4 := HT.out.below hB4
  have f0 := T4.f 0 (by omega)
  have f1 := T4.f 1 (by omega)
  have f2 := T4.f 2 (by omega)
  have f3 := T4.f 3 (by omega)
  have f4 := T4.f 4 (by omega)
  have f5 := T4.f 5 (by omega)
  have f6 := T4.f 6 (by omega)
  have f7 := T4.f 7 (by omega)
  have h0 : 0 < w4.heap.size := by have := T4.size; omega
  clear T4
  go_wp2
  clear f0 f1 f2 f3 f4 f5 f6 f7
  have rs := rowIs_box w4 117 8 (uF Fc)
  have hB5 := (Below.refl _ w4).alloc (Nat.le_refl _) (.cells (rowA 8 (uF Fc)) 117)
  change Code.wp _ _ _ _ (w4.alloc (.cells (rowA 8 (uF Fc)) 117))
  generalize w4.alloc (.cells (rowA 8 (uF Fc)) 117) = w5 at rs hB5 ⊢
  go_loopw [5] (fun i wr => ∃ j k : Nat, j = 64 * k ∧ j ≤ M ∧ i = .int .i64 j ∧ wr.rowIs w4.heap.size 117 8 (uF (sB c k)) ∧ Below w4.heap.size w4 wr) (fun i _ => M - (intOf i).toNat)
  case atStart => exact ⟨0, 0, rfl, by omega, rfl, rs, hB5⟩
  case round =>
    obtain ⟨j, k, hjk, hjM, rfl, qs, qB⟩ := hrel
    clear rs hB5
    by_cases hlt : j < M
    · have HM2 := HM.out
      have hsl := slice_blk b4 o4' M c4 j (by omega)
      have hB6 : Below w.heap.size w wr := hB4.trans (qB.mono hB4.size)
      have HC2 : Hid (∀ i, i < 64 → wr.cell? ⟨b4, o4' + j + i, none⟩ = some (.int .u8 (bN (bAt (blk c k) i)))) := Lib.hid fun i hi => by
        rw [Nat.add_assoc]
        refine (qB.cell (p := ⟨b4, o4' + (j + i), none⟩) hb4).trans ?_
        rw [HC.out (j + i) (by omega), bAt_blk c k i hi, ← hjk]
      have HT2 := HT.out.below hB6
      have HTk := Lib.hid HT2.k
      have hs2 := HT2.size
      have hbr : b4 < wr.heap.size := Nat.lt_of_lt_of_le hb4 qB.size
      have d1 : decide ((j : Int) + 64 ≤ (M : Int)) = true := by simp; omega
      have d2 : (j : Int) + 64 ≤ (M : Int) := by omega
      have hcj : 64 ≤ c4 - j := by omega
      have hcj2 : c4 - j ≤ maxLen := by omega
      clear HT2
      have Hjk := Lib.hid hjk
      clear hjk HM2
      obtain ⟨s, Hs⟩ : ∃ s, Hid (sB c k = s) := ⟨_, Lib.hid rfl⟩
      rw [Hs.out] at qs
      have c0 := qs.cell (i := 0) (by omega)
      have c1 := qs.cell (i := 1) (by omega)
      have c2 := qs.cell (i := 2) (by omega)
      have c3 := qs.cell (i := 3) (by omega)
      have c4' := qs.cell (i := 4) (by omega)
      have c5 := qs.cell (i := 5) (by omega)
      have c6 := qs.cell (i := 6) (by omega)
      have c7 := qs.cell (i := 7) (by omega)
      go_wp2
      refine wp_region_still_tail 6 (by kernel_rfl) (by kernel_rfl) ?_
      simp only [List.take_succ_cons, List.take_zero, List.drop_succ_cons, List.drop_zero]
      iterate 6 (refine wpStill_step (fun K hK => ?_); go_simp; (try go_bits); refine hK _ ?_; clear hK K)
      refine wpStill_nil ?_
      go_wp2_with fail
      refine (RTurn_any Kc s (blk c k) b4 (o4' + j) (c4 - j) hcj hcj2 wr.drew hbr hs2 HTk.out HC2.out).mono ?_
      rintro e w6 ⟨rfl, hB7⟩
      replace qs := rowIs_below qs.drew hB7 qs.lt
      have hB8 : Below w4.heap.size w4 w6 := qB.drew.trans (hB7.mono qB.size)
      have rw2 : RowW w6 w4.heap.size 8 := ⟨_, _, qs⟩
      clear c0 c1 c2 c3 c4' c5 c6 c7 hB7 qB
      go_wp2
      go_roundw
      case rel =>
        refine ⟨j + 64, k + 1, by have := Hjk.out; omega, by omega, by go_num, ?_, below_setCells _ (Nat.le_refl _) _ _ _ hB8⟩
        have := rowIs_setAll qs (uF (turnF Kc s (blk c k)))
        rw [sB, Hs.out]
        exact this
      case measure => simp [intOf]; omega
    · obtain rfl : j = M := by omega
      obtain rfl : k = m := by have := HM.out; omega
      obtain ⟨S, HS⟩ : ∃ S, Hid (sB c k = S) := ⟨_, Lib.hid rfl⟩
      rw [HS.out] at qs
      have Hjk := Lib.hid hjk
      clear hjk
      have hg4 : w4.heap.size < wr.heap.size := qs.lt
      have ro := rowIs_box wr 32 32 (bF fun _ => 0)
      replace qs := qs.alloc (.cells (rowA 32 (bF fun _ => 0)) 32)
      have rz2 := (rowIs_below rz qB rz.lt).alloc (.cells (rowA 32 (bF fun _ => 0)) 32)
      have hgw : w.heap.size < wr.heap.size := (rowIs_below rz qB rz.lt).lt
      have qB6 := (hB4.trans (qB.mono hB4.size)).alloc (by omega) (.cells (rowA 32 (bF fun _ => 0)) 32)
      go_wp2
      change Code.wp _ _ _ _ (wr.alloc (.cells (rowA 32 (bF fun _ => 0)) 32))
      generalize wr.heap.size = g at hgw hg4 ro ⊢
      generalize wr.alloc (.cells (rowA 32 (bF fun _ => 0)) 32) = W6 at ro qs rz2 qB6 ⊢
      clear rz qB
      go_loopw [7] (fun i wr => ∃ t : Nat, t ≤ 8 ∧ i = .int .i64 t ∧ wr.rowIs w4.heap.size 117 8 (uF S) ∧ wr.rowIs w.heap.size 32 32 (bF fun _ => 0) ∧ wr.rowIs g 32 32 (bF (outF S t 0)) ∧ Below w.heap.size w wr) (fun i _ => 8 - (intOf i).toNat)
      case atStart => exact ⟨0, by omega, rfl, qs, rz2, ro.congr fun p _ => outF_zero S p, qB6⟩
      case round =>
        clear qs rz2 ro qB6
        obtain ⟨t, ht, rfl, qs, qz, qo, qB⟩ := hrel
        by_cases hlt : t < 8
        · have cs := qs.cell (i := t) hlt
          have it : (t : Int) < 8 := by omega
          go_wp2
          clear cs
          go_loopw [8, 9] (fun x k wr => ∃ j : Nat, j ≤ 4 ∧ k = .int .i64 (3 - (j : Int)) ∧ x = .int .u32 (uN (S t >>> (8 * j))) ∧ wr.rowIs w4.heap.size 117 8 (uF S) ∧ wr.rowIs w.heap.size 32 32 (bF fun _ => 0) ∧ wr.rowIs g 32 32 (bF (outF S t j)) ∧ Below w.heap.size w wr) (fun _ k _ => (intOf k + 1).toNat)
          case atStart => exact ⟨0, by omega, rfl, rfl, qs, qz, qo, qB⟩
          case round =>
            clear qs qz qo qB
            obtain ⟨j, hj, rfl, rfl, qs, qz, qo, qB⟩ := hrel
            by_cases hj4 : j < 4
            · obtain ⟨q, hq⟩ : ∃ q, 3 - j = q := ⟨_, rfl⟩
              have hz := dig_back S t j hj4
              have hd := dig_div (S t) j
              rw [hq] at hz
              obtain ⟨X, hX, hX2⟩ : ∃ X : Nat, X < 4294967296 ∧ uN (S t >>> (8 * j)) = (X : Int) := ⟨(S t >>> (8 * j)).toNat, (S t >>> (8 * j)).isLt, rfl⟩
              rw [hX2] at hz hd ⊢
              have hqi : (3 : Int) - (j : Int) = (q : Int) := by omega
              rw [hqi]
              have Hz := Lib.hid hz
              have Hd := Lib.hid hd
              have Hq := Lib.hid hq
              have Hqi := Lib.hid hqi
              have hq3 : q ≤ 3 := by omega
              clear hz hd hX2 hq hqi
              have co := qo.cell (i := 4 * t + q) (by omega)
              have fo := qo.frozen (4 * t + q)
              have i1 : 4 * (t : Int) + (q : Int) < 32 := by omega
              have i2 : (0 : Int) ≤ 4 * (t : Int) + (q : Int) := by omega
              go_wp2
              go_roundw
              case rel =>
                refine ⟨j + 1, by omega, ?_, by rw [← Hd.out], qs.setOther (by simp; omega) _, qz.setOther (by simp; omega) _, (qo.set (4 * t + q) _).congr fun p _ => ?_, qB.setCell (p := ⟨g, 4 * t + q, none⟩) (by simp; omega) _⟩
                · congr 1
                  have := Hqi.out
                  omega
                · have := outF_set S t j hj4 ((X : Int) % 256) (by rw [Hq.out]; exact Hz.out) p
                  rwa [Hq.out] at this
              case measure => simp only [intOf]; omega
            · obtain rfl : j = 4 := by omega
              go_wp2
              go_roundw
              case rel => exact ⟨t + 1, by omega, by go_num, qs, qz, qo.congr fun p _ => outF_next S t p, qB⟩
              case measure => simp [intOf]; omega
        · obtain rfl : t = 8 := by omega
          have hR := rangeAt_row qo
          go_wp2_with (first
            | (refine wpList_load_mid rfl 32 (.tmp 6) rfl g 0 rfl (rowA 32 (bF (outF S 8 0))).toList _ hR Tryd.underlying32 rfl (by rw [rowA_toList]; simpa using info31) ?_)
            | (refine wpList_store_mid rfl 32 (.tmp 2) (.tmp 53) rfl w.heap.size 0 (rowA 32 (bF (outF S 8 0))) rfl rfl (by rw [rowA_size]; exact there_row qz) (by rw [rowA_size]; exact info31) (rowA_one _ _ fun _ => rfl) ?_))
          refine bodyPost_ret (results_row rfl _ rfl (rowIs_setAll qz (bF (outF S 8 0))) Tryd.underlying32 info31) rfl ⟨?_, below_setCells _ (Nat.le_refl _) _ _ _ qB⟩
          rw [HD.out, HS.out]
          exact congrArg (fun z => Ending.returned (.agg z)) (rowA_congr fun i hi => by simp only [bF, outF]; rw [if_pos (by omega)])
end Go.Proofs.YtchpmdcacpjojaaDoor
/- The reference's Of. -/
namespace Go.Proofs.YtchpmdcacpjojaaDoor
open Go Go.RowKit
set_option maxRecDepth 8000
set_option linter.all false
theorem RSumB_cv (v : Value) (l : List UInt8) (D : Nat → UInt8) (w : World) (hT : Tables w) (hr : RdV w [] v l) (hl : l.length ≤ 900000) (hD : shaL Kc Fc l = D) : Cv 68 #[v] w (.eq (.agg (rowA 32 (bF D)))) := by
  rw [← hD]; exact Cv.of_eq (RSum_any v l w hT hr hl)
end Go.Proofs.YtchpmdcacpjojaaDoor
/- The reference's Tag, by a key of at most 64 bytes. -/
namespace Go.Proofs.YtchpmdcacpjojaaDoor
open Go Go.RowKit
set_option maxRecDepth 8000
set_option linter.all false
theorem with_54 (v : Value) (l : List UInt8) (w : World) (hr : RdV w [] v l) : Cv 69 #[v, .int .i64 54] w (svOwn w (maskL (bAt l) 54)) := by
  have h := hr
  obtain ⟨A, c, rfl, _⟩ := h
  exact with_any A _ c l 54 (.inl rfl) w hr
theorem with_92 (v : Value) (l : List UInt8) (w : World) (hr : RdV w [] v l) : Cv 69 #[v, .int .i64 92] w (svOwn w (maskL (bAt l) 92)) := by
  have h := hr
  obtain ⟨A, c, rfl, _⟩ := h
  exact with_any A _ c l 92 (.inr rfl) w hr
set_option maxHeartbeats 4000000 in
theorem RTag_short (A0 : Option Addr) (c0 : Nat) (vt : Value) (k t : List UInt8) (D : Nat → UInt8) (w : World) (hT : Tables w) (hk : RdV w [] (.slice A0 k.length c0) k) (ht : RdV w [] vt t) (hkl : k.length ≤ 64) (hk2 : k.length ≤ 100000) (htl : t.length ≤ 100000) (hD : tagL k t = D) :
    Cv 55 #[.slice A0 k.length c0, vt] w (.eq (.agg (rowA 32 (bF D)))) := by
  unfold Cv
  obtain ⟨E, HE0⟩ := hid_ex (inL k t)
  have hkb : keyB k = bAt k := by unfold keyB keyOf; rw [if_neg (by omega)]
  have HE : Hid (shaL Kc Fc (maskL (bAt k) 54 ++ t) = E) := Lib.hid (by rw [← HE0.out, inL, hkb])
  have HD : Hid (shaL Kc Fc (maskL (bAt k) 92 ++ digL E) = D) := Lib.hid (by rw [← hD, tagL, hkb, HE0.out])
  have hd : decide ((64 : Int) < (k.length : Int)) = false := by simp; omega
  clear hkb
  have Rk := Lib.hid hk
  have Rt := Lib.hid ht
  have HT := Lib.hid hT
  clear hT hk ht hD HE0
  go_enter Tryd.func55, Tryd.ntmps55
  go_upto_region 1 with fail
  have r0 := rowIs_box w 32 32 (bF fun _ => 0)
  have hN0 := NewT.alloc w (.cells (rowA 32 (bF fun _ => 0)) 32)
  change Code.wp _ _ _ _ (w.alloc (.cells (rowA 32 (bF fun _ => 0)) 32))
  generalize w.alloc (.cells (rowA 32 (bF fun _ => 0)) 32) = W0 at r0 hN0 ⊢
  replace Rk := Lib.hid (hN0.rd Rk.out)
  replace Rt := Lib.hid (hN0.rd Rt.out)
  have hB := hN0.out
  clear hN0
  go_upto_region 4 with fail
  refine wp_region_lit ?_
  iterate 1 (refine wpList_plain rfl (fun K hK => ?_); go_simp; refine hK _ _ ?_; clear hK K)
  refine wpList_plain rfl (fun K hK => ?_)
  refine opr_cv (with_54 _ k W0 Rk.out) rfl Tryd.func69 (by kernel_rfl) (by kernel_rfl) (by simp only [List.map_toArray, List.map_cons, List.map_nil]; rfl) ?_
  intro v14 wa hNa o14
  refine hK _ _ ?_
  clear hK K
  obtain ⟨v16, wb, hrun, _, r16, hBb⟩ := run_append_two o14 hNa.out.size (hNa.rd Rt.out) (by rw [maskL_length]; omega) 49
  have hB1 := hB.trans ((hNa.out.mono hB.size).trans (hBb.mono hB.size))
  have r0b := rowIs_below (hNa.row r0) hBb (by have := r0.lt; omega)
  have rtb := (Rt.out.keep (KeepBut.below (hNa.out.trans hBb)))
  have rkb := (Rk.out).keep (KeepBut.below (hNa.out.trans hBb))
  have Rtb := Lib.hid rtb
  have Rkb := Lib.hid rkb
  have R16 := Lib.hid r16
  have HTb := Lib.hid (HT.out.below hB1)
  clear hBb o14 hNa rtb rkb r16
  iterate 1 (refine wpList_plain rfl (fun K hK => ?_); go_simp; refine hK _ _ ?_; clear hK K)
  refine wpList_plain rfl (fun K hK => ?_)
  refine opr_append rfl rfl rfl hrun (hK _ _ ?_)
  clear hrun hK K
  refine wpList_plain rfl (fun K hK => ?_)
  refine opr_cv (RSumB_cv _ _ E wb HTb.out R16.out (by rw [List.length_append, maskL_length]; omega) HE.out) rfl Tryd.func68 (by kernel_rfl) (by kernel_rfl) (by simp only [List.map_toArray, List.map_cons, List.map_nil]; rfl) ?_
  intro v17 wc hNc he17
  obtain rfl : v17 = .agg (rowA 32 (bF E)) := he17
  refine hK _ _ ?_
  clear hK K
  refine wpList_plain rfl (fun K hK => ?_)
  refine opr_alloc_hash rfl (NewT.refl wc) ?_
  intro v6 wd hNd h6
  obtain ⟨p6, hv, hp6, rr6⟩ := svNew_out h6
  subst hv
  refine hK _ _ ?_
  clear hK K h6
  refine wpList_plain rfl (fun K hK => ?_)
  refine opr_store_new (W := wc) info31 rfl rfl rfl rr6 hNd.out hp6 ?_
  intro we hNe r6
  replace hNe := NewT.trans _ _ _ hNc (NewT.of hNe)
  refine hK _ _ ?_
  clear hK K
  replace r0b := hNe.row r0b
  have hB2 := hB1.trans (hNe.out.mono hB1.size)
  have Rke := Lib.hid (hNe.rd Rkb.out)
  have HTe := Lib.hid (hNe.tables HTb.out)
  clear hNc hNd hNe hp6 rr6 Rkb Rtb R16 HTb hB1
  refine wpList_nil ?_
  go_simp
  go_upto_region 5 with fail
  refine wp_region_rely_tail NewT [svRd k, svOwn we (maskL (bAt k) 92), svRd (digL E)] [([(0, none)], none), ([(18, some 0)], none), ([(6, none)], none)] 23 3 (by kernel_rfl) rfl rfl (Nat.zero_lt_succ _) (by kernel_rfl) (by kernel_rfl) (by kernel_rfl) NewT.trans (NewT.drew _) (Nat.le_of_ble_eq_true rfl) ⟨?_, ?_, ?_, trivial⟩ ?_
  · -- 0: Op.move t0
    intro a wx hT hF K hK
    obtain ⟨f0, _⟩ := hF
    have f0 : a.tmps.getD 0 undef = .slice A0 k.length c0 := f0
    refine rely_wp rfl ?_
    exact opr_move (.inl rfl) (hK _ _ (NewT.refl _) (by rw [eval_tmp, f0]; exact hT.rd Rke.out))
  · -- 1: Op.call ( value (Operand.func 69), args := #[t18, const (92:
    intro a wx hT hF K hK
    obtain ⟨f18, _⟩ := hF
    replace f18 := show (svRd k).pred (a.tmps.getD 18 undef) wx from f18
    refine rely_wp rfl ?_
    refine opr_cv (with_92 _ k wx f18) rfl Tryd.func69 (by kernel_rfl) (by kernel_rfl) (by simp only [List.map_toArray, List.map_cons, List.map_nil, eval_tmp, eval_const]) ?_
    intro v w2 hN2 ho2
    exact hK v w2 hN2 (own_from hT ho2)
  · -- 2: Op.slice 32 t6 none none none
    intro a wx hT hF K hK
    obtain ⟨f6, _⟩ := hF
    have f6 : a.tmps.getD 6 undef = .pointer (some ⟨p6, 0, none⟩) := f6
    refine rely_wp rfl ?_
    exact opr_slice_hash rfl f6 (hK _ _ (NewT.refl _) (rd_row (hT.row r6) (by simp) (by omega)))
  · intro wx hT
    intro u18 h; have g18 := h (by simp); clear h; replace g18 := show (svRd k).pred u18 wx from g18
    intro u19 h; have g19 := h (by simp); clear h; replace g19 := show (svOwn we (maskL (bAt k) 92)).pred u19 wx from g19
    intro u20 h; have g20 := h (by simp); clear h; replace g20 := show (svRd (digL E)).pred u20 wx from g20
    refine relyEnd_nil rfl ?_
    simp only [Act.put, List.setIfInBounds_toArray, List.set_cons_zero, List.set_cons_succ]
    refine wpList_plain rfl (fun K hK => ?_)
    obtain ⟨v21, wg, hrun, _, r21, hBg⟩ := run_append_two g19 hT.out.size g20 (by rw [maskL_length, digL_length]; omega) 49
    refine opr_append rfl rfl rfl hrun (hK _ _ ?_)
    clear hrun hK K
    have hB3 := hB2.trans ((hT.out.mono hB2.size).trans (hBg.mono hB2.size))
    have r0g := rowIs_below (hT.row r0b) hBg r0b.lt
    have HTg := Lib.hid (HTe.out.below (hT.out.trans hBg))
    clear hBg hT g19 g20 g18
    refine wpList_plain rfl (fun K hK => ?_)
    refine opr_cv (RSumB_cv _ _ D wg HTg.out r21 (by rw [List.length_append, maskL_length, digL_length]; omega) HD.out) rfl Tryd.func68 (by kernel_rfl) (by kernel_rfl) (by simp only [List.map_toArray, List.map_cons, List.map_nil]; rfl) ?_
    intro v22 wh hNh he22
    obtain rfl : v22 = .agg (rowA 32 (bF D)) := he22
    refine hK _ _ ?_
    clear hK K
    refine wpList_plain rfl (fun K hK => ?_)
    refine opr_store_new (B := w.heap.size) (W := w) info31 rfl rfl rfl (hNh.row r0g) (hB3.trans (hNh.out.mono hB3.size)) (Nat.le_refl _) ?_
    intro wi hBi ri
    refine hK _ _ ?_
    clear hK K
    refine wpList_nil ?_
    go_simp
    go_wp2
    exact bodyPost_ret (results_row rfl _ rfl ri Tryd.underlying32 info31) rfl ⟨_, rfl, hBi, rfl⟩
theorem RTag_cv (vk vt : Value) (k t : List UInt8) (D : Nat → UInt8) (w : World) (hT : Tables w) (hk : RdV w [] vk k) (ht : RdV w [] vt t) (hk2 : k.length ≤ 64) (htl : t.length ≤ 100000) (hD : tagL k t = D) :
    Cv 55 #[vk, vt] w (.eq (.agg (rowA 32 (bF D)))) := by
  have h := hk
  obtain ⟨A0, c0, rfl, _⟩ := h
  exact RTag_short A0 c0 vt k t D w hT hk ht hk2 (by omega) htl hD
end Go.Proofs.YtchpmdcacpjojaaDoor
/- The reference's Key. -/
namespace Go.Proofs.YtchpmdcacpjojaaDoor
open Go Go.RowKit
set_option maxRecDepth 8000
set_option linter.all false
theorem words_next (is : List Int) (k : Nat) (hk : k < is.length) : wordsL (is.take (k + 1)) = wordsL (is.take k) ++ hiL (wN (is.getD k 0)) 8 := by
  have e : is.take (k + 1) = is.take k ++ [is[k]] := by rw [List.take_add_one, List.getElem?_eq_getElem hk]; rfl
  have e2 : is.getD k 0 = is[k] := by simp [List.getD, hk]
  rw [e, e2]
  unfold wordsL
  rw [List.map_append, List.flatten_append, List.map_cons, List.map_nil, List.flatten_cons, List.flatten_nil, List.append_nil]
set_option maxHeartbeats 1000000 in
theorem RKey_cv (d : Nat → UInt8) (iv : Value) (is : List Int) (D : Nat → UInt8) (w : World) (hT : Tables w) (hp : RdI w iv is) (hlen : is.length ≤ 1000) (hD : tagL (digL d) (wordsL is) = D) :
    Cv 44 #[.agg (rowA 32 (bF d)), iv] w (.eq (.agg (rowA 32 (bF D)))) := by
  unfold Cv
  have HD := Lib.hid hD
  have HT := Lib.hid hT
  obtain ⟨A0, cap, rfl, hpc, hpm, hA⟩ := hp
  unfold maxLen at hpm
  obtain ⟨m, hm⟩ : ∃ m, m = is.length := ⟨_, rfl⟩
  rw [← hm] at hpc hlen ⊢
  have HA := Lib.hid (show 0 < m → ∃ b o, A0 = some ⟨b, o, none⟩ ∧ ∀ i, i < m → w.cell? ⟨b, o + i, none⟩ = some (.int .i64 (is.getD i 0)) from fun h => by
    obtain ⟨b, o, h1, h2⟩ := hA (by omega)
    exact ⟨b, o, h1, fun i hi => h2 i (by omega)⟩)
  have Hm := Lib.hid hm
  clear hT hA hD hm
  go_enter Tryd.func44, Tryd.ntmps44
  go_upto_region 1 with fail
  have rk := (rowIs_box w 32 32 (bF d)).alloc (.cells (rowA 32 (bF fun _ => 0)) 32)
  have r0 := rowIs_box (w.alloc (.cells (rowA 32 (bF d)) 32)) 32 32 (bF fun _ => 0)
  rw [World.size_alloc] at r0
  have hB0 := NewT.trans _ _ _ (NewT.alloc w (.cells (rowA 32 (bF d)) 32)) (NewT.alloc (w.alloc (.cells (rowA 32 (bF d)) 32)) (.cells (rowA 32 (bF fun _ => 0)) 32))
  change Code.wp _ _ _ _ ((w.alloc (.cells (rowA 32 (bF d)) 32)).alloc (.cells (rowA 32 (bF fun _ => 0)) 32))
  generalize ((w.alloc (.cells (rowA 32 (bF d)) 32)).alloc (.cells (rowA 32 (bF fun _ => 0)) 32)) = W0 at rk r0 hB0 ⊢
  replace HT := Lib.hid (hB0.tables HT.out)
  go_wp2
  go_loopw [5, 6] (fun v i wr => ∃ j : Nat, j ≤ m ∧ i = .int .i64 j ∧ (svOwn W0 (wordsL (is.take j))).pred v wr ∧ Below W0.heap.size W0 wr) (fun _ i _ => m - (intOf i).toNat)
  case atStart => exact ⟨0, by omega, rfl, World.ownsRow_nil _ _ _ _, Below.refl _ _⟩
  case round =>
    obtain ⟨j, hj, rfl, hown, qB⟩ := hrel
    by_cases hlt : j < m
    · obtain ⟨b, o, rfl, hcells⟩ := HA.out (by omega)
      have hb0 := World.block_lt_of_cell? _ _ (hcells j hlt)
      have hcell := (qB.cell (p := ⟨b, o + j, none⟩) (Nat.lt_of_lt_of_le hb0 hB0.out.size)).trans ((hB0.out.cell (p := ⟨b, o + j, none⟩) hb0).trans (hcells j hlt))
      have Hnx := Lib.hid (words_next is j (by rw [← Hm.out]; exact hlt))
      have hwl := wordsL_length (is.take j)
      rw [List.length_take] at hwl
      generalize is.getD j 0 = x at hcell Hnx
      have hle : (wordsL (is.take j)).length ≤ 800000 := by omega
      clear hcells hwl
      go_upto_region 5 with fail
      refine wp_region_lit ?_
      iterate 5 (refine wpList_plain rfl (fun K hK => ?_); go_simp; refine hK _ _ ?_; clear hK K)
      refine wpList_plain rfl (fun K hK => ?_)
      refine opr_cv (RNumber_8 x wr) rfl Tryd.func54 (by kernel_rfl) (by kernel_rfl) (by simp only [List.map_toArray, List.map_cons, List.map_nil]; rfl) ?_
      intro v18 wa hNa h18
      refine hK _ _ ?_
      clear hK K
      have owna := (svOwn W0 (wordsL (is.take j))).stable _ _ _ hown hNa
      have hBa := qB.trans (hNa.out.mono qB.size)
      obtain ⟨v19, wb, hrun, ownb, _, hBb⟩ := run_append_two owna hBa.size (h18 [] (by simp)) (by rw [hiL_length]; omega) 49
      have Hown := Lib.hid ownb
      have HBB := Lib.hid (hBa.trans hBb)
      clear owna hBa h18 hown hcell hNa hBb ownb
      refine wpList_plain rfl (fun K hK => ?_)
      refine opr_append rfl rfl rfl hrun (hK _ _ ?_)
      clear hrun hK K
      refine wpList_plain rfl (fun K hK => ?_)
      refine opr_move (.inr rfl) (hK _ _ ?_)
      clear hK K
      refine wpList_nil ?_
      go_simp
      go_wp2
      go_roundw
      case rel => exact ⟨j + 1, by omega, by go_num, by rw [Hnx.out]; exact Hown.out, HBB.out⟩
      case measure => simp [intOf]; omega
    · obtain rfl : j = m := by omega
      have rt : RdV wr [] u5 (wordsL is) := by
        have := rdV_own (L := []) hown rfl (by simp)
        rwa [Hm.out, List.take_length] at this
      have Rt := Lib.hid rt
      have qN := NewT.of qB
      replace rk := qN.row rk
      replace r0 := qN.row r0
      replace HT := Lib.hid (qN.tables HT.out)
      have hB1 := NewT.trans _ _ _ hB0 qN
      have Hwl := Lib.hid (wordsL_length is)
      have hm2 := Hm.out
      clear rt hown qB qN HA hB0
      have hwl2 : (wordsL is).length ≤ 8000 := by rw [Hwl.out]; omega
      clear hm2
      go_upto_region 6 with fail
      refine wp_region_seq NewT [svRd (digL d), svRd (wordsL is), SV.eq (.agg (rowA 32 (bF D)))] [([(2, none)], none), ([(5, none)], none), ([(20, some 0), (21, some 1)], none)] 23 rfl rfl (by kernel_rfl) rfl NewT.trans (NewT.refl _) (Nat.le_of_ble_eq_true rfl) ⟨?_, ?_, ?_, trivial⟩ ?_
      · -- 0: Op.slice 32 t2 none none none
        intro a wx hT hF K hK
        obtain ⟨f2, _⟩ := hF
        have f2 : a.tmps.getD 2 undef = .pointer (some ⟨w.heap.size, 0, none⟩) := f2
        refine rely_wp rfl ?_
        exact opr_slice_hash rfl f2 (hK _ _ (NewT.refl _) (rd_row (hT.row rk) (by simp) (by omega)))
      · -- 1: Op.move t5
        intro a wx hT hF K hK
        obtain ⟨f5, _⟩ := hF
        have f5 : a.tmps.getD 5 undef = u5 := f5
        refine rely_wp rfl ?_
        exact opr_move (.inl rfl) (hK _ _ (NewT.refl _) (by rw [eval_tmp, f5]; exact hT.rd Rt.out))
      · -- 2: Op.call ( value (Operand.func 55), args := #[t20, t21], argT
        intro a wx hT hF K hK
        obtain ⟨f20, f21, _⟩ := hF
        replace f20 := show (svRd (digL d)).pred (a.tmps.getD 20 undef) wx from f20
        replace f21 := show (svRd (wordsL is)).pred (a.tmps.getD 21 undef) wx from f21
        refine rely_wp rfl ?_
        exact opr_cv (RTag_cv _ _ (digL d) (wordsL is) D wx (hT.tables HT.out) f20 f21 (by rw [digL_length]; omega) (by omega) HD.out) rfl Tryd.func55 (by kernel_rfl) (by kernel_rfl) (by simp only [List.map_toArray, List.map_cons, List.map_nil, eval_tmp]) hK
      · intro wx hT
        intro u20 h; have g20 := h (by simp); clear h; replace g20 := show (svRd (digL d)).pred u20 wx from g20
        intro u21 h; have g21 := h (by simp); clear h; replace g21 := show (svRd (wordsL is)).pred u21 wx from g21
        intro u h; obtain rfl := h (by simp); clear h
        refine relyEnd_nil rfl ?_
        simp only [Act.put, List.setIfInBounds_toArray, List.set_cons_zero, List.set_cons_succ]
        refine opr_store_new (B := w.heap.size) (W := w) info31 rfl rfl rfl (hT.row r0) (NewT.trans _ _ _ hB1 hT) (Nat.le_succ _) ?_
        intro w9 hB9 r9
        go_simp
        go_wp2
        exact bodyPost_ret (results_row rfl _ rfl r9 Tryd.underlying32 info31) rfl ⟨_, rfl, hB9, rfl⟩
end Go.Proofs.YtchpmdcacpjojaaDoor
/- The reference's keys and receipts. -/
namespace Go.Proofs.YtchpmdcacpjojaaDoor
open Go Go.RowKit
set_option maxRecDepth 8000
set_option linter.all false
set_option maxHeartbeats 1000000 in
theorem RMay_cv (v : Value) (ps ws : List Hs) (need : Int) (w : World) (hk : KeysV w v ps ws need) : Cv 27 #[v] w (.eq (.bool (mayB ps ws need))) := by
  rw [← may_ref]
  unfold Cv
  obtain ⟨pv, wv, rfl, hpv, hwv⟩ := hk
  go_enter Tryd.func27, Tryd.ntmps27
  go_upto_region 1 with fail
  have rk := rowIs_box w 24 3 (keyF pv wv need)
  have hN := NewT.alloc w (.cells (rowA 3 (keyF pv wv need)) 24)
  change Code.wp _ _ _ _ (w.alloc (.cells (rowA 3 (keyF pv wv need)) 24))
  generalize w.alloc (.cells (rowA 3 (keyF pv wv need)) 24) = W0 at rk hN ⊢
  have RK := Lib.hid rk
  have HN := Lib.hid hN
  have HK : Hid (KeysV W0 (.agg (rowA 3 (keyF pv wv need))) ps ws need) := Lib.hid (hN.keysV ⟨pv, wv, rfl, hpv, hwv⟩)
  have HP := Lib.hid (hN.hs hpv)
  have HW := Lib.hid (hN.hs hwv)
  clear rk hpv hwv hN
  obtain ⟨q1_1, Q1_1⟩ : ∃ bq_, ((decide (1 ≤ ((List.length (ps) : Int)))) && (decide (((List.length (ps) : Int)) ≤ 4))) = bq_ := ⟨_, rfl⟩
  obtain ⟨q2_1, Q2_1⟩ : ∃ bq_, (q1_1 && (decide (1 ≤ ((List.length (ws) : Int))))) = bq_ := ⟨_, rfl⟩
  obtain ⟨q3_1, Q3_1⟩ : ∃ bq_, (q2_1 && (decide (((List.length (ws) : Int)) ≤ 4))) = bq_ := ⟨_, rfl⟩
  obtain ⟨q4_1, Q4_1⟩ : ∃ bq_, ((q3_1 && (decide (1 ≤ need))) && (decide (need ≤ ((List.length (ws) : Int))))) = bq_ := ⟨_, rfl⟩
  refine wp_region_steps0 NewT [SV.eq (.pointer (some ⟨w.heap.size, 0, none⟩)), SV.eq (pv), SV.eq (.int .i64 ((List.length (ps) : Int))), SV.eq (.bool (decide (1 ≤ ((List.length (ps) : Int))))), SV.eq (.bool (decide (1 ≤ ((List.length (ps) : Int))))), svIf (decide (1 ≤ ((List.length (ps) : Int)))) (SV.eq (.pointer (some ⟨w.heap.size, 0, none⟩))), svIf (decide (1 ≤ ((List.length (ps) : Int)))) (SV.eq (pv)), svIf (decide (1 ≤ ((List.length (ps) : Int)))) (SV.eq (.int .i64 ((List.length (ps) : Int)))), svIf (decide (1 ≤ ((List.length (ps) : Int)))) (SV.eq (.bool (decide (((List.length (ps) : Int)) ≤ 4)))), SV.eq (.bool (q1_1)), SV.eq (.bool (q1_1)), svIf q1_1 (SV.eq (.pointer (some ⟨w.heap.size, 1, none⟩))), svIf q1_1 (SV.eq (wv)), svIf q1_1 (SV.eq (.int .i64 ((List.length (ws) : Int)))), svIf q1_1 (SV.eq (.bool (decide (1 ≤ ((List.length (ws) : Int)))))), SV.eq (.bool (q2_1)), SV.eq (.bool (q2_1)), svIf q2_1 (SV.eq (.pointer (some ⟨w.heap.size, 1, none⟩))), svIf q2_1 (SV.eq (wv)), svIf q2_1 (SV.eq (.int .i64 ((List.length (ws) : Int)))), svIf q2_1 (SV.eq (.bool (decide (((List.length (ws) : Int)) ≤ 4)))), SV.eq (.bool (q3_1)), SV.eq (.bool (q3_1)), svIf q3_1 (SV.eq (.pointer (some ⟨w.heap.size, 2, none⟩))), svIf q3_1 (SV.eq (.int .i64 (need))), svIf q3_1 (SV.eq (.bool (decide (1 ≤ need)))), SV.eq (.bool (q3_1 && (decide (1 ≤ need)))), SV.eq (.bool (q3_1 && (decide (1 ≤ need)))), svIf (q3_1 && (decide (1 ≤ need))) (SV.eq (.pointer (some ⟨w.heap.size, 2, none⟩))), svIf (q3_1 && (decide (1 ≤ need))) (SV.eq (.int .i64 (need))), svIf (q3_1 && (decide (1 ≤ need))) (SV.eq (.pointer (some ⟨w.heap.size, 1, none⟩))), svIf (q3_1 && (decide (1 ≤ need))) (SV.eq (wv)), svIf (q3_1 && (decide (1 ≤ need))) (SV.eq (.int .i64 ((List.length (ws) : Int)))), svIf (q3_1 && (decide (1 ≤ need))) (SV.eq (.bool (decide (need ≤ ((List.length (ws) : Int)))))), SV.eq (.bool (q4_1)), SV.eq (.bool (q4_1))] [([(1, none)], none), ([(3, some 0)], none), ([(4, some 1)], none), ([(5, some 2)], none), ([(6, some 3)], none), ([(1, none), (7, some 4)], some (7, true)), ([(8, some 5), (7, some 4)], some (7, true)), ([(9, some 6), (7, some 4)], some (7, true)), ([(10, some 7), (7, some 4)], some (7, true)), ([(7, some 4), (11, some 8)], none), ([(12, some 9)], none), ([(1, none), (13, some 10)], some (13, true)), ([(14, some 11), (13, some 10)], some (13, true)), ([(15, some 12), (13, some 10)], some (13, true)), ([(16, some 13), (13, some 10)], some (13, true)), ([(13, some 10), (17, some 14)], none), ([(18, some 15)], none), ([(1, none), (19, some 16)], some (19, true)), ([(20, some 17), (19, some 16)], some (19, true)), ([(21, some 18), (19, some 16)], some (19, true)), ([(22, some 19), (19, some 16)], some (19, true)), ([(19, some 16), (23, some 20)], none), ([(24, some 21)], none), ([(1, none), (25, some 22)], some (25, true)), ([(26, some 23), (25, some 22)], some (25, true)), ([(27, some 24), (25, some 22)], some (25, true)), ([(25, some 22), (28, some 25)], none), ([(29, some 26)], none), ([(1, none), (30, some 27)], some (30, true)), ([(31, some 28), (30, some 27)], some (30, true)), ([(1, none), (30, some 27)], some (30, true)), ([(33, some 30), (30, some 27)], some (30, true)), ([(34, some 31), (30, some 27)], some (30, true)), ([(32, some 29), (35, some 32), (30, some 27)], some (30, true)), ([(30, some 27), (36, some 33)], none), ([(37, some 34)], none)] 38 36 rfl rfl (by kernel_rfl) NewT.trans (NewT.refl _) (Nat.le_of_ble_eq_true rfl) ⟨?_, ?_, ?_, ?_, ?_, ?_, ?_, ?_, ?_, ?_, ?_, ?_, ?_, ?_, ?_, ?_, ?_, ?_, ?_, ?_, ?_, ?_, ?_, ?_, ?_, ?_, ?_, ?_, ?_, ?_, ?_, ?_, ?_, ?_, ?_, ?_, trivial⟩ ?_
  · exact fun a wx hT hF K hK => rely_wp rfl (opr_fldY0 rfl hF.1 (hK _ _ (NewT.refl _) rfl))
  · exact fun a wx hT hF K hK => rely_wp rfl (opr_ldHs (hT.row RK.out) (by decide) rfl rfl hF.1 (hK _ _ (NewT.refl _) rfl))
  · intro a wx hT hF K hK
    obtain ⟨f4, _⟩ := hF
    have f4 : a.tmps.getD 4 undef = pv := f4
    refine rely_wp rfl ?_
    exact opr_len_h rfl (by rw [eval_tmp, f4]; exact (hT.hs HP.out)) (hK _ _ (NewT.refl _) rfl)
  · exact fun a wx hT hF K hK => rely_wp rfl (opr_cmp (b := decide (1 ≤ ((List.length (ps) : Int)))) (.inr (.inr (.inr (.inr (.inr (⟨rfl, rfl⟩)))))) Tryd.underlying3 rfl hF.1 rfl (hK _ _ (NewT.refl _) rfl))
  · exact fun a wx hT hF K hK => rely_wp rfl (opr_move (.inl rfl) (hK _ _ (NewT.refl _) hF.1))
  · exact fun a wx hT hF K hK => rely_if (rely_gt hF.2.1) (NewT.refl _) hK fun hE hK => opr_fldY0 rfl hF.1 (hK _ _ (NewT.refl _) rfl)
  · exact fun a wx hT hF K hK => rely_if (rely_gt hF.2.1) (NewT.refl _) hK fun hE hK => opr_ldHs (hT.row RK.out) (by decide) rfl rfl (hF.1 hE) (hK _ _ (NewT.refl _) rfl)
  · intro a wx hT hF K hK
    obtain ⟨f9, f7, _⟩ := hF
    have f9 : (decide (1 ≤ ((List.length (ps) : Int)))) = true → a.tmps.getD 9 undef = pv := f9
    have f7 : a.tmps.getD 7 undef = .bool (decide (1 ≤ ((List.length (ps) : Int)))) := f7
    refine rely_if (rely_gt f7) (NewT.refl _) hK (fun hE hK => ?_)
    exact opr_len_h rfl (by rw [eval_tmp, (f9 hE)]; exact (hT.hs HP.out)) (hK _ _ (NewT.refl _) rfl)
  · exact fun a wx hT hF K hK => rely_if (rely_gt hF.2.1) (NewT.refl _) hK fun hE hK => opr_cmp (b := decide (((List.length (ps) : Int)) ≤ 4)) (.inr (.inr (.inl ⟨rfl, rfl⟩))) Tryd.underlying3 rfl (hF.1 hE) rfl (hK _ _ (NewT.refl _) rfl)
  · exact fun a wx hT hF K hK => rely_wp rfl (opr_pick_b rfl hF.1 (fun hb => hK _ _ (NewT.refl _) (pn_and1 Q1_1 (hF.2.1 hb) hb)) (fun hb => hK _ _ (NewT.refl _) (pn_and0 Q1_1 hb)))
  · exact fun a wx hT hF K hK => rely_wp rfl (opr_move (.inl rfl) (hK _ _ (NewT.refl _) hF.1))
  · exact fun a wx hT hF K hK => rely_if (rely_gt hF.2.1) (NewT.refl _) hK fun hE hK => opr_fldY1 rfl hF.1 (hK _ _ (NewT.refl _) rfl)
  · exact fun a wx hT hF K hK => rely_if (rely_gt hF.2.1) (NewT.refl _) hK fun hE hK => opr_ldHs (hT.row RK.out) (by decide) rfl rfl (hF.1 hE) (hK _ _ (NewT.refl _) rfl)
  · intro a wx hT hF K hK
    obtain ⟨f15, f13, _⟩ := hF
    have f15 : q1_1 = true → a.tmps.getD 15 undef = wv := f15
    have f13 : a.tmps.getD 13 undef = .bool (q1_1) := f13
    refine rely_if (rely_gt f13) (NewT.refl _) hK (fun hE hK => ?_)
    exact opr_len_h rfl (by rw [eval_tmp, (f15 hE)]; exact (hT.hs HW.out)) (hK _ _ (NewT.refl _) rfl)
  · exact fun a wx hT hF K hK => rely_if (rely_gt hF.2.1) (NewT.refl _) hK fun hE hK => opr_cmp (b := decide (1 ≤ ((List.length (ws) : Int)))) (.inr (.inr (.inr (.inr (.inr (⟨rfl, rfl⟩)))))) Tryd.underlying3 rfl (hF.1 hE) rfl (hK _ _ (NewT.refl _) rfl)
  · exact fun a wx hT hF K hK => rely_wp rfl (opr_pick_b rfl hF.1 (fun hb => hK _ _ (NewT.refl _) (pn_and1 Q2_1 (hF.2.1 hb) hb)) (fun hb => hK _ _ (NewT.refl _) (pn_and0 Q2_1 hb)))
  · exact fun a wx hT hF K hK => rely_wp rfl (opr_move (.inl rfl) (hK _ _ (NewT.refl _) hF.1))
  · exact fun a wx hT hF K hK => rely_if (rely_gt hF.2.1) (NewT.refl _) hK fun hE hK => opr_fldY1 rfl hF.1 (hK _ _ (NewT.refl _) rfl)
  · exact fun a wx hT hF K hK => rely_if (rely_gt hF.2.1) (NewT.refl _) hK fun hE hK => opr_ldHs (hT.row RK.out) (by decide) rfl rfl (hF.1 hE) (hK _ _ (NewT.refl _) rfl)
  · intro a wx hT hF K hK
    obtain ⟨f21, f19, _⟩ := hF
    have f21 : q2_1 = true → a.tmps.getD 21 undef = wv := f21
    have f19 : a.tmps.getD 19 undef = .bool (q2_1) := f19
    refine rely_if (rely_gt f19) (NewT.refl _) hK (fun hE hK => ?_)
    exact opr_len_h rfl (by rw [eval_tmp, (f21 hE)]; exact (hT.hs HW.out)) (hK _ _ (NewT.refl _) rfl)
  · exact fun a wx hT hF K hK => rely_if (rely_gt hF.2.1) (NewT.refl _) hK fun hE hK => opr_cmp (b := decide (((List.length (ws) : Int)) ≤ 4)) (.inr (.inr (.inl ⟨rfl, rfl⟩))) Tryd.underlying3 rfl (hF.1 hE) rfl (hK _ _ (NewT.refl _) rfl)
  · exact fun a wx hT hF K hK => rely_wp rfl (opr_pick_b rfl hF.1 (fun hb => hK _ _ (NewT.refl _) (pn_and1 Q3_1 (hF.2.1 hb) hb)) (fun hb => hK _ _ (NewT.refl _) (pn_and0 Q3_1 hb)))
  · exact fun a wx hT hF K hK => rely_wp rfl (opr_move (.inl rfl) (hK _ _ (NewT.refl _) hF.1))
  · exact fun a wx hT hF K hK => rely_if (rely_gt hF.2.1) (NewT.refl _) hK fun hE hK => opr_fldY2 rfl hF.1 (hK _ _ (NewT.refl _) rfl)
  · exact fun a wx hT hF K hK => rely_if (rely_gt hF.2.1) (NewT.refl _) hK fun hE hK => opr_ldI (hT.row RK.out) (by decide) rfl rfl (hF.1 hE) (hK _ _ (NewT.refl _) rfl)
  · exact fun a wx hT hF K hK => rely_if (rely_gt hF.2.1) (NewT.refl _) hK fun hE hK => opr_cmp (b := decide (1 ≤ need)) (.inr (.inr (.inr (.inr (.inr (⟨rfl, rfl⟩)))))) Tryd.underlying3 rfl (hF.1 hE) rfl (hK _ _ (NewT.refl _) rfl)
  · exact fun a wx hT hF K hK => rely_wp rfl (opr_pick_b rfl hF.1 (fun hb => hK _ _ (NewT.refl _) (pk_and1 (hF.2.1 hb) hb)) (fun hb => hK _ _ (NewT.refl _) (pk_and0 hb)))
  · exact fun a wx hT hF K hK => rely_wp rfl (opr_move (.inl rfl) (hK _ _ (NewT.refl _) hF.1))
  · exact fun a wx hT hF K hK => rely_if (rely_gt hF.2.1) (NewT.refl _) hK fun hE hK => opr_fldY2 rfl hF.1 (hK _ _ (NewT.refl _) rfl)
  · exact fun a wx hT hF K hK => rely_if (rely_gt hF.2.1) (NewT.refl _) hK fun hE hK => opr_ldI (hT.row RK.out) (by decide) rfl rfl (hF.1 hE) (hK _ _ (NewT.refl _) rfl)
  · exact fun a wx hT hF K hK => rely_if (rely_gt hF.2.1) (NewT.refl _) hK fun hE hK => opr_fldY1 rfl hF.1 (hK _ _ (NewT.refl _) rfl)
  · exact fun a wx hT hF K hK => rely_if (rely_gt hF.2.1) (NewT.refl _) hK fun hE hK => opr_ldHs (hT.row RK.out) (by decide) rfl rfl (hF.1 hE) (hK _ _ (NewT.refl _) rfl)
  · intro a wx hT hF K hK
    obtain ⟨f34, f30, _⟩ := hF
    have f34 : (q3_1 && (decide (1 ≤ need))) = true → a.tmps.getD 34 undef = wv := f34
    have f30 : a.tmps.getD 30 undef = .bool (q3_1 && (decide (1 ≤ need))) := f30
    refine rely_if (rely_gt f30) (NewT.refl _) hK (fun hE hK => ?_)
    exact opr_len_h rfl (by rw [eval_tmp, (f34 hE)]; exact (hT.hs HW.out)) (hK _ _ (NewT.refl _) rfl)
  · exact fun a wx hT hF K hK => rely_if (rely_gt hF.2.2.1) (NewT.refl _) hK fun hE hK => opr_cmp (b := decide (need ≤ ((List.length (ws) : Int)))) (.inr (.inr (.inl ⟨rfl, rfl⟩))) Tryd.underlying3 rfl (hF.1 hE) (hF.2.1 hE) (hK _ _ (NewT.refl _) rfl)
  · exact fun a wx hT hF K hK => rely_wp rfl (opr_pick_b rfl hF.1 (fun hb => hK _ _ (NewT.refl _) (pn_and1 Q4_1 (hF.2.1 hb) hb)) (fun hb => hK _ _ (NewT.refl _) (pn_and0 Q4_1 hb)))
  · exact fun a wx hT hF K hK => rely_wp rfl (opr_move (.inr rfl) (hK _ _ (NewT.refl _) hF.1))
  · intro wx hT
    iterate 5 (intro u h; obtain rfl := Eq.symm (h (by simp)); clear h)
    iterate 4 (intro _ _)
    iterate 2 (intro u h; obtain rfl := Eq.symm (h (by simp)); clear h)
    iterate 4 (intro _ _)
    iterate 2 (intro u h; obtain rfl := Eq.symm (h (by simp)); clear h)
    iterate 4 (intro _ _)
    iterate 2 (intro u h; obtain rfl := Eq.symm (h (by simp)); clear h)
    iterate 3 (intro _ _)
    iterate 2 (intro u h; obtain rfl := Eq.symm (h (by simp)); clear h)
    iterate 6 (intro _ _)
    iterate 2 (intro u h; obtain rfl := Eq.symm (h (by simp)); clear h)
    subst Q4_1 Q3_1 Q2_1 Q1_1
    refine relyEnd_nil rfl ?_
    refine wpList_end rfl ?_
    simp only [Act.put, List.setIfInBounds_toArray, List.set_cons_zero, List.set_cons_succ]
    go_simp
    go_wp2
    go_ret
    exact ⟨_, rfl, NewT.trans _ _ _ HN.out hT, rfl⟩
set_option maxHeartbeats 1000000 in
theorem RKnown_cv (v : Value) (ps ws : List Hs) (need part epoch : Int) (w : World) (hk : KeysV w v ps ws need) : Cv 12 #[v, .int .i64 part, .int .i64 epoch] w (.eq (.bool (hasB ps ws need part epoch))) := by
  rw [← known_ref]
  unfold Cv
  obtain ⟨pv, wv, rfl, hpv, hwv⟩ := hk
  go_enter Tryd.func12, Tryd.ntmps12
  go_upto_region 1 with fail
  have rk := rowIs_box w 24 3 (keyF pv wv need)
  have hN := NewT.alloc w (.cells (rowA 3 (keyF pv wv need)) 24)
  change Code.wp _ _ _ _ (w.alloc (.cells (rowA 3 (keyF pv wv need)) 24))
  generalize w.alloc (.cells (rowA 3 (keyF pv wv need)) 24) = W0 at rk hN ⊢
  have RK := Lib.hid rk
  have HN := Lib.hid hN
  have HK : Hid (KeysV W0 (.agg (rowA 3 (keyF pv wv need))) ps ws need) := Lib.hid (hN.keysV ⟨pv, wv, rfl, hpv, hwv⟩)
  have HP := Lib.hid (hN.hs hpv)
  have HW := Lib.hid (hN.hs hwv)
  clear rk hpv hwv hN
  obtain ⟨q1_1, Q1_1⟩ : ∃ bq_, ((mayB ps ws need) && (decide (0 ≤ part))) = bq_ := ⟨_, rfl⟩
  obtain ⟨q2_1, Q2_1⟩ : ∃ bq_, (q1_1 && (decide (part < ((List.length (ps) : Int))))) = bq_ := ⟨_, rfl⟩
  obtain ⟨q3_1, Q3_1⟩ : ∃ bq_, ((q2_1 && (decide (0 ≤ epoch))) && (decide (epoch ≤ 400))) = bq_ := ⟨_, rfl⟩
  refine wp_region_steps0 NewT [SV.eq (.agg (rowA 3 (keyF pv wv need))), SV.eq (.bool (mayB ps ws need)), SV.eq (.bool (mayB ps ws need)), svIf (mayB ps ws need) (SV.eq (.int .i64 (part))), svIf (mayB ps ws need) (SV.eq (.bool (decide (0 ≤ part)))), SV.eq (.bool (q1_1)), SV.eq (.bool (q1_1)), svIf q1_1 (SV.eq (.int .i64 (part))), svIf q1_1 (SV.eq (.pointer (some ⟨w.heap.size, 0, none⟩))), svIf q1_1 (SV.eq (pv)), svIf q1_1 (SV.eq (.int .i64 ((List.length (ps) : Int)))), svIf q1_1 (SV.eq (.bool (decide (part < ((List.length (ps) : Int)))))), SV.eq (.bool (q2_1)), SV.eq (.bool (q2_1)), svIf q2_1 (SV.eq (.int .i64 (epoch))), svIf q2_1 (SV.eq (.bool (decide (0 ≤ epoch)))), SV.eq (.bool (q2_1 && (decide (0 ≤ epoch)))), SV.eq (.bool (q2_1 && (decide (0 ≤ epoch)))), svIf (q2_1 && (decide (0 ≤ epoch))) (SV.eq (.int .i64 (epoch))), svIf (q2_1 && (decide (0 ≤ epoch))) (SV.eq (.bool (decide (epoch ≤ 400)))), SV.eq (.bool (q3_1)), SV.eq (.bool (q3_1))] [([(3, none)], none), ([(7, some 0)], none), ([(8, some 1)], none), ([(1, none), (9, some 2)], some (9, true)), ([(10, some 3), (9, some 2)], some (9, true)), ([(9, some 2), (11, some 4)], none), ([(12, some 5)], none), ([(1, none), (13, some 6)], some (13, true)), ([(3, none), (13, some 6)], some (13, true)), ([(15, some 8), (13, some 6)], some (13, true)), ([(16, some 9), (13, some 6)], some (13, true)), ([(14, some 7), (17, some 10), (13, some 6)], some (13, true)), ([(13, some 6), (18, some 11)], none), ([(19, some 12)], none), ([(2, none), (20, some 13)], some (20, true)), ([(21, some 14), (20, some 13)], some (20, true)), ([(20, some 13), (22, some 15)], none), ([(23, some 16)], none), ([(2, none), (24, some 17)], some (24, true)), ([(25, some 18), (24, some 17)], some (24, true)), ([(24, some 17), (26, some 19)], none), ([(27, some 20)], none)] 28 22 rfl rfl (by kernel_rfl) NewT.trans (NewT.refl _) (Nat.le_of_ble_eq_true rfl) ⟨?_, ?_, ?_, ?_, ?_, ?_, ?_, ?_, ?_, ?_, ?_, ?_, ?_, ?_, ?_, ?_, ?_, ?_, ?_, ?_, ?_, ?_, trivial⟩ ?_
  · exact fun a wx hT hF K hK => rely_wp rfl (opr_ldY (hT.row RK.out) rfl hF.1 (hK _ _ (NewT.refl _) rfl))
  · exact fun a wx hT hF K hK => rely_wp rfl (opr_cv (RMay_cv _ ps ws need wx (hT.keysV HK.out)) rfl Tryd.func27 (by kernel_rfl) (by kernel_rfl) (evs1 hF.1) hK)
  · exact fun a wx hT hF K hK => rely_wp rfl (opr_move (.inl rfl) (hK _ _ (NewT.refl _) hF.1))
  · exact fun a wx hT hF K hK => rely_if (rely_gt hF.2.1) (NewT.refl _) hK fun hE hK => opr_move (.inl rfl) (hK _ _ (NewT.refl _) hF.1)
  · exact fun a wx hT hF K hK => rely_if (rely_gt hF.2.1) (NewT.refl _) hK fun hE hK => opr_cmp (b := decide (0 ≤ part)) (.inr (.inr (.inr (.inr (.inr (⟨rfl, rfl⟩)))))) Tryd.underlying3 rfl (hF.1 hE) rfl (hK _ _ (NewT.refl _) rfl)
  · exact fun a wx hT hF K hK => rely_wp rfl (opr_pick_b rfl hF.1 (fun hb => hK _ _ (NewT.refl _) (pn_and1 Q1_1 (hF.2.1 hb) hb)) (fun hb => hK _ _ (NewT.refl _) (pn_and0 Q1_1 hb)))
  · exact fun a wx hT hF K hK => rely_wp rfl (opr_move (.inl rfl) (hK _ _ (NewT.refl _) hF.1))
  · exact fun a wx hT hF K hK => rely_if (rely_gt hF.2.1) (NewT.refl _) hK fun hE hK => opr_move (.inl rfl) (hK _ _ (NewT.refl _) hF.1)
  · exact fun a wx hT hF K hK => rely_if (rely_gt hF.2.1) (NewT.refl _) hK fun hE hK => opr_fldY0 rfl hF.1 (hK _ _ (NewT.refl _) rfl)
  · exact fun a wx hT hF K hK => rely_if (rely_gt hF.2.1) (NewT.refl _) hK fun hE hK => opr_ldHs (hT.row RK.out) (by decide) rfl rfl (hF.1 hE) (hK _ _ (NewT.refl _) rfl)
  · intro a wx hT hF K hK
    obtain ⟨f16, f13, _⟩ := hF
    have f16 : q1_1 = true → a.tmps.getD 16 undef = pv := f16
    have f13 : a.tmps.getD 13 undef = .bool (q1_1) := f13
    refine rely_if (rely_gt f13) (NewT.refl _) hK (fun hE hK => ?_)
    exact opr_len_h rfl (by rw [eval_tmp, (f16 hE)]; exact (hT.hs HP.out)) (hK _ _ (NewT.refl _) rfl)
  · exact fun a wx hT hF K hK => rely_if (rely_gt hF.2.2.1) (NewT.refl _) hK fun hE hK => opr_cmp (b := decide (part < ((List.length (ps) : Int)))) (.inr (.inr (.inr (.inl ⟨rfl, rfl⟩)))) Tryd.underlying3 rfl (hF.1 hE) (hF.2.1 hE) (hK _ _ (NewT.refl _) rfl)
  · exact fun a wx hT hF K hK => rely_wp rfl (opr_pick_b rfl hF.1 (fun hb => hK _ _ (NewT.refl _) (pn_and1 Q2_1 (hF.2.1 hb) hb)) (fun hb => hK _ _ (NewT.refl _) (pn_and0 Q2_1 hb)))
  · exact fun a wx hT hF K hK => rely_wp rfl (opr_move (.inl rfl) (hK _ _ (NewT.refl _) hF.1))
  · exact fun a wx hT hF K hK => rely_if (rely_gt hF.2.1) (NewT.refl _) hK fun hE hK => opr_move (.inl rfl) (hK _ _ (NewT.refl _) hF.1)
  · exact fun a wx hT hF K hK => rely_if (rely_gt hF.2.1) (NewT.refl _) hK fun hE hK => opr_cmp (b := decide (0 ≤ epoch)) (.inr (.inr (.inr (.inr (.inr (⟨rfl, rfl⟩)))))) Tryd.underlying3 rfl (hF.1 hE) rfl (hK _ _ (NewT.refl _) rfl)
  · exact fun a wx hT hF K hK => rely_wp rfl (opr_pick_b rfl hF.1 (fun hb => hK _ _ (NewT.refl _) (pk_and1 (hF.2.1 hb) hb)) (fun hb => hK _ _ (NewT.refl _) (pk_and0 hb)))
  · exact fun a wx hT hF K hK => rely_wp rfl (opr_move (.inl rfl) (hK _ _ (NewT.refl _) hF.1))
  · exact fun a wx hT hF K hK => rely_if (rely_gt hF.2.1) (NewT.refl _) hK fun hE hK => opr_move (.inl rfl) (hK _ _ (NewT.refl _) hF.1)
  · exact fun a wx hT hF K hK => rely_if (rely_gt hF.2.1) (NewT.refl _) hK fun hE hK => opr_cmp (b := decide (epoch ≤ 400)) (.inr (.inr (.inl ⟨rfl, rfl⟩))) Tryd.underlying3 rfl (hF.1 hE) rfl (hK _ _ (NewT.refl _) rfl)
  · exact fun a wx hT hF K hK => rely_wp rfl (opr_pick_b rfl hF.1 (fun hb => hK _ _ (NewT.refl _) (pn_and1 Q3_1 (hF.2.1 hb) hb)) (fun hb => hK _ _ (NewT.refl _) (pn_and0 Q3_1 hb)))
  · exact fun a wx hT hF K hK => rely_wp rfl (opr_move (.inr rfl) (hK _ _ (NewT.refl _) hF.1))
  · intro wx hT
    iterate 3 (intro u h; obtain rfl := Eq.symm (h (by simp)); clear h)
    iterate 2 (intro _ _)
    iterate 2 (intro u h; obtain rfl := Eq.symm (h (by simp)); clear h)
    iterate 5 (intro _ _)
    iterate 2 (intro u h; obtain rfl := Eq.symm (h (by simp)); clear h)
    iterate 2 (intro _ _)
    iterate 2 (intro u h; obtain rfl := Eq.symm (h (by simp)); clear h)
    iterate 2 (intro _ _)
    iterate 2 (intro u h; obtain rfl := Eq.symm (h (by simp)); clear h)
    subst Q3_1 Q2_1 Q1_1
    refine relyEnd_nil rfl ?_
    refine wpList_end rfl ?_
    simp only [Act.put, List.setIfInBounds_toArray, List.set_cons_zero, List.set_cons_succ]
    go_simp
    go_wp2
    go_ret
    exact ⟨_, rfl, NewT.trans _ _ _ HN.out hT, rfl⟩
set_option maxHeartbeats 1000000 in
theorem RPart_cv {kf : Hs → List Int → Hs} {tg : Hs → Hs → Hs} {pf : Int → Hs → Hs} (hX : KeyH kf tg pf) (v : Value) (ps ws : List Hs) (need part epoch : Int) (w : World) (hT : Tables w) (hk : KeysV w v ps ws need) : Cv 45 #[v, .int .i64 part, .int .i64 epoch] w (.eq (.agg (rowA 32 (bF (partH kf ps ws need part epoch))))) := by
  unfold Cv
  obtain ⟨pv, wv, rfl, hpv, hwv⟩ := hk
  have HT := Lib.hid hT
  clear hT
  go_enter Tryd.func45, Tryd.ntmps45
  go_upto_region 1 with fail
  have rk := (rowIs_box w 24 3 (keyF pv wv need)).alloc (.cells (rowA 32 (bF fun _ => 0)) 32)
  have r0 := rowIs_box (w.alloc (.cells (rowA 3 (keyF pv wv need)) 24)) 32 32 (bF fun _ => 0)
  have hN : NewT w ((w.alloc (.cells (rowA 3 (keyF pv wv need)) 24)).alloc (.cells (rowA 32 (bF fun _ => 0)) 32)) := NewT.trans _ _ _ (NewT.alloc _ _) (NewT.alloc _ _)
  rw [World.size_alloc] at r0
  change Code.wp _ _ _ _ ((w.alloc (.cells (rowA 3 (keyF pv wv need)) 24)).alloc (.cells (rowA 32 (bF fun _ => 0)) 32))
  generalize (w.alloc (.cells (rowA 3 (keyF pv wv need)) 24)).alloc (.cells (rowA 32 (bF fun _ => 0)) 32) = W0 at rk r0 hN ⊢
  have RK := Lib.hid rk
  have R0 := Lib.hid r0
  have HN := Lib.hid hN
  replace HT := Lib.hid (hN.tables HT.out)
  have HK : Hid (KeysV W0 (.agg (rowA 3 (keyF pv wv need))) ps ws need) := Lib.hid (hN.keysV ⟨pv, wv, rfl, hpv, hwv⟩)
  have HP := Lib.hid (hN.hs hpv)
  have HW := Lib.hid (hN.hs hwv)
  clear rk r0 hpv hwv hN
  refine wp_region_steps0 NewT [SV.eq (.agg (rowA 3 (keyF pv wv need))), SV.eq (.int .i64 (part)), SV.eq (.int .i64 (epoch)), SV.eq (.bool (hasB ps ws need part epoch)), SV.eq (.bool (!(hasB ps ws need part epoch)))] [([(3, none)], none), ([(1, none)], none), ([(2, none)], none), ([(7, some 0), (8, some 1), (9, some 2)], none), ([(10, some 3)], none)] 21 5 rfl rfl (by kernel_rfl) NewT.trans (NewT.refl _) (Nat.le_of_ble_eq_true rfl) ⟨?_, ?_, ?_, ?_, ?_, trivial⟩ ?_
  · exact fun a wx hT hF K hK => rely_wp rfl (opr_ldY (hT.row RK.out) rfl hF.1 (hK _ _ (NewT.refl _) rfl))
  · exact fun a wx hT hF K hK => rely_wp rfl (opr_move (.inl rfl) (hK _ _ (NewT.refl _) hF.1))
  · exact fun a wx hT hF K hK => rely_wp rfl (opr_move (.inl rfl) (hK _ _ (NewT.refl _) hF.1))
  · exact fun a wx hT hF K hK => rely_wp rfl (opr_cv (RKnown_cv _ ps ws need part epoch wx (hT.keysV HK.out)) rfl Tryd.func12 (by kernel_rfl) (by kernel_rfl) (evs3 hF.1 hF.2.1 hF.2.2.1) hK)
  · exact fun a wx hT hF K hK => rely_wp rfl (opr_not rfl hF.1 (hK _ _ (NewT.refl _) rfl))
  · intro w1 k1
    iterate 5 (intro u h; obtain rfl := Eq.symm (h (by simp)); clear h)
    refine relyEnd_nil rfl ?_
    refine wpList_end rfl ?_
    simp only [Act.put, List.setIfInBounds_toArray, List.set_cons_zero, List.set_cons_succ]
    go_simp
    replace RK := Lib.hid (k1.row RK.out)
    replace R0 := Lib.hid (k1.row R0.out)
    replace HK := Lib.hid (k1.keysV HK.out)
    replace HP := Lib.hid (k1.hs HP.out)
    replace HW := Lib.hid (k1.hs HW.out)
    replace HT := Lib.hid (k1.tables HT.out)
    replace HN := Lib.hid (NewT.trans _ _ _ HN.out k1)
    clear k1
    cases hb : hasB ps ws need part epoch
    · have HE : Hid (partH kf ps ws need part epoch = z32) := Lib.hid (by unfold partH; rw [hb]; rfl)
      clear hb
      go_upto_region 2 with fail
      refine wp_region_steps0 NewT [SV.eq (.agg (rowA 32 (bF (z32))))] [([], none)] 21 1 rfl rfl (by kernel_rfl) NewT.trans (NewT.refl _) (Nat.le_of_ble_eq_true rfl) ⟨?_, trivial⟩ ?_
      · exact fun a wx hT hF K hK => rely_wp rfl (opr_build (pv := #[]) rfl (by simp) (build_z32 wx) (hK _ _ (NewT.refl _) rfl))
      · intro wx hT
        intro u h; obtain rfl := Eq.symm (h (by simp)); clear h
        refine relyEnd_nil rfl ?_
        simp only [Act.put, List.setIfInBounds_toArray, List.set_cons_zero, List.set_cons_succ]
        refine wpList_plain rfl (fun K hK => ?_)
        refine opr_store_new (B := w.heap.size) (W := w) info31 rfl rfl rfl (hT.row R0.out) (NewT.trans _ _ _ HN.out hT) (Nat.le_succ _) ?_
        intro w9 hB9 r9
        refine hK _ _ ?_
        refine wpList_end rfl ?_
        simp only [Act.put, List.setIfInBounds_toArray, List.set_cons_zero, List.set_cons_succ]
        go_simp
        go_wp2
        exact bodyPost_ret (results_row rfl _ rfl r9 Tryd.underlying32 info31) rfl ⟨_, rfl, hB9, by rw [HE.out]; rfl⟩
    · obtain ⟨i, rfl, _, hd⟩ := hasB_at hb
      obtain ⟨d, hdd⟩ := hid_ex (ps.getD ((i : Int)).toNat z32)
      have HD : Hid (ps[i]? = some d) := Lib.hid (by rw [hd, hdd.out])
      have HE : Hid (partH kf ps ws need (i : Int) epoch = kf d [1, epoch]) := Lib.hid (by unfold partH; rw [hb, if_pos rfl, hdd.out])
      clear hb hd hdd
      go_upto_region 3 with fail
      refine wp_region_steps0 NewT [SV.eq (.pointer (some ⟨w.heap.size, 0, none⟩)), SV.eq (pv), SV.eq (.int .i64 ((i : Int))), svP (d), SV.eq (.agg (rowA 32 (bF (d)))), SV.eq (.int .i64 (epoch)), svInts [1, epoch], SV.eq (.agg (rowA 32 (bF (kf (d) [1, epoch]))))] [([(3, none)], none), ([(13, some 0)], none), ([(1, none)], none), ([(14, some 1), (15, some 2)], none), ([(16, some 3)], none), ([(2, none)], none), ([(18, some 5)], none), ([(17, some 4), (19, some 6)], none)] 21 8 rfl rfl (by kernel_rfl) NewT.trans (NewT.refl _) (Nat.le_of_ble_eq_true rfl) ⟨?_, ?_, ?_, ?_, ?_, ?_, ?_, ?_, trivial⟩ ?_
      · exact fun a wx hT hF K hK => rely_wp rfl (opr_fldY0 rfl hF.1 (hK _ _ (NewT.refl _) rfl))
      · exact fun a wx hT hF K hK => rely_wp rfl (opr_ldHs (hT.row RK.out) (by decide) rfl rfl hF.1 (hK _ _ (NewT.refl _) rfl))
      · exact fun a wx hT hF K hK => rely_wp rfl (opr_move (.inl rfl) (hK _ _ (NewT.refl _) hF.1))
      · intro a wx hT hF K hK
        obtain ⟨f14, f15, _⟩ := hF
        have f14 : a.tmps.getD 14 undef = pv := f14
        have f15 : a.tmps.getD 15 undef = .int .i64 ((i : Int)) := f15
        refine rely_wp rfl ?_
        exact opr_idxH (i := i) (d := d) (HD.out) (rfl) rfl (by rw [eval_tmp, f14]; exact (hT.hs HP.out)) f15 (fun v hv => hK v _ (NewT.refl _) hv)
      · exact fun a wx hT hF K hK => rely_wp rfl (opr_ldP rfl hF.1 (hK _ _ (NewT.refl _) rfl))
      · exact fun a wx hT hF K hK => rely_wp rfl (opr_move (.inl rfl) (hK _ _ (NewT.refl _) hF.1))
      · exact fun a wx hT hF K hK => rely_wp rfl (opr_bsI2 rfl rfl hF.1 hK)
      · exact fun a wx hT hF K hK => rely_wp rfl (opr_cv (RKey_cv (d) _ [1, epoch] _ wx (hT.tables HT.out) hF.2.1 (by simp) (hX.key _ _)) rfl Tryd.func44 (by kernel_rfl) (by kernel_rfl) (evs2 hF.1 rfl) hK)
      · intro wx hT
        iterate 3 (intro u h; obtain rfl := Eq.symm (h (by simp)); clear h)
        intro _ _
        iterate 2 (intro u h; obtain rfl := Eq.symm (h (by simp)); clear h)
        intro _ _
        intro u h; obtain rfl := Eq.symm (h (by simp)); clear h
        refine relyEnd_nil rfl ?_
        simp only [Act.put, List.setIfInBounds_toArray, List.set_cons_zero, List.set_cons_succ]
        refine wpList_plain rfl (fun K hK => ?_)
        refine opr_store_new (B := w.heap.size) (W := w) info31 rfl rfl rfl (hT.row R0.out) (NewT.trans _ _ _ HN.out hT) (Nat.le_succ _) ?_
        intro w9 hB9 r9
        refine hK _ _ ?_
        refine wpList_end rfl ?_
        simp only [Act.put, List.setIfInBounds_toArray, List.set_cons_zero, List.set_cons_succ]
        go_simp
        go_wp2
        exact bodyPost_ret (results_row rfl _ rfl r9 Tryd.underlying32 info31) rfl ⟨_, rfl, hB9, by rw [HE.out]; rfl⟩
set_option maxHeartbeats 4000000 in
theorem RReceipt_cv {kf : Hs → List Int → Hs} {tg : Hs → Hs → Hs} {pf : Int → Hs → Hs} (hX : KeyH kf tg pf) (v u : Value) (ps ws : List Hs) (need : Int) (x : Rc) (w : World) (hT : Tables w) (hk : KeysV w v ps ws need) (hx : RecV w u x) : Cv 35 #[v, u] w (.eq (.agg (rowA 32 (bF (recpH kf ps ws need x))))) := by
  unfold Cv
  obtain ⟨pv, wv, rfl, hpv, hwv⟩ := hk
  obtain ⟨sv, dv, rfl, hs, hd⟩ := hx
  have HT := Lib.hid hT
  clear hT
  go_enter Tryd.func35, Tryd.ntmps35
  go_upto_region 1 with fail
  have rk := ((rowIs_box w 24 3 (keyF pv wv need)).alloc (.cells (rowA 109 (recF x sv dv)) 51)).alloc (.cells (rowA 32 (bF fun _ => 0)) 32)
  have r1 := (rowIs_box (w.alloc (.cells (rowA 3 (keyF pv wv need)) 24)) 51 109 (recF x sv dv)).alloc (.cells (rowA 32 (bF fun _ => 0)) 32)
  have r0 := rowIs_box ((w.alloc (.cells (rowA 3 (keyF pv wv need)) 24)).alloc (.cells (rowA 109 (recF x sv dv)) 51)) 32 32 (bF fun _ => 0)
  have hN : NewT w (((w.alloc (.cells (rowA 3 (keyF pv wv need)) 24)).alloc (.cells (rowA 109 (recF x sv dv)) 51)).alloc (.cells (rowA 32 (bF fun _ => 0)) 32)) := NewT.trans _ _ _ (NewT.alloc _ _) (NewT.trans _ _ _ (NewT.alloc _ _) (NewT.alloc _ _))
  rw [World.size_alloc] at r1
  rw [World.size_alloc, World.size_alloc] at r0
  change Code.wp _ _ _ _ (((w.alloc (.cells (rowA 3 (keyF pv wv need)) 24)).alloc (.cells (rowA 109 (recF x sv dv)) 51)).alloc (.cells (rowA 32 (bF fun _ => 0)) 32))
  generalize ((w.alloc (.cells (rowA 3 (keyF pv wv need)) 24)).alloc (.cells (rowA 109 (recF x sv dv)) 51)).alloc (.cells (rowA 32 (bF fun _ => 0)) 32) = W0 at rk r1 r0 hN ⊢
  have RK := Lib.hid rk
  have R1 := Lib.hid r1
  have R0 := Lib.hid r0
  have HN := Lib.hid hN
  replace HT := Lib.hid (hN.tables HT.out)
  have HK : Hid (KeysV W0 (.agg (rowA 3 (keyF pv wv need))) ps ws need) := Lib.hid (hN.keysV ⟨pv, wv, rfl, hpv, hwv⟩)
  have HP := Lib.hid (hN.hs hpv)
  have HW := Lib.hid (hN.hs hwv)
  have HX : Hid (RecV W0 (.agg (rowA 109 (recF x sv dv))) x) := Lib.hid (hN.recV ⟨sv, dv, rfl, hs, hd⟩)
  have HS := Lib.hid (hN.pairs hs)
  have HD := Lib.hid (hN.rd hd)
  clear rk r0 r1 hpv hwv hN hs hd
  obtain ⟨q1_1, Q1_1⟩ : ∃ bq_, ((x.kind != 3) || (!(hasB ps ws need x.part x.epoch))) = bq_ := ⟨_, rfl⟩
  refine wp_region_steps0 NewT [SV.eq (.pointer (some ⟨w.heap.size + 1, 0, none⟩)), SV.eq (.int .i64 (x.kind)), SV.eq (.bool (x.kind != 3)), SV.eq (.bool (x.kind != 3)), svIf ((!(x.kind != 3))) (SV.eq (.agg (rowA 3 (keyF pv wv need)))), svIf ((!(x.kind != 3))) (SV.eq (.pointer (some ⟨w.heap.size + 1, 8, none⟩))), svIf ((!(x.kind != 3))) (SV.eq (.int .i64 (x.part))), svIf ((!(x.kind != 3))) (SV.eq (.pointer (some ⟨w.heap.size + 1, 9, none⟩))), svIf ((!(x.kind != 3))) (SV.eq (.int .i64 (x.epoch))), svIf ((!(x.kind != 3))) (SV.eq (.bool (hasB ps ws need x.part x.epoch))), svIf ((!(x.kind != 3))) (SV.eq (.bool (!(hasB ps ws need x.part x.epoch)))), SV.eq (.bool (q1_1))] [([(3, none)], none), ([(7, some 0)], none), ([(8, some 1)], none), ([(9, some 2)], none), ([(2, none), (10, some 3)], some (10, false)), ([(3, none), (10, some 3)], some (10, false)), ([(12, some 5), (10, some 3)], some (10, false)), ([(3, none), (10, some 3)], some (10, false)), ([(14, some 7), (10, some 3)], some (10, false)), ([(11, some 4), (13, some 6), (15, some 8), (10, some 3)], some (10, false)), ([(16, some 9), (10, some 3)], some (10, false)), ([(10, some 3), (17, some 10)], none)] 38 12 rfl rfl (by kernel_rfl) NewT.trans (NewT.refl _) (Nat.le_of_ble_eq_true rfl) ⟨?_, ?_, ?_, ?_, ?_, ?_, ?_, ?_, ?_, ?_, ?_, ?_, trivial⟩ ?_
  · exact fun a wx hT hF K hK => rely_wp rfl (opr_fldR (by decide) rfl hF.1 (hK _ _ (NewT.refl _) rfl))
  · exact fun a wx hT hF K hK => rely_wp rfl (opr_ldI (hT.row R1.out) (by decide) rfl rfl hF.1 (hK _ _ (NewT.refl _) rfl))
  · exact fun a wx hT hF K hK => rely_wp rfl (opr_cmp (b := x.kind != 3) (.inr (.inl ⟨rfl, rfl⟩)) Tryd.underlying3 rfl hF.1 rfl (hK _ _ (NewT.refl _) rfl))
  · exact fun a wx hT hF K hK => rely_wp rfl (opr_move (.inl rfl) (hK _ _ (NewT.refl _) hF.1))
  · exact fun a wx hT hF K hK => rely_if (rely_gf hF.2.1) (NewT.refl _) hK fun hE hK => opr_ldY (hT.row RK.out) rfl hF.1 (hK _ _ (NewT.refl _) rfl)
  · exact fun a wx hT hF K hK => rely_if (rely_gf hF.2.1) (NewT.refl _) hK fun hE hK => opr_fldR (by decide) rfl hF.1 (hK _ _ (NewT.refl _) rfl)
  · exact fun a wx hT hF K hK => rely_if (rely_gf hF.2.1) (NewT.refl _) hK fun hE hK => opr_ldI (hT.row R1.out) (by decide) rfl rfl (hF.1 hE) (hK _ _ (NewT.refl _) rfl)
  · exact fun a wx hT hF K hK => rely_if (rely_gf hF.2.1) (NewT.refl _) hK fun hE hK => opr_fldR (by decide) rfl hF.1 (hK _ _ (NewT.refl _) rfl)
  · exact fun a wx hT hF K hK => rely_if (rely_gf hF.2.1) (NewT.refl _) hK fun hE hK => opr_ldI (hT.row R1.out) (by decide) rfl rfl (hF.1 hE) (hK _ _ (NewT.refl _) rfl)
  · exact fun a wx hT hF K hK => rely_if (rely_gf hF.2.2.2.1) (NewT.refl _) hK fun hE hK => opr_cv (RKnown_cv _ ps ws need x.part x.epoch wx (hT.keysV HK.out)) rfl Tryd.func12 (by kernel_rfl) (by kernel_rfl) (evs3 (hF.1 hE) (hF.2.1 hE) (hF.2.2.1 hE)) hK
  · exact fun a wx hT hF K hK => rely_if (rely_gf hF.2.1) (NewT.refl _) hK fun hE hK => opr_not rfl (hF.1 hE) (hK _ _ (NewT.refl _) rfl)
  · exact fun a wx hT hF K hK => rely_wp rfl (opr_pick_b rfl hF.1 (fun hb => hK _ _ (NewT.refl _) (pn_or1 Q1_1 hb)) (fun hb => hK _ _ (NewT.refl _) (pn_or0 Q1_1 (hF.2.1 (bnot hb)) hb)))
  · intro w1 k1
    iterate 4 (intro u h; obtain rfl := Eq.symm (h (by simp)); clear h)
    iterate 7 (intro _ _)
    intro u h; obtain rfl := Eq.symm (h (by simp)); clear h
    subst Q1_1
    refine relyEnd_nil rfl ?_
    refine wpList_end rfl ?_
    simp only [Act.put, List.setIfInBounds_toArray, List.set_cons_zero, List.set_cons_succ]
    go_simp
    replace RK := Lib.hid (k1.row RK.out)
    replace R1 := Lib.hid (k1.row R1.out)
    replace R0 := Lib.hid (k1.row R0.out)
    replace HK := Lib.hid (k1.keysV HK.out)
    replace HP := Lib.hid (k1.hs HP.out)
    replace HW := Lib.hid (k1.hs HW.out)
    replace HX := Lib.hid (k1.recV HX.out)
    replace HS := Lib.hid (k1.pairs HS.out)
    replace HD := Lib.hid (k1.rd HD.out)
    replace HT := Lib.hid (k1.tables HT.out)
    replace HN := Lib.hid (NewT.trans _ _ _ HN.out k1)
    clear k1
    cases hb : ((x.kind != 3) || !hasB ps ws need x.part x.epoch)
    · have HE0 : Hid (recpH kf ps ws need x = kf (partH kf ps ws need x.part x.epoch) [2, x.saga, x.step, bI x.back, bI x.good]) := Lib.hid (by unfold recpH; rw [or_not hb]; rfl)
      have c5 : w1.cell? ⟨w.heap.size + 1, 5, none⟩ = some (.bool x.back) := R1.out.cell (i := 5) (by omega)
      have c6 : w1.cell? ⟨w.heap.size + 1, 6, none⟩ = some (.bool x.good) := R1.out.cell (i := 6) (by omega)
      clear hb
      cases hbk : x.back <;> cases hgd : x.good
      · rw [hbk] at c5
        rw [hgd] at c6
        have HE : Hid (recpH kf ps ws need x = kf (partH kf ps ws need x.part x.epoch) [2, x.saga, x.step, 0, 0]) := Lib.hid (by rw [HE0.out, hbk, hgd]; rfl)
        clear hbk hgd
        go_upto_region 8 with fail
        clear c5 c6
        refine wp_region_rely (NewT) [SV.eq (.agg (rowA 3 (keyF pv wv need))), SV.eq (.pointer (some ⟨w.heap.size + 1, 8, none⟩)), SV.eq (.int .i64 (x.part)), SV.eq (.pointer (some ⟨w.heap.size + 1, 9, none⟩)), SV.eq (.int .i64 (x.epoch)), SV.eq (.agg (rowA 32 (bF (partH kf ps ws need x.part x.epoch)))), SV.eq (.pointer (some ⟨w.heap.size + 1, 1, none⟩)), SV.eq (.int .i64 (x.saga)), SV.eq (.pointer (some ⟨w.heap.size + 1, 3, none⟩)), SV.eq (.int .i64 (x.step)), SV.eq (.int .i64 (0)), SV.eq (.int .i64 (0)), svInts [2, x.saga, x.step, 0, 0], SV.eq (.agg (rowA 32 (bF (kf (partH kf ps ws need x.part x.epoch) [2, x.saga, x.step, 0, 0]))))] [([(2, none)], none), ([(3, none)], none), ([(25, some 1)], none), ([(3, none)], none), ([(27, some 3)], none), ([(24, some 0), (26, some 2), (28, some 4)], none), ([(3, none)], none), ([(30, some 6)], none), ([(3, none)], none), ([(32, some 8)], none), ([(5, none)], none), ([(6, none)], none), ([(31, some 7), (33, some 9), (34, some 10), (35, some 11)], none), ([(29, some 5), (36, some 12)], none)] 38 rfl (by kernel_rfl) rfl (by kernel_rfl) (by kernel_rfl) rfl NewT.trans (NewT.drew _) (Nat.le_of_ble_eq_true rfl) ⟨?_, ?_, ?_, ?_, ?_, ?_, ?_, ?_, ?_, ?_, ?_, ?_, ?_, ?_, trivial⟩ ?_
        · exact fun a wx hT hF K hK => rely_wp rfl (opr_ldY (hT.row RK.out) rfl hF.1 (hK _ _ (NewT.refl _) rfl))
        · exact fun a wx hT hF K hK => rely_wp rfl (opr_fldR (by decide) rfl hF.1 (hK _ _ (NewT.refl _) rfl))
        · exact fun a wx hT hF K hK => rely_wp rfl (opr_ldI (hT.row R1.out) (by decide) rfl rfl hF.1 (hK _ _ (NewT.refl _) rfl))
        · exact fun a wx hT hF K hK => rely_wp rfl (opr_fldR (by decide) rfl hF.1 (hK _ _ (NewT.refl _) rfl))
        · exact fun a wx hT hF K hK => rely_wp rfl (opr_ldI (hT.row R1.out) (by decide) rfl rfl hF.1 (hK _ _ (NewT.refl _) rfl))
        · exact fun a wx hT hF K hK => rely_wp rfl (opr_cv (RPart_cv hX _ ps ws need x.part x.epoch wx (hT.tables HT.out) (hT.keysV HK.out)) rfl Tryd.func45 (by kernel_rfl) (by kernel_rfl) (evs3 hF.1 hF.2.1 hF.2.2.1) hK)
        · exact fun a wx hT hF K hK => rely_wp rfl (opr_fldR (by decide) rfl hF.1 (hK _ _ (NewT.refl _) rfl))
        · exact fun a wx hT hF K hK => rely_wp rfl (opr_ldI (hT.row R1.out) (by decide) rfl rfl hF.1 (hK _ _ (NewT.refl _) rfl))
        · exact fun a wx hT hF K hK => rely_wp rfl (opr_fldR (by decide) rfl hF.1 (hK _ _ (NewT.refl _) rfl))
        · exact fun a wx hT hF K hK => rely_wp rfl (opr_ldI (hT.row R1.out) (by decide) rfl rfl hF.1 (hK _ _ (NewT.refl _) rfl))
        · exact fun a wx hT hF K hK => rely_wp rfl (opr_move (.inl rfl) (hK _ _ (NewT.refl _) hF.1))
        · exact fun a wx hT hF K hK => rely_wp rfl (opr_move (.inl rfl) (hK _ _ (NewT.refl _) hF.1))
        · exact fun a wx hT hF K hK => rely_wp rfl (opr_bsI5 rfl rfl hF.1 hF.2.1 hF.2.2.1 hF.2.2.2.1 hK)
        · exact fun a wx hT hF K hK => rely_wp rfl (opr_cv (RKey_cv (partH kf ps ws need x.part x.epoch) _ [2, x.saga, x.step, 0, 0] _ wx (hT.tables HT.out) hF.2.1 (by simp) (hX.key _ _)) rfl Tryd.func44 (by kernel_rfl) (by kernel_rfl) (evs2 hF.1 rfl) hK)
        · intro wx hT
          iterate 12 (intro u h; obtain rfl := Eq.symm (h (by simp)); clear h)
          intro _ _
          intro u h; obtain rfl := Eq.symm (h (by simp)); clear h
          refine relyEnd_nil rfl ?_
          simp only [Act.put, List.setIfInBounds_toArray, List.set_cons_zero, List.set_cons_succ]
          refine opr_store_new (B := w.heap.size) (W := w) info31 rfl rfl rfl (hT.row R0.out) (NewT.trans _ _ _ HN.out hT) (by omega) ?_
          intro w9 hB9 r9
          go_simp
          go_wp2
          exact bodyPost_ret (results_row rfl _ rfl r9 Tryd.underlying32 info31) rfl ⟨_, rfl, hB9, by rw [HE.out]; rfl⟩
      · rw [hbk] at c5
        rw [hgd] at c6
        have HE : Hid (recpH kf ps ws need x = kf (partH kf ps ws need x.part x.epoch) [2, x.saga, x.step, 0, 1]) := Lib.hid (by rw [HE0.out, hbk, hgd]; rfl)
        clear hbk hgd
        go_upto_region 8 with fail
        clear c5 c6
        refine wp_region_rely (NewT) [SV.eq (.agg (rowA 3 (keyF pv wv need))), SV.eq (.pointer (some ⟨w.heap.size + 1, 8, none⟩)), SV.eq (.int .i64 (x.part)), SV.eq (.pointer (some ⟨w.heap.size + 1, 9, none⟩)), SV.eq (.int .i64 (x.epoch)), SV.eq (.agg (rowA 32 (bF (partH kf ps ws need x.part x.epoch)))), SV.eq (.pointer (some ⟨w.heap.size + 1, 1, none⟩)), SV.eq (.int .i64 (x.saga)), SV.eq (.pointer (some ⟨w.heap.size + 1, 3, none⟩)), SV.eq (.int .i64 (x.step)), SV.eq (.int .i64 (0)), SV.eq (.int .i64 (1)), svInts [2, x.saga, x.step, 0, 1], SV.eq (.agg (rowA 32 (bF (kf (partH kf ps ws need x.part x.epoch) [2, x.saga, x.step, 0, 1]))))] [([(2, none)], none), ([(3, none)], none), ([(25, some 1)], none), ([(3, none)], none), ([(27, some 3)], none), ([(24, some 0), (26, some 2), (28, some 4)], none), ([(3, none)], none), ([(30, some 6)], none), ([(3, none)], none), ([(32, some 8)], none), ([(5, none)], none), ([(6, none)], none), ([(31, some 7), (33, some 9), (34, some 10), (35, some 11)], none), ([(29, some 5), (36, some 12)], none)] 38 rfl (by kernel_rfl) rfl (by kernel_rfl) (by kernel_rfl) rfl NewT.trans (NewT.drew _) (Nat.le_of_ble_eq_true rfl) ⟨?_, ?_, ?_, ?_, ?_, ?_, ?_, ?_, ?_, ?_, ?_, ?_, ?_, ?_, trivial⟩ ?_
        · exact fun a wx hT hF K hK => rely_wp rfl (opr_ldY (hT.row RK.out) rfl hF.1 (hK _ _ (NewT.refl _) rfl))
        · exact fun a wx hT hF K hK => rely_wp rfl (opr_fldR (by decide) rfl hF.1 (hK _ _ (NewT.refl _) rfl))
        · exact fun a wx hT hF K hK => rely_wp rfl (opr_ldI (hT.row R1.out) (by decide) rfl rfl hF.1 (hK _ _ (NewT.refl _) rfl))
        · exact fun a wx hT hF K hK => rely_wp rfl (opr_fldR (by decide) rfl hF.1 (hK _ _ (NewT.refl _) rfl))
        · exact fun a wx hT hF K hK => rely_wp rfl (opr_ldI (hT.row R1.out) (by decide) rfl rfl hF.1 (hK _ _ (NewT.refl _) rfl))
        · exact fun a wx hT hF K hK => rely_wp rfl (opr_cv (RPart_cv hX _ ps ws need x.part x.epoch wx (hT.tables HT.out) (hT.keysV HK.out)) rfl Tryd.func45 (by kernel_rfl) (by kernel_rfl) (evs3 hF.1 hF.2.1 hF.2.2.1) hK)
        · exact fun a wx hT hF K hK => rely_wp rfl (opr_fldR (by decide) rfl hF.1 (hK _ _ (NewT.refl _) rfl))
        · exact fun a wx hT hF K hK => rely_wp rfl (opr_ldI (hT.row R1.out) (by decide) rfl rfl hF.1 (hK _ _ (NewT.refl _) rfl))
        · exact fun a wx hT hF K hK => rely_wp rfl (opr_fldR (by decide) rfl hF.1 (hK _ _ (NewT.refl _) rfl))
        · exact fun a wx hT hF K hK => rely_wp rfl (opr_ldI (hT.row R1.out) (by decide) rfl rfl hF.1 (hK _ _ (NewT.refl _) rfl))
        · exact fun a wx hT hF K hK => rely_wp rfl (opr_move (.inl rfl) (hK _ _ (NewT.refl _) hF.1))
        · exact fun a wx hT hF K hK => rely_wp rfl (opr_move (.inl rfl) (hK _ _ (NewT.refl _) hF.1))
        · exact fun a wx hT hF K hK => rely_wp rfl (opr_bsI5 rfl rfl hF.1 hF.2.1 hF.2.2.1 hF.2.2.2.1 hK)
        · exact fun a wx hT hF K hK => rely_wp rfl (opr_cv (RKey_cv (partH kf ps ws need x.part x.epoch) _ [2, x.saga, x.step, 0, 1] _ wx (hT.tables HT.out) hF.2.1 (by simp) (hX.key _ _)) rfl Tryd.func44 (by kernel_rfl) (by kernel_rfl) (evs2 hF.1 rfl) hK)
        · intro wx hT
          iterate 12 (intro u h; obtain rfl := Eq.symm (h (by simp)); clear h)
          intro _ _
          intro u h; obtain rfl := Eq.symm (h (by simp)); clear h
          refine relyEnd_nil rfl ?_
          simp only [Act.put, List.setIfInBounds_toArray, List.set_cons_zero, List.set_cons_succ]
          refine opr_store_new (B := w.heap.size) (W := w) info31 rfl rfl rfl (hT.row R0.out) (NewT.trans _ _ _ HN.out hT) (by omega) ?_
          intro w9 hB9 r9
          go_simp
          go_wp2
          exact bodyPost_ret (results_row rfl _ rfl r9 Tryd.underlying32 info31) rfl ⟨_, rfl, hB9, by rw [HE.out]; rfl⟩
      · rw [hbk] at c5
        rw [hgd] at c6
        have HE : Hid (recpH kf ps ws need x = kf (partH kf ps ws need x.part x.epoch) [2, x.saga, x.step, 1, 0]) := Lib.hid (by rw [HE0.out, hbk, hgd]; rfl)
        clear hbk hgd
        go_upto_region 8 with fail
        clear c5 c6
        refine wp_region_rely (NewT) [SV.eq (.agg (rowA 3 (keyF pv wv need))), SV.eq (.pointer (some ⟨w.heap.size + 1, 8, none⟩)), SV.eq (.int .i64 (x.part)), SV.eq (.pointer (some ⟨w.heap.size + 1, 9, none⟩)), SV.eq (.int .i64 (x.epoch)), SV.eq (.agg (rowA 32 (bF (partH kf ps ws need x.part x.epoch)))), SV.eq (.pointer (some ⟨w.heap.size + 1, 1, none⟩)), SV.eq (.int .i64 (x.saga)), SV.eq (.pointer (some ⟨w.heap.size + 1, 3, none⟩)), SV.eq (.int .i64 (x.step)), SV.eq (.int .i64 (1)), SV.eq (.int .i64 (0)), svInts [2, x.saga, x.step, 1, 0], SV.eq (.agg (rowA 32 (bF (kf (partH kf ps ws need x.part x.epoch) [2, x.saga, x.step, 1, 0]))))] [([(2, none)], none), ([(3, none)], none), ([(25, some 1)], none), ([(3, none)], none), ([(27, some 3)], none), ([(24, some 0), (26, some 2), (28, some 4)], none), ([(3, none)], none), ([(30, some 6)], none), ([(3, none)], none), ([(32, some 8)], none), ([(5, none)], none), ([(6, none)], none), ([(31, some 7), (33, some 9), (34, some 10), (35, some 11)], none), ([(29, some 5), (36, some 12)], none)] 38 rfl (by kernel_rfl) rfl (by kernel_rfl) (by kernel_rfl) rfl NewT.trans (NewT.drew _) (Nat.le_of_ble_eq_true rfl) ⟨?_, ?_, ?_, ?_, ?_, ?_, ?_, ?_, ?_, ?_, ?_, ?_, ?_, ?_, trivial⟩ ?_
        · exact fun a wx hT hF K hK => rely_wp rfl (opr_ldY (hT.row RK.out) rfl hF.1 (hK _ _ (NewT.refl _) rfl))
        · exact fun a wx hT hF K hK => rely_wp rfl (opr_fldR (by decide) rfl hF.1 (hK _ _ (NewT.refl _) rfl))
        · exact fun a wx hT hF K hK => rely_wp rfl (opr_ldI (hT.row R1.out) (by decide) rfl rfl hF.1 (hK _ _ (NewT.refl _) rfl))
        · exact fun a wx hT hF K hK => rely_wp rfl (opr_fldR (by decide) rfl hF.1 (hK _ _ (NewT.refl _) rfl))
        · exact fun a wx hT hF K hK => rely_wp rfl (opr_ldI (hT.row R1.out) (by decide) rfl rfl hF.1 (hK _ _ (NewT.refl _) rfl))
        · exact fun a wx hT hF K hK => rely_wp rfl (opr_cv (RPart_cv hX _ ps ws need x.part x.epoch wx (hT.tables HT.out) (hT.keysV HK.out)) rfl Tryd.func45 (by kernel_rfl) (by kernel_rfl) (evs3 hF.1 hF.2.1 hF.2.2.1) hK)
        · exact fun a wx hT hF K hK => rely_wp rfl (opr_fldR (by decide) rfl hF.1 (hK _ _ (NewT.refl _) rfl))
        · exact fun a wx hT hF K hK => rely_wp rfl (opr_ldI (hT.row R1.out) (by decide) rfl rfl hF.1 (hK _ _ (NewT.refl _) rfl))
        · exact fun a wx hT hF K hK => rely_wp rfl (opr_fldR (by decide) rfl hF.1 (hK _ _ (NewT.refl _) rfl))
        · exact fun a wx hT hF K hK => rely_wp rfl (opr_ldI (hT.row R1.out) (by decide) rfl rfl hF.1 (hK _ _ (NewT.refl _) rfl))
        · exact fun a wx hT hF K hK => rely_wp rfl (opr_move (.inl rfl) (hK _ _ (NewT.refl _) hF.1))
        · exact fun a wx hT hF K hK => rely_wp rfl (opr_move (.inl rfl) (hK _ _ (NewT.refl _) hF.1))
        · exact fun a wx hT hF K hK => rely_wp rfl (opr_bsI5 rfl rfl hF.1 hF.2.1 hF.2.2.1 hF.2.2.2.1 hK)
        · exact fun a wx hT hF K hK => rely_wp rfl (opr_cv (RKey_cv (partH kf ps ws need x.part x.epoch) _ [2, x.saga, x.step, 1, 0] _ wx (hT.tables HT.out) hF.2.1 (by simp) (hX.key _ _)) rfl Tryd.func44 (by kernel_rfl) (by kernel_rfl) (evs2 hF.1 rfl) hK)
        · intro wx hT
          iterate 12 (intro u h; obtain rfl := Eq.symm (h (by simp)); clear h)
          intro _ _
          intro u h; obtain rfl := Eq.symm (h (by simp)); clear h
          refine relyEnd_nil rfl ?_
          simp only [Act.put, List.setIfInBounds_toArray, List.set_cons_zero, List.set_cons_succ]
          refine opr_store_new (B := w.heap.size) (W := w) info31 rfl rfl rfl (hT.row R0.out) (NewT.trans _ _ _ HN.out hT) (by omega) ?_
          intro w9 hB9 r9
          go_simp
          go_wp2
          exact bodyPost_ret (results_row rfl _ rfl r9 Tryd.underlying32 info31) rfl ⟨_, rfl, hB9, by rw [HE.out]; rfl⟩
      · rw [hbk] at c5
        rw [hgd] at c6
        have HE : Hid (recpH kf ps ws need x = kf (partH kf ps ws need x.part x.epoch) [2, x.saga, x.step, 1, 1]) := Lib.hid (by rw [HE0.out, hbk, hgd]; rfl)
        clear hbk hgd
        go_upto_region 8 with fail
        clear c5 c6
        refine wp_region_rely (NewT) [SV.eq (.agg (rowA 3 (keyF pv wv need))), SV.eq (.pointer (some ⟨w.heap.size + 1, 8, none⟩)), SV.eq (.int .i64 (x.part)), SV.eq (.pointer (some ⟨w.heap.size + 1, 9, none⟩)), SV.eq (.int .i64 (x.epoch)), SV.eq (.agg (rowA 32 (bF (partH kf ps ws need x.part x.epoch)))), SV.eq (.pointer (some ⟨w.heap.size + 1, 1, none⟩)), SV.eq (.int .i64 (x.saga)), SV.eq (.pointer (some ⟨w.heap.size + 1, 3, none⟩)), SV.eq (.int .i64 (x.step)), SV.eq (.int .i64 (1)), SV.eq (.int .i64 (1)), svInts [2, x.saga, x.step, 1, 1], SV.eq (.agg (rowA 32 (bF (kf (partH kf ps ws need x.part x.epoch) [2, x.saga, x.step, 1, 1]))))] [([(2, none)], none), ([(3, none)], none), ([(25, some 1)], none), ([(3, none)], none), ([(27, some 3)], none), ([(24, some 0), (26, some 2), (28, some 4)], none), ([(3, none)], none), ([(30, some 6)], none), ([(3, none)], none), ([(32, some 8)], none), ([(5, none)], none), ([(6, none)], none), ([(31, some 7), (33, some 9), (34, some 10), (35, some 11)], none), ([(29, some 5), (36, some 12)], none)] 38 rfl (by kernel_rfl) rfl (by kernel_rfl) (by kernel_rfl) rfl NewT.trans (NewT.drew _) (Nat.le_of_ble_eq_true rfl) ⟨?_, ?_, ?_, ?_, ?_, ?_, ?_, ?_, ?_, ?_, ?_, ?_, ?_, ?_, trivial⟩ ?_
        · exact fun a wx hT hF K hK => rely_wp rfl (opr_ldY (hT.row RK.out) rfl hF.1 (hK _ _ (NewT.refl _) rfl))
        · exact fun a wx hT hF K hK => rely_wp rfl (opr_fldR (by decide) rfl hF.1 (hK _ _ (NewT.refl _) rfl))
        · exact fun a wx hT hF K hK => rely_wp rfl (opr_ldI (hT.row R1.out) (by decide) rfl rfl hF.1 (hK _ _ (NewT.refl _) rfl))
        · exact fun a wx hT hF K hK => rely_wp rfl (opr_fldR (by decide) rfl hF.1 (hK _ _ (NewT.refl _) rfl))
        · exact fun a wx hT hF K hK => rely_wp rfl (opr_ldI (hT.row R1.out) (by decide) rfl rfl hF.1 (hK _ _ (NewT.refl _) rfl))
        · exact fun a wx hT hF K hK => rely_wp rfl (opr_cv (RPart_cv hX _ ps ws need x.part x.epoch wx (hT.tables HT.out) (hT.keysV HK.out)) rfl Tryd.func45 (by kernel_rfl) (by kernel_rfl) (evs3 hF.1 hF.2.1 hF.2.2.1) hK)
        · exact fun a wx hT hF K hK => rely_wp rfl (opr_fldR (by decide) rfl hF.1 (hK _ _ (NewT.refl _) rfl))
        · exact fun a wx hT hF K hK => rely_wp rfl (opr_ldI (hT.row R1.out) (by decide) rfl rfl hF.1 (hK _ _ (NewT.refl _) rfl))
        · exact fun a wx hT hF K hK => rely_wp rfl (opr_fldR (by decide) rfl hF.1 (hK _ _ (NewT.refl _) rfl))
        · exact fun a wx hT hF K hK => rely_wp rfl (opr_ldI (hT.row R1.out) (by decide) rfl rfl hF.1 (hK _ _ (NewT.refl _) rfl))
        · exact fun a wx hT hF K hK => rely_wp rfl (opr_move (.inl rfl) (hK _ _ (NewT.refl _) hF.1))
        · exact fun a wx hT hF K hK => rely_wp rfl (opr_move (.inl rfl) (hK _ _ (NewT.refl _) hF.1))
        · exact fun a wx hT hF K hK => rely_wp rfl (opr_bsI5 rfl rfl hF.1 hF.2.1 hF.2.2.1 hF.2.2.2.1 hK)
        · exact fun a wx hT hF K hK => rely_wp rfl (opr_cv (RKey_cv (partH kf ps ws need x.part x.epoch) _ [2, x.saga, x.step, 1, 1] _ wx (hT.tables HT.out) hF.2.1 (by simp) (hX.key _ _)) rfl Tryd.func44 (by kernel_rfl) (by kernel_rfl) (evs2 hF.1 rfl) hK)
        · intro wx hT
          iterate 12 (intro u h; obtain rfl := Eq.symm (h (by simp)); clear h)
          intro _ _
          intro u h; obtain rfl := Eq.symm (h (by simp)); clear h
          refine relyEnd_nil rfl ?_
          simp only [Act.put, List.setIfInBounds_toArray, List.set_cons_zero, List.set_cons_succ]
          refine opr_store_new (B := w.heap.size) (W := w) info31 rfl rfl rfl (hT.row R0.out) (NewT.trans _ _ _ HN.out hT) (by omega) ?_
          intro w9 hB9 r9
          go_simp
          go_wp2
          exact bodyPost_ret (results_row rfl _ rfl r9 Tryd.underlying32 info31) rfl ⟨_, rfl, hB9, by rw [HE.out]; rfl⟩
    · have HE : Hid (recpH kf ps ws need x = z32) := Lib.hid (by unfold recpH; rw [or_not hb]; rfl)
      clear hb
      go_upto_region 2 with fail
      refine wp_region_steps0 NewT [SV.eq (.agg (rowA 32 (bF (z32))))] [([], none)] 38 1 rfl rfl (by kernel_rfl) NewT.trans (NewT.refl _) (Nat.le_of_ble_eq_true rfl) ⟨?_, trivial⟩ ?_
      · exact fun a wx hT hF K hK => rely_wp rfl (opr_build (pv := #[]) rfl (by simp) (build_z32 wx) (hK _ _ (NewT.refl _) rfl))
      · intro wx hT
        intro u h; obtain rfl := Eq.symm (h (by simp)); clear h
        refine relyEnd_nil rfl ?_
        simp only [Act.put, List.setIfInBounds_toArray, List.set_cons_zero, List.set_cons_succ]
        refine wpList_plain rfl (fun K hK => ?_)
        refine opr_store_new (B := w.heap.size) (W := w) info31 rfl rfl rfl (hT.row R0.out) (NewT.trans _ _ _ HN.out hT) (by omega) ?_
        intro w9 hB9 r9
        refine hK _ _ ?_
        refine wpList_end rfl ?_
        simp only [Act.put, List.setIfInBounds_toArray, List.set_cons_zero, List.set_cons_succ]
        go_simp
        go_wp2
        exact bodyPost_ret (results_row rfl _ rfl r9 Tryd.underlying32 info31) rfl ⟨_, rfl, hB9, by rw [HE.out]; rfl⟩
end Go.Proofs.YtchpmdcacpjojaaDoor
/- The laws' bound; Take in short; whether package part answers as the document's example. -/
namespace Go.Proofs.YtchpmdcacpjojaaDoor
open Go Go.RowKit
set_option maxRecDepth 8000
set_option linter.all false
theorem RdHI.mono {lo lo' hi : Nat} {w : World} {v : Value} {l : List Hs} (h : RdHI lo hi w v l) (hl : lo' ≤ lo) : RdHI lo' hi w v l := ⟨h.1, fun k hk => ⟨Nat.le_trans hl (h.2 k hk).1, (h.2 k hk).2⟩⟩
theorem PartAt.mono {w : World} {lo lo' hi g : Nat} {n e : Int} {ps ws : List Hs} {need : Int} {L : List En} (h : PartAt w lo hi g n e ps ws need L) (hl : lo' ≤ lo) : PartAt w lo' hi g n e ps ws need L := by
  obtain ⟨m, pv, wv, r1, r2, r3, r4, h1, h2, h3, h4⟩ := h
  exact ⟨m, pv, wv, r1, r2, r3.mono hl, r4.mono hl, by omega, h2, h3, h4⟩
theorem New_yes (B : Nat) (v : Value) (ps ws : List Hs) (need n : Int) (w : World) (hB : B ≤ w.heap.size) (hk : KeysV w v ps ws need) (hh : hasB ps ws need n 0 = true) : Cv 11 #[v, .int .i64 n] w (svPart B n ps ws need) := by
  have h := New_cv v ps ws need n w hk
  rw [if_pos hh] at h
  exact h.mono fun _ _ ⟨u, e1, hN, g, hi, h1, h2⟩ => ⟨u, e1, hN, g, hi, h1, h2.mono hB⟩
theorem New_no (v : Value) (ps ws : List Hs) (need n : Int) (w : World) (hk : KeysV w v ps ws need) (hh : hasB ps ws need n 0 = false) : Cv 11 #[v, .int .i64 n] w (.eq (.pointer none)) := by
  have h := New_cv v ps ws need n w hk
  rw [if_neg (by rw [hh]; simp)] at h
  exact h
theorem Take_k {kf : Hs → List Int → Hs} {tg : Hs → Hs → Hs} {pf : Int → Hs → Hs} (hX : KeyH kf tg pf) {lo hi g : Nat} {n e : Int} {ps ws : List Hs} {need : Int} {L L2 : List En} {c x : Cl} {r b : Bool} (w : World) (hT : Tables w) (hlo : 2 ≤ lo) (h : PartAt w lo hi g n e ps ws need L) (hb : itsB n c = b) (hx : takeC kf ps ws need n e L c r = x) (hL : takeL n L c r = L2) :
    Calls Tryd.prog 13 #[.pointer (some ⟨g, 0, none⟩), .agg (rowA 41 (clF c)), .bool r] w fun ex w' => ex = .returned (.tuple #[.agg (rowA 41 (clF x)), .bool b]) ∧ PT lo hi w w' ∧ PartAt w' lo hi g n e ps ws need L2 := by
  subst hb hx hL
  exact Take_c hX c r w hT hlo h
theorem Entries_a {lo hi g : Nat} {n e : Int} {ps ws : List Hs} {need : Int} {L : List En} (B : Nat) (w : World) (h : PartAt w lo hi g n e ps ws need L) (hL : L.length ≤ 1000000) (hB : B ≤ w.heap.size) : Cv 16 #[.pointer (some ⟨g, 0, none⟩)] w (svEs B L) := by
  obtain ⟨m, pv, wv, r1, _, _, r4⟩ := h.row
  exact Entries_cv B w r1 r4 hL hB
theorem Entries_L {lo hi g : Nat} {n e : Int} {ps ws : List Hs} {need : Int} {L : List En} (w : World) (h : PartAt w lo hi g n e ps ws need L) (hL : L.length ≤ 1000000) : Cv 16 #[.pointer (some ⟨g, 0, none⟩)] w (svL 4 eyE L) := (Entries_a 0 w h hL (Nat.zero_le _)).mono fun _ _ ⟨u, e1, hN, h1⟩ => ⟨u, e1, hN, h1.1⟩
theorem Epoch_a {lo hi g : Nat} {n e : Int} {ps ws : List Hs} {need : Int} {L : List En} (w : World) (h : PartAt w lo hi g n e ps ws need L) : Cv 15 #[.pointer (some ⟨g, 0, none⟩)] w (.eq (.int .i64 e)) := by
  obtain ⟨m, pv, wv, r1, _⟩ := h.row
  exact Epoch_cv w r1
def svLen {T : World → World → Prop} (n : Nat) : SV T := ⟨fun v _ => ∃ A c, v = .slice A n c, fun _ _ _ h _ => h⟩
theorem Entries_n {lo hi g : Nat} {n e : Int} {ps ws : List Hs} {need : Int} {L : List En} (w : World) (h : PartAt w lo hi g n e ps ws need L) (hL : L.length ≤ 1000000) : Cv 16 #[.pointer (some ⟨g, 0, none⟩)] w (svLen L.length) := (Entries_a 0 w h hL (Nat.zero_le _)).mono fun _ _ ⟨u, e1, hN, h1⟩ => ⟨u, e1, hN, by obtain ⟨A, c, hv, _⟩ := h1.1.form; exact ⟨A, c, hv⟩⟩
theorem recC_nil (c : Cl) (s : Int) : (recC c s).steps = [] ∧ (recC c s).data = [] := by unfold recC; split <;> exact ⟨rfl, rfl⟩
theorem recV_any {w w' : World} {v : Value} {x : Rc} (h : RecV w v x) (hx : x.steps = [] ∧ x.data = []) : RecV w' v x := by
  obtain ⟨sv, dv, hv, ⟨A, c, h1, h2, h3, _⟩, A', c', k1, k2, k3, _⟩ := h
  refine ⟨sv, dv, hv, ⟨A, c, h1, h2, h3, fun h0 => ?_⟩, A', c', k1, k2, k3, fun h0 => ?_⟩
  · rw [hx.1] at h0; cases h0
  · rw [hx.2] at h0; cases h0
def svRecP {T : World → World → Prop} (x : Rc) (h : x.steps = [] ∧ x.data = []) : SV T := ⟨fun v w => RecV w v x, fun _ _ _ k _ => recV_any k h⟩
def fewB (ps ws : List Hs) (m : Nat) : Bool := ((decide ((ps.length : Int) ≤ 20) && decide ((ws.length : Int) ≤ 20)) && decide ((m : Int) ≤ 60))
/-- An answer's receipt holds. -/
theorem holds_ans {kf : Hs → List Int → Hs} {n e : Int} {c : Cl} {g : Bool} {ps ws : List Hs} {need seq : Int} (hi : itsB n c = true) (hk : hasB ps ws need n 0 = true) (he : 0 ≤ e ∧ e ≤ 400) (hs : 1 ≤ seq ∧ seq ≤ 400) : holdsB kf ps ws need (recC (ansC kf ps ws need e c g) seq) = true := by
  obtain ⟨_, hp, h1, h2, h3, h4⟩ := (its_iff n c).1 hi
  obtain ⟨hm, h5, _⟩ := (hasB_iff _ _ _ _ _).1 hk
  have hl := (mayB_iff _ _ _).1 hm
  have ht := ans_tag kf ps ws need e c g seq
  have hkd : hasB ps ws need c.part e = true := (hasB_iff _ _ _ _ _).2 ⟨hm, by rw [hp]; exact h5, he⟩
  have e1 : recC (ansC kf ps ws need e c g) seq = { zR with kind := 3, saga := c.saga, seq := seq, step := c.step, tr := c.tr, back := c.back, good := g, part := c.part, epoch := e, tag := (ansC kf ps ws need e c g).tag } := rfl
  unfold holdsB
  rw [← ht]
  have hr : rightB (recC (ansC kf ps ws need e c g) seq) = true := by
    rw [e1]
    unfold rightB
    rw [if_neg (show ¬ ((3 : Int) = 1) by decide), if_neg (show ¬ ((3 : Int) = 2 ∨ (3 : Int) = 4) by decide), if_pos rfl]
    have k1 : inR c.saga 0 11 = true := (inR_iff _ _ _).2 h1
    have k2 : inR seq 1 400 = true := (inR_iff _ _ _).2 hs
    have k3 : inR c.step 0 5 = true := (inR_iff _ _ _).2 h2
    have k4 : inR c.tr 1 9 = true := (inR_iff _ _ _).2 h4
    have k5 : inR c.part 0 3 = true := (inR_iff _ _ _).2 (by omega)
    have k6 : inR e 0 400 = true := (inR_iff _ _ _).2 he
    simp only [isCall, noBegin, k1, k2, k3, k4, k5, k6, Bool.and_self, Bool.true_and, zR]
    decide
  rw [hr, e1]
  have e2 : hasB ps ws need ({ zR with kind := 3, saga := c.saga, seq := seq, step := c.step, tr := c.tr, back := c.back, good := g, part := c.part, epoch := e, tag := (ansC kf ps ws need e c g).tag } : Rc).part ({ zR with kind := 3, saga := c.saga, seq := seq, step := c.step, tr := c.tr, back := c.back, good := g, part := c.part, epoch := e, tag := (ansC kf ps ws need e c g).tag } : Rc).epoch = true := hkd
  rw [e2]
  simp only [beq_self_eq_true, Bool.and_self, Bool.true_and]
  exact eqH_self _
set_option maxHeartbeats 1000000 in
theorem few_cv (v u : Value) (ps ws : List Hs) (need : Int) (l : List Ac) (w : World) (hk : KeysV w v ps ws need) (hu : RdL 43 acE w u l) : Cv 10 #[v, u] w (.eq (.bool (fewB ps ws l.length))) := by
  unfold Cv
  obtain ⟨pv, wv, rfl, hpv, hwv⟩ := hk
  have HPP := Lib.hid hpv
  have HWW := Lib.hid hwv
  have HU := Lib.hid hu
  clear hpv hwv hu
  go_enter Tryd.func10, Tryd.ntmps10
  go_upto_region 1 with fail
  have r_g1 := rowIs_box w 24 3 (keyF pv wv need)
  have hN : NewT w (w.alloc (.cells (rowA 3 (keyF pv wv need)) 24)) := NewT.alloc _ _
  change Code.wp _ _ _ _ (w.alloc (.cells (rowA 3 (keyF pv wv need)) 24))
  generalize (w.alloc (.cells (rowA 3 (keyF pv wv need)) 24)) = W0 at r_g1 hN ⊢
  obtain ⟨g1, h_g1⟩ : ∃ g_, w.heap.size = g_ := ⟨_, rfl⟩
  have HG : Hid (w.heap.size ≤ g1) := Lib.hid (by omega)
  rw [h_g1] at r_g1
  simp only [h_g1]
  have Rg1 := Lib.hid r_g1
  have HM := Lib.hid hN
  clear r_g1 hN h_g1
  go_upto_region 1 with fail
  obtain ⟨q1_1, Q1_1⟩ : ∃ bq_, ((decide (((List.length (ps) : Int)) ≤ 20)) && (decide (((List.length (ws) : Int)) ≤ 20))) = bq_ := ⟨_, rfl⟩
  obtain ⟨q2_1, Q2_1⟩ : ∃ bq_, (q1_1 && (decide (((List.length (l) : Int)) ≤ 60))) = bq_ := ⟨_, rfl⟩
  refine wp_region_steps0 NewT [SV.eq (.pointer (some ⟨g1, 0, none⟩)), SV.eq (pv), SV.eq (.int .i64 ((List.length (ps) : Int))), SV.eq (.bool (decide (((List.length (ps) : Int)) ≤ 20))), SV.eq (.bool (decide (((List.length (ps) : Int)) ≤ 20))), svIf (decide (((List.length (ps) : Int)) ≤ 20)) (SV.eq (.pointer (some ⟨g1, 1, none⟩))), svIf (decide (((List.length (ps) : Int)) ≤ 20)) (SV.eq (wv)), svIf (decide (((List.length (ps) : Int)) ≤ 20)) (SV.eq (.int .i64 ((List.length (ws) : Int)))), svIf (decide (((List.length (ps) : Int)) ≤ 20)) (SV.eq (.bool (decide (((List.length (ws) : Int)) ≤ 20)))), SV.eq (.bool (q1_1)), SV.eq (.bool (q1_1)), svIf q1_1 (SV.eq (u)), svIf q1_1 (SV.eq (.int .i64 ((List.length (l) : Int)))), svIf q1_1 (SV.eq (.bool (decide (((List.length (l) : Int)) ≤ 60)))), SV.eq (.bool (q2_1)), SV.eq (.bool (q2_1))] [([(2, none)], none), ([(5, some 0)], none), ([(6, some 1)], none), ([(7, some 2)], none), ([(8, some 3)], none), ([(2, none), (9, some 4)], some (9, true)), ([(10, some 5), (9, some 4)], some (9, true)), ([(11, some 6), (9, some 4)], some (9, true)), ([(12, some 7), (9, some 4)], some (9, true)), ([(9, some 4), (13, some 8)], none), ([(14, some 9)], none), ([(1, none), (15, some 10)], some (15, true)), ([(16, some 11), (15, some 10)], some (15, true)), ([(17, some 12), (15, some 10)], some (15, true)), ([(15, some 10), (18, some 13)], none), ([(19, some 14)], none)] 20 16 rfl rfl (by kernel_rfl) NewT.trans (NewT.refl _) (Nat.le_of_ble_eq_true rfl) ⟨?_, ?_, ?_, ?_, ?_, ?_, ?_, ?_, ?_, ?_, ?_, ?_, ?_, ?_, ?_, ?_, trivial⟩ ?_
  · exact fun a wx hT hF K hK => rely_wp rfl (opr_fldY0 rfl hF.1 (hK _ _ (NewT.refl _) rfl))
  · exact fun a wx hT hF K hK => rely_wp rfl (opr_ldHs (hT.row Rg1.out) (by decide) rfl rfl hF.1 (hK _ _ (NewT.refl _) rfl))
  · intro a wx hT hF K hK
    obtain ⟨f6, _⟩ := hF
    have f6 : a.tmps.getD 6 undef = pv := f6
    refine rely_wp rfl ?_
    exact opr_len_h rfl (by rw [eval_tmp, f6]; exact (hT.hs (HM.out.hs HPP.out))) (hK _ _ (NewT.refl _) rfl)
  · exact fun a wx hT hF K hK => rely_wp rfl (opr_cmp (b := decide (((List.length (ps) : Int)) ≤ 20)) (.inr (.inr (.inl ⟨rfl, rfl⟩))) Tryd.underlying3 rfl hF.1 rfl (hK _ _ (NewT.refl _) rfl))
  · exact fun a wx hT hF K hK => rely_wp rfl (opr_move (.inl rfl) (hK _ _ (NewT.refl _) hF.1))
  · exact fun a wx hT hF K hK => rely_if (rely_gt hF.2.1) (NewT.refl _) hK fun hE hK => opr_fldY1 rfl hF.1 (hK _ _ (NewT.refl _) rfl)
  · exact fun a wx hT hF K hK => rely_if (rely_gt hF.2.1) (NewT.refl _) hK fun hE hK => opr_ldHs (hT.row Rg1.out) (by decide) rfl rfl (hF.1 hE) (hK _ _ (NewT.refl _) rfl)
  · intro a wx hT hF K hK
    obtain ⟨f11, f9, _⟩ := hF
    have f11 : (decide (((List.length (ps) : Int)) ≤ 20)) = true → a.tmps.getD 11 undef = wv := f11
    have f9 : a.tmps.getD 9 undef = .bool (decide (((List.length (ps) : Int)) ≤ 20)) := f9
    refine rely_if (rely_gt f9) (NewT.refl _) hK (fun hE hK => ?_)
    exact opr_len_h rfl (by rw [eval_tmp, (f11 hE)]; exact (hT.hs (HM.out.hs HWW.out))) (hK _ _ (NewT.refl _) rfl)
  · exact fun a wx hT hF K hK => rely_if (rely_gt hF.2.1) (NewT.refl _) hK fun hE hK => opr_cmp (b := decide (((List.length (ws) : Int)) ≤ 20)) (.inr (.inr (.inl ⟨rfl, rfl⟩))) Tryd.underlying3 rfl (hF.1 hE) rfl (hK _ _ (NewT.refl _) rfl)
  · exact fun a wx hT hF K hK => rely_wp rfl (opr_pick_b rfl hF.1 (fun hb => hK _ _ (NewT.refl _) (pn_and1 Q1_1 (hF.2.1 hb) hb)) (fun hb => hK _ _ (NewT.refl _) (pn_and0 Q1_1 hb)))
  · exact fun a wx hT hF K hK => rely_wp rfl (opr_move (.inl rfl) (hK _ _ (NewT.refl _) hF.1))
  · exact fun a wx hT hF K hK => rely_if (rely_gt hF.2.1) (NewT.refl _) hK fun hE hK => opr_move (.inl rfl) (hK _ _ (NewT.refl _) hF.1)
  · intro a wx hT hF K hK
    obtain ⟨f16, f15, _⟩ := hF
    have f16 : q1_1 = true → a.tmps.getD 16 undef = u := f16
    have f15 : a.tmps.getD 15 undef = .bool (q1_1) := f15
    refine rely_if (rely_gt f15) (NewT.refl _) hK (fun hE hK => ?_)
    exact opr_lenL rfl actEl (by rw [eval_tmp, (f16 hE)]; exact ((HU.out.new HM.out).new hT)) (hK _ _ (NewT.refl _) rfl)
  · exact fun a wx hT hF K hK => rely_if (rely_gt hF.2.1) (NewT.refl _) hK fun hE hK => opr_cmp (b := decide (((List.length (l) : Int)) ≤ 60)) (.inr (.inr (.inl ⟨rfl, rfl⟩))) Tryd.underlying3 rfl (hF.1 hE) rfl (hK _ _ (NewT.refl _) rfl)
  · exact fun a wx hT hF K hK => rely_wp rfl (opr_pick_b rfl hF.1 (fun hb => hK _ _ (NewT.refl _) (pn_and1 Q2_1 (hF.2.1 hb) hb)) (fun hb => hK _ _ (NewT.refl _) (pn_and0 Q2_1 hb)))
  · exact fun a wx hT hF K hK => rely_wp rfl (opr_move (.inr rfl) (hK _ _ (NewT.refl _) hF.1))
  · intro w1 k1
    iterate 5 (intro u h; obtain rfl := Eq.symm (h (by simp)); clear h)
    iterate 4 (intro _ _)
    iterate 2 (intro u h; obtain rfl := Eq.symm (h (by simp)); clear h)
    iterate 3 (intro _ _)
    iterate 2 (intro u h; obtain rfl := Eq.symm (h (by simp)); clear h)
    subst Q2_1 Q1_1
    refine relyEnd_nil rfl ?_
    refine wpList_end rfl ?_
    simp only [Act.put, List.setIfInBounds_toArray, List.set_cons_zero, List.set_cons_succ]
    go_simp
    replace Rg1 := Lib.hid (k1.row Rg1.out)
    replace HM := Lib.hid (NewT.trans _ _ _ HM.out k1)
    clear k1
    go_wp2
    go_ret
    exact ⟨_, rfl, HM.out, rfl⟩
end Go.Proofs.YtchpmdcacpjojaaDoor
/- The laws' question whether package part answers as the document's example: alive. -/
namespace Go.Proofs.YtchpmdcacpjojaaDoor
open Go Go.RowKit
set_option maxRecDepth 8000
set_option linter.all false
def exC : Cl := ⟨0, 0, 1, false, 1, 1, false, false, 0, z32⟩
def exD : Cl := ⟨0, 0, 1, false, 0, 1, false, false, 0, z32⟩
def exE0 : En := ⟨0, 0, false, true⟩
theorem bld_exC (w : World) : (Instr.build 34 #[(4, .int .i64 1), (5, .int .i64 1), (2, .int .i64 1)]).run Tryd.prog w = .ok (.agg (rowA 41 (clF exC))) w := by kernel_rfl
theorem bld_exD (w : World) : (Instr.build 34 #[(4, .int .i64 0), (5, .int .i64 1), (2, .int .i64 1)]).run Tryd.prog w = .ok (.agg (rowA 41 (clF exD))) w := by kernel_rfl
theorem ex_its : itsB 1 exC = true := by decide
theorem ex_no : itsB 1 exD = false := by decide
theorem ex_t1 (kf : Hs → List Int → Hs) (ps ws : List Hs) (need : Int) : takeC kf ps ws need 1 0 [] exC false = ansC kf ps ws need 0 exC true := by unfold takeC; rw [if_pos ex_its]; rfl
theorem ex_t2 (kf : Hs → List Int → Hs) (ps ws : List Hs) (need : Int) : takeC kf ps ws need 1 0 [exE0] exC true = ansC kf ps ws need 0 exC true := by unfold takeC; rw [if_pos ex_its]; rfl
theorem ex_t3 (kf : Hs → List Int → Hs) (ps ws : List Hs) (need : Int) : takeC kf ps ws need 1 0 [exE0] exD false = zC := by unfold takeC; rw [ex_no]; rfl
theorem ex_l1 : takeL 1 [] exC false = [exE0] := by unfold takeL; rw [if_pos ex_its]; rfl
theorem ex_l2 : takeL 1 [exE0] exC true = [exE0] := by unfold takeL; rw [if_pos ex_its]; rfl
theorem ex_l3 : takeL 1 [exE0] exD false = [exE0] := by unfold takeL; rw [ex_no]; rfl
theorem JL.ent {ic ia is p : Nat} {W : World} {t m : Nat} {G : Nat → Value} {li : Array Bool} {a : Act} {w : World} {lo hi g : Nat} {n e e2 : Int} {ps ws : List Hs} {need : Int} {L : List En} (h : JL ic ia is p (fun w => PartAt w lo hi g n e ps ws need L) (fun w => PartAt w lo hi g n e2 ps ws need L) W t m G li a w) : ∃ e', PartAt w lo hi g n e' ps ws need L := by
  cases hc : li.getD ic false with
  | false => exact ⟨_, h.pre hc⟩
  | true => exact ⟨_, h.post hc⟩
set_option maxHeartbeats 4000000 in
theorem alive13_any {kf : Hs → List Int → Hs} {tg : Hs → Hs → Hs} {pf : Int → Hs → Hs} (hX : KeyH kf tg pf) (w : World) (hT : Tables w) : Cv 9 #[] w (.eq (.bool true)) := by
  unfold Cv
  have HTT := Lib.hid hT
  have hfew := Few_cv
  have h1 : hasB [oneH 1, oneH 2] [oneH 3, oneH 4, oneH 5] 2 1 0 = true := by decide
  have h2 : hasB [oneH 1, oneH 2] [oneH 3, oneH 4, oneH 5] 2 2 0 = false := by decide
  obtain ⟨ps, hps⟩ : ∃ x, x = [oneH 1, oneH 2] := ⟨_, rfl⟩
  obtain ⟨ws, hws⟩ : ∃ x, x = [oneH 3, oneH 4, oneH 5] := ⟨_, rfl⟩
  rw [← hps, ← hws] at hfew h1 h2
  have HFEW := Lib.hid hfew
  have HK1 := Lib.hid h1
  have HK2 := Lib.hid h2
  have HH1 : Hid (holdsB kf ps ws 2 (recC (ansC kf ps ws 2 0 exC true) 2) = true) := Lib.hid (holds_ans ex_its h1 (by decide) (by decide))
  clear hT hfew h1 h2 hps hws
  go_enter Tryd.func9, Tryd.ntmps9
  have HM := Lib.hid (NewT.refl w)
  go_upto_region 1 with fail
  go_upto_region 1 with fail
  refine wp_region_steps0 NewT [svKeys ps ws 2] [([], none)] 78 1 rfl rfl (by kernel_rfl) NewT.trans (NewT.refl _) (Nat.le_of_ble_eq_true rfl) ⟨?_, trivial⟩ ?_
  · exact fun a wx hT hF K hK => rely_wp rfl (opr_cv (HFEW.out wx) rfl Tryd.func23 (by kernel_rfl) (by kernel_rfl) evs0 hK)
  · intro w1 k1
    intro u10 h; have g10 := h (by simp); clear h; replace g10 := show (svKeys ps ws 2).pred u10 w1 from g10
    refine relyEnd_nil rfl ?_
    simp only [Act.put, List.setIfInBounds_toArray, List.set_cons_zero, List.set_cons_succ]
    obtain ⟨pv, wv, hv10, hpv, hwv⟩ := g10
    subst hv10
    refine wpList_new (n := 3) (f := keyF pv wv 2) rfl rfl rfl rfl rfl rfl (by first | (simp; done) | simp [Act.put]) run_alloc_ky info_ky (keyF_one hpv hwv) rfl ?_
    intro W1 hn1 rr1
    refine wpList_end rfl ?_
    simp only [Act.put, List.setIfInBounds_toArray, List.set_cons_zero, List.set_cons_succ]
    go_simp
    have HP := Lib.hid (hn1.hs hpv)
    have HW := Lib.hid (hn1.hs hwv)
    have HBW := Lib.hid (NewT.trans _ _ _ HM.out (NewT.trans _ _ _ k1 hn1))
    clear hpv hwv
    obtain ⟨gk, h_gk⟩ : ∃ g_, w1.heap.size = g_ := ⟨_, rfl⟩
    rw [h_gk] at rr1
    simp only [h_gk]
    have HGgk : Hid (w.heap.size ≤ gk) := Lib.hid (by rw [← h_gk]; exact (NewT.trans _ _ _ HM.out k1).out.size)
    have q1 := NewT.trans _ _ _ k1 hn1
    clear k1 hn1 h_gk
    replace HM := Lib.hid (NewT.trans _ _ _ HM.out q1)
    clear q1
    have Rgk := Lib.hid rr1
    clear rr1
    replace HTT := Lib.hid (HBW.out.tables HTT.out)
    replace HM := Lib.hid (NewT.refl W1)
    have HGK : Hid (gk < W1.heap.size ∧ 2 ≤ W1.heap.size) := Lib.hid ⟨Rgk.out.lt, HTT.out.size⟩
    clear HGgk
    go_upto_region 2 with fail
    refine wp_region_steps0 NewT [SV.eq (.agg (rowA 3 (keyF pv wv 2))), svPart W1.heap.size 1 ps ws 2, svPart W1.heap.size 1 ps ws 2] [([(1, none)], none), ([(11, some 0)], none), ([(12, some 1)], none)] 78 3 rfl rfl (by kernel_rfl) NewT.trans (NewT.refl _) (Nat.le_of_ble_eq_true rfl) ⟨?_, ?_, ?_, trivial⟩ ?_
    · exact fun a wx hT hF K hK => rely_wp rfl (opr_ldY (hT.row Rgk.out) rfl hF.1 (hK _ _ (NewT.refl _) rfl))
    · exact fun a wx hT hF K hK => rely_wp rfl (opr_cv (New_yes W1.heap.size _ ps ws 2 1 wx (NewT.trans _ _ _ HM.out hT).out.size (⟨pv, wv, rfl, (NewT.trans _ _ _ HM.out hT).hs HP.out, (NewT.trans _ _ _ HM.out hT).hs HW.out⟩ : KeysV wx (.agg (rowA 3 (keyF pv wv 2))) ps ws 2) HK1.out) rfl Tryd.func11 (by kernel_rfl) (by kernel_rfl) (evs2 hF.1 rfl) hK)
    · exact fun a wx hT hF K hK => rely_wp rfl (opr_move (.inr rfl) (hK _ _ (NewT.refl _) hF.1))
    · intro w2 k2
      intro u h; obtain rfl := Eq.symm (h (by simp)); clear h
      intro _ _
      intro u2 h; have g2 := h (by simp); clear h; replace g2 := show (svPart W1.heap.size 1 ps ws 2).pred u2 w2 from g2
      refine relyEnd_nil rfl ?_
      refine wpList_end rfl ?_
      simp only [Act.put, List.setIfInBounds_toArray, List.set_cons_zero, List.set_cons_succ]
      go_simp
      obtain ⟨gp, hi, hv2, hPA⟩ := g2
      subst hv2
      obtain ⟨lo, hlo⟩ : ∃ x, W1.heap.size = x := ⟨_, rfl⟩
      have HLO : Hid (2 ≤ lo ∧ gk < lo ∧ lo ≤ hi ∧ W1.heap.size = lo) := Lib.hid (by have h1 := HGK.out; have h2 := hPA.lt; omega)
      rw [hlo] at hPA
      have HPA := Lib.hid hPA
      clear hPA hlo
      replace Rgk := Lib.hid (k2.row Rgk.out)
      replace HM := Lib.hid (NewT.trans _ _ _ HM.out k2)
      clear k2
      go_upto_region 3 with fail
      refine wp_region_steps0 NewT [SV.eq (.agg (rowA 41 (clF exC)))] [([], none)] 78 1 rfl rfl (by kernel_rfl) NewT.trans (NewT.refl _) (Nat.le_of_ble_eq_true rfl) ⟨?_, trivial⟩ ?_
      · intro a wx hT hF K hK
        refine rely_wp rfl ?_
        exact opr_build (pv := #[(4, .int .i64 (1)), (5, .int .i64 (1)), (2, .int .i64 (1))]) rfl (by simp only [List.map_toArray, List.map_cons, List.map_nil, eval_tmp, eval_const]) (bld_exC wx) (hK _ _ (NewT.refl _) rfl)
      · intro w3 k3
        intro u h; obtain rfl := Eq.symm (h (by simp)); clear h
        refine relyEnd_nil rfl ?_
        simp only [Act.put, List.setIfInBounds_toArray, List.set_cons_zero, List.set_cons_succ]
        refine wpList_new (n := 41) (f := clF exC) rfl rfl rfl rfl rfl rfl (by first | (simp; done) | simp [Act.put]) run_alloc_cl info_cl (clF_one _) rfl ?_
        intro W3 hn3 rr3
        refine wpList_end rfl ?_
        simp only [Act.put, List.setIfInBounds_toArray, List.set_cons_zero, List.set_cons_succ]
        go_simp
        obtain ⟨gc, h_gc⟩ : ∃ g_, w3.heap.size = g_ := ⟨_, rfl⟩
        rw [h_gc] at rr3
        simp only [h_gc]
        have HGgc : Hid (gk < gc ∧ hi ≤ gc ∧ W1.heap.size ≤ gc) := Lib.hid (by rw [← h_gc]; exact ⟨(k3.row Rgk.out).lt, Nat.le_trans HPA.out.lt.2.2 k3.out.size, (NewT.trans _ _ _ HM.out k3).out.size⟩)
        have q3 := NewT.trans _ _ _ k3 hn3
        clear k3 hn3 h_gc
        replace Rgk := Lib.hid (q3.row Rgk.out)
        replace HPA := Lib.hid (HPA.out.new q3)
        replace HM := Lib.hid (NewT.trans _ _ _ HM.out q3)
        clear q3
        have Rgc := Lib.hid rr3
        clear rr3
        have HLL : Hid (([exE0] : List En).length ≤ 1000000 ∧ ([] : List En).length ≤ 1000000) := Lib.hid (by decide)
        go_upto_region 4 with fail
        refine wp_region_lit ?_
        refine wpList_plain rfl (fun K hK => ?_)
        refine opr_move (.inl rfl) (hK _ _ ?_)
        clear hK K
        simp only [Act.put, List.setIfInBounds_toArray, List.set_cons_zero, List.set_cons_succ]
        refine wpList_plain rfl (fun K hK => ?_)
        refine opr_ldCl Rgc.out rfl rfl (hK _ _ ?_)
        clear hK K
        simp only [Act.put, List.setIfInBounds_toArray, List.set_cons_zero, List.set_cons_succ]
        refine wpList_plain rfl (fun K hK => ?_)
        refine opr_call rfl Tryd.func13 (by kernel_rfl) (by kernel_rfl) (vs := #[.pointer (some ⟨gp, 0, none⟩), .agg (rowA 41 (clF exC)), .bool false]) (by simp only [List.map_toArray, List.map_cons, List.map_nil]; rfl) ((Take_k hX W3 (HM.out.tables HTT.out) HLO.out.1 HPA.out ex_its (ex_t1 kf ps ws 2) ex_l1).mono ?_)
        rintro ex wt4 ⟨rfl, hP4, hA4⟩
        refine ⟨_, rfl, hK _ _ ?_⟩
        clear hK K
        replace Rgk := Lib.hid (hP4.row Rgk.out (by have h_0 := HGK.out; have h_1 := HLO.out; have h_2 := HGgc.out; omega))
        replace Rgc := Lib.hid (hP4.row Rgc.out (by have h_0 := HGK.out; have h_1 := HLO.out; have h_2 := HGgc.out; omega))
        replace HM := Lib.hid (NewT.of (HM.out.out.trans (hP4.below.mono (by have h_0 := HGK.out; have h_1 := HLO.out; have h_2 := HGgc.out; omega))))
        replace HPA := Lib.hid hA4
        clear hP4 hA4
        simp only [Act.put, List.setIfInBounds_toArray, List.set_cons_zero, List.set_cons_succ]
        refine wpList_plain rfl (fun K hK => ?_)
        refine opr_move (.inl rfl) (hK _ _ ?_)
        clear hK K
        simp only [Act.put, List.setIfInBounds_toArray, List.set_cons_zero, List.set_cons_succ]
        refine wpList_plain rfl (fun K hK => ?_)
        refine opr_ext rfl rfl rfl (hK _ _ ?_)
        clear hK K
        simp only [Act.put, List.setIfInBounds_toArray, List.set_cons_zero, List.set_cons_succ]
        refine wpList_plain rfl (fun K hK => ?_)
        refine opr_ext rfl rfl rfl (hK _ _ ?_)
        clear hK K
        simp only [Act.put, List.setIfInBounds_toArray, List.set_cons_zero, List.set_cons_succ]
        refine wpList_new (n := 41) (f := clF ((ansC kf ps ws 2 0 exC true))) rfl rfl rfl rfl rfl rfl (by first | (simp; done) | simp [Act.put]) run_alloc_cl info_cl (clF_one _) rfl ?_
        intro W4 hn4 rr4
        simp only [Act.put, List.setIfInBounds_toArray, List.set_cons_zero, List.set_cons_succ]
        refine wpList_plain rfl (fun K hK => ?_)
        refine opr_move (.inr rfl) (hK _ _ ?_)
        clear hK K
        simp only [Act.put, List.setIfInBounds_toArray, List.set_cons_zero, List.set_cons_succ]
        refine wpList_end rfl ?_
        go_simp
        obtain ⟨ga, h_ga⟩ : ∃ g_, wt4.heap.size = g_ := ⟨_, rfl⟩
        rw [h_ga] at rr4
        simp only [h_ga]
        have HGga : Hid (gk < ga ∧ gc < ga ∧ hi ≤ ga ∧ W1.heap.size ≤ ga) := Lib.hid (by rw [← h_ga]; exact ⟨Rgk.out.lt, Rgc.out.lt, HPA.out.lt.2.2, HM.out.out.size⟩)
        clear h_ga
        replace Rgk := Lib.hid (hn4.row Rgk.out)
        replace Rgc := Lib.hid (hn4.row Rgc.out)
        replace HPA := Lib.hid (HPA.out.new hn4)
        replace HM := Lib.hid (NewT.trans _ _ _ HM.out hn4)
        clear hn4
        have Rga := Lib.hid rr4
        clear rr4
        go_upto_region 5 with fail
        refine wp_region_lit ?_
        refine wpList_plain rfl (fun K hK => ?_)
        refine opr_move (.inl rfl) (hK _ _ ?_)
        clear hK K
        simp only [Act.put, List.setIfInBounds_toArray, List.set_cons_zero, List.set_cons_succ]
        refine wpList_plain rfl (fun K hK => ?_)
        refine opr_ldCl Rgc.out rfl rfl (hK _ _ ?_)
        clear hK K
        simp only [Act.put, List.setIfInBounds_toArray, List.set_cons_zero, List.set_cons_succ]
        refine wpList_plain rfl (fun K hK => ?_)
        refine opr_call rfl Tryd.func13 (by kernel_rfl) (by kernel_rfl) (vs := #[.pointer (some ⟨gp, 0, none⟩), .agg (rowA 41 (clF exC)), .bool true]) (by simp only [List.map_toArray, List.map_cons, List.map_nil]; rfl) ((Take_k hX W4 (HM.out.tables HTT.out) HLO.out.1 HPA.out ex_its (ex_t2 kf ps ws 2) ex_l2).mono ?_)
        rintro ex wt5 ⟨rfl, hP5, hA5⟩
        refine ⟨_, rfl, hK _ _ ?_⟩
        clear hK K
        replace Rgk := Lib.hid (hP5.row Rgk.out (by have h_0 := HGK.out; have h_1 := HLO.out; have h_2 := HGgc.out; have h_3 := HGga.out; omega))
        replace Rgc := Lib.hid (hP5.row Rgc.out (by have h_0 := HGK.out; have h_1 := HLO.out; have h_2 := HGgc.out; have h_3 := HGga.out; omega))
        replace Rga := Lib.hid (hP5.row Rga.out (by have h_0 := HGK.out; have h_1 := HLO.out; have h_2 := HGgc.out; have h_3 := HGga.out; omega))
        replace HM := Lib.hid (NewT.of (HM.out.out.trans (hP5.below.mono (by have h_0 := HGK.out; have h_1 := HLO.out; have h_2 := HGgc.out; have h_3 := HGga.out; omega))))
        replace HPA := Lib.hid hA5
        clear hP5 hA5
        simp only [Act.put, List.setIfInBounds_toArray, List.set_cons_zero, List.set_cons_succ]
        refine wpList_plain rfl (fun K hK => ?_)
        refine opr_move (.inl rfl) (hK _ _ ?_)
        clear hK K
        simp only [Act.put, List.setIfInBounds_toArray, List.set_cons_zero, List.set_cons_succ]
        refine wpList_plain rfl (fun K hK => ?_)
        refine opr_ext rfl rfl rfl (hK _ _ ?_)
        clear hK K
        simp only [Act.put, List.setIfInBounds_toArray, List.set_cons_zero, List.set_cons_succ]
        refine wpList_plain rfl (fun K hK => ?_)
        refine opr_ext rfl rfl rfl (hK _ _ ?_)
        clear hK K
        simp only [Act.put, List.setIfInBounds_toArray, List.set_cons_zero, List.set_cons_succ]
        refine wpList_new (n := 41) (f := clF ((ansC kf ps ws 2 0 exC true))) rfl rfl rfl rfl rfl rfl (by first | (simp; done) | simp [Act.put]) run_alloc_cl info_cl (clF_one _) rfl ?_
        intro W5 hn5 rr5
        simp only [Act.put, List.setIfInBounds_toArray, List.set_cons_zero, List.set_cons_succ]
        refine wpList_plain rfl (fun K hK => ?_)
        refine opr_move (.inr rfl) (hK _ _ ?_)
        clear hK K
        simp only [Act.put, List.setIfInBounds_toArray, List.set_cons_zero, List.set_cons_succ]
        refine wpList_end rfl ?_
        go_simp
        obtain ⟨gb, h_gb⟩ : ∃ g_, wt5.heap.size = g_ := ⟨_, rfl⟩
        rw [h_gb] at rr5
        simp only [h_gb]
        have HGgb : Hid (gk < gb ∧ gc < gb ∧ ga < gb ∧ hi ≤ gb ∧ W1.heap.size ≤ gb) := Lib.hid (by rw [← h_gb]; exact ⟨Rgk.out.lt, Rgc.out.lt, Rga.out.lt, HPA.out.lt.2.2, HM.out.out.size⟩)
        clear h_gb
        replace Rgk := Lib.hid (hn5.row Rgk.out)
        replace Rgc := Lib.hid (hn5.row Rgc.out)
        replace Rga := Lib.hid (hn5.row Rga.out)
        replace HPA := Lib.hid (HPA.out.new hn5)
        replace HM := Lib.hid (NewT.trans _ _ _ HM.out hn5)
        clear hn5
        have Rgb := Lib.hid rr5
        clear rr5
        go_upto_region 6 with fail
        refine wp_region_lit ?_
        refine wpList_plain rfl (fun K hK => ?_)
        refine opr_move (.inl rfl) (hK _ _ ?_)
        clear hK K
        simp only [Act.put, List.setIfInBounds_toArray, List.set_cons_zero, List.set_cons_succ]
        refine wpList_plain rfl (fun K hK => ?_)
        refine opr_build (pv := #[(4, .int .i64 0), (5, .int .i64 1), (2, .int .i64 1)]) rfl (by simp only [List.map_toArray, List.map_cons, List.map_nil, eval_const]) (bld_exD _) (hK _ _ ?_)
        clear hK K
        simp only [Act.put, List.setIfInBounds_toArray, List.set_cons_zero, List.set_cons_succ]
        refine wpList_plain rfl (fun K hK => ?_)
        refine opr_call rfl Tryd.func13 (by kernel_rfl) (by kernel_rfl) (vs := #[.pointer (some ⟨gp, 0, none⟩), .agg (rowA 41 (clF exD)), .bool false]) (by simp only [List.map_toArray, List.map_cons, List.map_nil]; rfl) ((Take_k hX W5 (HM.out.tables HTT.out) HLO.out.1 HPA.out ex_no (ex_t3 kf ps ws 2) ex_l3).mono ?_)
        rintro ex wt6 ⟨rfl, hP6, hA6⟩
        refine ⟨_, rfl, hK _ _ ?_⟩
        clear hK K
        replace Rgk := Lib.hid (hP6.row Rgk.out (by have h_0 := HGK.out; have h_1 := HLO.out; have h_2 := HGgc.out; have h_3 := HGga.out; have h_4 := HGgb.out; omega))
        replace Rgc := Lib.hid (hP6.row Rgc.out (by have h_0 := HGK.out; have h_1 := HLO.out; have h_2 := HGgc.out; have h_3 := HGga.out; have h_4 := HGgb.out; omega))
        replace Rga := Lib.hid (hP6.row Rga.out (by have h_0 := HGK.out; have h_1 := HLO.out; have h_2 := HGgc.out; have h_3 := HGga.out; have h_4 := HGgb.out; omega))
        replace Rgb := Lib.hid (hP6.row Rgb.out (by have h_0 := HGK.out; have h_1 := HLO.out; have h_2 := HGgc.out; have h_3 := HGga.out; have h_4 := HGgb.out; omega))
        replace HM := Lib.hid (NewT.of (HM.out.out.trans (hP6.below.mono (by have h_0 := HGK.out; have h_1 := HLO.out; have h_2 := HGgc.out; have h_3 := HGga.out; have h_4 := HGgb.out; omega))))
        replace HPA := Lib.hid hA6
        clear hP6 hA6
        simp only [Act.put, List.setIfInBounds_toArray, List.set_cons_zero, List.set_cons_succ]
        refine wpList_plain rfl (fun K hK => ?_)
        refine opr_move (.inl rfl) (hK _ _ ?_)
        clear hK K
        simp only [Act.put, List.setIfInBounds_toArray, List.set_cons_zero, List.set_cons_succ]
        refine wpList_plain rfl (fun K hK => ?_)
        refine opr_ext rfl rfl rfl (hK _ _ ?_)
        clear hK K
        simp only [Act.put, List.setIfInBounds_toArray, List.set_cons_zero, List.set_cons_succ]
        refine wpList_plain rfl (fun K hK => ?_)
        refine opr_ext rfl rfl rfl (hK _ _ ?_)
        clear hK K
        simp only [Act.put, List.setIfInBounds_toArray, List.set_cons_zero, List.set_cons_succ]
        refine wpList_new (n := 41) (f := clF zC) rfl rfl rfl rfl rfl rfl (by first | (simp; done) | simp [Act.put]) run_alloc_cl info_cl (clF_one _) rfl ?_
        intro W6 hn6 rr6
        simp only [Act.put, List.setIfInBounds_toArray, List.set_cons_zero, List.set_cons_succ]
        refine wpList_plain rfl (fun K hK => ?_)
        refine opr_move (.inr rfl) (hK _ _ ?_)
        clear hK K
        simp only [Act.put, List.setIfInBounds_toArray, List.set_cons_zero, List.set_cons_succ]
        refine wpList_end rfl ?_
        go_simp
        obtain ⟨gz, h_gz⟩ : ∃ g_, wt6.heap.size = g_ := ⟨_, rfl⟩
        rw [h_gz] at rr6
        simp only [h_gz]
        have HGgz : Hid (gk < gz ∧ gc < gz ∧ ga < gz ∧ gb < gz ∧ hi ≤ gz ∧ W1.heap.size ≤ gz) := Lib.hid (by rw [← h_gz]; exact ⟨Rgk.out.lt, Rgc.out.lt, Rga.out.lt, Rgb.out.lt, HPA.out.lt.2.2, HM.out.out.size⟩)
        clear h_gz
        replace Rgk := Lib.hid (hn6.row Rgk.out)
        replace Rgc := Lib.hid (hn6.row Rgc.out)
        replace Rga := Lib.hid (hn6.row Rga.out)
        replace Rgb := Lib.hid (hn6.row Rgb.out)
        replace HPA := Lib.hid (HPA.out.new hn6)
        replace HM := Lib.hid (NewT.trans _ _ _ HM.out hn6)
        clear hn6
        have Rgz := Lib.hid rr6
        clear rr6
        have HSZ : Hid (lo ≤ W6.heap.size) := Lib.hid (by have h1 := HPA.out.lt; omega)
        have HPW : Hid (hi ≤ W6.heap.size) := Lib.hid HPA.out.lt.2.2
        go_upto_region 7 with fail
        refine wp_region_relyL (PW W6 lo hi) (JL 34 5001 5002 5000 (fun w => PartAt w lo hi gp 1 0 ps ws 2 [exE0]) (fun w => PartAt w lo hi gp 1 1 ps ws 2 [exE0]) W6 0 0 (fun _ => undef)) [SV.eq (.bool true), SV.eq (.bool true), SV.eq (.bool true), SV.eq (.bool true), SV.eq (.bool true), SV.eq (.bool false), SV.eq (.bool true), SV.eq (.bool true), SV.eq (.bool true), SV.eq (.pointer (some ⟨ga, 7, none⟩)), SV.eq (.bool true), SV.eq (.bool true), SV.eq (.bool true), SV.eq (.pointer (some ⟨gb, 7, none⟩)), SV.eq (.bool true), SV.eq (.bool true), SV.eq (.bool true), SV.eq (.pointer (some ⟨ga, 6, none⟩)), SV.eq (.bool true), SV.eq (.bool true), SV.eq (.bool true), SV.eq (.pointer (some ⟨gp, 0, none⟩)), svLen 1, SV.eq (.int .i64 (1)), SV.eq (.bool true), SV.eq (.bool true), SV.eq (.bool true), SV.eq (.agg (rowA 3 (keyF pv wv 2))), SV.eq (.agg (rowA 41 (clF ((ansC kf ps ws 2 0 exC true))))), svRecP (recC (ansC kf ps ws 2 0 exC true) 2) (recC_nil _ _), SV.eq (.bool true), SV.eq (.bool true), SV.eq (.bool true), SV.eq (.pointer (some ⟨gp, 0, none⟩)), SV.eq (.bool true), SV.eq (.bool true), SV.eq (.bool true), SV.eq (.pointer (some ⟨gp, 0, none⟩)), SV.eq (.int .i64 (1)), SV.eq (.bool true), SV.eq (.bool true), SV.eq (.bool true), SV.eq (.agg (rowA 3 (keyF pv wv 2))), SV.eq (.pointer none), SV.eq (.bool true), SV.eq (.bool true)] [([(5, none)], none), ([(32, some 0)], none), ([(7, none), (33, some 1)], some (33, true)), ([(33, some 1), (34, some 2)], none), ([(35, some 3)], none), ([(9, none), (36, some 4)], some (36, true)), ([(37, some 5), (36, some 4)], some (36, true)), ([(36, some 4), (38, some 6)], none), ([(39, some 7)], none), ([(4, none), (40, some 8)], some (40, true)), ([(41, some 9), (40, some 8)], some (40, true)), ([(40, some 8), (42, some 10)], none), ([(43, some 11)], none), ([(6, none), (44, some 12)], some (44, true)), ([(45, some 13), (44, some 12)], some (44, true)), ([(44, some 12), (46, some 14)], none), ([(47, some 15)], none), ([(4, none), (48, some 16)], some (48, true)), ([(49, some 17), (48, some 16)], some (48, true)), ([(48, some 16), (50, some 18)], none), ([(51, some 19)], none), ([(2, none), (52, some 20)], some (52, true)), ([(53, some 21), (52, some 20)], some (52, true)), ([(54, some 22), (52, some 20)], some (52, true)), ([(55, some 23), (52, some 20)], some (52, true)), ([(52, some 20), (56, some 24)], none), ([(57, some 25)], none), ([(1, none), (58, some 26)], some (58, true)), ([(4, none), (58, some 26)], some (58, true)), ([(60, some 28), (58, some 26)], some (58, true)), ([(59, some 27), (61, some 29), (58, some 26)], some (58, true)), ([(58, some 26), (62, some 30)], none), ([(63, some 31)], none), ([(2, none), (64, some 32)], some (64, true)), ([(65, some 33), (64, some 32)], some (64, true)), ([(64, some 32), (66, some 34)], none), ([(67, some 35)], none), ([(2, none), (68, some 36)], some (68, true)), ([(69, some 37), (68, some 36)], some (68, true)), ([(70, some 38), (68, some 36)], some (68, true)), ([(68, some 36), (71, some 39)], none), ([(72, some 40)], none), ([(1, none), (73, some 41)], some (73, true)), ([(74, some 42), (73, some 41)], some (73, true)), ([(75, some 43), (73, some 41)], some (73, true)), ([(73, some 41), (76, some 44)], none)] 78 rfl (by kernel_rfl) rfl (by kernel_rfl) (by kernel_rfl) rfl PW.trans (PW.drew _) (JL.start (HPA.out.drew) _) (Nat.le_of_ble_eq_true rfl) ⟨?_, ?_, ?_, ?_, ?_, ?_, ?_, ?_, ?_, ?_, ?_, ?_, ?_, ?_, ?_, ?_, ?_, ?_, ?_, ?_, ?_, ?_, ?_, ?_, ?_, ?_, ?_, ?_, ?_, ?_, ?_, ?_, ?_, ?_, ?_, ?_, ?_, ?_, ?_, ?_, ?_, ?_, ?_, ?_, ?_, ?_, trivial⟩ ?_
        · exact fun a wx li hT hF hJ hx K hK => have hK := fun v w' (hN : NewT wx w') hv => hK v w' (PW.new hT hN HSZ.out) (JL.new hJ (by decide) (by simp) hN (fun h => PartAt.new h hN) (fun h => PartAt.new h hN)) hv; rely_wp rfl (opr_move (.inl rfl) (hK _ _ (NewT.refl _) hF.1))
        · exact fun a wx li hT hF hJ hx K hK => have hK := fun v w' (hN : NewT wx w') hv => hK v w' (PW.new hT hN HSZ.out) (JL.new hJ (by decide) (by simp) hN (fun h => PartAt.new h hN) (fun h => PartAt.new h hN)) hv; rely_wp rfl (opr_move (.inl rfl) (hK _ _ (NewT.refl _) hF.1))
        · exact fun a wx li hT hF hJ hx K hK => have hK := fun v w' (hN : NewT wx w') hv => hK v w' (PW.new hT hN HSZ.out) (JL.new hJ (by decide) (by simp) hN (fun h => PartAt.new h hN) (fun h => PartAt.new h hN)) hv; rely_wp (rely_guard hF.2.1) (opr_move (.inl rfl) (hK _ _ (NewT.refl _) hF.1))
        · exact fun a wx li hT hF hJ hx K hK => have hK := fun v w' (hN : NewT wx w') hv => hK v w' (PW.new hT hN HSZ.out) (JL.new hJ (by decide) (by simp) hN (fun h => PartAt.new h hN) (fun h => PartAt.new h hN)) hv; rely_wp rfl (opr_pick_true rfl hF.1 (hK _ _ (NewT.refl _) hF.2.1))
        · exact fun a wx li hT hF hJ hx K hK => have hK := fun v w' (hN : NewT wx w') hv => hK v w' (PW.new hT hN HSZ.out) (JL.new hJ (by decide) (by simp) hN (fun h => PartAt.new h hN) (fun h => PartAt.new h hN)) hv; rely_wp rfl (opr_move (.inl rfl) (hK _ _ (NewT.refl _) hF.1))
        · exact fun a wx li hT hF hJ hx K hK => have hK := fun v w' (hN : NewT wx w') hv => hK v w' (PW.new hT hN HSZ.out) (JL.new hJ (by decide) (by simp) hN (fun h => PartAt.new h hN) (fun h => PartAt.new h hN)) hv; rely_wp (rely_guard hF.2.1) (opr_move (.inl rfl) (hK _ _ (NewT.refl _) hF.1))
        · exact fun a wx li hT hF hJ hx K hK => have hK := fun v w' (hN : NewT wx w') hv => hK v w' (PW.new hT hN HSZ.out) (JL.new hJ (by decide) (by simp) hN (fun h => PartAt.new h hN) (fun h => PartAt.new h hN)) hv; rely_wp (rely_guard hF.2.1) (opr_not rfl hF.1 (hK _ _ (NewT.refl _) rfl))
        · exact fun a wx li hT hF hJ hx K hK => have hK := fun v w' (hN : NewT wx w') hv => hK v w' (PW.new hT hN HSZ.out) (JL.new hJ (by decide) (by simp) hN (fun h => PartAt.new h hN) (fun h => PartAt.new h hN)) hv; rely_wp rfl (opr_pick_true rfl hF.1 (hK _ _ (NewT.refl _) hF.2.1))
        · exact fun a wx li hT hF hJ hx K hK => have hK := fun v w' (hN : NewT wx w') hv => hK v w' (PW.new hT hN HSZ.out) (JL.new hJ (by decide) (by simp) hN (fun h => PartAt.new h hN) (fun h => PartAt.new h hN)) hv; rely_wp rfl (opr_move (.inl rfl) (hK _ _ (NewT.refl _) hF.1))
        · exact fun a wx li hT hF hJ hx K hK => have hK := fun v w' (hN : NewT wx w') hv => hK v w' (PW.new hT hN HSZ.out) (JL.new hJ (by decide) (by simp) hN (fun h => PartAt.new h hN) (fun h => PartAt.new h hN)) hv; rely_wp (rely_guard hF.2.1) (opr_fldCl7 rfl hF.1 (hK _ _ (NewT.refl _) rfl))
        · exact fun a wx li hT hF hJ hx K hK => have hK := fun v w' (hN : NewT wx w') hv => hK v w' (PW.new hT hN HSZ.out) (JL.new hJ (by decide) (by simp) hN (fun h => PartAt.new h hN) (fun h => PartAt.new h hN)) hv; rely_wp (rely_guard hF.2.1) (opr_ldQ (hT.row Rga.out (by have h_0 := HGK.out; have h_1 := HLO.out; have h_2 := HGgc.out; have h_3 := HGga.out; have h_4 := HGgb.out; have h_5 := HGgz.out; omega)) (by decide) rfl rfl hF.1 (hK _ _ (NewT.refl _) rfl))
        · exact fun a wx li hT hF hJ hx K hK => have hK := fun v w' (hN : NewT wx w') hv => hK v w' (PW.new hT hN HSZ.out) (JL.new hJ (by decide) (by simp) hN (fun h => PartAt.new h hN) (fun h => PartAt.new h hN)) hv; rely_wp rfl (opr_pick_true rfl hF.1 (hK _ _ (NewT.refl _) hF.2.1))
        · exact fun a wx li hT hF hJ hx K hK => have hK := fun v w' (hN : NewT wx w') hv => hK v w' (PW.new hT hN HSZ.out) (JL.new hJ (by decide) (by simp) hN (fun h => PartAt.new h hN) (fun h => PartAt.new h hN)) hv; rely_wp rfl (opr_move (.inl rfl) (hK _ _ (NewT.refl _) hF.1))
        · exact fun a wx li hT hF hJ hx K hK => have hK := fun v w' (hN : NewT wx w') hv => hK v w' (PW.new hT hN HSZ.out) (JL.new hJ (by decide) (by simp) hN (fun h => PartAt.new h hN) (fun h => PartAt.new h hN)) hv; rely_wp (rely_guard hF.2.1) (opr_fldCl7 rfl hF.1 (hK _ _ (NewT.refl _) rfl))
        · exact fun a wx li hT hF hJ hx K hK => have hK := fun v w' (hN : NewT wx w') hv => hK v w' (PW.new hT hN HSZ.out) (JL.new hJ (by decide) (by simp) hN (fun h => PartAt.new h hN) (fun h => PartAt.new h hN)) hv; rely_wp (rely_guard hF.2.1) (opr_ldQ (hT.row Rgb.out (by have h_0 := HGK.out; have h_1 := HLO.out; have h_2 := HGgc.out; have h_3 := HGga.out; have h_4 := HGgb.out; have h_5 := HGgz.out; omega)) (by decide) rfl rfl hF.1 (hK _ _ (NewT.refl _) rfl))
        · exact fun a wx li hT hF hJ hx K hK => have hK := fun v w' (hN : NewT wx w') hv => hK v w' (PW.new hT hN HSZ.out) (JL.new hJ (by decide) (by simp) hN (fun h => PartAt.new h hN) (fun h => PartAt.new h hN)) hv; rely_wp rfl (opr_pick_true rfl hF.1 (hK _ _ (NewT.refl _) hF.2.1))
        · exact fun a wx li hT hF hJ hx K hK => have hK := fun v w' (hN : NewT wx w') hv => hK v w' (PW.new hT hN HSZ.out) (JL.new hJ (by decide) (by simp) hN (fun h => PartAt.new h hN) (fun h => PartAt.new h hN)) hv; rely_wp rfl (opr_move (.inl rfl) (hK _ _ (NewT.refl _) hF.1))
        · exact fun a wx li hT hF hJ hx K hK => have hK := fun v w' (hN : NewT wx w') hv => hK v w' (PW.new hT hN HSZ.out) (JL.new hJ (by decide) (by simp) hN (fun h => PartAt.new h hN) (fun h => PartAt.new h hN)) hv; rely_wp (rely_guard hF.2.1) (opr_fldCl6 rfl hF.1 (hK _ _ (NewT.refl _) rfl))
        · exact fun a wx li hT hF hJ hx K hK => have hK := fun v w' (hN : NewT wx w') hv => hK v w' (PW.new hT hN HSZ.out) (JL.new hJ (by decide) (by simp) hN (fun h => PartAt.new h hN) (fun h => PartAt.new h hN)) hv; rely_wp (rely_guard hF.2.1) (opr_ldQ (hT.row Rga.out (by have h_0 := HGK.out; have h_1 := HLO.out; have h_2 := HGgc.out; have h_3 := HGga.out; have h_4 := HGgb.out; have h_5 := HGgz.out; omega)) (by decide) rfl rfl hF.1 (hK _ _ (NewT.refl _) rfl))
        · exact fun a wx li hT hF hJ hx K hK => have hK := fun v w' (hN : NewT wx w') hv => hK v w' (PW.new hT hN HSZ.out) (JL.new hJ (by decide) (by simp) hN (fun h => PartAt.new h hN) (fun h => PartAt.new h hN)) hv; rely_wp rfl (opr_pick_true rfl hF.1 (hK _ _ (NewT.refl _) hF.2.1))
        · exact fun a wx li hT hF hJ hx K hK => have hK := fun v w' (hN : NewT wx w') hv => hK v w' (PW.new hT hN HSZ.out) (JL.new hJ (by decide) (by simp) hN (fun h => PartAt.new h hN) (fun h => PartAt.new h hN)) hv; rely_wp rfl (opr_move (.inl rfl) (hK _ _ (NewT.refl _) hF.1))
        · exact fun a wx li hT hF hJ hx K hK => have hK := fun v w' (hN : NewT wx w') hv => hK v w' (PW.new hT hN HSZ.out) (JL.new hJ (by decide) (by simp) hN (fun h => PartAt.new h hN) (fun h => PartAt.new h hN)) hv; rely_wp (rely_guard hF.2.1) (opr_move (.inl rfl) (hK _ _ (NewT.refl _) hF.1))
        · exact fun a wx li hT hF hJ hx K hK => have hK := fun v w' (hN : NewT wx w') hv => hK v w' (PW.new hT hN HSZ.out) (JL.new hJ (by decide) (by simp) hN (fun h => PartAt.new h hN) (fun h => PartAt.new h hN)) hv; rely_wp (rely_guard hF.2.1) (opr_cv ((JL.ent hJ).elim fun _ h => Entries_n wx h HLL.out.1) rfl Tryd.func16 (by kernel_rfl) (by kernel_rfl) (evs1 hF.1) hK)
        · intro a wx li hT hF hJ hx K hK
          replace hK := fun v w' (hN : NewT wx w') hv => hK v w' (PW.new hT hN HSZ.out) (JL.new hJ (by decide) (by simp) hN (fun h => PartAt.new h hN) (fun h => PartAt.new h hN)) hv
          obtain ⟨f54, f52, _⟩ := hF
          replace f54 := show (svLen 1).pred (a.tmps.getD 54 undef) wx from f54
          have f52 : a.tmps.getD 52 undef = .bool true := f52
          refine rely_wp (rely_guard f52) ?_
          obtain ⟨A1, c1, hv1⟩ := f54
          exact opr_len rfl Tryd.underlying38 hv1 (hK _ _ (NewT.refl _) rfl)
        · exact fun a wx li hT hF hJ hx K hK => have hK := fun v w' (hN : NewT wx w') hv => hK v w' (PW.new hT hN HSZ.out) (JL.new hJ (by decide) (by simp) hN (fun h => PartAt.new h hN) (fun h => PartAt.new h hN)) hv; rely_wp (rely_guard hF.2.1) (opr_cmp (b := true) (.inl ⟨rfl, (by rfl)⟩) Tryd.underlying3 rfl hF.1 rfl (hK _ _ (NewT.refl _) rfl))
        · exact fun a wx li hT hF hJ hx K hK => have hK := fun v w' (hN : NewT wx w') hv => hK v w' (PW.new hT hN HSZ.out) (JL.new hJ (by decide) (by simp) hN (fun h => PartAt.new h hN) (fun h => PartAt.new h hN)) hv; rely_wp rfl (opr_pick_true rfl hF.1 (hK _ _ (NewT.refl _) hF.2.1))
        · exact fun a wx li hT hF hJ hx K hK => have hK := fun v w' (hN : NewT wx w') hv => hK v w' (PW.new hT hN HSZ.out) (JL.new hJ (by decide) (by simp) hN (fun h => PartAt.new h hN) (fun h => PartAt.new h hN)) hv; rely_wp rfl (opr_move (.inl rfl) (hK _ _ (NewT.refl _) hF.1))
        · exact fun a wx li hT hF hJ hx K hK => have hK := fun v w' (hN : NewT wx w') hv => hK v w' (PW.new hT hN HSZ.out) (JL.new hJ (by decide) (by simp) hN (fun h => PartAt.new h hN) (fun h => PartAt.new h hN)) hv; rely_wp (rely_guard hF.2.1) (opr_ldY (hT.row Rgk.out (by have h_0 := HGK.out; have h_1 := HLO.out; have h_2 := HGgc.out; have h_3 := HGga.out; have h_4 := HGgb.out; have h_5 := HGgz.out; omega)) rfl hF.1 (hK _ _ (NewT.refl _) rfl))
        · exact fun a wx li hT hF hJ hx K hK => have hK := fun v w' (hN : NewT wx w') hv => hK v w' (PW.new hT hN HSZ.out) (JL.new hJ (by decide) (by simp) hN (fun h => PartAt.new h hN) (fun h => PartAt.new h hN)) hv; rely_wp (rely_guard hF.2.1) (opr_ldCl (hT.row Rga.out (by have h_0 := HGK.out; have h_1 := HLO.out; have h_2 := HGgc.out; have h_3 := HGga.out; have h_4 := HGgb.out; have h_5 := HGgz.out; omega)) rfl hF.1 (hK _ _ (NewT.refl _) rfl))
        · exact fun a wx li hT hF hJ hx K hK => have hK := fun v w' (hN : NewT wx w') hv => hK v w' (PW.new hT hN HSZ.out) (JL.new hJ (by decide) (by simp) hN (fun h => PartAt.new h hN) (fun h => PartAt.new h hN)) hv; rely_wp (rely_guard hF.2.1) (opr_cv (pReceipt_cv (ansC kf ps ws 2 0 exC true) 2 wx) rfl Tryd.func20 (by kernel_rfl) (by kernel_rfl) (evs2 hF.1 rfl) hK)
        · exact fun a wx li hT hF hJ hx K hK => have hK := fun v w' (hN : NewT wx w') hv => hK v w' (PW.new hT hN HSZ.out) (JL.new hJ (by decide) (by simp) hN (fun h => PartAt.new h hN) (fun h => PartAt.new h hN)) hv; rely_wp (rely_guard hF.2.2.1) (opr_cv (HH1.out ▸ Holds_cv hX _ _ ps ws 2 (recC (ansC kf ps ws 2 0 exC true) 2) wx ((NewT.of (HM.out.out.trans (hT.below.mono (by have h_0 := HGK.out; have h_1 := HLO.out; have h_2 := HGgc.out; have h_3 := HGga.out; have h_4 := HGgb.out; have h_5 := HGgz.out; omega)))).tables HTT.out) (⟨pv, wv, rfl, (NewT.of (HM.out.out.trans (hT.below.mono (by have h_0 := HGK.out; have h_1 := HLO.out; have h_2 := HGgc.out; have h_3 := HGga.out; have h_4 := HGgb.out; have h_5 := HGgz.out; omega)))).hs HP.out, (NewT.of (HM.out.out.trans (hT.below.mono (by have h_0 := HGK.out; have h_1 := HLO.out; have h_2 := HGgc.out; have h_3 := HGga.out; have h_4 := HGgb.out; have h_5 := HGgz.out; omega)))).hs HW.out⟩ : KeysV wx (.agg (rowA 3 (keyF pv wv 2))) ps ws 2) hF.2.1) rfl Tryd.func22 (by kernel_rfl) (by kernel_rfl) (evs2 hF.1 rfl) hK)
        · exact fun a wx li hT hF hJ hx K hK => have hK := fun v w' (hN : NewT wx w') hv => hK v w' (PW.new hT hN HSZ.out) (JL.new hJ (by decide) (by simp) hN (fun h => PartAt.new h hN) (fun h => PartAt.new h hN)) hv; rely_wp rfl (opr_pick_true rfl hF.1 (hK _ _ (NewT.refl _) hF.2.1))
        · exact fun a wx li hT hF hJ hx K hK => have hK := fun v w' (hN : NewT wx w') hv => hK v w' (PW.new hT hN HSZ.out) (JL.new hJ (by decide) (by simp) hN (fun h => PartAt.new h hN) (fun h => PartAt.new h hN)) hv; rely_wp rfl (opr_move (.inl rfl) (hK _ _ (NewT.refl _) hF.1))
        · exact fun a wx li hT hF hJ hx K hK => have hK := fun v w' (hN : NewT wx w') hv => hK v w' (PW.new hT hN HSZ.out) (JL.new hJ (by decide) (by simp) hN (fun h => PartAt.new h hN) (fun h => PartAt.new h hN)) hv; rely_wp (rely_guard hF.2.1) (opr_move (.inl rfl) (hK _ _ (NewT.refl _) hF.1))
        · intro a wx li hT hF hJ hx K hK
          obtain ⟨f65, f64, _⟩ := hF
          have f65 : a.tmps.getD 65 undef = .pointer (some ⟨gp, 0, none⟩) := f65
          have f64 : a.tmps.getD 64 undef = .bool true := f64
          refine rely_wp (rely_guard f64) ?_
          refine opr_call rfl Tryd.func14 (by kernel_rfl) (by kernel_rfl) (vs := #[.pointer (some ⟨gp, 0, none⟩)]) (by simp only [List.map_toArray, List.map_cons, List.map_nil, eval_tmp, f65]) ((Rotate_c wx (by decide) (hJ.pre hx.no)).mono ?_)
          rintro ex w4 ⟨rfl, hP4, hA4⟩
          exact ⟨_, rfl, hK _ _ (hT.pt hP4) (JL.call hJ hx (by decide) (by simp) hA4 (fun b F hb hr => hP4.row hr (.inr (Nat.le_trans HPW.out hb)))) rfl⟩
        · exact fun a wx li hT hF hJ hx K hK => have hK := fun v w' (hN : NewT wx w') hv => hK v w' (PW.new hT hN HSZ.out) (JL.new hJ (by decide) (by simp) hN (fun h => PartAt.new h hN) (fun h => PartAt.new h hN)) hv; rely_wp rfl (opr_pick_true rfl hF.1 (hK _ _ (NewT.refl _) hF.2.1))
        · exact fun a wx li hT hF hJ hx K hK => have hK := fun v w' (hN : NewT wx w') hv => hK v w' (PW.new hT hN HSZ.out) (JL.new hJ (by decide) (by simp) hN (fun h => PartAt.new h hN) (fun h => PartAt.new h hN)) hv; rely_wp rfl (opr_move (.inl rfl) (hK _ _ (NewT.refl _) hF.1))
        · exact fun a wx li hT hF hJ hx K hK => have hK := fun v w' (hN : NewT wx w') hv => hK v w' (PW.new hT hN HSZ.out) (JL.new hJ (by decide) (by simp) hN (fun h => PartAt.new h hN) (fun h => PartAt.new h hN)) hv; rely_wp (rely_guard hF.2.1) (opr_move (.inl rfl) (hK _ _ (NewT.refl _) hF.1))
        · exact fun a wx li hT hF hJ hx K hK => have hK := fun v w' (hN : NewT wx w') hv => hK v w' (PW.new hT hN HSZ.out) (JL.new hJ (by decide) (by simp) hN (fun h => PartAt.new h hN) (fun h => PartAt.new h hN)) hv; rely_wp (rely_guard hF.2.1) (opr_cv (Epoch_a wx (hJ.post (hx.closed 35 34 (by kernel_rfl) (hx.closed 36 35 (by kernel_rfl) (hx.waits 36 (by kernel_rfl)))))) rfl Tryd.func15 (by kernel_rfl) (by kernel_rfl) (evs1 hF.1) hK)
        · exact fun a wx li hT hF hJ hx K hK => have hK := fun v w' (hN : NewT wx w') hv => hK v w' (PW.new hT hN HSZ.out) (JL.new hJ (by decide) (by simp) hN (fun h => PartAt.new h hN) (fun h => PartAt.new h hN)) hv; rely_wp (rely_guard hF.2.1) (opr_cmp (b := true) (.inl ⟨rfl, (by rfl)⟩) Tryd.underlying3 rfl hF.1 rfl (hK _ _ (NewT.refl _) rfl))
        · exact fun a wx li hT hF hJ hx K hK => have hK := fun v w' (hN : NewT wx w') hv => hK v w' (PW.new hT hN HSZ.out) (JL.new hJ (by decide) (by simp) hN (fun h => PartAt.new h hN) (fun h => PartAt.new h hN)) hv; rely_wp rfl (opr_pick_true rfl hF.1 (hK _ _ (NewT.refl _) hF.2.1))
        · exact fun a wx li hT hF hJ hx K hK => have hK := fun v w' (hN : NewT wx w') hv => hK v w' (PW.new hT hN HSZ.out) (JL.new hJ (by decide) (by simp) hN (fun h => PartAt.new h hN) (fun h => PartAt.new h hN)) hv; rely_wp rfl (opr_move (.inl rfl) (hK _ _ (NewT.refl _) hF.1))
        · exact fun a wx li hT hF hJ hx K hK => have hK := fun v w' (hN : NewT wx w') hv => hK v w' (PW.new hT hN HSZ.out) (JL.new hJ (by decide) (by simp) hN (fun h => PartAt.new h hN) (fun h => PartAt.new h hN)) hv; rely_wp (rely_guard hF.2.1) (opr_ldY (hT.row Rgk.out (by have h_0 := HGK.out; have h_1 := HLO.out; have h_2 := HGgc.out; have h_3 := HGga.out; have h_4 := HGgb.out; have h_5 := HGgz.out; omega)) rfl hF.1 (hK _ _ (NewT.refl _) rfl))
        · exact fun a wx li hT hF hJ hx K hK => have hK := fun v w' (hN : NewT wx w') hv => hK v w' (PW.new hT hN HSZ.out) (JL.new hJ (by decide) (by simp) hN (fun h => PartAt.new h hN) (fun h => PartAt.new h hN)) hv; rely_wp (rely_guard hF.2.1) (opr_cv (New_no _ ps ws 2 2 wx (⟨pv, wv, rfl, (NewT.of (HM.out.out.trans (hT.below.mono (by have h_0 := HGK.out; have h_1 := HLO.out; have h_2 := HGgc.out; have h_3 := HGga.out; have h_4 := HGgb.out; have h_5 := HGgz.out; omega)))).hs HP.out, (NewT.of (HM.out.out.trans (hT.below.mono (by have h_0 := HGK.out; have h_1 := HLO.out; have h_2 := HGgc.out; have h_3 := HGga.out; have h_4 := HGgb.out; have h_5 := HGgz.out; omega)))).hs HW.out⟩ : KeysV wx (.agg (rowA 3 (keyF pv wv 2))) ps ws 2) HK2.out) rfl Tryd.func11 (by kernel_rfl) (by kernel_rfl) (evs2 hF.1 rfl) hK)
        · exact fun a wx li hT hF hJ hx K hK => have hK := fun v w' (hN : NewT wx w') hv => hK v w' (PW.new hT hN HSZ.out) (JL.new hJ (by decide) (by simp) hN (fun h => PartAt.new h hN) (fun h => PartAt.new h hN)) hv; rely_wp (rely_guard hF.2.1) (opr_eqPz rfl hF.1 (hK _ _ (NewT.refl _) rfl))
        · exact fun a wx li hT hF hJ hx K hK => have hK := fun v w' (hN : NewT wx w') hv => hK v w' (PW.new hT hN HSZ.out) (JL.new hJ (by decide) (by simp) hN (fun h => PartAt.new h hN) (fun h => PartAt.new h hN)) hv; rely_wp rfl (opr_pick_true rfl hF.1 (hK _ _ (NewT.refl _) hF.2.1))
        · intro w30 k30
          iterate 22 (intro u h; obtain rfl := Eq.symm (h (by simp)); clear h)
          intro _ _
          iterate 6 (intro u h; obtain rfl := Eq.symm (h (by simp)); clear h)
          intro _ _
          iterate 16 (intro u h; obtain rfl := Eq.symm (h (by simp)); clear h)
          refine relyEnd_nil rfl ?_
          intro hJ
          simp only [Act.put, List.setIfInBounds_toArray, List.set_cons_zero, List.set_cons_succ]
          refine opr_move (.inr rfl) ?_
          go_simp
          have hNN : NewT w w30 := NewT.trans _ _ _ HBW.out (NewT.of (HM.out.out.trans (k30.below.mono (by have h_0 := HGK.out; have h_1 := HLO.out; have h_2 := HGgc.out; have h_3 := HGga.out; have h_4 := HGgb.out; have h_5 := HGgz.out; omega))))
          clear hJ
          go_wp2
          go_ret
          exact ⟨_, rfl, hNN, rfl⟩
theorem alive13_cv (w : World) (hT : Tables w) : Cv 9 #[] w (.eq (.bool true)) := by
  obtain ⟨kf, tg, pf, hX⟩ := keyH_ex
  exact alive13_any hX w hT
end Go.Proofs.YtchpmdcacpjojaaDoor
/- The reference's participant: where it lies; appending to a list of its own in a region that draws its order. -/
namespace Go.Proofs.YtchpmdcacpjojaaDoor
open Go Go.RowKit
set_option maxRecDepth 8000
set_option linter.all false
/-- The cells of the reference's participant. -/
def rpF (pv wv : Value) (need n e : Int) (sv : Value) (i : Nat) : Value := if i = 0 then pv else if i = 1 then wv else if i = 2 then .int .i64 need else if i = 3 then .int .i64 n else if i = 4 then .int .i64 e else sv
theorem rpF_e (pv wv : Value) (need n e z : Int) (sv : Value) (i : Nat) : rpF pv wv need n z sv i = if i = 4 then .int .i64 z else rpF pv wv need n e sv i := by
  unfold rpF
  by_cases h : i = 4
  · subst h; rfl
  · simp only [h, if_false]
theorem rpF_l (pv wv : Value) (need n e : Int) (sv su : Value) (i : Nat) (hi : i < 6) : rpF pv wv need n e su i = if i = 5 then su else rpF pv wv need n e sv i := by
  unfold rpF
  by_cases h : i = 5
  · subst h; rfl
  · rw [if_neg h]
    repeat' split
    all_goals first | rfl | omega
section
variable {w w' : World} {hi r b m : Nat} {n e : Int} {pv wv : Value} {need : Int} {L : List En} {t : TypeId} {F : Nat → Value}
/-- The reference's participant at block r; its entries in a row of its own, from block hi on. -/
def RefAt (w : World) (hi r : Nat) (n e : Int) (pv wv : Value) (need : Int) (L : List En) : Prop :=
  ∃ sv, w.rowIs r 42 6 (rpF pv wv need n e sv) ∧ OwnE 56 4 w hi sv (L.map eyF) ∧ hi ≤ r
theorem RefAt.lt (h : RefAt w hi r n e pv wv need L) : hi ≤ r ∧ r < r + 1 ∧ r + 1 ≤ w.heap.size := by
  obtain ⟨sv, h1, h2, h3⟩ := h; exact ⟨h3, Nat.lt_succ_self r, h1.lt⟩
theorem RefAt.new (h : RefAt w hi r n e pv wv need L) (hN : NewT w w') : RefAt w' hi r n e pv wv need L := by
  obtain ⟨sv, h1, h2, h3⟩ := h; exact ⟨sv, hN.row h1, h2.new hN, h3⟩
theorem RefAt.pt {lo : Nat} (h : RefAt w hi r n e pv wv need L) (hP : PT lo hi w w') : RefAt w' hi r n e pv wv need L := by
  obtain ⟨sv, h1, h2, h3⟩ := h
  exact ⟨sv, row_of (hP.high r h1.lt h3) h1, h2.keep fun k hk => hP.high k (h2.lt k hk).2 (h2.lt k hk).1, h3⟩
theorem OwnE.rt {eT : TypeId} {k : Nat} {v : Value} {l : List (Nat → Value)} (h : OwnE eT k w hi v l) (hR : RT b w w') (hr : w.rowIs b t m F) (ht : t ≠ eT) : OwnE eT k w' hi v l := by
  refine h.keep fun j hj => ?_
  have hh := h.2
  rcases hh with ⟨rfl, _⟩ | ⟨g, cap, cur, rfl, _, hg, _⟩
  · cases hj
  · simp only [Value.ownBlock, Option.some.injEq] at hj
    subst hj
    refine (hR.keep.2 g _ ?_ hg rfl).trans hg.symm
    simp only [List.mem_singleton]
    intro e
    subst e
    obtain ⟨c, hc, _⟩ := hr
    rw [hc] at hg
    cases hg
    exact ht rfl
theorem RefAt.rt (h : RefAt w hi r n e pv wv need L) (hR : RT b w w') (hr : w.rowIs b t m F) (ht : t ≠ 56) (hb : r ≠ b) : RefAt w' hi r n e pv wv need L := by
  obtain ⟨sv, h1, h2, h3⟩ := h
  exact ⟨sv, hR.row hb h1, h2.rt hR hr ht, h3⟩
theorem own_ents {v : Value} (h : OwnE 56 4 w hi v (L.map eyF)) : RdL 4 eyE w v L :=
  ⟨L.map eyF, h.rd, by simp, fun i p hp => ⟨eyF p, by simp [hp], rfl⟩⟩
theorem one_ents (L : List En) : OneE 4 (L.map eyF) := fun f hf j _ => by
  obtain ⟨x, _, rfl⟩ := List.mem_map.1 hf
  exact eyF_one x j
theorem PT.nw {lo hi : Nat} {w w1 w2 : World} (h : PT lo hi w w1) (hN : NewT w1 w2) (hl : lo ≤ w.heap.size) : PT lo hi w w2 :=
  ⟨h.below.trans (hN.out.mono (Nat.le_trans hl h.below.size)), fun k h1 h2 => (hN.out.block k (Nat.lt_of_lt_of_le h1 h.below.size)).trans (h.high k h1 h2)⟩
theorem PT.wn {lo hi : Nat} {w w1 w2 : World} (hN : NewT w w1) (h : PT lo hi w1 w2) (hl : lo ≤ w.heap.size) : PT lo hi w w2 :=
  ⟨(hN.out.mono hl).trans h.below, fun k h1 h2 => (h.high k (Nat.lt_of_lt_of_le h1 hN.out.size) h2).trans (hN.out.block k h1)⟩
theorem PT.put {w w1 w2 : World} {r : Nat} (h : NewT w w1) (hR : RT r w1 w2) (hO : ∀ k, k ≠ r → w2.heap[k]? = w1.heap[k]?) (hr : r < w.heap.size) : PT r (r + 1) w w2 :=
  ⟨(h.out.mono (by omega)).trans hR.below, fun k h1 h2 => (hO k (by omega)).trans (h.out.block k h1)⟩
theorem RefAt.put {w w1 : World} {hi r B : Nat} {n e : Int} {pv wv su : Value} {need : Int} {L : List En} {x : En} (hrow : w1.rowIs r 42 6 (rpF pv wv need n e su)) (hO : OwnE 56 4 w B su (L.map eyF ++ [eyF x])) (hk : ∀ k, k ≠ r → w1.heap[k]? = w.heap[k]?) (hr : r < B) (hh : hi ≤ r) : RefAt w1 hi r n e pv wv need (L ++ [x]) :=
  ⟨su, hrow, by rw [List.map_append]; exact (hO.keep fun k h => hk k (by have := (hO.lt k h).1; omega)).mono (by omega), hh⟩
theorem run_bld_ey3 (a b : Int) (d : Bool) (w : World) : (Instr.build 56 #[(0, .int .i64 a), (1, .int .i64 b), (3, .bool d)]).run Tryd.prog w = .ok (.agg (rowA 4 (eyF ⟨a, b, false, d⟩))) w := by kernel_rfl
/-- The keys of the reference's participant, loaded. -/
theorem opr_ldKr {a : Act} {w : World} {o : Oper} {K : Act → World → Prop} {Q : Exit → Act → World → Prop} {x : Operand} {g : Nat} {nn need e : Int} {pv wv sv : Value} (hr : w.rowIs g 42 6 (rpF pv wv need nn e sv)) (ho : o.op = .load 24 x) (hx : a.eval x = .pointer (some ⟨g, 0, none⟩)) (h : K (a.put o.dst (.agg (rowA 3 (keyF pv wv need)))) w) : o.wp Tryd.prog a w K Q := by
  refine opr_ldm Tryd.underlying24 rfl info_ky ho hx hr (by omega) ?_
  rw [show rowA 3 (fun j => rpF pv wv need nn e sv (0 + j)) = rowA 3 (keyF pv wv need) from rowA_congr fun j hj => by
    rcases (show j = 0 ∨ j = 1 ∨ j = 2 by omega) with rfl | rfl | rfl <;> rfl]
  exact h
end
/-- A list of its own that is made, appended to (i1), and, beside a slice of one (ib), appended to once more (i2). -/
structure JA (ie i1 ib i2 te t1 tb t2 : Nat) (W : World) (fs : List (Nat → Value)) (d : Nat → Value) (li : Array Bool) (a : Act) (w : World) : Prop where
  sz : te < a.tmps.size ∧ t1 < a.tmps.size ∧ tb < a.tmps.size ∧ t2 < a.tmps.size
  e0 : li.getD i1 false = false → li.getD ie false = true → OwnE 56 4 w W.heap.size (a.tmps.getD te undef) []
  e1 : li.getD i2 false = false → li.getD i1 false = true → OwnE 56 4 w W.heap.size (a.tmps.getD t1 undef) fs
  eb : li.getD i2 false = false → li.getD ib false = true → ∃ b, a.tmps.getD tb undef = .slice (some ⟨b, 0, none⟩) 1 1 ∧ w.rowIs b 56 4 d ∧ (li.getD i1 false = false → li.getD ie false = true → (a.tmps.getD te undef).ownBlock ≠ some b)
  e2 : li.getD i2 false = true → OwnE 56 4 w W.heap.size (a.tmps.getD t2 undef) (fs ++ [d])
section
variable {ie i1 ib i2 te t1 tb t2 : Nat} {W : World} {fs : List (Nat → Value)} {d : Nat → Value} {li : Array Bool} {a : Act} {w w' : World} {v : Value}
theorem JA.start (hs : te < a.tmps.size ∧ t1 < a.tmps.size ∧ tb < a.tmps.size ∧ t2 < a.tmps.size) (m : Nat) : JA ie i1 ib i2 te t1 tb t2 W fs d (Array.replicate m false) a w :=
  ⟨hs, fun _ h => (by rw [getD_replicate_false] at h; cases h), fun _ h => (by rw [getD_replicate_false] at h; cases h), fun _ h => (by rw [getD_replicate_false] at h; cases h), fun h => (by rw [getD_replicate_false] at h; cases h)⟩
theorem put_size (a : Act) (o : Option Tmp) (v : Value) : (a.put o v).tmps.size = a.tmps.size := by
  cases o <;> simp [Act.put]
theorem put_at {a : Act} {p : Nat} (v : Value) (h : p < a.tmps.size) : (a.put (some p) v).tmps.getD p undef = v := by simp [Act.put, h]
theorem JA.other {o : Option Tmp} (h : JA ie i1 ib i2 te t1 tb t2 W fs d li a w) {m : Nat} (hm : m ≠ ie ∧ m ≠ i1 ∧ m ≠ ib ∧ m ≠ i2) (ho : o ≠ some te ∧ o ≠ some t1 ∧ o ≠ some tb ∧ o ≠ some t2) (hN : NewT w w') : JA ie i1 ib i2 te t1 tb t2 W fs d (li.setIfInBounds m true) (a.put o v) w' := by
  obtain ⟨h1, h2, h3, h4⟩ := hm
  obtain ⟨o1, o2, o3, o4⟩ := ho
  refine ⟨by rw [put_size]; exact h.sz, ?_, ?_, ?_, ?_⟩
  · rw [gset _ h1, gset _ h2, put_ne o1]; exact fun k1 k2 => (h.e0 k1 k2).new hN
  · rw [gset _ h2, gset _ h4, put_ne o2]; exact fun k1 k2 => (h.e1 k1 k2).new hN
  · rw [gset _ h1, gset _ h2, gset _ h3, gset _ h4, put_ne o1, put_ne o3]
    exact fun k1 k2 => let ⟨b, e1, e2, e3⟩ := h.eb k1 k2; ⟨b, e1, hN.row e2, e3⟩
  · rw [gset _ h4, put_ne o4]; exact fun k1 => (h.e2 k1).new hN
theorem JA.made {ops : Array Oper} (h : JA ie i1 ib i2 te t1 tb t2 W fs d li a w) (_hx : LNext ops ie li) (hne : (ie ≠ i1 ∧ ie ≠ ib ∧ ie ≠ i2) ∧ te ≠ t1 ∧ te ≠ tb ∧ te ≠ t2) (hW : W.heap.size ≤ w.heap.size) : JA ie i1 ib i2 te t1 tb t2 W fs d (li.setIfInBounds ie true) (a.put (some te) (.slice (some ⟨w.heap.size, 0, none⟩) 0 0)) (w.alloc (.cells #[] 56)) := by
  obtain ⟨⟨h1, h2, h3⟩, p1, p2, p3⟩ := hne
  have hN := NewT.alloc w (.cells #[] 56)
  refine ⟨by rw [put_size]; exact h.sz, ?_, ?_, ?_, ?_⟩
  · rw [put_at _ h.sz.1]
    exact fun _ _ => ⟨rfl, .inr ⟨w.heap.size, 0, #[], rfl, hW, World.alloc_heap_new _ _, Nat.le_refl _, by unfold maxLen; omega, rfl, rfl⟩⟩
  · rw [gset _ h1, gset _ h3, put_ne (by simp [p1])]; exact fun k1 k2 => (h.e1 k1 k2).new hN
  · rw [gset _ h1, gset _ h2, gset _ h3, put_at _ h.sz.1, put_ne (by simp [p2])]
    exact fun k1 k2 => let ⟨b, e1, e2, e3⟩ := h.eb k1 k2; ⟨b, e1, hN.row e2, fun _ _ e => by have := e2.lt; simp only [Value.ownBlock, Option.some.injEq] at e; omega⟩
  · rw [gset _ h3, put_ne (by simp [p3])]; exact fun k1 => (h.e2 k1).new hN
theorem JA.one {ops : Array Oper} (h : JA ie i1 ib i2 te t1 tb t2 W fs d li a w) (_hx : LNext ops ib li) (hne : (ib ≠ ie ∧ ib ≠ i1 ∧ ib ≠ i2) ∧ tb ≠ te ∧ tb ≠ t1 ∧ tb ≠ t2) : JA ie i1 ib i2 te t1 tb t2 W fs d (li.setIfInBounds ib true) (a.put (some tb) (.slice (some ⟨w.heap.size, 0, none⟩) 1 1)) (w.alloc (.cells (rowA 4 d) 56)) := by
  obtain ⟨⟨h1, h2, h3⟩, p1, p2, p3⟩ := hne
  have hN := NewT.alloc w (.cells (rowA 4 d) 56)
  refine ⟨by rw [put_size]; exact h.sz, ?_, ?_, ?_, ?_⟩
  · rw [gset _ h1, gset _ h2, put_ne (by simp [p1])]; exact fun k1 k2 => (h.e0 k1 k2).new hN
  · rw [gset _ h2, gset _ h3, put_ne (by simp [p2])]; exact fun k1 k2 => (h.e1 k1 k2).new hN
  · rw [gset _ h1, gset _ h2, gset _ h3, put_at _ h.sz.2.2.1, put_ne (by simp [p1])]
    exact fun _ _ => ⟨_, rfl, rowIs_box w _ 4 d, fun k1 k2 e => by have := ((h.e0 k1 k2).lt _ e).2; omega⟩
  · rw [gset _ h3, put_ne (by simp [p3])]; exact fun k1 => (h.e2 k1).new hN
variable {o : Oper} {K : Act → World → Prop} {Q : Exit → Act → World → Prop} {x y : Operand}
theorem opr_jaMade {ops : Array Oper} (hT : NewT W w) (h : JA ie i1 ib i2 te t1 tb t2 W fs d li a w) (hx : LNext ops ie li) (hne : (ie ≠ i1 ∧ ie ≠ ib ∧ ie ≠ i2) ∧ te ≠ t1 ∧ te ≠ tb ∧ te ≠ t2) (ho : o.op = .buildSlice 38 0 #[]) (hd : o.dst = some te)
    (hK : ∀ v w', BelT W w w' → JA ie i1 ib i2 te t1 tb t2 W fs d (li.setIfInBounds ie true) (a.put o.dst v) w' → K (a.put o.dst v) w') : o.wp Tryd.prog a w K Q := by
  obtain ⟨dst, op, type, pos, after, guard⟩ := o
  simp only at ho hd
  subst ho hd
  exact opr_val (s := Instr.buildSlice 38 0 #[]) (by simp [execOp]) (v := .slice (some ⟨w.heap.size, 0, none⟩) 0 0) (w' := w.alloc (.cells #[] 56)) (by kernel_rfl) (hK _ _ (BelT.new hT (NewT.alloc _ _)) (h.made hx hne hT.out.size))
theorem run_bsE1 (f : Nat → Value) (w : World) : (Instr.buildSlice 38 1 #[(0, .agg (rowA 4 f))]).run Tryd.prog w = .ok (.slice (some ⟨w.heap.size, 0, none⟩) 1 1) (w.alloc (.cells (rowA 4 f) 56)) := by kernel_rfl
theorem opr_jaOne {ops : Array Oper} (hT : NewT W w) (h : JA ie i1 ib i2 te t1 tb t2 W fs d li a w) (hx : LNext ops ib li) (hne : (ib ≠ ie ∧ ib ≠ i1 ∧ ib ≠ i2) ∧ tb ≠ te ∧ tb ≠ t1 ∧ tb ≠ t2) (ho : o.op = .buildSlice 38 1 #[(0, x)]) (hv : a.eval x = .agg (rowA 4 d)) (hd : o.dst = some tb)
    (hK : ∀ v w', BelT W w w' → JA ie i1 ib i2 te t1 tb t2 W fs d (li.setIfInBounds ib true) (a.put o.dst v) w' → K (a.put o.dst v) w') : o.wp Tryd.prog a w K Q := by
  obtain ⟨dst, op, type, pos, after, guard⟩ := o
  simp only at ho hd
  subst ho hd
  exact opr_val (s := Instr.buildSlice 38 1 #[(0, a.eval x)]) (by simp [execOp]) (by rw [hv]; exact run_bsE1 d w) (hK _ _ (BelT.new hT (NewT.alloc _ _)) (h.one hx hne))
theorem grown_bel {row : Option Nat} (hT : NewT W w) (hg : World.grownBy w w' row) (hr : ∀ k, row = some k → W.heap.size ≤ k) : BelT W w w' :=
  ((Below.refl w.heap.size w).mono hT.out.size).grown hg hT.out.size hr
theorem opr_jaApp1 {ops : Array Oper} {u : Value} (hT : NewT W w) (h : JA ie i1 ib i2 te t1 tb t2 W fs d li a w) (hx : LNext ops i1 li) (hw : Region.waitsFor .any ops i1 ie = true ∧ Region.waitsFor .any ops i2 i1 = true) (hne : i1 ≠ i2 ∧ i1 ≠ ib ∧ t1 ≠ tb) (hL : RdE 4 w u fs) (h1 : OneE 4 fs) (hn : fs.length ≤ 900000)
    (ho : o.op = .call { callee := .builtin .append, args := #[x, y], argTypes := #[38, 38] }) (hxx : a.eval x = a.tmps.getD te undef) (hy : a.eval y = u) (hd : o.dst = some t1)
    (hK : ∀ v w', BelT W w w' → JA ie i1 ib i2 te t1 tb t2 W fs d (li.setIfInBounds i1 true) (a.put o.dst v) w' → K (a.put o.dst v) w') : o.wp Tryd.prog a w K Q := by
  have h0 := h.e0 hx.no (hx.waits _ hw.1)
  have h2 : li.getD i2 false = false := by
    cases hc : li.getD i2 false with
    | false => rfl
    | true => have := hx.closed i2 i1 hw.2 hc; rw [hx.no] at this; cases this
  obtain ⟨v', w', hrun, hO, hg⟩ := run_appE (P := Tryd.prog) entEl h0 hL h1 (by simp; omega) hT.out.size o.type
  rw [List.nil_append] at hO
  refine opr_append ho hxx hy hrun (hK _ _ (grown_bel hT hg fun k hk => (h0.lt k hk).1) ?_)
  rw [hd]
  obtain ⟨n1, n2, n3⟩ := hne
  refine ⟨by rw [put_size]; exact h.sz, ?_, ?_, ?_, ?_⟩
  · rw [gset_same _ hx.lt]; exact fun k => by cases k
  · rw [put_at _ h.sz.2.1]; exact fun _ _ => hO
  · rw [gset_same _ hx.lt, gset _ n1, gset _ n2, put_ne (p := tb) (by simp [n3])]
    intro k1 k2
    obtain ⟨b, e1, e2, e3⟩ := h.eb k1 k2
    exact ⟨b, e1, row_of (hg.block b e2.lt fun e => e3 hx.no (hx.waits _ hw.1) e.symm) e2, fun k => by cases k⟩
  · rw [gset _ n1, h2]; exact fun k => by cases k
theorem opr_jaApp2 {ops : Array Oper} (hT : NewT W w) (h : JA ie i1 ib i2 te t1 tb t2 W fs d li a w) (hx : LNext ops i2 li) (hw : Region.waitsFor .any ops i2 i1 = true ∧ Region.waitsFor .any ops i2 ib = true) (hne : i2 ≠ i1) (h1 : ∀ j, j < 4 → (d j).oneCell' = true) (hn : fs.length ≤ 900000)
    (ho : o.op = .call { callee := .builtin .append, args := #[x, y], argTypes := #[38, 38] }) (hxx : a.eval x = a.tmps.getD t1 undef) (hy : a.eval y = a.tmps.getD tb undef) (hd : o.dst = some t2)
    (hK : ∀ v w', BelT W w w' → JA ie i1 ib i2 te t1 tb t2 W fs d (li.setIfInBounds i2 true) (a.put o.dst v) w' → K (a.put o.dst v) w') : o.wp Tryd.prog a w K Q := by
  have h0 := h.e1 hx.no (hx.waits _ hw.1)
  obtain ⟨b, e1, e2, _⟩ := h.eb hx.no (hx.waits _ hw.2)
  have hL : RdE 4 w (a.tmps.getD tb undef) [d] := by
    rw [e1]
    refine ⟨some ⟨b, 0, none⟩, 1, rfl, by simp, by simp [maxLen], fun _ => ⟨b, 0, rfl, fun i e he j hj => ?_⟩⟩
    have hi : i < 1 := (List.getElem?_eq_some_iff.1 he).1
    obtain rfl : i = 0 := by omega
    simp at he
    subst he
    rw [show 0 + 0 * 4 + j = j by simp]
    exact e2.cell hj
  obtain ⟨v', w', hrun, hO, hg⟩ := run_appE (P := Tryd.prog) entEl h0 hL (fun f hf j hj => by simp at hf; subst hf; exact h1 j hj) (by simp; omega) hT.out.size o.type
  refine opr_append ho hxx hy hrun (hK _ _ (grown_bel hT hg fun k hk => (h0.lt k hk).1) ?_)
  rw [hd]
  refine ⟨by rw [put_size]; exact h.sz, ?_, ?_, ?_, ?_⟩
  · rw [gset _ hne, hx.waits _ hw.1]; exact fun k => by cases k
  · rw [gset_same _ hx.lt]; exact fun k => by cases k
  · rw [gset_same _ hx.lt]; exact fun k => by cases k
  · rw [put_at _ h.sz.2.2.2]; exact fun _ => hO
theorem JA.at {m : Nat} {v : Value} (h : ∃ li : Array Bool, (∀ j, j < m → li.getD j false = true) ∧ JA ie i1 ib i2 te t1 tb t2 W fs d li a w) (hm : i2 < m) (hv : a.tmps.getD t2 undef = v) : OwnE 56 4 w W.heap.size v (fs ++ [d]) := by
  obtain ⟨li, hl, hJ⟩ := h
  subst hv
  exact hJ.e2 (hl _ hm)
theorem rely_ifT {P : Program} {T T' : World → World → Prop} {g : Option (Tmp × Bool)} {E : Bool} {c : SV T'} (hg : relyGuard g a = E) (hr : T w w) (hK : ∀ v w', T w w' → (svIf E c).pred v w' → K (a.put o.dst v) w') (h : E = true → (∀ v w', T w w' → c.pred v w' → K (a.put o.dst v) w') → o.wp P a w K Q) : if relyGuard g a then o.wp P a w K Q else K (a.put o.dst undef) w :=
  rely_on hg (fun hE => h hE fun v w' h1 h2 => hK v w' h1 fun _ => h2) fun hE => hK _ _ hr fun h1 => by rw [hE] at h1; cases h1
end
end Go.Proofs.YtchpmdcacpjojaaDoor
/- Flags that differ. -/
namespace Go.Proofs.YtchpmdcacpjojaaDoor
open Go Go.RowKit
set_option maxRecDepth 8000
set_option linter.all false
section
variable {a : Act} {w : World} {o : Oper} {K : Act → World → Prop} {Q : Exit → Act → World → Prop} {x y : Operand}
theorem opr_neqQ {p q b : Bool} {t2 : TypeId} (hb : (p != q) = b) (ho : o.op = .binOp .neq 4 x y t2) (hx : a.eval x = .bool p) (hy : a.eval y = .bool q) (h : K (a.put o.dst (.bool b)) w) : o.wp Tryd.prog a w K Q := by
  obtain ⟨dst, op', type, pos, after, guard⟩ := o
  simp only at ho
  subst ho hb
  refine opr_val (s := do eqGuard .neq 4 x y (a.eval x) (a.eval y); binOp .neq 4 (a.eval x) (a.eval y)) rfl ?_ h
  rw [hx, hy]
  cases p <;> cases q <;> simp [go_sem]
end
end Go.Proofs.YtchpmdcacpjojaaDoor
